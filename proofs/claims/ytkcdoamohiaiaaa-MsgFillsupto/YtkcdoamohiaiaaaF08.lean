import Derived.Test.YtkcdoamohiaiaaaF07
import Derived.Deep.RegionHeld3
namespace Go.Proofs.Ytkcdoamohiaiaaa
open Go.RowKit
set_option linter.unusedSimpArgs false
set_option linter.unusedVariables false

theorem Try.sizeHL (h : Hs) : (Try.prog.info? 70).map (·.size) = some (Sh.encH h).length := by rw [Sh.encH_len]; exact Try.size70
theorem enc_load (h : Hs) : (Sh.encH h).toArray = bytesA 32 h.f := Sh.encH_arr h
theorem OwnH.elem {w : World} {v : Value} {l : List Hs} (h : OwnH w v l) (i : Nat) (hi : i < l.length) : ∃ g cap, v = .slice (some ⟨g, 0, none⟩) l.length cap ∧ ∀ wx, (∀ cs, Blk w g 70 cs → Blk wx g 70 cs) → wx.rangeAt g (i * 32) (Sh.encH (l.getD i default)) := by
  rcases h.form with ⟨_, h0⟩ | ⟨g, cap, cur, rfl, h1, h2, h3⟩
  · rw [h0] at hi; exact absurd hi (Nat.not_lt_zero _)
  · refine ⟨g, cap, rfl, fun wx hx => ?_⟩
    have hr : wx.rangeAt g 0 (Sh.flatH l) := fun j u hu => by
      rw [Nat.zero_add, (hx _ h1).cell]
      rw [← h3, List.getElem?_take] at hu
      split at hu
      · rwa [Array.getElem?_toList] at hu
      · cases hu
    have := Sh.rangeAt_elem hr i hi
    rw [Nat.zero_add] at this
    rwa [show l.getD i default = l[i] by simp [List.getD_eq_getElem?_getD, hi]]
set_option maxRecDepth 8000 in
set_option maxHeartbeats 4000000 in
theorem getHashes_any (p : Nat) (s : ByteArray) (a most : Nat) (hm : most ≤ 4096) (w : World) (hI : InAt w p s a none) (hb : s.size ≤ 140737488355328) :
    Calls Try.prog 44 #[ptr p, .int .u64 (most : Int)] w (Rds p s ((hsR (lst s) most a).1, (hsR (lst s) most a).2.1) (fun v w' => OwnH w' v (hsR (lst s) most a).2.2 ∧ ∀ k, v.ownBlock = some k → w.heap.size ≤ k) w) := by
  have HI := Keep.mk hI
  have Hb := Keep.mk hb
  have Hm := Keep.mk hm
  have hrg := fst_rng ((lst s).drop a) ((lst_byts s).drop a) most (by omega)
  have hc0 : ∀ wx, InAt wx p s a none → Calls Try.prog 70 #[ptr p, .int .u64 (most : Int)] wx (RdPost p s (fstM ((lst s).drop a) most).2.2 (a + (fstM ((lst s).drop a) most).2.1.toNat) (.int .u64 (fstM ((lst s).drop a) most).1) wx) := fun wx h => inum_good p s a most wx h hb
  obtain ⟨R, hR⟩ : ∃ R, R = hsR (lst s) most a := ⟨_, rfl⟩
  rw [← hR]
  unfold hsR at hR
  generalize fstM ((lst s).drop a) most = M at *
  obtain ⟨c, n, W⟩ := M
  simp only at hR hc0 hrg ⊢
  obtain ⟨N, hN⟩ : ∃ N, N = n.toNat := ⟨_, rfl⟩
  rw [← hN] at hR hc0
  have HC := Keep.mk hc0
  have Hcr := Keep.mk hrg
  have HR1 : Keep (¬ W = 0 → R = (W, a + N, [])) := ⟨fun h => by rw [hR, if_pos h]⟩
  have HR2 : Keep (W = 0 → R = getH (lst s) c.toNat [] (a + N)) := ⟨fun h1 => by rw [hR, if_neg (by simp [h1])]⟩
  clear hI hb hR hN hrg hc0 hm
  go_enter Try.func44, Try.ntmps44
  refine wp_seq_k fun K1 hK1 => ?_
  refine wp_region_list (WL.out ?_)
  refine WL.val (by kernel_rfl) (.slice none 0 0) (by go_simp) ?_
  simp only [Act.put, List.setIfInBounds_toArray, List.set_cons_zero, List.set_cons_succ]
  refine WL.nil ?_
  refine hK1 _ _ ?_
  refine wp_seq_k fun K2 hK2 => ?_
  refine wp_region_list (WL.out ?_)
  refine WL.bs (by kernel_rfl) 28 0 _ rfl #[] (by simp) _ _ (bsHE w) ?_
  have HOa := Keep.mk (ownH_empty w)
  have Ba : Keep (Below w.heap.size w (w.alloc (.cells #[] 70))) := ⟨below_new w _⟩
  have HIa : Keep (InAt (w.alloc (.cells #[] 70)) p s a none) := ⟨HI.out.box _⟩
  generalize w.alloc (.cells #[] 70) = wa at *
  have HOna : Keep (∀ k, (Value.slice (some ⟨w.heap.size, 0, none⟩) 0 0).ownBlock = some k → w.heap.size ≤ k) := ⟨fun k hk => by simp [Value.ownBlock] at hk; omega⟩
  obtain ⟨gz, hgz⟩ : ∃ gz, gz = w.heap.size := ⟨_, rfl⟩
  have HCa := Keep.mk (HC.out wa HIa.out)
  simp only [Act.put, List.setIfInBounds_toArray, List.set_cons_zero, List.set_cons_succ]
  refine WL.val (by kernel_rfl) (.slice (some ⟨w.heap.size, 0, none⟩) 0 0) (by go_simp) ?_
  simp only [Act.put, List.setIfInBounds_toArray, List.set_cons_zero, List.set_cons_succ]
  refine WL.nil ?_
  refine hK2 _ _ ?_
  refine wp_seq_k fun K3 hK3 => ?_
  refine wp_seq_k fun K4 hK4 => ?_
  refine wp_region_list (WL.out ?_)
  refine WL.val (by kernel_rfl) (.pointer (some ⟨p, 0, none⟩)) (by go_simp) ?_
  simp only [Act.put, List.setIfInBounds_toArray, List.set_cons_zero, List.set_cons_succ]
  refine WL.val (by kernel_rfl) (.int .u64 (most : Int)) (by go_simp) ?_
  simp only [Act.put, List.setIfInBounds_toArray, List.set_cons_zero, List.set_cons_succ]
  refine WL.callF (by kernel_rfl) 70 _ _ rfl Try.in70 #[ptr p, .int .u64 (most : Int)] (by simp [Act.eval]) ?_
  refine (HCa.out).mono ?_
  rintro e w1 ⟨bad, er, rfl, h1, h2, h3⟩
  refine ⟨_, rfl, ?_⟩
  have H1 := Keep.mk h1
  have H2 : Keep (Grown w w1 fun k => k = p) := ⟨(Grown.below Ba.out).trans h2⟩
  have HO1 := Keep.mk (HOa.out.grown h2 (fun k hk e => HOa.out.ne HIa.out.blk (by decide) (e ▸ hk)))
  have H3 : Keep (ErrAs w w1 W (a + N) bad er) := ⟨by rcases h3 with h3 | ⟨h4, q, h5, h6⟩; exact .inl h3; exact .inr ⟨h4, q, Nat.le_trans Ba.out.size h5, h6⟩⟩
  clear h1 h2 h3
  simp only [Act.put, List.setIfInBounds_toArray, List.set_cons_zero, List.set_cons_succ]
  by_cases hE : W = 0
  · rcases H3.out with ⟨e1, rfl, rfl⟩ | ⟨e1, _⟩
    rotate_left
    · exact absurd hE e1
    have HR := Keep.mk (HR2.out hE)
    obtain ⟨n, hn⟩ : ∃ n : Nat, c = (n : Int) := ⟨c.toNat, by have := Hcr.out; omega⟩
    subst hn
    have Hn : Keep (n ≤ 4096) := ⟨by have := Hcr.out; have := Hm.out; omega⟩
    rw [Int.toNat_natCast] at HR
    refine WL.val (by kernel_rfl) (.int .u64 (n : Int)) (by go_simp) ?_
    simp only [Act.put, List.setIfInBounds_toArray, List.set_cons_zero, List.set_cons_succ]
    refine WL.val (by kernel_rfl) (.nilIface) (by go_simp) ?_
    simp only [Act.put, List.setIfInBounds_toArray, List.set_cons_zero, List.set_cons_succ]
    refine WL.callF (by kernel_rfl) 69 _ _ rfl Try.in69 #[.int .u64 (n : Int), .nilIface] (by simp [Act.eval]) ?_
    refine (must69_ok (.int .u64 (n : Int)) w1).mono ?_
    rintro e w0 ⟨rfl, hw0⟩
    rw [hw0]
    clear hw0 w0
    refine ⟨_, rfl, ?_⟩
    simp only [Act.put, List.setIfInBounds_toArray, List.set_cons_zero, List.set_cons_succ]
    refine WL.val (by kernel_rfl) (.int .u64 0) (by go_simp) ?_
    simp only [Act.put, List.setIfInBounds_toArray, List.set_cons_zero, List.set_cons_succ]
    refine WL.nil ?_
    refine hK4 _ _ ?_
    refine wp_block ?_
    refine wp_loop (fun ac wr => ∃ (t : Nat) (u5 u6 u7 u16 u17 u18 u19 u20 u21 u22 u23 u24 u25 u26 u27 u28 u29 u30 u31 u32 u33 u34 u35 u36 u37 u38 u39 u40 u41 u42 u43 u44 : Value), ac = { tmps := #[.pointer (some ⟨p, 0, none⟩), .int .u64 (most : Int), undef, undef, .slice none 0 0, u5, u6, u7, .slice (some ⟨w.heap.size, 0, none⟩) 0 0, .pointer (some ⟨p, 0, none⟩), .int .u64 (most : Int), .tuple #[.int .u64 (n : Int), .nilIface], .int .u64 (n : Int), .nilIface, .int .u64 (n : Int), .int .u64 (t : Int), u16, u17, u18, u19, u20, u21, u22, u23, u24, u25, u26, u27, u28, u29, u30, u31, u32, u33, u34, u35, u36, u37, u38, u39, u40, u41, u42, u43, u44, undef], defers := [] } ∧ t ≤ n ∧ ∃ l at_, getH (lst s) n [] (a + N) = getH (lst s) (n - t) l at_ ∧ InAt wr p s at_ none ∧ OwnH wr u5 l ∧ (∀ k, u5.ownBlock = some k → w.heap.size ≤ k) ∧ (Grown w wr fun k => k = p) ∧ l.length = t) (fun a _ => n - (intOf (a.tmps.getD 15 undef)).toNat) ⟨0, .slice (some ⟨w.heap.size, 0, none⟩) 0 0, undef, undef, undef, undef, undef, undef, undef, undef, undef, undef, undef, undef, undef, undef, undef, undef, undef, undef, undef, undef, undef, undef, undef, undef, undef, undef, undef, undef, undef, undef, undef, rfl, by omega, [], a + N, rfl, H1.out, HO1.out, HOna.out, H2.out, rfl⟩ ?_
    rintro ac wr ⟨t, u5, u6, u7, u16, u17, u18, u19, u20, u21, u22, u23, u24, u25, u26, u27, u28, u29, u30, u31, u32, u33, u34, u35, u36, u37, u38, u39, u40, u41, u42, u43, u44, rfl, ht, l, at_, hC, hI, hO, hOn, hG, hLn⟩
    by_cases htl : t < n
    · have htl' : (t : Int) < (n : Int) := by omega
      obtain ⟨k1, hk1⟩ : ∃ k1, n - t = k1 + 1 := ⟨n - t - 1, by omega⟩
      rw [hk1, getH] at hC
      have hk2 : k1 = n - (t + 1) := by omega
      rw [hk2] at hC
      have hwr1 : IntKind.u64.wrap ((t : Int) + 1) = (t : Int) + 1 := by rw [IntKind.wrap_u64]; have := Hn.out; omega
      obtain ⟨oa, oc, rfl⟩ := hO.sl
      obtain ⟨D, hD⟩ : ∃ D, D = (lst s).drop at_ := ⟨_, rfl⟩
      obtain ⟨W, hW⟩ : ∃ W, W = nextW D 32 := ⟨_, rfl⟩
      obtain ⟨N, hN⟩ : ∃ N, N = nextN D 32 := ⟨_, rfl⟩
      obtain ⟨hh, hhh⟩ : ∃ hh, hh = hs (D.take 32) := ⟨_, rfl⟩
      have HC0 := Keep.mk (ihash_good p s at_ wr hI Hb.out D hD W hW N hN)
      rw [← hD, ← hW, ← hN, ← hhh] at hC
      have heq : Keep (W = 0 → bytesA 32 (hrd D W) = bytesA 32 hh.f) := ⟨fun h => by rw [h, hhh]; exact hrd_hs D (by rw [← hW]; exact h) (by rw [hD]; exact (lst_byts s).drop at_)⟩
      have HN32 : Keep (W = 0 → N = 32) := ⟨fun h => by rw [hN, (nextN_0 D 32 (by rw [← hW]; exact h)).1]; rfl⟩
      have JC := Keep.mk hC
      have JI := Keep.mk hI
      have JO := Keep.mk hO
      have JOn := Keep.mk hOn
      have JG := Keep.mk hG
      have JLn := Keep.mk hLn
      clear hC hI hO hOn hG hLn hk1 hk2 hD hW hN hhh
      have hln : l.length ≤ 4096 := by have := JLn.out; have := Hn.out; omega
      refine wp_seq_k fun K5 hK5 => ?_
      refine wp_region_list (WL.out ?_)
      refine WL.val (by kernel_rfl) (.bool true) (by go_simp) ?_
      simp only [Act.put, List.setIfInBounds_toArray, List.set_cons_zero, List.set_cons_succ]
      refine WL.nil ?_
      refine hK5 _ _ ?_
      refine wp_seq_k fun K6 hK6 => ?_
      refine wp_cond_true rfl ?_
      refine wp_skip ?_
      refine hK6 _ _ ?_
      refine wp_seq_k fun K7 hK7 => ?_
      refine wp_block ?_
      refine wp_seq_k fun K8 hK8 => ?_
      refine wp_region_list (WL.out ?_)
      refine WL.val (by kernel_rfl) (.pointer (some ⟨p, 0, none⟩)) (by go_simp) ?_
      simp only [Act.put, List.setIfInBounds_toArray, List.set_cons_zero, List.set_cons_succ]
      refine WL.callF (by kernel_rfl) 34 _ _ rfl Try.in34 #[ptr p] (by simp [Act.eval]) ?_
      refine (iat_any p s at_ none wr JI.out).mono ?_
      rintro e w0 ⟨rfl, hw0⟩
      rw [hw0]
      clear hw0 w0
      refine ⟨_, rfl, ?_⟩
      simp only [Act.put, List.setIfInBounds_toArray, List.set_cons_zero, List.set_cons_succ]
      refine WL.val (by kernel_rfl) (.int .i64 (at_ : Int)) (by go_simp) ?_
      simp only [Act.put, List.setIfInBounds_toArray, List.set_cons_zero, List.set_cons_succ]
      refine WL.nil ?_
      refine hK8 _ _ ?_
      refine wp_seq_k fun K9 hK9 => ?_
      refine wp_region_list (WL.out ?_)
      refine WL.val (by kernel_rfl) (.pointer (some ⟨p, 0, none⟩)) (by go_simp) ?_
      simp only [Act.put, List.setIfInBounds_toArray, List.set_cons_zero, List.set_cons_succ]
      refine WL.callF (by kernel_rfl) 72 _ _ rfl Try.in72 #[ptr p] (by simp [Act.eval]) ?_
      refine (HC0.out).mono ?_
      rintro e w1 ⟨bad, er, rfl, h1, h2, h3⟩
      refine ⟨_, rfl, ?_⟩
      have H1 := Keep.mk h1
      have H2 := Keep.mk (JG.out.trans h2)
      have HO1 := Keep.mk (JO.out.grown h2 (fun k hk e => JO.out.ne JI.out.blk (by decide) (e ▸ hk)))
      have H3 := Keep.mk h3
      clear h1 h2 h3
      simp only [Act.put, List.setIfInBounds_toArray, List.set_cons_zero, List.set_cons_succ]
      by_cases hE : W = 0
      · rcases H3.out with ⟨e1, rfl, rfl⟩ | ⟨e1, _⟩
        rotate_left
        · exact absurd hE e1
        rw [heq.out hE]
        refine WL.val (by kernel_rfl) (.agg (bytesA 32 hh.f)) (by go_simp) ?_
        simp only [Act.put, List.setIfInBounds_toArray, List.set_cons_zero, List.set_cons_succ]
        refine WL.val (by kernel_rfl) (.nilIface) (by go_simp) ?_
        simp only [Act.put, List.setIfInBounds_toArray, List.set_cons_zero, List.set_cons_succ]
        refine WL.callF (by kernel_rfl) 71 _ _ rfl Try.in71 #[.agg (bytesA 32 hh.f), .nilIface] (by simp [Act.eval]) ?_
        refine (mustH_ok hh.f w1).mono ?_
        rintro e w2 ⟨rfl, hb2⟩
        refine ⟨_, rfl, ?_⟩
        have B2 := Keep.mk hb2
        clear hb2
        simp only [Act.put, List.setIfInBounds_toArray, List.set_cons_zero, List.set_cons_succ]
        refine WL.new (by kernel_rfl) 70 rfl _ Try.new70 ?_
        simp only [Act.put, List.setIfInBounds_toArray, List.set_cons_zero, List.set_cons_succ]
        refine WL.storeR (by kernel_rfl) 70 (.tmp 7) (.tmp 23) rfl w2.heap.size (bytesA 32 hh.f) rfl rfl 70 (bytesA 32 fun _ => 0) (Blk.new w2 70 _) (Try.size70B _) (bytesA_sizes _ _ _) (bytesA_one _ _) ?_
        have HX3 := Keep.mk ((Blk.new w2 70 (bytesA 32 fun _ => 0)).setRow (bytesA 32 hh.f))
        have B3 : Keep (Below w2.heap.size w2 ((w2.alloc (.cells (bytesA 32 fun _ => 0) 70)).setRow w2.heap.size (bytesA 32 hh.f))) := ⟨below_setRow (below_new w2 _) (Nat.le_refl _) _⟩
        generalize (w2.alloc (.cells (bytesA 32 fun _ => 0) 70)).setRow w2.heap.size (bytesA 32 hh.f) = w3 at *
        have B13 : Keep (Below w1.heap.size w1 w3) := ⟨B2.out.trans (B3.out.mono B2.out.size)⟩
        have HI3 : Keep (InAt w3 p s (at_ + N) none) := ⟨H1.out.blk.below B13.out H1.out.blk.lt, H1.out.le⟩
        have HO3 := Keep.mk (HO1.out.below B13.out)
        have HG3 : Keep (Grown w w3 fun k => k = p) := ⟨H2.out.trans (Grown.below B13.out)⟩
        have HI3b := Keep.mk HI3.out.blk
        generalize w2.heap.size = g2 at *
        simp only [Act.put]
        refine WL.nil ?_
        refine hK9 _ _ ?_
        refine wp_seq_k fun K10 hK10 => ?_
        refine wp_seq_k fun K11 hK11 => ?_
        have hD0 : Below w3.heap.size w3 w3.drew := (Below.refl _ _).drew
        by_cases ht0 : 0 < l.length
        · have ht0' : (0 : Int) < (l.length : Int) := by omega
          have hlt : l.length - 1 < l.length := by omega
          obtain ⟨gL, cL, hsl, hel⟩ := HO3.out.elem (l.length - 1) hlt
          injection hsl with hs1 hs2 hs3
          subst hs1 hs3
          obtain ⟨hp, hhp⟩ : ∃ hp, hp = l.getD (l.length - 1) default := ⟨_, rfl⟩
          rw [← hhp] at hel
          have Hcc : Keep (l.getD (l.length - 1) default = hp) := ⟨hhp.symm⟩
          have hsub : IntKind.i64.wrap ((l.length : Int) - 1) = ((l.length - 1 : Nat) : Int) := by rw [IntKind.wrap_i64]; omega
          have HS0 : Keep (∀ wx, Below w3.heap.size w3 wx → wx.rangeAt gL ((l.length - 1) * 32) (Sh.encH hp) ∧ wx.rangeAt g2 0 (bytesA 32 hh.f).toList) := ⟨fun wx hb => ⟨hel wx (fun cs h => h.below hb h.lt), blk_range (HX3.out.below hb HX3.out.lt)⟩⟩
          clear hel hhp
          by_cases hcf : 0 ≤ Sh.cf hp hh
          · have hbd : decide (0 < Sh.cf hh hp) = false := by rw [Sh.cf_swap hp hh]; simp; omega
            have JC2 := Keep.mk (JC.out.trans ((if_neg (by simp [hE])).trans (if_pos ⟨ht0, by rw [Hcc.out]; exact hcf⟩)))
            refine wp_region_held_drew (S := fun wx => wx.rangeAt gL ((l.length - 1) * 32) (Sh.encH hp) ∧ wx.rangeAt g2 0 (bytesA 32 hh.f).toList) (by kernel_rfl) (HS0.out _ hD0) (fun hHeld => ?_)
            refine wpAnyH_take (i := 0) (oi := ⟨some 24, Op.move (Operand.tmp 5), 28, _, _, none⟩) (v := .slice (some ⟨gL, 0, none⟩) l.length oc) rfl (by kernel_rfl) (by kernel_rfl) (by kernel_rfl) (fun _ _ _ h => h) (Or.inl ⟨by rfl, fun w hS => by go_simp⟩) hHeld ?_
            simp only [Act.put, List.setIfInBounds_toArray, List.set_cons_zero, List.set_cons_succ]
            refine wpAnyH_take (i := 1) (oi := ⟨some 25, Op.call { callee := Callee.builtin Builtin.len, args := #[Operand.tmp 24], argTypes := #[28] }, 3, _, _, none⟩) (v := .int .i64 (l.length : Int)) rfl (by kernel_rfl) (by kernel_rfl) (by kernel_rfl) (fun _ _ _ h => h) (Or.inl ⟨by rfl, fun w hS => by go_simp⟩) hHeld ?_
            simp only [Act.put, List.setIfInBounds_toArray, List.set_cons_zero, List.set_cons_succ]
            refine wpAnyH_take (i := 2) (oi := ⟨some 26, Op.binOp BinOp.gtr 3 (Operand.tmp 25) (Operand.const (Value.int IntKind.i64 0)) 3, 4, _, _, none⟩) (v := .bool true) rfl (by kernel_rfl) (by kernel_rfl) (by kernel_rfl) (fun _ _ _ h => h) (Or.inl ⟨by rfl, fun w hS => by go_simp⟩) hHeld ?_
            simp only [Act.put, List.setIfInBounds_toArray, List.set_cons_zero, List.set_cons_succ]
            refine wpAnyH_take (i := 3) (oi := ⟨some 27, Op.move (Operand.tmp 26), 4, _, _, none⟩) (v := .bool true) rfl (by kernel_rfl) (by kernel_rfl) (by kernel_rfl) (fun _ _ _ h => h) (Or.inl ⟨by rfl, fun w hS => by go_simp⟩) hHeld ?_
            simp only [Act.put, List.setIfInBounds_toArray, List.set_cons_zero, List.set_cons_succ]
            refine wpAnyH_take (i := 4) (oi := ⟨some 28, Op.load 70 (Operand.tmp 7), 70, _, _, some (3, true)⟩) (v := .agg (bytesA 32 hh.f).toList.toArray) rfl (by kernel_rfl) (by kernel_rfl) (by kernel_rfl) (fun _ _ _ h => h) (yieldsIf_load_mid (by rfl) 70 (Operand.tmp 7) rfl g2 0 rfl (bytesA 32 hh.f).toList _ (fun w hS => hS.2) Try.underlying70 rfl (by rw [Array.length_toList]; exact Try.size70B _)) hHeld ?_
            simp only [Act.put, List.setIfInBounds_toArray, List.set_cons_zero, List.set_cons_succ]
            refine wpAnyH_take (i := 5) (oi := ⟨some 29, Op.move (Operand.tmp 5), 28, _, _, some (3, true)⟩) (v := .slice (some ⟨gL, 0, none⟩) l.length oc) rfl (by kernel_rfl) (by kernel_rfl) (by kernel_rfl) (fun _ _ _ h => h) (Or.inl ⟨by rfl, fun w hS => by go_simp⟩) hHeld ?_
            simp only [Act.put, List.setIfInBounds_toArray, List.set_cons_zero, List.set_cons_succ]
            refine wpAnyH_take (i := 6) (oi := ⟨some 30, Op.move (Operand.tmp 5), 28, _, _, some (3, true)⟩) (v := .slice (some ⟨gL, 0, none⟩) l.length oc) rfl (by kernel_rfl) (by kernel_rfl) (by kernel_rfl) (fun _ _ _ h => h) (Or.inl ⟨by rfl, fun w hS => by go_simp⟩) hHeld ?_
            simp only [Act.put, List.setIfInBounds_toArray, List.set_cons_zero, List.set_cons_succ]
            refine wpAnyH_take (i := 7) (oi := ⟨some 31, Op.call { callee := Callee.builtin Builtin.len, args := #[Operand.tmp 30], argTypes := #[28] }, 3, _, _, some (3, true)⟩) (v := .int .i64 (l.length : Int)) rfl (by kernel_rfl) (by kernel_rfl) (by kernel_rfl) (fun _ _ _ h => h) (Or.inl ⟨by rfl, fun w hS => by go_simp⟩) hHeld ?_
            simp only [Act.put, List.setIfInBounds_toArray, List.set_cons_zero, List.set_cons_succ]
            refine wpAnyH_take (i := 8) (oi := ⟨some 32, Op.binOp BinOp.sub 3 (Operand.tmp 31) (Operand.const (Value.int IntKind.i64 1)) 3, 3, _, _, some (3, true)⟩) (v := .int .i64 ((l.length - 1 : Nat) : Int)) rfl (by kernel_rfl) (by kernel_rfl) (by kernel_rfl) (fun _ _ _ h => h) (Or.inl ⟨by rfl, fun w hS => by go_simp⟩) hHeld ?_
            simp only [Act.put, List.setIfInBounds_toArray, List.set_cons_zero, List.set_cons_succ]
            refine wpAnyH_take (i := 9) (oi := ⟨some 33, Op.indexAddr 28 (Operand.tmp 29) (Operand.tmp 32), 0, _, _, some (3, true)⟩) (v := .pointer (some ⟨gL, (l.length - 1) * 32, none⟩)) rfl (by kernel_rfl) (by kernel_rfl) (by kernel_rfl) (fun _ _ _ h => h) (Or.inl ⟨by rfl, fun w hS => by go_simp; try (intro h; omega)⟩) hHeld ?_
            simp only [Act.put, List.setIfInBounds_toArray, List.set_cons_zero, List.set_cons_succ]
            refine wpAnyH_take (i := 10) (oi := ⟨some 34, Op.load 70 (Operand.tmp 33), 70, _, _, some (3, true)⟩) (v := .agg (Sh.encH hp).toArray) rfl (by kernel_rfl) (by kernel_rfl) (by kernel_rfl) (fun _ _ _ h => h) (yieldsIf_load_mid (by rfl) 70 (Operand.tmp 33) rfl gL ((l.length - 1) * 32) rfl (Sh.encH hp) _ (fun w hS => hS.1) Try.underlying70 rfl (Try.sizeHL hp)) hHeld ?_
            simp only [Act.put, List.setIfInBounds_toArray, List.set_cons_zero, List.set_cons_succ]
            refine wpAnyH_ready (rs := [11]) (by kernel_rfl) (by simp) ?_
            refine AllReadyH.cons (o := ⟨some 35, Op.call { callee := Callee.value (Operand.func 31), args := #[Operand.tmp 28, Operand.tmp 34], argTypes := #[70, 70] }, 4, _, _, some (3, true)⟩) rfl (fun K hK => ?_) AllReadyH.nil
            rw [if_pos (by rfl)]
            refine wp_callF 31 _ _ rfl Try.in31 #[.agg (bytesA 32 hh.f), .agg (bytesA 32 hp.f)] (by simp [Act.eval, enc_load]) (fun vz wz => vz = .bool false ∧ Below w3.heap.size w3 wz) ?_ ?_
            · refine (behind_any hh hp w3.drew).mono ?_
              rintro e wz ⟨rfl, h⟩
              exact ⟨_, rfl, by rw [hbd], hD0.trans (h.mono hD0.size)⟩
            rintro vz w7 ⟨rfl, h7⟩
            have HB7 := Keep.mk h7
            clear h7
            refine hK.out _ _ (HS0.out _ HB7.out) fun hHeld2 => ?_
            clear hK
            simp only [Act.put, List.setIfInBounds_toArray, List.set_cons_zero, List.set_cons_succ]
            refine wpAnyH_take (i := 12) (oi := ⟨some 36, Op.unOp UnOp.not 4 (Operand.tmp 35), 4, _, _, some (3, true)⟩) (v := .bool true) rfl (by kernel_rfl) (by kernel_rfl) (by kernel_rfl) (fun _ _ _ h => h) (Or.inl ⟨by rfl, fun w hS => by go_simp⟩) hHeld2 ?_
            simp only [Act.put, List.setIfInBounds_toArray, List.set_cons_zero, List.set_cons_succ]
            refine wpAnyH_take (i := 13) (oi := ⟨some 37, Op.pick (Operand.tmp 27) (Operand.tmp 36) (Operand.const (Value.bool false)), 4, _, _, none⟩) (v := .bool true) rfl (by kernel_rfl) (by kernel_rfl) (by kernel_rfl) (fun _ _ _ h => h) (Or.inl ⟨by rfl, fun w hS => by go_simp⟩) hHeld2 ?_
            simp only [Act.put, List.setIfInBounds_toArray, List.set_cons_zero, List.set_cons_succ]
            refine wpAnyH_done (by kernel_rfl) ?_ _
            refine hK11 _ _ ?_
            refine wp_cond_true rfl ?_
            have HG7 : Keep (Grown w w7 fun k => k = p) := ⟨HG3.out.trans (Grown.below HB7.out)⟩
            refine wp_region_list (WL.out ?_)
            refine WL.val (by kernel_rfl) (.int .i64 (at_ : Int)) (by go_simp) ?_
            simp only [Act.put, List.setIfInBounds_toArray, List.set_cons_zero, List.set_cons_succ]
            refine WL.callP (by kernel_rfl) 37 _ _ rfl Try.in37 #[.int .i64 130, .int .i64 (at_ : Int)] (by simp [Act.eval]) ?_
            refine (at_any 130 at_ w7).mono ?_
            rintro e wz ⟨rfl, hbz, hwz⟩
            refine .inr ⟨_, rfl, ?_⟩
            try simp only [Exit.inBlock, Exit.then]
            refine ⟨rfl, ?_⟩
            exact .inr ⟨by rw [HR.out, JC2.out]; exact (by decide : (130 : Int) ≠ 0), w7.heap.size, HG7.out.size, rfl, by rw [HR.out, JC2.out]; exact hbz, HG7.out.trans (Grown.below hwz)⟩
          · have hbd : decide (0 < Sh.cf hh hp) = true := by rw [Sh.cf_swap hp hh]; simp; omega
            have JC2 := Keep.mk (JC.out.trans ((if_neg (by simp [hE])).trans (if_neg (fun h => hcf (by rw [← Hcc.out]; exact h.2)))))
            refine wp_region_held_drew (S := fun wx => wx.rangeAt gL ((l.length - 1) * 32) (Sh.encH hp) ∧ wx.rangeAt g2 0 (bytesA 32 hh.f).toList) (by kernel_rfl) (HS0.out _ hD0) (fun hHeld => ?_)
            refine wpAnyH_take (i := 0) (oi := ⟨some 24, Op.move (Operand.tmp 5), 28, _, _, none⟩) (v := .slice (some ⟨gL, 0, none⟩) l.length oc) rfl (by kernel_rfl) (by kernel_rfl) (by kernel_rfl) (fun _ _ _ h => h) (Or.inl ⟨by rfl, fun w hS => by go_simp⟩) hHeld ?_
            simp only [Act.put, List.setIfInBounds_toArray, List.set_cons_zero, List.set_cons_succ]
            refine wpAnyH_take (i := 1) (oi := ⟨some 25, Op.call { callee := Callee.builtin Builtin.len, args := #[Operand.tmp 24], argTypes := #[28] }, 3, _, _, none⟩) (v := .int .i64 (l.length : Int)) rfl (by kernel_rfl) (by kernel_rfl) (by kernel_rfl) (fun _ _ _ h => h) (Or.inl ⟨by rfl, fun w hS => by go_simp⟩) hHeld ?_
            simp only [Act.put, List.setIfInBounds_toArray, List.set_cons_zero, List.set_cons_succ]
            refine wpAnyH_take (i := 2) (oi := ⟨some 26, Op.binOp BinOp.gtr 3 (Operand.tmp 25) (Operand.const (Value.int IntKind.i64 0)) 3, 4, _, _, none⟩) (v := .bool true) rfl (by kernel_rfl) (by kernel_rfl) (by kernel_rfl) (fun _ _ _ h => h) (Or.inl ⟨by rfl, fun w hS => by go_simp⟩) hHeld ?_
            simp only [Act.put, List.setIfInBounds_toArray, List.set_cons_zero, List.set_cons_succ]
            refine wpAnyH_take (i := 3) (oi := ⟨some 27, Op.move (Operand.tmp 26), 4, _, _, none⟩) (v := .bool true) rfl (by kernel_rfl) (by kernel_rfl) (by kernel_rfl) (fun _ _ _ h => h) (Or.inl ⟨by rfl, fun w hS => by go_simp⟩) hHeld ?_
            simp only [Act.put, List.setIfInBounds_toArray, List.set_cons_zero, List.set_cons_succ]
            refine wpAnyH_take (i := 4) (oi := ⟨some 28, Op.load 70 (Operand.tmp 7), 70, _, _, some (3, true)⟩) (v := .agg (bytesA 32 hh.f).toList.toArray) rfl (by kernel_rfl) (by kernel_rfl) (by kernel_rfl) (fun _ _ _ h => h) (yieldsIf_load_mid (by rfl) 70 (Operand.tmp 7) rfl g2 0 rfl (bytesA 32 hh.f).toList _ (fun w hS => hS.2) Try.underlying70 rfl (by rw [Array.length_toList]; exact Try.size70B _)) hHeld ?_
            simp only [Act.put, List.setIfInBounds_toArray, List.set_cons_zero, List.set_cons_succ]
            refine wpAnyH_take (i := 5) (oi := ⟨some 29, Op.move (Operand.tmp 5), 28, _, _, some (3, true)⟩) (v := .slice (some ⟨gL, 0, none⟩) l.length oc) rfl (by kernel_rfl) (by kernel_rfl) (by kernel_rfl) (fun _ _ _ h => h) (Or.inl ⟨by rfl, fun w hS => by go_simp⟩) hHeld ?_
            simp only [Act.put, List.setIfInBounds_toArray, List.set_cons_zero, List.set_cons_succ]
            refine wpAnyH_take (i := 6) (oi := ⟨some 30, Op.move (Operand.tmp 5), 28, _, _, some (3, true)⟩) (v := .slice (some ⟨gL, 0, none⟩) l.length oc) rfl (by kernel_rfl) (by kernel_rfl) (by kernel_rfl) (fun _ _ _ h => h) (Or.inl ⟨by rfl, fun w hS => by go_simp⟩) hHeld ?_
            simp only [Act.put, List.setIfInBounds_toArray, List.set_cons_zero, List.set_cons_succ]
            refine wpAnyH_take (i := 7) (oi := ⟨some 31, Op.call { callee := Callee.builtin Builtin.len, args := #[Operand.tmp 30], argTypes := #[28] }, 3, _, _, some (3, true)⟩) (v := .int .i64 (l.length : Int)) rfl (by kernel_rfl) (by kernel_rfl) (by kernel_rfl) (fun _ _ _ h => h) (Or.inl ⟨by rfl, fun w hS => by go_simp⟩) hHeld ?_
            simp only [Act.put, List.setIfInBounds_toArray, List.set_cons_zero, List.set_cons_succ]
            refine wpAnyH_take (i := 8) (oi := ⟨some 32, Op.binOp BinOp.sub 3 (Operand.tmp 31) (Operand.const (Value.int IntKind.i64 1)) 3, 3, _, _, some (3, true)⟩) (v := .int .i64 ((l.length - 1 : Nat) : Int)) rfl (by kernel_rfl) (by kernel_rfl) (by kernel_rfl) (fun _ _ _ h => h) (Or.inl ⟨by rfl, fun w hS => by go_simp⟩) hHeld ?_
            simp only [Act.put, List.setIfInBounds_toArray, List.set_cons_zero, List.set_cons_succ]
            refine wpAnyH_take (i := 9) (oi := ⟨some 33, Op.indexAddr 28 (Operand.tmp 29) (Operand.tmp 32), 0, _, _, some (3, true)⟩) (v := .pointer (some ⟨gL, (l.length - 1) * 32, none⟩)) rfl (by kernel_rfl) (by kernel_rfl) (by kernel_rfl) (fun _ _ _ h => h) (Or.inl ⟨by rfl, fun w hS => by go_simp; try (intro h; omega)⟩) hHeld ?_
            simp only [Act.put, List.setIfInBounds_toArray, List.set_cons_zero, List.set_cons_succ]
            refine wpAnyH_take (i := 10) (oi := ⟨some 34, Op.load 70 (Operand.tmp 33), 70, _, _, some (3, true)⟩) (v := .agg (Sh.encH hp).toArray) rfl (by kernel_rfl) (by kernel_rfl) (by kernel_rfl) (fun _ _ _ h => h) (yieldsIf_load_mid (by rfl) 70 (Operand.tmp 33) rfl gL ((l.length - 1) * 32) rfl (Sh.encH hp) _ (fun w hS => hS.1) Try.underlying70 rfl (Try.sizeHL hp)) hHeld ?_
            simp only [Act.put, List.setIfInBounds_toArray, List.set_cons_zero, List.set_cons_succ]
            refine wpAnyH_ready (rs := [11]) (by kernel_rfl) (by simp) ?_
            refine AllReadyH.cons (o := ⟨some 35, Op.call { callee := Callee.value (Operand.func 31), args := #[Operand.tmp 28, Operand.tmp 34], argTypes := #[70, 70] }, 4, _, _, some (3, true)⟩) rfl (fun K hK => ?_) AllReadyH.nil
            rw [if_pos (by rfl)]
            refine wp_callF 31 _ _ rfl Try.in31 #[.agg (bytesA 32 hh.f), .agg (bytesA 32 hp.f)] (by simp [Act.eval, enc_load]) (fun vz wz => vz = .bool true ∧ Below w3.heap.size w3 wz) ?_ ?_
            · refine (behind_any hh hp w3.drew).mono ?_
              rintro e wz ⟨rfl, h⟩
              exact ⟨_, rfl, by rw [hbd], hD0.trans (h.mono hD0.size)⟩
            rintro vz w7 ⟨rfl, h7⟩
            have HB7 := Keep.mk h7
            clear h7
            refine hK.out _ _ (HS0.out _ HB7.out) fun hHeld2 => ?_
            clear hK
            simp only [Act.put, List.setIfInBounds_toArray, List.set_cons_zero, List.set_cons_succ]
            refine wpAnyH_take (i := 12) (oi := ⟨some 36, Op.unOp UnOp.not 4 (Operand.tmp 35), 4, _, _, some (3, true)⟩) (v := .bool false) rfl (by kernel_rfl) (by kernel_rfl) (by kernel_rfl) (fun _ _ _ h => h) (Or.inl ⟨by rfl, fun w hS => by go_simp⟩) hHeld2 ?_
            simp only [Act.put, List.setIfInBounds_toArray, List.set_cons_zero, List.set_cons_succ]
            refine wpAnyH_take (i := 13) (oi := ⟨some 37, Op.pick (Operand.tmp 27) (Operand.tmp 36) (Operand.const (Value.bool false)), 4, _, _, none⟩) (v := .bool false) rfl (by kernel_rfl) (by kernel_rfl) (by kernel_rfl) (fun _ _ _ h => h) (Or.inl ⟨by rfl, fun w hS => by go_simp⟩) hHeld2 ?_
            simp only [Act.put, List.setIfInBounds_toArray, List.set_cons_zero, List.set_cons_succ]
            refine wpAnyH_done (by kernel_rfl) ?_ _
            refine hK11 _ _ ?_
            refine wp_cond_false rfl ?_
            refine wp_skip ?_
            refine hK10 _ _ ?_
            refine wp_region_list (WL.out ?_)
            refine WL.val (by kernel_rfl) (.slice (some ⟨gL, 0, none⟩) l.length oc) (by go_simp) ?_
            simp only [Act.put, List.setIfInBounds_toArray, List.set_cons_zero, List.set_cons_succ]
            refine WL.row (by kernel_rfl) 70 (.tmp 7) rfl g2 rfl 70 (bytesA 32 hh.f) _ (HX3.out.below HB7.out HX3.out.lt) Try.underlying70 rfl (Try.size70B _) ?_
            simp only [Act.put, List.setIfInBounds_toArray, List.set_cons_zero, List.set_cons_succ]
            refine WL.bs (by kernel_rfl) 28 1 _ rfl #[(0, .agg (bytesA 32 hh.f))] (by simp [Act.eval]) _ _ (bsH hh w7) ?_
            have HB8 := Keep.mk (Blk.new w7 70 (bytesA 32 hh.f))
            have B8 : Keep (Below w3.heap.size w3 (w7.alloc (.cells (bytesA 32 hh.f) 70))) := ⟨HB7.out.trans ((below_new w7 _).mono HB7.out.size)⟩
            generalize w7.alloc (.cells (bytesA 32 hh.f) 70) = w8 at *
            simp only [Act.put, List.setIfInBounds_toArray, List.set_cons_zero, List.set_cons_succ]
            refine WL.appH (by kernel_rfl) (.tmp 40) (.tmp 42) rfl (.slice (some ⟨gL, 0, none⟩) l.length oc) l w7.heap.size hh rfl rfl (HO3.out.below B8.out) HB8.out (by omega) ?_
            intro v4 w4 h1 h2 h3
            have HO4 := Keep.mk h1
            have Hg4 : Keep (Grown w w4 fun k => k = p) := ⟨(HG3.out.trans (Grown.below B8.out)).next h2 (fun k hk e => absurd (JOn.out k e) (by omega))⟩
            have HI4 : Keep (InAt w4 p s (at_ + N) none) := ⟨h2.blk (HI3.out.blk.below B8.out HI3.out.blk.lt) (fun e => (HO3.out.below B8.out).ne (HI3.out.blk.below B8.out HI3.out.blk.lt) (by decide) e), HI3.out.le⟩
            have HOn4 : Keep (∀ k, v4.ownBlock = some k → w.heap.size ≤ k) := ⟨fun k hk => by
              rcases h3 with e | ⟨j, e, hj⟩
              · rw [e] at hk; exact JOn.out k hk
              · rw [e] at hk; injection hk with hk; have := HG3.out.size; have := B8.out.size; omega⟩
            clear h1 h2 h3
            simp only [Act.put, List.setIfInBounds_toArray, List.set_cons_zero, List.set_cons_succ]
            refine WL.val (by kernel_rfl) (v4) (by go_simp) ?_
            simp only [Act.put, List.setIfInBounds_toArray, List.set_cons_zero, List.set_cons_succ]
            refine WL.nil ?_
            refine hK7 _ _ ?_
            refine wp_region_list (WL.out ?_)
            refine WL.val (by kernel_rfl) (.int .u64 ((t : Int) + 1)) (by go_simp) ?_
            simp only [Act.put, List.setIfInBounds_toArray, List.set_cons_zero, List.set_cons_succ]
            refine WL.val (by kernel_rfl) (.int .u64 ((t : Int) + 1)) (by go_simp) ?_
            simp only [Act.put, List.setIfInBounds_toArray, List.set_cons_zero, List.set_cons_succ]
            refine WL.nil ?_
            rw [HN32.out hE] at HI4
            refine ⟨⟨t + 1, v4, .int .i64 (at_ : Int), .pointer (some ⟨g2, 0, none⟩), .bool true, .pointer (some ⟨p, 0, none⟩), .int .i64 (at_ : Int), .pointer (some ⟨p, 0, none⟩), .tuple #[.agg (bytesA 32 hh.f), .nilIface], .agg (bytesA 32 hh.f), .nilIface, .agg (bytesA 32 hh.f), .slice (some ⟨gL, 0, none⟩) l.length oc, .int .i64 (l.length : Int), .bool true, .bool true, .agg (bytesA 32 hh.f).toList.toArray, .slice (some ⟨gL, 0, none⟩) l.length oc, .slice (some ⟨gL, 0, none⟩) l.length oc, .int .i64 (l.length : Int), .int .i64 ((l.length - 1 : Nat) : Int), .pointer (some ⟨gL, (l.length - 1) * 32, none⟩), .agg (Sh.encH hp).toArray, .bool true, .bool false, .bool false, u38, u39, .slice (some ⟨gL, 0, none⟩) l.length oc, .agg (bytesA 32 hh.f), .slice (some ⟨w7.heap.size, 0, none⟩) 1 1, v4, .int .u64 ((t : Int) + 1), rfl, by omega, l ++ [hh], at_ + 32, JC2.out, HI4.out, HO4.out, HOn4.out, Hg4.out, by rw [List.length_append]; simp [JLn.out]⟩, ?_⟩
            simp only [intOf]; show n - ((t : Int) + 1).toNat < n - ((t : Int)).toNat; omega
        · have ht0' : ¬ (0 : Int) < (l.length : Int) := by omega
          have HB7 : Keep (Below w3.heap.size w3 w3.drew) := ⟨hD0⟩
          have JC2 := Keep.mk (JC.out.trans ((if_neg (by simp [hE])).trans (if_neg (fun h => ht0 h.1))))
          refine wp_region_held_drew (S := fun _ => True) (by kernel_rfl) (trivial) (fun hHeld => ?_)
          refine wpAnyH_take (i := 0) (oi := ⟨some 24, Op.move (Operand.tmp 5), 28, _, _, none⟩) (v := .slice oa l.length oc) rfl (by kernel_rfl) (by kernel_rfl) (by kernel_rfl) (fun _ _ _ h => h) (Or.inl ⟨by rfl, fun w hS => by go_simp⟩) hHeld ?_
          simp only [Act.put, List.setIfInBounds_toArray, List.set_cons_zero, List.set_cons_succ]
          refine wpAnyH_take (i := 1) (oi := ⟨some 25, Op.call { callee := Callee.builtin Builtin.len, args := #[Operand.tmp 24], argTypes := #[28] }, 3, _, _, none⟩) (v := .int .i64 (l.length : Int)) rfl (by kernel_rfl) (by kernel_rfl) (by kernel_rfl) (fun _ _ _ h => h) (Or.inl ⟨by rfl, fun w hS => by go_simp⟩) hHeld ?_
          simp only [Act.put, List.setIfInBounds_toArray, List.set_cons_zero, List.set_cons_succ]
          refine wpAnyH_take (i := 2) (oi := ⟨some 26, Op.binOp BinOp.gtr 3 (Operand.tmp 25) (Operand.const (Value.int IntKind.i64 0)) 3, 4, _, _, none⟩) (v := .bool false) rfl (by kernel_rfl) (by kernel_rfl) (by kernel_rfl) (fun _ _ _ h => h) (Or.inl ⟨by rfl, fun w hS => by go_simp⟩) hHeld ?_
          simp only [Act.put, List.setIfInBounds_toArray, List.set_cons_zero, List.set_cons_succ]
          refine wpAnyH_take (i := 3) (oi := ⟨some 27, Op.move (Operand.tmp 26), 4, _, _, none⟩) (v := .bool false) rfl (by kernel_rfl) (by kernel_rfl) (by kernel_rfl) (fun _ _ _ h => h) (Or.inl ⟨by rfl, fun w hS => by go_simp⟩) hHeld ?_
          simp only [Act.put, List.setIfInBounds_toArray, List.set_cons_zero, List.set_cons_succ]
          refine wpAnyH_take (i := 4) (oi := ⟨some 28, Op.load 70 (Operand.tmp 7), 70, _, _, some (3, true)⟩) (v := undef) rfl (by kernel_rfl) (by kernel_rfl) (by kernel_rfl) (fun _ _ _ h => h) (Or.inr ⟨by rfl, rfl⟩) hHeld ?_
          simp only [Act.put, List.setIfInBounds_toArray, List.set_cons_zero, List.set_cons_succ]
          refine wpAnyH_take (i := 5) (oi := ⟨some 29, Op.move (Operand.tmp 5), 28, _, _, some (3, true)⟩) (v := undef) rfl (by kernel_rfl) (by kernel_rfl) (by kernel_rfl) (fun _ _ _ h => h) (Or.inr ⟨by rfl, rfl⟩) hHeld ?_
          simp only [Act.put, List.setIfInBounds_toArray, List.set_cons_zero, List.set_cons_succ]
          refine wpAnyH_take (i := 6) (oi := ⟨some 30, Op.move (Operand.tmp 5), 28, _, _, some (3, true)⟩) (v := undef) rfl (by kernel_rfl) (by kernel_rfl) (by kernel_rfl) (fun _ _ _ h => h) (Or.inr ⟨by rfl, rfl⟩) hHeld ?_
          simp only [Act.put, List.setIfInBounds_toArray, List.set_cons_zero, List.set_cons_succ]
          refine wpAnyH_take (i := 7) (oi := ⟨some 31, Op.call { callee := Callee.builtin Builtin.len, args := #[Operand.tmp 30], argTypes := #[28] }, 3, _, _, some (3, true)⟩) (v := undef) rfl (by kernel_rfl) (by kernel_rfl) (by kernel_rfl) (fun _ _ _ h => h) (Or.inr ⟨by rfl, rfl⟩) hHeld ?_
          simp only [Act.put, List.setIfInBounds_toArray, List.set_cons_zero, List.set_cons_succ]
          refine wpAnyH_take (i := 8) (oi := ⟨some 32, Op.binOp BinOp.sub 3 (Operand.tmp 31) (Operand.const (Value.int IntKind.i64 1)) 3, 3, _, _, some (3, true)⟩) (v := undef) rfl (by kernel_rfl) (by kernel_rfl) (by kernel_rfl) (fun _ _ _ h => h) (Or.inr ⟨by rfl, rfl⟩) hHeld ?_
          simp only [Act.put, List.setIfInBounds_toArray, List.set_cons_zero, List.set_cons_succ]
          refine wpAnyH_take (i := 9) (oi := ⟨some 33, Op.indexAddr 28 (Operand.tmp 29) (Operand.tmp 32), 0, _, _, some (3, true)⟩) (v := undef) rfl (by kernel_rfl) (by kernel_rfl) (by kernel_rfl) (fun _ _ _ h => h) (Or.inr ⟨by rfl, rfl⟩) hHeld ?_
          simp only [Act.put, List.setIfInBounds_toArray, List.set_cons_zero, List.set_cons_succ]
          refine wpAnyH_take (i := 10) (oi := ⟨some 34, Op.load 70 (Operand.tmp 33), 70, _, _, some (3, true)⟩) (v := undef) rfl (by kernel_rfl) (by kernel_rfl) (by kernel_rfl) (fun _ _ _ h => h) (Or.inr ⟨by rfl, rfl⟩) hHeld ?_
          simp only [Act.put, List.setIfInBounds_toArray, List.set_cons_zero, List.set_cons_succ]
          refine wpAnyH_take (i := 11) (oi := ⟨some 35, Op.call { callee := Callee.value (Operand.func 31), args := #[Operand.tmp 28, Operand.tmp 34], argTypes := #[70, 70] }, 4, _, _, some (3, true)⟩) (v := undef) rfl (by kernel_rfl) (by kernel_rfl) (by kernel_rfl) (fun _ _ _ h => h) (Or.inr ⟨by rfl, rfl⟩) hHeld ?_
          simp only [Act.put, List.setIfInBounds_toArray, List.set_cons_zero, List.set_cons_succ]
          refine wpAnyH_take (i := 12) (oi := ⟨some 36, Op.unOp UnOp.not 4 (Operand.tmp 35), 4, _, _, some (3, true)⟩) (v := undef) rfl (by kernel_rfl) (by kernel_rfl) (by kernel_rfl) (fun _ _ _ h => h) (Or.inr ⟨by rfl, rfl⟩) hHeld ?_
          simp only [Act.put, List.setIfInBounds_toArray, List.set_cons_zero, List.set_cons_succ]
          refine wpAnyH_take (i := 13) (oi := ⟨some 37, Op.pick (Operand.tmp 27) (Operand.tmp 36) (Operand.const (Value.bool false)), 4, _, _, none⟩) (v := .bool false) rfl (by kernel_rfl) (by kernel_rfl) (by kernel_rfl) (fun _ _ _ h => h) (Or.inl ⟨by rfl, fun w hS => by go_simp⟩) hHeld ?_
          simp only [Act.put, List.setIfInBounds_toArray, List.set_cons_zero, List.set_cons_succ]
          refine wpAnyH_done (by kernel_rfl) ?_ _
          refine hK11 _ _ ?_
          refine wp_cond_false rfl ?_
          refine wp_skip ?_
          refine hK10 _ _ ?_
          refine wp_region_list (WL.out ?_)
          refine WL.val (by kernel_rfl) (.slice oa l.length oc) (by go_simp) ?_
          simp only [Act.put, List.setIfInBounds_toArray, List.set_cons_zero, List.set_cons_succ]
          refine WL.row (by kernel_rfl) 70 (.tmp 7) rfl g2 rfl 70 (bytesA 32 hh.f) _ (HX3.out.below HB7.out HX3.out.lt) Try.underlying70 rfl (Try.size70B _) ?_
          simp only [Act.put, List.setIfInBounds_toArray, List.set_cons_zero, List.set_cons_succ]
          refine WL.bs (by kernel_rfl) 28 1 _ rfl #[(0, .agg (bytesA 32 hh.f))] (by simp [Act.eval]) _ _ (bsH hh w3.drew) ?_
          have HB8 := Keep.mk (Blk.new w3.drew 70 (bytesA 32 hh.f))
          have B8 : Keep (Below w3.heap.size w3 (w3.drew.alloc (.cells (bytesA 32 hh.f) 70))) := ⟨HB7.out.trans ((below_new w3.drew _).mono HB7.out.size)⟩
          generalize w3.drew.alloc (.cells (bytesA 32 hh.f) 70) = w8 at *
          simp only [Act.put, List.setIfInBounds_toArray, List.set_cons_zero, List.set_cons_succ]
          refine WL.appH (by kernel_rfl) (.tmp 40) (.tmp 42) rfl (.slice oa l.length oc) l w3.drew.heap.size hh rfl rfl (HO3.out.below B8.out) HB8.out (by omega) ?_
          intro v4 w4 h1 h2 h3
          have HO4 := Keep.mk h1
          have Hg4 : Keep (Grown w w4 fun k => k = p) := ⟨(HG3.out.trans (Grown.below B8.out)).next h2 (fun k hk e => absurd (JOn.out k e) (by omega))⟩
          have HI4 : Keep (InAt w4 p s (at_ + N) none) := ⟨h2.blk (HI3.out.blk.below B8.out HI3.out.blk.lt) (fun e => (HO3.out.below B8.out).ne (HI3.out.blk.below B8.out HI3.out.blk.lt) (by decide) e), HI3.out.le⟩
          have HOn4 : Keep (∀ k, v4.ownBlock = some k → w.heap.size ≤ k) := ⟨fun k hk => by
            rcases h3 with e | ⟨j, e, hj⟩
            · rw [e] at hk; exact JOn.out k hk
            · rw [e] at hk; injection hk with hk; have := HG3.out.size; have := B8.out.size; omega⟩
          clear h1 h2 h3
          simp only [Act.put, List.setIfInBounds_toArray, List.set_cons_zero, List.set_cons_succ]
          refine WL.val (by kernel_rfl) (v4) (by go_simp) ?_
          simp only [Act.put, List.setIfInBounds_toArray, List.set_cons_zero, List.set_cons_succ]
          refine WL.nil ?_
          refine hK7 _ _ ?_
          refine wp_region_list (WL.out ?_)
          refine WL.val (by kernel_rfl) (.int .u64 ((t : Int) + 1)) (by go_simp) ?_
          simp only [Act.put, List.setIfInBounds_toArray, List.set_cons_zero, List.set_cons_succ]
          refine WL.val (by kernel_rfl) (.int .u64 ((t : Int) + 1)) (by go_simp) ?_
          simp only [Act.put, List.setIfInBounds_toArray, List.set_cons_zero, List.set_cons_succ]
          refine WL.nil ?_
          rw [HN32.out hE] at HI4
          refine ⟨⟨t + 1, v4, .int .i64 (at_ : Int), .pointer (some ⟨g2, 0, none⟩), .bool true, .pointer (some ⟨p, 0, none⟩), .int .i64 (at_ : Int), .pointer (some ⟨p, 0, none⟩), .tuple #[.agg (bytesA 32 hh.f), .nilIface], .agg (bytesA 32 hh.f), .nilIface, .agg (bytesA 32 hh.f), .slice oa l.length oc, .int .i64 (l.length : Int), .bool false, .bool false, undef, undef, undef, undef, undef, undef, undef, undef, undef, .bool false, u38, u39, .slice oa l.length oc, .agg (bytesA 32 hh.f), .slice (some ⟨w3.drew.heap.size, 0, none⟩) 1 1, v4, .int .u64 ((t : Int) + 1), rfl, by omega, l ++ [hh], at_ + 32, JC2.out, HI4.out, HO4.out, HOn4.out, Hg4.out, by rw [List.length_append]; simp [JLn.out]⟩, ?_⟩
          simp only [intOf]; show n - ((t : Int) + 1).toNat < n - ((t : Int)).toNat; omega
      · rcases H3.out with ⟨e1, _, _⟩ | ⟨_, q, hq, rfl, rfl, hbad⟩
        · exact absurd e1 hE
        have Hbad := Keep.mk hbad
        clear hbad
        unfold err
        refine WL.val (by kernel_rfl) (.agg (bytesA 32 (hrd D W))) (by go_simp) ?_
        simp only [Act.put, List.setIfInBounds_toArray, List.set_cons_zero, List.set_cons_succ]
        refine WL.val (by kernel_rfl) (.iface 84 (ptr q)) (by go_simp) ?_
        simp only [Act.put, List.setIfInBounds_toArray, List.set_cons_zero, List.set_cons_succ]
        refine WL.callP (by kernel_rfl) 71 _ _ rfl Try.in71 #[.agg (bytesA 32 (hrd D W)), err q] (by simp [Act.eval, err]) ?_
        refine (mustH_bad _ q w1).mono ?_
        rintro e w' ⟨rfl, hbz⟩
        refine .inr ⟨_, rfl, ?_⟩
        try simp only [Exit.inBlock, Exit.then]
        refine ⟨rfl, ?_⟩
        exact .inr ⟨by rw [HR.out, JC.out, if_pos hE]; exact hE, q, Nat.le_trans JG.out.size hq, rfl, by rw [HR.out, JC.out, if_pos hE]; exact Hbad.out.below hbz Hbad.out.lt, H2.out.trans (Grown.below hbz)⟩
    · have hte : Keep (t = n) := ⟨by omega⟩
      have htl' : ¬ (t : Int) < (n : Int) := by omega
      refine wp_seq_k fun K12 hK12 => ?_
      refine wp_region_list (WL.out ?_)
      refine WL.val (by kernel_rfl) (.bool false) (by go_simp) ?_
      simp only [Act.put, List.setIfInBounds_toArray, List.set_cons_zero, List.set_cons_succ]
      refine WL.nil ?_
      refine hK12 _ _ ?_
      refine wp_seq_k fun K13 hK13 => ?_
      refine wp_cond_false rfl ?_
      refine wp_exit ?_
      refine hK3 _ _ ?_
      refine wp_seq_k fun K14 hK14 => ?_
      refine wp_region_list (WL.out ?_)
      refine WL.val (by kernel_rfl) (u5) (by go_simp) ?_
      simp only [Act.put, List.setIfInBounds_toArray, List.set_cons_zero, List.set_cons_succ]
      refine WL.val (by kernel_rfl) (u5) (by go_simp) ?_
      simp only [Act.put, List.setIfInBounds_toArray, List.set_cons_zero, List.set_cons_succ]
      refine WL.nil ?_
      refine hK14 _ _ ?_
      refine wp_ret ?_
      go_ret
      rw [hte.out, Nat.sub_self, getH] at hC
      rw [HR.out, hC]
      exact .inl ⟨rfl, u5, rfl, ⟨hO, hOn⟩, hI, hG⟩
  · rcases H3.out with ⟨e1, _, _⟩ | ⟨_, q, hq, rfl, rfl, hbad⟩
    · exact absurd e1 hE
    have Hbad := Keep.mk hbad
    clear hbad
    unfold err
    refine WL.val (by kernel_rfl) (.int .u64 c) (by go_simp) ?_
    simp only [Act.put, List.setIfInBounds_toArray, List.set_cons_zero, List.set_cons_succ]
    refine WL.val (by kernel_rfl) (.iface 84 (ptr q)) (by go_simp) ?_
    simp only [Act.put, List.setIfInBounds_toArray, List.set_cons_zero, List.set_cons_succ]
    refine WL.callP (by kernel_rfl) 69 _ _ rfl Try.in69 #[.int .u64 c, err q] (by simp [Act.eval, err]) ?_
    refine (must69_bad _ q w1).mono ?_
    rintro e w' ⟨rfl, rfl⟩
    refine .inr ⟨_, rfl, ?_⟩
    try simp only [Exit.inBlock, Exit.then]
    refine ⟨rfl, ?_⟩
    exact .inr ⟨by rw [HR1.out hE]; exact hE, q, hq, rfl, by rw [HR1.out hE]; exact Hbad.out, H2.out⟩
def getF (L : List Int) (i : Nat) (M : MsgV) (a : Nat) : Int × Nat × MsgV :=
  if i = 0 then ((hsR L 4096 a).1, (hsR L 4096 a).2.1, { M with hd := (hsR L 4096 a).2.2 })
  else if i = 1 then ((saR L a).1, (saR L a).2.1, { M with sa := (saR L a).2.2 })
  else if i = 2 then ((dgR L a).1, (dgR L a).2.1, { M with bl := (dgR L a).2.2 })
  else if i = 3 then ((hsR L 4096 a).1, (hsR L 4096 a).2.1, { M with wt := (hsR L 4096 a).2.2 })
  else ((bkR L a).1, (bkR L a).2.1, { M with bk := (bkR L a).2.2 })
def getFs (L : List Int) : List Nat → MsgV → Nat → Int × Nat × MsgV
  | [], M, a => (0, a, M)
  | i :: is, M, a => if (getF L i M a).1 ≠ 0 then getF L i M a else getFs L is (getF L i M a).2.2 (getF L i M a).2.1
def decM (L : List Int) : Int × Nat × MsgV :=
  if nextW L 1 ≠ 0 then (nextW L 1, nextN L 1, zeroM) else if hasI (L.getD 0 0) = [] then (40, 0, zeroM)
  else if (getFs L (hasI (L.getD 0 0)) { zeroM with k := L.getD 0 0 } 1).1 ≠ 0 then getFs L (hasI (L.getD 0 0)) { zeroM with k := L.getD 0 0 } 1
  else if (getFs L (hasI (L.getD 0 0)) { zeroM with k := L.getD 0 0 } 1).2.1 < L.length then (23, (getFs L (hasI (L.getD 0 0)) { zeroM with k := L.getD 0 0 } 1).2.1, zeroM)
  else getFs L (hasI (L.getD 0 0)) { zeroM with k := L.getD 0 0 } 1
def FrH (b0 : Nat) (v : Value) : Prop := ∀ k, v.ownBlock = some k → b0 ≤ k
structure DecAt (b0 : Nat) (w : World) (M : MsgV) (c : MC) : Prop where
  k : c.k = M.k
  s : c.s = M.sa
  hd : OwnH w c.h M.hd
  hdf : FrH b0 c.h
  bl : OwnT w c.b M.bl
  blf : FrH b0 c.b
  wt : OwnH w c.w M.wt
  wtf : FrH b0 c.w
  bk : RowsOwn b0 w c.x M.bk
theorem OwnH.typ {w : World} {v : Value} {l : List Hs} (h : OwnH w v l) {k : Nat} (hk : v.ownBlock = some k) : Typ w k 70 := by
  rcases h.form with ⟨rfl, _⟩ | ⟨g, cap, cur, rfl, h3, _⟩
  · simp [Value.ownBlock] at hk
  · simp [Value.ownBlock] at hk
    subst hk
    exact h3.typ
theorem DecAt.grown {b0 : Nat} {w w' : World} {M : MsgV} {c : MC} {S : Nat → Prop} (h : DecAt b0 w M c) (hg : Grown w w' S) (hT : ∀ k, Typ w k 70 ∨ Typ w k 5 ∨ Typ w k 30 → ¬ S k) : DecAt b0 w' M c where
  k := h.k
  s := h.s
  hd := h.hd.grown hg fun k hk => hT k (.inl (h.hd.typ hk))
  hdf := h.hdf
  bl := h.bl.grown hg fun k hk => hT k (.inr (.inl (h.bl.typ hk)))
  blf := h.blf
  wt := h.wt.grown hg fun k hk => hT k (.inl (h.wt.typ hk))
  wtf := h.wtf
  bk := h.bk.grown hg fun k hk => hT k (.inr hk)
theorem DecAt.below {b0 : Nat} {w w' : World} {M : MsgV} {c : MC} (h : DecAt b0 w M c) (hb : Below w.heap.size w w') : DecAt b0 w' M c := h.grown (Grown.below (S := fun _ => False) hb) fun _ _ h => h
theorem DecAt.ms {b0 : Nat} {w : World} {M : MsgV} {c : MC} (h : DecAt b0 w M c) : MsAt w M c := ⟨h.k, h.s, h.hd.row, h.bl.row, h.wt.row, h.bk.rws⟩
theorem typ_ne {w : World} {p : Nat} {T : TypeId} {cs : Array Value} (hp : Blk w p T cs) {k : Nat} {A B C : TypeId} (h : Typ w k A ∨ Typ w k B ∨ Typ w k C) (h1 : T ≠ A) (h2 : T ≠ B) (h3 : T ≠ C) : k ≠ p := by
  rintro rfl
  rcases h with h | h | h
  · exact h1 (hp.typ.one h)
  · exact h2 (hp.typ.one h)
  · exact h3 (hp.typ.one h)
theorem RowsOwn.mono {b0 b1 : Nat} {w : World} {v : Value} {ls : List (List Int)} (h : RowsOwn b1 w v ls) (hb : b0 ≤ b1) : RowsOwn b0 w v ls := by
  obtain ⟨vs, h1, h2, h3, h4⟩ := h
  exact ⟨vs, h1, fun k hk => Nat.le_trans hb (h2 k hk), h3, fun i hi => ⟨(h4 i hi).1, by obtain ⟨k, h5, h6⟩ := (h4 i hi).2; exact ⟨k, h5, Nat.le_trans hb h6⟩⟩⟩
def gfn (i : Nat) : Nat := if i = 0 then 43 else if i = 1 then 48 else if i = 2 then 53 else if i = 3 then 57 else 61
theorem gfn_in (i : Nat) (w : World) (vs : Array Value) : (callFunc (gfn i) vs).run Try.prog w = .ok (.enter (gfn i) vs) w := by
  unfold gfn
  repeat' split
  all_goals kernel_rfl
theorem fldA_g (i : Nat) : (fldA i)[2]? = some (.func (.func (gfn i)) #[] #[]) := by
  unfold fldA gfn
  repeat' split
  all_goals rfl
def GetPost (p g b0 : Nat) (s : ByteArray) (R : Int × Nat × MsgV) (w : World) (e : Ending) (w' : World) : Prop :=
  (R.1 = 0 ∧ e = .returned (.tuple #[]) ∧ InAt w' p s R.2.1 none ∧ ∃ c', Blk w' g 32 (msA c') ∧ DecAt b0 w' R.2.2 c' ∧ Grown w w' fun k => k = p ∨ k = g) ∨ Gives p (R.1, R.2.1) w e w'
theorem Try.in24 (w : World) (vs : Array Value) : (callFunc 24 vs).run Try.prog w = .ok (.enter 24 vs) w := by kernel_rfl
theorem Try.in12 (w : World) (vs : Array Value) : (callFunc 12 vs).run Try.prog w = .ok (.enter 12 vs) w := by kernel_rfl
theorem Try.in23 (w : World) (vs : Array Value) : (callFunc 23 vs).run Try.prog w = .ok (.enter 23 vs) w := by kernel_rfl
theorem Try.in25 (w : World) (vs : Array Value) : (callFunc 25 vs).run Try.prog w = .ok (.enter 25 vs) w := by kernel_rfl
set_option maxRecDepth 8000 in
theorem get0_any (p g b0 : Nat) (s : ByteArray) (a : Nat) (M : MsgV) (c : MC) (w : World) (hI : InAt w p s a none) (hb : s.size ≤ 140737488355328) (hM : Blk w g 32 (msA c)) (hD : DecAt b0 w M c) (hb0 : b0 ≤ w.heap.size) :
    Calls Try.prog 43 #[ptr p, ptr g] w (GetPost p g b0 s (getF (lst s) 0 M a) w) := by
  have HI := Keep.mk hI
  have HM := Keep.mk hM
  have HD := Keep.mk hD
  have Hb0 := Keep.mk hb0
  have hcon := getHashes_any p s a 4096 (by decide) w hI hb
  rw [show ((4096 : Nat) : Int) = 4096 from rfl] at hcon
  rw [show getF (lst s) 0 M a = ((hsR (lst s) 4096 a).1, (hsR (lst s) 4096 a).2.1, { M with hd := (hsR (lst s) 4096 a).2.2 }) from rfl]
  obtain ⟨B, hB⟩ : ∃ B, B = hsR (lst s) 4096 a := ⟨_, rfl⟩
  rw [← hB] at hcon ⊢
  have HC := Keep.mk hcon
  clear hI hb hM hD hb0 hcon hB
  go_enter Try.func43, Try.ntmps43
  refine wp_region_list (WL.out ?_)
  refine WL.val (by kernel_rfl) (.pointer (some ⟨g, 0, none⟩)) (by go_simp) ?_
  simp only [Act.put, List.setIfInBounds_toArray, List.set_cons_zero, List.set_cons_succ]
  refine WL.val (by kernel_rfl) (.pointer (some ⟨p, 0, none⟩)) (by go_simp) ?_
  simp only [Act.put, List.setIfInBounds_toArray, List.set_cons_zero, List.set_cons_succ]
  refine WL.callP (by kernel_rfl) 44 _ _ rfl Try.in44 #[ptr p, .int .u64 4096] (by simp [Act.eval]) ?_
  refine HC.out.mono ?_
  rintro e w2 (⟨e1, v, rfl, ⟨hz1, hz2⟩, h2, h3⟩ | hgv)
  rotate_left
  · have hne := hgv.1
    obtain ⟨q, hq, rfl, hbad, hgr⟩ := hgv.2
    refine .inr ⟨_, rfl, ?_⟩
    try simp only [Exit.inBlock, Exit.then]
    exact ⟨rfl, .inr ⟨hne, q, hq, rfl, hbad, hgr⟩⟩
  refine .inl ⟨_, rfl, ?_⟩
  have HM2 := Keep.mk (h3.blk HM.out (blk_ne HM.out HI.out.blk (by decide)))
  have D2 := Keep.mk (HD.out.grown h3 (fun k hk => typ_ne HI.out.blk hk (by decide) (by decide) (by decide)))
  obtain ⟨za, zc, rfl⟩ := hz1.sl
  simp only [Act.put, List.setIfInBounds_toArray, List.set_cons_zero, List.set_cons_succ]
  refine WL.val (by kernel_rfl) (.pointer (some ⟨g, 0, none⟩)) (by go_simp) ?_
  simp only [Act.put, List.setIfInBounds_toArray, List.set_cons_zero, List.set_cons_succ]
  refine WL.val (by kernel_rfl) (.pointer (some ⟨g, 1, none⟩)) (by go_simp) ?_
  simp only [Act.put, List.setIfInBounds_toArray, List.set_cons_zero, List.set_cons_succ]
  obtain ⟨⟨ha, hn, hk, q1⟩, ⟨ba, bn, bk, q2⟩, ⟨wa, wn, wk, q3⟩, ⟨xa, xn, xk, q4⟩⟩ := HD.out.ms.sl
  have c0 := HM2.out.c 1 (ms_1 c)
  have f0 := HM2.out.frozen 1
  refine WL.cell (by kernel_rfl) (w2.setCell ⟨g, 1, none⟩ (.slice za B.2.2.length zc)) (by go_simp) ?_
  have HM3 := HM2.out.set 1 (.slice za B.2.2.length zc)
  have hg3 : Grown w2 (w2.setCell ⟨g, 1, none⟩ (.slice za B.2.2.length zc)) fun k => k = g := Grown.setCell w2 g 1 _ fun _ => rfl
  have D3 := D2.out.grown hg3 (fun k hk => typ_ne HM2.out hk (by decide) (by decide) (by decide))
  have HI3 : InAt (w2.setCell ⟨g, 1, none⟩ (.slice za B.2.2.length zc)) p s B.2.1 none := ⟨hg3.blk h2.blk (fun e => (blk_ne HM2.out h2.blk (by decide)) e.symm), h2.le⟩
  simp only [Act.put]
  refine WL.nil ?_
  go_end0
  exact .inl ⟨e1, rfl, HI3, { c with h := .slice za B.2.2.length zc }, HM3, { D3 with hd := hz1.grown hg3 (fun k hk e => (typ_ne (A := 70) (B := 5) (C := 30) HM2.out (.inl (hz1.typ hk)) (by decide) (by decide) (by decide)) e), hdf := fun k hk => Nat.le_trans Hb0.out (hz2 k hk) }, (h3.mono fun k _ e => .inl e).trans (hg3.mono fun k _ e => .inr e)⟩
set_option maxRecDepth 8000 in
theorem get1_any (p g b0 : Nat) (s : ByteArray) (a : Nat) (M : MsgV) (c : MC) (w : World) (hI : InAt w p s a none) (hb : s.size ≤ 140737488355328) (hM : Blk w g 32 (msA c)) (hD : DecAt b0 w M c) (hb0 : b0 ≤ w.heap.size) :
    Calls Try.prog 48 #[ptr p, ptr g] w (GetPost p g b0 s (getF (lst s) 1 M a) w) := by
  have HI := Keep.mk hI
  have HM := Keep.mk hM
  have HD := Keep.mk hD
  have Hb0 := Keep.mk hb0
  have hcon := getSalt_any p s a w hI hb
  skip
  rw [show getF (lst s) 1 M a = ((saR (lst s) a).1, (saR (lst s) a).2.1, { M with sa := (saR (lst s) a).2.2 }) from rfl]
  obtain ⟨B, hB⟩ : ∃ B, B = saR (lst s) a := ⟨_, rfl⟩
  rw [← hB] at hcon ⊢
  have HC := Keep.mk hcon
  clear hI hb hM hD hb0 hcon hB
  go_enter Try.func48, Try.ntmps48
  refine wp_region_list (WL.out ?_)
  refine WL.val (by kernel_rfl) (.pointer (some ⟨g, 0, none⟩)) (by go_simp) ?_
  simp only [Act.put, List.setIfInBounds_toArray, List.set_cons_zero, List.set_cons_succ]
  refine WL.val (by kernel_rfl) (.pointer (some ⟨p, 0, none⟩)) (by go_simp) ?_
  simp only [Act.put, List.setIfInBounds_toArray, List.set_cons_zero, List.set_cons_succ]
  refine WL.callP (by kernel_rfl) 49 _ _ rfl Try.in49 #[ptr p] (by simp [Act.eval]) ?_
  refine HC.out.mono ?_
  rintro e w2 (⟨e1, v, rfl, rfl, h2, h3⟩ | hgv)
  rotate_left
  · have hne := hgv.1
    obtain ⟨q, hq, rfl, hbad, hgr⟩ := hgv.2
    refine .inr ⟨_, rfl, ?_⟩
    try simp only [Exit.inBlock, Exit.then]
    exact ⟨rfl, .inr ⟨hne, q, hq, rfl, hbad, hgr⟩⟩
  refine .inl ⟨_, rfl, ?_⟩
  have HM2 := Keep.mk (h3.blk HM.out (blk_ne HM.out HI.out.blk (by decide)))
  have D2 := Keep.mk (HD.out.grown h3 (fun k hk => typ_ne HI.out.blk hk (by decide) (by decide) (by decide)))
  
  simp only [Act.put, List.setIfInBounds_toArray, List.set_cons_zero, List.set_cons_succ]
  refine WL.val (by kernel_rfl) (.pointer (some ⟨g, 0, none⟩)) (by go_simp) ?_
  simp only [Act.put, List.setIfInBounds_toArray, List.set_cons_zero, List.set_cons_succ]
  refine WL.val (by kernel_rfl) (.pointer (some ⟨g, 2, none⟩)) (by go_simp) ?_
  simp only [Act.put, List.setIfInBounds_toArray, List.set_cons_zero, List.set_cons_succ]
  obtain ⟨⟨ha, hn, hk, q1⟩, ⟨ba, bn, bk, q2⟩, ⟨wa, wn, wk, q3⟩, ⟨xa, xn, xk, q4⟩⟩ := HD.out.ms.sl
  have c0 := HM2.out.c 2 (ms_2 c)
  have f0 := HM2.out.frozen 2
  refine WL.cell (by kernel_rfl) (w2.setCell ⟨g, 2, none⟩ (.int .u64 B.2.2)) (by go_simp) ?_
  have HM3 := HM2.out.set 2 (.int .u64 B.2.2)
  have hg3 : Grown w2 (w2.setCell ⟨g, 2, none⟩ (.int .u64 B.2.2)) fun k => k = g := Grown.setCell w2 g 2 _ fun _ => rfl
  have D3 := D2.out.grown hg3 (fun k hk => typ_ne HM2.out hk (by decide) (by decide) (by decide))
  have HI3 : InAt (w2.setCell ⟨g, 2, none⟩ (.int .u64 B.2.2)) p s B.2.1 none := ⟨hg3.blk h2.blk (fun e => (blk_ne HM2.out h2.blk (by decide)) e.symm), h2.le⟩
  simp only [Act.put]
  refine WL.nil ?_
  go_end0
  exact .inl ⟨e1, rfl, HI3, { c with s := B.2.2 }, HM3, { D3 with s := rfl }, (h3.mono fun k _ e => .inl e).trans (hg3.mono fun k _ e => .inr e)⟩
set_option maxRecDepth 8000 in
theorem get2_any (p g b0 : Nat) (s : ByteArray) (a : Nat) (M : MsgV) (c : MC) (w : World) (hI : InAt w p s a none) (hb : s.size ≤ 140737488355328) (hM : Blk w g 32 (msA c)) (hD : DecAt b0 w M c) (hb0 : b0 ≤ w.heap.size) :
    Calls Try.prog 53 #[ptr p, ptr g] w (GetPost p g b0 s (getF (lst s) 2 M a) w) := by
  have HI := Keep.mk hI
  have HM := Keep.mk hM
  have HD := Keep.mk hD
  have Hb0 := Keep.mk hb0
  have hcon := getDigest_any p s a w hI hb
  skip
  rw [show getF (lst s) 2 M a = ((dgR (lst s) a).1, (dgR (lst s) a).2.1, { M with bl := (dgR (lst s) a).2.2 }) from rfl]
  obtain ⟨B, hB⟩ : ∃ B, B = dgR (lst s) a := ⟨_, rfl⟩
  rw [← hB] at hcon ⊢
  have HC := Keep.mk hcon
  clear hI hb hM hD hb0 hcon hB
  go_enter Try.func53, Try.ntmps53
  refine wp_region_list (WL.out ?_)
  refine WL.val (by kernel_rfl) (.pointer (some ⟨g, 0, none⟩)) (by go_simp) ?_
  simp only [Act.put, List.setIfInBounds_toArray, List.set_cons_zero, List.set_cons_succ]
  refine WL.val (by kernel_rfl) (.pointer (some ⟨p, 0, none⟩)) (by go_simp) ?_
  simp only [Act.put, List.setIfInBounds_toArray, List.set_cons_zero, List.set_cons_succ]
  refine WL.callP (by kernel_rfl) 54 _ _ rfl Try.in54 #[ptr p] (by simp [Act.eval]) ?_
  refine HC.out.mono ?_
  rintro e w2 (⟨e1, v, rfl, ⟨hz1, hz2⟩, h2, h3⟩ | hgv)
  rotate_left
  · have hne := hgv.1
    obtain ⟨q, hq, rfl, hbad, hgr⟩ := hgv.2
    refine .inr ⟨_, rfl, ?_⟩
    try simp only [Exit.inBlock, Exit.then]
    exact ⟨rfl, .inr ⟨hne, q, hq, rfl, hbad, hgr⟩⟩
  refine .inl ⟨_, rfl, ?_⟩
  have HM2 := Keep.mk (h3.blk HM.out (blk_ne HM.out HI.out.blk (by decide)))
  have D2 := Keep.mk (HD.out.grown h3 (fun k hk => typ_ne HI.out.blk hk (by decide) (by decide) (by decide)))
  obtain ⟨za, zn, zc, rfl⟩ := hz1.sl
  simp only [Act.put, List.setIfInBounds_toArray, List.set_cons_zero, List.set_cons_succ]
  refine WL.val (by kernel_rfl) (.pointer (some ⟨g, 0, none⟩)) (by go_simp) ?_
  simp only [Act.put, List.setIfInBounds_toArray, List.set_cons_zero, List.set_cons_succ]
  refine WL.val (by kernel_rfl) (.pointer (some ⟨g, 3, none⟩)) (by go_simp) ?_
  simp only [Act.put, List.setIfInBounds_toArray, List.set_cons_zero, List.set_cons_succ]
  obtain ⟨⟨ha, hn, hk, q1⟩, ⟨ba, bn, bk, q2⟩, ⟨wa, wn, wk, q3⟩, ⟨xa, xn, xk, q4⟩⟩ := HD.out.ms.sl
  have c0 := HM2.out.c 3 (ms_3 c)
  have f0 := HM2.out.frozen 3
  refine WL.cell (by kernel_rfl) (w2.setCell ⟨g, 3, none⟩ (.slice za zn zc)) (by go_simp) ?_
  have HM3 := HM2.out.set 3 (.slice za zn zc)
  have hg3 : Grown w2 (w2.setCell ⟨g, 3, none⟩ (.slice za zn zc)) fun k => k = g := Grown.setCell w2 g 3 _ fun _ => rfl
  have D3 := D2.out.grown hg3 (fun k hk => typ_ne HM2.out hk (by decide) (by decide) (by decide))
  have HI3 : InAt (w2.setCell ⟨g, 3, none⟩ (.slice za zn zc)) p s B.2.1 none := ⟨hg3.blk h2.blk (fun e => (blk_ne HM2.out h2.blk (by decide)) e.symm), h2.le⟩
  simp only [Act.put]
  refine WL.nil ?_
  go_end0
  exact .inl ⟨e1, rfl, HI3, { c with b := .slice za zn zc }, HM3, { D3 with bl := hz1.grown hg3 (fun k hk e => (typ_ne (A := 70) (B := 5) (C := 30) HM2.out (.inr (.inl (hz1.typ hk))) (by decide) (by decide) (by decide)) e), blf := fun k hk => by obtain ⟨j, h1, h2⟩ := hz2; rw [h1] at hk; injection hk with hk; have := Hb0.out; omega }, (h3.mono fun k _ e => .inl e).trans (hg3.mono fun k _ e => .inr e)⟩
set_option maxRecDepth 8000 in
theorem get3_any (p g b0 : Nat) (s : ByteArray) (a : Nat) (M : MsgV) (c : MC) (w : World) (hI : InAt w p s a none) (hb : s.size ≤ 140737488355328) (hM : Blk w g 32 (msA c)) (hD : DecAt b0 w M c) (hb0 : b0 ≤ w.heap.size) :
    Calls Try.prog 57 #[ptr p, ptr g] w (GetPost p g b0 s (getF (lst s) 3 M a) w) := by
  have HI := Keep.mk hI
  have HM := Keep.mk hM
  have HD := Keep.mk hD
  have Hb0 := Keep.mk hb0
  have hcon := getHashes_any p s a 4096 (by decide) w hI hb
  rw [show ((4096 : Nat) : Int) = 4096 from rfl] at hcon
  rw [show getF (lst s) 3 M a = ((hsR (lst s) 4096 a).1, (hsR (lst s) 4096 a).2.1, { M with wt := (hsR (lst s) 4096 a).2.2 }) from rfl]
  obtain ⟨B, hB⟩ : ∃ B, B = hsR (lst s) 4096 a := ⟨_, rfl⟩
  rw [← hB] at hcon ⊢
  have HC := Keep.mk hcon
  clear hI hb hM hD hb0 hcon hB
  go_enter Try.func57, Try.ntmps57
  refine wp_region_list (WL.out ?_)
  refine WL.val (by kernel_rfl) (.pointer (some ⟨g, 0, none⟩)) (by go_simp) ?_
  simp only [Act.put, List.setIfInBounds_toArray, List.set_cons_zero, List.set_cons_succ]
  refine WL.val (by kernel_rfl) (.pointer (some ⟨p, 0, none⟩)) (by go_simp) ?_
  simp only [Act.put, List.setIfInBounds_toArray, List.set_cons_zero, List.set_cons_succ]
  refine WL.callP (by kernel_rfl) 44 _ _ rfl Try.in44 #[ptr p, .int .u64 4096] (by simp [Act.eval]) ?_
  refine HC.out.mono ?_
  rintro e w2 (⟨e1, v, rfl, ⟨hz1, hz2⟩, h2, h3⟩ | hgv)
  rotate_left
  · have hne := hgv.1
    obtain ⟨q, hq, rfl, hbad, hgr⟩ := hgv.2
    refine .inr ⟨_, rfl, ?_⟩
    try simp only [Exit.inBlock, Exit.then]
    exact ⟨rfl, .inr ⟨hne, q, hq, rfl, hbad, hgr⟩⟩
  refine .inl ⟨_, rfl, ?_⟩
  have HM2 := Keep.mk (h3.blk HM.out (blk_ne HM.out HI.out.blk (by decide)))
  have D2 := Keep.mk (HD.out.grown h3 (fun k hk => typ_ne HI.out.blk hk (by decide) (by decide) (by decide)))
  obtain ⟨za, zc, rfl⟩ := hz1.sl
  simp only [Act.put, List.setIfInBounds_toArray, List.set_cons_zero, List.set_cons_succ]
  refine WL.val (by kernel_rfl) (.pointer (some ⟨g, 0, none⟩)) (by go_simp) ?_
  simp only [Act.put, List.setIfInBounds_toArray, List.set_cons_zero, List.set_cons_succ]
  refine WL.val (by kernel_rfl) (.pointer (some ⟨g, 4, none⟩)) (by go_simp) ?_
  simp only [Act.put, List.setIfInBounds_toArray, List.set_cons_zero, List.set_cons_succ]
  obtain ⟨⟨ha, hn, hk, q1⟩, ⟨ba, bn, bk, q2⟩, ⟨wa, wn, wk, q3⟩, ⟨xa, xn, xk, q4⟩⟩ := HD.out.ms.sl
  have c0 := HM2.out.c 4 (ms_4 c)
  have f0 := HM2.out.frozen 4
  refine WL.cell (by kernel_rfl) (w2.setCell ⟨g, 4, none⟩ (.slice za B.2.2.length zc)) (by go_simp) ?_
  have HM3 := HM2.out.set 4 (.slice za B.2.2.length zc)
  have hg3 : Grown w2 (w2.setCell ⟨g, 4, none⟩ (.slice za B.2.2.length zc)) fun k => k = g := Grown.setCell w2 g 4 _ fun _ => rfl
  have D3 := D2.out.grown hg3 (fun k hk => typ_ne HM2.out hk (by decide) (by decide) (by decide))
  have HI3 : InAt (w2.setCell ⟨g, 4, none⟩ (.slice za B.2.2.length zc)) p s B.2.1 none := ⟨hg3.blk h2.blk (fun e => (blk_ne HM2.out h2.blk (by decide)) e.symm), h2.le⟩
  simp only [Act.put]
  refine WL.nil ?_
  go_end0
  exact .inl ⟨e1, rfl, HI3, { c with w := .slice za B.2.2.length zc }, HM3, { D3 with wt := hz1.grown hg3 (fun k hk e => (typ_ne (A := 70) (B := 5) (C := 30) HM2.out (.inl (hz1.typ hk)) (by decide) (by decide) (by decide)) e), wtf := fun k hk => Nat.le_trans Hb0.out (hz2 k hk) }, (h3.mono fun k _ e => .inl e).trans (hg3.mono fun k _ e => .inr e)⟩
set_option maxRecDepth 8000 in
theorem get4_any (p g b0 : Nat) (s : ByteArray) (a : Nat) (M : MsgV) (c : MC) (w : World) (hI : InAt w p s a none) (hb : s.size ≤ 140737488355328) (hM : Blk w g 32 (msA c)) (hD : DecAt b0 w M c) (hb0 : b0 ≤ w.heap.size) :
    Calls Try.prog 61 #[ptr p, ptr g] w (GetPost p g b0 s (getF (lst s) 4 M a) w) := by
  have HI := Keep.mk hI
  have HM := Keep.mk hM
  have HD := Keep.mk hD
  have Hb0 := Keep.mk hb0
  have hcon := getBlocks_any p s a w hI hb
  skip
  rw [show getF (lst s) 4 M a = ((bkR (lst s) a).1, (bkR (lst s) a).2.1, { M with bk := (bkR (lst s) a).2.2 }) from rfl]
  obtain ⟨B, hB⟩ : ∃ B, B = bkR (lst s) a := ⟨_, rfl⟩
  rw [← hB] at hcon ⊢
  have HC := Keep.mk hcon
  clear hI hb hM hD hb0 hcon hB
  go_enter Try.func61, Try.ntmps61
  refine wp_region_list (WL.out ?_)
  refine WL.val (by kernel_rfl) (.pointer (some ⟨g, 0, none⟩)) (by go_simp) ?_
  simp only [Act.put, List.setIfInBounds_toArray, List.set_cons_zero, List.set_cons_succ]
  refine WL.val (by kernel_rfl) (.pointer (some ⟨p, 0, none⟩)) (by go_simp) ?_
  simp only [Act.put, List.setIfInBounds_toArray, List.set_cons_zero, List.set_cons_succ]
  refine WL.callP (by kernel_rfl) 62 _ _ rfl Try.in62 #[ptr p] (by simp [Act.eval]) ?_
  refine HC.out.mono ?_
  rintro e w2 (⟨e1, v, rfl, hz1, h2, h3⟩ | hgv)
  rotate_left
  · have hne := hgv.1
    obtain ⟨q, hq, rfl, hbad, hgr⟩ := hgv.2
    refine .inr ⟨_, rfl, ?_⟩
    try simp only [Exit.inBlock, Exit.then]
    exact ⟨rfl, .inr ⟨hne, q, hq, rfl, hbad, hgr⟩⟩
  refine .inl ⟨_, rfl, ?_⟩
  have HM2 := Keep.mk (h3.blk HM.out (blk_ne HM.out HI.out.blk (by decide)))
  have D2 := Keep.mk (HD.out.grown h3 (fun k hk => typ_ne HI.out.blk hk (by decide) (by decide) (by decide)))
  obtain ⟨za, zc, rfl⟩ := hz1.form
  simp only [Act.put, List.setIfInBounds_toArray, List.set_cons_zero, List.set_cons_succ]
  refine WL.val (by kernel_rfl) (.pointer (some ⟨g, 0, none⟩)) (by go_simp) ?_
  simp only [Act.put, List.setIfInBounds_toArray, List.set_cons_zero, List.set_cons_succ]
  refine WL.val (by kernel_rfl) (.pointer (some ⟨g, 5, none⟩)) (by go_simp) ?_
  simp only [Act.put, List.setIfInBounds_toArray, List.set_cons_zero, List.set_cons_succ]
  obtain ⟨⟨ha, hn, hk, q1⟩, ⟨ba, bn, bk, q2⟩, ⟨wa, wn, wk, q3⟩, ⟨xa, xn, xk, q4⟩⟩ := HD.out.ms.sl
  have c0 := HM2.out.c 5 (ms_5 c)
  have f0 := HM2.out.frozen 5
  refine WL.cell (by kernel_rfl) (w2.setCell ⟨g, 5, none⟩ (.slice za B.2.2.length zc)) (by go_simp) ?_
  have HM3 := HM2.out.set 5 (.slice za B.2.2.length zc)
  have hg3 : Grown w2 (w2.setCell ⟨g, 5, none⟩ (.slice za B.2.2.length zc)) fun k => k = g := Grown.setCell w2 g 5 _ fun _ => rfl
  have D3 := D2.out.grown hg3 (fun k hk => typ_ne HM2.out hk (by decide) (by decide) (by decide))
  have HI3 : InAt (w2.setCell ⟨g, 5, none⟩ (.slice za B.2.2.length zc)) p s B.2.1 none := ⟨hg3.blk h2.blk (fun e => (blk_ne HM2.out h2.blk (by decide)) e.symm), h2.le⟩
  simp only [Act.put]
  refine WL.nil ?_
  go_end0
  exact .inl ⟨e1, rfl, HI3, { c with x := .slice za B.2.2.length zc }, HM3, { D3 with bk := (hz1.mono Hb0.out).grown hg3 (fun k hk e => (typ_ne (A := 70) (B := 5) (C := 30) HM2.out (.inr hk) (by decide) (by decide) (by decide)) e) }, (h3.mono fun k _ e => .inl e).trans (hg3.mono fun k _ e => .inr e)⟩
theorem get_any (i : Nat) (hi : i < 5) (p g b0 : Nat) (s : ByteArray) (a : Nat) (M : MsgV) (c : MC) (w : World) (hI : InAt w p s a none) (hb : s.size ≤ 140737488355328) (hM : Blk w g 32 (msA c)) (hD : DecAt b0 w M c) (hb0 : b0 ≤ w.heap.size) :
    Calls Try.prog (gfn i) #[ptr p, ptr g] w (GetPost p g b0 s (getF (lst s) i M a) w) := by
  match i, hi with
  | 0, _ => exact get0_any p g b0 s a M c w hI hb hM hD hb0
  | 1, _ => exact get1_any p g b0 s a M c w hI hb hM hD hb0
  | 2, _ => exact get2_any p g b0 s a M c w hI hb hM hD hb0
  | 3, _ => exact get3_any p g b0 s a M c w hI hb hM hD hb0
  | 4, _ => exact get4_any p g b0 s a M c w hI hb hM hD hb0
section
variable {P : Program} {ops : Array Oper} {rest : List Oper} {o : Oper} {a : Act} {w : World} {Q : Exit → Act → World → Prop}
theorem WL.callPV (hw : Region.wanted o (yielded ops a.tmps) = true) (f : FuncId) (x : Operand) (args : Array Operand) (ts : Array TypeId) (ho : o.op = .call { callee := .value x, args := args, argTypes := ts }) (hx : a.eval x = .func (.func f) #[] #[])
    (hf : ∀ (w : World) (vs : Array Value), (callFunc f vs).run P w = .ok (.enter f vs) w) (vs : Array Value) (hvs : args.map a.eval = vs)
    (hc : Calls P f vs w fun e w' => (∃ v, e = .returned v ∧ WL P ops Q rest (a.put o.dst v) w') ∨ (∃ ch, e = .panicked ch ∧ Q (.panic ch) a w')) : WL P ops Q (o :: rest) a w :=
  ⟨wpList_wanted hw fun K hK => by
    unfold Oper.wp
    rw [run_callV a o f x args ts ho hx hf w, Oper.upon_enter, hvs]
    refine hc.mono ?_
    rintro e w' (⟨v, rfl, hr⟩ | ⟨ch, rfl, hr⟩)
    · exact hK _ _ hr.out
    · exact hr⟩
end
def ReadPost (p : Nat) (R : Int × Nat × MsgV) (w : World) (e : Ending) (w' : World) : Prop :=
  (R.1 = 0 ∧ ∃ c, e = .returned (.agg (msA c)) ∧ DecAt w.heap.size w' R.2.2 c ∧ Grown w w' fun k => k = p) ∨ Gives p (R.1, R.2.1) w e w'
set_option maxRecDepth 8000 in
set_option maxHeartbeats 4000000 in
theorem readMessage_any (p : Nat) (s : ByteArray) (w : World) (hI : InAt w p s 0 none) (hb : s.size ≤ 140737488355328) :
    Calls Try.prog 24 #[ptr p] w (ReadPost p (decM (lst s)) w) := by
  have HI := Keep.mk hI
  have Hb := Keep.mk hb
  obtain ⟨D, hD⟩ : ∃ D, D = (lst s).drop 0 := ⟨_, rfl⟩
  have hDL : D = lst s := by rw [hD, List.drop_zero]
  obtain ⟨W, hW⟩ : ∃ W, W = nextW D 1 := ⟨_, rfl⟩
  obtain ⟨N, hN⟩ : ∃ N, N = nextN D 1 := ⟨_, rfl⟩
  obtain ⟨c, hc⟩ : ∃ c, c = if W = 0 then D.getD 0 0 else 0 := ⟨_, rfl⟩
  have HCb : Keep (∀ wx, InAt wx p s 0 none → _) := ⟨fun wx h => ibyte_good p s 0 wx h hb D hD W hW N hN c hc⟩
  have HN1 : Keep (W = 0 → 0 + N = 1) := ⟨fun h => by rw [hN, (nextN_0 D 1 (by rw [← hW]; exact h)).1]; rfl⟩
  have Hcr : Keep (0 ≤ c ∧ c < 256) := ⟨by
    have : Byts D := by rw [hDL]; exact lst_byts s
    have := this.getD 0
    rw [hc]; split <;> omega⟩
  obtain ⟨R, hR⟩ : ∃ R, R = decM (lst s) := ⟨_, rfl⟩
  rw [← hR]
  unfold decM at hR
  rw [← hDL, ← hW, ← hN] at hR
  have hce : W = 0 → D.getD 0 0 = c := fun h => by rw [hc, if_pos h]
  have HR1 : Keep (¬ W = 0 → R = (W, N, zeroM)) := ⟨fun h => by rw [hR, if_pos h]⟩
  have HR2 : Keep (W = 0 → hasI c = [] → R = (40, 0, zeroM)) := ⟨fun h h2 => by rw [hR, if_neg (by simp [h]), hce h, if_pos h2]⟩
  have HR3a : Keep (W = 0 → ¬ hasI c = [] → R = if (getFs (lst s) (hasI c) { zeroM with k := c } 1).1 ≠ 0 then getFs (lst s) (hasI c) { zeroM with k := c } 1 else if (getFs (lst s) (hasI c) { zeroM with k := c } 1).2.1 < s.size then (23, (getFs (lst s) (hasI c) { zeroM with k := c } 1).2.1, zeroM) else getFs (lst s) (hasI c) { zeroM with k := c } 1) := ⟨fun h h2 => by rw [hR, if_neg (by simp [h]), hce h, if_neg h2, hDL, lst_len]⟩
  have HR4 : Keep (W = 0 → ∀ {M at_}, getFs (lst s) (hasI c) { zeroM with k := c } 1 = (0, at_, M) → at_ < s.size → ¬ hasI c = [] → R = (23, at_, zeroM)) := ⟨fun h M at_ h2 h3 h4 => by rw [HR3a.out h h4, h2, if_neg (by simp), if_pos h3]⟩
  have HR5 : Keep (W = 0 → ∀ {M at_}, getFs (lst s) (hasI c) { zeroM with k := c } 1 = (0, at_, M) → ¬ at_ < s.size → ¬ hasI c = [] → R = (0, at_, M)) := ⟨fun h M at_ h2 h3 h4 => by rw [HR3a.out h h4, h2, if_neg (by simp), if_neg h3]⟩
  clear hI hb hD hW hN hc hR hDL hce
  go_enter Try.func24, Try.ntmps24
  refine wp_seq_k fun K1 hK1 => ?_
  refine wp_region_list (WL.out ?_)
  refine WL.new (by kernel_rfl) 32 rfl _ Try.new32M ?_
  have HA1 := Keep.mk (Blk.new w 32 (msA zeroC))
  have HI1 := Keep.mk (HI.out.box (.cells (msA zeroC) 32))
  have G1 : Keep (Grown w (w.alloc (.cells (msA zeroC) 32)) fun k => k = p) := ⟨Grown.alloc w _ _⟩
  obtain ⟨g2, hg2⟩ : ∃ g2, g2 = w.heap.size := ⟨_, rfl⟩
  rw [← hg2] at HA1 ⊢
  have Hg2 := Keep.mk hg2
  clear hg2
  generalize w.alloc (.cells (msA zeroC) 32) = w1 at *
  have HC := Keep.mk (HCb.out w1 HI1.out)
  simp only [Act.put, List.setIfInBounds_toArray, List.set_cons_zero, List.set_cons_succ]
  refine WL.nil ?_
  refine hK1 _ _ ?_
  refine wp_seq_k fun K2 hK2 => ?_
  refine wp_region_list (WL.out ?_)
  refine WL.val (by kernel_rfl) (.pointer (some ⟨p, 0, none⟩)) (by go_simp) ?_
  simp only [Act.put, List.setIfInBounds_toArray, List.set_cons_zero, List.set_cons_succ]
  refine WL.callF (by kernel_rfl) 34 _ _ rfl Try.in34 #[ptr p] (by simp [Act.eval]) ?_
  refine (iat_any p s 0 none w1 HI1.out).mono ?_
  rintro e w0 ⟨rfl, hw0⟩
  rw [hw0]
  clear hw0 w0
  refine ⟨_, rfl, ?_⟩
  simp only [Act.put, List.setIfInBounds_toArray, List.set_cons_zero, List.set_cons_succ]
  refine WL.val (by kernel_rfl) (.int .i64 ((0 : Nat) : Int)) (by go_simp) ?_
  simp only [Act.put, List.setIfInBounds_toArray, List.set_cons_zero, List.set_cons_succ]
  refine WL.nil ?_
  refine hK2 _ _ ?_
  refine wp_seq_k fun K3 hK3 => ?_
  refine wp_region_list (WL.out ?_)
  refine WL.val (by kernel_rfl) (.pointer (some ⟨p, 0, none⟩)) (by go_simp) ?_
  simp only [Act.put, List.setIfInBounds_toArray, List.set_cons_zero, List.set_cons_succ]
  refine WL.callF (by kernel_rfl) 36 _ _ rfl Try.in36 #[ptr p] (by simp [Act.eval]) ?_
  refine (HC.out).mono ?_
  rintro e w2 ⟨bad, er, rfl, h1, h2, h3⟩
  refine ⟨_, rfl, ?_⟩
  have H1 := Keep.mk h1
  have H2 : Keep (Grown w w2 fun k => k = p) := ⟨G1.out.trans h2⟩
  have HA2 := Keep.mk (h2.blk HA1.out (blk_ne HA1.out HI1.out.blk (by decide)))
  have H3 : Keep (ErrAs w w2 W (0 + N) bad er) := ⟨by rcases h3 with h3 | ⟨h4, q, h5, h6⟩; exact .inl h3; exact .inr ⟨h4, q, Nat.le_trans G1.out.size h5, h6⟩⟩
  clear h1 h2 h3
  simp only [Act.put, List.setIfInBounds_toArray, List.set_cons_zero, List.set_cons_succ]
  by_cases hE : W = 0
  · rcases H3.out with ⟨e1, rfl, rfl⟩ | ⟨e1, _⟩
    rotate_left
    · exact absurd hE e1
    have hwc : IntKind.i64.wrap c = c := by rw [IntKind.wrap_i64]; have := Hcr.out; omega
    have hI2 := H1.out
    rw [HN1.out hE] at hI2
    have HI2 := Keep.mk hI2
    clear hI2
    refine WL.val (by kernel_rfl) (.int .u8 c) (by go_simp) ?_
    simp only [Act.put, List.setIfInBounds_toArray, List.set_cons_zero, List.set_cons_succ]
    refine WL.val (by kernel_rfl) (.nilIface) (by go_simp) ?_
    simp only [Act.put, List.setIfInBounds_toArray, List.set_cons_zero, List.set_cons_succ]
    refine WL.callF (by kernel_rfl) 35 _ _ rfl Try.in35 #[.int .u8 c, .nilIface] (by simp [Act.eval]) ?_
    refine (must35_ok (.int .u8 c) w2).mono ?_
    rintro e w0 ⟨rfl, hw0⟩
    rw [hw0]
    clear hw0 w0
    refine ⟨_, rfl, ?_⟩
    simp only [Act.put, List.setIfInBounds_toArray, List.set_cons_zero, List.set_cons_succ]
    refine WL.val (by kernel_rfl) (.int .i64 c) (by go_simp) ?_
    simp only [Act.put, List.setIfInBounds_toArray, List.set_cons_zero, List.set_cons_succ]
    refine WL.bld (by kernel_rfl) 32 _ rfl [(0, .int .i64 c)] (by simp [Act.eval]) _ (ms_built1 c) ?_
    simp only [Act.put, List.setIfInBounds_toArray, List.set_cons_zero, List.set_cons_succ]
    refine WL.new (by kernel_rfl) 32 rfl _ Try.new32M ?_
    have HM3 := Keep.mk (Blk.new w2 32 (msA zeroC))
    have HA3 := Keep.mk (HA2.out.alloc (.cells (msA zeroC) 32))
    have HI3 := Keep.mk (HI2.out.box (.cells (msA zeroC) 32))
    have G3 : Keep (Grown w (w2.alloc (.cells (msA zeroC) 32)) fun k => k = p) := ⟨H2.out.trans (Grown.alloc w2 _ _)⟩
    have Hgl : Keep (g2 < w2.heap.size ∧ w.heap.size ≤ w2.heap.size ∧ p < w2.heap.size) := ⟨HA2.out.lt, H2.out.size, HI2.out.blk.lt⟩
    generalize w2.alloc (.cells (msA zeroC) 32) = w3 at *
    generalize w2.heap.size = g at *
    simp only [Act.put, List.setIfInBounds_toArray, List.set_cons_zero, List.set_cons_succ]
    refine WL.storeR (by kernel_rfl) 32 (.tmp 4) (.tmp 18) rfl g (msA ⟨c, noS, 0, noS, noS, noS⟩) rfl rfl 32 (msA zeroC) HM3.out (Try.size32B _) rfl (SlC.one ⟨⟨_, _, _, rfl⟩, ⟨_, _, _, rfl⟩, ⟨_, _, _, rfl⟩, ⟨_, _, _, rfl⟩⟩) ?_
    have HM4 := Keep.mk (HM3.out.setRow (msA ⟨c, noS, 0, noS, noS, noS⟩))
    have HA4 := Keep.mk (HA3.out.setRow_ne (b' := g) (by have := Hgl.out; omega) (msA ⟨c, noS, 0, noS, noS, noS⟩))
    have HI4 : Keep (InAt (w3.setRow g (msA ⟨c, noS, 0, noS, noS, noS⟩)) p s 1 none) := ⟨HI3.out.blk.setRow_ne (by have := Hgl.out; omega) _, HI3.out.le⟩
    have G4 : Keep (Grown w (w3.setRow g (msA ⟨c, noS, 0, noS, noS, noS⟩)) fun k => k = p) := ⟨G3.out.next (Grown.setRow w3 g _ (S := fun k => k = g) fun _ => rfl) fun k hk e => by have := Hgl.out; omega⟩
    generalize w3.setRow g (msA ⟨c, noS, 0, noS, noS, noS⟩) = w4 at *
    have d0 := HM4.out.c 0 (ms_0 _)
    simp only [Act.put]
    refine WL.nil ?_
    refine hK3 _ _ ?_
    refine wp_seq_k fun K4 hK4 => ?_
    refine wp_region_held_drew (S := fun wx => wx.cell? ⟨g, 0, none⟩ = some (.int .i64 c)) (by kernel_rfl) (d0) (fun hHeld => ?_)
    refine wpAnyH_take (i := 1) (oi := ⟨some 21, Op.fieldAddr 32 (Operand.tmp 4) 0, 0, _, _, none⟩) (v := .pointer (some ⟨g, 0, none⟩)) rfl (by kernel_rfl) (by kernel_rfl) (by kernel_rfl) (fun _ _ _ h => h) (Or.inl ⟨by rfl, fun w hS => by go_simp⟩) hHeld ?_
    simp only [Act.put, List.setIfInBounds_toArray, List.set_cons_zero, List.set_cons_succ]
    refine wpAnyH_take (i := 2) (oi := ⟨some 22, Op.load 3 (Operand.tmp 21), 3, _, _, none⟩) (v := .int .i64 c) rfl (by kernel_rfl) (by kernel_rfl) (by kernel_rfl) (fun _ _ _ h => h) (Or.inl ⟨by rfl, fun w hS => by go_simp⟩) hHeld ?_
    simp only [Act.put, List.setIfInBounds_toArray, List.set_cons_zero, List.set_cons_succ]
    refine wpAnyH_ready (rs := [0]) (by kernel_rfl) (by simp) ?_
    refine AllReadyH.cons (o := ⟨some 20, Op.call { callee := Callee.value (Operand.func 13), args := #[], argTypes := #[] }, 46, _, _, none⟩) rfl (fun K hK => ?_) AllReadyH.nil
    rw [if_pos (by rfl)]
    refine wp_callF 13 _ _ rfl Try.in13 #[] (by simp [Act.eval]) (fun v w' => ∃ m, v = .map (some m) ∧ TabAt w' m ∧ Below w4.drew.heap.size w4.drew w') ((tab_any w4.drew).mono fun e w' h => by obtain ⟨m, h1, h2, h3, h4⟩ := h; exact ⟨_, h1, m, rfl, h2, h4⟩) ?_
    rintro v w5 ⟨m, rfl, hT2, hb2⟩
    have B5w : Keep (Below w4.heap.size w4 w5) := ⟨(Below.refl _ _).drew.trans hb2⟩
    have HM5 := Keep.mk (HM4.out.below B5w.out HM4.out.lt)
    have HA5 := Keep.mk (HA4.out.below B5w.out HA4.out.lt)
    have HI5 : Keep (InAt w5 p s 1 none) := ⟨HI4.out.blk.below B5w.out HI4.out.blk.lt, HI4.out.le⟩
    have G5 : Keep (Grown w w5 fun k => k = p) := ⟨G4.out.trans (Grown.below B5w.out)⟩
    have e0 := HM5.out.c 0 (ms_0 _)
    obtain ⟨vF, hvF, hlk⟩ := hT2.look2 c
    have HvF := Keep.mk hvF
    have hlk2 := (hlk w5 (Below.refl _ _)).2
    clear hvF hlk hb2 hT2
    refine hK.out _ _ e0 fun hHeld5 => ?_
    clear hK
    simp only [Act.put, List.setIfInBounds_toArray, List.set_cons_zero, List.set_cons_succ]
    refine wpAnyH_weaken (S' := fun wx => wx.cell? ⟨g, 0, none⟩ = some (.int .i64 c) ∧ (Instr.lookup 46 (.map (some m)) (.int .i64 c) true).run Try.prog wx = .ok (.tuple #[vF, .bool (!(hasI c).isEmpty)]) wx) (fun _ h => h.1) _ _ _ _ ?_
    have hH6 := And.intro hHeld5 hlk2
    refine wpAnyH_take (i := 3) (oi := ⟨some 23, Op.lookup 46 (Operand.tmp 20) (Operand.tmp 22) true, 45, _, _, none⟩) (v := .tuple #[vF, .bool (!(hasI c).isEmpty)]) rfl (by kernel_rfl) (by kernel_rfl) (by kernel_rfl) (fun _ _ _ h => h) (Or.inl ⟨by rfl, fun w hS => by have h := hS.2; go_simp⟩) hH6 ?_
    simp only [Act.put, List.setIfInBounds_toArray, List.set_cons_zero, List.set_cons_succ]
    refine wpAnyH_take (i := 4) (oi := ⟨some 19, Op.move (Operand.tmp 23), 45, _, _, none⟩) (v := .tuple #[vF, .bool (!(hasI c).isEmpty)]) rfl (by kernel_rfl) (by kernel_rfl) (by kernel_rfl) (fun _ _ _ h => h) (Or.inl ⟨by rfl, fun w hS => by go_simp⟩) hH6 ?_
    simp only [Act.put, List.setIfInBounds_toArray, List.set_cons_zero, List.set_cons_succ]
    refine wpAnyH_take (i := 5) (oi := ⟨some 24, Op.extract (Operand.tmp 19) 0, 44, _, _, none⟩) (v := vF) rfl (by kernel_rfl) (by kernel_rfl) (by kernel_rfl) (fun _ _ _ h => h) (Or.inl ⟨by rfl, fun w hS => by go_simp⟩) hH6 ?_
    simp only [Act.put, List.setIfInBounds_toArray, List.set_cons_zero, List.set_cons_succ]
    refine wpAnyH_take (i := 6) (oi := ⟨some 25, Op.extract (Operand.tmp 19) 1, 4, _, _, none⟩) (v := .bool (!(hasI c).isEmpty)) rfl (by kernel_rfl) (by kernel_rfl) (by kernel_rfl) (fun _ _ _ h => h) (Or.inl ⟨by rfl, fun w hS => by go_simp⟩) hH6 ?_
    simp only [Act.put, List.setIfInBounds_toArray, List.set_cons_zero, List.set_cons_succ]
    refine wpAnyH_take (i := 7) (oi := ⟨some 5, Op.assign (Operand.tmp 24), 44, _, _, none⟩) (v := vF) rfl (by kernel_rfl) (by kernel_rfl) (by kernel_rfl) (fun _ _ _ h => h) (Or.inl ⟨by rfl, fun w hS => by go_simp⟩) hH6 ?_
    simp only [Act.put, List.setIfInBounds_toArray, List.set_cons_zero, List.set_cons_succ]
    refine wpAnyH_take (i := 8) (oi := ⟨some 6, Op.assign (Operand.tmp 25), 4, _, _, none⟩) (v := .bool (!(hasI c).isEmpty)) rfl (by kernel_rfl) (by kernel_rfl) (by kernel_rfl) (fun _ _ _ h => h) (Or.inl ⟨by rfl, fun w hS => by go_simp⟩) hH6 ?_
    simp only [Act.put, List.setIfInBounds_toArray, List.set_cons_zero, List.set_cons_succ]
    refine wpAnyH_done (by kernel_rfl) ?_ _
    refine hK4 _ _ ?_
    refine wp_seq_k fun K5 hK5 => ?_
    refine wp_seq_k fun K6 hK6 => ?_
    by_cases hA : hasI c = []
    · rw [show (!(hasI c).isEmpty) = false by rw [hA]; rfl]
      refine wp_region_list (WL.out ?_)
      refine WL.val (by kernel_rfl) (.bool false) (by go_simp) ?_
      simp only [Act.put, List.setIfInBounds_toArray, List.set_cons_zero, List.set_cons_succ]
      refine WL.val (by kernel_rfl) (.bool true) (by go_simp) ?_
      simp only [Act.put, List.setIfInBounds_toArray, List.set_cons_zero, List.set_cons_succ]
      refine WL.nil ?_
      refine hK6 _ _ ?_
      refine wp_cond_true rfl ?_
      refine wp_region_list (WL.out ?_)
      refine WL.val (by kernel_rfl) (.int .i64 ((0 : Nat) : Int)) (by go_simp) ?_
      simp only [Act.put, List.setIfInBounds_toArray, List.set_cons_zero, List.set_cons_succ]
      refine WL.callP (by kernel_rfl) 37 _ _ rfl Try.in37 #[.int .i64 40, .int .i64 ((0 : Nat) : Int)] (by simp [Act.eval]) ?_
      refine (at_any 40 (0 : Nat) w5).mono ?_
      rintro e wz ⟨rfl, hbz, hwz⟩
      refine .inr ⟨_, rfl, ?_⟩
      try simp only [Exit.inBlock, Exit.then]
      refine ⟨rfl, ?_⟩
      exact .inr ⟨by rw [HR2.out hE hA]; exact (by decide : (40 : Int) ≠ 0), w5.heap.size, G5.out.size, rfl, by rw [HR2.out hE hA]; exact hbz, G5.out.trans (Grown.below hwz)⟩
    · rw [show (!(hasI c).isEmpty) = true by simpa using hA]
      obtain ⟨gf, hgf, HFb⟩ := HvF.out.some hA
      subst hgf
      have HF5 := Keep.mk HFb
      clear HFb
      have HR3 := Keep.mk (HR3a.out hE hA)
      have HD5 : Keep (DecAt w.heap.size w5 { zeroM with k := c } ⟨c, noS, 0, noS, noS, noS⟩) := ⟨⟨rfl, rfl, ⟨rfl, .inl ⟨rfl, rfl⟩⟩, fun k hk => by simp [noS, Value.ownBlock] at hk, .inl ⟨rfl, rfl⟩, fun k hk => by simp [noS, Value.ownBlock] at hk, ⟨rfl, .inl ⟨rfl, rfl⟩⟩, fun k hk => by simp [noS, Value.ownBlock] at hk, [], ⟨rfl, .inl ⟨rfl, rfl⟩⟩, fun k hk => by simp [noS, Value.ownBlock] at hk, rfl, fun i hi => by simp [zeroM] at hi⟩⟩
      have hIl := hasI_len c
      have hIi : ((hasI c).length : Int) ≤ 9223372036854775807 := by omega
      have HIm : Keep (∀ i ∈ hasI c, i < 5) := ⟨hasI_lt c⟩
      obtain ⟨is, his⟩ : ∃ is, is = hasI c := ⟨_, rfl⟩
      have HR4n : Keep (∀ {M at_}, getFs (lst s) is { zeroM with k := c } 1 = (0, at_, M) → at_ < s.size → R = (23, at_, zeroM)) := ⟨by rw [his]; exact fun h h2 => HR4.out hE h h2 hA⟩
      have HR5n : Keep (∀ {M at_}, getFs (lst s) is { zeroM with k := c } 1 = (0, at_, M) → ¬ at_ < s.size → R = (0, at_, M)) := ⟨by rw [his]; exact fun h h2 => HR5.out hE h h2 hA⟩
      rw [← his] at HF5 HR3 HIm hIl hIi ⊢
      clear his
      refine wp_region_list (WL.out ?_)
      refine WL.val (by kernel_rfl) (.bool true) (by go_simp) ?_
      simp only [Act.put, List.setIfInBounds_toArray, List.set_cons_zero, List.set_cons_succ]
      refine WL.val (by kernel_rfl) (.bool false) (by go_simp) ?_
      simp only [Act.put, List.setIfInBounds_toArray, List.set_cons_zero, List.set_cons_succ]
      refine WL.nil ?_
      refine hK6 _ _ ?_
      refine wp_cond_false rfl ?_
      refine wp_skip ?_
      refine hK5 _ _ ?_
      refine wp_seq_k fun K7 hK7 => ?_
      refine wp_seq_k fun K8 hK8 => ?_
      refine wp_region_list (WL.out ?_)
      refine WL.val (by kernel_rfl) (.slice (some ⟨gf, 0, none⟩) is.length is.length) (by go_simp) ?_
      simp only [Act.put, List.setIfInBounds_toArray, List.set_cons_zero, List.set_cons_succ]
      refine WL.val (by kernel_rfl) (.int .i64 (is.length : Int)) (by go_simp) ?_
      simp only [Act.put, List.setIfInBounds_toArray, List.set_cons_zero, List.set_cons_succ]
      refine WL.val (by kernel_rfl) (.int .i64 0) (by go_simp) ?_
      simp only [Act.put, List.setIfInBounds_toArray, List.set_cons_zero, List.set_cons_succ]
      refine WL.nil ?_
      refine hK8 _ _ ?_
      refine wp_block ?_
      refine wp_loop (fun ac wr => ∃ (t : Nat) (u8 u33 u34 u35 u36 u37 u38 u39 u40 : Value), ac = { tmps := #[.pointer (some ⟨p, 0, none⟩), undef, .pointer (some ⟨g2, 0, none⟩), .int .i64 ((0 : Nat) : Int), .pointer (some ⟨g, 0, none⟩), .slice (some ⟨gf, 0, none⟩) is.length is.length, .bool true, undef, u8, undef, .pointer (some ⟨p, 0, none⟩), .int .i64 ((0 : Nat) : Int), .pointer (some ⟨p, 0, none⟩), .tuple #[.int .u8 c, .nilIface], .int .u8 c, .nilIface, .int .u8 c, .int .i64 c, .agg (msA ⟨c, noS, 0, noS, noS, noS⟩), .tuple #[.slice (some ⟨gf, 0, none⟩) is.length is.length, .bool true], .map (some m), .pointer (some ⟨g, 0, none⟩), .int .i64 c, .tuple #[.slice (some ⟨gf, 0, none⟩) is.length is.length, .bool true], .slice (some ⟨gf, 0, none⟩) is.length is.length, .bool true, .bool true, .bool false, undef, undef, .slice (some ⟨gf, 0, none⟩) is.length is.length, .int .i64 (is.length : Int), .int .i64 (t : Int), u33, u34, u35, u36, u37, u38, u39, u40, undef, undef, undef, undef, undef, undef, undef], defers := [] } ∧ t ≤ is.length ∧ ∃ M at_ cc, getFs (lst s) is { zeroM with k := c } 1 = getFs (lst s) (is.drop t) M at_ ∧ InAt wr p s at_ none ∧ Blk wr g 32 (msA cc) ∧ DecAt w.heap.size wr M cc ∧ Blk wr g2 32 (msA zeroC) ∧ Blk wr gf 60 (flatF is) ∧ Grown w wr fun k => k = p) (fun a _ => is.length - (intOf (a.tmps.getD 32 undef)).toNat) ⟨0, undef, undef, undef, undef, undef, undef, undef, undef, undef, rfl, by omega, _, 1, _, by rw [List.drop_zero], HI5.out, HM5.out, HD5.out, HA5.out, HF5.out, G5.out⟩ ?_
      rintro ac wr ⟨t, u8, u33, u34, u35, u36, u37, u38, u39, u40, rfl, ht, M, at_, cc, hC, hI, hM, hD, hA, hF, hG⟩
      by_cases hlt : t < is.length
      · have hlt' : (t : Int) < (is.length : Int) := by omega
        have hwt : IntKind.i64.wrap ((t : Int) + 1) = (t : Int) + 1 := by rw [IntKind.wrap_i64]; omega
        obtain ⟨i, hi⟩ : ∃ i, is[t]? = some i := ⟨_, List.getElem?_eq_getElem hlt⟩
        have Hi := Keep.mk hi
        have Him : Keep (i < 5) := ⟨HIm.out i (List.mem_of_getElem? hi)⟩
        have hdr : is.drop t = i :: is.drop (t + 1) := by rw [List.drop_eq_getElem_cons hlt]; congr 1; rw [List.getElem?_eq_getElem hlt] at hi; exact Option.some.inj hi
        rw [hdr, getFs] at hC
        clear hi hdr
        have JC := Keep.mk hC
        have JI := Keep.mk hI
        have JM := Keep.mk hM
        have JD := Keep.mk hD
        have JA := Keep.mk hA
        have JF := Keep.mk hF
        have JG := Keep.mk hG
        clear hC hI hM hD hA hF hG
        refine wp_seq_k fun K9 hK9 => ?_
        refine wp_region_list (WL.out ?_)
        refine WL.val (by kernel_rfl) (.bool true) (by go_simp) ?_
        simp only [Act.put, List.setIfInBounds_toArray, List.set_cons_zero, List.set_cons_succ]
        refine WL.nil ?_
        refine hK9 _ _ ?_
        refine wp_seq_k fun K10 hK10 => ?_
        refine wp_cond_true rfl ?_
        refine wp_skip ?_
        refine hK10 _ _ ?_
        refine wp_seq_k fun K11 hK11 => ?_
        refine wp_block ?_
        refine wp_seq_k fun K12 hK12 => ?_
        refine wp_region_list (WL.out ?_)
        refine WL.val (by kernel_rfl) (.pointer (some ⟨gf, t * 3, none⟩)) (by go_simp) ?_
        simp only [Act.put, List.setIfInBounds_toArray, List.set_cons_zero, List.set_cons_succ]
        refine WL.mid (by kernel_rfl) 60 (.tmp 34) rfl gf (t * 3) rfl (fldA i).toList _ (fld_range JF.out t i Hi.out) Try.underlying60 rfl (Try.size60L i) ?_
        rw [Array.toArray_toList]
        simp only [Act.put, List.setIfInBounds_toArray, List.set_cons_zero, List.set_cons_succ]
        refine WL.new (by kernel_rfl) 60 rfl _ Try.new60 ?_
        have HNn := Keep.mk (Blk.new wr 60 noF)
        have HMn := Keep.mk (JM.out.alloc (.cells noF 60))
        have HFn := Keep.mk (JF.out.alloc (.cells noF 60))
        have HAn := Keep.mk (JA.out.alloc (.cells noF 60))
        have HIn := Keep.mk (JI.out.box (.cells noF 60))
        have HDn := Keep.mk (JD.out.below (below_new wr (.cells noF 60)))
        have Gn : Keep (Grown w (wr.alloc (.cells noF 60)) fun k => k = p) := ⟨JG.out.trans (Grown.alloc wr _ _)⟩
        have Hne : Keep (wr.heap.size ≠ g ∧ wr.heap.size ≠ gf ∧ wr.heap.size ≠ g2 ∧ wr.heap.size ≠ p ∧ w.heap.size ≤ wr.heap.size) := ⟨by have := JM.out.lt; have := JF.out.lt; have := JA.out.lt; have := JI.out.blk.lt; have := JG.out.size; omega⟩
        generalize wr.alloc (.cells noF 60) = wn at *
        generalize wr.heap.size = gn at *
        simp only [Act.put, List.setIfInBounds_toArray, List.set_cons_zero, List.set_cons_succ]
        refine WL.storeR (by kernel_rfl) 60 (.tmp 8) (.tmp 35) rfl gn (fldA i) rfl rfl 60 noF HNn.out (Try.size60B i) (noF_sizes i) (fldA_one i) ?_
        have HN2 := Keep.mk (HNn.out.setRow (fldA i))
        have HMs := Keep.mk (HMn.out.setRow_ne (b' := gn) (fun e => Hne.out.1 e.symm) (fldA i))
        have HFs := Keep.mk (HFn.out.setRow_ne (b' := gn) (fun e => Hne.out.2.1 e.symm) (fldA i))
        have HAs := Keep.mk (HAn.out.setRow_ne (b' := gn) (fun e => Hne.out.2.2.1 e.symm) (fldA i))
        have HIs : Keep (InAt (wn.setRow gn (fldA i)) p s at_ none) := ⟨HIn.out.blk.setRow_ne (fun e => Hne.out.2.2.2.1 e.symm) _, HIn.out.le⟩
        have gsr : Grown wn (wn.setRow gn (fldA i)) fun k => k = gn := Grown.setRow wn gn _ fun _ => rfl
        have HDs := Keep.mk (HDn.out.grown gsr (fun k hk => typ_ne HNn.out hk (by decide) (by decide) (by decide)))
        have Gs : Keep (Grown w (wn.setRow gn (fldA i)) fun k => k = p) := ⟨Gn.out.next gsr fun k hk e => by have := Hne.out.2.2.2.2; omega⟩
        clear gsr
        generalize wn.setRow gn (fldA i) = ws at *
        have c1 := HN2.out.c 2 (fldA_g i)
        simp only [Act.put]
        refine WL.nil ?_
        refine hK12 _ _ ?_
        refine wp_region_list (WL.out ?_)
        refine WL.val (by kernel_rfl) (.pointer (some ⟨gn, 2, none⟩)) (by go_simp) ?_
        simp only [Act.put, List.setIfInBounds_toArray, List.set_cons_zero, List.set_cons_succ]
        refine WL.val (by kernel_rfl) (.func (.func (gfn i)) #[] #[]) (by go_simp) ?_
        simp only [Act.put, List.setIfInBounds_toArray, List.set_cons_zero, List.set_cons_succ]
        refine WL.val (by kernel_rfl) (.pointer (some ⟨p, 0, none⟩)) (by go_simp) ?_
        simp only [Act.put, List.setIfInBounds_toArray, List.set_cons_zero, List.set_cons_succ]
        refine WL.callPV (by kernel_rfl) (gfn i) (.tmp 37) _ _ rfl rfl (gfn_in i) #[ptr p, ptr g] (by simp [Act.eval]) ?_
        refine (get_any i Him.out p g w.heap.size s at_ M cc ws HIs.out Hb.out HMs.out HDs.out Gs.out.size).mono ?_
        rintro e w9 (⟨e1, rfl, i1, c9, i2, i3, i4⟩ | hgv)
        rotate_left
        · have hne := hgv.1
          obtain ⟨q, hq, rfl, hbad, hgr⟩ := hgv.2
          refine .inr ⟨_, rfl, ?_⟩
          try simp only [Exit.inBlock, Exit.then]
          refine ⟨rfl, ?_⟩
          have hRR : R = getF (lst s) i M at_ := by rw [HR3.out, JC.out, if_pos hne, if_pos hne]
          refine .inr (Gives.of Gs.out ⟨by rw [hRR]; exact hne, q, hq, rfl, by rw [hRR]; exact hbad, hgr⟩)
        refine .inl ⟨_, rfl, ?_⟩
        have JC9 := Keep.mk (JC.out.trans (if_neg (by simp [e1])))
        have HI9 := Keep.mk i1
        have HM9 := Keep.mk i2
        have HD9 := Keep.mk i3
        have HA9 := Keep.mk (i4.blk HAs.out (fun e => by rcases e with e | e; exact (blk_ne HAs.out HIs.out.blk (by decide)) e; have := Hgl.out; omega))
        have HF9 := Keep.mk (i4.blk HFs.out (fun e => by rcases e with e | e; exact (blk_ne HFs.out HIs.out.blk (by decide)) e; exact (blk_ne HFs.out HMs.out (by decide)) e))
        have G9 : Keep (Grown w w9 fun k => k = p) := ⟨Gs.out.next i4 fun k hk e => by rcases e with e | e; exact e; have := Hgl.out; omega⟩
        clear i1 i2 i3 i4 e1 JC
        simp only [Act.put, List.setIfInBounds_toArray, List.set_cons_zero, List.set_cons_succ]
        refine WL.nil ?_
        refine hK11 _ _ ?_
        refine wp_region_list (WL.out ?_)
        refine WL.val (by kernel_rfl) (.int .i64 ((t : Int) + 1)) (by go_simp) ?_
        simp only [Act.put, List.setIfInBounds_toArray, List.set_cons_zero, List.set_cons_succ]
        refine WL.val (by kernel_rfl) (.int .i64 ((t : Int) + 1)) (by go_simp) ?_
        simp only [Act.put, List.setIfInBounds_toArray, List.set_cons_zero, List.set_cons_succ]
        refine WL.nil ?_
        refine ⟨⟨t + 1, .pointer (some ⟨gn, 0, none⟩), .bool true, .pointer (some ⟨gf, t * 3, none⟩), .agg (fldA i), .pointer (some ⟨gn, 2, none⟩), .func (.func (gfn i)) #[] #[], .pointer (some ⟨p, 0, none⟩), .tuple #[], .int .i64 ((t : Int) + 1), rfl, by omega, _, _, c9, JC9.out, HI9.out, HM9.out, HD9.out, HA9.out, HF9.out, G9.out⟩, by simp [intOf]; omega⟩
      · obtain rfl : t = is.length := by omega
        rw [List.drop_length, getFs] at hC
        have HIe := Keep.mk hI
        have HMe := Keep.mk hM
        have HDe := Keep.mk hD
        have HAe := Keep.mk hA
        have Ge := Keep.mk hG
        have HCe := Keep.mk hC
        have HE := Keep.mk (iend_good p s at_ wr hI Hb.out (if at_ < s.size then 23 else 0) rfl)
        clear hC hI hM hD hA hF hG
        refine wp_seq_k fun K13 hK13 => ?_
        refine wp_region_list (WL.out ?_)
        refine WL.val (by kernel_rfl) (.bool false) (by go_simp) ?_
        simp only [Act.put, List.setIfInBounds_toArray, List.set_cons_zero, List.set_cons_succ]
        refine WL.nil ?_
        refine hK13 _ _ ?_
        refine wp_seq_k fun K14 hK14 => ?_
        refine wp_cond_false rfl ?_
        refine wp_exit ?_
        refine hK7 _ _ ?_
        refine wp_seq_k fun K15 hK15 => ?_
        refine wp_seq_k fun K16 hK16 => ?_
        refine wp_region_list (WL.out ?_)
        refine WL.val (by kernel_rfl) (.pointer (some ⟨p, 0, none⟩)) (by go_simp) ?_
        simp only [Act.put, List.setIfInBounds_toArray, List.set_cons_zero, List.set_cons_succ]
        refine WL.callF (by kernel_rfl) 38 _ _ rfl Try.in38 #[ptr p] (by simp [Act.eval]) ?_
        refine (HE.out).mono ?_
        rintro e w6 ⟨bad, er, rfl, h1, h2, h3⟩
        refine ⟨_, rfl, ?_⟩
        have H6 := Keep.mk h3
        have HM6 := Keep.mk (h2.blk HMe.out (blk_ne HMe.out HIe.out.blk (by decide)))
        have HA6 := Keep.mk (h2.blk HAe.out (blk_ne HAe.out HIe.out.blk (by decide)))
        have HD6 := Keep.mk (HDe.out.grown h2 (fun k hk => typ_ne HIe.out.blk hk (by decide) (by decide) (by decide)))
        have G6 : Keep (Grown w w6 fun k => k = p) := ⟨Ge.out.trans h2⟩
        clear h1 h2 h3
        simp only [Act.put, List.setIfInBounds_toArray, List.set_cons_zero, List.set_cons_succ]
        refine WL.val (by kernel_rfl) (er) (by go_simp) ?_
        simp only [Act.put, List.setIfInBounds_toArray, List.set_cons_zero, List.set_cons_succ]
        refine WL.nil ?_
        refine hK16 _ _ ?_
        refine wp_seq_k fun K17 hK17 => ?_
        by_cases hL : at_ < s.size
        · have h6 := H6.out
          rw [if_pos hL] at h6
          rcases h6 with ⟨e1, _, _⟩ | ⟨_, q, hq, rfl, rfl, hbad⟩
          · exact absurd e1 (by decide)
          have Hbad := Keep.mk hbad
          clear hbad
          have HRq := Keep.mk (HR4n.out HCe.out hL)
          unfold err
          refine wp_region_list (WL.out ?_)
          refine WL.val (by kernel_rfl) (.iface 84 (ptr q)) (by go_simp) ?_
          simp only [Act.put, List.setIfInBounds_toArray, List.set_cons_zero, List.set_cons_succ]
          refine WL.val (by kernel_rfl) (.bool true) (by go_simp) ?_
          simp only [Act.put, List.setIfInBounds_toArray, List.set_cons_zero, List.set_cons_succ]
          refine WL.nil ?_
          refine hK17 _ _ ?_
          refine wp_cond_true rfl ?_
          refine wp_region_list (WL.out ?_)
          refine WL.val (by kernel_rfl) (.iface 84 (ptr q)) (by go_simp) ?_
          simp only [Act.put, List.setIfInBounds_toArray, List.set_cons_zero, List.set_cons_succ]
          refine WL.callP (by kernel_rfl) 39 _ _ rfl Try.in39 #[err q] (by simp [Act.eval, err]) ?_
          refine (with_any q w6).mono ?_
          rintro e w' ⟨rfl, rfl⟩
          refine .inr ⟨_, rfl, ?_⟩
          try simp only [Exit.inBlock, Exit.then]
          refine ⟨rfl, ?_⟩
          exact .inr ⟨by rw [HRq.out]; exact (by decide : (23 : Int) ≠ 0), q, Nat.le_trans Ge.out.size hq, rfl, by rw [HRq.out]; exact Hbad.out, G6.out⟩
        · have h6 := H6.out
          rw [if_neg hL] at h6
          rcases h6 with ⟨_, rfl, rfl⟩ | ⟨e1, _⟩
          rotate_left
          · exact absurd rfl e1
          have HRq := Keep.mk (HR5n.out HCe.out hL)
          refine wp_region_list (WL.out ?_)
          refine WL.val (by kernel_rfl) (.nilIface) (by go_simp) ?_
          simp only [Act.put, List.setIfInBounds_toArray, List.set_cons_zero, List.set_cons_succ]
          refine WL.val (by kernel_rfl) (.bool false) (by go_simp) ?_
          simp only [Act.put, List.setIfInBounds_toArray, List.set_cons_zero, List.set_cons_succ]
          refine WL.nil ?_
          refine hK17 _ _ ?_
          refine wp_cond_false rfl ?_
          refine wp_skip ?_
          refine hK15 _ _ ?_
          refine wp_seq_k fun K18 hK18 => ?_
          refine wp_region_list (WL.out ?_)
          refine WL.row (by kernel_rfl) 32 (.tmp 4) rfl g rfl 32 (msA cc) _ HM6.out Try.underlying32 rfl (Try.size32B _) ?_
          simp only [Act.put, List.setIfInBounds_toArray, List.set_cons_zero, List.set_cons_succ]
          refine WL.storeR (by kernel_rfl) 32 (.tmp 2) (.tmp 47) rfl g2 (msA cc) rfl rfl 32 (msA zeroC) HA6.out (Try.size32B _) rfl (SlC.one HD6.out.ms.sl) ?_
          have HA7 := Keep.mk (HA6.out.setRow (msA cc))
          have gs7 : Grown w6 (w6.setRow g2 (msA cc)) fun k => k = g2 := Grown.setRow w6 g2 _ fun _ => rfl
          have HD7 := Keep.mk (HD6.out.grown gs7 (fun k hk => typ_ne HA6.out hk (by decide) (by decide) (by decide)))
          have G7 : Keep (Grown w (w6.setRow g2 (msA cc)) fun k => k = p) := ⟨G6.out.next gs7 fun k hk e => by have := Hg2.out; omega⟩
          clear gs7
          generalize w6.setRow g2 (msA cc) = w7 at *
          simp only [Act.put]
          refine WL.nil ?_
          refine hK18 _ _ ?_
          refine wp_ret ?_
          refine bodyPost_ret (v := .agg (msA cc)) (results_cell1_row Try.results24 _ _ g2 32 _ (0, 0) _ rfl HA7.out Try.underlying32 rfl (Try.size32B _)) rfl ?_
          exact .inl ⟨by rw [HRq.out], cc, rfl, by rw [HRq.out]; exact HD7.out, G7.out⟩
  · rcases H3.out with ⟨e1, _, _⟩ | ⟨_, q, hq, rfl, rfl, hbad⟩
    · exact absurd e1 hE
    have Hbad := Keep.mk hbad
    clear hbad
    unfold err
    refine WL.val (by kernel_rfl) (.int .u8 c) (by go_simp) ?_
    simp only [Act.put, List.setIfInBounds_toArray, List.set_cons_zero, List.set_cons_succ]
    refine WL.val (by kernel_rfl) (.iface 84 (ptr q)) (by go_simp) ?_
    simp only [Act.put, List.setIfInBounds_toArray, List.set_cons_zero, List.set_cons_succ]
    refine WL.callP (by kernel_rfl) 35 _ _ rfl Try.in35 #[.int .u8 c, err q] (by simp [Act.eval, err]) ?_
    refine (must35_bad _ q w2).mono ?_
    rintro e w' ⟨rfl, rfl⟩
    refine .inr ⟨_, rfl, ?_⟩
    try simp only [Exit.inBlock, Exit.then]
    refine ⟨rfl, ?_⟩
    exact .inr ⟨by rw [HR1.out hE]; exact hE, q, hq, rfl, by rw [HR1.out hE]; have h := Hbad.out; rw [Nat.zero_add] at h; exact h, H2.out⟩
section
variable {P : Program} {ops : Array Oper} {rest : List Oper} {o : Oper} {a : Act} {w : World} {Q : Exit → Act → World → Prop}
theorem WL.defer (hw : Region.wanted o (yielded ops a.tmps) = true) (d : Deferred) (hrun : (execOp a.eval o).run P w = .ok (.defer d) w)
    (h : WL P ops Q rest ({ a with defers := d :: a.defers }.put o.dst undef) w) : WL P ops Q (o :: rest) a w :=
  ⟨wpList_wanted hw fun _ hK => by unfold Oper.wp; rw [hrun, Oper.upon_defer]; exact hK _ _ h.out⟩
end
theorem assertW (v : Value) (W : World) : (Instr.typeAssert (.iface 75 v) 20 75 true).run Try.prog W = .ok (.tuple #[v, .bool true]) W := by kernel_rfl
theorem Try.new75 (w : World) : (Instr.alloc 75 true (.tuple #[])).run Try.prog w = .ok (.pointer (some ⟨w.heap.size, 0, none⟩)) (w.alloc (.cells #[.nilIface] 75)) := by kernel_rfl
theorem Try.new41 (w : World) : (Instr.alloc 41 true (.tuple #[])).run Try.prog w = .ok (.pointer (some ⟨w.heap.size, 0, none⟩)) (w.alloc (.cells #[.nilIface] 41)) := by kernel_rfl
theorem Try.size75 : (Try.prog.info? 75).map (·.size) = some 1 := by kernel_rfl
theorem caught_any (q : Nat) (w : World) : Calls Try.prog 23 #[.iface 75 (.agg #[err q])] w fun e w' => e = .returned (err q) ∧ Below w.heap.size w w' := by
  have has := assertW (.agg #[err q])
  unfold err at has ⊢
  go_enter Try.func23, Try.ntmps23
  refine wp_seq_k fun K1 hK1 => ?_
  refine wp_region_list (WL.out ?_)
  refine WL.val (by kernel_rfl) (.nilIface) (by go_simp) ?_
  simp only [Act.put, List.setIfInBounds_toArray, List.set_cons_zero, List.set_cons_succ]
  refine WL.nil ?_
  refine hK1 _ _ ?_
  refine wp_seq_k fun K2 hK2 => ?_
  refine wp_seq_k fun K3 hK3 => ?_
  refine wp_region_list (WL.out ?_)
  refine WL.val (by kernel_rfl) (.iface 75 (.agg #[.iface 84 (ptr q)])) (by go_simp) ?_
  simp only [Act.put, List.setIfInBounds_toArray, List.set_cons_zero, List.set_cons_succ]
  refine WL.val (by kernel_rfl) (.tuple #[.agg #[.iface 84 (ptr q)], .bool true]) (by go_simp) ?_
  simp only [Act.put, List.setIfInBounds_toArray, List.set_cons_zero, List.set_cons_succ]
  refine WL.val (by kernel_rfl) (.tuple #[.agg #[.iface 84 (ptr q)], .bool true]) (by go_simp) ?_
  simp only [Act.put, List.setIfInBounds_toArray, List.set_cons_zero, List.set_cons_succ]
  refine WL.val (by kernel_rfl) (.agg #[.iface 84 (ptr q)]) (by go_simp) ?_
  simp only [Act.put, List.setIfInBounds_toArray, List.set_cons_zero, List.set_cons_succ]
  refine WL.val (by kernel_rfl) (.bool true) (by go_simp) ?_
  simp only [Act.put, List.setIfInBounds_toArray, List.set_cons_zero, List.set_cons_succ]
  refine WL.new (by kernel_rfl) 75 rfl _ Try.new75 ?_
  have HX1 := Keep.mk (Blk.new w 75 #[.nilIface])
  have B1 := Keep.mk (below_new w (.cells #[.nilIface] 75))
  generalize w.alloc (.cells #[.nilIface] 75) = w1 at *
  simp only [Act.put, List.setIfInBounds_toArray, List.set_cons_zero, List.set_cons_succ]
  refine WL.storeR (by kernel_rfl) 75 (.tmp 3) (.tmp 8) rfl w.heap.size #[.iface 84 (ptr q)] rfl rfl 75 #[.nilIface] HX1.out Try.size75 rfl (by simp [Value.oneCell', ptr]) ?_
  have HX2 := Keep.mk (HX1.out.setRow #[.iface 84 (ptr q)])
  have B2 := Keep.mk (below_setRow B1.out (Nat.le_refl _) #[.iface 84 (ptr q)])
  generalize w1.setRow w.heap.size #[.iface 84 (ptr q)] = w2 at *
  have c0 := HX2.out.c 0 rfl
  simp only [Act.put]
  refine WL.val (by kernel_rfl) (.bool true) (by go_simp) ?_
  simp only [Act.put, List.setIfInBounds_toArray, List.set_cons_zero, List.set_cons_succ]
  refine WL.nil ?_
  refine hK3 _ _ ?_
  refine wp_seq_k fun K4 hK4 => ?_
  refine wp_region_list (WL.out ?_)
  refine WL.val (by kernel_rfl) (.bool true) (by go_simp) ?_
  simp only [Act.put, List.setIfInBounds_toArray, List.set_cons_zero, List.set_cons_succ]
  refine WL.nil ?_
  refine hK4 _ _ ?_
  refine wp_cond_true rfl ?_
  refine wp_seq_k fun K5 hK5 => ?_
  refine wp_region_list (WL.out ?_)
  refine WL.val (by kernel_rfl) (.pointer (some ⟨w.heap.size, 0, none⟩)) (by go_simp) ?_
  simp only [Act.put, List.setIfInBounds_toArray, List.set_cons_zero, List.set_cons_succ]
  refine WL.val (by kernel_rfl) (.iface 84 (ptr q)) (by go_simp) ?_
  simp only [Act.put, List.setIfInBounds_toArray, List.set_cons_zero, List.set_cons_succ]
  refine WL.val (by kernel_rfl) (.iface 84 (ptr q)) (by go_simp) ?_
  simp only [Act.put, List.setIfInBounds_toArray, List.set_cons_zero, List.set_cons_succ]
  refine WL.nil ?_
  refine hK5 _ _ ?_
  refine wp_ret ?_
  go_ret
  exact ⟨rfl, B2.out⟩
theorem catch_panicking (g2 g3 q : Nat) (old : Array Value) (w : World) (h2 : Blk w g2 32 old) (ho : old.size = 6) (h3 : Blk w g3 41 #[.nilIface]) :
    CallsD Try.prog 22 #[ptr g2, ptr g3] (.panicking [wr q]) w fun e u' w' => e = .returned (.tuple #[]) ∧ u' = .panicking [{ v := .iface 75 (.agg #[err q]), recovered := true }] ∧ Blk w' g2 32 (msA zeroC) ∧ Blk w' g3 41 #[err q] ∧ Grown w w' fun k => k = g2 ∨ k = g3 := by
  have H2 := Keep.mk h2
  have H3 := Keep.mk h3
  have Ho := Keep.mk ho
  have Hne : Keep (g2 ≠ g3) := ⟨blk_ne h2 h3 (by decide)⟩
  clear h2 h3 ho
  refine callsD_of_wpS Try.func22 rfl fun c₀ cs hu => ?_
  apply wpS_seq
  apply wpS_region
  unfold wr at hu
  simp [wpOpsS, go_sem, recoverD, hu, Try.ntmps22, Exit.thenS]
  apply wpS_seq
  apply wpS_region
  simp [wpOpsS, go_sem, Exit.thenS]
  refine wpS_cond (t := true) (by simp [Act.eval, Array.replicate]) ?_
  simp only [if_true]
  refine wpS_of_wp ?_
  refine wp_region_list (WL.out ?_)
  simp only [Array.replicate_succ, Array.replicate_zero, List.push_toArray, List.append_toArray, List.nil_append, List.cons_append, List.setIfInBounds_toArray, List.set_cons_zero, List.set_cons_succ]
  refine WL.bld (by kernel_rfl) 32 _ rfl [] (by simp) _ ms_built0 ?_
  simp only [Act.put, List.setIfInBounds_toArray, List.set_cons_zero, List.set_cons_succ]
  refine WL.val (by kernel_rfl) (.iface 75 (.agg #[err q])) (by go_simp) ?_
  simp only [Act.put, List.setIfInBounds_toArray, List.set_cons_zero, List.set_cons_succ]
  refine WL.callF (by kernel_rfl) 23 _ _ rfl Try.in23 #[.iface 75 (.agg #[err q])] (by simp [Act.eval]) ?_
  refine (caught_any q w).mono ?_
  rintro e w1 ⟨rfl, hb1⟩
  refine ⟨_, rfl, ?_⟩
  have B1 := Keep.mk hb1
  have H21 := Keep.mk (H2.out.below hb1 H2.out.lt)
  have H31 := Keep.mk (H3.out.below hb1 H3.out.lt)
  clear hb1
  simp only [Act.put, List.setIfInBounds_toArray, List.set_cons_zero, List.set_cons_succ]
  refine WL.storeR (by kernel_rfl) 32 (.tmp 0) (.tmp 6) rfl g2 (msA zeroC) rfl rfl 32 old H21.out (Try.size32B _) (by rw [Ho.out]; rfl) SlC.zero.one ?_
  have H22 := Keep.mk (H21.out.setRow (msA zeroC))
  have H32 := Keep.mk (H31.out.setRow_ne (b' := g2) (fun e => Hne.out e.symm) (msA zeroC))
  have G2 : Keep (Grown w (w1.setRow g2 (msA zeroC)) fun k => k = g2 ∨ k = g3) := ⟨(Grown.below B1.out).trans (Grown.setRow w1 g2 _ fun _ => .inl rfl)⟩
  generalize w1.setRow g2 (msA zeroC) = w2 at *
  simp only [Act.put]
  have c0 := H32.out.c 0 rfl
  have f0 := H32.out.frozen 0
  refine WL.cell (by kernel_rfl) (w2.setCell ⟨g3, 0, none⟩ (err q)) (by unfold err; go_simp) ?_
  have H33 := Keep.mk (H32.out.set 0 (err q))
  have H23 := Keep.mk (H22.out.set_ne (b' := g3) (j := 0) Hne.out (err q))
  have G3 : Keep (Grown w (w2.setCell ⟨g3, 0, none⟩ (err q)) fun k => k = g2 ∨ k = g3) := ⟨G2.out.trans (Grown.setCell w2 g3 0 _ fun _ => .inr rfl)⟩
  generalize w2.setCell ⟨g3, 0, none⟩ (err q) = w3 at *
  simp only [Act.put]
  refine WL.nil ?_
  exact ⟨rfl, _, rfl, _, results_none rfl _ _ _, rfl, rfl, H23.out, H33.out, G3.out⟩
theorem catch_idle (g2 g3 : Nat) (w : World) :
    CallsD Try.prog 22 #[ptr g2, ptr g3] .returning w fun e u' w' => e = .returned (.tuple #[]) ∧ u' = .returning ∧ w' = w := by
  refine callsD_of_wpS Try.func22 rfl fun c₀ cs hu => ?_
  apply wpS_seq
  apply wpS_region
  simp [wpOpsS, go_sem, recoverD, hu, Try.ntmps22, Exit.thenS]
  apply wpS_seq
  apply wpS_region
  simp [wpOpsS, go_sem, Exit.thenS]
  refine wpS_cond (t := false) (by simp [Act.eval, Array.replicate]) ?_
  simp only [Bool.false_eq_true, if_false]
  refine wpS_of_wp (wp_skip ?_)
  cases c₀
  simp_all [bodyPostS, results, Try.results22]
theorem load_err (w : World) (g : Nat) (x : Value) (h : Blk w g 41 #[x]) : (loadVar 41 ⟨g, 0, none⟩).run Try.prog w = .ok x w := by
  have c0 := h.c 0 rfl
  go_simp
theorem results_cells (tmps : Array Value) (w : World) (g g' : Nat) (cs : Array Value) (x : Value)
    (hp : tmps.getD 2 undef = .pointer (some ⟨g, 0, none⟩)) (hq : tmps.getD 3 undef = .pointer (some ⟨g', 0, none⟩)) (hg : Blk w g 32 cs) (hg' : Blk w g' 41 #[x]) (hi : cs.size = 6) :
    (results Try.f12 tmps).run Try.prog w = .ok (.tuple #[.agg cs, x]) w := by
  have hr := run_loadVar_row (P := Try.prog) w g 32 32 cs (0, 0) _ hg Try.underlying32 rfl (by rw [hi]; exact Try.size32)
  have hx := load_err w g' x hg'
  simp only [results, Try.results12]
  simp only [Array.getD_eq_getD_getElem?] at hp hq
  simp [Result.andThen, asAddr, hp, hq, hr, hx]
theorem below_of_grown {w w3 w4 w5 : World} {p g g3 : Nat} (h1 : Below w.heap.size w w3) (h2 : Grown w3 w4 fun k => k = p) (h3 : Grown w4 w5 fun k => k = g ∨ k = g3) (hp : w.heap.size ≤ p) (hg : w.heap.size ≤ g ∧ w.heap.size ≤ g3) : Below w.heap.size w w5 :=
  ⟨h3.os.trans (h2.os.trans h1.os), h3.tape.trans (h2.tape.trans h1.tape), h3.output.trans (h2.output.trans h1.output), Nat.le_trans h1.size (Nat.le_trans h2.size h3.size), fun k hk =>
    (h3.block k (Nat.lt_of_lt_of_le hk (Nat.le_trans h1.size h2.size)) (fun e => by rcases e with rfl | rfl <;> omega)).trans ((h2.block k (Nat.lt_of_lt_of_le hk h1.size) (fun e => by omega)).trans (h1.block k hk))⟩
theorem DecAt.mono {b0 b1 : Nat} {w : World} {M : MsgV} {c : MC} (h : DecAt b1 w M c) (hb : b0 ≤ b1) : DecAt b0 w M c :=
  ⟨h.k, h.s, h.hd, fun k hk => Nat.le_trans hb (h.hdf k hk), h.bl, fun k hk => Nat.le_trans hb (h.blf k hk), h.wt, fun k hk => Nat.le_trans hb (h.wtf k hk), h.bk.mono hb⟩
def DecPost (l : List Int) (w : World) (e : Ending) (w' : World) : Prop :=
  Below w.heap.size w w' ∧ ((2097152 < l.length ∧ e = .returned (.tuple #[.agg (msA zeroC), .iface 24 (.int .i64 4)]))
  ∨ (l.length ≤ 2097152 ∧ (decM l).1 = 0 ∧ ∃ c, e = .returned (.tuple #[.agg (msA c), .nilIface]) ∧ DecAt w.heap.size w' (decM l).2.2 c)
  ∨ (l.length ≤ 2097152 ∧ (decM l).1 ≠ 0 ∧ ∃ q, w.heap.size ≤ q ∧ e = .returned (.tuple #[.agg (msA zeroC), err q]) ∧ BadAt w' q (decM l).1 (decM l).2.1))
set_option maxRecDepth 8000 in
set_option maxHeartbeats 4000000 in
theorem decode_wide (v : Value) (l : List Int) (w : World) (hr : RowAt w v l) (hB : Byts l) (hln : l.length ≤ 9000000000000000000) : Calls Try.prog 12 #[v] w (DecPost l w) := by
  obtain ⟨va, vc, rfl⟩ := row_form hr
  have HR := Keep.mk hr
  have hmf : ∀ (fn : Fn) (first cap : Array Value) (w : World), (Instr.makeFunc fn first cap).run Try.prog w = .ok (.func fn first cap) w := fun _ _ _ _ => rfl
  have Hlst : Keep (lst (strOfNums l) = l) := ⟨lst_nums hB⟩
  have HSz : Keep ((strOfNums l).size = l.length) := ⟨by rw [← lst_len, lst_nums hB]⟩
  clear hr hB
  go_enter_defers Try.func12, Try.ntmps12
  refine wp_seq_k fun K1 hK1 => ?_
  refine wp_region_list (WL.out ?_)
  refine WL.new (by kernel_rfl) 32 rfl _ Try.new32M ?_
  have HN1 := Keep.mk (Blk.new w 32 (msA zeroC))
  have B1 := Keep.mk (below_new w (.cells (msA zeroC) 32))
  generalize w.alloc (.cells (msA zeroC) 32) = w1 at *
  simp only [Act.put, List.setIfInBounds_toArray, List.set_cons_zero, List.set_cons_succ]
  refine WL.new (by kernel_rfl) 41 rfl _ Try.new41 ?_
  have HN2 := Keep.mk (HN1.out.alloc (.cells #[.nilIface] 41))
  have HE2 := Keep.mk (Blk.new w1 41 #[.nilIface])
  have B2 : Keep (Below w.heap.size w (w1.alloc (.cells #[.nilIface] 41))) := ⟨B1.out.trans ((below_new w1 _).mono B1.out.size)⟩
  have Hg : Keep (w.heap.size < w1.heap.size) := ⟨HN1.out.lt⟩
  generalize w1.alloc (.cells #[.nilIface] 41) = w2 at *
  generalize w1.heap.size = g3 at *
  simp only [Act.put, List.setIfInBounds_toArray, List.set_cons_zero, List.set_cons_succ]
  refine WL.nil ?_
  refine hK1 _ _ ?_
  refine wp_seq_k fun K2 hK2 => ?_
  refine wp_seq_k fun K3 hK3 => ?_
  refine wp_region_list (WL.out ?_)
  refine WL.val (by kernel_rfl) (.slice va l.length vc) (by go_simp) ?_
  simp only [Act.put, List.setIfInBounds_toArray, List.set_cons_zero, List.set_cons_succ]
  refine WL.val (by kernel_rfl) (.int .i64 (l.length : Int)) (by go_simp) ?_
  simp only [Act.put, List.setIfInBounds_toArray, List.set_cons_zero, List.set_cons_succ]
  by_cases h1_2 : 2097152 < l.length
  · have h1_2i : (2097152 : Int) < (l.length : Int) := by omega
    refine WL.val (by kernel_rfl) (.bool true) (by go_simp) ?_
    simp only [Act.put, List.setIfInBounds_toArray, List.set_cons_zero, List.set_cons_succ]
    refine WL.nil ?_
    refine hK3 _ _ ?_
    refine wp_cond_true rfl ?_
    refine wp_seq_k fun K4 hK4 => ?_
    refine wp_region_list (WL.out ?_)
    refine WL.bld (by kernel_rfl) 32 _ rfl [] (by simp) _ ms_built0 ?_
    simp only [Act.put, List.setIfInBounds_toArray, List.set_cons_zero, List.set_cons_succ]
    refine WL.val (by kernel_rfl) (.iface 24 (.int .i64 4)) (by go_simp) ?_
    simp only [Act.put, List.setIfInBounds_toArray, List.set_cons_zero, List.set_cons_succ]
    refine WL.storeR (by kernel_rfl) 32 (.tmp 2) (.tmp 7) rfl w.heap.size (msA zeroC) rfl rfl 32 (msA zeroC) HN2.out (Try.size32B _) rfl SlC.zero.one ?_
    have HN4 := Keep.mk (HN2.out.setRow (msA zeroC))
    have HE4 := Keep.mk (HE2.out.setRow_ne (b' := w.heap.size) (by have := Hg.out; omega) (msA zeroC))
    have B4 : Keep (Below w.heap.size w (w2.setRow w.heap.size (msA zeroC))) := ⟨below_setRow B2.out (Nat.le_refl _) _⟩
    generalize w2.setRow w.heap.size (msA zeroC) = w4 at *
    have c0 := HE4.out.c 0 rfl
    have f0 := HE4.out.frozen 0
    simp only [Act.put]
    refine WL.cell (by kernel_rfl) (w4.setCell ⟨g3, 0, none⟩ (.iface 24 (.int .i64 4))) (by go_simp) ?_
    have HE5 := Keep.mk (HE4.out.set 0 (.iface 24 (.int .i64 4)))
    have HN5 := Keep.mk (HN4.out.set_ne (b' := g3) (j := 0) (by have := Hg.out; omega) (.iface 24 (.int .i64 4)))
    have B5 : Keep (Below w.heap.size w (w4.setCell ⟨g3, 0, none⟩ (.iface 24 (.int .i64 4)))) := ⟨B4.out.setCell (by show w.heap.size ≤ g3; have := Hg.out; omega) _⟩
    generalize w4.setCell ⟨g3, 0, none⟩ (.iface 24 (.int .i64 4)) = w5 at *
    simp only [Act.put]
    refine WL.nil ?_
    refine hK4 _ _ ?_
    refine wp_ret ?_
    try simp only [Exit.inBlock, Exit.then]
    refine ⟨.tuple #[.agg (msA zeroC), .iface 24 (.int .i64 4)], results_cells _ _ w.heap.size g3 _ _ rfl rfl HN5.out HE5.out rfl, ?_⟩
    exact ⟨B5.out, .inl ⟨h1_2, rfl⟩⟩
  · have h1_2i : ¬ (2097152 : Int) < (l.length : Int) := by omega
    refine WL.val (by kernel_rfl) (.bool false) (by go_simp) ?_
    simp only [Act.put, List.setIfInBounds_toArray, List.set_cons_zero, List.set_cons_succ]
    refine WL.nil ?_
    refine hK3 _ _ ?_
    refine wp_cond_false rfl ?_
    refine wp_skip ?_
    refine hK2 _ _ ?_
    refine wp_seq_k fun K5 hK5 => ?_
    have HNl : Keep (¬ 2097152 < l.length) := ⟨h1_2⟩
    have HS : Keep ((strOfNums l).size ≤ 140737488355328) := ⟨by rw [HSz.out]; omega⟩
    refine wp_region_list (WL.out ?_)
    refine WL.val (by kernel_rfl) (.func (.func 22) #[] #[.pointer (some ⟨w.heap.size, 0, none⟩), .pointer (some ⟨g3, 0, none⟩)]) (by go_simp) ?_
    simp only [Act.put, List.setIfInBounds_toArray, List.set_cons_zero, List.set_cons_succ]
    refine WL.defer (by kernel_rfl) { target := .fn (.func 22) #[.pointer (some ⟨w.heap.size, 0, none⟩), .pointer (some ⟨g3, 0, none⟩)], args := #[] } (by go_simp) ?_
    simp only [Act.put]
    refine WL.nil ?_
    refine hK5 _ _ ?_
    refine wp_seq_k fun K6 hK6 => ?_
    refine wp_region_list (WL.out ?_)
    refine WL.val (by kernel_rfl) (.slice va l.length vc) (by go_simp) ?_
    simp only [Act.put, List.setIfInBounds_toArray, List.set_cons_zero, List.set_cons_succ]
    refine WL.callF (by kernel_rfl) 25 _ _ rfl Try.in25 #[.slice va l.length vc] (by simp [Act.eval]) ?_
    refine (newIn_any _ l w2 (HR.out.below B2.out)).mono ?_
    rintro e w4 ⟨rfl, hw4⟩
    refine ⟨_, rfl, ?_⟩
    rw [hw4]
    clear hw4 w4
    have HI3 : Keep (InAt (w2.alloc (.cells #[.string (strOfNums l), .int .i64 0, .pointer none] 86)) w2.heap.size (strOfNums l) 0 none) := ⟨Blk.new w2 86 _, Nat.zero_le _⟩
    have HN3 := Keep.mk (HN2.out.alloc (.cells #[.string (strOfNums l), .int .i64 0, .pointer none] 86))
    have HE3 := Keep.mk (HE2.out.alloc (.cells #[.string (strOfNums l), .int .i64 0, .pointer none] 86))
    have B3 : Keep (Below w.heap.size w (w2.alloc (.cells #[.string (strOfNums l), .int .i64 0, .pointer none] 86))) := ⟨B2.out.trans ((below_new w2 _).mono B2.out.size)⟩
    have Hp : Keep (g3 < w2.heap.size) := ⟨HE2.out.lt⟩
    generalize w2.alloc (.cells #[.string (strOfNums l), .int .i64 0, .pointer none] 86) = w3 at *
    generalize w2.heap.size = p at *
    simp only [Act.put, List.setIfInBounds_toArray, List.set_cons_zero, List.set_cons_succ]
    refine WL.callP (by kernel_rfl) 24 _ _ rfl Try.in24 #[ptr p] (by simp [Act.eval]) ?_
    refine (readMessage_any p (strOfNums l) w3 HI3.out HS.out).mono ?_
    rw [Hlst.out]
    rintro e w4 (⟨e1, c, rfl, h2, h8⟩ | hgv)
    rotate_left
    · have hne := hgv.1
      obtain ⟨q, hq, rfl, hbad, hgr⟩ := hgv.2
      refine .inr ⟨_, rfl, ?_⟩
      try simp only [Exit.inBlock, Exit.then]
      refine leaves_cons (f := 22) (args := #[ptr w.heap.size, ptr g3]) (by simp) (by simp [go_sem, ptr]) ?_
      refine (catch_panicking w.heap.size g3 q (msA zeroC) w4 (hgr.blk HN3.out (blk_ne HN3.out HI3.out.blk (by decide))) rfl (hgr.blk HE3.out (blk_ne HE3.out HI3.out.blk (by decide)))).mono ?_
      rintro e u' w5 ⟨rfl, rfl, i2, i3, i4⟩
      simp only [settle, List.dropWhile]
      refine ⟨.tuple #[.agg (msA zeroC), err q], results_cells _ _ w.heap.size g3 _ _ rfl rfl i2 i3 rfl, ?_⟩
      have hbl : Below w.heap.size w w5 := below_of_grown B3.out hgr i4 (by have := B3.out.size; have := Hp.out; have := Hg.out; omega) (by have := Hg.out; omega)
      refine ⟨hbl, .inr (.inr ⟨by have := HNl.out; omega, hne, q, Nat.le_trans B3.out.size hq, rfl, ?_⟩)⟩
      exact i4.blk hbad (fun e => by rcases e with rfl | rfl; exact (blk_ne hbad (hgr.blk HN3.out (blk_ne HN3.out HI3.out.blk (by decide))) (by decide)) rfl; exact (blk_ne hbad (hgr.blk HE3.out (blk_ne HE3.out HI3.out.blk (by decide))) (by decide)) rfl)
    refine .inl ⟨_, rfl, ?_⟩
    have HE1 := Keep.mk e1
    have HN4 := Keep.mk (h8.blk HN3.out (blk_ne HN3.out HI3.out.blk (by decide)))
    have HE4 := Keep.mk (h8.blk HE3.out (blk_ne HE3.out HI3.out.blk (by decide)))
    have HD4 := Keep.mk h2
    have HG4 := Keep.mk h8
    clear h2 h8 e1
    simp only [Act.put, List.setIfInBounds_toArray, List.set_cons_zero, List.set_cons_succ]
    refine WL.storeR (by kernel_rfl) 32 (.tmp 2) (.tmp 12) rfl w.heap.size (msA c) rfl rfl 32 (msA zeroC) HN4.out (Try.size32B _) rfl (SlC.one HD4.out.ms.sl) ?_
    have HN5 := Keep.mk (HN4.out.setRow (msA c))
    have HE5 := Keep.mk (HE4.out.setRow_ne (b' := w.heap.size) (by have := Hg.out; omega) (msA c))
    have Gs : Grown w4 (w4.setRow w.heap.size (msA c)) fun k => k = w.heap.size ∨ k = g3 := Grown.setRow w4 w.heap.size _ fun _ => .inl rfl
    have HD5 := Keep.mk (HD4.out.grown Gs (fun k hk e => by rcases e with rfl | rfl; exact (typ_ne HN4.out hk (by decide) (by decide) (by decide)) rfl; exact (typ_ne HE4.out hk (by decide) (by decide) (by decide)) rfl))
    have GG := Keep.mk Gs
    generalize w4.setRow w.heap.size (msA c) = w5 at *
    have c0 := HE5.out.c 0 rfl
    have f0 := HE5.out.frozen 0
    clear Gs
    simp only [Act.put]
    refine WL.cell (by kernel_rfl) (w5.setCell ⟨g3, 0, none⟩ .nilIface) (by go_simp) ?_
    have HE6 := Keep.mk (HE5.out.set 0 .nilIface)
    have HN6 := Keep.mk (HN5.out.set_ne (b' := g3) (j := 0) (by have := Hg.out; omega) .nilIface)
    have Gs : Grown w5 (w5.setCell ⟨g3, 0, none⟩ .nilIface) fun k => k = w.heap.size ∨ k = g3 := Grown.setCell w5 g3 0 _ fun _ => .inr rfl
    have HD6 := Keep.mk (HD5.out.grown Gs (fun k hk e => by rcases e with rfl | rfl; exact (typ_ne HN5.out hk (by decide) (by decide) (by decide)) rfl; exact (typ_ne HE5.out hk (by decide) (by decide) (by decide)) rfl))
    have GG2 := Keep.mk (GG.out.trans Gs)
    generalize w5.setCell ⟨g3, 0, none⟩ .nilIface = w6 at *
    simp only [Act.put]
    refine WL.nil ?_
    refine hK6 _ _ ?_
    refine wp_ret ?_
    try simp only [Exit.inBlock, Exit.then]
    refine leaves_cons (f := 22) (args := #[ptr w.heap.size, ptr g3]) (by simp) (by simp [go_sem, ptr]) ?_
    refine (catch_idle w.heap.size g3 _).mono ?_
    rintro e u' w7 ⟨rfl, rfl, rfl⟩
    simp only [settle]
    refine ⟨.tuple #[.agg (msA c), .nilIface], results_cells _ _ w.heap.size g3 _ _ rfl rfl HN6.out HE6.out rfl, ?_⟩
    have hbl : Below w.heap.size w w7 := below_of_grown B3.out HG4.out GG2.out (by have := B3.out.size; have := Hp.out; have := Hg.out; omega) (by have := Hg.out; omega)
    exact ⟨hbl, .inr (.inl ⟨by have := HNl.out; omega, HE1.out, c, rfl, HD6.out.mono B3.out.size⟩)⟩
theorem decode_any (v : Value) (l : List Int) (w : World) (hr : RowAt w v l) (hB : Byts l) (hln : l.length ≤ 140737488355328) : Calls Try.prog 12 #[v] w (DecPost l w) := decode_wide v l w hr hB (by omega)
def mA : MsgV := ⟨3, [], 0, [], [], [[1], [2, 3]]⟩
theorem mA_chk : chkM mA = 0 := by decide
theorem mA_enc : encM mA = [3, 2, 1, 1, 2, 2, 3] := by decide
theorem mA_str : strOfNums [3, 2, 1, 1, 2, 2, 3] = { data := #[3, 2, 1, 1, 2, 2, 3] } := by kernel_rfl
theorem mB_dec : decM [2, 0] = (0, 2, { zeroM with k := 2 }) := by kernel_rfl
theorem byB : Byts [2, 0] := fun c hc => by simp at hc; omega
theorem mA_built (a : Option Addr) (n c : Nat) : Try.prog.built 32 [(0, .int .i64 3), (5, .slice a n c)] = some (msA ⟨3, noS, 0, noS, noS, .slice a n c⟩) := by kernel_rfl
theorem bsA1 (w : World) : (Instr.buildSlice 30 1 #[(0, .int .u8 1)]).run Try.prog w = .ok (.slice (some ⟨w.heap.size, 0, none⟩) 1 1) (w.alloc (.cells (bv [1]).toArray 5)) := by kernel_rfl
theorem bsA2 (w : World) : (Instr.buildSlice 30 2 #[(0, .int .u8 2), (1, .int .u8 3)]).run Try.prog w = .ok (.slice (some ⟨w.heap.size, 0, none⟩) 2 2) (w.alloc (.cells (bv [2, 3]).toArray 5)) := by kernel_rfl
theorem bsA3 (w : World) : (Instr.buildSlice 30 2 #[(0, .int .u8 2), (1, .int .u8 0)]).run Try.prog w = .ok (.slice (some ⟨w.heap.size, 0, none⟩) 2 2) (w.alloc (.cells (bv [2, 0]).toArray 5)) := by kernel_rfl
theorem bsA4 (a b : Option Addr) (n m c d : Nat) (w : World) : (Instr.buildSlice 22 2 #[(0, .slice a n c), (1, .slice b m d)]).run Try.prog w = .ok (.slice (some ⟨w.heap.size, 0, none⟩) 2 2) (w.alloc (.cells #[.slice a n c, .slice b m d] 30)) := by kernel_rfl
theorem row_of {w : World} {g : Nat} {T : TypeId} {l : List Int} {n : Nat} (h : Blk w g T (bv l).toArray) (hn : n = l.length) : RowAt w (.slice (some ⟨g, 0, none⟩) n n) l := by
  subst hn
  refine .inr (.inr ⟨g, 0, l.length, rfl, Nat.le_refl _, fun i hi => ?_⟩)
  rw [Nat.zero_add, h.cell, List.getElem?_toArray]
  exact bv_get l i hi
theorem rws_two {w : World} {g : Nat} {va vb : Value} {la lb : List Int} (h : Blk w g 30 #[va, vb]) (ha : RowAt w va la) (hb : RowAt w vb lb) : RwsAt w (.slice (some ⟨g, 0, none⟩) 2 2) [la, lb] := by
  refine ⟨fun i => if i = 0 then va else vb, .inr ⟨g, 0, 2, rfl, Nat.le_refl _, fun i hi => ?_⟩, fun i hi => ?_⟩
  · have : i = 0 ∨ i = 1 := by simp at hi; omega
    rcases this with rfl | rfl
    · rw [h.cell]; rfl
    · rw [h.cell]; rfl
  · have : i = 0 ∨ i = 1 := by simp at hi; omega
    rcases this with rfl | rfl
    · exact ha
    · exact hb
theorem hrow_nil (w : World) : Sh.HRow w noS [] := OwnH.row (show OwnH w noS [] from ⟨rfl, .inl ⟨rfl, rfl⟩⟩)
theorem mA_ok : MsOk mA where
  k := by decide
  s := by decide
  hd := by decide
  bl := by decide
  wt := by decide
  bk := by decide
  blB := fun c hc => by simp [mA] at hc
  rows := fun i hi => by
    have : i = 0 ∨ i = 1 := by simp [mA] at hi; omega
    rcases this with rfl | rfl <;> decide
  bkB := fun r hr c hc => by
    simp [mA] at hr
    rcases hr with rfl | rfl <;> simp at hc <;> omega
theorem Try.in5 (w : World) (vs : Array Value) : (callFunc 5 vs).run Try.prog w = .ok (.enter 5 vs) w := by kernel_rfl
set_option maxRecDepth 8000 in
set_option maxHeartbeats 2000000 in
theorem fixed_any (w : World) : Calls Try.prog 5 #[] w fun e w' => e = .returned (.bool true) ∧ Below w.heap.size w w' := by
  go_enter Try.func5, Try.ntmps5
  refine wp_seq_k fun K1 hK1 => ?_
  refine wp_region_list (WL.out ?_)
  refine WL.val (by kernel_rfl) (.bool false) (by go_simp) ?_
  simp only [Act.put, List.setIfInBounds_toArray, List.set_cons_zero, List.set_cons_succ]
  refine WL.nil ?_
  refine hK1 _ _ ?_
  refine wp_seq_k fun K2 hK2 => ?_
  refine wp_region_list (WL.out ?_)
  refine WL.bs (by kernel_rfl) 30 1 _ rfl _ (by simp [Act.eval]) _ _ (bsA1 w) ?_
  have HRw1 := Keep.mk (row_of (Blk.new w 5 (bv [1]).toArray) (n := 1) rfl)
  have Bzw1 : Keep (Below w.heap.size w (w.alloc (.cells (bv [1]).toArray 5))) := ⟨below_new w _⟩
  generalize w.alloc (.cells (bv [1]).toArray 5) = w1 at *
  generalize w.heap.size = gw1 at HRw1 ⊢
  simp only [Act.put, List.setIfInBounds_toArray, List.set_cons_zero, List.set_cons_succ]
  refine WL.bs (by kernel_rfl) 30 2 _ rfl _ (by simp [Act.eval]) _ _ (bsA2 w1) ?_
  have HRw2 := Keep.mk (row_of (Blk.new w1 5 (bv [2, 3]).toArray) (n := 2) rfl)
  have Bzw2 : Keep (Below w1.heap.size w1 (w1.alloc (.cells (bv [2, 3]).toArray 5))) := ⟨below_new w1 _⟩
  generalize w1.alloc (.cells (bv [2, 3]).toArray 5) = w2 at *
  generalize w1.heap.size = gw2 at HRw2 ⊢
  simp only [Act.put, List.setIfInBounds_toArray, List.set_cons_zero, List.set_cons_succ]
  refine WL.bs (by kernel_rfl) 22 2 _ rfl _ (by simp [Act.eval]) _ _ (bsA4 (some ⟨gw1, 0, none⟩) (some ⟨gw2, 0, none⟩) 1 2 1 2 w2) ?_
  have HK3 := Keep.mk (Blk.new w2 30 #[.slice (some ⟨gw1, 0, none⟩) 1 1, .slice (some ⟨gw2, 0, none⟩) 2 2])
  have Bz3 : Keep (Below w2.heap.size w2 (w2.alloc (.cells #[.slice (some ⟨gw1, 0, none⟩) 1 1, .slice (some ⟨gw2, 0, none⟩) 2 2] 30))) := ⟨below_new w2 _⟩
  have B3 : Keep (Below w.heap.size w (w2.alloc (.cells #[.slice (some ⟨gw1, 0, none⟩) 1 1, .slice (some ⟨gw2, 0, none⟩) 2 2] 30))) := ⟨(Bzw1.out.trans ((Bzw2.out).mono Bzw1.out.size)).trans (Bz3.out.mono (Nat.le_trans Bzw1.out.size Bzw2.out.size))⟩
  have HW3 : Keep (RwsAt (w2.alloc (.cells #[.slice (some ⟨gw1, 0, none⟩) 1 1, .slice (some ⟨gw2, 0, none⟩) 2 2] 30)) (.slice (some ⟨w2.heap.size, 0, none⟩) 2 2) [[1], [2, 3]]) := ⟨rws_two HK3.out ((HRw1.out.below Bzw2.out).below Bz3.out) (HRw2.out.below Bz3.out)⟩
  generalize w2.alloc (.cells #[.slice (some ⟨gw1, 0, none⟩) 1 1, .slice (some ⟨gw2, 0, none⟩) 2 2] 30) = w3 at *
  generalize w2.heap.size = g3 at HW3 ⊢
  clear HK3 Bz3 HRw1 HRw2 Bzw1 Bzw2
  simp only [Act.put, List.setIfInBounds_toArray, List.set_cons_zero, List.set_cons_succ]
  refine WL.bld (by kernel_rfl) 32 _ rfl [(0, .int .i64 3), (5, .slice (some ⟨g3, 0, none⟩) 2 2)] (by simp [Act.eval]) _ (mA_built _ _ _) ?_
  simp only [Act.put, List.setIfInBounds_toArray, List.set_cons_zero, List.set_cons_succ]
  refine WL.callF (by kernel_rfl) 11 _ _ rfl Try.in11 #[.agg (msA ⟨3, noS, 0, noS, noS, .slice (some ⟨g3, 0, none⟩) 2 2⟩)] (by simp [Act.eval]) ?_
  refine (encode_any mA ⟨3, noS, 0, noS, noS, .slice (some ⟨g3, 0, none⟩) 2 2⟩ w3 ⟨rfl, rfl, hrow_nil _, .inl ⟨rfl, rfl⟩, hrow_nil _, HW3.out⟩ mA_ok).mono ?_
  rintro e w4 ⟨v, rfl, hv, hb4⟩
  refine ⟨_, rfl, ?_⟩
  rw [mA_chk, mA_enc] at hv
  obtain ⟨ga, hga, _, hbl⟩ : FreshB w3 w4 v [3, 2, 1, 1, 2, 2, 3] := by
    rcases hv with h | h
    · exact h.2
    · exact absurd rfl h.1
  subst hga
  rw [mA_chk]
  have HA4 := Keep.mk (row_of hbl (n := 7) rfl)
  have B4 : Keep (Below w.heap.size w w4) := ⟨B3.out.trans (hb4.mono B3.out.size)⟩
  clear hv hbl hb4 HW3
  simp only [Act.put, List.setIfInBounds_toArray, List.set_cons_zero, List.set_cons_succ]
  refine WL.val (by kernel_rfl) (.tuple #[.slice (some ⟨ga, 0, none⟩) 7 7, .int .i64 0]) (by go_simp) ?_
  simp only [Act.put, List.setIfInBounds_toArray, List.set_cons_zero, List.set_cons_succ]
  refine WL.val (by kernel_rfl) (.slice (some ⟨ga, 0, none⟩) 7 7) (by go_simp) ?_
  simp only [Act.put, List.setIfInBounds_toArray, List.set_cons_zero, List.set_cons_succ]
  refine WL.val (by kernel_rfl) (.int .i64 0) (by go_simp) ?_
  simp only [Act.put, List.setIfInBounds_toArray, List.set_cons_zero, List.set_cons_succ]
  refine WL.val (by kernel_rfl) (.slice (some ⟨ga, 0, none⟩) 7 7) (by go_simp) ?_
  simp only [Act.put, List.setIfInBounds_toArray, List.set_cons_zero, List.set_cons_succ]
  refine WL.val (by kernel_rfl) (.int .i64 0) (by go_simp) ?_
  simp only [Act.put, List.setIfInBounds_toArray, List.set_cons_zero, List.set_cons_succ]
  refine WL.nil ?_
  refine hK2 _ _ ?_
  refine wp_seq_k fun K3 hK3 => ?_
  refine wp_region_list (WL.out ?_)
  refine WL.bs (by kernel_rfl) 30 2 _ rfl _ (by simp [Act.eval]) _ _ (bsA3 w4) ?_
  have HRw5 := Keep.mk (row_of (Blk.new w4 5 (bv [2, 0]).toArray) (n := 2) rfl)
  have Bzw5 : Keep (Below w4.heap.size w4 (w4.alloc (.cells (bv [2, 0]).toArray 5))) := ⟨below_new w4 _⟩
  generalize w4.alloc (.cells (bv [2, 0]).toArray 5) = w5 at *
  generalize w4.heap.size = gw5 at HRw5 ⊢
  have HA5 := Keep.mk (HA4.out.below Bzw5.out)
  have B5 : Keep (Below w.heap.size w w5) := ⟨B4.out.trans (Bzw5.out.mono B4.out.size)⟩
  simp only [Act.put, List.setIfInBounds_toArray, List.set_cons_zero, List.set_cons_succ]
  refine WL.callF (by kernel_rfl) 12 _ _ rfl Try.in12 #[.slice (some ⟨gw5, 0, none⟩) 2 2] (by simp [Act.eval]) ?_
  refine (decode_any _ [2, 0] w5 HRw5.out byB (by decide)).mono ?_
  rintro e w6 ⟨hb6, h1⟩
  rw [mB_dec] at h1
  obtain ⟨c, rfl, hD⟩ : ∃ c, e = .returned (.tuple #[.agg (msA c), .nilIface]) ∧ DecAt w5.heap.size w6 { zeroM with k := 2 } c := by
    rcases h1 with h | h | h
    · exact absurd h.1 (by decide)
    · exact h.2.2
    · exact absurd rfl h.2.1
  refine ⟨_, rfl, ?_⟩
  have Hck : Keep (c.k = 2) := ⟨hD.k⟩
  have Hsl := Keep.mk hD.ms.sl
  have HA6 := Keep.mk (HA5.out.below hb6)
  have B6 : Keep (Below w.heap.size w w6) := ⟨B5.out.trans (hb6.mono B5.out.size)⟩
  clear h1 hD hb6
  simp only [Act.put, List.setIfInBounds_toArray, List.set_cons_zero, List.set_cons_succ]
  refine WL.val (by kernel_rfl) (.tuple #[.agg (msA c), .nilIface]) (by go_simp) ?_
  simp only [Act.put, List.setIfInBounds_toArray, List.set_cons_zero, List.set_cons_succ]
  refine WL.val (by kernel_rfl) (.agg (msA c)) (by go_simp) ?_
  simp only [Act.put, List.setIfInBounds_toArray, List.set_cons_zero, List.set_cons_succ]
  refine WL.val (by kernel_rfl) (.nilIface) (by go_simp) ?_
  simp only [Act.put, List.setIfInBounds_toArray, List.set_cons_zero, List.set_cons_succ]
  refine WL.new (by kernel_rfl) 32 rfl _ Try.new32M ?_
  have HM7 := Keep.mk (Blk.new w6 32 (msA zeroC))
  have HA7 := Keep.mk (HA6.out.below (below_new w6 (.cells (msA zeroC) 32)))
  have B7 : Keep (Below w.heap.size w (w6.alloc (.cells (msA zeroC) 32))) := ⟨B6.out.trans ((below_new w6 _).mono B6.out.size)⟩
  have Hg7 : Keep (w.heap.size ≤ w6.heap.size ∧ ga < w6.heap.size) := ⟨B6.out.size, row_lt HA6.out (by decide) rfl⟩
  generalize w6.alloc (.cells (msA zeroC) 32) = w7 at *
  generalize w6.heap.size = g7 at *
  simp only [Act.put, List.setIfInBounds_toArray, List.set_cons_zero, List.set_cons_succ]
  refine WL.storeR (by kernel_rfl) 32 (.tmp 3) (.tmp 16) rfl g7 (msA c) rfl rfl 32 (msA zeroC) HM7.out (Try.size32B _) rfl Hsl.out.one ?_
  have HM8 := Keep.mk (HM7.out.setRow (msA c))
  have HA8 := Keep.mk (HA7.out.grown (Grown.setRow w7 g7 (msA c) (S := fun k => k = g7) fun _ => rfl) (fun b hb hl e => by have h := Hg7.out; simp [Value.ownBlock] at hb; omega))
  have B8 : Keep (Below w.heap.size w (w7.setRow g7 (msA c))) := ⟨below_setRow B7.out Hg7.out.1 _⟩
  generalize w7.setRow g7 (msA c) = w8 at *
  have d0 := HM8.out.c 0 (ms_0 c)
  rw [Hck.out] at d0
  have hcv := conv_row _ _ w8 HA8.out
  rw [mA_str] at hcv
  simp only [Act.put]
  refine WL.val (by kernel_rfl) (.nilIface) (by go_simp) ?_
  simp only [Act.put, List.setIfInBounds_toArray, List.set_cons_zero, List.set_cons_succ]
  refine WL.nil ?_
  refine hK3 _ _ ?_
  refine wp_seq_k fun K4 hK4 => ?_
  refine wp_region_list (WL.out ?_)
  refine WL.val (by kernel_rfl) (.int .i64 0) (by go_simp) ?_
  simp only [Act.put, List.setIfInBounds_toArray, List.set_cons_zero, List.set_cons_succ]
  refine WL.val (by kernel_rfl) (.bool true) (by go_simp) ?_
  simp only [Act.put, List.setIfInBounds_toArray, List.set_cons_zero, List.set_cons_succ]
  refine WL.val (by kernel_rfl) (.bool true) (by go_simp) ?_
  simp only [Act.put, List.setIfInBounds_toArray, List.set_cons_zero, List.set_cons_succ]
  refine WL.val (by kernel_rfl) (.slice (some ⟨ga, 0, none⟩) 7 7) (by go_simp) ?_
  simp only [Act.put, List.setIfInBounds_toArray, List.set_cons_zero, List.set_cons_succ]
  refine WL.val (by kernel_rfl) (.string { data := #[3, 2, 1, 1, 2, 2, 3] }) (by go_simp) ?_
  simp only [Act.put, List.setIfInBounds_toArray, List.set_cons_zero, List.set_cons_succ]
  refine WL.val (by kernel_rfl) (.bool true) (by go_simp) ?_
  simp only [Act.put, List.setIfInBounds_toArray, List.set_cons_zero, List.set_cons_succ]
  refine WL.val (by kernel_rfl) (.bool true) (by go_simp) ?_
  simp only [Act.put, List.setIfInBounds_toArray, List.set_cons_zero, List.set_cons_succ]
  refine WL.val (by kernel_rfl) (.bool true) (by go_simp) ?_
  simp only [Act.put, List.setIfInBounds_toArray, List.set_cons_zero, List.set_cons_succ]
  refine WL.val (by kernel_rfl) (.nilIface) (by go_simp) ?_
  simp only [Act.put, List.setIfInBounds_toArray, List.set_cons_zero, List.set_cons_succ]
  refine WL.val (by kernel_rfl) (.bool true) (by go_simp) ?_
  simp only [Act.put, List.setIfInBounds_toArray, List.set_cons_zero, List.set_cons_succ]
  refine WL.val (by kernel_rfl) (.bool true) (by go_simp) ?_
  simp only [Act.put, List.setIfInBounds_toArray, List.set_cons_zero, List.set_cons_succ]
  refine WL.val (by kernel_rfl) (.bool true) (by go_simp) ?_
  simp only [Act.put, List.setIfInBounds_toArray, List.set_cons_zero, List.set_cons_succ]
  refine WL.val (by kernel_rfl) (.pointer (some ⟨g7, 0, none⟩)) (by go_simp) ?_
  simp only [Act.put, List.setIfInBounds_toArray, List.set_cons_zero, List.set_cons_succ]
  refine WL.val (by kernel_rfl) (.int .i64 2) (by go_simp) ?_
  simp only [Act.put, List.setIfInBounds_toArray, List.set_cons_zero, List.set_cons_succ]
  refine WL.val (by kernel_rfl) (.bool true) (by go_simp) ?_
  simp only [Act.put, List.setIfInBounds_toArray, List.set_cons_zero, List.set_cons_succ]
  refine WL.val (by kernel_rfl) (.bool true) (by go_simp) ?_
  simp only [Act.put, List.setIfInBounds_toArray, List.set_cons_zero, List.set_cons_succ]
  refine WL.val (by kernel_rfl) (.bool true) (by go_simp) ?_
  simp only [Act.put, List.setIfInBounds_toArray, List.set_cons_zero, List.set_cons_succ]
  refine WL.nil ?_
  refine hK4 _ _ ?_
  refine wp_ret ?_
  go_ret
  exact ⟨rfl, B8.out⟩
end Go.Proofs.Ytkcdoamohiaiaaa
