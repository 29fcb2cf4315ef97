import Derived.Test.YteecdcocgflklaaDoorA06
namespace Go.Proofs.YteecdcocgflklaaDoor
open Go.RowKit
set_option linter.unusedSimpArgs false
set_option linter.unusedVariables false
theorem Tryd.in7 (w : World) (vs : Array Value) : (callFunc 7 vs).run Tryd.prog w = .ok (.enter 7 vs) w := by kernel_rfl
theorem lkOf_put {N : Nat} {K : List Lk} {f t : Int} {b : Lk} (hN : N ≤ 8) (hl : K.length = 81) (h : thr N f t = true) : lkOf (K.set (ix f t) b) f t = b := by
  rw [lkOf_set hN hl h h, if_pos rfl]
theorem lkOf_oth {N : Nat} {K : List Lk} {f t f' t' : Int} {b : Lk} (hN : N ≤ 8) (hl : K.length = 81) (h : thr N f t = true) (h' : thr N f' t' = true) (hne : (f', t') ≠ (f, t)) : lkOf (K.set (ix f t) b) f' t' = lkOf K f' t' := by
  rw [lkOf_set hN hl h h', if_neg hne]
structure PmL (w0 w : World) (p mb N : Nat) (K : List Lk) : Prop where
  at_ : PmAt w p mb N 0 K
  fr : ∀ k, PmS p mb K k → w0.heap.size ≤ k
  bel : Below w0.heap.size w0 w
theorem PmL.next {w0 w w' : World} {p mb N : Nat} {K K' : List Lk} (h : PmL w0 w p mb N K) (n : PmN w p mb N K K' 0 w') : PmL w0 w' p mb N K' :=
  ⟨n.at_, fun k hk => by
    rcases n.new k hk with e | e
    · exact h.fr k e
    · exact Nat.le_trans h.bel.size e, h.bel.trans (n.gr.to_below (fun k hk e => by have := h.fr k e; omega) h.bel.size)⟩
theorem PmL.below {w0 w w' : World} {p mb N : Nat} {K : List Lk} (h : PmL w0 w p mb N K) (hb : Below w.heap.size w w') : PmL w0 w' p mb N K := h.next (PmN.below h.at_ hb)
theorem PmL.grown {w0 w w' : World} {p mb N : Nat} {K : List Lk} {S : Nat → Prop} (h : PmL w0 w p mb N K) (hg : Grown w w' S) (hs : ∀ k, S k → w0.heap.size ≤ k ∧ ¬ PmS p mb K k) : PmL w0 w' p mb N K :=
  ⟨h.at_.grown hg fun k e => (hs k e).2, h.fr, h.bel.trans (hg.to_below (fun k hk e => by have := (hs k e).1; omega) h.bel.size)⟩
theorem ErrI.of {w0 w : World} {qe : Addr} (h : ErrI w0 qe) (hb : Below w0.heap.size w0 w) : ErrI w qe := h.below hb
theorem PmL.new {w0 w w' : World} {p mb N : Nat} (hb : Below w0.heap.size w0 w) (h : PmAt w' p mb N 0 K0) (hp : w.heap.size ≤ p ∧ w.heap.size ≤ mb) (hb2 : Below w.heap.size w w') : PmL w0 w' p mb N K0 :=
  ⟨h, fun k hk => by have := hb.size; rcases pmS0 hk with rfl | rfl <;> omega, hb.trans (hb2.mono hb.size)⟩
theorem K0_R {N : Nat} (hN : N ≤ 8) {f t : Int} (h : thr N f t = true) : (lkOf K0 f t).R = [] := by
  have hi := (thr_ix hN h).2.2
  have e : K0[ix f t]? = some LK0 := by
    unfold K0
    rw [List.getElem?_replicate, if_pos hi]
    rfl
  unfold lkOf
  rw [e]
  rfl
theorem lsend {w0 w : World} {p mb N : Nat} {K : List Lk} (f t : Int) {vb : Value} {b : List Int} (h : PmL w0 w p mb N K) (hb : RowAt w vb b) (hB : Byts b) (hd : ∀ k, vb.ownBlock = some k → ¬ PmS p mb K k) : Calls Tryd.prog 15 #[.pointer (some ⟨p, 0, none⟩), .int .i64 f, .int .i64 t, vb] w fun e w' => ∃ er K', e = .returned (.int .i64 er) ∧ er = sndE N K f t b ∧ PmL w0 w' p mb N K' ∧ PmN w p mb N K K' 0 w' ∧ (er ≠ 0 → K' = K) ∧ (er = 0 → ∃ u v, K' = K.set (ix f t) ⟨v, (lkOf K f t).R ++ [(u, b)]⟩) := by
  obtain ⟨a, c, rfl⟩ := row_form hb
  exact (psn w p mb N K f t a _ c b ⟨hb⟩ ⟨rfl⟩ ⟨hB⟩ ⟨hd⟩ ⟨h.at_⟩).mono fun e w' ⟨er, K', h1, h2, h3, h4, h5⟩ => ⟨er, K', h1, h2, h.next h3, h3, h4, h5⟩
theorem ltake {w0 w : World} {p mb N : Nat} {qe : Addr} {K : List Lk} (f t : Int) (h : PmL w0 w p mb N K) (hE : ErrI w0 qe) : Calls Tryd.prog 16 #[.pointer (some ⟨p, 0, none⟩), .int .i64 f, .int .i64 t] w fun e w' => ∃ v ev K', e = .returned (.tuple #[v, ev]) ∧ ev = errV (tkE N K f t) qe ∧ PmL w0 w' p mb N K' ∧ PmN w p mb N K K' 0 w' ∧ (tkE N K f t ≠ 0 → K' = K ∧ v = .slice none 0 0) ∧ (tkE N K f t = 0 → ∃ b R u, (lkOf K f t).R = (v, b) :: R ∧ K' = K.set (ix f t) ⟨u, R⟩ ∧ Own w' v b ∧ ∀ k, v.ownBlock = some k → PmS p mb K k ∧ ¬ PmS p mb K' k) :=
  (ptk w p mb N K f t qe ⟨hE.of h.bel⟩ ⟨fun e => by have := h.fr 0 e; have := hE.lt; omega⟩ ⟨h.at_⟩).mono fun e w' ⟨v, ev, K', h1, h2, h3, h4, h5⟩ => ⟨v, ev, K', h1, h2, h.next h3, h3, h4, h5⟩
theorem bsB2 (a b : Int) (w : World) : (Instr.buildSlice 39 2 #[(0, .int .u8 a), (1, .int .u8 b)]).run Tryd.prog w = .ok (.slice (some ⟨w.heap.size, 0, none⟩) 2 2) (w.alloc (.cells (bv [a, b]).toArray 5)) := by kernel_rfl
theorem eq_nn (w : World) : (binOp .eql 24 .nilIface .nilIface).run Tryd.prog w = .ok (.bool true) w := by kernel_rfl
theorem eq_idle (qe : Addr) (w : World) : (binOp .eql 24 (.iface 105 (.pointer (some qe))) (.iface 105 (.pointer (some qe)))).run Tryd.prog w = .ok (.bool true) w := by
  obtain ⟨i, hi, hc⟩ := Option.map_eq_some_iff.1 (show (Tryd.prog.info? 105).map (·.comparable) = some true by kernel_rfl)
  obtain ⟨j, hj, _⟩ := Option.map_eq_some_iff.1 (show (Tryd.prog.info? 122).map (·.comparable) = some true by kernel_rfl)
  exact run_eql_iface_ptr_same w _ Tryd.underlying24 Tryd.underlying105 hi hc hj
theorem ne_idle (qe : Addr) (w : World) : (binOp .neq 24 (.iface 105 (.pointer (some qe))) .nilIface).run Tryd.prog w = .ok (.bool true) w := by kernel_rfl
theorem fx1 : sndE 2 K0 1 2 [11, 12] = 0 := by
  unfold sndE
  rw [K0_R (N := 2) (by decide) (by decide)]
  decide
theorem fx2 (v u : Value) : flE 2 (K0.set (ix 1 2) ⟨v, (lkOf K0 1 2).R ++ [(u, [11, 12])]⟩) 1 2 0 128 = 0 := by
  unfold flE nmE
  rw [lkOf_put (N := 2) (by decide) (by rfl) (by decide), K0_R (N := 2) (by decide) (by decide)]
  rfl
theorem fx3 : xor8 12 128 = 140 := by
  show bits .xor .u8 12 128 = 140
  rw [u8_xor 12 128 (by decide) (by decide) (by decide) (by decide)]
  rfl
set_option maxRecDepth 8000 in
theorem fixed_any (w : World) (qe : Addr) (HE : Keep (ErrI w qe)) : Calls Tryd.prog 7 #[] w fun e w' => e = .returned (.bool true) ∧ Below w.heap.size w w' := by
  go_enter Tryd.func7, Tryd.ntmps7
  refine wp_seq_k fun K1 hK1 => ?_
  refine wp_region_list (WL.out ?_)
  refine WL.val (by kernel_rfl) (.bool false) (by go_simp) ?_
  simp only [Act.put, List.setIfInBounds_toArray, List.set_cons_zero, List.set_cons_succ]
  refine WL.nil ?_
  refine hK1 _ _ ?_
  refine wp_seq_k fun K2 hK2 => ?_
  refine wp_region_list (WL.out ?_)
  refine WL.callF (by kernel_rfl) 8 _ _ rfl Tryd.in8 #[.int .i64 2] (by simp [Act.eval]) ?_
  refine (pnw_ok w 2 (by decide)).mono ?_
  rintro e w1 ⟨p, mb, rfl, hP, hpm, hb⟩
  refine ⟨_, rfl, ?_⟩
  have L1 := Keep.mk (PmL.new (Below.refl _ _) hP hpm hb)
  clear hP hpm hb
  simp only [Act.put, List.setIfInBounds_toArray, List.set_cons_zero, List.set_cons_succ]
  refine WL.val (by kernel_rfl) (.tuple #[.pointer (some ⟨p, 0, none⟩), .int .i64 0]) (by go_simp) ?_
  simp only [Act.put, List.setIfInBounds_toArray, List.set_cons_zero, List.set_cons_succ]
  refine WL.val (by kernel_rfl) (.pointer (some ⟨p, 0, none⟩)) (by go_simp) ?_
  simp only [Act.put, List.setIfInBounds_toArray, List.set_cons_zero, List.set_cons_succ]
  refine WL.val (by kernel_rfl) (.int .i64 0) (by go_simp) ?_
  simp only [Act.put, List.setIfInBounds_toArray, List.set_cons_zero, List.set_cons_succ]
  refine WL.val (by kernel_rfl) (.pointer (some ⟨p, 0, none⟩)) (by go_simp) ?_
  simp only [Act.put, List.setIfInBounds_toArray, List.set_cons_zero, List.set_cons_succ]
  refine WL.val (by kernel_rfl) (.int .i64 0) (by go_simp) ?_
  simp only [Act.put, List.setIfInBounds_toArray, List.set_cons_zero, List.set_cons_succ]
  refine WL.nil ?_
  refine hK2 _ _ ?_
  refine wp_seq_k fun K3 hK3 => ?_
  refine wp_seq_k fun K4 hK4 => ?_
  refine wp_region_list (WL.out ?_)
  refine WL.val (by kernel_rfl) (.pointer (some ⟨p, 0, none⟩)) (by go_simp) ?_
  simp only [Act.put, List.setIfInBounds_toArray, List.set_cons_zero, List.set_cons_succ]
  refine WL.val (by kernel_rfl) (.bool false) (by go_simp) ?_
  simp only [Act.put, List.setIfInBounds_toArray, List.set_cons_zero, List.set_cons_succ]
  refine WL.val (by kernel_rfl) (.bool false) (by go_simp) ?_
  simp only [Act.put, List.setIfInBounds_toArray, List.set_cons_zero, List.set_cons_succ]
  refine WL.val (by kernel_rfl) (.int .i64 0) (by go_simp) ?_
  simp only [Act.put, List.setIfInBounds_toArray, List.set_cons_zero, List.set_cons_succ]
  refine WL.val (by kernel_rfl) (.bool false) (by go_simp) ?_
  simp only [Act.put, List.setIfInBounds_toArray, List.set_cons_zero, List.set_cons_succ]
  refine WL.val (by kernel_rfl) (.bool false) (by go_simp) ?_
  simp only [Act.put, List.setIfInBounds_toArray, List.set_cons_zero, List.set_cons_succ]
  refine WL.nil ?_
  refine hK4 _ _ ?_
  refine wp_cond_false rfl ?_
  refine wp_skip ?_
  refine hK3 _ _ ?_
  refine wp_seq_k fun K5 hK5 => ?_
  refine wp_region_list (WL.out ?_)
  refine WL.val (by kernel_rfl) (.pointer (some ⟨p, 0, none⟩)) (by go_simp) ?_
  simp only [Act.put, List.setIfInBounds_toArray, List.set_cons_zero, List.set_cons_succ]
  refine WL.bs (by kernel_rfl) 39 2 _ rfl #[(0, .int .u8 11), (1, .int .u8 12)] (by simp [Act.eval]) _ _ (bsB2 11 12 w1) ?_
  have O2 := Keep.mk (own_done w1 [11, 12] (by simp))
  have b2 := below_new w1 (.cells (bv [11, 12]).toArray 5)
  have L2 := Keep.mk (L1.out.below b2)
  have D2 : Keep (∀ k, (Value.slice (some ⟨w1.heap.size, 0, none⟩) 2 2).ownBlock = some k → ¬ PmS p mb K0 k) := ⟨fun k hk e => by have := L1.out.at_.lt k e; simp [Value.ownBlock] at hk; omega⟩
  change Keep (Own (w1.alloc (.cells (bv [11, 12]).toArray 5)) (.slice (some ⟨w1.heap.size, 0, none⟩) 2 2) [11, 12]) at O2
  generalize w1.alloc (.cells (bv [11, 12]).toArray 5) = w2 at *
  obtain ⟨g2, hg2⟩ : ∃ z, Keep (z = w1.heap.size) := ⟨_, ⟨rfl⟩⟩
  rw [← hg2.out] at O2 D2 ⊢
  clear b2 L1
  simp only [Act.put, List.setIfInBounds_toArray, List.set_cons_zero, List.set_cons_succ]
  refine WL.callF (by kernel_rfl) 15 _ _ rfl Tryd.in15 #[.pointer (some ⟨p, 0, none⟩), .int .i64 1, .int .i64 2, .slice (some ⟨g2, 0, none⟩) 2 2] (by simp [Act.eval]) ?_
  refine (lsend 1 2 L2.out O2.out.row (by intro c hc; simp at hc; omega) D2.out).mono ?_
  rintro e w3 ⟨er, K1, rfl, her, hL, _, _, hk⟩
  refine ⟨_, rfl, ?_⟩
  rw [fx1] at her
  subst her
  obtain ⟨u, v, hk⟩ := hk rfl
  have L3 := Keep.mk hL
  have HK1 := Keep.mk hk
  clear hL hk L2 O2 D2
  simp only [Act.put, List.setIfInBounds_toArray, List.set_cons_zero, List.set_cons_succ]
  refine WL.val (by kernel_rfl) (.int .i64 0) (by go_simp) ?_
  simp only [Act.put, List.setIfInBounds_toArray, List.set_cons_zero, List.set_cons_succ]
  refine WL.nil ?_
  refine hK5 _ _ ?_
  refine wp_seq_k fun K6 hK6 => ?_
  refine wp_region_list (WL.out ?_)
  refine WL.val (by kernel_rfl) (.pointer (some ⟨p, 0, none⟩)) (by go_simp) ?_
  simp only [Act.put, List.setIfInBounds_toArray, List.set_cons_zero, List.set_cons_succ]
  refine WL.callF (by kernel_rfl) 19 _ _ rfl Tryd.in19 #[.pointer (some ⟨p, 0, none⟩), .int .i64 1, .int .i64 2, .int .i64 0, .int .i64 3, .int .u8 128] (by simp [Act.eval]) ?_
  refine (pfl w3 p mb 2 K1 1 2 0 3 128 ⟨by decide⟩ ⟨L3.out.at_⟩).mono ?_
  rintro e w4 ⟨er, K2, rfl, her, hn, _, hk⟩
  refine ⟨_, rfl, ?_⟩
  rw [HK1.out, fx2] at her
  subst her
  obtain ⟨q, u2, hq, hk⟩ := hk rfl
  rw [HK1.out, lkOf_put (N := 2) (by decide) (by rfl) (by decide), K0_R (N := 2) (by decide) (by decide)] at hq hk
  simp only [List.nil_append, Int.toNat_zero, List.getElem?_cons_zero, Option.some.injEq] at hq
  subst hq
  have hr : rnd 3 ([11, 12] : List Int).length = 1 := by decide
  simp only [hr, List.nil_append, List.getD_cons_succ, List.getD_cons_zero, Int.toNat_zero, fx3, List.set_cons_succ, List.set_cons_zero] at hk
  have L4 := Keep.mk (L3.out.next hn)
  have R4 : Keep ((lkOf K2 1 2).R = [(u2, [11, 140])]) := ⟨by rw [hk, lkOf_put (N := 2) (by decide) (by rw [List.length_set]; rfl) (by decide)]⟩
  clear hn hk L3 HK1
  simp only [Act.put, List.setIfInBounds_toArray, List.set_cons_zero, List.set_cons_succ]
  refine WL.val (by kernel_rfl) (.int .i64 0) (by go_simp) ?_
  simp only [Act.put, List.setIfInBounds_toArray, List.set_cons_zero, List.set_cons_succ]
  refine WL.nil ?_
  refine hK6 _ _ ?_
  refine wp_seq_k fun K7 hK7 => ?_
  refine wp_region_list (WL.out ?_)
  refine WL.val (by kernel_rfl) (.pointer (some ⟨p, 0, none⟩)) (by go_simp) ?_
  simp only [Act.put, List.setIfInBounds_toArray, List.set_cons_zero, List.set_cons_succ]
  refine WL.callF (by kernel_rfl) 16 _ _ rfl Tryd.in16 #[.pointer (some ⟨p, 0, none⟩), .int .i64 1, .int .i64 2] (by simp [Act.eval]) ?_
  refine (ltake 1 2 L4.out HE.out).mono ?_
  rintro e w5 ⟨v5, ev5, K3, rfl, hev, hL, _, _, hk⟩
  refine ⟨_, rfl, ?_⟩
  have ht : tkE 2 K2 1 2 = 0 := tk_some (by decide) (by rw [R4.out]; simp)
  rw [ht] at hev
  have hev2 : ev5 = .nilIface := hev
  clear hev
  subst hev2
  obtain ⟨b5, R5, u5, hR, hk, hO, hD⟩ := hk ht
  rw [R4.out] at hR
  injection hR with h1 h2
  injection h1 with h1 h3
  subst h1 h2 h3
  have L5 := Keep.mk hL
  have O5 := Keep.mk hO
  have D5 := Keep.mk (fun k hk => (hD k hk).2)
  clear hD
  have R5 : Keep ((lkOf K3 1 2).R = []) := ⟨by rw [hk, lkOf_put (N := 2) (by decide) L4.out.at_.len (by decide)]⟩
  clear hL hk hO L4 R4 ht
  obtain ⟨ra, rn, rc, hu⟩ := O5.out.sl
  subst hu
  simp only [Act.put, List.setIfInBounds_toArray, List.set_cons_zero, List.set_cons_succ]
  refine WL.val (by kernel_rfl) (.tuple #[.slice ra rn rc, .nilIface]) (by go_simp) ?_
  simp only [Act.put, List.setIfInBounds_toArray, List.set_cons_zero, List.set_cons_succ]
  refine WL.val (by kernel_rfl) (.slice ra rn rc) (by go_simp) ?_
  simp only [Act.put, List.setIfInBounds_toArray, List.set_cons_zero, List.set_cons_succ]
  refine WL.val (by kernel_rfl) (.nilIface) (by go_simp) ?_
  simp only [Act.put, List.setIfInBounds_toArray, List.set_cons_zero, List.set_cons_succ]
  refine WL.val (by kernel_rfl) (.slice ra rn rc) (by go_simp) ?_
  simp only [Act.put, List.setIfInBounds_toArray, List.set_cons_zero, List.set_cons_succ]
  refine WL.val (by kernel_rfl) (.nilIface) (by go_simp) ?_
  simp only [Act.put, List.setIfInBounds_toArray, List.set_cons_zero, List.set_cons_succ]
  refine WL.nil ?_
  refine hK7 _ _ ?_
  refine wp_seq_k fun K8 hK8 => ?_
  refine wp_region_list (WL.out ?_)
  refine WL.val (by kernel_rfl) (.pointer (some ⟨p, 0, none⟩)) (by go_simp) ?_
  simp only [Act.put, List.setIfInBounds_toArray, List.set_cons_zero, List.set_cons_succ]
  refine WL.callF (by kernel_rfl) 16 _ _ rfl Tryd.in16 #[.pointer (some ⟨p, 0, none⟩), .int .i64 1, .int .i64 2] (by simp [Act.eval]) ?_
  refine (ltake 1 2 L5.out HE.out).mono ?_
  rintro e w6 ⟨v6, ev6, K4, rfl, hev, hL, hN6, hk, _⟩
  refine ⟨_, rfl, ?_⟩
  have ht : tkE 2 K3 1 2 = -1 := tk_none (by decide) (by rw [R5.out]; decide)
  rw [ht] at hev hk
  have hev2 : ev6 = (.iface 105 (.pointer (some qe))) := hev
  clear hev
  subst hev2
  obtain ⟨_, rfl⟩ := hk (by decide)
  have L6 := Keep.mk hL
  have O6 : Keep (Own w6 (.slice ra rn rc) [11, 140]) := ⟨O5.out.grown hN6.gr fun k hk e => D5.out k hk e⟩
  clear hL hk hN6 L5 ht O5
  have g_ := (HE.out.of L6.out.bel).c
  simp only [Act.put, List.setIfInBounds_toArray, List.set_cons_zero, List.set_cons_succ]
  refine WL.val (by kernel_rfl) (.tuple #[.slice none 0 0, .iface 105 (.pointer (some qe))]) (by go_simp) ?_
  simp only [Act.put, List.setIfInBounds_toArray, List.set_cons_zero, List.set_cons_succ]
  refine WL.val (by kernel_rfl) (.slice none 0 0) (by go_simp) ?_
  simp only [Act.put, List.setIfInBounds_toArray, List.set_cons_zero, List.set_cons_succ]
  refine WL.val (by kernel_rfl) (.iface 105 (.pointer (some qe))) (by go_simp) ?_
  simp only [Act.put, List.setIfInBounds_toArray, List.set_cons_zero, List.set_cons_succ]
  refine WL.val (by kernel_rfl) (.slice none 0 0) (by go_simp) ?_
  simp only [Act.put, List.setIfInBounds_toArray, List.set_cons_zero, List.set_cons_succ]
  refine WL.val (by kernel_rfl) (.iface 105 (.pointer (some qe))) (by go_simp) ?_
  simp only [Act.put, List.setIfInBounds_toArray, List.set_cons_zero, List.set_cons_succ]
  refine WL.nil ?_
  refine hK8 _ _ ?_
  refine wp_seq_k fun K9 hK9 => ?_
  refine wp_region_list (WL.out ?_)
  refine WL.val (by kernel_rfl) (.int .i64 0) (by go_simp) ?_
  simp only [Act.put, List.setIfInBounds_toArray, List.set_cons_zero, List.set_cons_succ]
  refine WL.val (by kernel_rfl) (.bool true) (by go_simp) ?_
  simp only [Act.put, List.setIfInBounds_toArray, List.set_cons_zero, List.set_cons_succ]
  refine WL.val (by kernel_rfl) (.bool true) (by go_simp) ?_
  simp only [Act.put, List.setIfInBounds_toArray, List.set_cons_zero, List.set_cons_succ]
  refine WL.val (by kernel_rfl) (.int .i64 0) (by go_simp) ?_
  simp only [Act.put, List.setIfInBounds_toArray, List.set_cons_zero, List.set_cons_succ]
  refine WL.val (by kernel_rfl) (.bool true) (by go_simp) ?_
  simp only [Act.put, List.setIfInBounds_toArray, List.set_cons_zero, List.set_cons_succ]
  refine WL.val (by kernel_rfl) (.bool true) (by go_simp) ?_
  simp only [Act.put, List.setIfInBounds_toArray, List.set_cons_zero, List.set_cons_succ]
  refine WL.val (by kernel_rfl) (.bool true) (by go_simp) ?_
  simp only [Act.put, List.setIfInBounds_toArray, List.set_cons_zero, List.set_cons_succ]
  refine WL.val (by kernel_rfl) (.nilIface) (by go_simp) ?_
  simp only [Act.put, List.setIfInBounds_toArray, List.set_cons_zero, List.set_cons_succ]
  refine WL.val (by kernel_rfl) (.bool true) (by have h := eq_nn w6; go_simp) ?_
  simp only [Act.put, List.setIfInBounds_toArray, List.set_cons_zero, List.set_cons_succ]
  refine WL.val (by kernel_rfl) (.bool true) (by go_simp) ?_
  simp only [Act.put, List.setIfInBounds_toArray, List.set_cons_zero, List.set_cons_succ]
  refine WL.val (by kernel_rfl) (.bool true) (by go_simp) ?_
  simp only [Act.put, List.setIfInBounds_toArray, List.set_cons_zero, List.set_cons_succ]
  refine WL.val (by kernel_rfl) (.iface 105 (.pointer (some qe))) (by go_simp) ?_
  simp only [Act.put, List.setIfInBounds_toArray, List.set_cons_zero, List.set_cons_succ]
  refine WL.val (by kernel_rfl) (.iface 105 (.pointer (some qe))) (by go_simp) ?_
  simp only [Act.put, List.setIfInBounds_toArray, List.set_cons_zero, List.set_cons_succ]
  refine WL.val (by kernel_rfl) (.bool true) (by have h := eq_idle qe w6; go_simp) ?_
  simp only [Act.put, List.setIfInBounds_toArray, List.set_cons_zero, List.set_cons_succ]
  refine WL.val (by kernel_rfl) (.bool true) (by go_simp) ?_
  simp only [Act.put, List.setIfInBounds_toArray, List.set_cons_zero, List.set_cons_succ]
  refine WL.val (by kernel_rfl) (.bool true) (by go_simp) ?_
  simp only [Act.put, List.setIfInBounds_toArray, List.set_cons_zero, List.set_cons_succ]
  refine WL.val (by kernel_rfl) (.slice ra rn rc) (by go_simp) ?_
  simp only [Act.put, List.setIfInBounds_toArray, List.set_cons_zero, List.set_cons_succ]
  refine WL.bs (by kernel_rfl) 39 2 _ rfl #[(0, .int .u8 11), (1, .int .u8 140)] (by simp [Act.eval]) _ _ (bsB2 11 140 w6) ?_
  have O7 := Keep.mk (own_done w6 [11, 140] (by simp))
  have b7 := below_new w6 (.cells (bv [11, 140]).toArray 5)
  have L7 := Keep.mk (L6.out.below b7)
  have X7 := Keep.mk (O6.out.row.below b7)
  change Keep (Own (w6.alloc (.cells (bv [11, 140]).toArray 5)) (.slice (some ⟨w6.heap.size, 0, none⟩) 2 2) [11, 140]) at O7
  clear g_
  generalize w6.alloc (.cells (bv [11, 140]).toArray 5) = w7 at *
  obtain ⟨g7, hg7⟩ : ∃ z, Keep (z = w6.heap.size) := ⟨_, ⟨rfl⟩⟩
  rw [← hg7.out] at O7 ⊢
  clear b7 L6 O6
  simp only [Act.put, List.setIfInBounds_toArray, List.set_cons_zero, List.set_cons_succ]
  refine WL.callF (by kernel_rfl) 17 _ _ rfl Tryd.in17 #[.slice ra rn rc, .slice (some ⟨g7, 0, none⟩) 2 2] (by simp [Act.eval]) ?_
  refine (same_any _ _ [11, 140] [11, 140] w7 X7.out O7.out.row (by intro c hc; simp at hc; omega) (by intro c hc; simp at hc; omega)).mono ?_
  rintro e w7_ ⟨rfl, hw_⟩
  refine ⟨_, rfl, ?_⟩
  have hw_ := hw_.symm
  subst hw_
  simp only [Act.put, List.setIfInBounds_toArray, List.set_cons_zero, List.set_cons_succ]
  refine WL.val (by kernel_rfl) (.bool true) (by go_simp) ?_
  simp only [Act.put, List.setIfInBounds_toArray, List.set_cons_zero, List.set_cons_succ]
  refine WL.val (by kernel_rfl) (.bool true) (by go_simp) ?_
  simp only [Act.put, List.setIfInBounds_toArray, List.set_cons_zero, List.set_cons_succ]
  refine WL.nil ?_
  refine hK9 _ _ ?_
  refine wp_ret ?_
  go_ret
  exact ⟨rfl, L7.out.bel⟩

theorem Tryd.in3 (w : World) (vs : Array Value) : (callFunc 3 vs).run Tryd.prog w = .ok (.enter 3 vs) w := by kernel_rfl
set_option maxRecDepth 8000 in
theorem names_any (w : World) (qe : Addr) (HE : Keep (ErrI w qe)) : Calls Tryd.prog 3 #[] w fun e w' => e = .returned (.bool true) ∧ Below w.heap.size w w' := by
  go_enter Tryd.func3, Tryd.ntmps3
  refine wp_seq_k fun K1 hK1 => ?_
  refine wp_region_list (WL.out ?_)
  refine WL.val (by kernel_rfl) (.bool false) (by go_simp) ?_
  simp only [Act.put, List.setIfInBounds_toArray, List.set_cons_zero, List.set_cons_succ]
  refine WL.nil ?_
  refine hK1 _ _ ?_
  refine wp_seq_k fun K2 hK2 => ?_
  refine wp_region_list (WL.out ?_)
  refine WL.val (by kernel_rfl) (.bool true) (by go_simp) ?_
  simp only [Act.put, List.setIfInBounds_toArray, List.set_cons_zero, List.set_cons_succ]
  refine WL.nil ?_
  refine hK2 _ _ ?_
  refine wp_seq_k fun K3 hK3 => ?_
  refine wp_region_list (WL.out ?_)
  refine WL.callF (by kernel_rfl) 7 _ _ rfl Tryd.in7 #[] (by simp) ?_
  refine (fixed_any w qe HE).mono ?_
  rintro e w1 ⟨rfl, hb⟩
  refine ⟨_, rfl, ?_⟩
  have g_ := (HE.out.below hb).c
  have B1 := Keep.mk hb
  clear hb
  simp only [Act.put, List.setIfInBounds_toArray, List.set_cons_zero, List.set_cons_succ]
  refine WL.val (by kernel_rfl) (.bool true) (by go_simp) ?_
  simp only [Act.put, List.setIfInBounds_toArray, List.set_cons_zero, List.set_cons_succ]
  refine WL.nil ?_
  refine hK3 _ _ ?_
  refine wp_seq_k fun K4 hK4 => ?_
  refine wp_region_list (WL.out ?_)
  refine WL.val (by kernel_rfl) (.bool true) (by go_simp) ?_
  simp only [Act.put, List.setIfInBounds_toArray, List.set_cons_zero, List.set_cons_succ]
  refine WL.val (by kernel_rfl) (.bool true) (by go_simp) ?_
  simp only [Act.put, List.setIfInBounds_toArray, List.set_cons_zero, List.set_cons_succ]
  refine WL.val (by kernel_rfl) (.bool true) (by go_simp) ?_
  simp only [Act.put, List.setIfInBounds_toArray, List.set_cons_zero, List.set_cons_succ]
  refine WL.val (by kernel_rfl) (.bool true) (by go_simp) ?_
  simp only [Act.put, List.setIfInBounds_toArray, List.set_cons_zero, List.set_cons_succ]
  refine WL.val (by kernel_rfl) (.bool true) (by go_simp) ?_
  simp only [Act.put, List.setIfInBounds_toArray, List.set_cons_zero, List.set_cons_succ]
  refine WL.val (by kernel_rfl) (.bool true) (by go_simp) ?_
  simp only [Act.put, List.setIfInBounds_toArray, List.set_cons_zero, List.set_cons_succ]
  refine WL.val (by kernel_rfl) (.bool true) (by go_simp) ?_
  simp only [Act.put, List.setIfInBounds_toArray, List.set_cons_zero, List.set_cons_succ]
  refine WL.val (by kernel_rfl) (.bool true) (by go_simp) ?_
  simp only [Act.put, List.setIfInBounds_toArray, List.set_cons_zero, List.set_cons_succ]
  refine WL.val (by kernel_rfl) (.bool true) (by go_simp) ?_
  simp only [Act.put, List.setIfInBounds_toArray, List.set_cons_zero, List.set_cons_succ]
  refine WL.val (by kernel_rfl) (.bool true) (by go_simp) ?_
  simp only [Act.put, List.setIfInBounds_toArray, List.set_cons_zero, List.set_cons_succ]
  refine WL.val (by kernel_rfl) (.bool true) (by go_simp) ?_
  simp only [Act.put, List.setIfInBounds_toArray, List.set_cons_zero, List.set_cons_succ]
  refine WL.val (by kernel_rfl) (.iface 105 (.pointer (some qe))) (by go_simp) ?_
  simp only [Act.put, List.setIfInBounds_toArray, List.set_cons_zero, List.set_cons_succ]
  refine WL.val (by kernel_rfl) (.bool true) (by have h := ne_idle qe w1; go_simp) ?_
  simp only [Act.put, List.setIfInBounds_toArray, List.set_cons_zero, List.set_cons_succ]
  refine WL.val (by kernel_rfl) (.bool true) (by go_simp) ?_
  simp only [Act.put, List.setIfInBounds_toArray, List.set_cons_zero, List.set_cons_succ]
  refine WL.val (by kernel_rfl) (.bool true) (by go_simp) ?_
  simp only [Act.put, List.setIfInBounds_toArray, List.set_cons_zero, List.set_cons_succ]
  refine WL.nil ?_
  refine hK4 _ _ ?_
  refine wp_ret ?_
  go_ret
  exact ⟨rfl, B1.out⟩

end Go.Proofs.YteecdcocgflklaaDoor
