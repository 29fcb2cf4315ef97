import Derived.Test.YteecdcocgflklaaDoorA06
namespace Go.Proofs.YteecdcocgflklaaDoor
open Go.RowKit
set_option linter.unusedSimpArgs false
set_option linter.unusedVariables false
theorem Tryd.in7 (w : World) (vs : Array Value) : (callFunc 7 vs).run Tryd.prog w = .ok (.enter 7 vs) w := by kernel_rfl
theorem lkOf_put {N : Nat} {K : List Lk} {f t : Int} {b : Lk} (hN : N ≤ 8) (hl : K.length = 81) (h : thr N f t = true) : lkOf (K.set (ix f t) b) f t = b := by
  rw [lkOf_set hN hl h h, if_pos rfl]
structure PmL (w0 w : World) (p mb N : Nat) (K : List Lk) : Prop where
  at_ : PmAt w p mb N 0 K
  fr : ∀ k, PmS p mb K k → w0.heap.size ≤ k
  bel : Below w0.heap.size w0 w
theorem PmL.next {w0 w w' : World} {p mb N : Nat} {K K' : List Lk} (h : PmL w0 w p mb N K) (n : PmN w p mb N K K' 0 w') : PmL w0 w' p mb N K' :=
  ⟨n.at_, fun k hk => by
    rcases n.new k hk with e | e
    · exact h.fr k e
    · exact Nat.le_trans h.bel.size e, h.bel.trans (n.gr.to_below (fun k hk e => by have := h.fr k e; omega) h.bel.size)⟩
theorem PmL.below {w0 w w' : World} {p mb N : Nat} {K : List Lk} (h : PmL w0 w p mb N K) (hb : Below w.heap.size w w') : PmL w0 w' p mb N K := h.next (PmN.below h.at_ hb)
theorem ErrI.of {w0 w : World} {qe : Addr} (h : ErrI w0 qe) (hb : Below w0.heap.size w0 w) : ErrI w qe := h.below hb
theorem PmL.new {w0 w w' : World} {p mb N : Nat} (hb : Below w0.heap.size w0 w) (h : PmAt w' p mb N 0 K0) (hp : w.heap.size ≤ p ∧ w.heap.size ≤ mb) (hb2 : Below w.heap.size w w') : PmL w0 w' p mb N K0 :=
  ⟨h, fun k hk => by have := hb.size; rcases pmS0 hk with rfl | rfl <;> omega, hb.trans (hb2.mono hb.size)⟩
theorem K0_R {N : Nat} (hN : N ≤ 8) {f t : Int} (h : thr N f t = true) : (lkOf K0 f t).R = [] := by
  have hi := (thr_ix hN h).2.2
  have e : K0[ix f t]? = some LK0 := by
    unfold K0
    rw [List.getElem?_replicate, if_pos hi]
    rfl
  unfold lkOf
  rw [e]
  rfl
theorem lsend {w0 w : World} {p mb N : Nat} {K : List Lk} (f t : Int) {vb : Value} {b : List Int} (h : PmL w0 w p mb N K) (hb : RowAt w vb b) (hB : Byts b) (hd : b ≠ [] → ∀ k, vb.ownBlock = some k → ¬ PmS p mb K k) : Calls Tryd.prog 15 #[.pointer (some ⟨p, 0, none⟩), .int .i64 f, .int .i64 t, vb] w fun e w' => ∃ er K', e = .returned (.int .i64 er) ∧ er = sndE N K f t b ∧ PmL w0 w' p mb N K' ∧ PmN w p mb N K K' 0 w' ∧ (er ≠ 0 → K' = K) ∧ (er = 0 → ∃ u v, K' = K.set (ix f t) ⟨v, (lkOf K f t).R ++ [(u, b)]⟩) := by
  obtain ⟨a, c, rfl⟩ := row_form hb
  exact (psn w p mb N K f t a _ c b ⟨hb⟩ ⟨rfl⟩ ⟨hB⟩ ⟨hd⟩ ⟨h.at_⟩).mono fun e w' ⟨er, K', h1, h2, h3, h4, h5⟩ => ⟨er, K', h1, h2, h.next h3, h3, h4, h5⟩
theorem ltake {w0 w : World} {p mb N : Nat} {qe : Addr} {K : List Lk} (f t : Int) (h : PmL w0 w p mb N K) (hE : ErrI w0 qe) : Calls Tryd.prog 16 #[.pointer (some ⟨p, 0, none⟩), .int .i64 f, .int .i64 t] w fun e w' => ∃ v ev K', e = .returned (.tuple #[v, ev]) ∧ ev = errV (tkE N K f t) qe ∧ PmL w0 w' p mb N K' ∧ PmN w p mb N K K' 0 w' ∧ (tkE N K f t ≠ 0 → K' = K ∧ v = .slice none 0 0) ∧ (tkE N K f t = 0 → ∃ b R u, (lkOf K f t).R = (v, b) :: R ∧ K' = K.set (ix f t) ⟨u, R⟩ ∧ Own w' v b ∧ ∀ k, v.ownBlock = some k → PmS p mb K k ∧ ¬ PmS p mb K' k) :=
  (ptk w p mb N K f t qe ⟨hE.of h.bel⟩ ⟨fun e => by have := h.fr 0 e; have := hE.lt; omega⟩ ⟨h.at_⟩).mono fun e w' ⟨v, ev, K', h1, h2, h3, h4, h5⟩ => ⟨v, ev, K', h1, h2, h.next h3, h3, h4, h5⟩
theorem bsB2 (a b : Int) (w : World) : (Instr.buildSlice 39 2 #[(0, .int .u8 a), (1, .int .u8 b)]).run Tryd.prog w = .ok (.slice (some ⟨w.heap.size, 0, none⟩) 2 2) (w.alloc (.cells (bv [a, b]).toArray 5)) := by kernel_rfl
theorem eq_nn (w : World) : (binOp .eql 24 .nilIface .nilIface).run Tryd.prog w = .ok (.bool true) w := by kernel_rfl
theorem eq_idle (qe : Addr) (w : World) : (binOp .eql 24 (.iface 105 (.pointer (some qe))) (.iface 105 (.pointer (some qe)))).run Tryd.prog w = .ok (.bool true) w := by
  obtain ⟨i, hi, hc⟩ := Option.map_eq_some_iff.1 (show (Tryd.prog.info? 105).map (·.comparable) = some true by kernel_rfl)
  obtain ⟨j, hj, _⟩ := Option.map_eq_some_iff.1 (show (Tryd.prog.info? 122).map (·.comparable) = some true by kernel_rfl)
  exact run_eql_iface_ptr_same w _ Tryd.underlying24 Tryd.underlying105 hi hc hj
theorem fx1 : sndE 2 K0 1 2 [11, 12] = 0 := by
  unfold sndE
  rw [K0_R (N := 2) (by decide) (by decide)]
  decide
theorem fx2 (v u : Value) : flE 2 (K0.set (ix 1 2) ⟨v, (lkOf K0 1 2).R ++ [(u, [11, 12])]⟩) 1 2 0 128 = 0 := by
  unfold flE nmE
  rw [lkOf_put (N := 2) (by decide) (by rfl) (by decide), K0_R (N := 2) (by decide) (by decide)]
  rfl
theorem fx3 : xor8 12 128 = 140 := by
  show bits .xor .u8 12 128 = 140
  rw [u8_xor 12 128 (by decide) (by decide) (by decide) (by decide)]
  rfl
set_option maxRecDepth 8000 in
theorem fixed_any (w : World) (qe : Addr) (HE : Keep (ErrI w qe)) : Calls Tryd.prog 7 #[] w fun e w' => e = .returned (.bool true) ∧ Below w.heap.size w w' := by
  go_enter Tryd.func7, Tryd.ntmps7
  refine wp_seq_k fun K1 hK1 => ?_
  refine wp_region_list (WL.out ?_)
  refine WL.val (by kernel_rfl) (.bool false) (by go_simp) ?_
  simp only [Act.put, List.setIfInBounds_toArray, List.set_cons_zero, List.set_cons_succ]
  refine WL.nil ?_
  refine hK1 _ _ ?_
  refine wp_seq_k fun K2 hK2 => ?_
  refine wp_region_list (WL.out ?_)
  refine WL.callF (by kernel_rfl) 8 _ _ rfl Tryd.in8 #[.int .i64 2] (by simp [Act.eval]) ?_
  refine (pnw_ok w 2 (by decide)).mono ?_
  rintro e w1 ⟨p, mb, rfl, hP, hpm, hb⟩
  refine ⟨_, rfl, ?_⟩
  have L1 := Keep.mk (PmL.new (Below.refl _ _) hP hpm hb)
  clear hP hpm hb
  simp only [Act.put, List.setIfInBounds_toArray, List.set_cons_zero, List.set_cons_succ]
  refine WL.val (by kernel_rfl) (.tuple #[.pointer (some ⟨p, 0, none⟩), .int .i64 0]) (by go_simp) ?_
  simp only [Act.put, List.setIfInBounds_toArray, List.set_cons_zero, List.set_cons_succ]
  refine WL.val (by kernel_rfl) (.pointer (some ⟨p, 0, none⟩)) (by go_simp) ?_
  simp only [Act.put, List.setIfInBounds_toArray, List.set_cons_zero, List.set_cons_succ]
  refine WL.val (by kernel_rfl) (.int .i64 0) (by go_simp) ?_
  simp only [Act.put, List.setIfInBounds_toArray, List.set_cons_zero, List.set_cons_succ]
  refine WL.val (by kernel_rfl) (.pointer (some ⟨p, 0, none⟩)) (by go_simp) ?_
  simp only [Act.put, List.setIfInBounds_toArray, List.set_cons_zero, List.set_cons_succ]
  refine WL.val (by kernel_rfl) (.int .i64 0) (by go_simp) ?_
  simp only [Act.put, List.setIfInBounds_toArray, List.set_cons_zero, List.set_cons_succ]
  refine WL.nil ?_
  refine hK2 _ _ ?_
  refine wp_seq_k fun K3 hK3 => ?_
  refine wp_seq_k fun K4 hK4 => ?_
  refine wp_region_list (WL.out ?_)
  refine WL.val (by kernel_rfl) (.pointer (some ⟨p, 0, none⟩)) (by go_simp) ?_
  simp only [Act.put, List.setIfInBounds_toArray, List.set_cons_zero, List.set_cons_succ]
  refine WL.val (by kernel_rfl) (.bool false) (by go_simp) ?_
  simp only [Act.put, List.setIfInBounds_toArray, List.set_cons_zero, List.set_cons_succ]
  refine WL.val (by kernel_rfl) (.bool false) (by go_simp) ?_
  simp only [Act.put, List.setIfInBounds_toArray, List.set_cons_zero, List.set_cons_succ]
  refine WL.val (by kernel_rfl) (.int .i64 0) (by go_simp) ?_
  simp only [Act.put, List.setIfInBounds_toArray, List.set_cons_zero, List.set_cons_succ]
  refine WL.val (by kernel_rfl) (.bool false) (by go_simp) ?_
  simp only [Act.put, List.setIfInBounds_toArray, List.set_cons_zero, List.set_cons_succ]
  refine WL.val (by kernel_rfl) (.bool false) (by go_simp) ?_
  simp only [Act.put, List.setIfInBounds_toArray, List.set_cons_zero, List.set_cons_succ]
  refine WL.nil ?_
  refine hK4 _ _ ?_
  refine wp_cond_false rfl ?_
  refine wp_skip ?_
  refine hK3 _ _ ?_
  refine wp_seq_k fun K5 hK5 => ?_
  refine wp_region_list (WL.out ?_)
  refine WL.val (by kernel_rfl) (.pointer (some ⟨p, 0, none⟩)) (by go_simp) ?_
  simp only [Act.put, List.setIfInBounds_toArray, List.set_cons_zero, List.set_cons_succ]
  refine WL.bs (by kernel_rfl) 39 2 _ rfl #[(0, .int .u8 11), (1, .int .u8 12)] (by simp [Act.eval]) _ _ (bsB2 11 12 w1) ?_
  have O2 := Keep.mk (own_done w1 [11, 12] (by simp))
  have b2 := below_new w1 (.cells (bv [11, 12]).toArray 5)
  have L2 := Keep.mk (L1.out.below b2)
  have D2 : Keep (∀ k, (Value.slice (some ⟨w1.heap.size, 0, none⟩) 2 2).ownBlock = some k → ¬ PmS p mb K0 k) := ⟨fun k hk e => by have := L1.out.at_.lt k e; simp [Value.ownBlock] at hk; omega⟩
  change Keep (Own (w1.alloc (.cells (bv [11, 12]).toArray 5)) (.slice (some ⟨w1.heap.size, 0, none⟩) 2 2) [11, 12]) at O2
  generalize w1.alloc (.cells (bv [11, 12]).toArray 5) = w2 at *
  obtain ⟨g2, hg2⟩ : ∃ z, Keep (z = w1.heap.size) := ⟨_, ⟨rfl⟩⟩
  rw [← hg2.out] at O2 D2 ⊢
  clear b2 L1
  simp only [Act.put, List.setIfInBounds_toArray, List.set_cons_zero, List.set_cons_succ]
  refine WL.callF (by kernel_rfl) 15 _ _ rfl Tryd.in15 #[.pointer (some ⟨p, 0, none⟩), .int .i64 1, .int .i64 2, .slice (some ⟨g2, 0, none⟩) 2 2] (by simp [Act.eval]) ?_
  refine (lsend 1 2 L2.out O2.out.row (by intro c hc; simp at hc; omega) (fun _ => D2.out)).mono ?_
  rintro e w3 ⟨er, K1, rfl, her, hL, _, _, hk⟩
  refine ⟨_, rfl, ?_⟩
  rw [fx1] at her
  subst her
  obtain ⟨u, v, hk⟩ := hk rfl
  have L3 := Keep.mk hL
  have HK1 := Keep.mk hk
  clear hL hk L2 O2 D2
  simp only [Act.put, List.setIfInBounds_toArray, List.set_cons_zero, List.set_cons_succ]
  refine WL.val (by kernel_rfl) (.int .i64 0) (by go_simp) ?_
  simp only [Act.put, List.setIfInBounds_toArray, List.set_cons_zero, List.set_cons_succ]
  refine WL.nil ?_
  refine hK5 _ _ ?_
  refine wp_seq_k fun K6 hK6 => ?_
  refine wp_region_list (WL.out ?_)
  refine WL.val (by kernel_rfl) (.pointer (some ⟨p, 0, none⟩)) (by go_simp) ?_
  simp only [Act.put, List.setIfInBounds_toArray, List.set_cons_zero, List.set_cons_succ]
  refine WL.callF (by kernel_rfl) 19 _ _ rfl Tryd.in19 #[.pointer (some ⟨p, 0, none⟩), .int .i64 1, .int .i64 2, .int .i64 0, .int .i64 3, .int .u8 128] (by simp [Act.eval]) ?_
  refine (pfl w3 p mb 2 K1 1 2 0 3 128 ⟨by decide⟩ ⟨L3.out.at_⟩).mono ?_
  rintro e w4 ⟨er, K2, rfl, her, hn, _, hk⟩
  refine ⟨_, rfl, ?_⟩
  rw [HK1.out, fx2] at her
  subst her
  obtain ⟨q, u2, hq, hk⟩ := hk rfl
  rw [HK1.out, lkOf_put (N := 2) (by decide) (by rfl) (by decide), K0_R (N := 2) (by decide) (by decide)] at hq hk
  simp only [List.nil_append, Int.toNat_zero, List.getElem?_cons_zero, Option.some.injEq] at hq
  subst hq
  have hr : rnd 3 ([11, 12] : List Int).length = 1 := by decide
  simp only [hr, List.nil_append, List.getD_cons_succ, List.getD_cons_zero, Int.toNat_zero, fx3, List.set_cons_succ, List.set_cons_zero] at hk
  have L4 := Keep.mk (L3.out.next hn)
  have R4 : Keep ((lkOf K2 1 2).R = [(u2, [11, 140])]) := ⟨by rw [hk, lkOf_put (N := 2) (by decide) (by rw [List.length_set]; rfl) (by decide)]⟩
  clear hn hk L3 HK1
  simp only [Act.put, List.setIfInBounds_toArray, List.set_cons_zero, List.set_cons_succ]
  refine WL.val (by kernel_rfl) (.int .i64 0) (by go_simp) ?_
  simp only [Act.put, List.setIfInBounds_toArray, List.set_cons_zero, List.set_cons_succ]
  refine WL.nil ?_
  refine hK6 _ _ ?_
  refine wp_seq_k fun K7 hK7 => ?_
  refine wp_region_list (WL.out ?_)
  refine WL.val (by kernel_rfl) (.pointer (some ⟨p, 0, none⟩)) (by go_simp) ?_
  simp only [Act.put, List.setIfInBounds_toArray, List.set_cons_zero, List.set_cons_succ]
  refine WL.callF (by kernel_rfl) 16 _ _ rfl Tryd.in16 #[.pointer (some ⟨p, 0, none⟩), .int .i64 1, .int .i64 2] (by simp [Act.eval]) ?_
  refine (ltake 1 2 L4.out HE.out).mono ?_
  rintro e w5 ⟨v5, ev5, K3, rfl, hev, hL, _, _, hk⟩
  refine ⟨_, rfl, ?_⟩
  have ht : tkE 2 K2 1 2 = 0 := tk_some (by decide) (by rw [R4.out]; simp)
  rw [ht] at hev
  have hev2 : ev5 = .nilIface := hev
  clear hev
  subst hev2
  obtain ⟨b5, R5, u5, hR, hk, hO, hD⟩ := hk ht
  rw [R4.out] at hR
  injection hR with h1 h2
  injection h1 with h1 h3
  subst h1 h2 h3
  have L5 := Keep.mk hL
  have O5 := Keep.mk hO
  have D5 := Keep.mk (fun k hk => (hD k hk).2)
  clear hD
  have R5 : Keep ((lkOf K3 1 2).R = []) := ⟨by rw [hk, lkOf_put (N := 2) (by decide) L4.out.at_.len (by decide)]⟩
  clear hL hk hO L4 R4 ht
  obtain ⟨ra, rn, rc, hu⟩ := O5.out.sl
  subst hu
  simp only [Act.put, List.setIfInBounds_toArray, List.set_cons_zero, List.set_cons_succ]
  refine WL.val (by kernel_rfl) (.tuple #[.slice ra rn rc, .nilIface]) (by go_simp) ?_
  simp only [Act.put, List.setIfInBounds_toArray, List.set_cons_zero, List.set_cons_succ]
  refine WL.val (by kernel_rfl) (.slice ra rn rc) (by go_simp) ?_
  simp only [Act.put, List.setIfInBounds_toArray, List.set_cons_zero, List.set_cons_succ]
  refine WL.val (by kernel_rfl) (.nilIface) (by go_simp) ?_
  simp only [Act.put, List.setIfInBounds_toArray, List.set_cons_zero, List.set_cons_succ]
  refine WL.val (by kernel_rfl) (.slice ra rn rc) (by go_simp) ?_
  simp only [Act.put, List.setIfInBounds_toArray, List.set_cons_zero, List.set_cons_succ]
  refine WL.val (by kernel_rfl) (.nilIface) (by go_simp) ?_
  simp only [Act.put, List.setIfInBounds_toArray, List.set_cons_zero, List.set_cons_succ]
  refine WL.nil ?_
  refine hK7 _ _ ?_
  refine wp_seq_k fun K8 hK8 => ?_
  refine wp_region_list (WL.out ?_)
  refine WL.val (by kernel_rfl) (.pointer (some ⟨p, 0, none⟩)) (by go_simp) ?_
  simp only [Act.put, List.setIfInBounds_toArray, List.set_cons_zero, List.set_cons_succ]
  refine WL.callF (by kernel_rfl) 16 _ _ rfl Tryd.in16 #[.pointer (some ⟨p, 0, none⟩), .int .i64 1, .int .i64 2] (by simp [Act.eval]) ?_
  refine (ltake 1 2 L5.out HE.out).mono ?_
  rintro e w6 ⟨v6, ev6, K4, rfl, hev, hL, hN6, hk, _⟩
  refine ⟨_, rfl, ?_⟩
  have ht : tkE 2 K3 1 2 = -1 := tk_none (by decide) (by rw [R5.out]; decide)
  rw [ht] at hev hk
  have hev2 : ev6 = (.iface 105 (.pointer (some qe))) := hev
  clear hev
  subst hev2
  obtain ⟨_, rfl⟩ := hk (by decide)
  have L6 := Keep.mk hL
  have O6 : Keep (Own w6 (.slice ra rn rc) [11, 140]) := ⟨O5.out.grown hN6.gr fun k hk e => D5.out k hk e⟩
  clear hL hk hN6 L5 ht O5
  have g_ := (HE.out.of L6.out.bel).c
  simp only [Act.put, List.setIfInBounds_toArray, List.set_cons_zero, List.set_cons_succ]
  refine WL.val (by kernel_rfl) (.tuple #[.slice none 0 0, .iface 105 (.pointer (some qe))]) (by go_simp) ?_
  simp only [Act.put, List.setIfInBounds_toArray, List.set_cons_zero, List.set_cons_succ]
  refine WL.val (by kernel_rfl) (.slice none 0 0) (by go_simp) ?_
  simp only [Act.put, List.setIfInBounds_toArray, List.set_cons_zero, List.set_cons_succ]
  refine WL.val (by kernel_rfl) (.iface 105 (.pointer (some qe))) (by go_simp) ?_
  simp only [Act.put, List.setIfInBounds_toArray, List.set_cons_zero, List.set_cons_succ]
  refine WL.val (by kernel_rfl) (.slice none 0 0) (by go_simp) ?_
  simp only [Act.put, List.setIfInBounds_toArray, List.set_cons_zero, List.set_cons_succ]
  refine WL.val (by kernel_rfl) (.iface 105 (.pointer (some qe))) (by go_simp) ?_
  simp only [Act.put, List.setIfInBounds_toArray, List.set_cons_zero, List.set_cons_succ]
  refine WL.nil ?_
  refine hK8 _ _ ?_
  refine wp_seq_k fun K9 hK9 => ?_
  refine wp_region_list (WL.out ?_)
  refine WL.val (by kernel_rfl) (.int .i64 0) (by go_simp) ?_
  simp only [Act.put, List.setIfInBounds_toArray, List.set_cons_zero, List.set_cons_succ]
  refine WL.val (by kernel_rfl) (.bool true) (by go_simp) ?_
  simp only [Act.put, List.setIfInBounds_toArray, List.set_cons_zero, List.set_cons_succ]
  refine WL.val (by kernel_rfl) (.bool true) (by go_simp) ?_
  simp only [Act.put, List.setIfInBounds_toArray, List.set_cons_zero, List.set_cons_succ]
  refine WL.val (by kernel_rfl) (.int .i64 0) (by go_simp) ?_
  simp only [Act.put, List.setIfInBounds_toArray, List.set_cons_zero, List.set_cons_succ]
  refine WL.val (by kernel_rfl) (.bool true) (by go_simp) ?_
  simp only [Act.put, List.setIfInBounds_toArray, List.set_cons_zero, List.set_cons_succ]
  refine WL.val (by kernel_rfl) (.bool true) (by go_simp) ?_
  simp only [Act.put, List.setIfInBounds_toArray, List.set_cons_zero, List.set_cons_succ]
  refine WL.val (by kernel_rfl) (.bool true) (by go_simp) ?_
  simp only [Act.put, List.setIfInBounds_toArray, List.set_cons_zero, List.set_cons_succ]
  refine WL.val (by kernel_rfl) (.nilIface) (by go_simp) ?_
  simp only [Act.put, List.setIfInBounds_toArray, List.set_cons_zero, List.set_cons_succ]
  refine WL.val (by kernel_rfl) (.bool true) (by have h := eq_nn w6; go_simp) ?_
  simp only [Act.put, List.setIfInBounds_toArray, List.set_cons_zero, List.set_cons_succ]
  refine WL.val (by kernel_rfl) (.bool true) (by go_simp) ?_
  simp only [Act.put, List.setIfInBounds_toArray, List.set_cons_zero, List.set_cons_succ]
  refine WL.val (by kernel_rfl) (.bool true) (by go_simp) ?_
  simp only [Act.put, List.setIfInBounds_toArray, List.set_cons_zero, List.set_cons_succ]
  refine WL.val (by kernel_rfl) (.iface 105 (.pointer (some qe))) (by go_simp) ?_
  simp only [Act.put, List.setIfInBounds_toArray, List.set_cons_zero, List.set_cons_succ]
  refine WL.val (by kernel_rfl) (.iface 105 (.pointer (some qe))) (by go_simp) ?_
  simp only [Act.put, List.setIfInBounds_toArray, List.set_cons_zero, List.set_cons_succ]
  refine WL.val (by kernel_rfl) (.bool true) (by have h := eq_idle qe w6; go_simp) ?_
  simp only [Act.put, List.setIfInBounds_toArray, List.set_cons_zero, List.set_cons_succ]
  refine WL.val (by kernel_rfl) (.bool true) (by go_simp) ?_
  simp only [Act.put, List.setIfInBounds_toArray, List.set_cons_zero, List.set_cons_succ]
  refine WL.val (by kernel_rfl) (.bool true) (by go_simp) ?_
  simp only [Act.put, List.setIfInBounds_toArray, List.set_cons_zero, List.set_cons_succ]
  refine WL.val (by kernel_rfl) (.slice ra rn rc) (by go_simp) ?_
  simp only [Act.put, List.setIfInBounds_toArray, List.set_cons_zero, List.set_cons_succ]
  refine WL.bs (by kernel_rfl) 39 2 _ rfl #[(0, .int .u8 11), (1, .int .u8 140)] (by simp [Act.eval]) _ _ (bsB2 11 140 w6) ?_
  have O7 := Keep.mk (own_done w6 [11, 140] (by simp))
  have b7 := below_new w6 (.cells (bv [11, 140]).toArray 5)
  have L7 := Keep.mk (L6.out.below b7)
  have X7 := Keep.mk (O6.out.row.below b7)
  change Keep (Own (w6.alloc (.cells (bv [11, 140]).toArray 5)) (.slice (some ⟨w6.heap.size, 0, none⟩) 2 2) [11, 140]) at O7
  clear g_
  generalize w6.alloc (.cells (bv [11, 140]).toArray 5) = w7 at *
  obtain ⟨g7, hg7⟩ : ∃ z, Keep (z = w6.heap.size) := ⟨_, ⟨rfl⟩⟩
  rw [← hg7.out] at O7 ⊢
  clear b7 L6 O6
  simp only [Act.put, List.setIfInBounds_toArray, List.set_cons_zero, List.set_cons_succ]
  refine WL.callF (by kernel_rfl) 17 _ _ rfl Tryd.in17 #[.slice ra rn rc, .slice (some ⟨g7, 0, none⟩) 2 2] (by simp [Act.eval]) ?_
  refine (same_any _ _ [11, 140] [11, 140] w7 X7.out O7.out.row (by intro c hc; simp at hc; omega) (by intro c hc; simp at hc; omega)).mono ?_
  rintro e w7_ ⟨rfl, hw_⟩
  refine ⟨_, rfl, ?_⟩
  have hw_ := hw_.symm
  subst hw_
  simp only [Act.put, List.setIfInBounds_toArray, List.set_cons_zero, List.set_cons_succ]
  refine WL.val (by kernel_rfl) (.bool true) (by go_simp) ?_
  simp only [Act.put, List.setIfInBounds_toArray, List.set_cons_zero, List.set_cons_succ]
  refine WL.val (by kernel_rfl) (.bool true) (by go_simp) ?_
  simp only [Act.put, List.setIfInBounds_toArray, List.set_cons_zero, List.set_cons_succ]
  refine WL.nil ?_
  refine hK9 _ _ ?_
  refine wp_ret ?_
  go_ret
  exact ⟨rfl, L7.out.bel⟩

section
variable {w0 w : World} {p mb N : Nat} {f t : Int} {M : List (List Int)} {O : List (Value × List Int)}
end

structure PR (w : World) (p mb x g N : Nat) (P K : List Lk) : Prop where
  pm : PmAt w p mb N 0 P
  rm : RmAt w x g N K
  dj : ∀ k, PmS p mb P k → ¬ RmS x g K k
def PrS (p mb x g : Nat) (P K : List Lk) (k : Nat) : Prop := PmS p mb P k ∨ RmS x g K k
def EqL (P K : List Lk) : Prop := P.map Lk.bs = K.map Lk.bs
structure PrN (w : World) (p mb x g N : Nat) (P K P' K' : List Lk) (w' : World) : Prop where
  at_ : PR w' p mb x g N P' K'
  gr : Grown w w' (PrS p mb x g P K)
  new : ∀ k, PrS p mb x g P' K' k → PrS p mb x g P K k ∨ w.heap.size ≤ k
section
variable {w w' w'' : World} {p mb x g N : Nat} {P K P' K' P'' K'' : List Lk} {f t : Int}
theorem PR.lt (h : PR w p mb x g N P K) (k : Nat) (hk : PrS p mb x g P K k) : k < w.heap.size := by
  rcases hk with e | e
  · exact h.pm.lt k e
  · exact h.rm.lt k e
theorem PR.prog (h : PR w p mb x g N P K) (n : PmN w p mb N P P' 0 w') : PrN w p mb x g N P K P' K w' :=
  ⟨⟨n.at_, h.rm.grown n.gr fun m e => h.dj m e, fun k hk e => by
    rcases n.new k hk with e2 | e2
    · exact h.dj k e2 e
    · have := h.rm.lt k e; omega⟩, n.gr.mono fun k _ e => .inl e, fun k hk => by
    rcases hk with e | e
    · rcases n.new k e with e2 | e2
      · exact .inl (.inl e2)
      · exact .inr e2
    · exact .inl (.inr e)⟩
theorem PR.ref (h : PR w p mb x g N P K) (n : RmN w x g N K K' w') : PrN w p mb x g N P K P K' w' :=
  ⟨⟨h.pm.grown n.gr fun m e e2 => h.dj m e2 (.inr (.inl e)), n.at_, fun k hk e => by
    rcases n.new k e with e2 | e2
    · exact h.dj k hk e2
    · have := h.pm.lt k hk; omega⟩, n.gr.mono fun k _ e => .inr (.inr (.inl e)), fun k hk => by
    rcases hk with e | e
    · exact .inl (.inl e)
    · rcases n.new k e with e2 | e2
      · exact .inl (.inr e2)
      · exact .inr e2⟩
theorem PrN.trans (h : PrN w p mb x g N P K P' K' w') (k : PrN w' p mb x g N P' K' P'' K'' w'') : PrN w p mb x g N P K P'' K'' w'' :=
  ⟨k.at_, h.gr.next k.gr fun i hi e => (h.new i e).resolve_right (by omega), fun i e => by
    rcases k.new i e with e | e
    · exact h.new i e
    · exact .inr (Nat.le_trans h.gr.size e)⟩
theorem PrN.refl (h : PR w p mb x g N P K) : PrN w p mb x g N P K P K w := ⟨h, Grown.refl _ _, fun _ e => .inl e⟩
theorem PR.grown {S : Nat → Prop} (h : PR w p mb x g N P K) (hg : Grown w w' S) (hs : ∀ k, S k → ¬ PrS p mb x g P K k) : PR w' p mb x g N P K :=
  ⟨h.pm.grown hg fun k e e2 => hs k e (.inl e2), h.rm.grown hg fun k e e2 => hs k e (.inr e2), h.dj⟩
theorem PR.below (h : PR w p mb x g N P K) (hb : Below w.heap.size w w') : PR w' p mb x g N P K := h.grown (Grown.below (S := fun _ => False) hb) fun _ e => e.elim
theorem EqL.lk (h : EqL P K) (f t : Int) : (lkOf P f t).bs = (lkOf K f t).bs := by
  have h1 := congrArg (fun l => l[ix f t]?) h
  simp only [List.getElem?_map] at h1
  unfold lkOf
  rcases hp : P[ix f t]? with _ | a <;> rcases hk : K[ix f t]? with _ | b <;> rw [hp, hk] at h1 <;> simp_all
theorem EqL.len (h : EqL P K) (f t : Int) : (lkOf P f t).R.length = (lkOf K f t).R.length := by
  have h1 := congrArg List.length (h.lk f t)
  simpa [Lk.bs] using h1
theorem EqL.at (h : EqL P K) (f t : Int) {i : Nat} {q r : Value × List Int} (hq : (lkOf P f t).R[i]? = some q) (hr : (lkOf K f t).R[i]? = some r) : q.2 = r.2 := by
  have h1 := congrArg (fun l => l[i]?) (h.lk f t)
  simp only [Lk.bs, List.getElem?_map, hq, hr, Option.map_some, Option.some.injEq] at h1
  exact h1
theorem EqL.set (h : EqL P K) (i : Nat) {a b : Lk} (e : a.bs = b.bs) : EqL (P.set i a) (K.set i b) := by
  unfold EqL at *
  rw [List.map_set, List.map_set, h, e]
theorem EqL.nm (h : EqL P K) (f t i : Int) : nmE N P f t i = nmE N K f t i := by unfold nmE; rw [h.len]
theorem EqL.sd (h : EqL P K) (f t : Int) (b : List Int) : sndE N P f t b = sndE N K f t b := by unfold sndE; rw [h.len]
theorem EqL.tk (h : EqL P K) (f t : Int) : tkE N P f t = tkE N K f t := by unfold tkE; rw [h.len]
theorem EqL.tw (h : EqL P K) (f t i : Int) : twE N P f t i = twE N K f t i := by unfold twE; rw [h.nm, h.len]
theorem EqL.sp (h : EqL P K) (f t i j : Int) : spE N P f t i j = spE N K f t i j := by unfold spE; rw [h.nm, h.nm]
theorem EqL.fl (h : EqL P K) (f t i by_ : Int) : flE N P f t i by_ = flE N K f t i by_ := by
  unfold flE
  rw [h.nm]
  have h1 := congrArg (fun l => (l[i.toNat]?).map List.length) (h.lk f t)
  simp only [Lk.bs, List.getElem?_map, Option.map_map] at h1
  have h2 : ((lkOf P f t).R[i.toNat]?.map fun q => q.2.length) = ((lkOf K f t).R[i.toNat]?.map fun q => q.2.length) := h1
  rw [h2]
theorem EqL.ln (h : EqL P K) (f t : Int) : lenI N P f t = lenI N K f t := by unfold lenI; rw [h.len]
theorem bs_app (R S : List (Value × List Int)) (v v' u u' : Value) (b : List Int) (h : R.map (·.2) = S.map (·.2)) : Lk.bs ⟨v, R ++ [(u, b)]⟩ = Lk.bs ⟨v', S ++ [(u', b)]⟩ := by simp [Lk.bs, h]
theorem bs_of (h : EqL P K) (f t : Int) : (lkOf P f t).R.map (·.2) = (lkOf K f t).R.map (·.2) := h.lk f t
theorem eq_send (h : EqL P K) {b : List Int} {er er' : Int} (e1 : er = sndE N P f t b) (e2 : er ≠ 0 → P' = P) (e3 : er = 0 → ∃ u v, P' = P.set (ix f t) ⟨v, (lkOf P f t).R ++ [(u, b)]⟩) (d1 : er' = sndE N K f t b) (d2 : sndE N K f t b ≠ 0 → K' = K) (d3 : sndE N K f t b = 0 → ∃ u v, K' = K.set (ix f t) ⟨v, (lkOf K f t).R ++ [(u, b)]⟩) : er = er' ∧ EqL P' K' := by
  rw [h.sd] at e1
  refine ⟨by rw [e1, d1], ?_⟩
  by_cases e0 : er = 0
  · obtain ⟨u, v, rfl⟩ := e3 e0
    obtain ⟨u', v', rfl⟩ := d3 (by rw [← e1]; exact e0)
    exact h.set _ (bs_app _ _ _ _ _ _ _ (bs_of h f t))
  · rw [e2 e0, d2 (by rw [← e1]; exact e0)]; exact h
theorem eq_drop (h : EqL P K) {i er er' : Int} (e1 : er = nmE N P f t i) (e2 : er ≠ 0 → P' = P) (e3 : er = 0 → ∃ v, P' = P.set (ix f t) ⟨v, (lkOf P f t).R.eraseIdx i.toNat⟩) (d1 : er' = nmE N K f t i) (d2 : nmE N K f t i ≠ 0 → K' = K) (d3 : nmE N K f t i = 0 → ∃ v, K' = K.set (ix f t) ⟨v, (lkOf K f t).R.eraseIdx i.toNat⟩) : er = er' ∧ EqL P' K' := by
  rw [h.nm] at e1
  refine ⟨by rw [e1, d1], ?_⟩
  by_cases e0 : er = 0
  · obtain ⟨v, rfl⟩ := e3 e0
    obtain ⟨v', rfl⟩ := d3 (by rw [← e1]; exact e0)
    refine h.set _ ?_
    show ((lkOf P f t).R.eraseIdx i.toNat).map (·.2) = ((lkOf K f t).R.eraseIdx i.toNat).map (·.2)
    rw [map_eraseIdx, map_eraseIdx, bs_of h f t]
  · rw [e2 e0, d2 (by rw [← e1]; exact e0)]; exact h
theorem eq_twice (h : EqL P K) {i er er' : Int} (e1 : er = twE N P f t i) (e2 : er ≠ 0 → P' = P) (e3 : er = 0 → ∃ u v q, (lkOf P f t).R[i.toNat]? = some q ∧ P' = P.set (ix f t) ⟨v, (lkOf P f t).R ++ [(u, q.2)]⟩) (d1 : er' = twE N K f t i) (d2 : twE N K f t i ≠ 0 → K' = K) (d3 : twE N K f t i = 0 → ∃ u v q, (lkOf K f t).R[i.toNat]? = some q ∧ K' = K.set (ix f t) ⟨v, (lkOf K f t).R ++ [(u, q.2)]⟩) : er = er' ∧ EqL P' K' := by
  rw [h.tw] at e1
  refine ⟨by rw [e1, d1], ?_⟩
  by_cases e0 : er = 0
  · obtain ⟨u, v, q, hq, rfl⟩ := e3 e0
    obtain ⟨u', v', r, hr, rfl⟩ := d3 (by rw [← e1]; exact e0)
    rw [h.at f t hq hr]
    exact h.set _ (bs_app _ _ _ _ _ _ _ (bs_of h f t))
  · rw [e2 e0, d2 (by rw [← e1]; exact e0)]; exact h
theorem eq_swap (h : EqL P K) {i j er er' : Int} (e1 : er = spE N P f t i j) (e2 : er ≠ 0 → P' = P) (e3 : er = 0 → ∃ q r, (lkOf P f t).R[i.toNat]? = some q ∧ (lkOf P f t).R[j.toNat]? = some r ∧ P' = P.set (ix f t) ⟨(lkOf P f t).v, ((lkOf P f t).R.set i.toNat r).set j.toNat q⟩) (d1 : er' = spE N K f t i j) (d2 : spE N K f t i j ≠ 0 → K' = K) (d3 : spE N K f t i j = 0 → ∃ q r, (lkOf K f t).R[i.toNat]? = some q ∧ (lkOf K f t).R[j.toNat]? = some r ∧ K' = K.set (ix f t) ⟨(lkOf K f t).v, ((lkOf K f t).R.set i.toNat r).set j.toNat q⟩) : er = er' ∧ EqL P' K' := by
  rw [h.sp] at e1
  refine ⟨by rw [e1, d1], ?_⟩
  by_cases e0 : er = 0
  · obtain ⟨q, r, hq, hr, rfl⟩ := e3 e0
    obtain ⟨q', r', hq', hr', rfl⟩ := d3 (by rw [← e1]; exact e0)
    refine h.set _ ?_
    show (((lkOf P f t).R.set i.toNat r).set j.toNat q).map (·.2) = (((lkOf K f t).R.set i.toNat r').set j.toNat q').map (·.2)
    simp only [List.map_set]
    rw [bs_of h f t, h.at f t hq hq', h.at f t hr hr']
  · rw [e2 e0, d2 (by rw [← e1]; exact e0)]; exact h
theorem eq_flip (h : EqL P K) {i m by_ er er' : Int} (e1 : er = flE N P f t i by_) (e2 : er ≠ 0 → P' = P) (e3 : er = 0 → ∃ q u, (lkOf P f t).R[i.toNat]? = some q ∧ P' = P.set (ix f t) ⟨(lkOf P f t).v, (lkOf P f t).R.set i.toNat (u, q.2.set (rnd m q.2.length) (xor8 (q.2.getD (rnd m q.2.length) 0) by_))⟩) (d1 : er' = flE N K f t i by_) (d2 : flE N K f t i by_ ≠ 0 → K' = K) (d3 : flE N K f t i by_ = 0 → ∃ q u, (lkOf K f t).R[i.toNat]? = some q ∧ K' = K.set (ix f t) ⟨(lkOf K f t).v, (lkOf K f t).R.set i.toNat (u, q.2.set (rnd m q.2.length) (xor8 (q.2.getD (rnd m q.2.length) 0) by_))⟩) : er = er' ∧ EqL P' K' := by
  rw [h.fl] at e1
  refine ⟨by rw [e1, d1], ?_⟩
  by_cases e0 : er = 0
  · obtain ⟨q, u, hq, rfl⟩ := e3 e0
    obtain ⟨q', u', hq', rfl⟩ := d3 (by rw [← e1]; exact e0)
    refine h.set _ ?_
    rw [h.at f t hq hq']
    simp only [Lk.bs, List.map_set]
    rw [bs_of h f t]
  · rw [e2 e0, d2 (by rw [← e1]; exact e0)]; exact h
theorem eq_clip (h : EqL P K) {i m er er' : Int} (e1 : er = nmE N P f t i) (e2 : er ≠ 0 → P' = P) (e3 : er = 0 → ∃ q, (lkOf P f t).R[i.toNat]? = some q ∧ (q.2.length = 0 → P' = P) ∧ (q.2.length ≠ 0 → ∃ u, P' = P.set (ix f t) ⟨(lkOf P f t).v, (lkOf P f t).R.set i.toNat (u, q.2.take (rnd m q.2.length))⟩)) (d1 : er' = nmE N K f t i) (d2 : nmE N K f t i ≠ 0 → K' = K) (d3 : nmE N K f t i = 0 → ∃ q, (lkOf K f t).R[i.toNat]? = some q ∧ (q.2.length = 0 → K' = K) ∧ (q.2.length ≠ 0 → ∃ u, K' = K.set (ix f t) ⟨(lkOf K f t).v, (lkOf K f t).R.set i.toNat (u, q.2.take (rnd m q.2.length))⟩)) : er = er' ∧ EqL P' K' := by
  rw [h.nm] at e1
  refine ⟨by rw [e1, d1], ?_⟩
  by_cases e0 : er = 0
  · obtain ⟨q, hq, hz, hp⟩ := e3 e0
    obtain ⟨q', hq', hz', hp'⟩ := d3 (by rw [← e1]; exact e0)
    have hqq := h.at f t hq hq'
    by_cases e4 : q.2.length = 0
    · rw [hz e4, hz' (by rw [← hqq]; exact e4)]; exact h
    · obtain ⟨u, rfl⟩ := hp e4
      obtain ⟨u', rfl⟩ := hp' (by rw [← hqq]; exact e4)
      refine h.set _ ?_
      rw [hqq]
      simp only [Lk.bs, List.map_set]
      rw [bs_of h f t]
  · rw [e2 e0, d2 (by rw [← e1]; exact e0)]; exact h
theorem eq_clear (h : EqL P K) {er er' : Int} (e1 : er = if thr N f t then 0 else 1) (e2 : er ≠ 0 → P' = P) (e3 : er = 0 → P' = P.set (ix f t) ⟨.slice none 0 0, []⟩) (d1 : er' = if thr N f t then 0 else 1) (d2 : thr N f t = false → K' = K) (d3 : thr N f t = true → K' = K.set (ix f t) ⟨.slice none 0 0, []⟩) : er = er' ∧ EqL P' K' := by
  refine ⟨by rw [e1, d1], ?_⟩
  cases ht : thr N f t
  · rw [ht] at e1
    rw [e2 (by rw [e1]; decide), d2 ht]; exact h
  · rw [ht] at e1
    rw [e3 (by rw [e1]; rfl), d3 ht]; exact h.set _ rfl
theorem eq_take (h : EqL P K) {v y : Value} (e2 : tkE N P f t ≠ 0 → P' = P ∧ v = .slice none 0 0) (e3 : tkE N P f t = 0 → ∃ b R u, (lkOf P f t).R = (v, b) :: R ∧ P' = P.set (ix f t) ⟨u, R⟩ ∧ Own w' v b ∧ ∀ k, v.ownBlock = some k → PmS p mb P k ∧ ¬ PmS p mb P' k) (d2 : tkE N K f t ≠ 0 → K' = K ∧ y = .slice none 0 0) (d3 : tkE N K f t = 0 → ∃ b R u, (lkOf K f t).R = (y, b) :: R ∧ K' = K.set (ix f t) ⟨u, R⟩) :
    EqL P' K' ∧ (tkE N K f t ≠ 0 → P' = P ∧ K' = K ∧ v = .slice none 0 0 ∧ y = .slice none 0 0) ∧ (tkE N K f t = 0 → ∃ b S, Own w' v b ∧ (lkOf K f t).R = (y, b) :: S ∧ ∀ k, v.ownBlock = some k → PmS p mb P k ∧ ¬ PmS p mb P' k) := by
  rw [h.tk] at e2 e3
  by_cases e0 : tkE N K f t = 0
  · obtain ⟨b, R, u, hR, hP, hO, hd⟩ := e3 e0
    obtain ⟨b', R', u', hR', hK⟩ := d3 e0
    have hb := bs_of h f t
    rw [hR, hR'] at hb
    simp only [List.map_cons, List.cons.injEq] at hb
    obtain ⟨hb1, hb2⟩ := hb
    subst hb1
    refine ⟨by rw [hP, hK]; exact h.set _ hb2, fun e => absurd e0 e, fun _ => ⟨b, R', hO, hR', hd⟩⟩
  · obtain ⟨hP, hv⟩ := e2 e0
    obtain ⟨hK, hy⟩ := d2 e0
    exact ⟨by rw [hP, hK]; exact h, fun _ => ⟨hP, hK, hv, hy⟩, fun e => absurd e e0⟩
end

theorem PrN.of_below {w w1 w' : World} {p mb x g N : Nat} {P K P' K' : List Lk} (hb : Below w.heap.size w w1) (n : PrN w1 p mb x g N P K P' K' w') : PrN w p mb x g N P K P' K' w' :=
  ⟨n.at_, (Grown.below hb).trans n.gr, fun k e => by
    rcases n.new k e with e | e
    · exact .inl e
    · exact .inr (Nat.le_trans hb.size e)⟩

theorem Tryd.in10 (w : World) (vs : Array Value) : (callFunc 10 vs).run Tryd.prog w = .ok (.enter 10 vs) w := by kernel_rfl
set_option maxRecDepth 8000 in
theorem st_drop (w : World) (p mb x g N : Nat) (Ps Ks : List Lk) (f t i j m by_ : Int) (vb vk : Value) (hvb : Value.oneCell' vb = true) (HR : Keep (PR w p mb x g N Ps Ks)) (HEq : Keep (EqL Ps Ks)) : Calls Tryd.prog 10 #[.agg #[.pointer (some ⟨p, 0, none⟩), .pointer (some ⟨x, 0, none⟩)], .agg #[.int .i64 3, .int .i64 f, .int .i64 t, .int .i64 i, .int .i64 j, .int .i64 m, .int .u8 by_, vb], vk] w fun e w' => e = .returned (.bool true) ∧ ∃ P' K', PrN w p mb x g N Ps Ks P' K' w' ∧ EqL P' K' := by
  go_enter Tryd.func10, Tryd.ntmps10
  refine wp_seq_k fun K1 hK1 => ?_
  refine wp_region_list (WL.out ?_)
  refine WL.box (by kernel_rfl) 34 (.tmp 0) rfl #[.pointer (some ⟨p, 0, none⟩), .pointer (some ⟨x, 0, none⟩)] rfl ?_
  have b1 := below_new w (.cells #[.pointer (some ⟨p, 0, none⟩), .pointer (some ⟨x, 0, none⟩)] 34)
  have Q3 := Keep.mk (Blk.new w 34 #[.pointer (some ⟨p, 0, none⟩), .pointer (some ⟨x, 0, none⟩)])
  generalize w.alloc (.cells #[.pointer (some ⟨p, 0, none⟩), .pointer (some ⟨x, 0, none⟩)] 34) = w1 at *
  obtain ⟨b3, hb3⟩ : ∃ z, Keep (z = w.heap.size) := ⟨_, ⟨rfl⟩⟩
  rw [← hb3.out] at Q3 ⊢
  simp only [Act.put, List.setIfInBounds_toArray, List.set_cons_zero, List.set_cons_succ]
  refine WL.box (by kernel_rfl) 41 (.tmp 1) rfl #[.int .i64 3, .int .i64 f, .int .i64 t, .int .i64 i, .int .i64 j, .int .i64 m, .int .u8 by_, vb] rfl ?_
  have b2 := below_new w1 (.cells #[.int .i64 3, .int .i64 f, .int .i64 t, .int .i64 i, .int .i64 j, .int .i64 m, .int .u8 by_, vb] 41)
  have Q4 := Keep.mk (Blk.new w1 41 #[.int .i64 3, .int .i64 f, .int .i64 t, .int .i64 i, .int .i64 j, .int .i64 m, .int .u8 by_, vb])
  have Q3 := Keep.mk (Q3.out.alloc (.cells #[.int .i64 3, .int .i64 f, .int .i64 t, .int .i64 i, .int .i64 j, .int .i64 m, .int .u8 by_, vb] 41))
  have hb2 := below_new w1 (.cells #[.int .i64 3, .int .i64 f, .int .i64 t, .int .i64 i, .int .i64 j, .int .i64 m, .int .u8 by_, vb] 41)
  generalize w1.alloc (.cells #[.int .i64 3, .int .i64 f, .int .i64 t, .int .i64 i, .int .i64 j, .int .i64 m, .int .u8 by_, vb] 41) = w2 at *
  obtain ⟨b4, hb4⟩ : ∃ z, Keep (z = w1.heap.size) := ⟨_, ⟨rfl⟩⟩
  rw [← hb4.out] at Q4 ⊢
  have HB2 : Keep (Below w.heap.size w w2) := ⟨b1.trans (b2.mono b1.size)⟩
  have R2 := Keep.mk (HR.out.below HB2.out)
  have HF3 : Keep (∀ k, PrS p mb x g Ps Ks k → k ≠ b3 ∧ k ≠ b4) := ⟨fun k hk => by have := HR.out.lt k hk; have := hb3.out; have := hb4.out; have := b1.size; omega⟩
  clear b1 b2 hb2
  have c3_0 := Q3.out.c 0 (rfl : _ = some (Value.pointer (some ⟨p, 0, none⟩)))
  have c3_1 := Q3.out.c 1 (rfl : _ = some (Value.pointer (some ⟨x, 0, none⟩)))
  have c4_0 := Q4.out.c 0 (rfl : _ = some (Value.int .i64 3))
  have c4_1 := Q4.out.c 1 (rfl : _ = some (Value.int .i64 f))
  have c4_2 := Q4.out.c 2 (rfl : _ = some (Value.int .i64 t))
  have c4_3 := Q4.out.c 3 (rfl : _ = some (Value.int .i64 i))
  have c4_4 := Q4.out.c 4 (rfl : _ = some (Value.int .i64 j))
  have c4_5 := Q4.out.c 5 (rfl : _ = some (Value.int .i64 m))
  have c4_6 := Q4.out.c 6 (rfl : _ = some (Value.int .u8 by_))
  simp only [Act.put, List.setIfInBounds_toArray, List.set_cons_zero, List.set_cons_succ]
  refine WL.val (by kernel_rfl) (.bool false) (by go_simp) ?_
  simp only [Act.put, List.setIfInBounds_toArray, List.set_cons_zero, List.set_cons_succ]
  refine WL.nil ?_
  refine hK1 _ _ ?_
  refine wp_seq_k fun K2 hK2 => ?_
  refine wp_seq_k fun K3 hK3 => ?_
  refine wp_region_list (WL.out ?_)
  refine WL.val (by kernel_rfl) (.pointer (some ⟨b4, 0, none⟩)) (by go_simp) ?_
  simp only [Act.put, List.setIfInBounds_toArray, List.set_cons_zero, List.set_cons_succ]
  refine WL.val (by kernel_rfl) (.int .i64 3) (by go_simp) ?_
  simp only [Act.put, List.setIfInBounds_toArray, List.set_cons_zero, List.set_cons_succ]
  refine WL.nil ?_
  refine hK3 _ _ ?_
  refine wp_block ?_
  refine wp_seq_k fun K4 hK4 => ?_
  refine wp_region_list (WL.out ?_)
  refine WL.val (by kernel_rfl) (.bool false) (by go_simp) ?_
  simp only [Act.put, List.setIfInBounds_toArray, List.set_cons_zero, List.set_cons_succ]
  refine WL.val (by kernel_rfl) (.bool false) (by go_simp) ?_
  simp only [Act.put, List.setIfInBounds_toArray, List.set_cons_zero, List.set_cons_succ]
  refine WL.nil ?_
  refine hK4 _ _ ?_
  refine wp_cond_false rfl ?_
  refine wp_seq_k fun K5 hK5 => ?_
  refine wp_region_list (WL.out ?_)
  refine WL.val (by kernel_rfl) (.bool false) (by go_simp) ?_
  simp only [Act.put, List.setIfInBounds_toArray, List.set_cons_zero, List.set_cons_succ]
  refine WL.val (by kernel_rfl) (.bool false) (by go_simp) ?_
  simp only [Act.put, List.setIfInBounds_toArray, List.set_cons_zero, List.set_cons_succ]
  refine WL.nil ?_
  refine hK5 _ _ ?_
  refine wp_cond_false rfl ?_
  refine wp_seq_k fun K6 hK6 => ?_
  refine wp_region_list (WL.out ?_)
  refine WL.val (by kernel_rfl) (.bool true) (by go_simp) ?_
  simp only [Act.put, List.setIfInBounds_toArray, List.set_cons_zero, List.set_cons_succ]
  refine WL.val (by kernel_rfl) (.bool true) (by go_simp) ?_
  simp only [Act.put, List.setIfInBounds_toArray, List.set_cons_zero, List.set_cons_succ]
  refine WL.nil ?_
  refine hK6 _ _ ?_
  refine wp_cond_true rfl ?_
  refine wp_seq_k fun K7 hK7 => ?_
  refine wp_region_list (WL.out ?_)
  refine WL.val (by kernel_rfl) (.pointer (some ⟨b3, 0, none⟩)) (by go_simp) ?_
  simp only [Act.put, List.setIfInBounds_toArray, List.set_cons_zero, List.set_cons_succ]
  refine WL.val (by kernel_rfl) (.pointer (some ⟨p, 0, none⟩)) (by go_simp) ?_
  simp only [Act.put, List.setIfInBounds_toArray, List.set_cons_zero, List.set_cons_succ]
  refine WL.val (by kernel_rfl) (.pointer (some ⟨b4, 1, none⟩)) (by go_simp) ?_
  simp only [Act.put, List.setIfInBounds_toArray, List.set_cons_zero, List.set_cons_succ]
  refine WL.val (by kernel_rfl) (.int .i64 f) (by go_simp) ?_
  simp only [Act.put, List.setIfInBounds_toArray, List.set_cons_zero, List.set_cons_succ]
  refine WL.val (by kernel_rfl) (.pointer (some ⟨b4, 2, none⟩)) (by go_simp) ?_
  simp only [Act.put, List.setIfInBounds_toArray, List.set_cons_zero, List.set_cons_succ]
  refine WL.val (by kernel_rfl) (.int .i64 t) (by go_simp) ?_
  simp only [Act.put, List.setIfInBounds_toArray, List.set_cons_zero, List.set_cons_succ]
  refine WL.val (by kernel_rfl) (.pointer (some ⟨b4, 3, none⟩)) (by go_simp) ?_
  simp only [Act.put, List.setIfInBounds_toArray, List.set_cons_zero, List.set_cons_succ]
  refine WL.val (by kernel_rfl) (.int .i64 i) (by go_simp) ?_
  simp only [Act.put, List.setIfInBounds_toArray, List.set_cons_zero, List.set_cons_succ]
  refine WL.callF (by kernel_rfl) 25 _ _ rfl Tryd.in25 #[.pointer (some ⟨p, 0, none⟩), .int .i64 f, .int .i64 t, .int .i64 i] (by simp [Act.eval]) ?_
  refine (pdr w2 p mb N Ps f t i ⟨R2.out.pm⟩).mono ?_
  rintro e w3 ⟨er, P1, rfl, he, n, k2, k3⟩
  refine ⟨_, rfl, ?_⟩
  clear c3_0 c3_1 c4_0 c4_1 c4_2 c4_3 c4_4 c4_5 c4_6
  have N3 := Keep.mk (R2.out.prog n)
  have X3 := Keep.mk (N3.out.gr.blk Q3.out fun e => (HF3.out _ e).1 rfl)
  have X4 := Keep.mk (N3.out.gr.blk Q4.out fun e => (HF3.out _ e).2 rfl)
  have He := Keep.mk he
  have Hk2 := Keep.mk k2
  have Hk3 := Keep.mk k3
  clear he n k2 k3
  have c3_0 := X3.out.c 0 (rfl : _ = some (Value.pointer (some ⟨p, 0, none⟩)))
  have c3_1 := X3.out.c 1 (rfl : _ = some (Value.pointer (some ⟨x, 0, none⟩)))
  have c4_0 := X4.out.c 0 (rfl : _ = some (Value.int .i64 3))
  have c4_1 := X4.out.c 1 (rfl : _ = some (Value.int .i64 f))
  have c4_2 := X4.out.c 2 (rfl : _ = some (Value.int .i64 t))
  have c4_3 := X4.out.c 3 (rfl : _ = some (Value.int .i64 i))
  have c4_4 := X4.out.c 4 (rfl : _ = some (Value.int .i64 j))
  have c4_5 := X4.out.c 5 (rfl : _ = some (Value.int .i64 m))
  have c4_6 := X4.out.c 6 (rfl : _ = some (Value.int .u8 by_))
  simp only [Act.put, List.setIfInBounds_toArray, List.set_cons_zero, List.set_cons_succ]
  refine WL.val (by kernel_rfl) (.int .i64 er) (by go_simp) ?_
  simp only [Act.put, List.setIfInBounds_toArray, List.set_cons_zero, List.set_cons_succ]
  refine WL.nil ?_
  refine hK7 _ _ ?_
  refine wp_seq_k fun K8 hK8 => ?_
  refine wp_region_list (WL.out ?_)
  refine WL.val (by kernel_rfl) (.int .i64 er) (by go_simp) ?_
  simp only [Act.put, List.setIfInBounds_toArray, List.set_cons_zero, List.set_cons_succ]
  refine WL.val (by kernel_rfl) (.pointer (some ⟨b3, 1, none⟩)) (by go_simp) ?_
  simp only [Act.put, List.setIfInBounds_toArray, List.set_cons_zero, List.set_cons_succ]
  refine WL.val (by kernel_rfl) (.pointer (some ⟨x, 0, none⟩)) (by go_simp) ?_
  simp only [Act.put, List.setIfInBounds_toArray, List.set_cons_zero, List.set_cons_succ]
  refine WL.val (by kernel_rfl) (.pointer (some ⟨b4, 1, none⟩)) (by go_simp) ?_
  simp only [Act.put, List.setIfInBounds_toArray, List.set_cons_zero, List.set_cons_succ]
  refine WL.val (by kernel_rfl) (.int .i64 f) (by go_simp) ?_
  simp only [Act.put, List.setIfInBounds_toArray, List.set_cons_zero, List.set_cons_succ]
  refine WL.val (by kernel_rfl) (.pointer (some ⟨b4, 2, none⟩)) (by go_simp) ?_
  simp only [Act.put, List.setIfInBounds_toArray, List.set_cons_zero, List.set_cons_succ]
  refine WL.val (by kernel_rfl) (.int .i64 t) (by go_simp) ?_
  simp only [Act.put, List.setIfInBounds_toArray, List.set_cons_zero, List.set_cons_succ]
  refine WL.val (by kernel_rfl) (.pointer (some ⟨b4, 3, none⟩)) (by go_simp) ?_
  simp only [Act.put, List.setIfInBounds_toArray, List.set_cons_zero, List.set_cons_succ]
  refine WL.val (by kernel_rfl) (.int .i64 i) (by go_simp) ?_
  simp only [Act.put, List.setIfInBounds_toArray, List.set_cons_zero, List.set_cons_succ]
  refine WL.callF (by kernel_rfl) 26 _ _ rfl Tryd.in26 #[.pointer (some ⟨x, 0, none⟩), .int .i64 f, .int .i64 t, .int .i64 i] (by simp [Act.eval]) ?_
  refine (rdrop_any w3 x g N Ks f t i N3.out.at_.rm).mono ?_
  rintro e w4 ⟨rfl, K1, n2, d2, d3⟩
  refine ⟨_, rfl, ?_⟩
  clear c3_0 c3_1 c4_0 c4_1 c4_2 c4_3 c4_4 c4_5 c4_6
  obtain ⟨er2, her2⟩ : ∃ z : Int, z = (nmE N Ks f t i) := ⟨_, rfl⟩
  rw [← her2]
  have N4 := Keep.mk (N3.out.trans (N3.out.at_.ref n2))
  obtain ⟨hee, hE⟩ := eq_drop HEq.out He.out Hk2.out Hk3.out her2 d2 d3
  subst hee
  have HE4 := Keep.mk hE
  clear n2 d2 d3 her2 hE
  simp only [Act.put, List.setIfInBounds_toArray, List.set_cons_zero, List.set_cons_succ]
  refine WL.val (by kernel_rfl) (.bool true) (by go_simp) ?_
  simp only [Act.put, List.setIfInBounds_toArray, List.set_cons_zero, List.set_cons_succ]
  refine WL.val (by kernel_rfl) (.bool true) (by go_simp) ?_
  simp only [Act.put, List.setIfInBounds_toArray, List.set_cons_zero, List.set_cons_succ]
  refine WL.nil ?_
  refine hK8 _ _ ?_
  refine wp_ret ?_
  go_ret
  exact ⟨rfl, P1, K1, (PrN.of_below HB2.out N4.out), HE4.out⟩

set_option maxRecDepth 8000 in
theorem st_twice (w : World) (p mb x g N : Nat) (Ps Ks : List Lk) (f t i j m by_ : Int) (vb vk : Value) (hvb : Value.oneCell' vb = true) (HR : Keep (PR w p mb x g N Ps Ks)) (HEq : Keep (EqL Ps Ks)) : Calls Tryd.prog 10 #[.agg #[.pointer (some ⟨p, 0, none⟩), .pointer (some ⟨x, 0, none⟩)], .agg #[.int .i64 4, .int .i64 f, .int .i64 t, .int .i64 i, .int .i64 j, .int .i64 m, .int .u8 by_, vb], vk] w fun e w' => e = .returned (.bool true) ∧ ∃ P' K', PrN w p mb x g N Ps Ks P' K' w' ∧ EqL P' K' := by
  go_enter Tryd.func10, Tryd.ntmps10
  refine wp_seq_k fun K1 hK1 => ?_
  refine wp_region_list (WL.out ?_)
  refine WL.box (by kernel_rfl) 34 (.tmp 0) rfl #[.pointer (some ⟨p, 0, none⟩), .pointer (some ⟨x, 0, none⟩)] rfl ?_
  have b1 := below_new w (.cells #[.pointer (some ⟨p, 0, none⟩), .pointer (some ⟨x, 0, none⟩)] 34)
  have Q3 := Keep.mk (Blk.new w 34 #[.pointer (some ⟨p, 0, none⟩), .pointer (some ⟨x, 0, none⟩)])
  generalize w.alloc (.cells #[.pointer (some ⟨p, 0, none⟩), .pointer (some ⟨x, 0, none⟩)] 34) = w1 at *
  obtain ⟨b3, hb3⟩ : ∃ z, Keep (z = w.heap.size) := ⟨_, ⟨rfl⟩⟩
  rw [← hb3.out] at Q3 ⊢
  simp only [Act.put, List.setIfInBounds_toArray, List.set_cons_zero, List.set_cons_succ]
  refine WL.box (by kernel_rfl) 41 (.tmp 1) rfl #[.int .i64 4, .int .i64 f, .int .i64 t, .int .i64 i, .int .i64 j, .int .i64 m, .int .u8 by_, vb] rfl ?_
  have b2 := below_new w1 (.cells #[.int .i64 4, .int .i64 f, .int .i64 t, .int .i64 i, .int .i64 j, .int .i64 m, .int .u8 by_, vb] 41)
  have Q4 := Keep.mk (Blk.new w1 41 #[.int .i64 4, .int .i64 f, .int .i64 t, .int .i64 i, .int .i64 j, .int .i64 m, .int .u8 by_, vb])
  have Q3 := Keep.mk (Q3.out.alloc (.cells #[.int .i64 4, .int .i64 f, .int .i64 t, .int .i64 i, .int .i64 j, .int .i64 m, .int .u8 by_, vb] 41))
  have hb2 := below_new w1 (.cells #[.int .i64 4, .int .i64 f, .int .i64 t, .int .i64 i, .int .i64 j, .int .i64 m, .int .u8 by_, vb] 41)
  generalize w1.alloc (.cells #[.int .i64 4, .int .i64 f, .int .i64 t, .int .i64 i, .int .i64 j, .int .i64 m, .int .u8 by_, vb] 41) = w2 at *
  obtain ⟨b4, hb4⟩ : ∃ z, Keep (z = w1.heap.size) := ⟨_, ⟨rfl⟩⟩
  rw [← hb4.out] at Q4 ⊢
  have HB2 : Keep (Below w.heap.size w w2) := ⟨b1.trans (b2.mono b1.size)⟩
  have R2 := Keep.mk (HR.out.below HB2.out)
  have HF3 : Keep (∀ k, PrS p mb x g Ps Ks k → k ≠ b3 ∧ k ≠ b4) := ⟨fun k hk => by have := HR.out.lt k hk; have := hb3.out; have := hb4.out; have := b1.size; omega⟩
  clear b1 b2 hb2
  have c3_0 := Q3.out.c 0 (rfl : _ = some (Value.pointer (some ⟨p, 0, none⟩)))
  have c3_1 := Q3.out.c 1 (rfl : _ = some (Value.pointer (some ⟨x, 0, none⟩)))
  have c4_0 := Q4.out.c 0 (rfl : _ = some (Value.int .i64 4))
  have c4_1 := Q4.out.c 1 (rfl : _ = some (Value.int .i64 f))
  have c4_2 := Q4.out.c 2 (rfl : _ = some (Value.int .i64 t))
  have c4_3 := Q4.out.c 3 (rfl : _ = some (Value.int .i64 i))
  have c4_4 := Q4.out.c 4 (rfl : _ = some (Value.int .i64 j))
  have c4_5 := Q4.out.c 5 (rfl : _ = some (Value.int .i64 m))
  have c4_6 := Q4.out.c 6 (rfl : _ = some (Value.int .u8 by_))
  simp only [Act.put, List.setIfInBounds_toArray, List.set_cons_zero, List.set_cons_succ]
  refine WL.val (by kernel_rfl) (.bool false) (by go_simp) ?_
  simp only [Act.put, List.setIfInBounds_toArray, List.set_cons_zero, List.set_cons_succ]
  refine WL.nil ?_
  refine hK1 _ _ ?_
  refine wp_seq_k fun K2 hK2 => ?_
  refine wp_seq_k fun K3 hK3 => ?_
  refine wp_region_list (WL.out ?_)
  refine WL.val (by kernel_rfl) (.pointer (some ⟨b4, 0, none⟩)) (by go_simp) ?_
  simp only [Act.put, List.setIfInBounds_toArray, List.set_cons_zero, List.set_cons_succ]
  refine WL.val (by kernel_rfl) (.int .i64 4) (by go_simp) ?_
  simp only [Act.put, List.setIfInBounds_toArray, List.set_cons_zero, List.set_cons_succ]
  refine WL.nil ?_
  refine hK3 _ _ ?_
  refine wp_block ?_
  refine wp_seq_k fun K4 hK4 => ?_
  refine wp_region_list (WL.out ?_)
  refine WL.val (by kernel_rfl) (.bool false) (by go_simp) ?_
  simp only [Act.put, List.setIfInBounds_toArray, List.set_cons_zero, List.set_cons_succ]
  refine WL.val (by kernel_rfl) (.bool false) (by go_simp) ?_
  simp only [Act.put, List.setIfInBounds_toArray, List.set_cons_zero, List.set_cons_succ]
  refine WL.nil ?_
  refine hK4 _ _ ?_
  refine wp_cond_false rfl ?_
  refine wp_seq_k fun K5 hK5 => ?_
  refine wp_region_list (WL.out ?_)
  refine WL.val (by kernel_rfl) (.bool false) (by go_simp) ?_
  simp only [Act.put, List.setIfInBounds_toArray, List.set_cons_zero, List.set_cons_succ]
  refine WL.val (by kernel_rfl) (.bool false) (by go_simp) ?_
  simp only [Act.put, List.setIfInBounds_toArray, List.set_cons_zero, List.set_cons_succ]
  refine WL.nil ?_
  refine hK5 _ _ ?_
  refine wp_cond_false rfl ?_
  refine wp_seq_k fun K6 hK6 => ?_
  refine wp_region_list (WL.out ?_)
  refine WL.val (by kernel_rfl) (.bool false) (by go_simp) ?_
  simp only [Act.put, List.setIfInBounds_toArray, List.set_cons_zero, List.set_cons_succ]
  refine WL.val (by kernel_rfl) (.bool false) (by go_simp) ?_
  simp only [Act.put, List.setIfInBounds_toArray, List.set_cons_zero, List.set_cons_succ]
  refine WL.nil ?_
  refine hK6 _ _ ?_
  refine wp_cond_false rfl ?_
  refine wp_seq_k fun K7 hK7 => ?_
  refine wp_region_list (WL.out ?_)
  refine WL.val (by kernel_rfl) (.bool true) (by go_simp) ?_
  simp only [Act.put, List.setIfInBounds_toArray, List.set_cons_zero, List.set_cons_succ]
  refine WL.val (by kernel_rfl) (.bool true) (by go_simp) ?_
  simp only [Act.put, List.setIfInBounds_toArray, List.set_cons_zero, List.set_cons_succ]
  refine WL.nil ?_
  refine hK7 _ _ ?_
  refine wp_cond_true rfl ?_
  refine wp_seq_k fun K8 hK8 => ?_
  refine wp_region_list (WL.out ?_)
  refine WL.val (by kernel_rfl) (.pointer (some ⟨b3, 0, none⟩)) (by go_simp) ?_
  simp only [Act.put, List.setIfInBounds_toArray, List.set_cons_zero, List.set_cons_succ]
  refine WL.val (by kernel_rfl) (.pointer (some ⟨p, 0, none⟩)) (by go_simp) ?_
  simp only [Act.put, List.setIfInBounds_toArray, List.set_cons_zero, List.set_cons_succ]
  refine WL.val (by kernel_rfl) (.pointer (some ⟨b4, 1, none⟩)) (by go_simp) ?_
  simp only [Act.put, List.setIfInBounds_toArray, List.set_cons_zero, List.set_cons_succ]
  refine WL.val (by kernel_rfl) (.int .i64 f) (by go_simp) ?_
  simp only [Act.put, List.setIfInBounds_toArray, List.set_cons_zero, List.set_cons_succ]
  refine WL.val (by kernel_rfl) (.pointer (some ⟨b4, 2, none⟩)) (by go_simp) ?_
  simp only [Act.put, List.setIfInBounds_toArray, List.set_cons_zero, List.set_cons_succ]
  refine WL.val (by kernel_rfl) (.int .i64 t) (by go_simp) ?_
  simp only [Act.put, List.setIfInBounds_toArray, List.set_cons_zero, List.set_cons_succ]
  refine WL.val (by kernel_rfl) (.pointer (some ⟨b4, 3, none⟩)) (by go_simp) ?_
  simp only [Act.put, List.setIfInBounds_toArray, List.set_cons_zero, List.set_cons_succ]
  refine WL.val (by kernel_rfl) (.int .i64 i) (by go_simp) ?_
  simp only [Act.put, List.setIfInBounds_toArray, List.set_cons_zero, List.set_cons_succ]
  refine WL.callF (by kernel_rfl) 20 _ _ rfl Tryd.in20 #[.pointer (some ⟨p, 0, none⟩), .int .i64 f, .int .i64 t, .int .i64 i] (by simp [Act.eval]) ?_
  refine (ptw w2 p mb N Ps f t i ⟨R2.out.pm⟩).mono ?_
  rintro e w3 ⟨er, P1, rfl, he, n, k2, k3⟩
  refine ⟨_, rfl, ?_⟩
  clear c3_0 c3_1 c4_0 c4_1 c4_2 c4_3 c4_4 c4_5 c4_6
  have N3 := Keep.mk (R2.out.prog n)
  have X3 := Keep.mk (N3.out.gr.blk Q3.out fun e => (HF3.out _ e).1 rfl)
  have X4 := Keep.mk (N3.out.gr.blk Q4.out fun e => (HF3.out _ e).2 rfl)
  have He := Keep.mk he
  have Hk2 := Keep.mk k2
  have Hk3 := Keep.mk k3
  clear he n k2 k3
  have c3_0 := X3.out.c 0 (rfl : _ = some (Value.pointer (some ⟨p, 0, none⟩)))
  have c3_1 := X3.out.c 1 (rfl : _ = some (Value.pointer (some ⟨x, 0, none⟩)))
  have c4_0 := X4.out.c 0 (rfl : _ = some (Value.int .i64 4))
  have c4_1 := X4.out.c 1 (rfl : _ = some (Value.int .i64 f))
  have c4_2 := X4.out.c 2 (rfl : _ = some (Value.int .i64 t))
  have c4_3 := X4.out.c 3 (rfl : _ = some (Value.int .i64 i))
  have c4_4 := X4.out.c 4 (rfl : _ = some (Value.int .i64 j))
  have c4_5 := X4.out.c 5 (rfl : _ = some (Value.int .i64 m))
  have c4_6 := X4.out.c 6 (rfl : _ = some (Value.int .u8 by_))
  simp only [Act.put, List.setIfInBounds_toArray, List.set_cons_zero, List.set_cons_succ]
  refine WL.val (by kernel_rfl) (.int .i64 er) (by go_simp) ?_
  simp only [Act.put, List.setIfInBounds_toArray, List.set_cons_zero, List.set_cons_succ]
  refine WL.nil ?_
  refine hK8 _ _ ?_
  refine wp_seq_k fun K9 hK9 => ?_
  refine wp_region_list (WL.out ?_)
  refine WL.val (by kernel_rfl) (.int .i64 er) (by go_simp) ?_
  simp only [Act.put, List.setIfInBounds_toArray, List.set_cons_zero, List.set_cons_succ]
  refine WL.val (by kernel_rfl) (.pointer (some ⟨b3, 1, none⟩)) (by go_simp) ?_
  simp only [Act.put, List.setIfInBounds_toArray, List.set_cons_zero, List.set_cons_succ]
  refine WL.val (by kernel_rfl) (.pointer (some ⟨x, 0, none⟩)) (by go_simp) ?_
  simp only [Act.put, List.setIfInBounds_toArray, List.set_cons_zero, List.set_cons_succ]
  refine WL.val (by kernel_rfl) (.pointer (some ⟨b4, 1, none⟩)) (by go_simp) ?_
  simp only [Act.put, List.setIfInBounds_toArray, List.set_cons_zero, List.set_cons_succ]
  refine WL.val (by kernel_rfl) (.int .i64 f) (by go_simp) ?_
  simp only [Act.put, List.setIfInBounds_toArray, List.set_cons_zero, List.set_cons_succ]
  refine WL.val (by kernel_rfl) (.pointer (some ⟨b4, 2, none⟩)) (by go_simp) ?_
  simp only [Act.put, List.setIfInBounds_toArray, List.set_cons_zero, List.set_cons_succ]
  refine WL.val (by kernel_rfl) (.int .i64 t) (by go_simp) ?_
  simp only [Act.put, List.setIfInBounds_toArray, List.set_cons_zero, List.set_cons_succ]
  refine WL.val (by kernel_rfl) (.pointer (some ⟨b4, 3, none⟩)) (by go_simp) ?_
  simp only [Act.put, List.setIfInBounds_toArray, List.set_cons_zero, List.set_cons_succ]
  refine WL.val (by kernel_rfl) (.int .i64 i) (by go_simp) ?_
  simp only [Act.put, List.setIfInBounds_toArray, List.set_cons_zero, List.set_cons_succ]
  refine WL.callF (by kernel_rfl) 27 _ _ rfl Tryd.in27 #[.pointer (some ⟨x, 0, none⟩), .int .i64 f, .int .i64 t, .int .i64 i] (by simp [Act.eval]) ?_
  refine (rtwice_any w3 x g N Ks f t i N3.out.at_.rm).mono ?_
  rintro e w4 ⟨rfl, K1, n2, d2, d3⟩
  refine ⟨_, rfl, ?_⟩
  clear c3_0 c3_1 c4_0 c4_1 c4_2 c4_3 c4_4 c4_5 c4_6
  obtain ⟨er2, her2⟩ : ∃ z : Int, z = (twE N Ks f t i) := ⟨_, rfl⟩
  rw [← her2]
  have N4 := Keep.mk (N3.out.trans (N3.out.at_.ref n2))
  obtain ⟨hee, hE⟩ := eq_twice HEq.out He.out Hk2.out Hk3.out her2 d2 d3
  subst hee
  have HE4 := Keep.mk hE
  clear n2 d2 d3 her2 hE
  simp only [Act.put, List.setIfInBounds_toArray, List.set_cons_zero, List.set_cons_succ]
  refine WL.val (by kernel_rfl) (.bool true) (by go_simp) ?_
  simp only [Act.put, List.setIfInBounds_toArray, List.set_cons_zero, List.set_cons_succ]
  refine WL.val (by kernel_rfl) (.bool true) (by go_simp) ?_
  simp only [Act.put, List.setIfInBounds_toArray, List.set_cons_zero, List.set_cons_succ]
  refine WL.nil ?_
  refine hK9 _ _ ?_
  refine wp_ret ?_
  go_ret
  exact ⟨rfl, P1, K1, (PrN.of_below HB2.out N4.out), HE4.out⟩

set_option maxRecDepth 8000 in
theorem st_swap (w : World) (p mb x g N : Nat) (Ps Ks : List Lk) (f t i j m by_ : Int) (vb vk : Value) (hvb : Value.oneCell' vb = true) (HR : Keep (PR w p mb x g N Ps Ks)) (HEq : Keep (EqL Ps Ks)) : Calls Tryd.prog 10 #[.agg #[.pointer (some ⟨p, 0, none⟩), .pointer (some ⟨x, 0, none⟩)], .agg #[.int .i64 5, .int .i64 f, .int .i64 t, .int .i64 i, .int .i64 j, .int .i64 m, .int .u8 by_, vb], vk] w fun e w' => e = .returned (.bool true) ∧ ∃ P' K', PrN w p mb x g N Ps Ks P' K' w' ∧ EqL P' K' := by
  go_enter Tryd.func10, Tryd.ntmps10
  refine wp_seq_k fun K1 hK1 => ?_
  refine wp_region_list (WL.out ?_)
  refine WL.box (by kernel_rfl) 34 (.tmp 0) rfl #[.pointer (some ⟨p, 0, none⟩), .pointer (some ⟨x, 0, none⟩)] rfl ?_
  have b1 := below_new w (.cells #[.pointer (some ⟨p, 0, none⟩), .pointer (some ⟨x, 0, none⟩)] 34)
  have Q3 := Keep.mk (Blk.new w 34 #[.pointer (some ⟨p, 0, none⟩), .pointer (some ⟨x, 0, none⟩)])
  generalize w.alloc (.cells #[.pointer (some ⟨p, 0, none⟩), .pointer (some ⟨x, 0, none⟩)] 34) = w1 at *
  obtain ⟨b3, hb3⟩ : ∃ z, Keep (z = w.heap.size) := ⟨_, ⟨rfl⟩⟩
  rw [← hb3.out] at Q3 ⊢
  simp only [Act.put, List.setIfInBounds_toArray, List.set_cons_zero, List.set_cons_succ]
  refine WL.box (by kernel_rfl) 41 (.tmp 1) rfl #[.int .i64 5, .int .i64 f, .int .i64 t, .int .i64 i, .int .i64 j, .int .i64 m, .int .u8 by_, vb] rfl ?_
  have b2 := below_new w1 (.cells #[.int .i64 5, .int .i64 f, .int .i64 t, .int .i64 i, .int .i64 j, .int .i64 m, .int .u8 by_, vb] 41)
  have Q4 := Keep.mk (Blk.new w1 41 #[.int .i64 5, .int .i64 f, .int .i64 t, .int .i64 i, .int .i64 j, .int .i64 m, .int .u8 by_, vb])
  have Q3 := Keep.mk (Q3.out.alloc (.cells #[.int .i64 5, .int .i64 f, .int .i64 t, .int .i64 i, .int .i64 j, .int .i64 m, .int .u8 by_, vb] 41))
  have hb2 := below_new w1 (.cells #[.int .i64 5, .int .i64 f, .int .i64 t, .int .i64 i, .int .i64 j, .int .i64 m, .int .u8 by_, vb] 41)
  generalize w1.alloc (.cells #[.int .i64 5, .int .i64 f, .int .i64 t, .int .i64 i, .int .i64 j, .int .i64 m, .int .u8 by_, vb] 41) = w2 at *
  obtain ⟨b4, hb4⟩ : ∃ z, Keep (z = w1.heap.size) := ⟨_, ⟨rfl⟩⟩
  rw [← hb4.out] at Q4 ⊢
  have HB2 : Keep (Below w.heap.size w w2) := ⟨b1.trans (b2.mono b1.size)⟩
  have R2 := Keep.mk (HR.out.below HB2.out)
  have HF3 : Keep (∀ k, PrS p mb x g Ps Ks k → k ≠ b3 ∧ k ≠ b4) := ⟨fun k hk => by have := HR.out.lt k hk; have := hb3.out; have := hb4.out; have := b1.size; omega⟩
  clear b1 b2 hb2
  have c3_0 := Q3.out.c 0 (rfl : _ = some (Value.pointer (some ⟨p, 0, none⟩)))
  have c3_1 := Q3.out.c 1 (rfl : _ = some (Value.pointer (some ⟨x, 0, none⟩)))
  have c4_0 := Q4.out.c 0 (rfl : _ = some (Value.int .i64 5))
  have c4_1 := Q4.out.c 1 (rfl : _ = some (Value.int .i64 f))
  have c4_2 := Q4.out.c 2 (rfl : _ = some (Value.int .i64 t))
  have c4_3 := Q4.out.c 3 (rfl : _ = some (Value.int .i64 i))
  have c4_4 := Q4.out.c 4 (rfl : _ = some (Value.int .i64 j))
  have c4_5 := Q4.out.c 5 (rfl : _ = some (Value.int .i64 m))
  have c4_6 := Q4.out.c 6 (rfl : _ = some (Value.int .u8 by_))
  simp only [Act.put, List.setIfInBounds_toArray, List.set_cons_zero, List.set_cons_succ]
  refine WL.val (by kernel_rfl) (.bool false) (by go_simp) ?_
  simp only [Act.put, List.setIfInBounds_toArray, List.set_cons_zero, List.set_cons_succ]
  refine WL.nil ?_
  refine hK1 _ _ ?_
  refine wp_seq_k fun K2 hK2 => ?_
  refine wp_seq_k fun K3 hK3 => ?_
  refine wp_region_list (WL.out ?_)
  refine WL.val (by kernel_rfl) (.pointer (some ⟨b4, 0, none⟩)) (by go_simp) ?_
  simp only [Act.put, List.setIfInBounds_toArray, List.set_cons_zero, List.set_cons_succ]
  refine WL.val (by kernel_rfl) (.int .i64 5) (by go_simp) ?_
  simp only [Act.put, List.setIfInBounds_toArray, List.set_cons_zero, List.set_cons_succ]
  refine WL.nil ?_
  refine hK3 _ _ ?_
  refine wp_block ?_
  refine wp_seq_k fun K4 hK4 => ?_
  refine wp_region_list (WL.out ?_)
  refine WL.val (by kernel_rfl) (.bool false) (by go_simp) ?_
  simp only [Act.put, List.setIfInBounds_toArray, List.set_cons_zero, List.set_cons_succ]
  refine WL.val (by kernel_rfl) (.bool false) (by go_simp) ?_
  simp only [Act.put, List.setIfInBounds_toArray, List.set_cons_zero, List.set_cons_succ]
  refine WL.nil ?_
  refine hK4 _ _ ?_
  refine wp_cond_false rfl ?_
  refine wp_seq_k fun K5 hK5 => ?_
  refine wp_region_list (WL.out ?_)
  refine WL.val (by kernel_rfl) (.bool false) (by go_simp) ?_
  simp only [Act.put, List.setIfInBounds_toArray, List.set_cons_zero, List.set_cons_succ]
  refine WL.val (by kernel_rfl) (.bool false) (by go_simp) ?_
  simp only [Act.put, List.setIfInBounds_toArray, List.set_cons_zero, List.set_cons_succ]
  refine WL.nil ?_
  refine hK5 _ _ ?_
  refine wp_cond_false rfl ?_
  refine wp_seq_k fun K6 hK6 => ?_
  refine wp_region_list (WL.out ?_)
  refine WL.val (by kernel_rfl) (.bool false) (by go_simp) ?_
  simp only [Act.put, List.setIfInBounds_toArray, List.set_cons_zero, List.set_cons_succ]
  refine WL.val (by kernel_rfl) (.bool false) (by go_simp) ?_
  simp only [Act.put, List.setIfInBounds_toArray, List.set_cons_zero, List.set_cons_succ]
  refine WL.nil ?_
  refine hK6 _ _ ?_
  refine wp_cond_false rfl ?_
  refine wp_seq_k fun K7 hK7 => ?_
  refine wp_region_list (WL.out ?_)
  refine WL.val (by kernel_rfl) (.bool false) (by go_simp) ?_
  simp only [Act.put, List.setIfInBounds_toArray, List.set_cons_zero, List.set_cons_succ]
  refine WL.val (by kernel_rfl) (.bool false) (by go_simp) ?_
  simp only [Act.put, List.setIfInBounds_toArray, List.set_cons_zero, List.set_cons_succ]
  refine WL.nil ?_
  refine hK7 _ _ ?_
  refine wp_cond_false rfl ?_
  refine wp_seq_k fun K8 hK8 => ?_
  refine wp_region_list (WL.out ?_)
  refine WL.val (by kernel_rfl) (.bool true) (by go_simp) ?_
  simp only [Act.put, List.setIfInBounds_toArray, List.set_cons_zero, List.set_cons_succ]
  refine WL.val (by kernel_rfl) (.bool true) (by go_simp) ?_
  simp only [Act.put, List.setIfInBounds_toArray, List.set_cons_zero, List.set_cons_succ]
  refine WL.nil ?_
  refine hK8 _ _ ?_
  refine wp_cond_true rfl ?_
  refine wp_seq_k fun K9 hK9 => ?_
  refine wp_region_list (WL.out ?_)
  refine WL.val (by kernel_rfl) (.pointer (some ⟨b3, 0, none⟩)) (by go_simp) ?_
  simp only [Act.put, List.setIfInBounds_toArray, List.set_cons_zero, List.set_cons_succ]
  refine WL.val (by kernel_rfl) (.pointer (some ⟨p, 0, none⟩)) (by go_simp) ?_
  simp only [Act.put, List.setIfInBounds_toArray, List.set_cons_zero, List.set_cons_succ]
  refine WL.val (by kernel_rfl) (.pointer (some ⟨b4, 1, none⟩)) (by go_simp) ?_
  simp only [Act.put, List.setIfInBounds_toArray, List.set_cons_zero, List.set_cons_succ]
  refine WL.val (by kernel_rfl) (.int .i64 f) (by go_simp) ?_
  simp only [Act.put, List.setIfInBounds_toArray, List.set_cons_zero, List.set_cons_succ]
  refine WL.val (by kernel_rfl) (.pointer (some ⟨b4, 2, none⟩)) (by go_simp) ?_
  simp only [Act.put, List.setIfInBounds_toArray, List.set_cons_zero, List.set_cons_succ]
  refine WL.val (by kernel_rfl) (.int .i64 t) (by go_simp) ?_
  simp only [Act.put, List.setIfInBounds_toArray, List.set_cons_zero, List.set_cons_succ]
  refine WL.val (by kernel_rfl) (.pointer (some ⟨b4, 3, none⟩)) (by go_simp) ?_
  simp only [Act.put, List.setIfInBounds_toArray, List.set_cons_zero, List.set_cons_succ]
  refine WL.val (by kernel_rfl) (.int .i64 i) (by go_simp) ?_
  simp only [Act.put, List.setIfInBounds_toArray, List.set_cons_zero, List.set_cons_succ]
  refine WL.val (by kernel_rfl) (.pointer (some ⟨b4, 4, none⟩)) (by go_simp) ?_
  simp only [Act.put, List.setIfInBounds_toArray, List.set_cons_zero, List.set_cons_succ]
  refine WL.val (by kernel_rfl) (.int .i64 j) (by go_simp) ?_
  simp only [Act.put, List.setIfInBounds_toArray, List.set_cons_zero, List.set_cons_succ]
  refine WL.callF (by kernel_rfl) 22 _ _ rfl Tryd.in22 #[.pointer (some ⟨p, 0, none⟩), .int .i64 f, .int .i64 t, .int .i64 i, .int .i64 j] (by simp [Act.eval]) ?_
  refine (psp w2 p mb N Ps f t i j ⟨R2.out.pm⟩).mono ?_
  rintro e w3 ⟨er, P1, rfl, he, n, k2, k3⟩
  refine ⟨_, rfl, ?_⟩
  clear c3_0 c3_1 c4_0 c4_1 c4_2 c4_3 c4_4 c4_5 c4_6
  have N3 := Keep.mk (R2.out.prog n)
  have X3 := Keep.mk (N3.out.gr.blk Q3.out fun e => (HF3.out _ e).1 rfl)
  have X4 := Keep.mk (N3.out.gr.blk Q4.out fun e => (HF3.out _ e).2 rfl)
  have He := Keep.mk he
  have Hk2 := Keep.mk k2
  have Hk3 := Keep.mk k3
  clear he n k2 k3
  have c3_0 := X3.out.c 0 (rfl : _ = some (Value.pointer (some ⟨p, 0, none⟩)))
  have c3_1 := X3.out.c 1 (rfl : _ = some (Value.pointer (some ⟨x, 0, none⟩)))
  have c4_0 := X4.out.c 0 (rfl : _ = some (Value.int .i64 5))
  have c4_1 := X4.out.c 1 (rfl : _ = some (Value.int .i64 f))
  have c4_2 := X4.out.c 2 (rfl : _ = some (Value.int .i64 t))
  have c4_3 := X4.out.c 3 (rfl : _ = some (Value.int .i64 i))
  have c4_4 := X4.out.c 4 (rfl : _ = some (Value.int .i64 j))
  have c4_5 := X4.out.c 5 (rfl : _ = some (Value.int .i64 m))
  have c4_6 := X4.out.c 6 (rfl : _ = some (Value.int .u8 by_))
  simp only [Act.put, List.setIfInBounds_toArray, List.set_cons_zero, List.set_cons_succ]
  refine WL.val (by kernel_rfl) (.int .i64 er) (by go_simp) ?_
  simp only [Act.put, List.setIfInBounds_toArray, List.set_cons_zero, List.set_cons_succ]
  refine WL.nil ?_
  refine hK9 _ _ ?_
  refine wp_seq_k fun K10 hK10 => ?_
  refine wp_region_list (WL.out ?_)
  refine WL.val (by kernel_rfl) (.int .i64 er) (by go_simp) ?_
  simp only [Act.put, List.setIfInBounds_toArray, List.set_cons_zero, List.set_cons_succ]
  refine WL.val (by kernel_rfl) (.pointer (some ⟨b3, 1, none⟩)) (by go_simp) ?_
  simp only [Act.put, List.setIfInBounds_toArray, List.set_cons_zero, List.set_cons_succ]
  refine WL.val (by kernel_rfl) (.pointer (some ⟨x, 0, none⟩)) (by go_simp) ?_
  simp only [Act.put, List.setIfInBounds_toArray, List.set_cons_zero, List.set_cons_succ]
  refine WL.val (by kernel_rfl) (.pointer (some ⟨b4, 1, none⟩)) (by go_simp) ?_
  simp only [Act.put, List.setIfInBounds_toArray, List.set_cons_zero, List.set_cons_succ]
  refine WL.val (by kernel_rfl) (.int .i64 f) (by go_simp) ?_
  simp only [Act.put, List.setIfInBounds_toArray, List.set_cons_zero, List.set_cons_succ]
  refine WL.val (by kernel_rfl) (.pointer (some ⟨b4, 2, none⟩)) (by go_simp) ?_
  simp only [Act.put, List.setIfInBounds_toArray, List.set_cons_zero, List.set_cons_succ]
  refine WL.val (by kernel_rfl) (.int .i64 t) (by go_simp) ?_
  simp only [Act.put, List.setIfInBounds_toArray, List.set_cons_zero, List.set_cons_succ]
  refine WL.val (by kernel_rfl) (.pointer (some ⟨b4, 3, none⟩)) (by go_simp) ?_
  simp only [Act.put, List.setIfInBounds_toArray, List.set_cons_zero, List.set_cons_succ]
  refine WL.val (by kernel_rfl) (.int .i64 i) (by go_simp) ?_
  simp only [Act.put, List.setIfInBounds_toArray, List.set_cons_zero, List.set_cons_succ]
  refine WL.val (by kernel_rfl) (.pointer (some ⟨b4, 4, none⟩)) (by go_simp) ?_
  simp only [Act.put, List.setIfInBounds_toArray, List.set_cons_zero, List.set_cons_succ]
  refine WL.val (by kernel_rfl) (.int .i64 j) (by go_simp) ?_
  simp only [Act.put, List.setIfInBounds_toArray, List.set_cons_zero, List.set_cons_succ]
  refine WL.callF (by kernel_rfl) 28 _ _ rfl Tryd.in28 #[.pointer (some ⟨x, 0, none⟩), .int .i64 f, .int .i64 t, .int .i64 i, .int .i64 j] (by simp [Act.eval]) ?_
  refine (rswap_any w3 x g N Ks f t i j N3.out.at_.rm).mono ?_
  rintro e w4 ⟨rfl, K1, n2, d2, d3⟩
  refine ⟨_, rfl, ?_⟩
  clear c3_0 c3_1 c4_0 c4_1 c4_2 c4_3 c4_4 c4_5 c4_6
  obtain ⟨er2, her2⟩ : ∃ z : Int, z = (spE N Ks f t i j) := ⟨_, rfl⟩
  rw [← her2]
  have N4 := Keep.mk (N3.out.trans (N3.out.at_.ref n2))
  obtain ⟨hee, hE⟩ := eq_swap HEq.out He.out Hk2.out Hk3.out her2 d2 d3
  subst hee
  have HE4 := Keep.mk hE
  clear n2 d2 d3 her2 hE
  simp only [Act.put, List.setIfInBounds_toArray, List.set_cons_zero, List.set_cons_succ]
  refine WL.val (by kernel_rfl) (.bool true) (by go_simp) ?_
  simp only [Act.put, List.setIfInBounds_toArray, List.set_cons_zero, List.set_cons_succ]
  refine WL.val (by kernel_rfl) (.bool true) (by go_simp) ?_
  simp only [Act.put, List.setIfInBounds_toArray, List.set_cons_zero, List.set_cons_succ]
  refine WL.nil ?_
  refine hK10 _ _ ?_
  refine wp_ret ?_
  go_ret
  exact ⟨rfl, P1, K1, (PrN.of_below HB2.out N4.out), HE4.out⟩

set_option maxRecDepth 8000 in
theorem st_flip (w : World) (p mb x g N : Nat) (Ps Ks : List Lk) (f t i j m by_ : Int) (vb vk : Value) (HBb : Keep (0 ≤ by_ ∧ by_ < 256)) (hvb : Value.oneCell' vb = true) (HR : Keep (PR w p mb x g N Ps Ks)) (HEq : Keep (EqL Ps Ks)) : Calls Tryd.prog 10 #[.agg #[.pointer (some ⟨p, 0, none⟩), .pointer (some ⟨x, 0, none⟩)], .agg #[.int .i64 6, .int .i64 f, .int .i64 t, .int .i64 i, .int .i64 j, .int .i64 m, .int .u8 by_, vb], vk] w fun e w' => e = .returned (.bool true) ∧ ∃ P' K', PrN w p mb x g N Ps Ks P' K' w' ∧ EqL P' K' := by
  go_enter Tryd.func10, Tryd.ntmps10
  refine wp_seq_k fun K1 hK1 => ?_
  refine wp_region_list (WL.out ?_)
  refine WL.box (by kernel_rfl) 34 (.tmp 0) rfl #[.pointer (some ⟨p, 0, none⟩), .pointer (some ⟨x, 0, none⟩)] rfl ?_
  have b1 := below_new w (.cells #[.pointer (some ⟨p, 0, none⟩), .pointer (some ⟨x, 0, none⟩)] 34)
  have Q3 := Keep.mk (Blk.new w 34 #[.pointer (some ⟨p, 0, none⟩), .pointer (some ⟨x, 0, none⟩)])
  generalize w.alloc (.cells #[.pointer (some ⟨p, 0, none⟩), .pointer (some ⟨x, 0, none⟩)] 34) = w1 at *
  obtain ⟨b3, hb3⟩ : ∃ z, Keep (z = w.heap.size) := ⟨_, ⟨rfl⟩⟩
  rw [← hb3.out] at Q3 ⊢
  simp only [Act.put, List.setIfInBounds_toArray, List.set_cons_zero, List.set_cons_succ]
  refine WL.box (by kernel_rfl) 41 (.tmp 1) rfl #[.int .i64 6, .int .i64 f, .int .i64 t, .int .i64 i, .int .i64 j, .int .i64 m, .int .u8 by_, vb] rfl ?_
  have b2 := below_new w1 (.cells #[.int .i64 6, .int .i64 f, .int .i64 t, .int .i64 i, .int .i64 j, .int .i64 m, .int .u8 by_, vb] 41)
  have Q4 := Keep.mk (Blk.new w1 41 #[.int .i64 6, .int .i64 f, .int .i64 t, .int .i64 i, .int .i64 j, .int .i64 m, .int .u8 by_, vb])
  have Q3 := Keep.mk (Q3.out.alloc (.cells #[.int .i64 6, .int .i64 f, .int .i64 t, .int .i64 i, .int .i64 j, .int .i64 m, .int .u8 by_, vb] 41))
  have hb2 := below_new w1 (.cells #[.int .i64 6, .int .i64 f, .int .i64 t, .int .i64 i, .int .i64 j, .int .i64 m, .int .u8 by_, vb] 41)
  generalize w1.alloc (.cells #[.int .i64 6, .int .i64 f, .int .i64 t, .int .i64 i, .int .i64 j, .int .i64 m, .int .u8 by_, vb] 41) = w2 at *
  obtain ⟨b4, hb4⟩ : ∃ z, Keep (z = w1.heap.size) := ⟨_, ⟨rfl⟩⟩
  rw [← hb4.out] at Q4 ⊢
  have HB2 : Keep (Below w.heap.size w w2) := ⟨b1.trans (b2.mono b1.size)⟩
  have R2 := Keep.mk (HR.out.below HB2.out)
  have HF3 : Keep (∀ k, PrS p mb x g Ps Ks k → k ≠ b3 ∧ k ≠ b4) := ⟨fun k hk => by have := HR.out.lt k hk; have := hb3.out; have := hb4.out; have := b1.size; omega⟩
  clear b1 b2 hb2
  have c3_0 := Q3.out.c 0 (rfl : _ = some (Value.pointer (some ⟨p, 0, none⟩)))
  have c3_1 := Q3.out.c 1 (rfl : _ = some (Value.pointer (some ⟨x, 0, none⟩)))
  have c4_0 := Q4.out.c 0 (rfl : _ = some (Value.int .i64 6))
  have c4_1 := Q4.out.c 1 (rfl : _ = some (Value.int .i64 f))
  have c4_2 := Q4.out.c 2 (rfl : _ = some (Value.int .i64 t))
  have c4_3 := Q4.out.c 3 (rfl : _ = some (Value.int .i64 i))
  have c4_4 := Q4.out.c 4 (rfl : _ = some (Value.int .i64 j))
  have c4_5 := Q4.out.c 5 (rfl : _ = some (Value.int .i64 m))
  have c4_6 := Q4.out.c 6 (rfl : _ = some (Value.int .u8 by_))
  simp only [Act.put, List.setIfInBounds_toArray, List.set_cons_zero, List.set_cons_succ]
  refine WL.val (by kernel_rfl) (.bool false) (by go_simp) ?_
  simp only [Act.put, List.setIfInBounds_toArray, List.set_cons_zero, List.set_cons_succ]
  refine WL.nil ?_
  refine hK1 _ _ ?_
  refine wp_seq_k fun K2 hK2 => ?_
  refine wp_seq_k fun K3 hK3 => ?_
  refine wp_region_list (WL.out ?_)
  refine WL.val (by kernel_rfl) (.pointer (some ⟨b4, 0, none⟩)) (by go_simp) ?_
  simp only [Act.put, List.setIfInBounds_toArray, List.set_cons_zero, List.set_cons_succ]
  refine WL.val (by kernel_rfl) (.int .i64 6) (by go_simp) ?_
  simp only [Act.put, List.setIfInBounds_toArray, List.set_cons_zero, List.set_cons_succ]
  refine WL.nil ?_
  refine hK3 _ _ ?_
  refine wp_block ?_
  refine wp_seq_k fun K4 hK4 => ?_
  refine wp_region_list (WL.out ?_)
  refine WL.val (by kernel_rfl) (.bool false) (by go_simp) ?_
  simp only [Act.put, List.setIfInBounds_toArray, List.set_cons_zero, List.set_cons_succ]
  refine WL.val (by kernel_rfl) (.bool false) (by go_simp) ?_
  simp only [Act.put, List.setIfInBounds_toArray, List.set_cons_zero, List.set_cons_succ]
  refine WL.nil ?_
  refine hK4 _ _ ?_
  refine wp_cond_false rfl ?_
  refine wp_seq_k fun K5 hK5 => ?_
  refine wp_region_list (WL.out ?_)
  refine WL.val (by kernel_rfl) (.bool false) (by go_simp) ?_
  simp only [Act.put, List.setIfInBounds_toArray, List.set_cons_zero, List.set_cons_succ]
  refine WL.val (by kernel_rfl) (.bool false) (by go_simp) ?_
  simp only [Act.put, List.setIfInBounds_toArray, List.set_cons_zero, List.set_cons_succ]
  refine WL.nil ?_
  refine hK5 _ _ ?_
  refine wp_cond_false rfl ?_
  refine wp_seq_k fun K6 hK6 => ?_
  refine wp_region_list (WL.out ?_)
  refine WL.val (by kernel_rfl) (.bool false) (by go_simp) ?_
  simp only [Act.put, List.setIfInBounds_toArray, List.set_cons_zero, List.set_cons_succ]
  refine WL.val (by kernel_rfl) (.bool false) (by go_simp) ?_
  simp only [Act.put, List.setIfInBounds_toArray, List.set_cons_zero, List.set_cons_succ]
  refine WL.nil ?_
  refine hK6 _ _ ?_
  refine wp_cond_false rfl ?_
  refine wp_seq_k fun K7 hK7 => ?_
  refine wp_region_list (WL.out ?_)
  refine WL.val (by kernel_rfl) (.bool false) (by go_simp) ?_
  simp only [Act.put, List.setIfInBounds_toArray, List.set_cons_zero, List.set_cons_succ]
  refine WL.val (by kernel_rfl) (.bool false) (by go_simp) ?_
  simp only [Act.put, List.setIfInBounds_toArray, List.set_cons_zero, List.set_cons_succ]
  refine WL.nil ?_
  refine hK7 _ _ ?_
  refine wp_cond_false rfl ?_
  refine wp_seq_k fun K8 hK8 => ?_
  refine wp_region_list (WL.out ?_)
  refine WL.val (by kernel_rfl) (.bool false) (by go_simp) ?_
  simp only [Act.put, List.setIfInBounds_toArray, List.set_cons_zero, List.set_cons_succ]
  refine WL.val (by kernel_rfl) (.bool false) (by go_simp) ?_
  simp only [Act.put, List.setIfInBounds_toArray, List.set_cons_zero, List.set_cons_succ]
  refine WL.nil ?_
  refine hK8 _ _ ?_
  refine wp_cond_false rfl ?_
  refine wp_seq_k fun K9 hK9 => ?_
  refine wp_region_list (WL.out ?_)
  refine WL.val (by kernel_rfl) (.bool true) (by go_simp) ?_
  simp only [Act.put, List.setIfInBounds_toArray, List.set_cons_zero, List.set_cons_succ]
  refine WL.val (by kernel_rfl) (.bool true) (by go_simp) ?_
  simp only [Act.put, List.setIfInBounds_toArray, List.set_cons_zero, List.set_cons_succ]
  refine WL.nil ?_
  refine hK9 _ _ ?_
  refine wp_cond_true rfl ?_
  refine wp_seq_k fun K10 hK10 => ?_
  refine wp_region_list (WL.out ?_)
  refine WL.val (by kernel_rfl) (.pointer (some ⟨b3, 0, none⟩)) (by go_simp) ?_
  simp only [Act.put, List.setIfInBounds_toArray, List.set_cons_zero, List.set_cons_succ]
  refine WL.val (by kernel_rfl) (.pointer (some ⟨p, 0, none⟩)) (by go_simp) ?_
  simp only [Act.put, List.setIfInBounds_toArray, List.set_cons_zero, List.set_cons_succ]
  refine WL.val (by kernel_rfl) (.pointer (some ⟨b4, 1, none⟩)) (by go_simp) ?_
  simp only [Act.put, List.setIfInBounds_toArray, List.set_cons_zero, List.set_cons_succ]
  refine WL.val (by kernel_rfl) (.int .i64 f) (by go_simp) ?_
  simp only [Act.put, List.setIfInBounds_toArray, List.set_cons_zero, List.set_cons_succ]
  refine WL.val (by kernel_rfl) (.pointer (some ⟨b4, 2, none⟩)) (by go_simp) ?_
  simp only [Act.put, List.setIfInBounds_toArray, List.set_cons_zero, List.set_cons_succ]
  refine WL.val (by kernel_rfl) (.int .i64 t) (by go_simp) ?_
  simp only [Act.put, List.setIfInBounds_toArray, List.set_cons_zero, List.set_cons_succ]
  refine WL.val (by kernel_rfl) (.pointer (some ⟨b4, 3, none⟩)) (by go_simp) ?_
  simp only [Act.put, List.setIfInBounds_toArray, List.set_cons_zero, List.set_cons_succ]
  refine WL.val (by kernel_rfl) (.int .i64 i) (by go_simp) ?_
  simp only [Act.put, List.setIfInBounds_toArray, List.set_cons_zero, List.set_cons_succ]
  refine WL.val (by kernel_rfl) (.pointer (some ⟨b4, 5, none⟩)) (by go_simp) ?_
  simp only [Act.put, List.setIfInBounds_toArray, List.set_cons_zero, List.set_cons_succ]
  refine WL.val (by kernel_rfl) (.int .i64 m) (by go_simp) ?_
  simp only [Act.put, List.setIfInBounds_toArray, List.set_cons_zero, List.set_cons_succ]
  refine WL.val (by kernel_rfl) (.pointer (some ⟨b4, 6, none⟩)) (by go_simp) ?_
  simp only [Act.put, List.setIfInBounds_toArray, List.set_cons_zero, List.set_cons_succ]
  refine WL.val (by kernel_rfl) (.int .u8 by_) (by go_simp) ?_
  simp only [Act.put, List.setIfInBounds_toArray, List.set_cons_zero, List.set_cons_succ]
  refine WL.callF (by kernel_rfl) 19 _ _ rfl Tryd.in19 #[.pointer (some ⟨p, 0, none⟩), .int .i64 f, .int .i64 t, .int .i64 i, .int .i64 m, .int .u8 by_] (by simp [Act.eval]) ?_
  refine (pfl w2 p mb N Ps f t i m by_ ⟨HBb.out⟩ ⟨R2.out.pm⟩).mono ?_
  rintro e w3 ⟨er, P1, rfl, he, n, k2, k3⟩
  refine ⟨_, rfl, ?_⟩
  clear c3_0 c3_1 c4_0 c4_1 c4_2 c4_3 c4_4 c4_5 c4_6
  have N3 := Keep.mk (R2.out.prog n)
  have X3 := Keep.mk (N3.out.gr.blk Q3.out fun e => (HF3.out _ e).1 rfl)
  have X4 := Keep.mk (N3.out.gr.blk Q4.out fun e => (HF3.out _ e).2 rfl)
  have He := Keep.mk he
  have Hk2 := Keep.mk k2
  have Hk3 := Keep.mk k3
  clear he n k2 k3
  have c3_0 := X3.out.c 0 (rfl : _ = some (Value.pointer (some ⟨p, 0, none⟩)))
  have c3_1 := X3.out.c 1 (rfl : _ = some (Value.pointer (some ⟨x, 0, none⟩)))
  have c4_0 := X4.out.c 0 (rfl : _ = some (Value.int .i64 6))
  have c4_1 := X4.out.c 1 (rfl : _ = some (Value.int .i64 f))
  have c4_2 := X4.out.c 2 (rfl : _ = some (Value.int .i64 t))
  have c4_3 := X4.out.c 3 (rfl : _ = some (Value.int .i64 i))
  have c4_4 := X4.out.c 4 (rfl : _ = some (Value.int .i64 j))
  have c4_5 := X4.out.c 5 (rfl : _ = some (Value.int .i64 m))
  have c4_6 := X4.out.c 6 (rfl : _ = some (Value.int .u8 by_))
  simp only [Act.put, List.setIfInBounds_toArray, List.set_cons_zero, List.set_cons_succ]
  refine WL.val (by kernel_rfl) (.int .i64 er) (by go_simp) ?_
  simp only [Act.put, List.setIfInBounds_toArray, List.set_cons_zero, List.set_cons_succ]
  refine WL.nil ?_
  refine hK10 _ _ ?_
  refine wp_seq_k fun K11 hK11 => ?_
  refine wp_region_list (WL.out ?_)
  refine WL.val (by kernel_rfl) (.int .i64 er) (by go_simp) ?_
  simp only [Act.put, List.setIfInBounds_toArray, List.set_cons_zero, List.set_cons_succ]
  refine WL.val (by kernel_rfl) (.pointer (some ⟨b3, 1, none⟩)) (by go_simp) ?_
  simp only [Act.put, List.setIfInBounds_toArray, List.set_cons_zero, List.set_cons_succ]
  refine WL.val (by kernel_rfl) (.pointer (some ⟨x, 0, none⟩)) (by go_simp) ?_
  simp only [Act.put, List.setIfInBounds_toArray, List.set_cons_zero, List.set_cons_succ]
  refine WL.val (by kernel_rfl) (.pointer (some ⟨b4, 1, none⟩)) (by go_simp) ?_
  simp only [Act.put, List.setIfInBounds_toArray, List.set_cons_zero, List.set_cons_succ]
  refine WL.val (by kernel_rfl) (.int .i64 f) (by go_simp) ?_
  simp only [Act.put, List.setIfInBounds_toArray, List.set_cons_zero, List.set_cons_succ]
  refine WL.val (by kernel_rfl) (.pointer (some ⟨b4, 2, none⟩)) (by go_simp) ?_
  simp only [Act.put, List.setIfInBounds_toArray, List.set_cons_zero, List.set_cons_succ]
  refine WL.val (by kernel_rfl) (.int .i64 t) (by go_simp) ?_
  simp only [Act.put, List.setIfInBounds_toArray, List.set_cons_zero, List.set_cons_succ]
  refine WL.val (by kernel_rfl) (.pointer (some ⟨b4, 3, none⟩)) (by go_simp) ?_
  simp only [Act.put, List.setIfInBounds_toArray, List.set_cons_zero, List.set_cons_succ]
  refine WL.val (by kernel_rfl) (.int .i64 i) (by go_simp) ?_
  simp only [Act.put, List.setIfInBounds_toArray, List.set_cons_zero, List.set_cons_succ]
  refine WL.val (by kernel_rfl) (.pointer (some ⟨b4, 5, none⟩)) (by go_simp) ?_
  simp only [Act.put, List.setIfInBounds_toArray, List.set_cons_zero, List.set_cons_succ]
  refine WL.val (by kernel_rfl) (.int .i64 m) (by go_simp) ?_
  simp only [Act.put, List.setIfInBounds_toArray, List.set_cons_zero, List.set_cons_succ]
  refine WL.val (by kernel_rfl) (.pointer (some ⟨b4, 6, none⟩)) (by go_simp) ?_
  simp only [Act.put, List.setIfInBounds_toArray, List.set_cons_zero, List.set_cons_succ]
  refine WL.val (by kernel_rfl) (.int .u8 by_) (by go_simp) ?_
  simp only [Act.put, List.setIfInBounds_toArray, List.set_cons_zero, List.set_cons_succ]
  refine WL.callF (by kernel_rfl) 29 _ _ rfl Tryd.in29 #[.pointer (some ⟨x, 0, none⟩), .int .i64 f, .int .i64 t, .int .i64 i, .int .i64 m, .int .u8 by_] (by simp [Act.eval]) ?_
  refine (rflip_any w3 x g N Ks f t i m by_ N3.out.at_.rm HBb.out).mono ?_
  rintro e w4 ⟨rfl, K1, n2, d2, d3⟩
  refine ⟨_, rfl, ?_⟩
  clear c3_0 c3_1 c4_0 c4_1 c4_2 c4_3 c4_4 c4_5 c4_6
  obtain ⟨er2, her2⟩ : ∃ z : Int, z = (flE N Ks f t i by_) := ⟨_, rfl⟩
  rw [← her2]
  have N4 := Keep.mk (N3.out.trans (N3.out.at_.ref n2))
  obtain ⟨hee, hE⟩ := eq_flip HEq.out He.out Hk2.out Hk3.out her2 d2 d3
  subst hee
  have HE4 := Keep.mk hE
  clear n2 d2 d3 her2 hE
  simp only [Act.put, List.setIfInBounds_toArray, List.set_cons_zero, List.set_cons_succ]
  refine WL.val (by kernel_rfl) (.bool true) (by go_simp) ?_
  simp only [Act.put, List.setIfInBounds_toArray, List.set_cons_zero, List.set_cons_succ]
  refine WL.val (by kernel_rfl) (.bool true) (by go_simp) ?_
  simp only [Act.put, List.setIfInBounds_toArray, List.set_cons_zero, List.set_cons_succ]
  refine WL.nil ?_
  refine hK11 _ _ ?_
  refine wp_ret ?_
  go_ret
  exact ⟨rfl, P1, K1, (PrN.of_below HB2.out N4.out), HE4.out⟩

set_option maxRecDepth 8000 in
theorem st_clip (w : World) (p mb x g N : Nat) (Ps Ks : List Lk) (f t i j m by_ : Int) (vb vk : Value) (hvb : Value.oneCell' vb = true) (HR : Keep (PR w p mb x g N Ps Ks)) (HEq : Keep (EqL Ps Ks)) : Calls Tryd.prog 10 #[.agg #[.pointer (some ⟨p, 0, none⟩), .pointer (some ⟨x, 0, none⟩)], .agg #[.int .i64 7, .int .i64 f, .int .i64 t, .int .i64 i, .int .i64 j, .int .i64 m, .int .u8 by_, vb], vk] w fun e w' => e = .returned (.bool true) ∧ ∃ P' K', PrN w p mb x g N Ps Ks P' K' w' ∧ EqL P' K' := by
  go_enter Tryd.func10, Tryd.ntmps10
  refine wp_seq_k fun K1 hK1 => ?_
  refine wp_region_list (WL.out ?_)
  refine WL.box (by kernel_rfl) 34 (.tmp 0) rfl #[.pointer (some ⟨p, 0, none⟩), .pointer (some ⟨x, 0, none⟩)] rfl ?_
  have b1 := below_new w (.cells #[.pointer (some ⟨p, 0, none⟩), .pointer (some ⟨x, 0, none⟩)] 34)
  have Q3 := Keep.mk (Blk.new w 34 #[.pointer (some ⟨p, 0, none⟩), .pointer (some ⟨x, 0, none⟩)])
  generalize w.alloc (.cells #[.pointer (some ⟨p, 0, none⟩), .pointer (some ⟨x, 0, none⟩)] 34) = w1 at *
  obtain ⟨b3, hb3⟩ : ∃ z, Keep (z = w.heap.size) := ⟨_, ⟨rfl⟩⟩
  rw [← hb3.out] at Q3 ⊢
  simp only [Act.put, List.setIfInBounds_toArray, List.set_cons_zero, List.set_cons_succ]
  refine WL.box (by kernel_rfl) 41 (.tmp 1) rfl #[.int .i64 7, .int .i64 f, .int .i64 t, .int .i64 i, .int .i64 j, .int .i64 m, .int .u8 by_, vb] rfl ?_
  have b2 := below_new w1 (.cells #[.int .i64 7, .int .i64 f, .int .i64 t, .int .i64 i, .int .i64 j, .int .i64 m, .int .u8 by_, vb] 41)
  have Q4 := Keep.mk (Blk.new w1 41 #[.int .i64 7, .int .i64 f, .int .i64 t, .int .i64 i, .int .i64 j, .int .i64 m, .int .u8 by_, vb])
  have Q3 := Keep.mk (Q3.out.alloc (.cells #[.int .i64 7, .int .i64 f, .int .i64 t, .int .i64 i, .int .i64 j, .int .i64 m, .int .u8 by_, vb] 41))
  have hb2 := below_new w1 (.cells #[.int .i64 7, .int .i64 f, .int .i64 t, .int .i64 i, .int .i64 j, .int .i64 m, .int .u8 by_, vb] 41)
  generalize w1.alloc (.cells #[.int .i64 7, .int .i64 f, .int .i64 t, .int .i64 i, .int .i64 j, .int .i64 m, .int .u8 by_, vb] 41) = w2 at *
  obtain ⟨b4, hb4⟩ : ∃ z, Keep (z = w1.heap.size) := ⟨_, ⟨rfl⟩⟩
  rw [← hb4.out] at Q4 ⊢
  have HB2 : Keep (Below w.heap.size w w2) := ⟨b1.trans (b2.mono b1.size)⟩
  have R2 := Keep.mk (HR.out.below HB2.out)
  have HF3 : Keep (∀ k, PrS p mb x g Ps Ks k → k ≠ b3 ∧ k ≠ b4) := ⟨fun k hk => by have := HR.out.lt k hk; have := hb3.out; have := hb4.out; have := b1.size; omega⟩
  clear b1 b2 hb2
  have c3_0 := Q3.out.c 0 (rfl : _ = some (Value.pointer (some ⟨p, 0, none⟩)))
  have c3_1 := Q3.out.c 1 (rfl : _ = some (Value.pointer (some ⟨x, 0, none⟩)))
  have c4_0 := Q4.out.c 0 (rfl : _ = some (Value.int .i64 7))
  have c4_1 := Q4.out.c 1 (rfl : _ = some (Value.int .i64 f))
  have c4_2 := Q4.out.c 2 (rfl : _ = some (Value.int .i64 t))
  have c4_3 := Q4.out.c 3 (rfl : _ = some (Value.int .i64 i))
  have c4_4 := Q4.out.c 4 (rfl : _ = some (Value.int .i64 j))
  have c4_5 := Q4.out.c 5 (rfl : _ = some (Value.int .i64 m))
  have c4_6 := Q4.out.c 6 (rfl : _ = some (Value.int .u8 by_))
  simp only [Act.put, List.setIfInBounds_toArray, List.set_cons_zero, List.set_cons_succ]
  refine WL.val (by kernel_rfl) (.bool false) (by go_simp) ?_
  simp only [Act.put, List.setIfInBounds_toArray, List.set_cons_zero, List.set_cons_succ]
  refine WL.nil ?_
  refine hK1 _ _ ?_
  refine wp_seq_k fun K2 hK2 => ?_
  refine wp_seq_k fun K3 hK3 => ?_
  refine wp_region_list (WL.out ?_)
  refine WL.val (by kernel_rfl) (.pointer (some ⟨b4, 0, none⟩)) (by go_simp) ?_
  simp only [Act.put, List.setIfInBounds_toArray, List.set_cons_zero, List.set_cons_succ]
  refine WL.val (by kernel_rfl) (.int .i64 7) (by go_simp) ?_
  simp only [Act.put, List.setIfInBounds_toArray, List.set_cons_zero, List.set_cons_succ]
  refine WL.nil ?_
  refine hK3 _ _ ?_
  refine wp_block ?_
  refine wp_seq_k fun K4 hK4 => ?_
  refine wp_region_list (WL.out ?_)
  refine WL.val (by kernel_rfl) (.bool false) (by go_simp) ?_
  simp only [Act.put, List.setIfInBounds_toArray, List.set_cons_zero, List.set_cons_succ]
  refine WL.val (by kernel_rfl) (.bool false) (by go_simp) ?_
  simp only [Act.put, List.setIfInBounds_toArray, List.set_cons_zero, List.set_cons_succ]
  refine WL.nil ?_
  refine hK4 _ _ ?_
  refine wp_cond_false rfl ?_
  refine wp_seq_k fun K5 hK5 => ?_
  refine wp_region_list (WL.out ?_)
  refine WL.val (by kernel_rfl) (.bool false) (by go_simp) ?_
  simp only [Act.put, List.setIfInBounds_toArray, List.set_cons_zero, List.set_cons_succ]
  refine WL.val (by kernel_rfl) (.bool false) (by go_simp) ?_
  simp only [Act.put, List.setIfInBounds_toArray, List.set_cons_zero, List.set_cons_succ]
  refine WL.nil ?_
  refine hK5 _ _ ?_
  refine wp_cond_false rfl ?_
  refine wp_seq_k fun K6 hK6 => ?_
  refine wp_region_list (WL.out ?_)
  refine WL.val (by kernel_rfl) (.bool false) (by go_simp) ?_
  simp only [Act.put, List.setIfInBounds_toArray, List.set_cons_zero, List.set_cons_succ]
  refine WL.val (by kernel_rfl) (.bool false) (by go_simp) ?_
  simp only [Act.put, List.setIfInBounds_toArray, List.set_cons_zero, List.set_cons_succ]
  refine WL.nil ?_
  refine hK6 _ _ ?_
  refine wp_cond_false rfl ?_
  refine wp_seq_k fun K7 hK7 => ?_
  refine wp_region_list (WL.out ?_)
  refine WL.val (by kernel_rfl) (.bool false) (by go_simp) ?_
  simp only [Act.put, List.setIfInBounds_toArray, List.set_cons_zero, List.set_cons_succ]
  refine WL.val (by kernel_rfl) (.bool false) (by go_simp) ?_
  simp only [Act.put, List.setIfInBounds_toArray, List.set_cons_zero, List.set_cons_succ]
  refine WL.nil ?_
  refine hK7 _ _ ?_
  refine wp_cond_false rfl ?_
  refine wp_seq_k fun K8 hK8 => ?_
  refine wp_region_list (WL.out ?_)
  refine WL.val (by kernel_rfl) (.bool false) (by go_simp) ?_
  simp only [Act.put, List.setIfInBounds_toArray, List.set_cons_zero, List.set_cons_succ]
  refine WL.val (by kernel_rfl) (.bool false) (by go_simp) ?_
  simp only [Act.put, List.setIfInBounds_toArray, List.set_cons_zero, List.set_cons_succ]
  refine WL.nil ?_
  refine hK8 _ _ ?_
  refine wp_cond_false rfl ?_
  refine wp_seq_k fun K9 hK9 => ?_
  refine wp_region_list (WL.out ?_)
  refine WL.val (by kernel_rfl) (.bool false) (by go_simp) ?_
  simp only [Act.put, List.setIfInBounds_toArray, List.set_cons_zero, List.set_cons_succ]
  refine WL.val (by kernel_rfl) (.bool false) (by go_simp) ?_
  simp only [Act.put, List.setIfInBounds_toArray, List.set_cons_zero, List.set_cons_succ]
  refine WL.nil ?_
  refine hK9 _ _ ?_
  refine wp_cond_false rfl ?_
  refine wp_seq_k fun K10 hK10 => ?_
  refine wp_region_list (WL.out ?_)
  refine WL.val (by kernel_rfl) (.bool true) (by go_simp) ?_
  simp only [Act.put, List.setIfInBounds_toArray, List.set_cons_zero, List.set_cons_succ]
  refine WL.val (by kernel_rfl) (.bool true) (by go_simp) ?_
  simp only [Act.put, List.setIfInBounds_toArray, List.set_cons_zero, List.set_cons_succ]
  refine WL.nil ?_
  refine hK10 _ _ ?_
  refine wp_cond_true rfl ?_
  refine wp_seq_k fun K11 hK11 => ?_
  refine wp_region_list (WL.out ?_)
  refine WL.val (by kernel_rfl) (.pointer (some ⟨b3, 0, none⟩)) (by go_simp) ?_
  simp only [Act.put, List.setIfInBounds_toArray, List.set_cons_zero, List.set_cons_succ]
  refine WL.val (by kernel_rfl) (.pointer (some ⟨p, 0, none⟩)) (by go_simp) ?_
  simp only [Act.put, List.setIfInBounds_toArray, List.set_cons_zero, List.set_cons_succ]
  refine WL.val (by kernel_rfl) (.pointer (some ⟨b4, 1, none⟩)) (by go_simp) ?_
  simp only [Act.put, List.setIfInBounds_toArray, List.set_cons_zero, List.set_cons_succ]
  refine WL.val (by kernel_rfl) (.int .i64 f) (by go_simp) ?_
  simp only [Act.put, List.setIfInBounds_toArray, List.set_cons_zero, List.set_cons_succ]
  refine WL.val (by kernel_rfl) (.pointer (some ⟨b4, 2, none⟩)) (by go_simp) ?_
  simp only [Act.put, List.setIfInBounds_toArray, List.set_cons_zero, List.set_cons_succ]
  refine WL.val (by kernel_rfl) (.int .i64 t) (by go_simp) ?_
  simp only [Act.put, List.setIfInBounds_toArray, List.set_cons_zero, List.set_cons_succ]
  refine WL.val (by kernel_rfl) (.pointer (some ⟨b4, 3, none⟩)) (by go_simp) ?_
  simp only [Act.put, List.setIfInBounds_toArray, List.set_cons_zero, List.set_cons_succ]
  refine WL.val (by kernel_rfl) (.int .i64 i) (by go_simp) ?_
  simp only [Act.put, List.setIfInBounds_toArray, List.set_cons_zero, List.set_cons_succ]
  refine WL.val (by kernel_rfl) (.pointer (some ⟨b4, 5, none⟩)) (by go_simp) ?_
  simp only [Act.put, List.setIfInBounds_toArray, List.set_cons_zero, List.set_cons_succ]
  refine WL.val (by kernel_rfl) (.int .i64 m) (by go_simp) ?_
  simp only [Act.put, List.setIfInBounds_toArray, List.set_cons_zero, List.set_cons_succ]
  refine WL.callF (by kernel_rfl) 21 _ _ rfl Tryd.in21 #[.pointer (some ⟨p, 0, none⟩), .int .i64 f, .int .i64 t, .int .i64 i, .int .i64 m] (by simp [Act.eval]) ?_
  refine (pci w2 p mb N Ps f t i m ⟨R2.out.pm⟩).mono ?_
  rintro e w3 ⟨er, P1, rfl, he, n, k2, k3⟩
  refine ⟨_, rfl, ?_⟩
  clear c3_0 c3_1 c4_0 c4_1 c4_2 c4_3 c4_4 c4_5 c4_6
  have N3 := Keep.mk (R2.out.prog n)
  have X3 := Keep.mk (N3.out.gr.blk Q3.out fun e => (HF3.out _ e).1 rfl)
  have X4 := Keep.mk (N3.out.gr.blk Q4.out fun e => (HF3.out _ e).2 rfl)
  have He := Keep.mk he
  have Hk2 := Keep.mk k2
  have Hk3 := Keep.mk k3
  clear he n k2 k3
  have c3_0 := X3.out.c 0 (rfl : _ = some (Value.pointer (some ⟨p, 0, none⟩)))
  have c3_1 := X3.out.c 1 (rfl : _ = some (Value.pointer (some ⟨x, 0, none⟩)))
  have c4_0 := X4.out.c 0 (rfl : _ = some (Value.int .i64 7))
  have c4_1 := X4.out.c 1 (rfl : _ = some (Value.int .i64 f))
  have c4_2 := X4.out.c 2 (rfl : _ = some (Value.int .i64 t))
  have c4_3 := X4.out.c 3 (rfl : _ = some (Value.int .i64 i))
  have c4_4 := X4.out.c 4 (rfl : _ = some (Value.int .i64 j))
  have c4_5 := X4.out.c 5 (rfl : _ = some (Value.int .i64 m))
  have c4_6 := X4.out.c 6 (rfl : _ = some (Value.int .u8 by_))
  simp only [Act.put, List.setIfInBounds_toArray, List.set_cons_zero, List.set_cons_succ]
  refine WL.val (by kernel_rfl) (.int .i64 er) (by go_simp) ?_
  simp only [Act.put, List.setIfInBounds_toArray, List.set_cons_zero, List.set_cons_succ]
  refine WL.nil ?_
  refine hK11 _ _ ?_
  refine wp_seq_k fun K12 hK12 => ?_
  refine wp_region_list (WL.out ?_)
  refine WL.val (by kernel_rfl) (.int .i64 er) (by go_simp) ?_
  simp only [Act.put, List.setIfInBounds_toArray, List.set_cons_zero, List.set_cons_succ]
  refine WL.val (by kernel_rfl) (.pointer (some ⟨b3, 1, none⟩)) (by go_simp) ?_
  simp only [Act.put, List.setIfInBounds_toArray, List.set_cons_zero, List.set_cons_succ]
  refine WL.val (by kernel_rfl) (.pointer (some ⟨x, 0, none⟩)) (by go_simp) ?_
  simp only [Act.put, List.setIfInBounds_toArray, List.set_cons_zero, List.set_cons_succ]
  refine WL.val (by kernel_rfl) (.pointer (some ⟨b4, 1, none⟩)) (by go_simp) ?_
  simp only [Act.put, List.setIfInBounds_toArray, List.set_cons_zero, List.set_cons_succ]
  refine WL.val (by kernel_rfl) (.int .i64 f) (by go_simp) ?_
  simp only [Act.put, List.setIfInBounds_toArray, List.set_cons_zero, List.set_cons_succ]
  refine WL.val (by kernel_rfl) (.pointer (some ⟨b4, 2, none⟩)) (by go_simp) ?_
  simp only [Act.put, List.setIfInBounds_toArray, List.set_cons_zero, List.set_cons_succ]
  refine WL.val (by kernel_rfl) (.int .i64 t) (by go_simp) ?_
  simp only [Act.put, List.setIfInBounds_toArray, List.set_cons_zero, List.set_cons_succ]
  refine WL.val (by kernel_rfl) (.pointer (some ⟨b4, 3, none⟩)) (by go_simp) ?_
  simp only [Act.put, List.setIfInBounds_toArray, List.set_cons_zero, List.set_cons_succ]
  refine WL.val (by kernel_rfl) (.int .i64 i) (by go_simp) ?_
  simp only [Act.put, List.setIfInBounds_toArray, List.set_cons_zero, List.set_cons_succ]
  refine WL.val (by kernel_rfl) (.pointer (some ⟨b4, 5, none⟩)) (by go_simp) ?_
  simp only [Act.put, List.setIfInBounds_toArray, List.set_cons_zero, List.set_cons_succ]
  refine WL.val (by kernel_rfl) (.int .i64 m) (by go_simp) ?_
  simp only [Act.put, List.setIfInBounds_toArray, List.set_cons_zero, List.set_cons_succ]
  refine WL.callF (by kernel_rfl) 30 _ _ rfl Tryd.in30 #[.pointer (some ⟨x, 0, none⟩), .int .i64 f, .int .i64 t, .int .i64 i, .int .i64 m] (by simp [Act.eval]) ?_
  refine (rclip_any w3 x g N Ks f t i m N3.out.at_.rm).mono ?_
  rintro e w4 ⟨rfl, K1, n2, d2, d3⟩
  refine ⟨_, rfl, ?_⟩
  clear c3_0 c3_1 c4_0 c4_1 c4_2 c4_3 c4_4 c4_5 c4_6
  obtain ⟨er2, her2⟩ : ∃ z : Int, z = (nmE N Ks f t i) := ⟨_, rfl⟩
  rw [← her2]
  have N4 := Keep.mk (N3.out.trans (N3.out.at_.ref n2))
  obtain ⟨hee, hE⟩ := eq_clip HEq.out He.out Hk2.out Hk3.out her2 d2 d3
  subst hee
  have HE4 := Keep.mk hE
  clear n2 d2 d3 her2 hE
  simp only [Act.put, List.setIfInBounds_toArray, List.set_cons_zero, List.set_cons_succ]
  refine WL.val (by kernel_rfl) (.bool true) (by go_simp) ?_
  simp only [Act.put, List.setIfInBounds_toArray, List.set_cons_zero, List.set_cons_succ]
  refine WL.val (by kernel_rfl) (.bool true) (by go_simp) ?_
  simp only [Act.put, List.setIfInBounds_toArray, List.set_cons_zero, List.set_cons_succ]
  refine WL.nil ?_
  refine hK12 _ _ ?_
  refine wp_ret ?_
  go_ret
  exact ⟨rfl, P1, K1, (PrN.of_below HB2.out N4.out), HE4.out⟩

set_option maxRecDepth 8000 in
theorem st_clear (w : World) (p mb x g N : Nat) (Ps Ks : List Lk) (f t i j m by_ : Int) (vb vk : Value) (hvb : Value.oneCell' vb = true) (HR : Keep (PR w p mb x g N Ps Ks)) (HEq : Keep (EqL Ps Ks)) : Calls Tryd.prog 10 #[.agg #[.pointer (some ⟨p, 0, none⟩), .pointer (some ⟨x, 0, none⟩)], .agg #[.int .i64 8, .int .i64 f, .int .i64 t, .int .i64 i, .int .i64 j, .int .i64 m, .int .u8 by_, vb], vk] w fun e w' => e = .returned (.bool true) ∧ ∃ P' K', PrN w p mb x g N Ps Ks P' K' w' ∧ EqL P' K' := by
  go_enter Tryd.func10, Tryd.ntmps10
  refine wp_seq_k fun K1 hK1 => ?_
  refine wp_region_list (WL.out ?_)
  refine WL.box (by kernel_rfl) 34 (.tmp 0) rfl #[.pointer (some ⟨p, 0, none⟩), .pointer (some ⟨x, 0, none⟩)] rfl ?_
  have b1 := below_new w (.cells #[.pointer (some ⟨p, 0, none⟩), .pointer (some ⟨x, 0, none⟩)] 34)
  have Q3 := Keep.mk (Blk.new w 34 #[.pointer (some ⟨p, 0, none⟩), .pointer (some ⟨x, 0, none⟩)])
  generalize w.alloc (.cells #[.pointer (some ⟨p, 0, none⟩), .pointer (some ⟨x, 0, none⟩)] 34) = w1 at *
  obtain ⟨b3, hb3⟩ : ∃ z, Keep (z = w.heap.size) := ⟨_, ⟨rfl⟩⟩
  rw [← hb3.out] at Q3 ⊢
  simp only [Act.put, List.setIfInBounds_toArray, List.set_cons_zero, List.set_cons_succ]
  refine WL.box (by kernel_rfl) 41 (.tmp 1) rfl #[.int .i64 8, .int .i64 f, .int .i64 t, .int .i64 i, .int .i64 j, .int .i64 m, .int .u8 by_, vb] rfl ?_
  have b2 := below_new w1 (.cells #[.int .i64 8, .int .i64 f, .int .i64 t, .int .i64 i, .int .i64 j, .int .i64 m, .int .u8 by_, vb] 41)
  have Q4 := Keep.mk (Blk.new w1 41 #[.int .i64 8, .int .i64 f, .int .i64 t, .int .i64 i, .int .i64 j, .int .i64 m, .int .u8 by_, vb])
  have Q3 := Keep.mk (Q3.out.alloc (.cells #[.int .i64 8, .int .i64 f, .int .i64 t, .int .i64 i, .int .i64 j, .int .i64 m, .int .u8 by_, vb] 41))
  have hb2 := below_new w1 (.cells #[.int .i64 8, .int .i64 f, .int .i64 t, .int .i64 i, .int .i64 j, .int .i64 m, .int .u8 by_, vb] 41)
  generalize w1.alloc (.cells #[.int .i64 8, .int .i64 f, .int .i64 t, .int .i64 i, .int .i64 j, .int .i64 m, .int .u8 by_, vb] 41) = w2 at *
  obtain ⟨b4, hb4⟩ : ∃ z, Keep (z = w1.heap.size) := ⟨_, ⟨rfl⟩⟩
  rw [← hb4.out] at Q4 ⊢
  have HB2 : Keep (Below w.heap.size w w2) := ⟨b1.trans (b2.mono b1.size)⟩
  have R2 := Keep.mk (HR.out.below HB2.out)
  have HF3 : Keep (∀ k, PrS p mb x g Ps Ks k → k ≠ b3 ∧ k ≠ b4) := ⟨fun k hk => by have := HR.out.lt k hk; have := hb3.out; have := hb4.out; have := b1.size; omega⟩
  clear b1 b2 hb2
  have c3_0 := Q3.out.c 0 (rfl : _ = some (Value.pointer (some ⟨p, 0, none⟩)))
  have c3_1 := Q3.out.c 1 (rfl : _ = some (Value.pointer (some ⟨x, 0, none⟩)))
  have c4_0 := Q4.out.c 0 (rfl : _ = some (Value.int .i64 8))
  have c4_1 := Q4.out.c 1 (rfl : _ = some (Value.int .i64 f))
  have c4_2 := Q4.out.c 2 (rfl : _ = some (Value.int .i64 t))
  have c4_3 := Q4.out.c 3 (rfl : _ = some (Value.int .i64 i))
  have c4_4 := Q4.out.c 4 (rfl : _ = some (Value.int .i64 j))
  have c4_5 := Q4.out.c 5 (rfl : _ = some (Value.int .i64 m))
  have c4_6 := Q4.out.c 6 (rfl : _ = some (Value.int .u8 by_))
  simp only [Act.put, List.setIfInBounds_toArray, List.set_cons_zero, List.set_cons_succ]
  refine WL.val (by kernel_rfl) (.bool false) (by go_simp) ?_
  simp only [Act.put, List.setIfInBounds_toArray, List.set_cons_zero, List.set_cons_succ]
  refine WL.nil ?_
  refine hK1 _ _ ?_
  refine wp_seq_k fun K2 hK2 => ?_
  refine wp_seq_k fun K3 hK3 => ?_
  refine wp_region_list (WL.out ?_)
  refine WL.val (by kernel_rfl) (.pointer (some ⟨b4, 0, none⟩)) (by go_simp) ?_
  simp only [Act.put, List.setIfInBounds_toArray, List.set_cons_zero, List.set_cons_succ]
  refine WL.val (by kernel_rfl) (.int .i64 8) (by go_simp) ?_
  simp only [Act.put, List.setIfInBounds_toArray, List.set_cons_zero, List.set_cons_succ]
  refine WL.nil ?_
  refine hK3 _ _ ?_
  refine wp_block ?_
  refine wp_seq_k fun K4 hK4 => ?_
  refine wp_region_list (WL.out ?_)
  refine WL.val (by kernel_rfl) (.bool false) (by go_simp) ?_
  simp only [Act.put, List.setIfInBounds_toArray, List.set_cons_zero, List.set_cons_succ]
  refine WL.val (by kernel_rfl) (.bool false) (by go_simp) ?_
  simp only [Act.put, List.setIfInBounds_toArray, List.set_cons_zero, List.set_cons_succ]
  refine WL.nil ?_
  refine hK4 _ _ ?_
  refine wp_cond_false rfl ?_
  refine wp_seq_k fun K5 hK5 => ?_
  refine wp_region_list (WL.out ?_)
  refine WL.val (by kernel_rfl) (.bool false) (by go_simp) ?_
  simp only [Act.put, List.setIfInBounds_toArray, List.set_cons_zero, List.set_cons_succ]
  refine WL.val (by kernel_rfl) (.bool false) (by go_simp) ?_
  simp only [Act.put, List.setIfInBounds_toArray, List.set_cons_zero, List.set_cons_succ]
  refine WL.nil ?_
  refine hK5 _ _ ?_
  refine wp_cond_false rfl ?_
  refine wp_seq_k fun K6 hK6 => ?_
  refine wp_region_list (WL.out ?_)
  refine WL.val (by kernel_rfl) (.bool false) (by go_simp) ?_
  simp only [Act.put, List.setIfInBounds_toArray, List.set_cons_zero, List.set_cons_succ]
  refine WL.val (by kernel_rfl) (.bool false) (by go_simp) ?_
  simp only [Act.put, List.setIfInBounds_toArray, List.set_cons_zero, List.set_cons_succ]
  refine WL.nil ?_
  refine hK6 _ _ ?_
  refine wp_cond_false rfl ?_
  refine wp_seq_k fun K7 hK7 => ?_
  refine wp_region_list (WL.out ?_)
  refine WL.val (by kernel_rfl) (.bool false) (by go_simp) ?_
  simp only [Act.put, List.setIfInBounds_toArray, List.set_cons_zero, List.set_cons_succ]
  refine WL.val (by kernel_rfl) (.bool false) (by go_simp) ?_
  simp only [Act.put, List.setIfInBounds_toArray, List.set_cons_zero, List.set_cons_succ]
  refine WL.nil ?_
  refine hK7 _ _ ?_
  refine wp_cond_false rfl ?_
  refine wp_seq_k fun K8 hK8 => ?_
  refine wp_region_list (WL.out ?_)
  refine WL.val (by kernel_rfl) (.bool false) (by go_simp) ?_
  simp only [Act.put, List.setIfInBounds_toArray, List.set_cons_zero, List.set_cons_succ]
  refine WL.val (by kernel_rfl) (.bool false) (by go_simp) ?_
  simp only [Act.put, List.setIfInBounds_toArray, List.set_cons_zero, List.set_cons_succ]
  refine WL.nil ?_
  refine hK8 _ _ ?_
  refine wp_cond_false rfl ?_
  refine wp_seq_k fun K9 hK9 => ?_
  refine wp_region_list (WL.out ?_)
  refine WL.val (by kernel_rfl) (.bool false) (by go_simp) ?_
  simp only [Act.put, List.setIfInBounds_toArray, List.set_cons_zero, List.set_cons_succ]
  refine WL.val (by kernel_rfl) (.bool false) (by go_simp) ?_
  simp only [Act.put, List.setIfInBounds_toArray, List.set_cons_zero, List.set_cons_succ]
  refine WL.nil ?_
  refine hK9 _ _ ?_
  refine wp_cond_false rfl ?_
  refine wp_seq_k fun K10 hK10 => ?_
  refine wp_region_list (WL.out ?_)
  refine WL.val (by kernel_rfl) (.bool false) (by go_simp) ?_
  simp only [Act.put, List.setIfInBounds_toArray, List.set_cons_zero, List.set_cons_succ]
  refine WL.val (by kernel_rfl) (.bool false) (by go_simp) ?_
  simp only [Act.put, List.setIfInBounds_toArray, List.set_cons_zero, List.set_cons_succ]
  refine WL.nil ?_
  refine hK10 _ _ ?_
  refine wp_cond_false rfl ?_
  refine wp_seq_k fun K11 hK11 => ?_
  refine wp_region_list (WL.out ?_)
  refine WL.val (by kernel_rfl) (.bool true) (by go_simp) ?_
  simp only [Act.put, List.setIfInBounds_toArray, List.set_cons_zero, List.set_cons_succ]
  refine WL.val (by kernel_rfl) (.bool true) (by go_simp) ?_
  simp only [Act.put, List.setIfInBounds_toArray, List.set_cons_zero, List.set_cons_succ]
  refine WL.nil ?_
  refine hK11 _ _ ?_
  refine wp_cond_true rfl ?_
  refine wp_seq_k fun K12 hK12 => ?_
  refine wp_region_list (WL.out ?_)
  refine WL.val (by kernel_rfl) (.pointer (some ⟨b3, 0, none⟩)) (by go_simp) ?_
  simp only [Act.put, List.setIfInBounds_toArray, List.set_cons_zero, List.set_cons_succ]
  refine WL.val (by kernel_rfl) (.pointer (some ⟨p, 0, none⟩)) (by go_simp) ?_
  simp only [Act.put, List.setIfInBounds_toArray, List.set_cons_zero, List.set_cons_succ]
  refine WL.val (by kernel_rfl) (.pointer (some ⟨b4, 1, none⟩)) (by go_simp) ?_
  simp only [Act.put, List.setIfInBounds_toArray, List.set_cons_zero, List.set_cons_succ]
  refine WL.val (by kernel_rfl) (.int .i64 f) (by go_simp) ?_
  simp only [Act.put, List.setIfInBounds_toArray, List.set_cons_zero, List.set_cons_succ]
  refine WL.val (by kernel_rfl) (.pointer (some ⟨b4, 2, none⟩)) (by go_simp) ?_
  simp only [Act.put, List.setIfInBounds_toArray, List.set_cons_zero, List.set_cons_succ]
  refine WL.val (by kernel_rfl) (.int .i64 t) (by go_simp) ?_
  simp only [Act.put, List.setIfInBounds_toArray, List.set_cons_zero, List.set_cons_succ]
  refine WL.callF (by kernel_rfl) 31 _ _ rfl Tryd.in31 #[.pointer (some ⟨p, 0, none⟩), .int .i64 f, .int .i64 t] (by simp [Act.eval]) ?_
  refine (pcr w2 p mb N Ps f t ⟨R2.out.pm⟩).mono ?_
  rintro e w3 ⟨er, P1, rfl, he, n, k2, k3⟩
  refine ⟨_, rfl, ?_⟩
  clear c3_0 c3_1 c4_0 c4_1 c4_2 c4_3 c4_4 c4_5 c4_6
  have N3 := Keep.mk (R2.out.prog n)
  have X3 := Keep.mk (N3.out.gr.blk Q3.out fun e => (HF3.out _ e).1 rfl)
  have X4 := Keep.mk (N3.out.gr.blk Q4.out fun e => (HF3.out _ e).2 rfl)
  have He := Keep.mk he
  have Hk2 := Keep.mk k2
  have Hk3 := Keep.mk k3
  clear he n k2 k3
  have c3_0 := X3.out.c 0 (rfl : _ = some (Value.pointer (some ⟨p, 0, none⟩)))
  have c3_1 := X3.out.c 1 (rfl : _ = some (Value.pointer (some ⟨x, 0, none⟩)))
  have c4_0 := X4.out.c 0 (rfl : _ = some (Value.int .i64 8))
  have c4_1 := X4.out.c 1 (rfl : _ = some (Value.int .i64 f))
  have c4_2 := X4.out.c 2 (rfl : _ = some (Value.int .i64 t))
  have c4_3 := X4.out.c 3 (rfl : _ = some (Value.int .i64 i))
  have c4_4 := X4.out.c 4 (rfl : _ = some (Value.int .i64 j))
  have c4_5 := X4.out.c 5 (rfl : _ = some (Value.int .i64 m))
  have c4_6 := X4.out.c 6 (rfl : _ = some (Value.int .u8 by_))
  simp only [Act.put, List.setIfInBounds_toArray, List.set_cons_zero, List.set_cons_succ]
  refine WL.val (by kernel_rfl) (.int .i64 er) (by go_simp) ?_
  simp only [Act.put, List.setIfInBounds_toArray, List.set_cons_zero, List.set_cons_succ]
  refine WL.nil ?_
  refine hK12 _ _ ?_
  refine wp_seq_k fun K13 hK13 => ?_
  refine wp_region_list (WL.out ?_)
  refine WL.val (by kernel_rfl) (.int .i64 er) (by go_simp) ?_
  simp only [Act.put, List.setIfInBounds_toArray, List.set_cons_zero, List.set_cons_succ]
  refine WL.val (by kernel_rfl) (.pointer (some ⟨b3, 1, none⟩)) (by go_simp) ?_
  simp only [Act.put, List.setIfInBounds_toArray, List.set_cons_zero, List.set_cons_succ]
  refine WL.val (by kernel_rfl) (.pointer (some ⟨x, 0, none⟩)) (by go_simp) ?_
  simp only [Act.put, List.setIfInBounds_toArray, List.set_cons_zero, List.set_cons_succ]
  refine WL.val (by kernel_rfl) (.pointer (some ⟨b4, 1, none⟩)) (by go_simp) ?_
  simp only [Act.put, List.setIfInBounds_toArray, List.set_cons_zero, List.set_cons_succ]
  refine WL.val (by kernel_rfl) (.int .i64 f) (by go_simp) ?_
  simp only [Act.put, List.setIfInBounds_toArray, List.set_cons_zero, List.set_cons_succ]
  refine WL.val (by kernel_rfl) (.pointer (some ⟨b4, 2, none⟩)) (by go_simp) ?_
  simp only [Act.put, List.setIfInBounds_toArray, List.set_cons_zero, List.set_cons_succ]
  refine WL.val (by kernel_rfl) (.int .i64 t) (by go_simp) ?_
  simp only [Act.put, List.setIfInBounds_toArray, List.set_cons_zero, List.set_cons_succ]
  refine WL.callF (by kernel_rfl) 32 _ _ rfl Tryd.in32 #[.pointer (some ⟨x, 0, none⟩), .int .i64 f, .int .i64 t] (by simp [Act.eval]) ?_
  refine (rclear_any w3 x g N Ks f t N3.out.at_.rm).mono ?_
  rintro e w4 ⟨rfl, K1, n2, d2, d3⟩
  refine ⟨_, rfl, ?_⟩
  clear c3_0 c3_1 c4_0 c4_1 c4_2 c4_3 c4_4 c4_5 c4_6
  obtain ⟨er2, her2⟩ : ∃ z : Int, z = (if thr N f t then 0 else 1) := ⟨_, rfl⟩
  rw [← her2]
  have N4 := Keep.mk (N3.out.trans (N3.out.at_.ref n2))
  obtain ⟨hee, hE⟩ := eq_clear HEq.out He.out Hk2.out Hk3.out her2 d2 d3
  subst hee
  have HE4 := Keep.mk hE
  clear n2 d2 d3 her2 hE
  simp only [Act.put, List.setIfInBounds_toArray, List.set_cons_zero, List.set_cons_succ]
  refine WL.val (by kernel_rfl) (.bool true) (by go_simp) ?_
  simp only [Act.put, List.setIfInBounds_toArray, List.set_cons_zero, List.set_cons_succ]
  refine WL.val (by kernel_rfl) (.bool true) (by go_simp) ?_
  simp only [Act.put, List.setIfInBounds_toArray, List.set_cons_zero, List.set_cons_succ]
  refine WL.nil ?_
  refine hK13 _ _ ?_
  refine wp_ret ?_
  go_ret
  exact ⟨rfl, P1, K1, (PrN.of_below HB2.out N4.out), HE4.out⟩

set_option maxRecDepth 8000 in
theorem st_len (w : World) (p mb x g N : Nat) (Ps Ks : List Lk) (f t i j m by_ : Int) (vb vk : Value) (kd : Int) (hk1 : ¬ kd = 1) (hk2 : ¬ kd = 2) (hk3 : ¬ kd = 3) (hk4 : ¬ kd = 4) (hk5 : ¬ kd = 5) (hk6 : ¬ kd = 6) (hk7 : ¬ kd = 7) (hk8 : ¬ kd = 8) (hk9 : ¬ kd = 9) (hvb : Value.oneCell' vb = true) (HR : Keep (PR w p mb x g N Ps Ks)) (HEq : Keep (EqL Ps Ks)) : Calls Tryd.prog 10 #[.agg #[.pointer (some ⟨p, 0, none⟩), .pointer (some ⟨x, 0, none⟩)], .agg #[.int .i64 kd, .int .i64 f, .int .i64 t, .int .i64 i, .int .i64 j, .int .i64 m, .int .u8 by_, vb], vk] w fun e w' => e = .returned (.bool true) ∧ ∃ P' K', PrN w p mb x g N Ps Ks P' K' w' ∧ EqL P' K' := by
  go_enter Tryd.func10, Tryd.ntmps10
  refine wp_seq_k fun K1 hK1 => ?_
  refine wp_region_list (WL.out ?_)
  refine WL.box (by kernel_rfl) 34 (.tmp 0) rfl #[.pointer (some ⟨p, 0, none⟩), .pointer (some ⟨x, 0, none⟩)] rfl ?_
  have b1 := below_new w (.cells #[.pointer (some ⟨p, 0, none⟩), .pointer (some ⟨x, 0, none⟩)] 34)
  have Q3 := Keep.mk (Blk.new w 34 #[.pointer (some ⟨p, 0, none⟩), .pointer (some ⟨x, 0, none⟩)])
  generalize w.alloc (.cells #[.pointer (some ⟨p, 0, none⟩), .pointer (some ⟨x, 0, none⟩)] 34) = w1 at *
  obtain ⟨b3, hb3⟩ : ∃ z, Keep (z = w.heap.size) := ⟨_, ⟨rfl⟩⟩
  rw [← hb3.out] at Q3 ⊢
  simp only [Act.put, List.setIfInBounds_toArray, List.set_cons_zero, List.set_cons_succ]
  refine WL.box (by kernel_rfl) 41 (.tmp 1) rfl #[.int .i64 kd, .int .i64 f, .int .i64 t, .int .i64 i, .int .i64 j, .int .i64 m, .int .u8 by_, vb] rfl ?_
  have b2 := below_new w1 (.cells #[.int .i64 kd, .int .i64 f, .int .i64 t, .int .i64 i, .int .i64 j, .int .i64 m, .int .u8 by_, vb] 41)
  have Q4 := Keep.mk (Blk.new w1 41 #[.int .i64 kd, .int .i64 f, .int .i64 t, .int .i64 i, .int .i64 j, .int .i64 m, .int .u8 by_, vb])
  have Q3 := Keep.mk (Q3.out.alloc (.cells #[.int .i64 kd, .int .i64 f, .int .i64 t, .int .i64 i, .int .i64 j, .int .i64 m, .int .u8 by_, vb] 41))
  have hb2 := below_new w1 (.cells #[.int .i64 kd, .int .i64 f, .int .i64 t, .int .i64 i, .int .i64 j, .int .i64 m, .int .u8 by_, vb] 41)
  generalize w1.alloc (.cells #[.int .i64 kd, .int .i64 f, .int .i64 t, .int .i64 i, .int .i64 j, .int .i64 m, .int .u8 by_, vb] 41) = w2 at *
  obtain ⟨b4, hb4⟩ : ∃ z, Keep (z = w1.heap.size) := ⟨_, ⟨rfl⟩⟩
  rw [← hb4.out] at Q4 ⊢
  have HB2 : Keep (Below w.heap.size w w2) := ⟨b1.trans (b2.mono b1.size)⟩
  have R2 := Keep.mk (HR.out.below HB2.out)
  have HF3 : Keep (∀ k, PrS p mb x g Ps Ks k → k ≠ b3 ∧ k ≠ b4) := ⟨fun k hk => by have := HR.out.lt k hk; have := hb3.out; have := hb4.out; have := b1.size; omega⟩
  clear b1 b2 hb2
  have c3_0 := Q3.out.c 0 (rfl : _ = some (Value.pointer (some ⟨p, 0, none⟩)))
  have c3_1 := Q3.out.c 1 (rfl : _ = some (Value.pointer (some ⟨x, 0, none⟩)))
  have c4_0 := Q4.out.c 0 (rfl : _ = some (Value.int .i64 kd))
  have c4_1 := Q4.out.c 1 (rfl : _ = some (Value.int .i64 f))
  have c4_2 := Q4.out.c 2 (rfl : _ = some (Value.int .i64 t))
  have c4_3 := Q4.out.c 3 (rfl : _ = some (Value.int .i64 i))
  have c4_4 := Q4.out.c 4 (rfl : _ = some (Value.int .i64 j))
  have c4_5 := Q4.out.c 5 (rfl : _ = some (Value.int .i64 m))
  have c4_6 := Q4.out.c 6 (rfl : _ = some (Value.int .u8 by_))
  simp only [Act.put, List.setIfInBounds_toArray, List.set_cons_zero, List.set_cons_succ]
  refine WL.val (by kernel_rfl) (.bool false) (by go_simp) ?_
  simp only [Act.put, List.setIfInBounds_toArray, List.set_cons_zero, List.set_cons_succ]
  refine WL.nil ?_
  refine hK1 _ _ ?_
  refine wp_seq_k fun K2 hK2 => ?_
  refine wp_seq_k fun K3 hK3 => ?_
  refine wp_region_list (WL.out ?_)
  refine WL.val (by kernel_rfl) (.pointer (some ⟨b4, 0, none⟩)) (by go_simp) ?_
  simp only [Act.put, List.setIfInBounds_toArray, List.set_cons_zero, List.set_cons_succ]
  refine WL.val (by kernel_rfl) (.int .i64 kd) (by go_simp) ?_
  simp only [Act.put, List.setIfInBounds_toArray, List.set_cons_zero, List.set_cons_succ]
  refine WL.nil ?_
  refine hK3 _ _ ?_
  refine wp_block ?_
  refine wp_seq_k fun K4 hK4 => ?_
  refine wp_region_list (WL.out ?_)
  refine WL.val (by kernel_rfl) (.bool false) (by go_simp) ?_
  simp only [Act.put, List.setIfInBounds_toArray, List.set_cons_zero, List.set_cons_succ]
  refine WL.val (by kernel_rfl) (.bool false) (by go_simp) ?_
  simp only [Act.put, List.setIfInBounds_toArray, List.set_cons_zero, List.set_cons_succ]
  refine WL.nil ?_
  refine hK4 _ _ ?_
  refine wp_cond_false rfl ?_
  refine wp_seq_k fun K5 hK5 => ?_
  refine wp_region_list (WL.out ?_)
  refine WL.val (by kernel_rfl) (.bool false) (by go_simp) ?_
  simp only [Act.put, List.setIfInBounds_toArray, List.set_cons_zero, List.set_cons_succ]
  refine WL.val (by kernel_rfl) (.bool false) (by go_simp) ?_
  simp only [Act.put, List.setIfInBounds_toArray, List.set_cons_zero, List.set_cons_succ]
  refine WL.nil ?_
  refine hK5 _ _ ?_
  refine wp_cond_false rfl ?_
  refine wp_seq_k fun K6 hK6 => ?_
  refine wp_region_list (WL.out ?_)
  refine WL.val (by kernel_rfl) (.bool false) (by go_simp) ?_
  simp only [Act.put, List.setIfInBounds_toArray, List.set_cons_zero, List.set_cons_succ]
  refine WL.val (by kernel_rfl) (.bool false) (by go_simp) ?_
  simp only [Act.put, List.setIfInBounds_toArray, List.set_cons_zero, List.set_cons_succ]
  refine WL.nil ?_
  refine hK6 _ _ ?_
  refine wp_cond_false rfl ?_
  refine wp_seq_k fun K7 hK7 => ?_
  refine wp_region_list (WL.out ?_)
  refine WL.val (by kernel_rfl) (.bool false) (by go_simp) ?_
  simp only [Act.put, List.setIfInBounds_toArray, List.set_cons_zero, List.set_cons_succ]
  refine WL.val (by kernel_rfl) (.bool false) (by go_simp) ?_
  simp only [Act.put, List.setIfInBounds_toArray, List.set_cons_zero, List.set_cons_succ]
  refine WL.nil ?_
  refine hK7 _ _ ?_
  refine wp_cond_false rfl ?_
  refine wp_seq_k fun K8 hK8 => ?_
  refine wp_region_list (WL.out ?_)
  refine WL.val (by kernel_rfl) (.bool false) (by go_simp) ?_
  simp only [Act.put, List.setIfInBounds_toArray, List.set_cons_zero, List.set_cons_succ]
  refine WL.val (by kernel_rfl) (.bool false) (by go_simp) ?_
  simp only [Act.put, List.setIfInBounds_toArray, List.set_cons_zero, List.set_cons_succ]
  refine WL.nil ?_
  refine hK8 _ _ ?_
  refine wp_cond_false rfl ?_
  refine wp_seq_k fun K9 hK9 => ?_
  refine wp_region_list (WL.out ?_)
  refine WL.val (by kernel_rfl) (.bool false) (by go_simp) ?_
  simp only [Act.put, List.setIfInBounds_toArray, List.set_cons_zero, List.set_cons_succ]
  refine WL.val (by kernel_rfl) (.bool false) (by go_simp) ?_
  simp only [Act.put, List.setIfInBounds_toArray, List.set_cons_zero, List.set_cons_succ]
  refine WL.nil ?_
  refine hK9 _ _ ?_
  refine wp_cond_false rfl ?_
  refine wp_seq_k fun K10 hK10 => ?_
  refine wp_region_list (WL.out ?_)
  refine WL.val (by kernel_rfl) (.bool false) (by go_simp) ?_
  simp only [Act.put, List.setIfInBounds_toArray, List.set_cons_zero, List.set_cons_succ]
  refine WL.val (by kernel_rfl) (.bool false) (by go_simp) ?_
  simp only [Act.put, List.setIfInBounds_toArray, List.set_cons_zero, List.set_cons_succ]
  refine WL.nil ?_
  refine hK10 _ _ ?_
  refine wp_cond_false rfl ?_
  refine wp_seq_k fun K11 hK11 => ?_
  refine wp_region_list (WL.out ?_)
  refine WL.val (by kernel_rfl) (.bool false) (by go_simp) ?_
  simp only [Act.put, List.setIfInBounds_toArray, List.set_cons_zero, List.set_cons_succ]
  refine WL.val (by kernel_rfl) (.bool false) (by go_simp) ?_
  simp only [Act.put, List.setIfInBounds_toArray, List.set_cons_zero, List.set_cons_succ]
  refine WL.nil ?_
  refine hK11 _ _ ?_
  refine wp_cond_false rfl ?_
  refine wp_seq_k fun K12 hK12 => ?_
  refine wp_region_list (WL.out ?_)
  refine WL.val (by kernel_rfl) (.bool false) (by go_simp) ?_
  simp only [Act.put, List.setIfInBounds_toArray, List.set_cons_zero, List.set_cons_succ]
  refine WL.val (by kernel_rfl) (.bool false) (by go_simp) ?_
  simp only [Act.put, List.setIfInBounds_toArray, List.set_cons_zero, List.set_cons_succ]
  refine WL.nil ?_
  refine hK12 _ _ ?_
  refine wp_cond_false rfl ?_
  refine wp_skip ?_
  refine hK2 _ _ ?_
  refine wp_seq_k fun K13 hK13 => ?_
  refine wp_region_list (WL.out ?_)
  refine WL.val (by kernel_rfl) (.pointer (some ⟨b3, 0, none⟩)) (by go_simp) ?_
  simp only [Act.put, List.setIfInBounds_toArray, List.set_cons_zero, List.set_cons_succ]
  refine WL.val (by kernel_rfl) (.pointer (some ⟨p, 0, none⟩)) (by go_simp) ?_
  simp only [Act.put, List.setIfInBounds_toArray, List.set_cons_zero, List.set_cons_succ]
  refine WL.val (by kernel_rfl) (.pointer (some ⟨b4, 1, none⟩)) (by go_simp) ?_
  simp only [Act.put, List.setIfInBounds_toArray, List.set_cons_zero, List.set_cons_succ]
  refine WL.val (by kernel_rfl) (.int .i64 f) (by go_simp) ?_
  simp only [Act.put, List.setIfInBounds_toArray, List.set_cons_zero, List.set_cons_succ]
  refine WL.val (by kernel_rfl) (.pointer (some ⟨b4, 2, none⟩)) (by go_simp) ?_
  simp only [Act.put, List.setIfInBounds_toArray, List.set_cons_zero, List.set_cons_succ]
  refine WL.val (by kernel_rfl) (.int .i64 t) (by go_simp) ?_
  simp only [Act.put, List.setIfInBounds_toArray, List.set_cons_zero, List.set_cons_succ]
  obtain ⟨la, n, cap, hlv⟩ : ∃ la n cap, (if thr N f t = true then (lkOf Ps f t).v else .slice none 0 0) = Value.slice la n cap ∧ (n : Int) = lenI N Ps f t := by
    unfold lenI
    cases ht : thr N f t
    · exact ⟨none, 0, 0, rfl, rfl⟩
    · obtain ⟨a, c, hv⟩ := (R2.out.pm.link ht).2.sl
      exact ⟨a, _, c, by rw [if_pos rfl, hv], rfl⟩
  refine WL.callF (by kernel_rfl) 18 _ _ rfl Tryd.in18 #[.pointer (some ⟨p, 0, none⟩), .int .i64 f, .int .i64 t] (by simp [Act.eval]) ?_
  refine (pln w2 p mb N Ps f t la n cap ⟨hlv.1⟩ ⟨R2.out.pm⟩).mono ?_
  rintro e w3 ⟨rfl, n1⟩
  refine ⟨_, rfl, ?_⟩
  clear c3_0 c3_1 c4_0 c4_1 c4_2 c4_3 c4_4 c4_5 c4_6
  have hln := hlv.2
  have N3 := Keep.mk (R2.out.prog n1)
  have X3 := Keep.mk (N3.out.gr.blk Q3.out fun e => (HF3.out _ e).1 rfl)
  have X4 := Keep.mk (N3.out.gr.blk Q4.out fun e => (HF3.out _ e).2 rfl)
  rw [hln, HEq.out.ln]
  obtain ⟨er, her⟩ : ∃ z, z = lenI N Ks f t := ⟨_, rfl⟩
  rw [← her]
  have Her := Keep.mk her
  clear hlv n1 hln her
  have c3_0 := X3.out.c 0 (rfl : _ = some (Value.pointer (some ⟨p, 0, none⟩)))
  have c3_1 := X3.out.c 1 (rfl : _ = some (Value.pointer (some ⟨x, 0, none⟩)))
  have c4_0 := X4.out.c 0 (rfl : _ = some (Value.int .i64 kd))
  have c4_1 := X4.out.c 1 (rfl : _ = some (Value.int .i64 f))
  have c4_2 := X4.out.c 2 (rfl : _ = some (Value.int .i64 t))
  have c4_3 := X4.out.c 3 (rfl : _ = some (Value.int .i64 i))
  have c4_4 := X4.out.c 4 (rfl : _ = some (Value.int .i64 j))
  have c4_5 := X4.out.c 5 (rfl : _ = some (Value.int .i64 m))
  have c4_6 := X4.out.c 6 (rfl : _ = some (Value.int .u8 by_))
  simp only [Act.put, List.setIfInBounds_toArray, List.set_cons_zero, List.set_cons_succ]
  refine WL.val (by kernel_rfl) (.int .i64 er) (by go_simp) ?_
  simp only [Act.put, List.setIfInBounds_toArray, List.set_cons_zero, List.set_cons_succ]
  refine WL.nil ?_
  refine hK13 _ _ ?_
  refine wp_seq_k fun K14 hK14 => ?_
  refine wp_region_list (WL.out ?_)
  refine WL.val (by kernel_rfl) (.int .i64 er) (by go_simp) ?_
  simp only [Act.put, List.setIfInBounds_toArray, List.set_cons_zero, List.set_cons_succ]
  refine WL.val (by kernel_rfl) (.pointer (some ⟨b3, 1, none⟩)) (by go_simp) ?_
  simp only [Act.put, List.setIfInBounds_toArray, List.set_cons_zero, List.set_cons_succ]
  refine WL.val (by kernel_rfl) (.pointer (some ⟨x, 0, none⟩)) (by go_simp) ?_
  simp only [Act.put, List.setIfInBounds_toArray, List.set_cons_zero, List.set_cons_succ]
  refine WL.val (by kernel_rfl) (.pointer (some ⟨b4, 1, none⟩)) (by go_simp) ?_
  simp only [Act.put, List.setIfInBounds_toArray, List.set_cons_zero, List.set_cons_succ]
  refine WL.val (by kernel_rfl) (.int .i64 f) (by go_simp) ?_
  simp only [Act.put, List.setIfInBounds_toArray, List.set_cons_zero, List.set_cons_succ]
  refine WL.val (by kernel_rfl) (.pointer (some ⟨b4, 2, none⟩)) (by go_simp) ?_
  simp only [Act.put, List.setIfInBounds_toArray, List.set_cons_zero, List.set_cons_succ]
  refine WL.val (by kernel_rfl) (.int .i64 t) (by go_simp) ?_
  simp only [Act.put, List.setIfInBounds_toArray, List.set_cons_zero, List.set_cons_succ]
  refine WL.callF (by kernel_rfl) 34 _ _ rfl Tryd.in34 #[.pointer (some ⟨x, 0, none⟩), .int .i64 f, .int .i64 t] (by simp [Act.eval]) ?_
  refine (rlen_any w3 x g N Ks f t N3.out.at_.rm).mono ?_
  rintro e w3_ ⟨rfl, hw_⟩
  refine ⟨_, rfl, ?_⟩
  have hw_ := hw_.symm
  subst hw_
  rw [← Her.out]
  simp only [Act.put, List.setIfInBounds_toArray, List.set_cons_zero, List.set_cons_succ]
  refine WL.val (by kernel_rfl) (.bool true) (by go_simp) ?_
  simp only [Act.put, List.setIfInBounds_toArray, List.set_cons_zero, List.set_cons_succ]
  refine WL.val (by kernel_rfl) (.bool true) (by go_simp) ?_
  simp only [Act.put, List.setIfInBounds_toArray, List.set_cons_zero, List.set_cons_succ]
  refine WL.nil ?_
  refine hK14 _ _ ?_
  refine wp_ret ?_
  go_ret
  exact ⟨rfl, Ps, Ks, (PrN.of_below HB2.out N3.out), HEq.out⟩

end Go.Proofs.YteecdcocgflklaaDoor
