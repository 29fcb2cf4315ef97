import Derived.Test.YteecdcocgflklaaDoorA06
namespace Go.Proofs.YteecdcocgflklaaDoor
open Go.RowKit
set_option linter.unusedSimpArgs false
set_option linter.unusedVariables false
theorem Tryd.in7 (w : World) (vs : Array Value) : (callFunc 7 vs).run Tryd.prog w = .ok (.enter 7 vs) w := by kernel_rfl
theorem lkOf_put {N : Nat} {K : List Lk} {f t : Int} {b : Lk} (hN : N ≤ 8) (hl : K.length = 81) (h : thr N f t = true) : lkOf (K.set (ix f t) b) f t = b := by
  rw [lkOf_set hN hl h h, if_pos rfl]
theorem lkOf_oth {N : Nat} {K : List Lk} {f t f' t' : Int} {b : Lk} (hN : N ≤ 8) (hl : K.length = 81) (h : thr N f t = true) (h' : thr N f' t' = true) (hne : (f', t') ≠ (f, t)) : lkOf (K.set (ix f t) b) f' t' = lkOf K f' t' := by
  rw [lkOf_set hN hl h h', if_neg hne]
structure PmL (w0 w : World) (p mb N : Nat) (K : List Lk) : Prop where
  at_ : PmAt w p mb N 0 K
  fr : ∀ k, PmS p mb K k → w0.heap.size ≤ k
  bel : Below w0.heap.size w0 w
theorem PmL.next {w0 w w' : World} {p mb N : Nat} {K K' : List Lk} (h : PmL w0 w p mb N K) (n : PmN w p mb N K K' 0 w') : PmL w0 w' p mb N K' :=
  ⟨n.at_, fun k hk => by
    rcases n.new k hk with e | e
    · exact h.fr k e
    · exact Nat.le_trans h.bel.size e, h.bel.trans (n.gr.to_below (fun k hk e => by have := h.fr k e; omega) h.bel.size)⟩
theorem PmL.below {w0 w w' : World} {p mb N : Nat} {K : List Lk} (h : PmL w0 w p mb N K) (hb : Below w.heap.size w w') : PmL w0 w' p mb N K := h.next (PmN.below h.at_ hb)
theorem PmL.grown {w0 w w' : World} {p mb N : Nat} {K : List Lk} {S : Nat → Prop} (h : PmL w0 w p mb N K) (hg : Grown w w' S) (hs : ∀ k, S k → w0.heap.size ≤ k ∧ ¬ PmS p mb K k) : PmL w0 w' p mb N K :=
  ⟨h.at_.grown hg fun k e => (hs k e).2, h.fr, h.bel.trans (hg.to_below (fun k hk e => by have := (hs k e).1; omega) h.bel.size)⟩
theorem ErrI.of {w0 w : World} {qe : Addr} (h : ErrI w0 qe) (hb : Below w0.heap.size w0 w) : ErrI w qe := h.below hb
theorem PmL.new {w0 w w' : World} {p mb N : Nat} (hb : Below w0.heap.size w0 w) (h : PmAt w' p mb N 0 K0) (hp : w.heap.size ≤ p ∧ w.heap.size ≤ mb) (hb2 : Below w.heap.size w w') : PmL w0 w' p mb N K0 :=
  ⟨h, fun k hk => by have := hb.size; rcases pmS0 hk with rfl | rfl <;> omega, hb.trans (hb2.mono hb.size)⟩
theorem K0_R {N : Nat} (hN : N ≤ 8) {f t : Int} (h : thr N f t = true) : (lkOf K0 f t).R = [] := by
  have hi := (thr_ix hN h).2.2
  have e : K0[ix f t]? = some LK0 := by
    unfold K0
    rw [List.getElem?_replicate, if_pos hi]
    rfl
  unfold lkOf
  rw [e]
  rfl
theorem lsend {w0 w : World} {p mb N : Nat} {K : List Lk} (f t : Int) {vb : Value} {b : List Int} (h : PmL w0 w p mb N K) (hb : RowAt w vb b) (hB : Byts b) (hd : b ≠ [] → ∀ k, vb.ownBlock = some k → ¬ PmS p mb K k) : Calls Tryd.prog 15 #[.pointer (some ⟨p, 0, none⟩), .int .i64 f, .int .i64 t, vb] w fun e w' => ∃ er K', e = .returned (.int .i64 er) ∧ er = sndE N K f t b ∧ PmL w0 w' p mb N K' ∧ PmN w p mb N K K' 0 w' ∧ (er ≠ 0 → K' = K) ∧ (er = 0 → ∃ u v, K' = K.set (ix f t) ⟨v, (lkOf K f t).R ++ [(u, b)]⟩) := by
  obtain ⟨a, c, rfl⟩ := row_form hb
  exact (psn w p mb N K f t a _ c b ⟨hb⟩ ⟨rfl⟩ ⟨hB⟩ ⟨hd⟩ ⟨h.at_⟩).mono fun e w' ⟨er, K', h1, h2, h3, h4, h5⟩ => ⟨er, K', h1, h2, h.next h3, h3, h4, h5⟩
theorem ltake {w0 w : World} {p mb N : Nat} {qe : Addr} {K : List Lk} (f t : Int) (h : PmL w0 w p mb N K) (hE : ErrI w0 qe) : Calls Tryd.prog 16 #[.pointer (some ⟨p, 0, none⟩), .int .i64 f, .int .i64 t] w fun e w' => ∃ v ev K', e = .returned (.tuple #[v, ev]) ∧ ev = errV (tkE N K f t) qe ∧ PmL w0 w' p mb N K' ∧ PmN w p mb N K K' 0 w' ∧ (tkE N K f t ≠ 0 → K' = K ∧ v = .slice none 0 0) ∧ (tkE N K f t = 0 → ∃ b R u, (lkOf K f t).R = (v, b) :: R ∧ K' = K.set (ix f t) ⟨u, R⟩ ∧ Own w' v b ∧ ∀ k, v.ownBlock = some k → PmS p mb K k ∧ ¬ PmS p mb K' k) :=
  (ptk w p mb N K f t qe ⟨hE.of h.bel⟩ ⟨fun e => by have := h.fr 0 e; have := hE.lt; omega⟩ ⟨h.at_⟩).mono fun e w' ⟨v, ev, K', h1, h2, h3, h4, h5⟩ => ⟨v, ev, K', h1, h2, h.next h3, h3, h4, h5⟩
theorem bsB2 (a b : Int) (w : World) : (Instr.buildSlice 39 2 #[(0, .int .u8 a), (1, .int .u8 b)]).run Tryd.prog w = .ok (.slice (some ⟨w.heap.size, 0, none⟩) 2 2) (w.alloc (.cells (bv [a, b]).toArray 5)) := by kernel_rfl
theorem eq_nn (w : World) : (binOp .eql 24 .nilIface .nilIface).run Tryd.prog w = .ok (.bool true) w := by kernel_rfl
theorem eq_idle (qe : Addr) (w : World) : (binOp .eql 24 (.iface 105 (.pointer (some qe))) (.iface 105 (.pointer (some qe)))).run Tryd.prog w = .ok (.bool true) w := by
  obtain ⟨i, hi, hc⟩ := Option.map_eq_some_iff.1 (show (Tryd.prog.info? 105).map (·.comparable) = some true by kernel_rfl)
  obtain ⟨j, hj, _⟩ := Option.map_eq_some_iff.1 (show (Tryd.prog.info? 122).map (·.comparable) = some true by kernel_rfl)
  exact run_eql_iface_ptr_same w _ Tryd.underlying24 Tryd.underlying105 hi hc hj
theorem ne_idle (qe : Addr) (w : World) : (binOp .neq 24 (.iface 105 (.pointer (some qe))) .nilIface).run Tryd.prog w = .ok (.bool true) w := by kernel_rfl
theorem fx1 : sndE 2 K0 1 2 [11, 12] = 0 := by
  unfold sndE
  rw [K0_R (N := 2) (by decide) (by decide)]
  decide
theorem fx2 (v u : Value) : flE 2 (K0.set (ix 1 2) ⟨v, (lkOf K0 1 2).R ++ [(u, [11, 12])]⟩) 1 2 0 128 = 0 := by
  unfold flE nmE
  rw [lkOf_put (N := 2) (by decide) (by rfl) (by decide), K0_R (N := 2) (by decide) (by decide)]
  rfl
theorem fx3 : xor8 12 128 = 140 := by
  show bits .xor .u8 12 128 = 140
  rw [u8_xor 12 128 (by decide) (by decide) (by decide) (by decide)]
  rfl
set_option maxRecDepth 8000 in
theorem fixed_any (w : World) (qe : Addr) (HE : Keep (ErrI w qe)) : Calls Tryd.prog 7 #[] w fun e w' => e = .returned (.bool true) ∧ Below w.heap.size w w' := by
  go_enter Tryd.func7, Tryd.ntmps7
  refine wp_seq_k fun K1 hK1 => ?_
  refine wp_region_list (WL.out ?_)
  refine WL.val (by kernel_rfl) (.bool false) (by go_simp) ?_
  simp only [Act.put, List.setIfInBounds_toArray, List.set_cons_zero, List.set_cons_succ]
  refine WL.nil ?_
  refine hK1 _ _ ?_
  refine wp_seq_k fun K2 hK2 => ?_
  refine wp_region_list (WL.out ?_)
  refine WL.callF (by kernel_rfl) 8 _ _ rfl Tryd.in8 #[.int .i64 2] (by simp [Act.eval]) ?_
  refine (pnw_ok w 2 (by decide)).mono ?_
  rintro e w1 ⟨p, mb, rfl, hP, hpm, hb⟩
  refine ⟨_, rfl, ?_⟩
  have L1 := Keep.mk (PmL.new (Below.refl _ _) hP hpm hb)
  clear hP hpm hb
  simp only [Act.put, List.setIfInBounds_toArray, List.set_cons_zero, List.set_cons_succ]
  refine WL.val (by kernel_rfl) (.tuple #[.pointer (some ⟨p, 0, none⟩), .int .i64 0]) (by go_simp) ?_
  simp only [Act.put, List.setIfInBounds_toArray, List.set_cons_zero, List.set_cons_succ]
  refine WL.val (by kernel_rfl) (.pointer (some ⟨p, 0, none⟩)) (by go_simp) ?_
  simp only [Act.put, List.setIfInBounds_toArray, List.set_cons_zero, List.set_cons_succ]
  refine WL.val (by kernel_rfl) (.int .i64 0) (by go_simp) ?_
  simp only [Act.put, List.setIfInBounds_toArray, List.set_cons_zero, List.set_cons_succ]
  refine WL.val (by kernel_rfl) (.pointer (some ⟨p, 0, none⟩)) (by go_simp) ?_
  simp only [Act.put, List.setIfInBounds_toArray, List.set_cons_zero, List.set_cons_succ]
  refine WL.val (by kernel_rfl) (.int .i64 0) (by go_simp) ?_
  simp only [Act.put, List.setIfInBounds_toArray, List.set_cons_zero, List.set_cons_succ]
  refine WL.nil ?_
  refine hK2 _ _ ?_
  refine wp_seq_k fun K3 hK3 => ?_
  refine wp_seq_k fun K4 hK4 => ?_
  refine wp_region_list (WL.out ?_)
  refine WL.val (by kernel_rfl) (.pointer (some ⟨p, 0, none⟩)) (by go_simp) ?_
  simp only [Act.put, List.setIfInBounds_toArray, List.set_cons_zero, List.set_cons_succ]
  refine WL.val (by kernel_rfl) (.bool false) (by go_simp) ?_
  simp only [Act.put, List.setIfInBounds_toArray, List.set_cons_zero, List.set_cons_succ]
  refine WL.val (by kernel_rfl) (.bool false) (by go_simp) ?_
  simp only [Act.put, List.setIfInBounds_toArray, List.set_cons_zero, List.set_cons_succ]
  refine WL.val (by kernel_rfl) (.int .i64 0) (by go_simp) ?_
  simp only [Act.put, List.setIfInBounds_toArray, List.set_cons_zero, List.set_cons_succ]
  refine WL.val (by kernel_rfl) (.bool false) (by go_simp) ?_
  simp only [Act.put, List.setIfInBounds_toArray, List.set_cons_zero, List.set_cons_succ]
  refine WL.val (by kernel_rfl) (.bool false) (by go_simp) ?_
  simp only [Act.put, List.setIfInBounds_toArray, List.set_cons_zero, List.set_cons_succ]
  refine WL.nil ?_
  refine hK4 _ _ ?_
  refine wp_cond_false rfl ?_
  refine wp_skip ?_
  refine hK3 _ _ ?_
  refine wp_seq_k fun K5 hK5 => ?_
  refine wp_region_list (WL.out ?_)
  refine WL.val (by kernel_rfl) (.pointer (some ⟨p, 0, none⟩)) (by go_simp) ?_
  simp only [Act.put, List.setIfInBounds_toArray, List.set_cons_zero, List.set_cons_succ]
  refine WL.bs (by kernel_rfl) 39 2 _ rfl #[(0, .int .u8 11), (1, .int .u8 12)] (by simp [Act.eval]) _ _ (bsB2 11 12 w1) ?_
  have O2 := Keep.mk (own_done w1 [11, 12] (by simp))
  have b2 := below_new w1 (.cells (bv [11, 12]).toArray 5)
  have L2 := Keep.mk (L1.out.below b2)
  have D2 : Keep (∀ k, (Value.slice (some ⟨w1.heap.size, 0, none⟩) 2 2).ownBlock = some k → ¬ PmS p mb K0 k) := ⟨fun k hk e => by have := L1.out.at_.lt k e; simp [Value.ownBlock] at hk; omega⟩
  change Keep (Own (w1.alloc (.cells (bv [11, 12]).toArray 5)) (.slice (some ⟨w1.heap.size, 0, none⟩) 2 2) [11, 12]) at O2
  generalize w1.alloc (.cells (bv [11, 12]).toArray 5) = w2 at *
  obtain ⟨g2, hg2⟩ : ∃ z, Keep (z = w1.heap.size) := ⟨_, ⟨rfl⟩⟩
  rw [← hg2.out] at O2 D2 ⊢
  clear b2 L1
  simp only [Act.put, List.setIfInBounds_toArray, List.set_cons_zero, List.set_cons_succ]
  refine WL.callF (by kernel_rfl) 15 _ _ rfl Tryd.in15 #[.pointer (some ⟨p, 0, none⟩), .int .i64 1, .int .i64 2, .slice (some ⟨g2, 0, none⟩) 2 2] (by simp [Act.eval]) ?_
  refine (lsend 1 2 L2.out O2.out.row (by intro c hc; simp at hc; omega) (fun _ => D2.out)).mono ?_
  rintro e w3 ⟨er, K1, rfl, her, hL, _, _, hk⟩
  refine ⟨_, rfl, ?_⟩
  rw [fx1] at her
  subst her
  obtain ⟨u, v, hk⟩ := hk rfl
  have L3 := Keep.mk hL
  have HK1 := Keep.mk hk
  clear hL hk L2 O2 D2
  simp only [Act.put, List.setIfInBounds_toArray, List.set_cons_zero, List.set_cons_succ]
  refine WL.val (by kernel_rfl) (.int .i64 0) (by go_simp) ?_
  simp only [Act.put, List.setIfInBounds_toArray, List.set_cons_zero, List.set_cons_succ]
  refine WL.nil ?_
  refine hK5 _ _ ?_
  refine wp_seq_k fun K6 hK6 => ?_
  refine wp_region_list (WL.out ?_)
  refine WL.val (by kernel_rfl) (.pointer (some ⟨p, 0, none⟩)) (by go_simp) ?_
  simp only [Act.put, List.setIfInBounds_toArray, List.set_cons_zero, List.set_cons_succ]
  refine WL.callF (by kernel_rfl) 19 _ _ rfl Tryd.in19 #[.pointer (some ⟨p, 0, none⟩), .int .i64 1, .int .i64 2, .int .i64 0, .int .i64 3, .int .u8 128] (by simp [Act.eval]) ?_
  refine (pfl w3 p mb 2 K1 1 2 0 3 128 ⟨by decide⟩ ⟨L3.out.at_⟩).mono ?_
  rintro e w4 ⟨er, K2, rfl, her, hn, _, hk⟩
  refine ⟨_, rfl, ?_⟩
  rw [HK1.out, fx2] at her
  subst her
  obtain ⟨q, u2, hq, hk⟩ := hk rfl
  rw [HK1.out, lkOf_put (N := 2) (by decide) (by rfl) (by decide), K0_R (N := 2) (by decide) (by decide)] at hq hk
  simp only [List.nil_append, Int.toNat_zero, List.getElem?_cons_zero, Option.some.injEq] at hq
  subst hq
  have hr : rnd 3 ([11, 12] : List Int).length = 1 := by decide
  simp only [hr, List.nil_append, List.getD_cons_succ, List.getD_cons_zero, Int.toNat_zero, fx3, List.set_cons_succ, List.set_cons_zero] at hk
  have L4 := Keep.mk (L3.out.next hn)
  have R4 : Keep ((lkOf K2 1 2).R = [(u2, [11, 140])]) := ⟨by rw [hk, lkOf_put (N := 2) (by decide) (by rw [List.length_set]; rfl) (by decide)]⟩
  clear hn hk L3 HK1
  simp only [Act.put, List.setIfInBounds_toArray, List.set_cons_zero, List.set_cons_succ]
  refine WL.val (by kernel_rfl) (.int .i64 0) (by go_simp) ?_
  simp only [Act.put, List.setIfInBounds_toArray, List.set_cons_zero, List.set_cons_succ]
  refine WL.nil ?_
  refine hK6 _ _ ?_
  refine wp_seq_k fun K7 hK7 => ?_
  refine wp_region_list (WL.out ?_)
  refine WL.val (by kernel_rfl) (.pointer (some ⟨p, 0, none⟩)) (by go_simp) ?_
  simp only [Act.put, List.setIfInBounds_toArray, List.set_cons_zero, List.set_cons_succ]
  refine WL.callF (by kernel_rfl) 16 _ _ rfl Tryd.in16 #[.pointer (some ⟨p, 0, none⟩), .int .i64 1, .int .i64 2] (by simp [Act.eval]) ?_
  refine (ltake 1 2 L4.out HE.out).mono ?_
  rintro e w5 ⟨v5, ev5, K3, rfl, hev, hL, _, _, hk⟩
  refine ⟨_, rfl, ?_⟩
  have ht : tkE 2 K2 1 2 = 0 := tk_some (by decide) (by rw [R4.out]; simp)
  rw [ht] at hev
  have hev2 : ev5 = .nilIface := hev
  clear hev
  subst hev2
  obtain ⟨b5, R5, u5, hR, hk, hO, hD⟩ := hk ht
  rw [R4.out] at hR
  injection hR with h1 h2
  injection h1 with h1 h3
  subst h1 h2 h3
  have L5 := Keep.mk hL
  have O5 := Keep.mk hO
  have D5 := Keep.mk (fun k hk => (hD k hk).2)
  clear hD
  have R5 : Keep ((lkOf K3 1 2).R = []) := ⟨by rw [hk, lkOf_put (N := 2) (by decide) L4.out.at_.len (by decide)]⟩
  clear hL hk hO L4 R4 ht
  obtain ⟨ra, rn, rc, hu⟩ := O5.out.sl
  subst hu
  simp only [Act.put, List.setIfInBounds_toArray, List.set_cons_zero, List.set_cons_succ]
  refine WL.val (by kernel_rfl) (.tuple #[.slice ra rn rc, .nilIface]) (by go_simp) ?_
  simp only [Act.put, List.setIfInBounds_toArray, List.set_cons_zero, List.set_cons_succ]
  refine WL.val (by kernel_rfl) (.slice ra rn rc) (by go_simp) ?_
  simp only [Act.put, List.setIfInBounds_toArray, List.set_cons_zero, List.set_cons_succ]
  refine WL.val (by kernel_rfl) (.nilIface) (by go_simp) ?_
  simp only [Act.put, List.setIfInBounds_toArray, List.set_cons_zero, List.set_cons_succ]
  refine WL.val (by kernel_rfl) (.slice ra rn rc) (by go_simp) ?_
  simp only [Act.put, List.setIfInBounds_toArray, List.set_cons_zero, List.set_cons_succ]
  refine WL.val (by kernel_rfl) (.nilIface) (by go_simp) ?_
  simp only [Act.put, List.setIfInBounds_toArray, List.set_cons_zero, List.set_cons_succ]
  refine WL.nil ?_
  refine hK7 _ _ ?_
  refine wp_seq_k fun K8 hK8 => ?_
  refine wp_region_list (WL.out ?_)
  refine WL.val (by kernel_rfl) (.pointer (some ⟨p, 0, none⟩)) (by go_simp) ?_
  simp only [Act.put, List.setIfInBounds_toArray, List.set_cons_zero, List.set_cons_succ]
  refine WL.callF (by kernel_rfl) 16 _ _ rfl Tryd.in16 #[.pointer (some ⟨p, 0, none⟩), .int .i64 1, .int .i64 2] (by simp [Act.eval]) ?_
  refine (ltake 1 2 L5.out HE.out).mono ?_
  rintro e w6 ⟨v6, ev6, K4, rfl, hev, hL, hN6, hk, _⟩
  refine ⟨_, rfl, ?_⟩
  have ht : tkE 2 K3 1 2 = -1 := tk_none (by decide) (by rw [R5.out]; decide)
  rw [ht] at hev hk
  have hev2 : ev6 = (.iface 105 (.pointer (some qe))) := hev
  clear hev
  subst hev2
  obtain ⟨_, rfl⟩ := hk (by decide)
  have L6 := Keep.mk hL
  have O6 : Keep (Own w6 (.slice ra rn rc) [11, 140]) := ⟨O5.out.grown hN6.gr fun k hk e => D5.out k hk e⟩
  clear hL hk hN6 L5 ht O5
  have g_ := (HE.out.of L6.out.bel).c
  simp only [Act.put, List.setIfInBounds_toArray, List.set_cons_zero, List.set_cons_succ]
  refine WL.val (by kernel_rfl) (.tuple #[.slice none 0 0, .iface 105 (.pointer (some qe))]) (by go_simp) ?_
  simp only [Act.put, List.setIfInBounds_toArray, List.set_cons_zero, List.set_cons_succ]
  refine WL.val (by kernel_rfl) (.slice none 0 0) (by go_simp) ?_
  simp only [Act.put, List.setIfInBounds_toArray, List.set_cons_zero, List.set_cons_succ]
  refine WL.val (by kernel_rfl) (.iface 105 (.pointer (some qe))) (by go_simp) ?_
  simp only [Act.put, List.setIfInBounds_toArray, List.set_cons_zero, List.set_cons_succ]
  refine WL.val (by kernel_rfl) (.slice none 0 0) (by go_simp) ?_
  simp only [Act.put, List.setIfInBounds_toArray, List.set_cons_zero, List.set_cons_succ]
  refine WL.val (by kernel_rfl) (.iface 105 (.pointer (some qe))) (by go_simp) ?_
  simp only [Act.put, List.setIfInBounds_toArray, List.set_cons_zero, List.set_cons_succ]
  refine WL.nil ?_
  refine hK8 _ _ ?_
  refine wp_seq_k fun K9 hK9 => ?_
  refine wp_region_list (WL.out ?_)
  refine WL.val (by kernel_rfl) (.int .i64 0) (by go_simp) ?_
  simp only [Act.put, List.setIfInBounds_toArray, List.set_cons_zero, List.set_cons_succ]
  refine WL.val (by kernel_rfl) (.bool true) (by go_simp) ?_
  simp only [Act.put, List.setIfInBounds_toArray, List.set_cons_zero, List.set_cons_succ]
  refine WL.val (by kernel_rfl) (.bool true) (by go_simp) ?_
  simp only [Act.put, List.setIfInBounds_toArray, List.set_cons_zero, List.set_cons_succ]
  refine WL.val (by kernel_rfl) (.int .i64 0) (by go_simp) ?_
  simp only [Act.put, List.setIfInBounds_toArray, List.set_cons_zero, List.set_cons_succ]
  refine WL.val (by kernel_rfl) (.bool true) (by go_simp) ?_
  simp only [Act.put, List.setIfInBounds_toArray, List.set_cons_zero, List.set_cons_succ]
  refine WL.val (by kernel_rfl) (.bool true) (by go_simp) ?_
  simp only [Act.put, List.setIfInBounds_toArray, List.set_cons_zero, List.set_cons_succ]
  refine WL.val (by kernel_rfl) (.bool true) (by go_simp) ?_
  simp only [Act.put, List.setIfInBounds_toArray, List.set_cons_zero, List.set_cons_succ]
  refine WL.val (by kernel_rfl) (.nilIface) (by go_simp) ?_
  simp only [Act.put, List.setIfInBounds_toArray, List.set_cons_zero, List.set_cons_succ]
  refine WL.val (by kernel_rfl) (.bool true) (by have h := eq_nn w6; go_simp) ?_
  simp only [Act.put, List.setIfInBounds_toArray, List.set_cons_zero, List.set_cons_succ]
  refine WL.val (by kernel_rfl) (.bool true) (by go_simp) ?_
  simp only [Act.put, List.setIfInBounds_toArray, List.set_cons_zero, List.set_cons_succ]
  refine WL.val (by kernel_rfl) (.bool true) (by go_simp) ?_
  simp only [Act.put, List.setIfInBounds_toArray, List.set_cons_zero, List.set_cons_succ]
  refine WL.val (by kernel_rfl) (.iface 105 (.pointer (some qe))) (by go_simp) ?_
  simp only [Act.put, List.setIfInBounds_toArray, List.set_cons_zero, List.set_cons_succ]
  refine WL.val (by kernel_rfl) (.iface 105 (.pointer (some qe))) (by go_simp) ?_
  simp only [Act.put, List.setIfInBounds_toArray, List.set_cons_zero, List.set_cons_succ]
  refine WL.val (by kernel_rfl) (.bool true) (by have h := eq_idle qe w6; go_simp) ?_
  simp only [Act.put, List.setIfInBounds_toArray, List.set_cons_zero, List.set_cons_succ]
  refine WL.val (by kernel_rfl) (.bool true) (by go_simp) ?_
  simp only [Act.put, List.setIfInBounds_toArray, List.set_cons_zero, List.set_cons_succ]
  refine WL.val (by kernel_rfl) (.bool true) (by go_simp) ?_
  simp only [Act.put, List.setIfInBounds_toArray, List.set_cons_zero, List.set_cons_succ]
  refine WL.val (by kernel_rfl) (.slice ra rn rc) (by go_simp) ?_
  simp only [Act.put, List.setIfInBounds_toArray, List.set_cons_zero, List.set_cons_succ]
  refine WL.bs (by kernel_rfl) 39 2 _ rfl #[(0, .int .u8 11), (1, .int .u8 140)] (by simp [Act.eval]) _ _ (bsB2 11 140 w6) ?_
  have O7 := Keep.mk (own_done w6 [11, 140] (by simp))
  have b7 := below_new w6 (.cells (bv [11, 140]).toArray 5)
  have L7 := Keep.mk (L6.out.below b7)
  have X7 := Keep.mk (O6.out.row.below b7)
  change Keep (Own (w6.alloc (.cells (bv [11, 140]).toArray 5)) (.slice (some ⟨w6.heap.size, 0, none⟩) 2 2) [11, 140]) at O7
  clear g_
  generalize w6.alloc (.cells (bv [11, 140]).toArray 5) = w7 at *
  obtain ⟨g7, hg7⟩ : ∃ z, Keep (z = w6.heap.size) := ⟨_, ⟨rfl⟩⟩
  rw [← hg7.out] at O7 ⊢
  clear b7 L6 O6
  simp only [Act.put, List.setIfInBounds_toArray, List.set_cons_zero, List.set_cons_succ]
  refine WL.callF (by kernel_rfl) 17 _ _ rfl Tryd.in17 #[.slice ra rn rc, .slice (some ⟨g7, 0, none⟩) 2 2] (by simp [Act.eval]) ?_
  refine (same_any _ _ [11, 140] [11, 140] w7 X7.out O7.out.row (by intro c hc; simp at hc; omega) (by intro c hc; simp at hc; omega)).mono ?_
  rintro e w7_ ⟨rfl, hw_⟩
  refine ⟨_, rfl, ?_⟩
  have hw_ := hw_.symm
  subst hw_
  simp only [Act.put, List.setIfInBounds_toArray, List.set_cons_zero, List.set_cons_succ]
  refine WL.val (by kernel_rfl) (.bool true) (by go_simp) ?_
  simp only [Act.put, List.setIfInBounds_toArray, List.set_cons_zero, List.set_cons_succ]
  refine WL.val (by kernel_rfl) (.bool true) (by go_simp) ?_
  simp only [Act.put, List.setIfInBounds_toArray, List.set_cons_zero, List.set_cons_succ]
  refine WL.nil ?_
  refine hK9 _ _ ?_
  refine wp_ret ?_
  go_ret
  exact ⟨rfl, L7.out.bel⟩

structure LS (w0 w : World) (p mb N : Nat) (f t : Int) (M : List (List Int)) (O : List (Value × List Int)) : Prop where
  ex : ∃ K, PmL w0 w p mb N K ∧ (lkOf K f t).bs = M ∧ ∀ q ∈ O, Own w q.1 q.2 ∧ ∀ k, q.1.ownBlock = some k → ¬ PmS p mb K k ∧ w0.heap.size ≤ k
theorem PmL.keeps {w0 w w' : World} {p mb N : Nat} {K K' : List Lk} {O : List (Value × List Int)} (n : PmN w p mb N K K' 0 w') (hO : ∀ q ∈ O, Own w q.1 q.2 ∧ ∀ k, q.1.ownBlock = some k → ¬ PmS p mb K k ∧ w0.heap.size ≤ k) :
    ∀ q ∈ O, Own w' q.1 q.2 ∧ ∀ k, q.1.ownBlock = some k → ¬ PmS p mb K' k ∧ w0.heap.size ≤ k := fun q hq =>
  ⟨(hO q hq).1.grown n.gr fun k hk => ((hO q hq).2 k hk).1, fun k hk => ⟨fun e => by
    rcases n.new k e with e | e
    · exact ((hO q hq).2 k hk).1 e
    · have := (hO q hq).1.lt k hk; omega, ((hO q hq).2 k hk).2⟩⟩
theorem LS.bel {w0 w : World} {p mb N : Nat} {f t : Int} {M : List (List Int)} {O : List (Value × List Int)} (h : LS w0 w p mb N f t M O) : Below w0.heap.size w0 w := by
  obtain ⟨K, h, _⟩ := h.ex
  exact h.bel
theorem LS.out {w0 w : World} {p mb N : Nat} {f t : Int} {M : List (List Int)} {O : List (Value × List Int)} (h : LS w0 w p mb N f t M O) (q : Value × List Int) (hq : q ∈ O) : Own w q.1 q.2 := by
  obtain ⟨K, _, _, h⟩ := h.ex
  exact (h q hq).1
theorem LS.below {w0 w w' : World} {p mb N : Nat} {f t : Int} {M : List (List Int)} {O : List (Value × List Int)} (h : LS w0 w p mb N f t M O) (hb : Below w.heap.size w w') : LS w0 w' p mb N f t M O := by
  obtain ⟨K, h1, h2, h3⟩ := h.ex
  exact ⟨K, h1.below hb, h2, PmL.keeps (PmN.below h1.at_ hb) h3⟩
theorem LS.fst {w0 w : World} {p mb N : Nat} {K : List Lk} {f t : Int} {M : List (List Int)} (h : PmL w0 w p mb N K) (ht : thr N f t = true) (hM : (lkOf K f t).bs = M) : (lkOf K f t).R.length = M.length ∧ ∀ (k : Nat) (b : List Int), M[k]? = some b → ∃ u, (lkOf K f t).R[k]? = some (u, b) := by
  subst hM
  refine ⟨by simp [Lk.bs], fun k b hb => ?_⟩
  unfold Lk.bs at hb
  rw [List.getElem?_map] at hb
  obtain ⟨⟨u, c⟩, h1, h2⟩ := Option.map_eq_some_iff.1 hb
  simp only at h2
  subst h2
  exact ⟨u, h1⟩
theorem set_self_ {α : Type} {L : List α} {k : Nat} {x : α} (h : L[k]? = some x) : L.set k x = L := by
  apply List.ext_getElem?
  intro s
  by_cases e : k = s
  · subst e
    rw [List.getElem?_set_self (List.getElem?_eq_some_iff.1 h).1, h]
  · rw [List.getElem?_set_ne e]
theorem put_bs {w0 w : World} {p mb N : Nat} {K : List Lk} {f t : Int} {a : Lk} (h : PmL w0 w p mb N K) (ht : thr N f t = true) : (lkOf (K.set (ix f t) a) f t).bs = a.bs := by
  rw [lkOf_put h.at_.nb.2 h.at_.len ht]
theorem nm_ok0 {N : Nat} {K : List Lk} {f t : Int} {k : Nat} (ht : thr N f t = true) (hk : k < (lkOf K f t).R.length) : nmE N K f t (k : Int) = 0 := by
  unfold nmE
  rw [if_pos ht, if_neg (by omega)]
def sdE (M : List (List Int)) (b : List Int) : Int := if 2097194 < b.length then 4 else if 1024 ≤ M.length then 3 else 0
def flp (b : List Int) (m by_ : Int) : List Int := if by_ = 0 ∨ b.length = 0 then b else b.set (rnd m b.length) (xor8 (b.getD (rnd m b.length) 0) by_)
def clp (b : List Int) (m : Int) : List Int := if b.length = 0 then b else b.take (rnd m b.length)
section
variable {w0 w : World} {p mb N : Nat} {f t : Int} {M : List (List Int)} {O : List (Value × List Int)}
theorem ls_send (h : LS w0 w p mb N f t M O) (ht : thr N f t = true) {vb : Value} {b : List Int} (hb : RowAt w vb b) (hB : Byts b) (hd : b ≠ [] → ∀ k, vb.ownBlock = some k → k < w0.heap.size) : Calls Tryd.prog 15 #[.pointer (some ⟨p, 0, none⟩), .int .i64 f, .int .i64 t, vb] w fun e w' => ∃ er, e = .returned (.int .i64 er) ∧ er = sdE M b ∧ LS w0 w' p mb N f t (if sdE M b = 0 then M ++ [b] else M) O := by
  obtain ⟨K, h1, h2, h3⟩ := h.ex
  have hl := (LS.fst h1 ht h2).1
  have hs : sndE N K f t b = sdE M b := by
    unfold sndE sdE
    rw [if_pos ht, hl]
  refine (lsend f t h1 hb hB fun he k hk e => by have := hd he k hk; have := h1.fr k e; omega).mono ?_
  rintro e w' ⟨er, K', h4, h5, h6, h7, h8, h9⟩
  rw [hs] at h5
  subst h5
  refine ⟨_, h4, rfl, K', h6, ?_, PmL.keeps h7 h3⟩
  by_cases e0 : sdE M b = 0
  · rw [if_pos e0]
    obtain ⟨u, v, rfl⟩ := h9 e0
    rw [put_bs h1 ht, ← h2]
    simp [Lk.bs]
  · rw [if_neg e0, h8 e0, h2]
theorem ls_flip (h : LS w0 w p mb N f t M O) (ht : thr N f t = true) (k : Nat) {b : List Int} (hq : M[k]? = some b) (m by_ : Int) (hby : 0 ≤ by_ ∧ by_ < 256) : Calls Tryd.prog 19 #[.pointer (some ⟨p, 0, none⟩), .int .i64 f, .int .i64 t, .int .i64 (k : Int), .int .i64 m, .int .u8 by_] w fun e w' => ∃ er, e = .returned (.int .i64 er) ∧ er = (if by_ = 0 ∨ b.length = 0 then 1 else 0) ∧ LS w0 w' p mb N f t (M.set k (flp b m by_)) O := by
  obtain ⟨K, h1, h2, h3⟩ := h.ex
  obtain ⟨hl, hg⟩ := LS.fst h1 ht h2
  obtain ⟨u, hu⟩ := hg k b hq
  have hn := nm_ok0 ht (List.getElem?_eq_some_iff.1 hu).1
  have hs : flE N K f t (k : Int) by_ = if by_ = 0 ∨ b.length = 0 then 1 else 0 := by
    unfold flE
    rw [if_pos hn, Int.toNat_natCast, hu]
    rfl
  refine (pfl w p mb N K f t (k : Int) m by_ ⟨hby⟩ ⟨h1.at_⟩).mono ?_
  rintro e w' ⟨er, K', h4, h5, h6, h7, h8⟩
  rw [hs] at h5
  subst h5
  refine ⟨_, h4, rfl, K', h1.next h6, ?_, PmL.keeps h6 h3⟩
  unfold flp
  by_cases e0 : by_ = 0 ∨ b.length = 0
  · rw [if_pos e0]
    rw [h7 (by rw [if_pos e0]; decide), h2]
    exact (set_self_ hq).symm
  · rw [if_neg e0]
    obtain ⟨q, u2, hq2, hK⟩ := h8 (by rw [if_neg e0])
    rw [Int.toNat_natCast, hu] at hq2
    obtain rfl := Option.some.inj hq2
    rw [hK, put_bs h1 ht, ← h2]
    simp only [Lk.bs, Int.toNat_natCast, List.map_set]
theorem ls_twice (h : LS w0 w p mb N f t M O) (ht : thr N f t = true) (k : Nat) {b : List Int} (hq : M[k]? = some b) (hf : M.length < 1024) : Calls Tryd.prog 20 #[.pointer (some ⟨p, 0, none⟩), .int .i64 f, .int .i64 t, .int .i64 (k : Int)] w fun e w' => e = .returned (.int .i64 0) ∧ LS w0 w' p mb N f t (M ++ [b]) O := by
  obtain ⟨K, h1, h2, h3⟩ := h.ex
  obtain ⟨hl, hg⟩ := LS.fst h1 ht h2
  obtain ⟨u, hu⟩ := hg k b hq
  have hn := nm_ok0 ht (List.getElem?_eq_some_iff.1 hu).1
  have hs : twE N K f t (k : Int) = 0 := by
    unfold twE
    rw [if_pos hn, if_neg (by omega)]
  refine (ptw w p mb N K f t (k : Int) ⟨h1.at_⟩).mono ?_
  rintro e w' ⟨er, K', h4, h5, h6, h7, h8⟩
  rw [hs] at h5
  subst h5
  obtain ⟨u2, v, q, hq2, hK⟩ := h8 rfl
  rw [Int.toNat_natCast, hu] at hq2
  obtain rfl := Option.some.inj hq2
  refine ⟨h4, K', h1.next h6, ?_, PmL.keeps h6 h3⟩
  rw [hK, put_bs h1 ht, ← h2]
  simp [Lk.bs]
theorem ls_clip (h : LS w0 w p mb N f t M O) (ht : thr N f t = true) (k : Nat) {b : List Int} (hq : M[k]? = some b) (m : Int) : Calls Tryd.prog 21 #[.pointer (some ⟨p, 0, none⟩), .int .i64 f, .int .i64 t, .int .i64 (k : Int), .int .i64 m] w fun e w' => e = .returned (.int .i64 0) ∧ LS w0 w' p mb N f t (M.set k (clp b m)) O := by
  obtain ⟨K, h1, h2, h3⟩ := h.ex
  obtain ⟨hl, hg⟩ := LS.fst h1 ht h2
  obtain ⟨u, hu⟩ := hg k b hq
  have hn := nm_ok0 ht (List.getElem?_eq_some_iff.1 hu).1
  refine (pci w p mb N K f t (k : Int) m ⟨h1.at_⟩).mono ?_
  rintro e w' ⟨er, K', h4, h5, h6, h7, h8⟩
  rw [hn] at h5
  subst h5
  obtain ⟨q, hq2, hz, hp⟩ := h8 rfl
  rw [Int.toNat_natCast, hu] at hq2
  obtain rfl := Option.some.inj hq2
  refine ⟨h4, K', h1.next h6, ?_, PmL.keeps h6 h3⟩
  unfold clp
  by_cases e0 : b.length = 0
  · rw [if_pos e0, hz e0, h2]
    exact (set_self_ hq).symm
  · rw [if_neg e0]
    obtain ⟨u2, hK⟩ := hp e0
    rw [hK, put_bs h1 ht, ← h2]
    simp only [Lk.bs, Int.toNat_natCast, List.map_set]
theorem ls_swap (h : LS w0 w p mb N f t M O) (ht : thr N f t = true) (k k' : Nat) {b c : List Int} (hq : M[k]? = some b) (hr : M[k']? = some c) : Calls Tryd.prog 22 #[.pointer (some ⟨p, 0, none⟩), .int .i64 f, .int .i64 t, .int .i64 (k : Int), .int .i64 (k' : Int)] w fun e w' => e = .returned (.int .i64 0) ∧ LS w0 w' p mb N f t ((M.set k c).set k' b) O := by
  obtain ⟨K, h1, h2, h3⟩ := h.ex
  obtain ⟨hl, hg⟩ := LS.fst h1 ht h2
  obtain ⟨u, hu⟩ := hg k b hq
  obtain ⟨u', hu'⟩ := hg k' c hr
  have hs : spE N K f t (k : Int) (k' : Int) = 0 := by
    unfold spE
    rw [if_pos (nm_ok0 ht (List.getElem?_eq_some_iff.1 hu).1), nm_ok0 ht (List.getElem?_eq_some_iff.1 hu').1]
  refine (psp w p mb N K f t (k : Int) (k' : Int) ⟨h1.at_⟩).mono ?_
  rintro e w' ⟨er, K', h4, h5, h6, h7, h8⟩
  rw [hs] at h5
  subst h5
  obtain ⟨q, r, hq2, hr2, hK⟩ := h8 rfl
  rw [Int.toNat_natCast, hu] at hq2
  rw [Int.toNat_natCast, hu'] at hr2
  obtain rfl := Option.some.inj hq2
  obtain rfl := Option.some.inj hr2
  refine ⟨h4, K', h1.next h6, ?_, PmL.keeps h6 h3⟩
  rw [hK, put_bs h1 ht, ← h2]
  simp only [Lk.bs, Int.toNat_natCast, List.map_set]
theorem ls_take {b : List Int} {qe : Addr} (h : LS w0 w p mb N f t (b :: M) O) (ht : thr N f t = true) (hE : ErrI w0 qe) : Calls Tryd.prog 16 #[.pointer (some ⟨p, 0, none⟩), .int .i64 f, .int .i64 t] w fun e w' => ∃ v, e = .returned (.tuple #[v, .nilIface]) ∧ LS w0 w' p mb N f t M ((v, b) :: O) := by
  obtain ⟨K, h1, h2, h3⟩ := h.ex
  have hl := (LS.fst h1 ht h2).1
  have hk := tk_some ht (by rw [hl]; simp : ¬ (lkOf K f t).R.length = 0)
  refine (ltake f t h1 hE).mono ?_
  rintro e w' ⟨v, ev, K', h4, h5, h6, h7, h8, h9⟩
  rw [hk] at h5
  obtain ⟨b', R, u, hR, hK, hO, hd⟩ := h9 hk
  have hb : b' :: R.map (·.2) = b :: M := by rw [← h2]; unfold Lk.bs; rw [hR]; rfl
  injection hb with e1 e2
  subst e1 e2
  have h5' : ev = .nilIface := h5
  subst h5'
  refine ⟨v, h4, K', h6, by rw [hK, put_bs h1 ht]; rfl, fun q hq => ?_⟩
  rcases List.mem_cons.1 hq with rfl | hq
  · exact ⟨hO, fun k hk => ⟨(hd k hk).2, h1.fr k (hd k hk).1⟩⟩
  · exact PmL.keeps h7 h3 q hq
theorem ls_idle {qe : Addr} (h : LS w0 w p mb N f t [] O) (ht : thr N f t = true) (hE : ErrI w0 qe) : Calls Tryd.prog 16 #[.pointer (some ⟨p, 0, none⟩), .int .i64 f, .int .i64 t] w fun e w' => e = .returned (.tuple #[.slice none 0 0, (.iface 105 (.pointer (some qe)))]) ∧ LS w0 w' p mb N f t [] O := by
  obtain ⟨K, h1, h2, h3⟩ := h.ex
  have hl := (LS.fst h1 ht h2).1
  have hk := tk_none ht (by rw [hl]; rfl : (lkOf K f t).R.length = 0)
  refine (ltake f t h1 hE).mono ?_
  rintro e w' ⟨v, ev, K', h4, h5, h6, h7, h8, h9⟩
  rw [hk] at h5
  obtain ⟨rfl, rfl⟩ := h8 (by rw [hk]; decide)
  have h5' : ev = (.iface 105 (.pointer (some qe))) := h5
  subst h5'
  exact ⟨h4, _, h6, h2, PmL.keeps h7 h3⟩
theorem ls_len (h : LS w0 w p mb N f t M O) (ht : thr N f t = true) : Calls Tryd.prog 18 #[.pointer (some ⟨p, 0, none⟩), .int .i64 f, .int .i64 t] w fun e w' => e = .returned (.int .i64 (M.length : Int)) ∧ LS w0 w' p mb N f t M O := by
  obtain ⟨K, h1, h2, h3⟩ := h.ex
  have hl := (LS.fst h1 ht h2).1
  obtain ⟨a, c, hv⟩ := (h1.at_.link ht).2.sl
  refine (pln w p mb N K f t a (lkOf K f t).R.length c ⟨by rw [if_pos ht, hv]⟩ ⟨h1.at_⟩).mono ?_
  rintro e w' ⟨h4, h5⟩
  exact ⟨by rw [h4, hl], K, h1.next h5, h2, PmL.keeps h5 h3⟩
theorem ls_other {K' : List Lk} {f' t' : Int} {w' : World} {K : List Lk} (h1 : PmL w0 w p mb N K) (h2 : (lkOf K f t).bs = M) (h3 : ∀ q ∈ O, Own w q.1 q.2 ∧ ∀ k, q.1.ownBlock = some k → ¬ PmS p mb K k ∧ w0.heap.size ≤ k) (ht : thr N f t = true) (ht' : thr N f' t' = true) (hne : (f, t) ≠ (f', t')) (n : PmN w p mb N K K' 0 w') (hK : K' = K ∨ ∃ a, K' = K.set (ix f' t') a) : LS w0 w' p mb N f t M O := by
  refine ⟨K', h1.next n, ?_, PmL.keeps n h3⟩
  rcases hK with rfl | ⟨a, rfl⟩
  · exact h2
  · rw [lkOf_oth h1.at_.nb.2 h1.at_.len ht' ht hne, h2]
theorem ls_send_other (h : LS w0 w p mb N f t M O) (ht : thr N f t = true) (f' t' : Int) (ht' : thr N f' t' = true) (hne : (f, t) ≠ (f', t')) {vb : Value} {b : List Int} (hb : RowAt w vb b) (hB : Byts b) (hd : b ≠ [] → ∀ k, vb.ownBlock = some k → k < w0.heap.size) : Calls Tryd.prog 15 #[.pointer (some ⟨p, 0, none⟩), .int .i64 f', .int .i64 t', vb] w fun e w' => ∃ er, e = .returned (.int .i64 er) ∧ LS w0 w' p mb N f t M O := by
  obtain ⟨K, h1, h2, h3⟩ := h.ex
  refine (lsend f' t' h1 hb hB fun he k hk e => by have := hd he k hk; have := h1.fr k e; omega).mono ?_
  rintro e w' ⟨er, K', h4, h5, h6, h7, h8, h9⟩
  refine ⟨er, h4, ls_other h1 h2 h3 ht ht' hne h7 ?_⟩
  by_cases e0 : er = 0
  · obtain ⟨u, v, h⟩ := h9 e0
    exact .inr ⟨_, h⟩
  · exact .inl (h8 e0)
theorem ls_take_other {qe : Addr} (h : LS w0 w p mb N f t M O) (ht : thr N f t = true) (f' t' : Int) (ht' : thr N f' t' = true) (hne : (f, t) ≠ (f', t')) (hE : ErrI w0 qe) : Calls Tryd.prog 16 #[.pointer (some ⟨p, 0, none⟩), .int .i64 f', .int .i64 t'] w fun e w' => ∃ v ev, e = .returned (.tuple #[v, ev]) ∧ LS w0 w' p mb N f t M O := by
  obtain ⟨K, h1, h2, h3⟩ := h.ex
  refine (ltake f' t' h1 hE).mono ?_
  rintro e w' ⟨v, ev, K', h4, h5, h6, h7, h8, h9⟩
  refine ⟨v, ev, h4, ls_other h1 h2 h3 ht ht' hne h7 ?_⟩
  by_cases e0 : tkE N K f' t' = 0
  · obtain ⟨b, R, u, _, h, _⟩ := h9 e0
    exact .inr ⟨_, h⟩
  · exact .inl (h8 e0).1
theorem ls_new (hb : Below w0.heap.size w0 w) (hN : 1 ≤ N ∧ N ≤ 8) (f t : Int) (ht : thr N f t = true) : Calls Tryd.prog 8 #[.int .i64 (N : Int)] w fun e w' => ∃ p mb, e = .returned (.tuple #[.pointer (some ⟨p, 0, none⟩), .int .i64 0]) ∧ LS w0 w' p mb N f t [] [] := by
  refine (pnw_ok w N hN).mono ?_
  rintro e w' ⟨p, mb, h1, h2, h3, h4⟩
  exact ⟨p, mb, h1, K0, PmL.new hb h2 h3 h4, by unfold Lk.bs; rw [K0_R hN.2 ht]; rfl, fun q hq => by simp at hq⟩
end
theorem xor_twice (a c : Int) (ha : 0 ≤ a ∧ a < 256) (hc : 0 ≤ c ∧ c < 256) : xor8 (xor8 a c) c = a := by
  have h := xor_rng a c ha hc
  unfold xor8 at h ⊢
  rw [u8_xor _ c h.1 h.2 hc.1 hc.2]
  rw [u8_xor a c ha.1 ha.2 hc.1 hc.2]
  rw [Int.toNat_natCast, Nat.xor_assoc, Nat.xor_self, Nat.xor_zero]
  omega
theorem flp_len (b : List Int) (m c : Int) : (flp b m c).length = b.length := by
  unfold flp
  split
  · rfl
  · rw [List.length_set]
theorem flp_twice (b : List Int) (m c : Int) (hb : Byts b) (hc : 0 ≤ c ∧ c < 256) : flp (flp b m c) m c = b := by
  by_cases e : c = 0 ∨ b.length = 0
  · have h : flp b m c = b := by unfold flp; rw [if_pos e]
    rw [h, h]
  · have h : flp b m c = b.set (rnd m b.length) (xor8 (b.getD (rnd m b.length) 0) c) := by unfold flp; rw [if_neg e]
    have hr := rnd_lt m (show 1 ≤ b.length by omega)
    rw [h]
    unfold flp
    rw [List.length_set, if_neg e, List.set_set]
    have hg : (b.set (rnd m b.length) (xor8 (b.getD (rnd m b.length) 0) c)).getD (rnd m b.length) 0 = xor8 (b.getD (rnd m b.length) 0) c := by
      rw [List.getD_eq_getElem?_getD, List.getElem?_set_self hr]; rfl
    rw [hg, xor_twice _ _ (hb.getD _) hc]
    have hq : b[rnd m b.length]? = some (b.getD (rnd m b.length) 0) := by
      rw [List.getD_eq_getElem?_getD, List.getElem?_eq_getElem hr]; rfl
    exact set_self_ hq
theorem clp_take (b : List Int) (m : Int) : clp b m = b.take (clp b m).length ∧ (clp b m).length ≤ b.length ∧ (b.length ≠ 0 → (clp b m).length < b.length) := by
  unfold clp
  by_cases e : b.length = 0
  · rw [if_pos e]; exact ⟨by simp, Nat.le_refl _, fun h => absurd e h⟩
  · rw [if_neg e]
    have hr := rnd_lt m (show 1 ≤ b.length by omega)
    rw [List.length_take]
    refine ⟨?_, by omega, fun _ => by omega⟩
    rw [Nat.min_eq_left (by omega)]

abbrev noS : Value := .slice none 0 0
def RwsAt (w : World) (v : Value) (ls : List (List Int)) : Prop :=
  ∃ V : Nat → Value, ((∃ a c, v = .slice a 0 c ∧ ls = []) ∨ ∃ q o cap, v = .slice (some ⟨q, o, none⟩) ls.length cap ∧ ls.length ≤ cap ∧ ∀ i, i < ls.length → w.cell? ⟨q, o + i, none⟩ = some (V i)) ∧ ∀ i, i < ls.length → RowAt w (V i) (ls.getD i [])
theorem RwsAt.form {w : World} {v : Value} {ls : List (List Int)} (h : RwsAt w v ls) : ∃ a c, v = .slice a ls.length c := by
  obtain ⟨V, ⟨a, c, rfl, rfl⟩ | ⟨q, o, cap, rfl, _⟩, _⟩ := h
  · exact ⟨_, _, rfl⟩
  · exact ⟨_, _, rfl⟩
theorem RwsAt.nil (w : World) : RwsAt w noS [] := ⟨fun _ => noS, .inl ⟨_, _, rfl, rfl⟩, fun i hi => by simp at hi⟩
theorem RwsAt.below {w w' : World} {v : Value} {ls : List (List Int)} (h : RwsAt w v ls) (hb : Below w.heap.size w w') : RwsAt w' v ls := by
  obtain ⟨V, h1, h2⟩ := h
  refine ⟨V, ?_, fun i hi => (h2 i hi).below hb⟩
  rcases h1 with h1 | ⟨q, o, cap, h1, h3, h4⟩
  · exact .inl h1
  · exact .inr ⟨q, o, cap, h1, h3, fun i hi => by rw [hb.cell (p := ⟨q, o + i, none⟩) (cell_lt (h4 i hi))]; exact h4 i hi⟩
theorem RwsAt.at {w : World} {a : Option Addr} {n c : Nat} {ls : List (List Int)} (h : RwsAt w (.slice a n c) ls) (t : Nat) (ht : t < ls.length) : ∃ q o pa pc, a = some ⟨q, o, none⟩ ∧ n = ls.length ∧ w.cell? ⟨q, o + t, none⟩ = some (.slice pa (ls.getD t []).length pc) ∧ RowAt w (.slice pa (ls.getD t []).length pc) (ls.getD t []) := by
  obtain ⟨V, ⟨a', c', h1, rfl⟩ | ⟨q, o, cap, h1, _, h4⟩, h2⟩ := h
  · simp at ht
  · injection h1 with h1 h3 h5
    subst h1 h3
    obtain ⟨pa, pc, hv⟩ := row_form (h2 t ht)
    exact ⟨q, o, pa, pc, rfl, rfl, by rw [h4 t ht, hv], by rw [← hv]; exact h2 t ht⟩
def BolsAt (w : World) (v : Value) (l : List Bool) : Prop :=
  (∃ a c, v = .slice a 0 c ∧ l = []) ∨ ∃ q o c, v = .slice (some ⟨q, o, none⟩) l.length c ∧ ∀ i x, l[i]? = some x → w.cell? ⟨q, o + i, none⟩ = some (.bool x)
theorem BolsAt.form {w : World} {v : Value} {l : List Bool} (h : BolsAt w v l) : ∃ a c, v = .slice a l.length c := by
  rcases h with ⟨a, c, rfl, rfl⟩ | ⟨q, o, c, rfl, _⟩
  · exact ⟨_, _, rfl⟩
  · exact ⟨_, _, rfl⟩
theorem BolsAt.at {w w' : World} {a : Option Addr} {n c : Nat} {l : List Bool} (h : BolsAt w (.slice a n c) l) (hb : Below w.heap.size w w') {i : Nat} {x : Bool} (hx : l[i]? = some x) : ∃ q o, a = some ⟨q, o, none⟩ ∧ w'.cell? ⟨q, o + i, none⟩ = some (.bool x) := by
  rcases h with ⟨a', c', e, rfl⟩ | ⟨q, o, c', e, h2⟩
  · simp at hx
  · injection e with e1 e2 e3
    exact ⟨q, o, e1, by have h3 := h2 i x hx; rw [hb.cell (p := ⟨q, o + i, none⟩) (cell_lt h3)]; exact h3⟩

theorem Tryd.in6 (w : World) (vs : Array Value) : (callFunc 6 vs).run Tryd.prog w = .ok (.enter 6 vs) w := by kernel_rfl
theorem ne_nn (w : World) : (binOp .neq 24 .nilIface .nilIface).run Tryd.prog w = .ok (.bool false) w := by kernel_rfl
set_option maxRecDepth 8000 in
set_option maxHeartbeats 1000000 in
theorem spo_L11 (w : World) (qe : Addr) (HE : Keep (ErrI w qe)) (ba oa : Option Addr) (bn bc on oc : Nat) (b o : List Int) (place by_ m : Int) (HB : Keep (RowAt w (.slice ba bn bc) b)) (HO : Keep (RowAt w (.slice oa on oc) o)) (Hbn : Keep (b.length = bn)) (Hon : Keep (o.length = on)) (HBy : Keep (Byts b)) (HOy : Keep (Byts o)) (Hby : Keep (0 ≤ by_ ∧ by_ < 256)) (HD : Keep (b ≠ [] → ∀ k, (Value.slice ba bn bc).ownBlock = some k → k < w.heap.size)) (HDo : Keep (o ≠ [] → ∀ k, (Value.slice oa on oc).ownBlock = some k → k < w.heap.size)) (hb9 : 2097194 < bn) (ho9 : 2097194 < on) : Calls Tryd.prog 6 #[.slice ba bn bc, .slice oa on oc, .int .i64 place, .int .u8 by_, .int .i64 m] w fun e w' => e = .returned (.bool true) ∧ Below w.heap.size w w' := by
  have hb9' : (bn : Int) > 2097194 := by omega
  have hb9'' : 2097194 < (bn : Int) := by omega
  have ho9' : (on : Int) > 2097194 := by omega
  have ho9'' : 2097194 < (on : Int) := by omega
  go_enter Tryd.func6, Tryd.ntmps6
  refine wp_seq_k fun K1 hK1 => ?_
  refine wp_region_list (WL.out ?_)
  refine WL.val (by kernel_rfl) (.bool false) (by go_simp) ?_
  simp only [Act.put, List.setIfInBounds_toArray, List.set_cons_zero, List.set_cons_succ]
  refine WL.nil ?_
  refine hK1 _ _ ?_
  refine wp_seq_k fun K2 hK2 => ?_
  refine wp_region_list (WL.out ?_)
  refine WL.callF (by kernel_rfl) 7 _ _ rfl Tryd.in7 #[] (by simp) ?_
  refine (fixed_any w qe HE).mono ?_
  rintro e w1 ⟨rfl, hb⟩
  refine ⟨_, rfl, ?_⟩
  have B1 := Keep.mk hb
  clear hb
  simp only [Act.put, List.setIfInBounds_toArray, List.set_cons_zero, List.set_cons_succ]
  refine WL.val (by kernel_rfl) (.bool true) (by go_simp) ?_
  simp only [Act.put, List.setIfInBounds_toArray, List.set_cons_zero, List.set_cons_succ]
  refine WL.nil ?_
  refine hK2 _ _ ?_
  refine wp_seq_k fun K3 hK3 => ?_
  refine wp_region_list (WL.out ?_)
  refine WL.callF (by kernel_rfl) 8 _ _ rfl Tryd.in8 #[.int .i64 2] (by simp [Act.eval]) ?_
  refine (ls_new B1.out (N := 2) (by decide) 1 2 (by decide)).mono ?_
  rintro e w2 ⟨p, mb, rfl, hL⟩
  refine ⟨_, rfl, ?_⟩
  have L2 := Keep.mk hL
  clear hL B1
  simp only [Act.put, List.setIfInBounds_toArray, List.set_cons_zero, List.set_cons_succ]
  refine WL.val (by kernel_rfl) (.tuple #[.pointer (some ⟨p, 0, none⟩), .int .i64 0]) (by go_simp) ?_
  simp only [Act.put, List.setIfInBounds_toArray, List.set_cons_zero, List.set_cons_succ]
  refine WL.val (by kernel_rfl) (.pointer (some ⟨p, 0, none⟩)) (by go_simp) ?_
  simp only [Act.put, List.setIfInBounds_toArray, List.set_cons_zero, List.set_cons_succ]
  refine WL.val (by kernel_rfl) (.int .i64 0) (by go_simp) ?_
  simp only [Act.put, List.setIfInBounds_toArray, List.set_cons_zero, List.set_cons_succ]
  refine WL.val (by kernel_rfl) (.pointer (some ⟨p, 0, none⟩)) (by go_simp) ?_
  simp only [Act.put, List.setIfInBounds_toArray, List.set_cons_zero, List.set_cons_succ]
  refine WL.val (by kernel_rfl) (.int .i64 0) (by go_simp) ?_
  simp only [Act.put, List.setIfInBounds_toArray, List.set_cons_zero, List.set_cons_succ]
  refine WL.nil ?_
  refine hK3 _ _ ?_
  refine wp_seq_k fun K4 hK4 => ?_
  refine wp_seq_k fun K5 hK5 => ?_
  refine wp_region_list (WL.out ?_)
  refine WL.val (by kernel_rfl) (.bool true) (by go_simp) ?_
  simp only [Act.put, List.setIfInBounds_toArray, List.set_cons_zero, List.set_cons_succ]
  refine WL.val (by kernel_rfl) (.bool false) (by go_simp) ?_
  simp only [Act.put, List.setIfInBounds_toArray, List.set_cons_zero, List.set_cons_succ]
  refine WL.val (by kernel_rfl) (.bool false) (by go_simp) ?_
  simp only [Act.put, List.setIfInBounds_toArray, List.set_cons_zero, List.set_cons_succ]
  refine WL.val (by kernel_rfl) (.pointer (some ⟨p, 0, none⟩)) (by go_simp) ?_
  simp only [Act.put, List.setIfInBounds_toArray, List.set_cons_zero, List.set_cons_succ]
  refine WL.val (by kernel_rfl) (.bool false) (by go_simp) ?_
  simp only [Act.put, List.setIfInBounds_toArray, List.set_cons_zero, List.set_cons_succ]
  refine WL.val (by kernel_rfl) (.bool false) (by go_simp) ?_
  simp only [Act.put, List.setIfInBounds_toArray, List.set_cons_zero, List.set_cons_succ]
  refine WL.val (by kernel_rfl) (.bool false) (by go_simp) ?_
  simp only [Act.put, List.setIfInBounds_toArray, List.set_cons_zero, List.set_cons_succ]
  refine WL.val (by kernel_rfl) (.int .i64 0) (by go_simp) ?_
  simp only [Act.put, List.setIfInBounds_toArray, List.set_cons_zero, List.set_cons_succ]
  refine WL.val (by kernel_rfl) (.bool false) (by go_simp) ?_
  simp only [Act.put, List.setIfInBounds_toArray, List.set_cons_zero, List.set_cons_succ]
  refine WL.val (by kernel_rfl) (.bool false) (by go_simp) ?_
  simp only [Act.put, List.setIfInBounds_toArray, List.set_cons_zero, List.set_cons_succ]
  refine WL.nil ?_
  refine hK5 _ _ ?_
  refine wp_cond_false rfl ?_
  refine wp_skip ?_
  refine hK4 _ _ ?_
  refine wp_seq_k fun K6 hK6 => ?_
  refine wp_seq_k fun K7 hK7 => ?_
  refine wp_region_list (WL.out ?_)
  refine WL.val (by kernel_rfl) (.slice ba bn bc) (by go_simp) ?_
  simp only [Act.put, List.setIfInBounds_toArray, List.set_cons_zero, List.set_cons_succ]
  refine WL.val (by kernel_rfl) (.int .i64 (bn : Int)) (by go_simp) ?_
  simp only [Act.put, List.setIfInBounds_toArray, List.set_cons_zero, List.set_cons_succ]
  refine WL.val (by kernel_rfl) (.bool true) (by go_simp) ?_
  simp only [Act.put, List.setIfInBounds_toArray, List.set_cons_zero, List.set_cons_succ]
  refine WL.val (by kernel_rfl) (.bool true) (by go_simp) ?_
  simp only [Act.put, List.setIfInBounds_toArray, List.set_cons_zero, List.set_cons_succ]
  refine WL.skip (by kernel_rfl) ?_
  simp only [Act.put, List.setIfInBounds_toArray, List.set_cons_zero, List.set_cons_succ]
  refine WL.skip (by kernel_rfl) ?_
  simp only [Act.put, List.setIfInBounds_toArray, List.set_cons_zero, List.set_cons_succ]
  refine WL.skip (by kernel_rfl) ?_
  simp only [Act.put, List.setIfInBounds_toArray, List.set_cons_zero, List.set_cons_succ]
  refine WL.val (by kernel_rfl) (.bool true) (by go_simp) ?_
  simp only [Act.put, List.setIfInBounds_toArray, List.set_cons_zero, List.set_cons_succ]
  refine WL.nil ?_
  refine hK7 _ _ ?_
  refine wp_cond_true rfl ?_
  refine wp_seq_k fun K8 hK8 => ?_
  refine wp_region_list (WL.out ?_)
  refine WL.val (by kernel_rfl) (.pointer (some ⟨p, 0, none⟩)) (by go_simp) ?_
  simp only [Act.put, List.setIfInBounds_toArray, List.set_cons_zero, List.set_cons_succ]
  refine WL.val (by kernel_rfl) (.slice ba bn bc) (by go_simp) ?_
  simp only [Act.put, List.setIfInBounds_toArray, List.set_cons_zero, List.set_cons_succ]
  refine WL.callF (by kernel_rfl) 15 _ _ rfl Tryd.in15 #[.pointer (some ⟨p, 0, none⟩), .int .i64 1, .int .i64 2, .slice ba bn bc] (by simp [Act.eval]) ?_
  refine (ls_send L2.out (by decide) (HB.out.below L2.out.bel) HBy.out HD.out).mono ?_
  rintro e w3 ⟨er, rfl, her, hL⟩
  refine ⟨_, rfl, ?_⟩
  have hs : sdE [] b = 4 := by unfold sdE; rw [if_pos (by have := Hbn.out; omega)]
  rw [hs] at her hL
  subst her
  rw [if_neg (by decide)] at hL
  have L3 := Keep.mk hL
  clear hL L2 hs
  simp only [Act.put, List.setIfInBounds_toArray, List.set_cons_zero, List.set_cons_succ]
  refine WL.val (by kernel_rfl) (.int .i64 4) (by go_simp) ?_
  simp only [Act.put, List.setIfInBounds_toArray, List.set_cons_zero, List.set_cons_succ]
  refine WL.nil ?_
  refine hK8 _ _ ?_
  refine wp_seq_k fun K9 hK9 => ?_
  refine wp_region_list (WL.out ?_)
  refine WL.val (by kernel_rfl) (.pointer (some ⟨p, 0, none⟩)) (by go_simp) ?_
  simp only [Act.put, List.setIfInBounds_toArray, List.set_cons_zero, List.set_cons_succ]
  refine WL.val (by kernel_rfl) (.slice oa on oc) (by go_simp) ?_
  simp only [Act.put, List.setIfInBounds_toArray, List.set_cons_zero, List.set_cons_succ]
  refine WL.callF (by kernel_rfl) 15 _ _ rfl Tryd.in15 #[.pointer (some ⟨p, 0, none⟩), .int .i64 1, .int .i64 2, .slice oa on oc] (by simp [Act.eval]) ?_
  refine (ls_send L3.out (by decide) (HO.out.below L3.out.bel) HOy.out HDo.out).mono ?_
  rintro e w4 ⟨er, rfl, her, hL⟩
  refine ⟨_, rfl, ?_⟩
  have hs : sdE [] o = 4 := by unfold sdE; rw [if_pos (by have := Hon.out; omega)]
  rw [hs] at her
  subst her
  have L4 := Keep.mk hL
  clear hL L3 hs
  simp only [Act.put, List.setIfInBounds_toArray, List.set_cons_zero, List.set_cons_succ]
  refine WL.val (by kernel_rfl) (.int .i64 4) (by go_simp) ?_
  simp only [Act.put, List.setIfInBounds_toArray, List.set_cons_zero, List.set_cons_succ]
  refine WL.nil ?_
  refine hK9 _ _ ?_
  refine wp_seq_k fun K10 hK10 => ?_
  refine wp_region_list (WL.out ?_)
  refine WL.val (by kernel_rfl) (.int .i64 4) (by go_simp) ?_
  simp only [Act.put, List.setIfInBounds_toArray, List.set_cons_zero, List.set_cons_succ]
  refine WL.val (by kernel_rfl) (.bool true) (by go_simp) ?_
  simp only [Act.put, List.setIfInBounds_toArray, List.set_cons_zero, List.set_cons_succ]
  refine WL.val (by kernel_rfl) (.slice ba bn bc) (by go_simp) ?_
  simp only [Act.put, List.setIfInBounds_toArray, List.set_cons_zero, List.set_cons_succ]
  refine WL.val (by kernel_rfl) (.int .i64 (bn : Int)) (by go_simp) ?_
  simp only [Act.put, List.setIfInBounds_toArray, List.set_cons_zero, List.set_cons_succ]
  refine WL.val (by kernel_rfl) (.bool true) (by go_simp) ?_
  simp only [Act.put, List.setIfInBounds_toArray, List.set_cons_zero, List.set_cons_succ]
  refine WL.val (by kernel_rfl) (.bool true) (by go_simp) ?_
  simp only [Act.put, List.setIfInBounds_toArray, List.set_cons_zero, List.set_cons_succ]
  refine WL.val (by kernel_rfl) (.bool true) (by go_simp) ?_
  simp only [Act.put, List.setIfInBounds_toArray, List.set_cons_zero, List.set_cons_succ]
  refine WL.val (by kernel_rfl) (.int .i64 4) (by go_simp) ?_
  simp only [Act.put, List.setIfInBounds_toArray, List.set_cons_zero, List.set_cons_succ]
  refine WL.val (by kernel_rfl) (.bool true) (by go_simp) ?_
  simp only [Act.put, List.setIfInBounds_toArray, List.set_cons_zero, List.set_cons_succ]
  refine WL.val (by kernel_rfl) (.slice oa on oc) (by go_simp) ?_
  simp only [Act.put, List.setIfInBounds_toArray, List.set_cons_zero, List.set_cons_succ]
  refine WL.val (by kernel_rfl) (.int .i64 (on : Int)) (by go_simp) ?_
  simp only [Act.put, List.setIfInBounds_toArray, List.set_cons_zero, List.set_cons_succ]
  refine WL.val (by kernel_rfl) (.bool true) (by go_simp) ?_
  simp only [Act.put, List.setIfInBounds_toArray, List.set_cons_zero, List.set_cons_succ]
  refine WL.val (by kernel_rfl) (.bool true) (by go_simp) ?_
  simp only [Act.put, List.setIfInBounds_toArray, List.set_cons_zero, List.set_cons_succ]
  refine WL.val (by kernel_rfl) (.bool true) (by go_simp) ?_
  simp only [Act.put, List.setIfInBounds_toArray, List.set_cons_zero, List.set_cons_succ]
  refine WL.val (by kernel_rfl) (.bool true) (by go_simp) ?_
  simp only [Act.put, List.setIfInBounds_toArray, List.set_cons_zero, List.set_cons_succ]
  refine WL.nil ?_
  refine hK10 _ _ ?_
  refine wp_ret ?_
  go_ret
  exact ⟨rfl, L4.out.bel⟩
set_option maxRecDepth 8000 in
set_option maxHeartbeats 1000000 in
theorem spo_L10 (w : World) (qe : Addr) (HE : Keep (ErrI w qe)) (ba oa : Option Addr) (bn bc on oc : Nat) (b o : List Int) (place by_ m : Int) (HB : Keep (RowAt w (.slice ba bn bc) b)) (HO : Keep (RowAt w (.slice oa on oc) o)) (Hbn : Keep (b.length = bn)) (Hon : Keep (o.length = on)) (HBy : Keep (Byts b)) (HOy : Keep (Byts o)) (Hby : Keep (0 ≤ by_ ∧ by_ < 256)) (HD : Keep (b ≠ [] → ∀ k, (Value.slice ba bn bc).ownBlock = some k → k < w.heap.size)) (HDo : Keep (o ≠ [] → ∀ k, (Value.slice oa on oc).ownBlock = some k → k < w.heap.size)) (hb9 : 2097194 < bn) (ho9 : ¬ 2097194 < on) : Calls Tryd.prog 6 #[.slice ba bn bc, .slice oa on oc, .int .i64 place, .int .u8 by_, .int .i64 m] w fun e w' => e = .returned (.bool true) ∧ Below w.heap.size w w' := by
  have hb9' : (bn : Int) > 2097194 := by omega
  have hb9'' : 2097194 < (bn : Int) := by omega
  have ho9' : ¬ (on : Int) > 2097194 := by omega
  have ho9'' : ¬ 2097194 < (on : Int) := by omega
  go_enter Tryd.func6, Tryd.ntmps6
  refine wp_seq_k fun K1 hK1 => ?_
  refine wp_region_list (WL.out ?_)
  refine WL.val (by kernel_rfl) (.bool false) (by go_simp) ?_
  simp only [Act.put, List.setIfInBounds_toArray, List.set_cons_zero, List.set_cons_succ]
  refine WL.nil ?_
  refine hK1 _ _ ?_
  refine wp_seq_k fun K2 hK2 => ?_
  refine wp_region_list (WL.out ?_)
  refine WL.callF (by kernel_rfl) 7 _ _ rfl Tryd.in7 #[] (by simp) ?_
  refine (fixed_any w qe HE).mono ?_
  rintro e w1 ⟨rfl, hb⟩
  refine ⟨_, rfl, ?_⟩
  have B1 := Keep.mk hb
  clear hb
  simp only [Act.put, List.setIfInBounds_toArray, List.set_cons_zero, List.set_cons_succ]
  refine WL.val (by kernel_rfl) (.bool true) (by go_simp) ?_
  simp only [Act.put, List.setIfInBounds_toArray, List.set_cons_zero, List.set_cons_succ]
  refine WL.nil ?_
  refine hK2 _ _ ?_
  refine wp_seq_k fun K3 hK3 => ?_
  refine wp_region_list (WL.out ?_)
  refine WL.callF (by kernel_rfl) 8 _ _ rfl Tryd.in8 #[.int .i64 2] (by simp [Act.eval]) ?_
  refine (ls_new B1.out (N := 2) (by decide) 1 2 (by decide)).mono ?_
  rintro e w2 ⟨p, mb, rfl, hL⟩
  refine ⟨_, rfl, ?_⟩
  have L2 := Keep.mk hL
  clear hL B1
  simp only [Act.put, List.setIfInBounds_toArray, List.set_cons_zero, List.set_cons_succ]
  refine WL.val (by kernel_rfl) (.tuple #[.pointer (some ⟨p, 0, none⟩), .int .i64 0]) (by go_simp) ?_
  simp only [Act.put, List.setIfInBounds_toArray, List.set_cons_zero, List.set_cons_succ]
  refine WL.val (by kernel_rfl) (.pointer (some ⟨p, 0, none⟩)) (by go_simp) ?_
  simp only [Act.put, List.setIfInBounds_toArray, List.set_cons_zero, List.set_cons_succ]
  refine WL.val (by kernel_rfl) (.int .i64 0) (by go_simp) ?_
  simp only [Act.put, List.setIfInBounds_toArray, List.set_cons_zero, List.set_cons_succ]
  refine WL.val (by kernel_rfl) (.pointer (some ⟨p, 0, none⟩)) (by go_simp) ?_
  simp only [Act.put, List.setIfInBounds_toArray, List.set_cons_zero, List.set_cons_succ]
  refine WL.val (by kernel_rfl) (.int .i64 0) (by go_simp) ?_
  simp only [Act.put, List.setIfInBounds_toArray, List.set_cons_zero, List.set_cons_succ]
  refine WL.nil ?_
  refine hK3 _ _ ?_
  refine wp_seq_k fun K4 hK4 => ?_
  refine wp_seq_k fun K5 hK5 => ?_
  refine wp_region_list (WL.out ?_)
  refine WL.val (by kernel_rfl) (.bool true) (by go_simp) ?_
  simp only [Act.put, List.setIfInBounds_toArray, List.set_cons_zero, List.set_cons_succ]
  refine WL.val (by kernel_rfl) (.bool false) (by go_simp) ?_
  simp only [Act.put, List.setIfInBounds_toArray, List.set_cons_zero, List.set_cons_succ]
  refine WL.val (by kernel_rfl) (.bool false) (by go_simp) ?_
  simp only [Act.put, List.setIfInBounds_toArray, List.set_cons_zero, List.set_cons_succ]
  refine WL.val (by kernel_rfl) (.pointer (some ⟨p, 0, none⟩)) (by go_simp) ?_
  simp only [Act.put, List.setIfInBounds_toArray, List.set_cons_zero, List.set_cons_succ]
  refine WL.val (by kernel_rfl) (.bool false) (by go_simp) ?_
  simp only [Act.put, List.setIfInBounds_toArray, List.set_cons_zero, List.set_cons_succ]
  refine WL.val (by kernel_rfl) (.bool false) (by go_simp) ?_
  simp only [Act.put, List.setIfInBounds_toArray, List.set_cons_zero, List.set_cons_succ]
  refine WL.val (by kernel_rfl) (.bool false) (by go_simp) ?_
  simp only [Act.put, List.setIfInBounds_toArray, List.set_cons_zero, List.set_cons_succ]
  refine WL.val (by kernel_rfl) (.int .i64 0) (by go_simp) ?_
  simp only [Act.put, List.setIfInBounds_toArray, List.set_cons_zero, List.set_cons_succ]
  refine WL.val (by kernel_rfl) (.bool false) (by go_simp) ?_
  simp only [Act.put, List.setIfInBounds_toArray, List.set_cons_zero, List.set_cons_succ]
  refine WL.val (by kernel_rfl) (.bool false) (by go_simp) ?_
  simp only [Act.put, List.setIfInBounds_toArray, List.set_cons_zero, List.set_cons_succ]
  refine WL.nil ?_
  refine hK5 _ _ ?_
  refine wp_cond_false rfl ?_
  refine wp_skip ?_
  refine hK4 _ _ ?_
  refine wp_seq_k fun K6 hK6 => ?_
  refine wp_seq_k fun K7 hK7 => ?_
  refine wp_region_list (WL.out ?_)
  refine WL.val (by kernel_rfl) (.slice ba bn bc) (by go_simp) ?_
  simp only [Act.put, List.setIfInBounds_toArray, List.set_cons_zero, List.set_cons_succ]
  refine WL.val (by kernel_rfl) (.int .i64 (bn : Int)) (by go_simp) ?_
  simp only [Act.put, List.setIfInBounds_toArray, List.set_cons_zero, List.set_cons_succ]
  refine WL.val (by kernel_rfl) (.bool true) (by go_simp) ?_
  simp only [Act.put, List.setIfInBounds_toArray, List.set_cons_zero, List.set_cons_succ]
  refine WL.val (by kernel_rfl) (.bool true) (by go_simp) ?_
  simp only [Act.put, List.setIfInBounds_toArray, List.set_cons_zero, List.set_cons_succ]
  refine WL.skip (by kernel_rfl) ?_
  simp only [Act.put, List.setIfInBounds_toArray, List.set_cons_zero, List.set_cons_succ]
  refine WL.skip (by kernel_rfl) ?_
  simp only [Act.put, List.setIfInBounds_toArray, List.set_cons_zero, List.set_cons_succ]
  refine WL.skip (by kernel_rfl) ?_
  simp only [Act.put, List.setIfInBounds_toArray, List.set_cons_zero, List.set_cons_succ]
  refine WL.val (by kernel_rfl) (.bool true) (by go_simp) ?_
  simp only [Act.put, List.setIfInBounds_toArray, List.set_cons_zero, List.set_cons_succ]
  refine WL.nil ?_
  refine hK7 _ _ ?_
  refine wp_cond_true rfl ?_
  refine wp_seq_k fun K8 hK8 => ?_
  refine wp_region_list (WL.out ?_)
  refine WL.val (by kernel_rfl) (.pointer (some ⟨p, 0, none⟩)) (by go_simp) ?_
  simp only [Act.put, List.setIfInBounds_toArray, List.set_cons_zero, List.set_cons_succ]
  refine WL.val (by kernel_rfl) (.slice ba bn bc) (by go_simp) ?_
  simp only [Act.put, List.setIfInBounds_toArray, List.set_cons_zero, List.set_cons_succ]
  refine WL.callF (by kernel_rfl) 15 _ _ rfl Tryd.in15 #[.pointer (some ⟨p, 0, none⟩), .int .i64 1, .int .i64 2, .slice ba bn bc] (by simp [Act.eval]) ?_
  refine (ls_send L2.out (by decide) (HB.out.below L2.out.bel) HBy.out HD.out).mono ?_
  rintro e w3 ⟨er, rfl, her, hL⟩
  refine ⟨_, rfl, ?_⟩
  have hs : sdE [] b = 4 := by unfold sdE; rw [if_pos (by have := Hbn.out; omega)]
  rw [hs] at her hL
  subst her
  rw [if_neg (by decide)] at hL
  have L3 := Keep.mk hL
  clear hL L2 hs
  simp only [Act.put, List.setIfInBounds_toArray, List.set_cons_zero, List.set_cons_succ]
  refine WL.val (by kernel_rfl) (.int .i64 4) (by go_simp) ?_
  simp only [Act.put, List.setIfInBounds_toArray, List.set_cons_zero, List.set_cons_succ]
  refine WL.nil ?_
  refine hK8 _ _ ?_
  refine wp_seq_k fun K9 hK9 => ?_
  refine wp_region_list (WL.out ?_)
  refine WL.val (by kernel_rfl) (.pointer (some ⟨p, 0, none⟩)) (by go_simp) ?_
  simp only [Act.put, List.setIfInBounds_toArray, List.set_cons_zero, List.set_cons_succ]
  refine WL.val (by kernel_rfl) (.slice oa on oc) (by go_simp) ?_
  simp only [Act.put, List.setIfInBounds_toArray, List.set_cons_zero, List.set_cons_succ]
  refine WL.callF (by kernel_rfl) 15 _ _ rfl Tryd.in15 #[.pointer (some ⟨p, 0, none⟩), .int .i64 1, .int .i64 2, .slice oa on oc] (by simp [Act.eval]) ?_
  refine (ls_send L3.out (by decide) (HO.out.below L3.out.bel) HOy.out HDo.out).mono ?_
  rintro e w4 ⟨er, rfl, her, hL⟩
  refine ⟨_, rfl, ?_⟩
  have hs : sdE [] o = 0 := by unfold sdE; rw [if_neg (by have := Hon.out; omega), if_neg (by simp)]
  rw [hs] at her
  subst her
  have L4 := Keep.mk hL
  clear hL L3 hs
  simp only [Act.put, List.setIfInBounds_toArray, List.set_cons_zero, List.set_cons_succ]
  refine WL.val (by kernel_rfl) (.int .i64 0) (by go_simp) ?_
  simp only [Act.put, List.setIfInBounds_toArray, List.set_cons_zero, List.set_cons_succ]
  refine WL.nil ?_
  refine hK9 _ _ ?_
  refine wp_seq_k fun K10 hK10 => ?_
  refine wp_region_list (WL.out ?_)
  refine WL.val (by kernel_rfl) (.int .i64 4) (by go_simp) ?_
  simp only [Act.put, List.setIfInBounds_toArray, List.set_cons_zero, List.set_cons_succ]
  refine WL.val (by kernel_rfl) (.bool true) (by go_simp) ?_
  simp only [Act.put, List.setIfInBounds_toArray, List.set_cons_zero, List.set_cons_succ]
  refine WL.val (by kernel_rfl) (.slice ba bn bc) (by go_simp) ?_
  simp only [Act.put, List.setIfInBounds_toArray, List.set_cons_zero, List.set_cons_succ]
  refine WL.val (by kernel_rfl) (.int .i64 (bn : Int)) (by go_simp) ?_
  simp only [Act.put, List.setIfInBounds_toArray, List.set_cons_zero, List.set_cons_succ]
  refine WL.val (by kernel_rfl) (.bool true) (by go_simp) ?_
  simp only [Act.put, List.setIfInBounds_toArray, List.set_cons_zero, List.set_cons_succ]
  refine WL.val (by kernel_rfl) (.bool true) (by go_simp) ?_
  simp only [Act.put, List.setIfInBounds_toArray, List.set_cons_zero, List.set_cons_succ]
  refine WL.val (by kernel_rfl) (.bool true) (by go_simp) ?_
  simp only [Act.put, List.setIfInBounds_toArray, List.set_cons_zero, List.set_cons_succ]
  refine WL.val (by kernel_rfl) (.int .i64 0) (by go_simp) ?_
  simp only [Act.put, List.setIfInBounds_toArray, List.set_cons_zero, List.set_cons_succ]
  refine WL.val (by kernel_rfl) (.bool false) (by go_simp) ?_
  simp only [Act.put, List.setIfInBounds_toArray, List.set_cons_zero, List.set_cons_succ]
  refine WL.val (by kernel_rfl) (.slice oa on oc) (by go_simp) ?_
  simp only [Act.put, List.setIfInBounds_toArray, List.set_cons_zero, List.set_cons_succ]
  refine WL.val (by kernel_rfl) (.int .i64 (on : Int)) (by go_simp) ?_
  simp only [Act.put, List.setIfInBounds_toArray, List.set_cons_zero, List.set_cons_succ]
  refine WL.val (by kernel_rfl) (.bool false) (by go_simp) ?_
  simp only [Act.put, List.setIfInBounds_toArray, List.set_cons_zero, List.set_cons_succ]
  refine WL.val (by kernel_rfl) (.bool true) (by go_simp) ?_
  simp only [Act.put, List.setIfInBounds_toArray, List.set_cons_zero, List.set_cons_succ]
  refine WL.val (by kernel_rfl) (.bool true) (by go_simp) ?_
  simp only [Act.put, List.setIfInBounds_toArray, List.set_cons_zero, List.set_cons_succ]
  refine WL.val (by kernel_rfl) (.bool true) (by go_simp) ?_
  simp only [Act.put, List.setIfInBounds_toArray, List.set_cons_zero, List.set_cons_succ]
  refine WL.nil ?_
  refine hK10 _ _ ?_
  refine wp_ret ?_
  go_ret
  exact ⟨rfl, L4.out.bel⟩
set_option maxRecDepth 8000 in
set_option maxHeartbeats 1000000 in
theorem spo_L01 (w : World) (qe : Addr) (HE : Keep (ErrI w qe)) (ba oa : Option Addr) (bn bc on oc : Nat) (b o : List Int) (place by_ m : Int) (HB : Keep (RowAt w (.slice ba bn bc) b)) (HO : Keep (RowAt w (.slice oa on oc) o)) (Hbn : Keep (b.length = bn)) (Hon : Keep (o.length = on)) (HBy : Keep (Byts b)) (HOy : Keep (Byts o)) (Hby : Keep (0 ≤ by_ ∧ by_ < 256)) (HD : Keep (b ≠ [] → ∀ k, (Value.slice ba bn bc).ownBlock = some k → k < w.heap.size)) (HDo : Keep (o ≠ [] → ∀ k, (Value.slice oa on oc).ownBlock = some k → k < w.heap.size)) (hb9 : ¬ 2097194 < bn) (ho9 : 2097194 < on) : Calls Tryd.prog 6 #[.slice ba bn bc, .slice oa on oc, .int .i64 place, .int .u8 by_, .int .i64 m] w fun e w' => e = .returned (.bool true) ∧ Below w.heap.size w w' := by
  have hb9' : ¬ (bn : Int) > 2097194 := by omega
  have hb9'' : ¬ 2097194 < (bn : Int) := by omega
  have ho9' : (on : Int) > 2097194 := by omega
  have ho9'' : 2097194 < (on : Int) := by omega
  go_enter Tryd.func6, Tryd.ntmps6
  refine wp_seq_k fun K1 hK1 => ?_
  refine wp_region_list (WL.out ?_)
  refine WL.val (by kernel_rfl) (.bool false) (by go_simp) ?_
  simp only [Act.put, List.setIfInBounds_toArray, List.set_cons_zero, List.set_cons_succ]
  refine WL.nil ?_
  refine hK1 _ _ ?_
  refine wp_seq_k fun K2 hK2 => ?_
  refine wp_region_list (WL.out ?_)
  refine WL.callF (by kernel_rfl) 7 _ _ rfl Tryd.in7 #[] (by simp) ?_
  refine (fixed_any w qe HE).mono ?_
  rintro e w1 ⟨rfl, hb⟩
  refine ⟨_, rfl, ?_⟩
  have B1 := Keep.mk hb
  clear hb
  simp only [Act.put, List.setIfInBounds_toArray, List.set_cons_zero, List.set_cons_succ]
  refine WL.val (by kernel_rfl) (.bool true) (by go_simp) ?_
  simp only [Act.put, List.setIfInBounds_toArray, List.set_cons_zero, List.set_cons_succ]
  refine WL.nil ?_
  refine hK2 _ _ ?_
  refine wp_seq_k fun K3 hK3 => ?_
  refine wp_region_list (WL.out ?_)
  refine WL.callF (by kernel_rfl) 8 _ _ rfl Tryd.in8 #[.int .i64 2] (by simp [Act.eval]) ?_
  refine (ls_new B1.out (N := 2) (by decide) 1 2 (by decide)).mono ?_
  rintro e w2 ⟨p, mb, rfl, hL⟩
  refine ⟨_, rfl, ?_⟩
  have L2 := Keep.mk hL
  clear hL B1
  simp only [Act.put, List.setIfInBounds_toArray, List.set_cons_zero, List.set_cons_succ]
  refine WL.val (by kernel_rfl) (.tuple #[.pointer (some ⟨p, 0, none⟩), .int .i64 0]) (by go_simp) ?_
  simp only [Act.put, List.setIfInBounds_toArray, List.set_cons_zero, List.set_cons_succ]
  refine WL.val (by kernel_rfl) (.pointer (some ⟨p, 0, none⟩)) (by go_simp) ?_
  simp only [Act.put, List.setIfInBounds_toArray, List.set_cons_zero, List.set_cons_succ]
  refine WL.val (by kernel_rfl) (.int .i64 0) (by go_simp) ?_
  simp only [Act.put, List.setIfInBounds_toArray, List.set_cons_zero, List.set_cons_succ]
  refine WL.val (by kernel_rfl) (.pointer (some ⟨p, 0, none⟩)) (by go_simp) ?_
  simp only [Act.put, List.setIfInBounds_toArray, List.set_cons_zero, List.set_cons_succ]
  refine WL.val (by kernel_rfl) (.int .i64 0) (by go_simp) ?_
  simp only [Act.put, List.setIfInBounds_toArray, List.set_cons_zero, List.set_cons_succ]
  refine WL.nil ?_
  refine hK3 _ _ ?_
  refine wp_seq_k fun K4 hK4 => ?_
  refine wp_seq_k fun K5 hK5 => ?_
  refine wp_region_list (WL.out ?_)
  refine WL.val (by kernel_rfl) (.bool true) (by go_simp) ?_
  simp only [Act.put, List.setIfInBounds_toArray, List.set_cons_zero, List.set_cons_succ]
  refine WL.val (by kernel_rfl) (.bool false) (by go_simp) ?_
  simp only [Act.put, List.setIfInBounds_toArray, List.set_cons_zero, List.set_cons_succ]
  refine WL.val (by kernel_rfl) (.bool false) (by go_simp) ?_
  simp only [Act.put, List.setIfInBounds_toArray, List.set_cons_zero, List.set_cons_succ]
  refine WL.val (by kernel_rfl) (.pointer (some ⟨p, 0, none⟩)) (by go_simp) ?_
  simp only [Act.put, List.setIfInBounds_toArray, List.set_cons_zero, List.set_cons_succ]
  refine WL.val (by kernel_rfl) (.bool false) (by go_simp) ?_
  simp only [Act.put, List.setIfInBounds_toArray, List.set_cons_zero, List.set_cons_succ]
  refine WL.val (by kernel_rfl) (.bool false) (by go_simp) ?_
  simp only [Act.put, List.setIfInBounds_toArray, List.set_cons_zero, List.set_cons_succ]
  refine WL.val (by kernel_rfl) (.bool false) (by go_simp) ?_
  simp only [Act.put, List.setIfInBounds_toArray, List.set_cons_zero, List.set_cons_succ]
  refine WL.val (by kernel_rfl) (.int .i64 0) (by go_simp) ?_
  simp only [Act.put, List.setIfInBounds_toArray, List.set_cons_zero, List.set_cons_succ]
  refine WL.val (by kernel_rfl) (.bool false) (by go_simp) ?_
  simp only [Act.put, List.setIfInBounds_toArray, List.set_cons_zero, List.set_cons_succ]
  refine WL.val (by kernel_rfl) (.bool false) (by go_simp) ?_
  simp only [Act.put, List.setIfInBounds_toArray, List.set_cons_zero, List.set_cons_succ]
  refine WL.nil ?_
  refine hK5 _ _ ?_
  refine wp_cond_false rfl ?_
  refine wp_skip ?_
  refine hK4 _ _ ?_
  refine wp_seq_k fun K6 hK6 => ?_
  refine wp_seq_k fun K7 hK7 => ?_
  refine wp_region_list (WL.out ?_)
  refine WL.val (by kernel_rfl) (.slice ba bn bc) (by go_simp) ?_
  simp only [Act.put, List.setIfInBounds_toArray, List.set_cons_zero, List.set_cons_succ]
  refine WL.val (by kernel_rfl) (.int .i64 (bn : Int)) (by go_simp) ?_
  simp only [Act.put, List.setIfInBounds_toArray, List.set_cons_zero, List.set_cons_succ]
  refine WL.val (by kernel_rfl) (.bool false) (by go_simp) ?_
  simp only [Act.put, List.setIfInBounds_toArray, List.set_cons_zero, List.set_cons_succ]
  refine WL.val (by kernel_rfl) (.bool false) (by go_simp) ?_
  simp only [Act.put, List.setIfInBounds_toArray, List.set_cons_zero, List.set_cons_succ]
  refine WL.val (by kernel_rfl) (.slice oa on oc) (by go_simp) ?_
  simp only [Act.put, List.setIfInBounds_toArray, List.set_cons_zero, List.set_cons_succ]
  refine WL.val (by kernel_rfl) (.int .i64 (on : Int)) (by go_simp) ?_
  simp only [Act.put, List.setIfInBounds_toArray, List.set_cons_zero, List.set_cons_succ]
  refine WL.val (by kernel_rfl) (.bool true) (by go_simp) ?_
  simp only [Act.put, List.setIfInBounds_toArray, List.set_cons_zero, List.set_cons_succ]
  refine WL.val (by kernel_rfl) (.bool true) (by go_simp) ?_
  simp only [Act.put, List.setIfInBounds_toArray, List.set_cons_zero, List.set_cons_succ]
  refine WL.nil ?_
  refine hK7 _ _ ?_
  refine wp_cond_true rfl ?_
  refine wp_seq_k fun K8 hK8 => ?_
  refine wp_region_list (WL.out ?_)
  refine WL.val (by kernel_rfl) (.pointer (some ⟨p, 0, none⟩)) (by go_simp) ?_
  simp only [Act.put, List.setIfInBounds_toArray, List.set_cons_zero, List.set_cons_succ]
  refine WL.val (by kernel_rfl) (.slice ba bn bc) (by go_simp) ?_
  simp only [Act.put, List.setIfInBounds_toArray, List.set_cons_zero, List.set_cons_succ]
  refine WL.callF (by kernel_rfl) 15 _ _ rfl Tryd.in15 #[.pointer (some ⟨p, 0, none⟩), .int .i64 1, .int .i64 2, .slice ba bn bc] (by simp [Act.eval]) ?_
  refine (ls_send L2.out (by decide) (HB.out.below L2.out.bel) HBy.out HD.out).mono ?_
  rintro e w3 ⟨er, rfl, her, hL⟩
  refine ⟨_, rfl, ?_⟩
  have hs : sdE [] b = 0 := by unfold sdE; rw [if_neg (by have := Hbn.out; omega), if_neg (by decide)]
  rw [hs] at her hL
  subst her
  rw [if_pos rfl] at hL
  simp only [List.nil_append] at hL
  have L3 := Keep.mk hL
  clear hL L2 hs
  simp only [Act.put, List.setIfInBounds_toArray, List.set_cons_zero, List.set_cons_succ]
  refine WL.val (by kernel_rfl) (.int .i64 0) (by go_simp) ?_
  simp only [Act.put, List.setIfInBounds_toArray, List.set_cons_zero, List.set_cons_succ]
  refine WL.nil ?_
  refine hK8 _ _ ?_
  refine wp_seq_k fun K9 hK9 => ?_
  refine wp_region_list (WL.out ?_)
  refine WL.val (by kernel_rfl) (.pointer (some ⟨p, 0, none⟩)) (by go_simp) ?_
  simp only [Act.put, List.setIfInBounds_toArray, List.set_cons_zero, List.set_cons_succ]
  refine WL.val (by kernel_rfl) (.slice oa on oc) (by go_simp) ?_
  simp only [Act.put, List.setIfInBounds_toArray, List.set_cons_zero, List.set_cons_succ]
  refine WL.callF (by kernel_rfl) 15 _ _ rfl Tryd.in15 #[.pointer (some ⟨p, 0, none⟩), .int .i64 1, .int .i64 2, .slice oa on oc] (by simp [Act.eval]) ?_
  refine (ls_send L3.out (by decide) (HO.out.below L3.out.bel) HOy.out HDo.out).mono ?_
  rintro e w4 ⟨er, rfl, her, hL⟩
  refine ⟨_, rfl, ?_⟩
  have hs : sdE [b] o = 4 := by unfold sdE; rw [if_pos (by have := Hon.out; omega)]
  rw [hs] at her
  subst her
  have L4 := Keep.mk hL
  clear hL L3 hs
  simp only [Act.put, List.setIfInBounds_toArray, List.set_cons_zero, List.set_cons_succ]
  refine WL.val (by kernel_rfl) (.int .i64 4) (by go_simp) ?_
  simp only [Act.put, List.setIfInBounds_toArray, List.set_cons_zero, List.set_cons_succ]
  refine WL.nil ?_
  refine hK9 _ _ ?_
  refine wp_seq_k fun K10 hK10 => ?_
  refine wp_region_list (WL.out ?_)
  refine WL.val (by kernel_rfl) (.int .i64 0) (by go_simp) ?_
  simp only [Act.put, List.setIfInBounds_toArray, List.set_cons_zero, List.set_cons_succ]
  refine WL.val (by kernel_rfl) (.bool false) (by go_simp) ?_
  simp only [Act.put, List.setIfInBounds_toArray, List.set_cons_zero, List.set_cons_succ]
  refine WL.val (by kernel_rfl) (.slice ba bn bc) (by go_simp) ?_
  simp only [Act.put, List.setIfInBounds_toArray, List.set_cons_zero, List.set_cons_succ]
  refine WL.val (by kernel_rfl) (.int .i64 (bn : Int)) (by go_simp) ?_
  simp only [Act.put, List.setIfInBounds_toArray, List.set_cons_zero, List.set_cons_succ]
  refine WL.val (by kernel_rfl) (.bool false) (by go_simp) ?_
  simp only [Act.put, List.setIfInBounds_toArray, List.set_cons_zero, List.set_cons_succ]
  refine WL.val (by kernel_rfl) (.bool true) (by go_simp) ?_
  simp only [Act.put, List.setIfInBounds_toArray, List.set_cons_zero, List.set_cons_succ]
  refine WL.val (by kernel_rfl) (.bool true) (by go_simp) ?_
  simp only [Act.put, List.setIfInBounds_toArray, List.set_cons_zero, List.set_cons_succ]
  refine WL.val (by kernel_rfl) (.int .i64 4) (by go_simp) ?_
  simp only [Act.put, List.setIfInBounds_toArray, List.set_cons_zero, List.set_cons_succ]
  refine WL.val (by kernel_rfl) (.bool true) (by go_simp) ?_
  simp only [Act.put, List.setIfInBounds_toArray, List.set_cons_zero, List.set_cons_succ]
  refine WL.val (by kernel_rfl) (.slice oa on oc) (by go_simp) ?_
  simp only [Act.put, List.setIfInBounds_toArray, List.set_cons_zero, List.set_cons_succ]
  refine WL.val (by kernel_rfl) (.int .i64 (on : Int)) (by go_simp) ?_
  simp only [Act.put, List.setIfInBounds_toArray, List.set_cons_zero, List.set_cons_succ]
  refine WL.val (by kernel_rfl) (.bool true) (by go_simp) ?_
  simp only [Act.put, List.setIfInBounds_toArray, List.set_cons_zero, List.set_cons_succ]
  refine WL.val (by kernel_rfl) (.bool true) (by go_simp) ?_
  simp only [Act.put, List.setIfInBounds_toArray, List.set_cons_zero, List.set_cons_succ]
  refine WL.val (by kernel_rfl) (.bool true) (by go_simp) ?_
  simp only [Act.put, List.setIfInBounds_toArray, List.set_cons_zero, List.set_cons_succ]
  refine WL.val (by kernel_rfl) (.bool true) (by go_simp) ?_
  simp only [Act.put, List.setIfInBounds_toArray, List.set_cons_zero, List.set_cons_succ]
  refine WL.nil ?_
  refine hK10 _ _ ?_
  refine wp_ret ?_
  go_ret
  exact ⟨rfl, L4.out.bel⟩

theorem LS.few {w0 w : World} {p mb N : Nat} {f t : Int} {M : List (List Int)} {O : List (Value × List Int)} (h : LS w0 w p mb N f t M O) (ht : thr N f t = true) : M.length ≤ 1024 := by
  obtain ⟨K, h1, h2, _⟩ := h.ex
  rw [← (LS.fst h1 ht h2).1]
  exact (h1.at_.link ht).2.few
theorem LS.drop {w0 w : World} {p mb N : Nat} {f t : Int} {M : List (List Int)} {O : List (Value × List Int)} (h : LS w0 w p mb N f t M O) : LS w0 w p mb N f t M [] := by
  obtain ⟨K, h1, h2, _⟩ := h.ex
  exact ⟨K, h1, h2, fun q hq => by simp at hq⟩
theorem sdE_all (M : List (List Int)) (b : List Int) : sdE M b = 0 ∨ sdE M b = 3 ∨ sdE M b = 4 := by
  unfold sdE
  split
  · exact .inr (.inr rfl)
  · split
    · exact .inr (.inl rfl)
    · exact .inl rfl
theorem sdE_4 {M : List (List Int)} {b : List Int} (h : sdE M b = 4) : 2097194 < b.length := by
  unfold sdE at h
  split at h
  · assumption
  · split at h <;> exact absurd h (by decide)
theorem sdE_3 {M : List (List Int)} {b : List Int} (h : sdE M b = 3) : 1024 ≤ M.length := by
  unfold sdE at h
  split at h
  · exact absurd h (by decide)
  · split at h
    · assumption
    · exact absurd h (by decide)
theorem take_drop_next (L : List (List Int)) {u g : Nat} (hu : u < L.length) (hg : g ≤ u) : (L.take (u + 1)).drop g = (L.take u).drop g ++ [L.getD u []] := by
  rw [List.take_add_one, List.getElem?_eq_getElem hu, Option.toList_some, List.drop_append_of_le_length (by rw [List.length_take]; omega)]
  congr 2
  rw [List.getD_eq_getElem?_getD, List.getElem?_eq_getElem hu]; rfl
theorem take_drop_head (L : List (List Int)) {s g : Nat} (hg : g < s) (hs : s ≤ L.length) : (L.take s).drop g = L.getD g [] :: (L.take s).drop (g + 1) := by
  have hl : g < (L.take s).length := by rw [List.length_take]; omega
  rw [List.drop_eq_getElem_cons hl]
  congr 1
  rw [List.getElem_take, List.getD_eq_getElem?_getD, List.getElem?_eq_getElem (by omega)]; rfl
theorem cell_up {w w' : World} {p : Addr} {v : Value} (h : w.cell? p = some v) (b : Below w.heap.size w w') : w'.cell? p = some v := by
  obtain ⟨g, o_, sp⟩ := p
  obtain rfl : sp = none := World.cell?_spot h
  rw [b.cell (p := ⟨g, o_, none⟩) (cell_lt h)]; exact h
theorem lt_rows {w : World} {v : Value} {r : List Int} (h : RowAt w v r) (h0 : r ≠ []) : ∀ k, v.ownBlock = some k → k < w.heap.size := by
  intro k hk
  rcases h with ⟨_, rfl⟩ | ⟨_, _, _, rfl⟩ | ⟨q, off, cap, rfl, h1, h2⟩
  · exact absurd rfl h0
  · exact absurd rfl h0
  · have := cell_lt (h2 0 (List.length_pos_iff.2 h0))
    simp [Value.ownBlock] at hk
    omega

end Go.Proofs.YteecdcocgflklaaDoor
