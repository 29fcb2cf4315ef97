import Derived.Test.YteecdcocgflklaaDoorA05
import Derived.Test.YteecdcocgflklaaDoorA04
import Derived.Test.YteecdcocgflklaaDoorA01
import Derived.Defers
import Derived.LaidEql
namespace Go.Proofs.YteecdcocgflklaaDoor
open Go.RowKit
set_option linter.unusedSimpArgs false
set_option linter.unusedVariables false
theorem Tryd.in41 (w : World) (vs : Array Value) : (callFunc 41 vs).run Tryd.prog w = .ok (.enter 41 vs) w := by kernel_rfl
structure ErrI (w : World) (qe : Addr) : Prop where
  c : w.cell? ⟨0, 0, none⟩ = some (.iface 105 (.pointer (some qe)))
  lt : 0 < w.heap.size
theorem ErrI.grown {w w' : World} {qe : Addr} {S : Nat → Prop} (h : ErrI w qe) (hg : Grown w w' S) (hs : ¬ S 0) : ErrI w' qe := ⟨hg.cell h.c hs, Nat.lt_of_lt_of_le h.lt hg.size⟩
theorem ErrI.below {w w' : World} {qe : Addr} (h : ErrI w qe) (hb : Below w.heap.size w w') : ErrI w' qe := h.grown (Grown.below (S := fun _ => False) hb) id
def errV (e : Int) (qe : Addr) : Value := if e = 0 then .nilIface else if e = -1 then (.iface 105 (.pointer (some qe))) else .iface 27 (.int .i64 e)
theorem tk_er {N : Nat} {K : List Lk} {f t er : Int} (h : er = fdE N K f t []) (h0 : ¬ er = 0) : er = 1 ∧ tkE N K f t = 1 := by
  rw [fdE_nil] at h
  unfold tkE
  cases e : thr N f t <;> rw [e] at h
  · exact ⟨h, rfl⟩
  · exact absurd h h0
theorem tk_some {N : Nat} {K : List Lk} {f t : Int} (h : thr N f t = true) (h0 : ¬ (lkOf K f t).R.length = 0) : tkE N K f t = 0 := by
  unfold tkE
  rw [if_pos h, if_neg h0]
theorem tk_none {N : Nat} {K : List Lk} {f t : Int} (h : thr N f t = true) (h0 : (lkOf K f t).R.length = 0) : tkE N K f t = -1 := by
  unfold tkE
  rw [if_pos h, if_pos h0]
theorem tk_ev {N : Nat} {K : List Lk} {f t er : Int} {qe : Addr} (h : er = 1 ∧ tkE N K f t = 1) : Value.iface 27 (.int .i64 er) = errV (tkE N K f t) qe := by
  rw [h.1, h.2]; rfl
theorem tk_out {w w3 : World} {p mb N : Nat} {K : List Lk} {f t : Int} {v v3 : Value} {b : List Int} (hp : (lkOf K f t).R[0]? = some (v, b)) (ht : thr N f t = true) (h3 : PmN w p mb N K (K.set (ix f t) ⟨v3, (lkOf K f t).R.eraseIdx 0⟩) 1 w3) (h4 : PmN w p mb N K (K.set (ix f t) ⟨v3, (lkOf K f t).R.eraseIdx 0⟩) 0 (w3.setCell ⟨p, 0, none⟩ (.int .i32 0)))
    (ho : Own w3 v b) (hg : ∀ k, v.ownBlock = some k → PmS p mb K k ∧ ¬ PmS p mb (K.set (ix f t) ⟨v3, (lkOf K f t).R.eraseIdx 0⟩) k) : ∃ b' R u, (lkOf K f t).R = (v, b') :: R ∧ K.set (ix f t) ⟨v3, (lkOf K f t).R.eraseIdx 0⟩ = K.set (ix f t) ⟨u, R⟩ ∧ Own (w3.setCell ⟨p, 0, none⟩ (.int .i32 0)) v b' ∧ ∀ k, v.ownBlock = some k → PmS p mb K k ∧ ¬ PmS p mb (K.set (ix f t) ⟨v3, (lkOf K f t).R.eraseIdx 0⟩) k := by
  refine ⟨b, (lkOf K f t).R.eraseIdx 0, v3, ?_, rfl, ho.grown (Grown.setCell w3 p 0 _ (S := fun k => k = p) fun _ => rfl) fun k hk e => (hg k hk).2 (.inl e), hg⟩
  rcases hR : (lkOf K f t).R with _ | ⟨x, R⟩
  · rw [hR] at hp; cases hp
  · rw [hR] at hp
    obtain rfl := Option.some.inj hp
    rfl
set_option maxRecDepth 8000 in
theorem ptk (w : World) (p mb N : Nat) (Ks : List Lk) (f t : Int) (qe : Addr) (HE : Keep (ErrI w qe)) (H0 : Keep (¬ PmS p mb Ks 0)) (HM : Keep (PmAt w p mb N 0 Ks)) : Calls Tryd.prog 16 #[.pointer (some ⟨p, 0, none⟩), .int .i64 f, .int .i64 t] w fun e w' => ∃ v ev K', e = .returned (.tuple #[v, ev]) ∧ ev = errV (tkE N Ks f t) qe ∧ PmN w p mb N Ks K' 0 w' ∧ (tkE N Ks f t ≠ 0 → K' = Ks ∧ v = .slice none 0 0) ∧ (tkE N Ks f t = 0 → ∃ b R u, (lkOf Ks f t).R = (v, b) :: R ∧ K' = Ks.set (ix f t) ⟨u, R⟩ ∧ Own w' v b ∧ ∀ k, v.ownBlock = some k → PmS p mb Ks k ∧ ¬ PmS p mb K' k) := by
  go_enter_defers Tryd.func16, Tryd.ntmps16
  refine wp_seq_k fun K1 hK1 => ?_
  refine wp_region_list (WL.out ?_)
  refine WL.val (by kernel_rfl) (.slice none 0 0) (by go_simp) ?_
  simp only [Act.put, List.setIfInBounds_toArray, List.set_cons_zero, List.set_cons_succ]
  refine WL.val (by kernel_rfl) (.nilIface) (by go_simp) ?_
  simp only [Act.put, List.setIfInBounds_toArray, List.set_cons_zero, List.set_cons_succ]
  refine WL.nil ?_
  refine hK1 _ _ ?_
  refine wp_seq_k fun K2 hK2 => ?_
  refine wp_region_list (WL.out ?_)
  refine WL.val (by kernel_rfl) (.pointer (some ⟨p, 0, none⟩)) (by go_simp) ?_
  simp only [Act.put, List.setIfInBounds_toArray, List.set_cons_zero, List.set_cons_succ]
  refine WL.val (by kernel_rfl) (.pointer (some ⟨p, 0, none⟩)) (by go_simp) ?_
  simp only [Act.put, List.setIfInBounds_toArray, List.set_cons_zero, List.set_cons_succ]
  refine WL.val (by kernel_rfl) (.pointer (some ⟨p, 0, none⟩)) (by go_simp) ?_
  simp only [Act.put, List.setIfInBounds_toArray, List.set_cons_zero, List.set_cons_succ]
  refine WL.callF (by kernel_rfl) 36 _ _ rfl Tryd.in36 #[.pointer (some ⟨p, 0, none⟩)] (by simp [Act.eval]) ?_
  refine (Go.MuLone.lock_free Tryd.muLib ⟨p, 0, none⟩ w (HM.out.bx.c 0 rfl) (HM.out.bx.frozen 0)).mono ?_
  rintro e w1 ⟨rfl, hw1⟩
  refine ⟨_, rfl, ?_⟩
  have N1 : Keep (PmN w p mb N Ks Ks 1 w1) := ⟨by rw [hw1]; exact HM.out.relock 1⟩
  clear hw1
  simp only [Act.put, List.setIfInBounds_toArray, List.set_cons_zero, List.set_cons_succ]
  refine WL.nil ?_
  refine hK2 _ _ ?_
  refine wp_seq_k fun K3 hK3 => ?_
  refine wp_region_list (WL.out ?_)
  refine WL.val (by kernel_rfl) (.pointer (some ⟨p, 0, none⟩)) (by go_simp) ?_
  simp only [Act.put, List.setIfInBounds_toArray, List.set_cons_zero, List.set_cons_succ]
  refine WL.val (by kernel_rfl) (.pointer (some ⟨p, 0, none⟩)) (by go_simp) ?_
  simp only [Act.put, List.setIfInBounds_toArray, List.set_cons_zero, List.set_cons_succ]
  refine WL.val (by kernel_rfl) (.pointer (some ⟨p, 0, none⟩)) (by go_simp) ?_
  simp only [Act.put, List.setIfInBounds_toArray, List.set_cons_zero, List.set_cons_succ]
  refine WL.defer (by kernel_rfl) { target := .fn (.func 37) #[], args := #[.pointer (some ⟨p, 0, none⟩)] } (by go_simp) ?_
  simp only [Act.put]
  refine WL.nil ?_
  refine hK3 _ _ ?_
  refine wp_seq_k fun K4 hK4 => ?_
  refine wp_region_list (WL.out ?_)
  refine WL.val (by kernel_rfl) (.pointer (some ⟨p, 0, none⟩)) (by go_simp) ?_
  simp only [Act.put, List.setIfInBounds_toArray, List.set_cons_zero, List.set_cons_succ]
  refine WL.val (by kernel_rfl) (.int .i64 f) (by go_simp) ?_
  simp only [Act.put, List.setIfInBounds_toArray, List.set_cons_zero, List.set_cons_succ]
  refine WL.val (by kernel_rfl) (.int .i64 t) (by go_simp) ?_
  simp only [Act.put, List.setIfInBounds_toArray, List.set_cons_zero, List.set_cons_succ]
  refine WL.callF (by kernel_rfl) 38 _ _ rfl Tryd.in38 #[.pointer (some ⟨p, 0, none⟩), .int .i64 f, .int .i64 t, .slice none 0 0] (by simp [Act.eval]) ?_
  refine (find_any w1 p mb N 1 Ks f t none 0 0 [] N1.out.at_ rfl (nm_nil _) (by omega)).mono ?_
  rintro e wz_ ⟨q, er, rfl, her, hq, hw_⟩
  refine ⟨_, rfl, ?_⟩
  have hw_ := hw_.symm
  subst hw_
  have Her := Keep.mk her
  have Hq := Keep.mk hq
  clear her hq
  simp only [Act.put, List.setIfInBounds_toArray, List.set_cons_zero, List.set_cons_succ]
  refine WL.val (by kernel_rfl) (.tuple #[q, .int .i64 er]) (by go_simp) ?_
  simp only [Act.put, List.setIfInBounds_toArray, List.set_cons_zero, List.set_cons_succ]
  refine WL.val (by kernel_rfl) (q) (by go_simp) ?_
  simp only [Act.put, List.setIfInBounds_toArray, List.set_cons_zero, List.set_cons_succ]
  refine WL.val (by kernel_rfl) (.int .i64 er) (by go_simp) ?_
  simp only [Act.put, List.setIfInBounds_toArray, List.set_cons_zero, List.set_cons_succ]
  refine WL.val (by kernel_rfl) (q) (by go_simp) ?_
  simp only [Act.put, List.setIfInBounds_toArray, List.set_cons_zero, List.set_cons_succ]
  refine WL.val (by kernel_rfl) (.int .i64 er) (by go_simp) ?_
  simp only [Act.put, List.setIfInBounds_toArray, List.set_cons_zero, List.set_cons_succ]
  refine WL.nil ?_
  refine hK4 _ _ ?_
  refine wp_seq_k fun K5 hK5 => ?_
  refine wp_seq_k fun K6 hK6 => ?_
  refine wp_region_list (WL.out ?_)
  refine WL.val (by kernel_rfl) (.int .i64 er) (by go_simp) ?_
  simp only [Act.put, List.setIfInBounds_toArray, List.set_cons_zero, List.set_cons_succ]
  by_cases h4_1 : er = 0
  · skip
    refine WL.val (by kernel_rfl) (.bool false) (by go_simp) ?_
    simp only [Act.put, List.setIfInBounds_toArray, List.set_cons_zero, List.set_cons_succ]
    refine WL.nil ?_
    refine hK6 _ _ ?_
    refine wp_cond_false rfl ?_
    refine wp_skip ?_
    refine hK5 _ _ ?_
    refine wp_seq_k fun K7 hK7 => ?_
    refine wp_seq_k fun K8 hK8 => ?_
    refine wp_region_list (WL.out ?_)
    have hz : er = 0 := h4_1
    have hth : thr N f t = true := thr_of (fdE_nil.symm.trans (Her.out.symm.trans hz))
    obtain ⟨la, cap, hv⟩ := (N1.out.at_.link hth).2.sl
    have hqv := Hq.out hz
    rw [hv] at hqv
    subst hqv
    have Hv := Keep.mk hv
    clear hv
    obtain ⟨n, hn⟩ : ∃ n, Keep ((lkOf Ks f t).R.length = n) := ⟨_, ⟨rfl⟩⟩
    rw [hn.out] at Hv ⊢
    have hn9 := (N1.out.at_.link hth).2.few
    refine WL.val (by kernel_rfl) (.slice la n cap) (by go_simp) ?_
    simp only [Act.put, List.setIfInBounds_toArray, List.set_cons_zero, List.set_cons_succ]
    refine WL.val (by kernel_rfl) (.int .i64 (n : Int)) (by go_simp) ?_
    simp only [Act.put, List.setIfInBounds_toArray, List.set_cons_zero, List.set_cons_succ]
    by_cases h6_2 : n = 0
    · skip
      refine WL.val (by kernel_rfl) (.bool true) (by go_simp) ?_
      simp only [Act.put, List.setIfInBounds_toArray, List.set_cons_zero, List.set_cons_succ]
      refine WL.nil ?_
      refine hK8 _ _ ?_
      refine wp_cond_true rfl ?_
      refine wp_seq_k fun K9 hK9 => ?_
      refine Code.wp_mono (Q := Exit.then K9 fun _ _ _ => False) (fun e a w h => by cases e <;> first | exact h | exact h.elim) ?_
      refine wp_region_held_drew (S := fun wx => wx.cell? ⟨0, 0, none⟩ = some (.iface 105 (.pointer (some qe)))) (by kernel_rfl) ((HE.out.grown N1.out.gr H0.out).c) (fun hHeld => ?_)
      have N7 : Keep (PmN w p mb N Ks Ks 1 w1.drew) := ⟨N1.out.trans (PmN.below N1.out.at_ (Below.refl w1.heap.size w1).drew)⟩
      refine wpAnyH_take (i := 0) (oi := ⟨some 32, Op.load 24 (Operand.global 0), 24, _, _, none⟩) (v := .iface 105 (.pointer (some qe))) rfl (by kernel_rfl) (by kernel_rfl) (by kernel_rfl) (fun _ _ _ h => h) (Or.inl ⟨by rfl, fun w hS => by go_simp⟩) hHeld ?_
      simp only [Act.put, List.setIfInBounds_toArray, List.set_cons_zero, List.set_cons_succ]
      refine wpAnyH_take (i := 1) (oi := ⟨some 6, Op.assign (Operand.const (Value.slice none 0 0)), 39, _, _, none⟩) (v := .slice none 0 0) rfl (by kernel_rfl) (by kernel_rfl) (by kernel_rfl) (fun _ _ _ h => h) (Or.inl ⟨by rfl, fun w hS => by go_simp⟩) hHeld ?_
      simp only [Act.put, List.setIfInBounds_toArray, List.set_cons_zero, List.set_cons_succ]
      refine wpAnyH_take (i := 2) (oi := ⟨some 7, Op.assign (Operand.tmp 32), 24, _, _, none⟩) (v := .iface 105 (.pointer (some qe))) rfl (by kernel_rfl) (by kernel_rfl) (by kernel_rfl) (fun _ _ _ h => h) (Or.inl ⟨by rfl, fun w hS => by go_simp⟩) hHeld ?_
      simp only [Act.put, List.setIfInBounds_toArray, List.set_cons_zero, List.set_cons_succ]
      refine wpAnyH_done (by kernel_rfl) ?_ _
      refine hK9 _ _ ?_
      refine wp_ret ?_
      have l1 := N7.out.at_.bx.c 0 (rfl : _ = some (Value.int .i32 1))
      have fr1 := N7.out.at_.bx.frozen 0
      try simp only [Exit.inBlock, Exit.then]
      refine leaves_cons (f := 37) (args := #[.pointer (some ⟨p, 0, none⟩)]) (by simp) (by simp [go_sem]) ?_
      refine (Go.MuLone.unlock_deferred Tryd.muLib ⟨p, 0, none⟩ .returning _ l1 fr1).mono ?_
      rintro e u' w'' ⟨rfl, rfl, rfl⟩
      have NF := N7.out.trans (N7.out.at_.relock 0)
      exact ⟨_, results_tmp2 (fn := Tryd.f16) rfl _ _ _, _, _, Ks, rfl, by rw [tk_none hth (by have := hn.out; omega)]; rfl, NF, fun _ => ⟨rfl, rfl⟩, fun e => absurd ((tk_none hth (by have := hn.out; omega)).symm.trans e) (by decide)⟩
    · skip
      refine WL.val (by kernel_rfl) (.bool false) (by go_simp) ?_
      simp only [Act.put, List.setIfInBounds_toArray, List.set_cons_zero, List.set_cons_succ]
      refine WL.nil ?_
      refine hK8 _ _ ?_
      refine wp_cond_false rfl ?_
      refine wp_skip ?_
      refine hK7 _ _ ?_
      refine wp_seq_k fun K10 hK10 => ?_
      refine wp_region_list (WL.out ?_)
      obtain ⟨gl, cap', hv', hc, hcm⟩ := (N1.out.at_.link hth).2.caps (by have := hn.out; omega)
      rw [Hv.out, hn.out] at hv'
      injection hv' with e1 e2 e3
      subst e1 e3
      obtain ⟨⟨um, b⟩, hp⟩ : ∃ q, (lkOf Ks f t).R[0]? = some q := ⟨_, List.getElem?_eq_getElem (by have := hn.out; omega)⟩
      have ho := (N1.out.at_.link hth).2.own
      rw [Hv.out, hn.out] at ho
      have d_ := owns_cells ho 0 um (by rw [List.getElem?_map, hp]; rfl)
      clear ho
      have Hp := Keep.mk hp
      obtain ⟨ra, rn, rc, hu⟩ := ((N1.out.at_.link hth).2.rows _ (List.mem_of_getElem? hp)).1.sl
      simp only at hu
      subst hu
      clear hp
      have hn1 : 0 < n := by omega
      refine WL.val (by kernel_rfl) (.slice (some ⟨gl, 0, none⟩) n cap) (by go_simp) ?_
      simp only [Act.put, List.setIfInBounds_toArray, List.set_cons_zero, List.set_cons_succ]
      have hn2 : (0 : Int) < (n : Int) := by omega
      refine WL.val (by kernel_rfl) (.pointer (some ⟨gl, 0, none⟩)) (by go_simp) ?_
      clear hn2
      simp only [Act.put, List.setIfInBounds_toArray, List.set_cons_zero, List.set_cons_succ]
      refine WL.val (by kernel_rfl) (.slice ra rn rc) (by go_simp) ?_
      simp only [Act.put, List.setIfInBounds_toArray, List.set_cons_zero, List.set_cons_succ]
      refine WL.val (by kernel_rfl) (.slice ra rn rc) (by go_simp) ?_
      simp only [Act.put, List.setIfInBounds_toArray, List.set_cons_zero, List.set_cons_succ]
      refine WL.nil ?_
      refine hK10 _ _ ?_
      refine wp_seq_k fun K11 hK11 => ?_
      refine wp_region_list (WL.out ?_)
      refine WL.val (by kernel_rfl) (.pointer (some ⟨p, 0, none⟩)) (by go_simp) ?_
      simp only [Act.put, List.setIfInBounds_toArray, List.set_cons_zero, List.set_cons_succ]
      refine WL.val (by kernel_rfl) (.int .i64 f) (by go_simp) ?_
      simp only [Act.put, List.setIfInBounds_toArray, List.set_cons_zero, List.set_cons_succ]
      refine WL.val (by kernel_rfl) (.int .i64 t) (by go_simp) ?_
      simp only [Act.put, List.setIfInBounds_toArray, List.set_cons_zero, List.set_cons_succ]
      refine WL.bld (by kernel_rfl) 58 #[(0, .tmp 37), (1, .tmp 38)] rfl [(0, .int .i64 f), (1, .int .i64 t)] (by simp [Act.eval]) #[.int .i64 f, .int .i64 t] (bldP _ _) ?_
      simp only [Act.put, List.setIfInBounds_toArray, List.set_cons_zero, List.set_cons_succ]
      refine WL.callF (by kernel_rfl) 40 _ _ rfl Tryd.in40 #[.pointer (some ⟨p, 0, none⟩), .agg #[.int .i64 f, .int .i64 t], .int .i64 0] (by simp [Act.eval]) ?_
      refine (lose_any w1 p mb N 0 1 Ks f t N1.out.at_ hth (by have := hn.out; omega)).mono ?_
      rintro e w3 ⟨rfl, v3, k1, k2, k3⟩
      refine ⟨_, rfl, ?_⟩
      have N3 : Keep (PmN w p mb N Ks (Ks.set (ix f t) ⟨v3, (lkOf Ks f t).R.eraseIdx 0⟩) 1 w3) := ⟨N1.out.trans k1⟩
      have HG := Keep.mk (fun k hk => HM.out.gone (v := v3) hth Hp.out k2 k hk)
      have HW := Keep.mk (k3 _ (List.mem_of_getElem? Hp.out))
      clear k1 k2 k3 d_
      simp only [Act.put, List.setIfInBounds_toArray, List.set_cons_zero, List.set_cons_succ]
      refine WL.nil ?_
      refine hK11 _ _ ?_
      refine wp_seq_k fun K12 hK12 => ?_
      refine wp_region_list (WL.out ?_)
      refine WL.val (by kernel_rfl) (.slice ra rn rc) (by go_simp) ?_
      simp only [Act.put, List.setIfInBounds_toArray, List.set_cons_zero, List.set_cons_succ]
      refine WL.val (by kernel_rfl) (.slice ra rn rc) (by go_simp) ?_
      simp only [Act.put, List.setIfInBounds_toArray, List.set_cons_zero, List.set_cons_succ]
      refine WL.val (by kernel_rfl) (.nilIface) (by go_simp) ?_
      simp only [Act.put, List.setIfInBounds_toArray, List.set_cons_zero, List.set_cons_succ]
      refine WL.nil ?_
      refine hK12 _ _ ?_
      refine wp_ret ?_
      have l1 := N3.out.at_.bx.c 0 (rfl : _ = some (Value.int .i32 1))
      have fr1 := N3.out.at_.bx.frozen 0
      try simp only [Exit.inBlock, Exit.then]
      refine leaves_cons (f := 37) (args := #[.pointer (some ⟨p, 0, none⟩)]) (by simp) (by simp [go_sem]) ?_
      refine (Go.MuLone.unlock_deferred Tryd.muLib ⟨p, 0, none⟩ .returning _ l1 fr1).mono ?_
      rintro e u' w'' ⟨rfl, rfl, rfl⟩
      have NF := N3.out.trans (N3.out.at_.relock 0)
      exact ⟨_, results_tmp2 (fn := Tryd.f16) rfl _ _ _, _, _, _, rfl, by rw [tk_some hth (by have := hn.out; omega)]; rfl, NF, fun e => absurd (tk_some hth (by have := hn.out; omega)) e, fun _ => tk_out Hp.out hth N3.out NF HW.out HG.out⟩
  · skip
    refine WL.val (by kernel_rfl) (.bool true) (by go_simp) ?_
    simp only [Act.put, List.setIfInBounds_toArray, List.set_cons_zero, List.set_cons_succ]
    refine WL.nil ?_
    refine hK6 _ _ ?_
    refine wp_cond_true rfl ?_
    refine wp_seq_k fun K13 hK13 => ?_
    refine wp_region_list (WL.out ?_)
    refine WL.val (by kernel_rfl) (.int .i64 er) (by go_simp) ?_
    simp only [Act.put, List.setIfInBounds_toArray, List.set_cons_zero, List.set_cons_succ]
    refine WL.val (by kernel_rfl) (.iface 27 (.int .i64 er)) (by go_simp) ?_
    simp only [Act.put, List.setIfInBounds_toArray, List.set_cons_zero, List.set_cons_succ]
    refine WL.val (by kernel_rfl) (.slice none 0 0) (by go_simp) ?_
    simp only [Act.put, List.setIfInBounds_toArray, List.set_cons_zero, List.set_cons_succ]
    refine WL.val (by kernel_rfl) (.iface 27 (.int .i64 er)) (by go_simp) ?_
    simp only [Act.put, List.setIfInBounds_toArray, List.set_cons_zero, List.set_cons_succ]
    refine WL.nil ?_
    refine hK13 _ _ ?_
    refine wp_ret ?_
    have l1 := N1.out.at_.bx.c 0 (rfl : _ = some (Value.int .i32 1))
    have fr1 := N1.out.at_.bx.frozen 0
    try simp only [Exit.inBlock, Exit.then]
    refine leaves_cons (f := 37) (args := #[.pointer (some ⟨p, 0, none⟩)]) (by simp) (by simp [go_sem]) ?_
    refine (Go.MuLone.unlock_deferred Tryd.muLib ⟨p, 0, none⟩ .returning _ l1 fr1).mono ?_
    rintro e u' w'' ⟨rfl, rfl, rfl⟩
    have NF := N1.out.trans (N1.out.at_.relock 0)
    exact ⟨_, results_tmp2 (fn := Tryd.f16) rfl _ _ _, _, _, Ks, rfl, tk_ev (tk_er Her.out h4_1), NF, fun _ => ⟨rfl, rfl⟩, fun e => absurd ((tk_er Her.out h4_1).2.symm.trans e) (by decide)⟩
set_option maxRecDepth 8000 in
theorem pcr (w : World) (p mb N : Nat) (Ks : List Lk) (f t : Int) (HM : Keep (PmAt w p mb N 0 Ks)) : Calls Tryd.prog 31 #[.pointer (some ⟨p, 0, none⟩), .int .i64 f, .int .i64 t] w fun e w' => ∃ er K', e = .returned (.int .i64 er) ∧ er = (if thr N f t then 0 else 1) ∧ PmN w p mb N Ks K' 0 w' ∧ (er ≠ 0 → K' = Ks) ∧ (er = 0 → K' = Ks.set (ix f t) ⟨.slice none 0 0, []⟩) := by
  go_enter_defers Tryd.func31, Tryd.ntmps31
  refine wp_seq_k fun K1 hK1 => ?_
  refine wp_region_list (WL.out ?_)
  refine WL.val (by kernel_rfl) (.int .i64 0) (by go_simp) ?_
  simp only [Act.put, List.setIfInBounds_toArray, List.set_cons_zero, List.set_cons_succ]
  refine WL.nil ?_
  refine hK1 _ _ ?_
  refine wp_seq_k fun K2 hK2 => ?_
  refine wp_region_list (WL.out ?_)
  refine WL.val (by kernel_rfl) (.pointer (some ⟨p, 0, none⟩)) (by go_simp) ?_
  simp only [Act.put, List.setIfInBounds_toArray, List.set_cons_zero, List.set_cons_succ]
  refine WL.val (by kernel_rfl) (.pointer (some ⟨p, 0, none⟩)) (by go_simp) ?_
  simp only [Act.put, List.setIfInBounds_toArray, List.set_cons_zero, List.set_cons_succ]
  refine WL.val (by kernel_rfl) (.pointer (some ⟨p, 0, none⟩)) (by go_simp) ?_
  simp only [Act.put, List.setIfInBounds_toArray, List.set_cons_zero, List.set_cons_succ]
  refine WL.callF (by kernel_rfl) 36 _ _ rfl Tryd.in36 #[.pointer (some ⟨p, 0, none⟩)] (by simp [Act.eval]) ?_
  refine (Go.MuLone.lock_free Tryd.muLib ⟨p, 0, none⟩ w (HM.out.bx.c 0 rfl) (HM.out.bx.frozen 0)).mono ?_
  rintro e w1 ⟨rfl, hw1⟩
  refine ⟨_, rfl, ?_⟩
  have N1 : Keep (PmN w p mb N Ks Ks 1 w1) := ⟨by rw [hw1]; exact HM.out.relock 1⟩
  clear hw1
  simp only [Act.put, List.setIfInBounds_toArray, List.set_cons_zero, List.set_cons_succ]
  refine WL.nil ?_
  refine hK2 _ _ ?_
  refine wp_seq_k fun K3 hK3 => ?_
  refine wp_region_list (WL.out ?_)
  refine WL.val (by kernel_rfl) (.pointer (some ⟨p, 0, none⟩)) (by go_simp) ?_
  simp only [Act.put, List.setIfInBounds_toArray, List.set_cons_zero, List.set_cons_succ]
  refine WL.val (by kernel_rfl) (.pointer (some ⟨p, 0, none⟩)) (by go_simp) ?_
  simp only [Act.put, List.setIfInBounds_toArray, List.set_cons_zero, List.set_cons_succ]
  refine WL.val (by kernel_rfl) (.pointer (some ⟨p, 0, none⟩)) (by go_simp) ?_
  simp only [Act.put, List.setIfInBounds_toArray, List.set_cons_zero, List.set_cons_succ]
  refine WL.defer (by kernel_rfl) { target := .fn (.func 37) #[], args := #[.pointer (some ⟨p, 0, none⟩)] } (by go_simp) ?_
  simp only [Act.put]
  refine WL.nil ?_
  refine hK3 _ _ ?_
  refine wp_seq_k fun K4 hK4 => ?_
  refine wp_seq_k fun K5 hK5 => ?_
  refine wp_region_list (WL.out ?_)
  refine WL.val (by kernel_rfl) (.pointer (some ⟨p, 0, none⟩)) (by go_simp) ?_
  simp only [Act.put, List.setIfInBounds_toArray, List.set_cons_zero, List.set_cons_succ]
  refine WL.val (by kernel_rfl) (.int .i64 f) (by go_simp) ?_
  simp only [Act.put, List.setIfInBounds_toArray, List.set_cons_zero, List.set_cons_succ]
  refine WL.val (by kernel_rfl) (.int .i64 t) (by go_simp) ?_
  simp only [Act.put, List.setIfInBounds_toArray, List.set_cons_zero, List.set_cons_succ]
  refine WL.callF (by kernel_rfl) 38 _ _ rfl Tryd.in38 #[.pointer (some ⟨p, 0, none⟩), .int .i64 f, .int .i64 t, .slice none 0 0] (by simp [Act.eval]) ?_
  refine (find_any w1 p mb N 1 Ks f t none 0 0 [] N1.out.at_ rfl (nm_nil _) (by omega)).mono ?_
  rintro e wz_ ⟨q, er, rfl, her, hq, hw_⟩
  refine ⟨_, rfl, ?_⟩
  have hw_ := hw_.symm
  subst hw_
  have Her := Keep.mk her
  have Hq := Keep.mk hq
  clear her hq
  simp only [Act.put, List.setIfInBounds_toArray, List.set_cons_zero, List.set_cons_succ]
  refine WL.val (by kernel_rfl) (.tuple #[q, .int .i64 er]) (by go_simp) ?_
  simp only [Act.put, List.setIfInBounds_toArray, List.set_cons_zero, List.set_cons_succ]
  refine WL.val (by kernel_rfl) (q) (by go_simp) ?_
  simp only [Act.put, List.setIfInBounds_toArray, List.set_cons_zero, List.set_cons_succ]
  refine WL.val (by kernel_rfl) (.int .i64 er) (by go_simp) ?_
  simp only [Act.put, List.setIfInBounds_toArray, List.set_cons_zero, List.set_cons_succ]
  refine WL.val (by kernel_rfl) (q) (by go_simp) ?_
  simp only [Act.put, List.setIfInBounds_toArray, List.set_cons_zero, List.set_cons_succ]
  refine WL.val (by kernel_rfl) (.int .i64 er) (by go_simp) ?_
  simp only [Act.put, List.setIfInBounds_toArray, List.set_cons_zero, List.set_cons_succ]
  refine WL.nil ?_
  refine hK5 _ _ ?_
  refine wp_seq_k fun K6 hK6 => ?_
  refine wp_region_list (WL.out ?_)
  refine WL.val (by kernel_rfl) (.int .i64 er) (by go_simp) ?_
  simp only [Act.put, List.setIfInBounds_toArray, List.set_cons_zero, List.set_cons_succ]
  by_cases h4_1 : er = 0
  · skip
    refine WL.val (by kernel_rfl) (.bool false) (by go_simp) ?_
    simp only [Act.put, List.setIfInBounds_toArray, List.set_cons_zero, List.set_cons_succ]
    refine WL.nil ?_
    refine hK6 _ _ ?_
    refine wp_cond_false rfl ?_
    refine wp_skip ?_
    refine hK4 _ _ ?_
    refine wp_seq_k fun K7 hK7 => ?_
    refine wp_region_list (WL.out ?_)
    refine WL.val (by kernel_rfl) (.pointer (some ⟨p, 0, none⟩)) (by go_simp) ?_
    simp only [Act.put, List.setIfInBounds_toArray, List.set_cons_zero, List.set_cons_succ]
    refine WL.val (by kernel_rfl) (.pointer (some ⟨p, 0, none⟩)) (by go_simp) ?_
    simp only [Act.put, List.setIfInBounds_toArray, List.set_cons_zero, List.set_cons_succ]
    refine WL.val (by kernel_rfl) (.pointer (some ⟨p, 2, none⟩)) (by go_simp) ?_
    simp only [Act.put, List.setIfInBounds_toArray, List.set_cons_zero, List.set_cons_succ]
    have c2_ := N1.out.at_.bx.c 2 (rfl : _ = some (Value.map (some mb)))
    refine WL.val (by kernel_rfl) (.map (some mb)) (by go_simp) ?_
    clear c2_
    simp only [Act.put, List.setIfInBounds_toArray, List.set_cons_zero, List.set_cons_succ]
    refine WL.val (by kernel_rfl) (.int .i64 f) (by go_simp) ?_
    simp only [Act.put, List.setIfInBounds_toArray, List.set_cons_zero, List.set_cons_succ]
    refine WL.val (by kernel_rfl) (.int .i64 t) (by go_simp) ?_
    simp only [Act.put, List.setIfInBounds_toArray, List.set_cons_zero, List.set_cons_succ]
    refine WL.bld (by kernel_rfl) 58 #[(0, .tmp 30), (1, .tmp 31)] rfl [(0, .int .i64 f), (1, .int .i64 t)] (by simp [Act.eval]) #[.int .i64 f, .int .i64 t] (bldP _ _) ?_
    simp only [Act.put, List.setIfInBounds_toArray, List.set_cons_zero, List.set_cons_succ]
    have hth : thr N f t = true := thr_of (fdE_nil.symm.trans (Her.out.symm.trans h4_1))
    obtain ⟨wd, hr, hm, hgd⟩ := N1.out.at_.mp.upd N1.out.at_.nb.2 N1.out.at_.len hth ⟨.slice none 0 0, []⟩
    refine WL.mupd (by kernel_rfl) (.tmp 29) (.tmp 32) _ rfl (.map (some mb)) (kV (f, t)) (.slice none 0 0) rfl rfl rfl wd hr ?_
    have N3 : Keep (PmN w p mb N Ks (Ks.set (ix f t) ⟨.slice none 0 0, []⟩) 1 wd) := ⟨N1.out.trans (N1.out.at_.set hth (hgd.mono fun k _ e => .inl e) hm ⟨⟨rfl, .inl ⟨rfl, rfl⟩⟩, fun _ h => by simp at h, by simp⟩ (fun m e => by simp [Value.ownBlock] at e) (fun _ h => by simp at h) fun s u q r m h => by simp at h)⟩
    clear hr hm hgd
    simp only [Act.put]
    refine WL.nil ?_
    refine hK7 _ _ ?_
    refine wp_seq_k fun K8 hK8 => ?_
    refine wp_region_list (WL.out ?_)
    refine WL.val (by kernel_rfl) (.int .i64 0) (by go_simp) ?_
    simp only [Act.put, List.setIfInBounds_toArray, List.set_cons_zero, List.set_cons_succ]
    refine WL.nil ?_
    refine hK8 _ _ ?_
    refine wp_ret ?_
    have l1 := N3.out.at_.bx.c 0 (rfl : _ = some (Value.int .i32 1))
    have fr1 := N3.out.at_.bx.frozen 0
    try simp only [Exit.inBlock, Exit.then]
    refine leaves_cons (f := 37) (args := #[.pointer (some ⟨p, 0, none⟩)]) (by simp) (by simp [go_sem]) ?_
    refine (Go.MuLone.unlock_deferred Tryd.muLib ⟨p, 0, none⟩ .returning _ l1 fr1).mono ?_
    rintro e u' w'' ⟨rfl, rfl, rfl⟩
    have NF := N3.out.trans (N3.out.at_.relock 0)
    exact ⟨_, results_tmp rfl _ _ _, 0, _, rfl, h4_1.symm.trans (Her.out.trans fdE_nil), NF, fun e => absurd rfl e, fun _ => rfl⟩
  · skip
    refine WL.val (by kernel_rfl) (.bool true) (by go_simp) ?_
    simp only [Act.put, List.setIfInBounds_toArray, List.set_cons_zero, List.set_cons_succ]
    refine WL.nil ?_
    refine hK6 _ _ ?_
    refine wp_cond_true rfl ?_
    refine wp_seq_k fun K9 hK9 => ?_
    refine wp_region_list (WL.out ?_)
    refine WL.val (by kernel_rfl) (.int .i64 er) (by go_simp) ?_
    simp only [Act.put, List.setIfInBounds_toArray, List.set_cons_zero, List.set_cons_succ]
    refine WL.val (by kernel_rfl) (.int .i64 er) (by go_simp) ?_
    simp only [Act.put, List.setIfInBounds_toArray, List.set_cons_zero, List.set_cons_succ]
    refine WL.nil ?_
    refine hK9 _ _ ?_
    refine wp_ret ?_
    have l1 := N1.out.at_.bx.c 0 (rfl : _ = some (Value.int .i32 1))
    have fr1 := N1.out.at_.bx.frozen 0
    try simp only [Exit.inBlock, Exit.then]
    refine leaves_cons (f := 37) (args := #[.pointer (some ⟨p, 0, none⟩)]) (by simp) (by simp [go_sem]) ?_
    refine (Go.MuLone.unlock_deferred Tryd.muLib ⟨p, 0, none⟩ .returning _ l1 fr1).mono ?_
    rintro e u' w'' ⟨rfl, rfl, rfl⟩
    have NF := N1.out.trans (N1.out.at_.relock 0)
    exact ⟨_, results_tmp rfl _ _ _, er, Ks, rfl, Her.out.trans fdE_nil, NF, fun _ => rfl, fun e => absurd e h4_1⟩
set_option maxRecDepth 8000 in
theorem prn_any (w : World) (n : Int) (m : Nat) (hm : 1 ≤ m) (hm2 : m ≤ 4398046511104) : Calls Tryd.prog 41 #[.int .i64 n, .int .i64 (m : Int)] w fun e w' => e = .returned (.int .i64 ((rnd n m : Nat) : Int)) ∧ w' = w := by
  obtain ⟨h1, h2, h3, h4⟩ := tm_is n hm
  have hm0 : ¬ (m : Int) = 0 := by omega
  have hmn : ¬ m = 0 := by omega
  have hw0 : IntKind.i64.wrap (Int.tmod n (m : Int)) = Int.tmod n (m : Int) := by rw [IntKind.wrap_i64]; omega
  have hw1 : IntKind.i64.wrap (Int.tmod n (m : Int) + (m : Int)) = Int.tmod n (m : Int) + (m : Int) := by rw [IntKind.wrap_i64]; omega
  have hr := rnd_lt n hm
  have hw2 : Int.tmod (Int.tmod n (m : Int) + (m : Int)) (m : Int) = ((rnd n m : Nat) : Int) := by
    rw [Int.tmod_eq_emod_of_nonneg (by omega)]
    by_cases h : Int.tmod n (m : Int) < 0
    · rw [h2 h]; exact Int.emod_eq_of_lt (by omega) (by omega)
    · rw [h1 h, Int.add_emod_right]; exact Int.emod_eq_of_lt (by omega) (by omega)
  have hw3 : IntKind.i64.wrap ((rnd n m : Nat) : Int) = ((rnd n m : Nat) : Int) := by rw [IntKind.wrap_i64]; omega
  clear h1 h2 h3 h4
  go_enter Tryd.func41, Tryd.ntmps41
  refine wp_seq_k fun K1 hK1 => ?_
  refine wp_region_list (WL.out ?_)
  refine WL.val (by kernel_rfl) (.int .i64 0) (by go_simp) ?_
  simp only [Act.put, List.setIfInBounds_toArray, List.set_cons_zero, List.set_cons_succ]
  refine WL.nil ?_
  refine hK1 _ _ ?_
  refine wp_seq_k fun K2 hK2 => ?_
  refine wp_region_list (WL.out ?_)
  refine WL.val (by kernel_rfl) (.int .i64 n) (by go_simp) ?_
  simp only [Act.put, List.setIfInBounds_toArray, List.set_cons_zero, List.set_cons_succ]
  refine WL.val (by kernel_rfl) (.int .i64 (m : Int)) (by go_simp) ?_
  simp only [Act.put, List.setIfInBounds_toArray, List.set_cons_zero, List.set_cons_succ]
  refine WL.val (by kernel_rfl) (.int .i64 (Int.tmod n (m : Int))) (by go_simp) ?_
  simp only [Act.put, List.setIfInBounds_toArray, List.set_cons_zero, List.set_cons_succ]
  refine WL.val (by kernel_rfl) (.int .i64 (m : Int)) (by go_simp) ?_
  simp only [Act.put, List.setIfInBounds_toArray, List.set_cons_zero, List.set_cons_succ]
  refine WL.val (by kernel_rfl) (.int .i64 (Int.tmod n (m : Int) + (m : Int))) (by go_simp) ?_
  simp only [Act.put, List.setIfInBounds_toArray, List.set_cons_zero, List.set_cons_succ]
  refine WL.val (by kernel_rfl) (.int .i64 (m : Int)) (by go_simp) ?_
  simp only [Act.put, List.setIfInBounds_toArray, List.set_cons_zero, List.set_cons_succ]
  refine WL.val (by kernel_rfl) (.int .i64 ((rnd n m : Nat) : Int)) (by go_simp) ?_
  simp only [Act.put, List.setIfInBounds_toArray, List.set_cons_zero, List.set_cons_succ]
  refine WL.val (by kernel_rfl) (.int .i64 ((rnd n m : Nat) : Int)) (by go_simp) ?_
  simp only [Act.put, List.setIfInBounds_toArray, List.set_cons_zero, List.set_cons_succ]
  refine WL.nil ?_
  refine hK2 _ _ ?_
  refine wp_ret ?_
  go_ret
  exact ⟨rfl, rfl⟩

theorem PmAt.relist {w w' : World} {p mb N : Nat} {l : Int} {K : List Lk} {f t : Int} {R : List (Value × List Int)} (h : PmAt w p mb N l K) (ht : thr N f t = true) (hg : Grown w w' fun k => LkS (lkOf K f t) k) (hv : w'.ownsRow 0 39 1 (lkOf K f t).v R.length (R.map (·.1)))
    (hrow : ∀ q ∈ R, Own w' q.1 q.2 ∧ q.2.length ≤ 2097194 ∧ Byts q.2) (hlen : R.length ≤ 1024) (hr : ∀ q ∈ R, ∀ m, q.1.ownBlock = some m → (∃ r ∈ (lkOf K f t).R, r.1.ownBlock = some m) ∨ w.heap.size ≤ m)
    (hd : ∀ (s u : Nat) (q r : Value × List Int) (m : Nat), R[s]? = some q → R[u]? = some r → q.1.ownBlock = some m → r.1.ownBlock = some m → s = u) : PmN w p mb N K (K.set (ix f t) ⟨(lkOf K f t).v, R⟩) l w' :=
  h.set ht (hg.mono fun k _ e => .inr e) ((h.mp.grown hg fun e => by
    rcases e with e | ⟨q, hq, e⟩
    · exact h.mp.ne (owns_typ (h.link ht).2.own e) rfl
    · exact h.mp.ne (owns_typ ((h.link ht).2.rows q hq).1 e) rfl).same h.nb.2 h.len ht _ rfl) ⟨hv, hrow, hlen⟩ (fun m e => .inl e) hr hd

def sw (i j s : Nat) : Nat := if s = j then i else if s = i then j else s
theorem sw_at {α : Type} (R : List α) (i j s : Nat) (p q x : α) (hi : R[i]? = some p) (hj : R[j]? = some q) (h : ((R.set i q).set j p)[s]? = some x) : R[sw i j s]? = some x := by
  have hil := (List.getElem?_eq_some_iff.1 hi).1
  have hjl := (List.getElem?_eq_some_iff.1 hj).1
  unfold sw
  by_cases e1 : s = j
  · subst e1
    rw [List.getElem?_set_self (by rw [List.length_set]; exact hjl)] at h
    rw [if_pos rfl, hi, h]
  · rw [List.getElem?_set_ne (fun h => e1 h.symm)] at h
    rw [if_neg e1]
    by_cases e2 : s = i
    · subst e2
      rw [List.getElem?_set_self hil] at h
      rw [if_pos rfl, hj, h]
    · rw [List.getElem?_set_ne (fun h => e2 h.symm)] at h
      rw [if_neg e2, h]
theorem sw_inj (i j s u : Nat) (h : sw i j s = sw i j u) : s = u := by
  unfold sw at h
  split at h <;> split at h <;> (try split at h) <;> (try split at h) <;> omega
theorem spE_ok {N : Nat} {K : List Lk} {f t i j : Int} (h : spE N K f t i j = 0) : nmE N K f t i = 0 ∧ nmE N K f t j = 0 := by
  unfold spE at h
  by_cases e : nmE N K f t i = 0
  · rw [if_pos e] at h; exact ⟨e, h⟩
  · rw [if_neg e] at h; exact absurd h e
theorem PmAt.swapped {w : World} {p mb N k k' n cap gl : Nat} {l : Int} {K : List Lk} {f t : Int} {q r : Value × List Int} (h : PmAt w p mb N l K) (ht : thr N f t = true) (hv : (lkOf K f t).v = .slice (some ⟨gl, 0, none⟩) n cap) (hn : (lkOf K f t).R.length = n) (hq : (lkOf K f t).R[k]? = some q) (hr : (lkOf K f t).R[k']? = some r) :
    PmN w p mb N K (K.set (ix f t) ⟨(lkOf K f t).v, ((lkOf K f t).R.set k r).set k' q⟩) l ((w.setCell ⟨gl, k, none⟩ r.1).setCell ⟨gl, k', none⟩ q.1) := by
  obtain ⟨hK, ha⟩ := h.link ht
  have ho := ha.own
  rw [hv, hn] at ho
  have hg : Grown w ((w.setCell ⟨gl, k, none⟩ r.1).setCell ⟨gl, k', none⟩ q.1) (fun m => m = gl) := (Grown.setCell w gl k r.1 (S := fun m => m = gl) fun _ => rfl).trans (Grown.setCell _ gl k' q.1 fun _ => rfl)
  have hgl : (lkOf K f t).v.ownBlock = some gl := by rw [hv]; rfl
  have mem : ∀ x ∈ ((lkOf K f t).R.set k r).set k' q, x ∈ (lkOf K f t).R := fun x hx => by
    obtain ⟨s, hs, rfl⟩ := List.getElem_of_mem hx
    exact List.mem_of_getElem? (sw_at _ k k' s q r _ hq hr (List.getElem?_eq_getElem hs))
  refine h.relist ht (hg.mono fun m _ e => .inl (by rw [hgl, e])) ?_ (fun x hx => ⟨?_, (ha.rows x (mem x hx)).2⟩) (by rw [List.length_set, List.length_set, hn]; have := ha.few; omega) (fun x hx m e => .inl ⟨x, mem x hx, e⟩) fun s u x y m hs hu e1 e2 => ?_
  · rw [List.length_set, List.length_set, hv, hn, List.map_set, List.map_set]
    exact owns_set (owns_set ho k r.1) k' q.1
  · exact owns_grown (ha.rows x (mem x hx)).1 hg fun m hm e => absurd ((owns_typ (ha.rows x (mem x hx)).1 hm).one (e ▸ owns_typ ha.own hgl)) (by decide)
  · exact sw_inj k k' s u (h.nr _ _ _ _ _ _ x y m hK hK (sw_at _ k k' s q r x hq hr hs) (sw_at _ k k' u q r y hq hr hu) e1 e2).2
theorem PmAt.newmsg {w w' : World} {p mb N k n cap gl : Nat} {l : Int} {K : List Lk} {f t : Int} {u : Value} {b : List Int} (h : PmAt w p mb N l K) (ht : thr N f t = true) (hv : (lkOf K f t).v = .slice (some ⟨gl, 0, none⟩) n cap) (hn : (lkOf K f t).R.length = n) (hb : Below w.heap.size w w') (ho : Own w' u b) (hf : ∀ k, u.ownBlock = some k → w.heap.size ≤ k) (hl : b.length ≤ 2097194) (hB : Byts b) :
    PmN w p mb N K (K.set (ix f t) ⟨(lkOf K f t).v, (lkOf K f t).R.set k (u, b)⟩) l (w'.setCell ⟨gl, k, none⟩ u) := by
  obtain ⟨hK, ha⟩ := h.link ht
  have ha2 := ((h.below hb).link ht).2
  have ho2 := ha2.own
  rw [hv, hn] at ho2
  have hgl : (lkOf K f t).v.ownBlock = some gl := by rw [hv]; rfl
  have hg2 : Grown w' (w'.setCell ⟨gl, k, none⟩ u) (fun m => m = gl) := Grown.setCell w' gl k _ fun _ => rfl
  have hg : Grown w (w'.setCell ⟨gl, k, none⟩ u) (fun m => m = gl) := (Grown.below hb).trans hg2
  have two : ∀ (s : Nat) (x : Value × List Int), ((lkOf K f t).R.set k (u, b))[s]? = some x → (s = k ∧ x = (u, b)) ∨ (s ≠ k ∧ (lkOf K f t).R[s]? = some x) := fun s x hs => by
    by_cases e : s = k
    · subst e
      rw [List.getElem?_set_self (by have := (List.getElem?_eq_some_iff.1 hs).1; rwa [List.length_set] at this)] at hs
      exact .inl ⟨rfl, (Option.some.inj hs).symm⟩
    · rw [List.getElem?_set_ne (fun h => e h.symm)] at hs
      exact .inr ⟨e, hs⟩
  have mem : ∀ x ∈ (lkOf K f t).R.set k (u, b), x = (u, b) ∨ x ∈ (lkOf K f t).R := fun x hx => by
    obtain ⟨s, hs, rfl⟩ := List.getElem_of_mem hx
    rcases two s _ (List.getElem?_eq_getElem hs) with ⟨_, e⟩ | ⟨_, e⟩
    · exact .inl e
    · exact .inr (List.mem_of_getElem? e)
  have lt : ∀ x ∈ (lkOf K f t).R, ∀ m, x.1.ownBlock = some m → m < w.heap.size := fun x hx m e => (ha.rows x hx).1.lt m e
  have og : ∀ x c, Own w' x c → Own (w'.setCell ⟨gl, k, none⟩ u) x c := fun x c hx => owns_grown hx hg2 fun m hm e => absurd ((owns_typ hx hm).one (e ▸ owns_typ ha2.own hgl)) (by decide)
  refine h.relist ht (hg.mono fun m _ e => .inl (by rw [hgl, e])) ?_ (fun x hx => ?_) (by rw [List.length_set]; exact ha.few) (fun x hx m e => ?_) fun s z x y m hs hz e1 e2 => ?_
  · rw [List.length_set, hv, hn, List.map_set]
    exact owns_set ho2 k u
  · rcases mem x hx with rfl | e
    · exact ⟨og _ _ ho, hl, hB⟩
    · exact ⟨og _ _ (ha2.rows x e).1, (ha.rows x e).2⟩
  · rcases mem x hx with rfl | e2
    · exact .inr (hf m e)
    · exact .inl ⟨x, e2, e⟩
  · rcases two s x hs with ⟨rfl, rfl⟩ | ⟨_, e3⟩ <;> rcases two z y hz with ⟨rfl, rfl⟩ | ⟨_, e4⟩
    · rfl
    · have := lt y (List.mem_of_getElem? e4) m e2; have := hf m e1; omega
    · have := lt x (List.mem_of_getElem? e3) m e1; have := hf m e2; omega
    · exact (h.nr _ _ _ _ _ _ x y m hK hK e3 e4 e1 e2).2
theorem PmAt.byted {w : World} {p mb N k j rg rn rc : Nat} {l c : Int} {K : List Lk} {f t : Int} {b : List Int} (h : PmAt w p mb N l K) (ht : thr N f t = true) (hq : (lkOf K f t).R[k]? = some (.slice (some ⟨rg, 0, none⟩) rn rc, b)) (hc : 0 ≤ c ∧ c < 256) :
    PmN w p mb N K (K.set (ix f t) ⟨(lkOf K f t).v, (lkOf K f t).R.set k (.slice (some ⟨rg, 0, none⟩) rn rc, b.set j c)⟩) l (w.setCell ⟨rg, j, none⟩ (.int .u8 c)) := by
  obtain ⟨hK, ha⟩ := h.link ht
  obtain ⟨h1, h2, h3⟩ := ha.rows _ (List.mem_of_getElem? hq)
  have hrg : (Value.slice (some ⟨rg, 0, none⟩) rn rc).ownBlock = some rg := rfl
  have hg : Grown w (w.setCell ⟨rg, j, none⟩ (.int .u8 c)) (fun m => m = rg) := Grown.setCell w rg j _ fun _ => rfl
  have two : ∀ (s : Nat) (x : Value × List Int), ((lkOf K f t).R.set k (.slice (some ⟨rg, 0, none⟩) rn rc, b.set j c))[s]? = some x → (s = k ∧ x = (.slice (some ⟨rg, 0, none⟩) rn rc, b.set j c)) ∨ (s ≠ k ∧ (lkOf K f t).R[s]? = some x) := fun s x hs => by
    by_cases e : s = k
    · subst e
      rw [List.getElem?_set_self (by have := (List.getElem?_eq_some_iff.1 hs).1; rwa [List.length_set] at this)] at hs
      exact .inl ⟨rfl, (Option.some.inj hs).symm⟩
    · rw [List.getElem?_set_ne (fun h => e h.symm)] at hs
      exact .inr ⟨e, hs⟩
  refine h.relist ht (hg.mono fun m _ e => .inr ⟨_, List.mem_of_getElem? hq, by subst e; rfl⟩) ?_ (fun x hx => ?_) (by rw [List.length_set]; exact ha.few) (fun x hx m e => ?_) fun s z x y m hs hz e1 e2 => ?_
  · rw [List.length_set, List.map_set]
    have hs : ((lkOf K f t).R.map (·.1)).set k (.slice (some ⟨rg, 0, none⟩) rn rc) = (lkOf K f t).R.map (·.1) := by
      apply List.ext_getElem?
      intro s
      by_cases e : k = s
      · subst e
        rw [List.getElem?_set_self (by rw [List.length_map]; exact (List.getElem?_eq_some_iff.1 hq).1), List.getElem?_map, hq]; rfl
      · rw [List.getElem?_set_ne e]
    simp only [hs]
    exact owns_grown ha.own hg fun m hm e => absurd ((owns_typ ha.own hm).one (e ▸ owns_typ h1 hrg)) (by decide)
  · obtain ⟨s, hs, rfl⟩ := List.getElem_of_mem hx
    rcases two s _ (List.getElem?_eq_getElem hs) with ⟨_, e⟩ | ⟨e1, e⟩
    · rw [e]
      exact ⟨h1.set j c, by simpa using h2, h3.set j hc⟩
    · have hr := ha.rows _ (List.mem_of_getElem? e)
      exact ⟨owns_grown hr.1 hg fun m hm e3 => e1 (h.nr _ _ _ _ _ _ _ _ m hK hK e hq hm (by subst e3; rfl)).2, hr.2⟩
  · obtain ⟨s, hs, rfl⟩ := List.getElem_of_mem hx
    rcases two s _ (List.getElem?_eq_getElem hs) with ⟨_, e3⟩ | ⟨_, e3⟩
    · rw [e3] at e
      exact .inl ⟨_, List.mem_of_getElem? hq, e⟩
    · exact .inl ⟨_, List.mem_of_getElem? e3, e⟩
  · rcases two s x hs with ⟨rfl, rfl⟩ | ⟨n1, e3⟩ <;> rcases two z y hz with ⟨rfl, rfl⟩ | ⟨n2, e4⟩
    · rfl
    · exact (h.nr _ _ _ _ _ _ _ _ m hK hK hq e4 e1 e2).2
    · exact (h.nr _ _ _ _ _ _ _ _ m hK hK e3 hq e1 e2).2
    · exact (h.nr _ _ _ _ _ _ x y m hK hK e3 e4 e1 e2).2
theorem pfl_er {N : Nat} {K : List Lk} {f t i er by_ : Int} (h : er = nmE N K f t i) (h0 : ¬ er = 0) : er = flE N K f t i by_ := by
  unfold flE
  rw [if_neg (by rw [← h]; exact h0), h]
theorem pfl_by {N : Nat} {K : List Lk} {f t i by_ : Int} (h : nmE N K f t i = 0) (hb : by_ = 0 ∨ (((lkOf K f t).R[i.toNat]?.map fun p => p.2.length).getD 0) = 0) : 1 = flE N K f t i by_ := by
  unfold flE
  rw [if_pos h, if_pos hb]
theorem pfl_ok {N : Nat} {K : List Lk} {f t i by_ : Int} (h : nmE N K f t i = 0) (hb : ¬ (by_ = 0 ∨ (((lkOf K f t).R[i.toNat]?.map fun p => p.2.length).getD 0) = 0)) : 0 = flE N K f t i by_ := by
  unfold flE
  rw [if_pos h, if_neg hb]

set_option maxRecDepth 8000 in
theorem psp (w : World) (p mb N : Nat) (Ks : List Lk) (f t : Int) (i j : Int) (HM : Keep (PmAt w p mb N 0 Ks)) : Calls Tryd.prog 22 #[.pointer (some ⟨p, 0, none⟩), .int .i64 f, .int .i64 t, .int .i64 i, .int .i64 j] w fun e w' => ∃ er K', e = .returned (.int .i64 er) ∧ er = spE N Ks f t i j ∧ PmN w p mb N Ks K' 0 w' ∧ (er ≠ 0 → K' = Ks) ∧ (er = 0 → ∃ q r, (lkOf Ks f t).R[i.toNat]? = some q ∧ (lkOf Ks f t).R[j.toNat]? = some r ∧ K' = Ks.set (ix f t) ⟨(lkOf Ks f t).v, ((lkOf Ks f t).R.set i.toNat r).set j.toNat q⟩) := by
  go_enter_defers Tryd.func22, Tryd.ntmps22
  refine wp_seq_k fun K1 hK1 => ?_
  refine wp_region_list (WL.out ?_)
  refine WL.val (by kernel_rfl) (.int .i64 0) (by go_simp) ?_
  simp only [Act.put, List.setIfInBounds_toArray, List.set_cons_zero, List.set_cons_succ]
  refine WL.nil ?_
  refine hK1 _ _ ?_
  refine wp_seq_k fun K2 hK2 => ?_
  refine wp_region_list (WL.out ?_)
  refine WL.val (by kernel_rfl) (.pointer (some ⟨p, 0, none⟩)) (by go_simp) ?_
  simp only [Act.put, List.setIfInBounds_toArray, List.set_cons_zero, List.set_cons_succ]
  refine WL.val (by kernel_rfl) (.pointer (some ⟨p, 0, none⟩)) (by go_simp) ?_
  simp only [Act.put, List.setIfInBounds_toArray, List.set_cons_zero, List.set_cons_succ]
  refine WL.val (by kernel_rfl) (.pointer (some ⟨p, 0, none⟩)) (by go_simp) ?_
  simp only [Act.put, List.setIfInBounds_toArray, List.set_cons_zero, List.set_cons_succ]
  refine WL.callF (by kernel_rfl) 36 _ _ rfl Tryd.in36 #[.pointer (some ⟨p, 0, none⟩)] (by simp [Act.eval]) ?_
  refine (Go.MuLone.lock_free Tryd.muLib ⟨p, 0, none⟩ w (HM.out.bx.c 0 rfl) (HM.out.bx.frozen 0)).mono ?_
  rintro e w1 ⟨rfl, hw1⟩
  refine ⟨_, rfl, ?_⟩
  have N1 : Keep (PmN w p mb N Ks Ks 1 w1) := ⟨by rw [hw1]; exact HM.out.relock 1⟩
  clear hw1
  simp only [Act.put, List.setIfInBounds_toArray, List.set_cons_zero, List.set_cons_succ]
  refine WL.nil ?_
  refine hK2 _ _ ?_
  refine wp_seq_k fun K3 hK3 => ?_
  refine wp_region_list (WL.out ?_)
  refine WL.val (by kernel_rfl) (.pointer (some ⟨p, 0, none⟩)) (by go_simp) ?_
  simp only [Act.put, List.setIfInBounds_toArray, List.set_cons_zero, List.set_cons_succ]
  refine WL.val (by kernel_rfl) (.pointer (some ⟨p, 0, none⟩)) (by go_simp) ?_
  simp only [Act.put, List.setIfInBounds_toArray, List.set_cons_zero, List.set_cons_succ]
  refine WL.val (by kernel_rfl) (.pointer (some ⟨p, 0, none⟩)) (by go_simp) ?_
  simp only [Act.put, List.setIfInBounds_toArray, List.set_cons_zero, List.set_cons_succ]
  refine WL.defer (by kernel_rfl) { target := .fn (.func 37) #[], args := #[.pointer (some ⟨p, 0, none⟩)] } (by go_simp) ?_
  simp only [Act.put]
  refine WL.nil ?_
  refine hK3 _ _ ?_
  refine wp_seq_k fun K4 hK4 => ?_
  refine wp_region_list (WL.out ?_)
  refine WL.val (by kernel_rfl) (.pointer (some ⟨p, 0, none⟩)) (by go_simp) ?_
  simp only [Act.put, List.setIfInBounds_toArray, List.set_cons_zero, List.set_cons_succ]
  refine WL.val (by kernel_rfl) (.int .i64 f) (by go_simp) ?_
  simp only [Act.put, List.setIfInBounds_toArray, List.set_cons_zero, List.set_cons_succ]
  refine WL.val (by kernel_rfl) (.int .i64 t) (by go_simp) ?_
  simp only [Act.put, List.setIfInBounds_toArray, List.set_cons_zero, List.set_cons_succ]
  refine WL.val (by kernel_rfl) (.int .i64 i) (by go_simp) ?_
  simp only [Act.put, List.setIfInBounds_toArray, List.set_cons_zero, List.set_cons_succ]
  refine WL.val (by kernel_rfl) (.int .i64 j) (by go_simp) ?_
  simp only [Act.put, List.setIfInBounds_toArray, List.set_cons_zero, List.set_cons_succ]
  refine WL.bs (by kernel_rfl) 89 2 #[(0, .tmp 24), (1, .tmp 25)] rfl #[(0, .int .i64 i), (1, .int .i64 j)] (by simp [Act.eval]) _ _ (bsI2 i j w1) ?_
  have bb := below_new w1 (.cells #[.int .i64 i, .int .i64 j] 3)
  have QN : Keep (Blk (w1.alloc (.cells #[.int .i64 i, .int .i64 j] 3)) w1.heap.size 3 #[.int .i64 i, .int .i64 j]) := ⟨Blk.new w1 3 #[.int .i64 i, .int .i64 j]⟩
  have N2 : Keep (PmN w p mb N Ks Ks 1 (w1.alloc (.cells #[.int .i64 i, .int .i64 j] 3))) := ⟨N1.out.trans (PmN.below N1.out.at_ bb)⟩
  clear bb N1
  generalize w1.alloc (.cells #[.int .i64 i, .int .i64 j] 3) = w2 at *
  obtain ⟨gn, hgn⟩ : ∃ z, Keep (z = w1.heap.size) := ⟨_, ⟨rfl⟩⟩
  rw [← hgn.out] at QN ⊢
  have HNm : Keep (NmAt w2 (some ⟨gn, 0, none⟩) [i, j]) := ⟨fun j i hj => ⟨gn, rfl, QN.out.c j (by rcases j with _ | j | j <;> simp_all)⟩⟩
  simp only [Act.put, List.setIfInBounds_toArray, List.set_cons_zero, List.set_cons_succ]
  refine WL.callF (by kernel_rfl) 38 _ _ rfl Tryd.in38 #[.pointer (some ⟨p, 0, none⟩), .int .i64 f, .int .i64 t, .slice (some ⟨gn, 0, none⟩) 2 2] (by simp [Act.eval]) ?_
  refine (find_any w2 p mb N 1 Ks f t (some ⟨gn, 0, none⟩) 2 2 [i, j] N2.out.at_ rfl HNm.out (by omega)).mono ?_
  rintro e wz_ ⟨q, er, rfl, her, hq, hw_⟩
  refine ⟨_, rfl, ?_⟩
  have hw_ := hw_.symm
  subst hw_
  have Her := Keep.mk her
  have Hq := Keep.mk hq
  clear her hq
  simp only [Act.put, List.setIfInBounds_toArray, List.set_cons_zero, List.set_cons_succ]
  refine WL.val (by kernel_rfl) (.tuple #[q, .int .i64 er]) (by go_simp) ?_
  simp only [Act.put, List.setIfInBounds_toArray, List.set_cons_zero, List.set_cons_succ]
  refine WL.val (by kernel_rfl) (q) (by go_simp) ?_
  simp only [Act.put, List.setIfInBounds_toArray, List.set_cons_zero, List.set_cons_succ]
  refine WL.val (by kernel_rfl) (.int .i64 er) (by go_simp) ?_
  simp only [Act.put, List.setIfInBounds_toArray, List.set_cons_zero, List.set_cons_succ]
  refine WL.val (by kernel_rfl) (q) (by go_simp) ?_
  simp only [Act.put, List.setIfInBounds_toArray, List.set_cons_zero, List.set_cons_succ]
  refine WL.val (by kernel_rfl) (.int .i64 er) (by go_simp) ?_
  simp only [Act.put, List.setIfInBounds_toArray, List.set_cons_zero, List.set_cons_succ]
  refine WL.nil ?_
  refine hK4 _ _ ?_
  refine wp_seq_k fun K5 hK5 => ?_
  refine wp_seq_k fun K6 hK6 => ?_
  refine wp_region_list (WL.out ?_)
  refine WL.val (by kernel_rfl) (.int .i64 er) (by go_simp) ?_
  simp only [Act.put, List.setIfInBounds_toArray, List.set_cons_zero, List.set_cons_succ]
  by_cases h4_1 : er = 0
  · skip
    refine WL.val (by kernel_rfl) (.bool false) (by go_simp) ?_
    simp only [Act.put, List.setIfInBounds_toArray, List.set_cons_zero, List.set_cons_succ]
    refine WL.nil ?_
    refine hK6 _ _ ?_
    refine wp_cond_false rfl ?_
    refine wp_skip ?_
    refine hK5 _ _ ?_
    refine wp_seq_k fun K7 hK7 => ?_
    have hz : er = 0 := h4_1
    have hsp := spE_ok (fdE_two.symm.trans (Her.out.symm.trans hz))
    obtain ⟨k, n, gl, cap, ei, hk, hn, hnn, hc, hcm, hv, hth, hcl⟩ := N2.out.at_.open_ hsp.1
    obtain ⟨k', n', gl', cap', ej, hk', hn', _, _, _, _, _, _⟩ := N2.out.at_.open_ hsp.2
    have hqv := Hq.out hz
    rw [hv] at hqv
    subst ei ej hqv
    have en : n' = n := by rw [← hn, ← hn']
    subst en
    have Hk := Keep.mk hk
    have Hk' := Keep.mk hk'
    have Hn := Keep.mk hn
    have Hv := Keep.mk hv
    clear hk hk' hn hn' hnn hc hcm hv hcl
    obtain ⟨⟨um, b⟩, hp⟩ : ∃ q, (lkOf Ks f t).R[k]? = some q := ⟨_, List.getElem?_eq_getElem (by rw [Hn.out]; exact Hk.out)⟩
    obtain ⟨⟨um', b'⟩, hp'⟩ : ∃ q, (lkOf Ks f t).R[k']? = some q := ⟨_, List.getElem?_eq_getElem (by rw [Hn.out]; exact Hk'.out)⟩
    obtain ⟨ra, rn, rc, hu⟩ := ((N2.out.at_.link hth).2.rows _ (List.mem_of_getElem? hp)).1.sl
    obtain ⟨ra', rn', rc', hu'⟩ := ((N2.out.at_.link hth).2.rows _ (List.mem_of_getElem? hp')).1.sl
    simp only at hu hu'
    subst hu hu'
    have Hp := Keep.mk hp
    have Hp' := Keep.mk hp'
    clear hp hp'
    have h1k := Nat.not_le.2 Hk.out
    have h2k := Int.ofNat_lt.2 Hk.out
    have h1k' := Nat.not_le.2 Hk'.out
    have h2k' := Int.ofNat_lt.2 Hk'.out
    have h0k := Hk.out
    have h0k' := Hk'.out
    refine Code.wp_mono (Q := Exit.then K7 fun _ _ _ => False) (fun e a w h => by cases e <;> first | exact h | exact h.elim) ?_
    refine wp_region_held_drew (S := fun _ => True) (by kernel_rfl) (trivial) (fun hHeld => ?_)
    have N4 : Keep (PmN w p mb N Ks Ks 1 w2.drew) := ⟨N2.out.trans (PmN.below N2.out.at_ (Below.refl w2.heap.size w2).drew)⟩
    generalize w2.drew = w4 at *
    have ho4 := (N4.out.at_.link hth).2.own
    rw [Hv.out, Hn.out] at ho4
    have CL : Keep (∀ (j : Nat) (q : Value × List Int), (lkOf Ks f t).R[j]? = some q → w4.cell? ⟨gl, j, none⟩ = some q.1) := ⟨fun j q hq => owns_cells ho4 j q.1 (by rw [List.getElem?_map, hq]; rfl)⟩
    have CB : Keep (∃ cur, Blk w4 gl 39 cur) := ⟨by
      rcases ho4.2 with ⟨h0, _⟩ | ⟨g', cap', cur, hv, h2, h3, _⟩
      · cases h0
      · injection hv with e1; injection e1 with e1; injection e1 with e1; subst e1; exact ⟨cur, h3⟩⟩
    clear ho4
    refine wpAnyH_take (i := 0) (oi := ⟨some 33, Op.move (Operand.tmp 11), 36, _, _, none⟩) (v := .slice (some ⟨gl, 0, none⟩) n' cap) rfl (by kernel_rfl) (by kernel_rfl) (by kernel_rfl) (fun _ _ _ h => h) (Or.inl ⟨by rfl, fun w hS => by go_simp⟩) hHeld ?_
    simp only [Act.put, List.setIfInBounds_toArray, List.set_cons_zero, List.set_cons_succ]
    refine wpAnyH_take (i := 1) (oi := ⟨some 34, Op.move (Operand.tmp 3), 3, _, _, none⟩) (v := .int .i64 (k : Int)) rfl (by kernel_rfl) (by kernel_rfl) (by kernel_rfl) (fun _ _ _ h => h) (Or.inl ⟨by rfl, fun w hS => by go_simp⟩) hHeld ?_
    simp only [Act.put, List.setIfInBounds_toArray, List.set_cons_zero, List.set_cons_succ]
    refine wpAnyH_take (i := 2) (oi := ⟨some 35, Op.move (Operand.tmp 11), 36, _, _, none⟩) (v := .slice (some ⟨gl, 0, none⟩) n' cap) rfl (by kernel_rfl) (by kernel_rfl) (by kernel_rfl) (fun _ _ _ h => h) (Or.inl ⟨by rfl, fun w hS => by go_simp⟩) hHeld ?_
    simp only [Act.put, List.setIfInBounds_toArray, List.set_cons_zero, List.set_cons_succ]
    refine wpAnyH_take (i := 3) (oi := ⟨some 36, Op.move (Operand.tmp 4), 3, _, _, none⟩) (v := .int .i64 (k' : Int)) rfl (by kernel_rfl) (by kernel_rfl) (by kernel_rfl) (fun _ _ _ h => h) (Or.inl ⟨by rfl, fun w hS => by go_simp⟩) hHeld ?_
    simp only [Act.put, List.setIfInBounds_toArray, List.set_cons_zero, List.set_cons_succ]
    refine wpAnyH_take (i := 4) (oi := ⟨some 37, Op.move (Operand.tmp 11), 36, _, _, none⟩) (v := .slice (some ⟨gl, 0, none⟩) n' cap) rfl (by kernel_rfl) (by kernel_rfl) (by kernel_rfl) (fun _ _ _ h => h) (Or.inl ⟨by rfl, fun w hS => by go_simp⟩) hHeld ?_
    simp only [Act.put, List.setIfInBounds_toArray, List.set_cons_zero, List.set_cons_succ]
    refine wpAnyH_take (i := 5) (oi := ⟨some 38, Op.move (Operand.tmp 4), 3, _, _, none⟩) (v := .int .i64 (k' : Int)) rfl (by kernel_rfl) (by kernel_rfl) (by kernel_rfl) (fun _ _ _ h => h) (Or.inl ⟨by rfl, fun w hS => by go_simp⟩) hHeld ?_
    simp only [Act.put, List.setIfInBounds_toArray, List.set_cons_zero, List.set_cons_succ]
    refine wpAnyH_take (i := 8) (oi := ⟨some 41, Op.move (Operand.tmp 11), 36, _, _, none⟩) (v := .slice (some ⟨gl, 0, none⟩) n' cap) rfl (by kernel_rfl) (by kernel_rfl) (by kernel_rfl) (fun _ _ _ h => h) (Or.inl ⟨by rfl, fun w hS => by go_simp⟩) hHeld ?_
    simp only [Act.put, List.setIfInBounds_toArray, List.set_cons_zero, List.set_cons_succ]
    refine wpAnyH_take (i := 9) (oi := ⟨some 42, Op.move (Operand.tmp 3), 3, _, _, none⟩) (v := .int .i64 (k : Int)) rfl (by kernel_rfl) (by kernel_rfl) (by kernel_rfl) (fun _ _ _ h => h) (Or.inl ⟨by rfl, fun w hS => by go_simp⟩) hHeld ?_
    simp only [Act.put, List.setIfInBounds_toArray, List.set_cons_zero, List.set_cons_succ]
    refine wpAnyH_take (i := 6) (oi := ⟨some 39, Op.indexAddr 36 (Operand.tmp 37) (Operand.tmp 38), 0, _, _, none⟩) (v := .pointer (some ⟨gl, k', none⟩)) rfl (by kernel_rfl) (by kernel_rfl) (by kernel_rfl) (fun _ _ _ h => h) (Or.inl ⟨by rfl, fun w hS => by go_simp⟩) hHeld ?_
    simp only [Act.put, List.setIfInBounds_toArray, List.set_cons_zero, List.set_cons_succ]
    refine wpAnyH_take (i := 10) (oi := ⟨some 43, Op.indexAddr 36 (Operand.tmp 41) (Operand.tmp 42), 0, _, _, none⟩) (v := .pointer (some ⟨gl, k, none⟩)) rfl (by kernel_rfl) (by kernel_rfl) (by kernel_rfl) (fun _ _ _ h => h) (Or.inl ⟨by rfl, fun w hS => by go_simp⟩) hHeld ?_
    simp only [Act.put, List.setIfInBounds_toArray, List.set_cons_zero, List.set_cons_succ]
    refine wpAnyH_ready (rs := [7, 11]) (by kernel_rfl) (by simp) ?_
    refine AllReadyH.cons (o := ⟨some 40, Op.load 39 (Operand.tmp 39), 39, _, _, none⟩) rfl (fun K hK => ?_) (AllReadyH.cons (o := ⟨some 44, Op.load 39 (Operand.tmp 43), 39, _, _, none⟩) rfl (fun K hK => ?_) AllReadyH.nil)
    all_goals rw [if_pos (by rfl)]
    · have c_ := CL.out k' _ Hp'.out
      refine wp_val (.slice ra' rn' rc') (by go_simp) ?_
      clear c_
      refine hK _ _ trivial fun hHl' => ?_
      clear hK
      simp only [Act.put, List.setIfInBounds_toArray, List.set_cons_zero, List.set_cons_succ]
      refine wpAnyH_ready (rs := [11]) (by kernel_rfl) (by simp) ?_
      refine AllReadyH.cons (o := ⟨some 44, Op.load 39 (Operand.tmp 43), 39, _, _, none⟩) rfl (fun K hK => ?_) AllReadyH.nil
      rw [if_pos (by rfl)]
      have c_ := CL.out k _ Hp.out
      refine wp_val (.slice ra rn rc) (by go_simp) ?_
      clear c_
      refine hK _ _ trivial fun hHl => ?_
      clear hK
      simp only [Act.put, List.setIfInBounds_toArray, List.set_cons_zero, List.set_cons_succ]
      refine wpAnyH_take (i := 12) (oi := ⟨some 45, Op.indexAddr 36 (Operand.tmp 33) (Operand.tmp 34), 0, _, _, none⟩) (v := .pointer (some ⟨gl, k, none⟩)) rfl (by kernel_rfl) (by kernel_rfl) (by kernel_rfl) (fun _ _ _ h => h) (Or.inl ⟨by rfl, fun w hS => by go_simp⟩) hHl ?_
      simp only [Act.put, List.setIfInBounds_toArray, List.set_cons_zero, List.set_cons_succ]
      refine wpAnyH_ready (rs := [13]) (by kernel_rfl) (by simp) ?_
      refine AllReadyH.cons (o := ⟨none, Op.store 39 (Operand.tmp 45) (Operand.tmp 40), 0, _, _, none⟩) rfl (fun K hK => ?_) AllReadyH.nil
      rw [if_pos (by rfl)]
      have hB := CB.out
      have c_ := CL.out k _ Hp.out
      obtain ⟨cur, hBl⟩ := hB
      have f_ := hBl.frozen k
      refine wp_valS (w4.setCell ⟨gl, k, none⟩ (.slice ra' rn' rc')) (by go_simp) ?_
      clear c_ f_
      have hB5 := hBl.set k (.slice ra' rn' rc')
      have c5_ : ∃ z, (w4.setCell ⟨gl, k, none⟩ (.slice ra' rn' rc')).cell? ⟨gl, k', none⟩ = some z := by
        by_cases e : k' = k
        · subst e; exact ⟨.slice ra' rn' rc', World.cell?_setCell_same w4 ⟨gl, k', none⟩ (.slice ra' rn' rc') (CL.out k' _ Hp.out)⟩
        · exact ⟨.slice ra' rn' rc', by rw [World.cell?_setCell_other _ _ _ _ (by simp [e])]; exact CL.out k' _ Hp'.out⟩
      have f5_ := hB5.frozen k'
      refine hK _ _ trivial fun hHs => ?_
      clear hK
      simp only [Act.put, List.setIfInBounds_toArray, List.set_cons_zero, List.set_cons_succ]
      refine wpAnyH_take (i := 14) (oi := ⟨some 46, Op.indexAddr 36 (Operand.tmp 35) (Operand.tmp 36), 0, _, _, none⟩) (v := .pointer (some ⟨gl, k', none⟩)) rfl (by kernel_rfl) (by kernel_rfl) (by kernel_rfl) (fun _ _ _ h => h) (Or.inl ⟨by rfl, fun w hS => by go_simp⟩) hHs ?_
      simp only [Act.put, List.setIfInBounds_toArray, List.set_cons_zero, List.set_cons_succ]
      refine wpAnyH_ready (rs := [15]) (by kernel_rfl) (by simp) ?_
      refine AllReadyH.cons (o := ⟨none, Op.store 39 (Operand.tmp 46) (Operand.tmp 44), 0, _, _, none⟩) rfl (fun K hK => ?_) AllReadyH.nil
      rw [if_pos (by rfl)]
      obtain ⟨z, c_⟩ := c5_
      refine wp_valS ((w4.setCell ⟨gl, k, none⟩ (.slice ra' rn' rc')).setCell ⟨gl, k', none⟩ (.slice ra rn rc)) (by go_simp) ?_
      have N9 : Keep (PmN w p mb N Ks (Ks.set (ix f t) ⟨(lkOf Ks f t).v, ((lkOf Ks f t).R.set k (.slice ra' rn' rc', b')).set k' (.slice ra rn rc, b)⟩) 1 ((w4.setCell ⟨gl, k, none⟩ (.slice ra' rn' rc')).setCell ⟨gl, k', none⟩ (.slice ra rn rc))) := ⟨N4.out.trans (N4.out.at_.swapped hth Hv.out Hn.out Hp.out Hp'.out)⟩
      refine hK _ _ trivial fun hHs2 => ?_
      clear hK
      simp only [Act.put, List.setIfInBounds_toArray, List.set_cons_zero, List.set_cons_succ]
      refine wpAnyH_done (by kernel_rfl) ?_ _
      refine hK7 _ _ ?_
      refine wp_seq_k fun K8 hK8 => ?_
      refine wp_region_list (WL.out ?_)
      refine WL.val (by kernel_rfl) (.int .i64 0) (by go_simp) ?_
      simp only [Act.put, List.setIfInBounds_toArray, List.set_cons_zero, List.set_cons_succ]
      refine WL.nil ?_
      refine hK8 _ _ ?_
      refine wp_ret ?_
      have l1 := N9.out.at_.bx.c 0 (rfl : _ = some (Value.int .i32 1))
      have fr1 := N9.out.at_.bx.frozen 0
      try simp only [Exit.inBlock, Exit.then]
      refine leaves_cons (f := 37) (args := #[.pointer (some ⟨p, 0, none⟩)]) (by simp) (by simp [go_sem]) ?_
      refine (Go.MuLone.unlock_deferred Tryd.muLib ⟨p, 0, none⟩ .returning _ l1 fr1).mono ?_
      rintro e u' w'' ⟨rfl, rfl, rfl⟩
      have NF := N9.out.trans (N9.out.at_.relock 0)
      exact ⟨_, results_tmp rfl _ _ _, 0, _, rfl, h4_1.symm.trans (Her.out.trans fdE_two), NF, fun e => absurd rfl e, fun _ => ⟨_, _, Hp.out, Hp'.out, rfl⟩⟩
    · have c_ := CL.out k _ Hp.out
      refine wp_val (.slice ra rn rc) (by go_simp) ?_
      clear c_
      refine hK _ _ trivial fun hHl => ?_
      clear hK
      simp only [Act.put, List.setIfInBounds_toArray, List.set_cons_zero, List.set_cons_succ]
      refine wpAnyH_ready (rs := [7]) (by kernel_rfl) (by simp) ?_
      refine AllReadyH.cons (o := ⟨some 40, Op.load 39 (Operand.tmp 39), 39, _, _, none⟩) rfl (fun K hK => ?_) AllReadyH.nil
      rw [if_pos (by rfl)]
      have c_ := CL.out k' _ Hp'.out
      refine wp_val (.slice ra' rn' rc') (by go_simp) ?_
      clear c_
      refine hK _ _ trivial fun hHl' => ?_
      clear hK
      simp only [Act.put, List.setIfInBounds_toArray, List.set_cons_zero, List.set_cons_succ]
      refine wpAnyH_take (i := 12) (oi := ⟨some 45, Op.indexAddr 36 (Operand.tmp 33) (Operand.tmp 34), 0, _, _, none⟩) (v := .pointer (some ⟨gl, k, none⟩)) rfl (by kernel_rfl) (by kernel_rfl) (by kernel_rfl) (fun _ _ _ h => h) (Or.inl ⟨by rfl, fun w hS => by go_simp⟩) hHl' ?_
      simp only [Act.put, List.setIfInBounds_toArray, List.set_cons_zero, List.set_cons_succ]
      refine wpAnyH_ready (rs := [13]) (by kernel_rfl) (by simp) ?_
      refine AllReadyH.cons (o := ⟨none, Op.store 39 (Operand.tmp 45) (Operand.tmp 40), 0, _, _, none⟩) rfl (fun K hK => ?_) AllReadyH.nil
      rw [if_pos (by rfl)]
      have hB := CB.out
      have c_ := CL.out k _ Hp.out
      obtain ⟨cur, hBl⟩ := hB
      have f_ := hBl.frozen k
      refine wp_valS (w4.setCell ⟨gl, k, none⟩ (.slice ra' rn' rc')) (by go_simp) ?_
      clear c_ f_
      have hB5 := hBl.set k (.slice ra' rn' rc')
      have c5_ : ∃ z, (w4.setCell ⟨gl, k, none⟩ (.slice ra' rn' rc')).cell? ⟨gl, k', none⟩ = some z := by
        by_cases e : k' = k
        · subst e; exact ⟨.slice ra' rn' rc', World.cell?_setCell_same w4 ⟨gl, k', none⟩ (.slice ra' rn' rc') (CL.out k' _ Hp.out)⟩
        · exact ⟨.slice ra' rn' rc', by rw [World.cell?_setCell_other _ _ _ _ (by simp [e])]; exact CL.out k' _ Hp'.out⟩
      have f5_ := hB5.frozen k'
      refine hK _ _ trivial fun hHs => ?_
      clear hK
      simp only [Act.put, List.setIfInBounds_toArray, List.set_cons_zero, List.set_cons_succ]
      refine wpAnyH_take (i := 14) (oi := ⟨some 46, Op.indexAddr 36 (Operand.tmp 35) (Operand.tmp 36), 0, _, _, none⟩) (v := .pointer (some ⟨gl, k', none⟩)) rfl (by kernel_rfl) (by kernel_rfl) (by kernel_rfl) (fun _ _ _ h => h) (Or.inl ⟨by rfl, fun w hS => by go_simp⟩) hHs ?_
      simp only [Act.put, List.setIfInBounds_toArray, List.set_cons_zero, List.set_cons_succ]
      refine wpAnyH_ready (rs := [15]) (by kernel_rfl) (by simp) ?_
      refine AllReadyH.cons (o := ⟨none, Op.store 39 (Operand.tmp 46) (Operand.tmp 44), 0, _, _, none⟩) rfl (fun K hK => ?_) AllReadyH.nil
      rw [if_pos (by rfl)]
      obtain ⟨z, c_⟩ := c5_
      refine wp_valS ((w4.setCell ⟨gl, k, none⟩ (.slice ra' rn' rc')).setCell ⟨gl, k', none⟩ (.slice ra rn rc)) (by go_simp) ?_
      have N9 : Keep (PmN w p mb N Ks (Ks.set (ix f t) ⟨(lkOf Ks f t).v, ((lkOf Ks f t).R.set k (.slice ra' rn' rc', b')).set k' (.slice ra rn rc, b)⟩) 1 ((w4.setCell ⟨gl, k, none⟩ (.slice ra' rn' rc')).setCell ⟨gl, k', none⟩ (.slice ra rn rc))) := ⟨N4.out.trans (N4.out.at_.swapped hth Hv.out Hn.out Hp.out Hp'.out)⟩
      refine hK _ _ trivial fun hHs2 => ?_
      clear hK
      simp only [Act.put, List.setIfInBounds_toArray, List.set_cons_zero, List.set_cons_succ]
      refine wpAnyH_done (by kernel_rfl) ?_ _
      refine hK7 _ _ ?_
      refine wp_seq_k fun K9 hK9 => ?_
      refine wp_region_list (WL.out ?_)
      refine WL.val (by kernel_rfl) (.int .i64 0) (by go_simp) ?_
      simp only [Act.put, List.setIfInBounds_toArray, List.set_cons_zero, List.set_cons_succ]
      refine WL.nil ?_
      refine hK9 _ _ ?_
      refine wp_ret ?_
      have l1 := N9.out.at_.bx.c 0 (rfl : _ = some (Value.int .i32 1))
      have fr1 := N9.out.at_.bx.frozen 0
      try simp only [Exit.inBlock, Exit.then]
      refine leaves_cons (f := 37) (args := #[.pointer (some ⟨p, 0, none⟩)]) (by simp) (by simp [go_sem]) ?_
      refine (Go.MuLone.unlock_deferred Tryd.muLib ⟨p, 0, none⟩ .returning _ l1 fr1).mono ?_
      rintro e u' w'' ⟨rfl, rfl, rfl⟩
      have NF := N9.out.trans (N9.out.at_.relock 0)
      exact ⟨_, results_tmp rfl _ _ _, 0, _, rfl, h4_1.symm.trans (Her.out.trans fdE_two), NF, fun e => absurd rfl e, fun _ => ⟨_, _, Hp.out, Hp'.out, rfl⟩⟩
  · skip
    refine WL.val (by kernel_rfl) (.bool true) (by go_simp) ?_
    simp only [Act.put, List.setIfInBounds_toArray, List.set_cons_zero, List.set_cons_succ]
    refine WL.nil ?_
    refine hK6 _ _ ?_
    refine wp_cond_true rfl ?_
    refine wp_seq_k fun K10 hK10 => ?_
    refine wp_region_list (WL.out ?_)
    refine WL.val (by kernel_rfl) (.int .i64 er) (by go_simp) ?_
    simp only [Act.put, List.setIfInBounds_toArray, List.set_cons_zero, List.set_cons_succ]
    refine WL.val (by kernel_rfl) (.int .i64 er) (by go_simp) ?_
    simp only [Act.put, List.setIfInBounds_toArray, List.set_cons_zero, List.set_cons_succ]
    refine WL.nil ?_
    refine hK10 _ _ ?_
    refine wp_ret ?_
    have l1 := N2.out.at_.bx.c 0 (rfl : _ = some (Value.int .i32 1))
    have fr1 := N2.out.at_.bx.frozen 0
    try simp only [Exit.inBlock, Exit.then]
    refine leaves_cons (f := 37) (args := #[.pointer (some ⟨p, 0, none⟩)]) (by simp) (by simp [go_sem]) ?_
    refine (Go.MuLone.unlock_deferred Tryd.muLib ⟨p, 0, none⟩ .returning _ l1 fr1).mono ?_
    rintro e u' w'' ⟨rfl, rfl, rfl⟩
    have NF := N2.out.trans (N2.out.at_.relock 0)
    exact ⟨_, results_tmp rfl _ _ _, er, Ks, rfl, Her.out.trans fdE_two, NF, fun _ => rfl, fun e => absurd e h4_1⟩
set_option maxRecDepth 8000 in
theorem pci (w : World) (p mb N : Nat) (Ks : List Lk) (f t : Int) (i m : Int) (HM : Keep (PmAt w p mb N 0 Ks)) : Calls Tryd.prog 21 #[.pointer (some ⟨p, 0, none⟩), .int .i64 f, .int .i64 t, .int .i64 i, .int .i64 m] w fun e w' => ∃ er K', e = .returned (.int .i64 er) ∧ er = nmE N Ks f t i ∧ PmN w p mb N Ks K' 0 w' ∧ (er ≠ 0 → K' = Ks) ∧ (er = 0 → ∃ q, (lkOf Ks f t).R[i.toNat]? = some q ∧ (q.2.length = 0 → K' = Ks) ∧ (q.2.length ≠ 0 → ∃ u, K' = Ks.set (ix f t) ⟨(lkOf Ks f t).v, (lkOf Ks f t).R.set i.toNat (u, q.2.take (rnd m q.2.length))⟩)) := by
  go_enter_defers Tryd.func21, Tryd.ntmps21
  refine wp_seq_k fun K1 hK1 => ?_
  refine wp_region_list (WL.out ?_)
  refine WL.val (by kernel_rfl) (.int .i64 0) (by go_simp) ?_
  simp only [Act.put, List.setIfInBounds_toArray, List.set_cons_zero, List.set_cons_succ]
  refine WL.nil ?_
  refine hK1 _ _ ?_
  refine wp_seq_k fun K2 hK2 => ?_
  refine wp_region_list (WL.out ?_)
  refine WL.val (by kernel_rfl) (.pointer (some ⟨p, 0, none⟩)) (by go_simp) ?_
  simp only [Act.put, List.setIfInBounds_toArray, List.set_cons_zero, List.set_cons_succ]
  refine WL.val (by kernel_rfl) (.pointer (some ⟨p, 0, none⟩)) (by go_simp) ?_
  simp only [Act.put, List.setIfInBounds_toArray, List.set_cons_zero, List.set_cons_succ]
  refine WL.val (by kernel_rfl) (.pointer (some ⟨p, 0, none⟩)) (by go_simp) ?_
  simp only [Act.put, List.setIfInBounds_toArray, List.set_cons_zero, List.set_cons_succ]
  refine WL.callF (by kernel_rfl) 36 _ _ rfl Tryd.in36 #[.pointer (some ⟨p, 0, none⟩)] (by simp [Act.eval]) ?_
  refine (Go.MuLone.lock_free Tryd.muLib ⟨p, 0, none⟩ w (HM.out.bx.c 0 rfl) (HM.out.bx.frozen 0)).mono ?_
  rintro e w1 ⟨rfl, hw1⟩
  refine ⟨_, rfl, ?_⟩
  have N1 : Keep (PmN w p mb N Ks Ks 1 w1) := ⟨by rw [hw1]; exact HM.out.relock 1⟩
  clear hw1
  simp only [Act.put, List.setIfInBounds_toArray, List.set_cons_zero, List.set_cons_succ]
  refine WL.nil ?_
  refine hK2 _ _ ?_
  refine wp_seq_k fun K3 hK3 => ?_
  refine wp_region_list (WL.out ?_)
  refine WL.val (by kernel_rfl) (.pointer (some ⟨p, 0, none⟩)) (by go_simp) ?_
  simp only [Act.put, List.setIfInBounds_toArray, List.set_cons_zero, List.set_cons_succ]
  refine WL.val (by kernel_rfl) (.pointer (some ⟨p, 0, none⟩)) (by go_simp) ?_
  simp only [Act.put, List.setIfInBounds_toArray, List.set_cons_zero, List.set_cons_succ]
  refine WL.val (by kernel_rfl) (.pointer (some ⟨p, 0, none⟩)) (by go_simp) ?_
  simp only [Act.put, List.setIfInBounds_toArray, List.set_cons_zero, List.set_cons_succ]
  refine WL.defer (by kernel_rfl) { target := .fn (.func 37) #[], args := #[.pointer (some ⟨p, 0, none⟩)] } (by go_simp) ?_
  simp only [Act.put]
  refine WL.nil ?_
  refine hK3 _ _ ?_
  refine wp_seq_k fun K4 hK4 => ?_
  refine wp_region_list (WL.out ?_)
  refine WL.val (by kernel_rfl) (.pointer (some ⟨p, 0, none⟩)) (by go_simp) ?_
  simp only [Act.put, List.setIfInBounds_toArray, List.set_cons_zero, List.set_cons_succ]
  refine WL.val (by kernel_rfl) (.int .i64 f) (by go_simp) ?_
  simp only [Act.put, List.setIfInBounds_toArray, List.set_cons_zero, List.set_cons_succ]
  refine WL.val (by kernel_rfl) (.int .i64 t) (by go_simp) ?_
  simp only [Act.put, List.setIfInBounds_toArray, List.set_cons_zero, List.set_cons_succ]
  refine WL.val (by kernel_rfl) (.int .i64 i) (by go_simp) ?_
  simp only [Act.put, List.setIfInBounds_toArray, List.set_cons_zero, List.set_cons_succ]
  refine WL.bs (by kernel_rfl) 89 1 #[(0, .tmp 25)] rfl #[(0, .int .i64 i)] (by simp [Act.eval]) _ _ (bsI1 i w1) ?_
  have bb := below_new w1 (.cells #[.int .i64 i] 3)
  have QN : Keep (Blk (w1.alloc (.cells #[.int .i64 i] 3)) w1.heap.size 3 #[.int .i64 i]) := ⟨Blk.new w1 3 #[.int .i64 i]⟩
  have N2 : Keep (PmN w p mb N Ks Ks 1 (w1.alloc (.cells #[.int .i64 i] 3))) := ⟨N1.out.trans (PmN.below N1.out.at_ bb)⟩
  clear bb N1
  generalize w1.alloc (.cells #[.int .i64 i] 3) = w2 at *
  obtain ⟨gn, hgn⟩ : ∃ z, Keep (z = w1.heap.size) := ⟨_, ⟨rfl⟩⟩
  rw [← hgn.out] at QN ⊢
  have HNm : Keep (NmAt w2 (some ⟨gn, 0, none⟩) [i]) := ⟨fun j i hj => ⟨gn, rfl, QN.out.c j (by rcases j with _ | j <;> simp_all)⟩⟩
  simp only [Act.put, List.setIfInBounds_toArray, List.set_cons_zero, List.set_cons_succ]
  refine WL.callF (by kernel_rfl) 38 _ _ rfl Tryd.in38 #[.pointer (some ⟨p, 0, none⟩), .int .i64 f, .int .i64 t, .slice (some ⟨gn, 0, none⟩) 1 1] (by simp [Act.eval]) ?_
  refine (find_any w2 p mb N 1 Ks f t (some ⟨gn, 0, none⟩) 1 1 [i] N2.out.at_ rfl HNm.out (by omega)).mono ?_
  rintro e wz_ ⟨q, er, rfl, her, hq, hw_⟩
  refine ⟨_, rfl, ?_⟩
  have hw_ := hw_.symm
  subst hw_
  have Her := Keep.mk her
  have Hq := Keep.mk hq
  clear her hq
  simp only [Act.put, List.setIfInBounds_toArray, List.set_cons_zero, List.set_cons_succ]
  refine WL.val (by kernel_rfl) (.tuple #[q, .int .i64 er]) (by go_simp) ?_
  simp only [Act.put, List.setIfInBounds_toArray, List.set_cons_zero, List.set_cons_succ]
  refine WL.val (by kernel_rfl) (q) (by go_simp) ?_
  simp only [Act.put, List.setIfInBounds_toArray, List.set_cons_zero, List.set_cons_succ]
  refine WL.val (by kernel_rfl) (.int .i64 er) (by go_simp) ?_
  simp only [Act.put, List.setIfInBounds_toArray, List.set_cons_zero, List.set_cons_succ]
  refine WL.val (by kernel_rfl) (q) (by go_simp) ?_
  simp only [Act.put, List.setIfInBounds_toArray, List.set_cons_zero, List.set_cons_succ]
  refine WL.val (by kernel_rfl) (.int .i64 er) (by go_simp) ?_
  simp only [Act.put, List.setIfInBounds_toArray, List.set_cons_zero, List.set_cons_succ]
  refine WL.nil ?_
  refine hK4 _ _ ?_
  refine wp_seq_k fun K5 hK5 => ?_
  refine wp_seq_k fun K6 hK6 => ?_
  refine wp_region_list (WL.out ?_)
  refine WL.val (by kernel_rfl) (.int .i64 er) (by go_simp) ?_
  simp only [Act.put, List.setIfInBounds_toArray, List.set_cons_zero, List.set_cons_succ]
  by_cases h4_1 : er = 0
  · skip
    refine WL.val (by kernel_rfl) (.bool false) (by go_simp) ?_
    simp only [Act.put, List.setIfInBounds_toArray, List.set_cons_zero, List.set_cons_succ]
    refine WL.nil ?_
    refine hK6 _ _ ?_
    refine wp_cond_false rfl ?_
    refine wp_skip ?_
    refine hK5 _ _ ?_
    refine wp_seq_k fun K7 hK7 => ?_
    refine wp_seq_k fun K8 hK8 => ?_
    refine wp_region_list (WL.out ?_)
    have hz : er = 0 := h4_1
    obtain ⟨k, n, gl, cap, ei, hk, hn, hnn, hc, hcm, hv, hth, hcl⟩ := N2.out.at_.open_ (fdE_one.symm.trans (Her.out.symm.trans hz))
    have hqv := Hq.out hz
    rw [hv] at hqv
    subst ei hqv
    have Hk := Keep.mk hk
    have Hn := Keep.mk hn
    have Hnn := Keep.mk hnn
    have Hc := Keep.mk hc
    have Hcm := Keep.mk hcm
    have Hv := Keep.mk hv
    have Hcl := Keep.mk hcl
    clear hk hn hnn hc hcm hv hcl
    refine WL.val (by kernel_rfl) (.slice (some ⟨gl, 0, none⟩) n cap) (by go_simp) ?_
    simp only [Act.put, List.setIfInBounds_toArray, List.set_cons_zero, List.set_cons_succ]
    refine WL.val (by kernel_rfl) (.int .i64 (k : Int)) (by go_simp) ?_
    simp only [Act.put, List.setIfInBounds_toArray, List.set_cons_zero, List.set_cons_succ]
    have hk_ := Hk.out
    have hk1_ := Nat.not_le.2 Hk.out
    have hk2_ := Int.ofNat_lt.2 Hk.out
    refine WL.val (by kernel_rfl) (.pointer (some ⟨gl, k, none⟩)) (by go_simp) ?_
    clear hk_ hk1_ hk2_
    simp only [Act.put, List.setIfInBounds_toArray, List.set_cons_zero, List.set_cons_succ]
    obtain ⟨⟨um, b⟩, hp⟩ : ∃ q, (lkOf Ks f t).R[k]? = some q := ⟨_, List.getElem?_eq_getElem (by rw [Hn.out]; exact Hk.out)⟩
    have d_ := Hcl.out k _ hp
    have Hp := Keep.mk hp
    obtain ⟨hO, hL2, hBy⟩ := (N2.out.at_.link hth).2.rows _ (List.mem_of_getElem? hp)
    obtain ⟨ra, rn, rc, hu⟩ := hO.sl
    simp only at hu
    subst hu
    have Hrn : Keep (b.length = rn) := ⟨by obtain ⟨_, _, e⟩ := row_form hO.row; injection e with _ e; exact e.symm⟩
    have hr9 : rn ≤ 2097194 := by rw [← Hrn.out]; exact hL2
    have HO := Keep.mk hO
    have HL2 := Keep.mk hL2
    have HBy := Keep.mk hBy
    clear hp hO hL2 hBy
    refine WL.val (by kernel_rfl) (.slice ra rn rc) (by go_simp) ?_
    clear d_
    simp only [Act.put, List.setIfInBounds_toArray, List.set_cons_zero, List.set_cons_succ]
    refine WL.val (by kernel_rfl) (.slice ra rn rc) (by go_simp) ?_
    simp only [Act.put, List.setIfInBounds_toArray, List.set_cons_zero, List.set_cons_succ]
    refine WL.nil ?_
    refine hK8 _ _ ?_
    refine wp_seq_k fun K9 hK9 => ?_
    refine wp_region_list (WL.out ?_)
    refine WL.val (by kernel_rfl) (.slice ra rn rc) (by go_simp) ?_
    simp only [Act.put, List.setIfInBounds_toArray, List.set_cons_zero, List.set_cons_succ]
    refine WL.val (by kernel_rfl) (.int .i64 (rn : Int)) (by go_simp) ?_
    simp only [Act.put, List.setIfInBounds_toArray, List.set_cons_zero, List.set_cons_succ]
    by_cases h7_2 : 0 < rn
    · skip
      refine WL.val (by kernel_rfl) (.bool true) (by go_simp) ?_
      simp only [Act.put, List.setIfInBounds_toArray, List.set_cons_zero, List.set_cons_succ]
      refine WL.nil ?_
      refine hK9 _ _ ?_
      refine wp_cond_true rfl ?_
      refine wp_region_list (WL.out ?_)
      refine WL.val (by kernel_rfl) (.slice (some ⟨gl, 0, none⟩) n cap) (by go_simp) ?_
      simp only [Act.put, List.setIfInBounds_toArray, List.set_cons_zero, List.set_cons_succ]
      refine WL.val (by kernel_rfl) (.int .i64 (k : Int)) (by go_simp) ?_
      simp only [Act.put, List.setIfInBounds_toArray, List.set_cons_zero, List.set_cons_succ]
      refine WL.val (by kernel_rfl) (.slice ra rn rc) (by go_simp) ?_
      simp only [Act.put, List.setIfInBounds_toArray, List.set_cons_zero, List.set_cons_succ]
      refine WL.val (by kernel_rfl) (.int .i64 m) (by go_simp) ?_
      simp only [Act.put, List.setIfInBounds_toArray, List.set_cons_zero, List.set_cons_succ]
      refine WL.val (by kernel_rfl) (.slice ra rn rc) (by go_simp) ?_
      simp only [Act.put, List.setIfInBounds_toArray, List.set_cons_zero, List.set_cons_succ]
      refine WL.val (by kernel_rfl) (.int .i64 (rn : Int)) (by go_simp) ?_
      simp only [Act.put, List.setIfInBounds_toArray, List.set_cons_zero, List.set_cons_succ]
      refine WL.callF (by kernel_rfl) 41 _ _ rfl Tryd.in41 #[.int .i64 m, .int .i64 (rn : Int)] (by simp [Act.eval]) ?_
      refine (prn_any w2 m rn (by omega) (by omega)).mono ?_
      rintro e wz2 ⟨rfl, hw_⟩
      refine ⟨_, rfl, ?_⟩
      have hw_ := hw_.symm
      subst hw_
      have hj9 := rnd_lt m (show 1 ≤ rn by omega)
      have hrt := row_take HO.out.row Hrn.out (Nat.le_of_lt hj9) (by omega)
      simp only [Act.put, List.setIfInBounds_toArray, List.set_cons_zero, List.set_cons_succ]
      refine WL.slr (by kernel_rfl) 39 (.tmp 42) none (some (.tmp 46)) none rfl _ none (some (.int .i64 ((rnd m rn : Nat) : Int))) none (.slice ra (rnd m rn) rc) rfl rfl rfl rfl (sl_run ra rn rc (rnd m rn) (by have := hrt.2; omega) _) ?_
      simp only [Act.put, List.setIfInBounds_toArray, List.set_cons_zero, List.set_cons_succ]
      refine WL.callF (by kernel_rfl) 42 _ _ rfl Tryd.in42 #[.slice ra (rnd m rn) rc] (by simp [Act.eval]) ?_
      refine (clo_any w2 _ (b.take (rnd m rn)) hrt.1 (by rw [List.length_take]; omega)).mono ?_
      rintro e w3 ⟨u3, rfl, k1, k2, k3⟩
      refine ⟨_, rfl, ?_⟩
      have U1 := Keep.mk k1
      have U2 := Keep.mk k2
      have B3 := Keep.mk k3
      obtain ⟨ua, un, uc, hu⟩ := k1.sl
      subst hu
      clear k1 k2 k3 hrt
      simp only [Act.put, List.setIfInBounds_toArray, List.set_cons_zero, List.set_cons_succ]
      have hk_ := Hk.out
      have hk1_ := Nat.not_le.2 Hk.out
      have hk2_ := Int.ofNat_lt.2 Hk.out
      refine WL.val (by kernel_rfl) (.pointer (some ⟨gl, k, none⟩)) (by go_simp) ?_
      clear hk_ hk1_ hk2_
      simp only [Act.put, List.setIfInBounds_toArray, List.set_cons_zero, List.set_cons_succ]
      have ho4 := ((N2.out.at_.below B3.out).link hth).2.own
      rw [Hv.out, Hn.out] at ho4
      have c_ := owns_cells ho4 k (.slice ra rn rc) (by rw [List.getElem?_map, Hp.out]; rfl)
      have f_ : w3.frozen? ⟨gl, k, none⟩ = false := by
        rcases ho4.2 with ⟨h0, _⟩ | ⟨g', cap', cur, hv, h2, h3, _⟩
        · cases h0
        · injection hv with e1; injection e1 with e1; injection e1 with e1; subst e1; exact Blk.frozen h3 k
      refine WL.cell (by kernel_rfl) (w3.setCell ⟨gl, k, none⟩ (.slice ua un uc)) (by go_simp) ?_
      have N9 : Keep (PmN w p mb N Ks (Ks.set (ix f t) ⟨(lkOf Ks f t).v, (lkOf Ks f t).R.set k (.slice ua un uc, b.take (rnd m rn))⟩) 1 (w3.setCell ⟨gl, k, none⟩ (.slice ua un uc))) := ⟨N2.out.trans (N2.out.at_.newmsg hth Hv.out Hn.out B3.out U1.out U2.out (by rw [List.length_take]; have := HL2.out; omega) (HBy.out.take _))⟩
      clear ho4 c_ f_
      simp only [Act.put]
      refine WL.nil ?_
      refine hK7 _ _ ?_
      refine wp_seq_k fun K10 hK10 => ?_
      refine wp_region_list (WL.out ?_)
      refine WL.val (by kernel_rfl) (.int .i64 0) (by go_simp) ?_
      simp only [Act.put, List.setIfInBounds_toArray, List.set_cons_zero, List.set_cons_succ]
      refine WL.nil ?_
      refine hK10 _ _ ?_
      refine wp_ret ?_
      have l1 := N9.out.at_.bx.c 0 (rfl : _ = some (Value.int .i32 1))
      have fr1 := N9.out.at_.bx.frozen 0
      try simp only [Exit.inBlock, Exit.then]
      refine leaves_cons (f := 37) (args := #[.pointer (some ⟨p, 0, none⟩)]) (by simp) (by simp [go_sem]) ?_
      refine (Go.MuLone.unlock_deferred Tryd.muLib ⟨p, 0, none⟩ .returning _ l1 fr1).mono ?_
      rintro e u' w'' ⟨rfl, rfl, rfl⟩
      have NF := N9.out.trans (N9.out.at_.relock 0)
      exact ⟨_, results_tmp rfl _ _ _, 0, _, rfl, h4_1.symm.trans (Her.out.trans fdE_one), NF, fun e => absurd rfl e, fun _ => ⟨_, Hp.out, fun e => absurd (Hrn.out.symm.trans e) (by omega), fun _ => ⟨_, by rw [Hrn.out]; rfl⟩⟩⟩
    · skip
      refine WL.val (by kernel_rfl) (.bool false) (by go_simp) ?_
      simp only [Act.put, List.setIfInBounds_toArray, List.set_cons_zero, List.set_cons_succ]
      refine WL.nil ?_
      refine hK9 _ _ ?_
      refine wp_cond_false rfl ?_
      refine wp_skip ?_
      refine hK7 _ _ ?_
      refine wp_seq_k fun K11 hK11 => ?_
      refine wp_region_list (WL.out ?_)
      refine WL.val (by kernel_rfl) (.int .i64 0) (by go_simp) ?_
      simp only [Act.put, List.setIfInBounds_toArray, List.set_cons_zero, List.set_cons_succ]
      refine WL.nil ?_
      refine hK11 _ _ ?_
      refine wp_ret ?_
      have l1 := N2.out.at_.bx.c 0 (rfl : _ = some (Value.int .i32 1))
      have fr1 := N2.out.at_.bx.frozen 0
      try simp only [Exit.inBlock, Exit.then]
      refine leaves_cons (f := 37) (args := #[.pointer (some ⟨p, 0, none⟩)]) (by simp) (by simp [go_sem]) ?_
      refine (Go.MuLone.unlock_deferred Tryd.muLib ⟨p, 0, none⟩ .returning _ l1 fr1).mono ?_
      rintro e u' w'' ⟨rfl, rfl, rfl⟩
      have NF := N2.out.trans (N2.out.at_.relock 0)
      exact ⟨_, results_tmp rfl _ _ _, 0, _, rfl, h4_1.symm.trans (Her.out.trans fdE_one), NF, fun e => absurd rfl e, fun _ => ⟨_, Hp.out, fun _ => rfl, fun e => absurd (Nat.pos_of_ne_zero (by rwa [Hrn.out] at e)) h7_2⟩⟩
  · skip
    refine WL.val (by kernel_rfl) (.bool true) (by go_simp) ?_
    simp only [Act.put, List.setIfInBounds_toArray, List.set_cons_zero, List.set_cons_succ]
    refine WL.nil ?_
    refine hK6 _ _ ?_
    refine wp_cond_true rfl ?_
    refine wp_seq_k fun K12 hK12 => ?_
    refine wp_region_list (WL.out ?_)
    refine WL.val (by kernel_rfl) (.int .i64 er) (by go_simp) ?_
    simp only [Act.put, List.setIfInBounds_toArray, List.set_cons_zero, List.set_cons_succ]
    refine WL.val (by kernel_rfl) (.int .i64 er) (by go_simp) ?_
    simp only [Act.put, List.setIfInBounds_toArray, List.set_cons_zero, List.set_cons_succ]
    refine WL.nil ?_
    refine hK12 _ _ ?_
    refine wp_ret ?_
    have l1 := N2.out.at_.bx.c 0 (rfl : _ = some (Value.int .i32 1))
    have fr1 := N2.out.at_.bx.frozen 0
    try simp only [Exit.inBlock, Exit.then]
    refine leaves_cons (f := 37) (args := #[.pointer (some ⟨p, 0, none⟩)]) (by simp) (by simp [go_sem]) ?_
    refine (Go.MuLone.unlock_deferred Tryd.muLib ⟨p, 0, none⟩ .returning _ l1 fr1).mono ?_
    rintro e u' w'' ⟨rfl, rfl, rfl⟩
    have NF := N2.out.trans (N2.out.at_.relock 0)
    exact ⟨_, results_tmp rfl _ _ _, er, Ks, rfl, Her.out.trans fdE_one, NF, fun _ => rfl, fun e => absurd e h4_1⟩

set_option maxRecDepth 8000 in
theorem pfl (w : World) (p mb N : Nat) (Ks : List Lk) (f t : Int) (i m by_ : Int) (HBb : Keep (0 ≤ by_ ∧ by_ < 256)) (HM : Keep (PmAt w p mb N 0 Ks)) : Calls Tryd.prog 19 #[.pointer (some ⟨p, 0, none⟩), .int .i64 f, .int .i64 t, .int .i64 i, .int .i64 m, .int .u8 by_] w fun e w' => ∃ er K', e = .returned (.int .i64 er) ∧ er = flE N Ks f t i by_ ∧ PmN w p mb N Ks K' 0 w' ∧ (er ≠ 0 → K' = Ks) ∧ (er = 0 → ∃ q u, (lkOf Ks f t).R[i.toNat]? = some q ∧ K' = Ks.set (ix f t) ⟨(lkOf Ks f t).v, (lkOf Ks f t).R.set i.toNat (u, q.2.set (rnd m q.2.length) (xor8 (q.2.getD (rnd m q.2.length) 0) by_))⟩) := by
  go_enter_defers Tryd.func19, Tryd.ntmps19
  refine wp_seq_k fun K1 hK1 => ?_
  refine wp_region_list (WL.out ?_)
  refine WL.val (by kernel_rfl) (.int .i64 0) (by go_simp) ?_
  simp only [Act.put, List.setIfInBounds_toArray, List.set_cons_zero, List.set_cons_succ]
  refine WL.nil ?_
  refine hK1 _ _ ?_
  refine wp_seq_k fun K2 hK2 => ?_
  refine wp_region_list (WL.out ?_)
  refine WL.val (by kernel_rfl) (.pointer (some ⟨p, 0, none⟩)) (by go_simp) ?_
  simp only [Act.put, List.setIfInBounds_toArray, List.set_cons_zero, List.set_cons_succ]
  refine WL.val (by kernel_rfl) (.pointer (some ⟨p, 0, none⟩)) (by go_simp) ?_
  simp only [Act.put, List.setIfInBounds_toArray, List.set_cons_zero, List.set_cons_succ]
  refine WL.val (by kernel_rfl) (.pointer (some ⟨p, 0, none⟩)) (by go_simp) ?_
  simp only [Act.put, List.setIfInBounds_toArray, List.set_cons_zero, List.set_cons_succ]
  refine WL.callF (by kernel_rfl) 36 _ _ rfl Tryd.in36 #[.pointer (some ⟨p, 0, none⟩)] (by simp [Act.eval]) ?_
  refine (Go.MuLone.lock_free Tryd.muLib ⟨p, 0, none⟩ w (HM.out.bx.c 0 rfl) (HM.out.bx.frozen 0)).mono ?_
  rintro e w1 ⟨rfl, hw1⟩
  refine ⟨_, rfl, ?_⟩
  have N1 : Keep (PmN w p mb N Ks Ks 1 w1) := ⟨by rw [hw1]; exact HM.out.relock 1⟩
  clear hw1
  simp only [Act.put, List.setIfInBounds_toArray, List.set_cons_zero, List.set_cons_succ]
  refine WL.nil ?_
  refine hK2 _ _ ?_
  refine wp_seq_k fun K3 hK3 => ?_
  refine wp_region_list (WL.out ?_)
  refine WL.val (by kernel_rfl) (.pointer (some ⟨p, 0, none⟩)) (by go_simp) ?_
  simp only [Act.put, List.setIfInBounds_toArray, List.set_cons_zero, List.set_cons_succ]
  refine WL.val (by kernel_rfl) (.pointer (some ⟨p, 0, none⟩)) (by go_simp) ?_
  simp only [Act.put, List.setIfInBounds_toArray, List.set_cons_zero, List.set_cons_succ]
  refine WL.val (by kernel_rfl) (.pointer (some ⟨p, 0, none⟩)) (by go_simp) ?_
  simp only [Act.put, List.setIfInBounds_toArray, List.set_cons_zero, List.set_cons_succ]
  refine WL.defer (by kernel_rfl) { target := .fn (.func 37) #[], args := #[.pointer (some ⟨p, 0, none⟩)] } (by go_simp) ?_
  simp only [Act.put]
  refine WL.nil ?_
  refine hK3 _ _ ?_
  refine wp_seq_k fun K4 hK4 => ?_
  refine wp_region_list (WL.out ?_)
  refine WL.val (by kernel_rfl) (.pointer (some ⟨p, 0, none⟩)) (by go_simp) ?_
  simp only [Act.put, List.setIfInBounds_toArray, List.set_cons_zero, List.set_cons_succ]
  refine WL.val (by kernel_rfl) (.int .i64 f) (by go_simp) ?_
  simp only [Act.put, List.setIfInBounds_toArray, List.set_cons_zero, List.set_cons_succ]
  refine WL.val (by kernel_rfl) (.int .i64 t) (by go_simp) ?_
  simp only [Act.put, List.setIfInBounds_toArray, List.set_cons_zero, List.set_cons_succ]
  refine WL.val (by kernel_rfl) (.int .i64 i) (by go_simp) ?_
  simp only [Act.put, List.setIfInBounds_toArray, List.set_cons_zero, List.set_cons_succ]
  refine WL.bs (by kernel_rfl) 89 1 #[(0, .tmp 27)] rfl #[(0, .int .i64 i)] (by simp [Act.eval]) _ _ (bsI1 i w1) ?_
  have bb := below_new w1 (.cells #[.int .i64 i] 3)
  have QN : Keep (Blk (w1.alloc (.cells #[.int .i64 i] 3)) w1.heap.size 3 #[.int .i64 i]) := ⟨Blk.new w1 3 #[.int .i64 i]⟩
  have N2 : Keep (PmN w p mb N Ks Ks 1 (w1.alloc (.cells #[.int .i64 i] 3))) := ⟨N1.out.trans (PmN.below N1.out.at_ bb)⟩
  clear bb N1
  generalize w1.alloc (.cells #[.int .i64 i] 3) = w2 at *
  obtain ⟨gn, hgn⟩ : ∃ z, Keep (z = w1.heap.size) := ⟨_, ⟨rfl⟩⟩
  rw [← hgn.out] at QN ⊢
  have HNm : Keep (NmAt w2 (some ⟨gn, 0, none⟩) [i]) := ⟨fun j i hj => ⟨gn, rfl, QN.out.c j (by rcases j with _ | j <;> simp_all)⟩⟩
  simp only [Act.put, List.setIfInBounds_toArray, List.set_cons_zero, List.set_cons_succ]
  refine WL.callF (by kernel_rfl) 38 _ _ rfl Tryd.in38 #[.pointer (some ⟨p, 0, none⟩), .int .i64 f, .int .i64 t, .slice (some ⟨gn, 0, none⟩) 1 1] (by simp [Act.eval]) ?_
  refine (find_any w2 p mb N 1 Ks f t (some ⟨gn, 0, none⟩) 1 1 [i] N2.out.at_ rfl HNm.out (by omega)).mono ?_
  rintro e wz_ ⟨q, er, rfl, her, hq, hw_⟩
  refine ⟨_, rfl, ?_⟩
  have hw_ := hw_.symm
  subst hw_
  have Her := Keep.mk her
  have Hq := Keep.mk hq
  clear her hq
  simp only [Act.put, List.setIfInBounds_toArray, List.set_cons_zero, List.set_cons_succ]
  refine WL.val (by kernel_rfl) (.tuple #[q, .int .i64 er]) (by go_simp) ?_
  simp only [Act.put, List.setIfInBounds_toArray, List.set_cons_zero, List.set_cons_succ]
  refine WL.val (by kernel_rfl) (q) (by go_simp) ?_
  simp only [Act.put, List.setIfInBounds_toArray, List.set_cons_zero, List.set_cons_succ]
  refine WL.val (by kernel_rfl) (.int .i64 er) (by go_simp) ?_
  simp only [Act.put, List.setIfInBounds_toArray, List.set_cons_zero, List.set_cons_succ]
  refine WL.val (by kernel_rfl) (q) (by go_simp) ?_
  simp only [Act.put, List.setIfInBounds_toArray, List.set_cons_zero, List.set_cons_succ]
  refine WL.val (by kernel_rfl) (.int .i64 er) (by go_simp) ?_
  simp only [Act.put, List.setIfInBounds_toArray, List.set_cons_zero, List.set_cons_succ]
  refine WL.nil ?_
  refine hK4 _ _ ?_
  refine wp_seq_k fun K5 hK5 => ?_
  refine wp_seq_k fun K6 hK6 => ?_
  refine wp_region_list (WL.out ?_)
  refine WL.val (by kernel_rfl) (.int .i64 er) (by go_simp) ?_
  simp only [Act.put, List.setIfInBounds_toArray, List.set_cons_zero, List.set_cons_succ]
  by_cases h4_1 : er = 0
  · skip
    refine WL.val (by kernel_rfl) (.bool false) (by go_simp) ?_
    simp only [Act.put, List.setIfInBounds_toArray, List.set_cons_zero, List.set_cons_succ]
    refine WL.nil ?_
    refine hK6 _ _ ?_
    refine wp_cond_false rfl ?_
    refine wp_skip ?_
    refine hK5 _ _ ?_
    refine wp_seq_k fun K7 hK7 => ?_
    refine wp_region_list (WL.out ?_)
    have hz : er = 0 := h4_1
    obtain ⟨k, n, gl, cap, ei, hk, hn, hnn, hc, hcm, hv, hth, hcl⟩ := N2.out.at_.open_ (fdE_one.symm.trans (Her.out.symm.trans hz))
    have hqv := Hq.out hz
    rw [hv] at hqv
    subst ei hqv
    have Hk := Keep.mk hk
    have Hn := Keep.mk hn
    have Hnn := Keep.mk hnn
    have Hc := Keep.mk hc
    have Hcm := Keep.mk hcm
    have Hv := Keep.mk hv
    have Hcl := Keep.mk hcl
    clear hk hn hnn hc hcm hv hcl
    refine WL.val (by kernel_rfl) (.slice (some ⟨gl, 0, none⟩) n cap) (by go_simp) ?_
    simp only [Act.put, List.setIfInBounds_toArray, List.set_cons_zero, List.set_cons_succ]
    refine WL.val (by kernel_rfl) (.int .i64 (k : Int)) (by go_simp) ?_
    simp only [Act.put, List.setIfInBounds_toArray, List.set_cons_zero, List.set_cons_succ]
    have hk_ := Hk.out
    have hk1_ := Nat.not_le.2 Hk.out
    have hk2_ := Int.ofNat_lt.2 Hk.out
    refine WL.val (by kernel_rfl) (.pointer (some ⟨gl, k, none⟩)) (by go_simp) ?_
    clear hk_ hk1_ hk2_
    simp only [Act.put, List.setIfInBounds_toArray, List.set_cons_zero, List.set_cons_succ]
    obtain ⟨⟨um, b⟩, hp⟩ : ∃ q, (lkOf Ks f t).R[k]? = some q := ⟨_, List.getElem?_eq_getElem (by rw [Hn.out]; exact Hk.out)⟩
    have d_ := Hcl.out k _ hp
    have Hp := Keep.mk hp
    obtain ⟨hO, hL2, hBy⟩ := (N2.out.at_.link hth).2.rows _ (List.mem_of_getElem? hp)
    obtain ⟨ra, rn, rc, hu⟩ := hO.sl
    simp only at hu
    subst hu
    have Hrn : Keep (b.length = rn) := ⟨by obtain ⟨_, _, e⟩ := row_form hO.row; injection e with _ e; exact e.symm⟩
    have hr9 : rn ≤ 2097194 := by rw [← Hrn.out]; exact hL2
    have HO := Keep.mk hO
    have HL2 := Keep.mk hL2
    have HBy := Keep.mk hBy
    clear hp hO hL2 hBy
    refine WL.val (by kernel_rfl) (.slice ra rn rc) (by go_simp) ?_
    clear d_
    simp only [Act.put, List.setIfInBounds_toArray, List.set_cons_zero, List.set_cons_succ]
    refine WL.val (by kernel_rfl) (.slice ra rn rc) (by go_simp) ?_
    simp only [Act.put, List.setIfInBounds_toArray, List.set_cons_zero, List.set_cons_succ]
    refine WL.nil ?_
    refine hK7 _ _ ?_
    refine wp_seq_k fun K8 hK8 => ?_
    refine wp_seq_k fun K9 hK9 => ?_
    refine wp_region_list (WL.out ?_)
    refine WL.val (by kernel_rfl) (.int .u8 by_) (by go_simp) ?_
    simp only [Act.put, List.setIfInBounds_toArray, List.set_cons_zero, List.set_cons_succ]
    by_cases h7_1 : by_ = 0
    · skip
      refine WL.val (by kernel_rfl) (.bool true) (by go_simp) ?_
      simp only [Act.put, List.setIfInBounds_toArray, List.set_cons_zero, List.set_cons_succ]
      refine WL.val (by kernel_rfl) (.bool true) (by go_simp) ?_
      simp only [Act.put, List.setIfInBounds_toArray, List.set_cons_zero, List.set_cons_succ]
      refine WL.skip (by kernel_rfl) ?_
      simp only [Act.put, List.setIfInBounds_toArray, List.set_cons_zero, List.set_cons_succ]
      refine WL.skip (by kernel_rfl) ?_
      simp only [Act.put, List.setIfInBounds_toArray, List.set_cons_zero, List.set_cons_succ]
      refine WL.skip (by kernel_rfl) ?_
      simp only [Act.put, List.setIfInBounds_toArray, List.set_cons_zero, List.set_cons_succ]
      refine WL.val (by kernel_rfl) (.bool true) (by go_simp) ?_
      simp only [Act.put, List.setIfInBounds_toArray, List.set_cons_zero, List.set_cons_succ]
      refine WL.nil ?_
      refine hK9 _ _ ?_
      refine wp_cond_true rfl ?_
      refine wp_seq_k fun K10 hK10 => ?_
      refine wp_region_list (WL.out ?_)
      refine WL.val (by kernel_rfl) (.int .i64 1) (by go_simp) ?_
      simp only [Act.put, List.setIfInBounds_toArray, List.set_cons_zero, List.set_cons_succ]
      refine WL.nil ?_
      refine hK10 _ _ ?_
      refine wp_ret ?_
      have l1 := N2.out.at_.bx.c 0 (rfl : _ = some (Value.int .i32 1))
      have fr1 := N2.out.at_.bx.frozen 0
      try simp only [Exit.inBlock, Exit.then]
      refine leaves_cons (f := 37) (args := #[.pointer (some ⟨p, 0, none⟩)]) (by simp) (by simp [go_sem]) ?_
      refine (Go.MuLone.unlock_deferred Tryd.muLib ⟨p, 0, none⟩ .returning _ l1 fr1).mono ?_
      rintro e u' w'' ⟨rfl, rfl, rfl⟩
      have NF := N2.out.trans (N2.out.at_.relock 0)
      exact ⟨_, results_tmp rfl _ _ _, 1, Ks, rfl, pfl_by (fdE_one.symm.trans (Her.out.symm.trans h4_1)) (.inl (by assumption)), NF, fun _ => rfl, fun e => absurd e (by decide)⟩
    · skip
      refine WL.val (by kernel_rfl) (.bool false) (by go_simp) ?_
      simp only [Act.put, List.setIfInBounds_toArray, List.set_cons_zero, List.set_cons_succ]
      refine WL.val (by kernel_rfl) (.bool false) (by go_simp) ?_
      simp only [Act.put, List.setIfInBounds_toArray, List.set_cons_zero, List.set_cons_succ]
      refine WL.val (by kernel_rfl) (.slice ra rn rc) (by go_simp) ?_
      simp only [Act.put, List.setIfInBounds_toArray, List.set_cons_zero, List.set_cons_succ]
      refine WL.val (by kernel_rfl) (.int .i64 (rn : Int)) (by go_simp) ?_
      simp only [Act.put, List.setIfInBounds_toArray, List.set_cons_zero, List.set_cons_succ]
      by_cases h7_5 : rn = 0
      · skip
        refine WL.val (by kernel_rfl) (.bool true) (by go_simp) ?_
        simp only [Act.put, List.setIfInBounds_toArray, List.set_cons_zero, List.set_cons_succ]
        refine WL.val (by kernel_rfl) (.bool true) (by go_simp) ?_
        simp only [Act.put, List.setIfInBounds_toArray, List.set_cons_zero, List.set_cons_succ]
        refine WL.nil ?_
        refine hK9 _ _ ?_
        refine wp_cond_true rfl ?_
        refine wp_seq_k fun K11 hK11 => ?_
        refine wp_region_list (WL.out ?_)
        refine WL.val (by kernel_rfl) (.int .i64 1) (by go_simp) ?_
        simp only [Act.put, List.setIfInBounds_toArray, List.set_cons_zero, List.set_cons_succ]
        refine WL.nil ?_
        refine hK11 _ _ ?_
        refine wp_ret ?_
        have l1 := N2.out.at_.bx.c 0 (rfl : _ = some (Value.int .i32 1))
        have fr1 := N2.out.at_.bx.frozen 0
        try simp only [Exit.inBlock, Exit.then]
        refine leaves_cons (f := 37) (args := #[.pointer (some ⟨p, 0, none⟩)]) (by simp) (by simp [go_sem]) ?_
        refine (Go.MuLone.unlock_deferred Tryd.muLib ⟨p, 0, none⟩ .returning _ l1 fr1).mono ?_
        rintro e u' w'' ⟨rfl, rfl, rfl⟩
        have NF := N2.out.trans (N2.out.at_.relock 0)
        exact ⟨_, results_tmp rfl _ _ _, 1, Ks, rfl, pfl_by (fdE_one.symm.trans (Her.out.symm.trans h4_1)) (.inr (by rw [Int.toNat_natCast, Hp.out]; show b.length = 0; have := Hrn.out; omega)), NF, fun _ => rfl, fun e => absurd e (by decide)⟩
      · skip
        refine WL.val (by kernel_rfl) (.bool false) (by go_simp) ?_
        simp only [Act.put, List.setIfInBounds_toArray, List.set_cons_zero, List.set_cons_succ]
        refine WL.val (by kernel_rfl) (.bool false) (by go_simp) ?_
        simp only [Act.put, List.setIfInBounds_toArray, List.set_cons_zero, List.set_cons_succ]
        refine WL.nil ?_
        refine hK9 _ _ ?_
        refine wp_cond_false rfl ?_
        refine wp_skip ?_
        refine hK8 _ _ ?_
        refine wp_seq_k fun K12 hK12 => ?_
        refine wp_region_list (WL.out ?_)
        refine WL.val (by kernel_rfl) (.slice ra rn rc) (by go_simp) ?_
        simp only [Act.put, List.setIfInBounds_toArray, List.set_cons_zero, List.set_cons_succ]
        refine WL.val (by kernel_rfl) (.int .i64 m) (by go_simp) ?_
        simp only [Act.put, List.setIfInBounds_toArray, List.set_cons_zero, List.set_cons_succ]
        refine WL.val (by kernel_rfl) (.slice ra rn rc) (by go_simp) ?_
        simp only [Act.put, List.setIfInBounds_toArray, List.set_cons_zero, List.set_cons_succ]
        refine WL.val (by kernel_rfl) (.int .i64 (rn : Int)) (by go_simp) ?_
        simp only [Act.put, List.setIfInBounds_toArray, List.set_cons_zero, List.set_cons_succ]
        refine WL.callF (by kernel_rfl) 41 _ _ rfl Tryd.in41 #[.int .i64 m, .int .i64 (rn : Int)] (by simp [Act.eval]) ?_
        refine (prn_any w2 m rn (by omega) (by omega)).mono ?_
        rintro e wz2 ⟨rfl, hw_⟩
        refine ⟨_, rfl, ?_⟩
        have hw_ := hw_.symm
        subst hw_
        have hj9 := rnd_lt m (show 1 ≤ rn by omega)
        obtain ⟨rg, hra⟩ : ∃ rg, ra = some ⟨rg, 0, none⟩ := by
          rcases HO.out.form with ⟨e, _⟩ | ⟨g, _, _, e, _⟩
          · injection e with _ e; omega
          · injection e with e; exact ⟨g, e⟩
        subst hra
        have HJ := Keep.mk hj9
        simp only [Act.put, List.setIfInBounds_toArray, List.set_cons_zero, List.set_cons_succ]
        have hk_ := HJ.out
        have hk1_ := Nat.not_le.2 HJ.out
        have hk2_ := Int.ofNat_lt.2 HJ.out
        refine WL.val (by kernel_rfl) (.pointer (some ⟨rg, rnd m rn, none⟩)) (by go_simp) ?_
        clear hk_ hk1_ hk2_
        simp only [Act.put, List.setIfInBounds_toArray, List.set_cons_zero, List.set_cons_succ]
        have e_ := HO.out.cells (rnd m rn) (by rw [Hrn.out]; exact HJ.out)
        have hb0 := HBy.out.getD (rnd m rn)
        have c_ := e_.1
        have f_ := e_.2
        clear e_
        refine WL.val (by kernel_rfl) (.int .u8 (b.getD (rnd m rn) 0)) (by go_simp) ?_
        simp only [Act.put, List.setIfInBounds_toArray, List.set_cons_zero, List.set_cons_succ]
        refine WL.val (by kernel_rfl) (.int .u8 by_) (by go_simp) ?_
        simp only [Act.put, List.setIfInBounds_toArray, List.set_cons_zero, List.set_cons_succ]
        refine WL.val (by kernel_rfl) (.int .u8 (xor8 (b.getD (rnd m rn) 0) by_)) (by go_simp) ?_
        simp only [Act.put, List.setIfInBounds_toArray, List.set_cons_zero, List.set_cons_succ]
        have hk_ := HJ.out
        have hk1_ := Nat.not_le.2 HJ.out
        have hk2_ := Int.ofNat_lt.2 HJ.out
        refine WL.val (by kernel_rfl) (.pointer (some ⟨rg, rnd m rn, none⟩)) (by go_simp) ?_
        clear hk_ hk1_ hk2_
        simp only [Act.put, List.setIfInBounds_toArray, List.set_cons_zero, List.set_cons_succ]
        refine WL.cell (by kernel_rfl) (w2.setCell ⟨rg, rnd m rn, none⟩ (.int .u8 (xor8 (b.getD (rnd m rn) 0) by_))) (by go_simp) ?_
        have N9 : Keep (PmN w p mb N Ks (Ks.set (ix f t) ⟨(lkOf Ks f t).v, (lkOf Ks f t).R.set k (.slice (some ⟨rg, 0, none⟩) rn rc, b.set (rnd m rn) (xor8 (b.getD (rnd m rn) 0) by_))⟩) 1 (w2.setCell ⟨rg, rnd m rn, none⟩ (.int .u8 (xor8 (b.getD (rnd m rn) 0) by_)))) := ⟨N2.out.trans (N2.out.at_.byted hth Hp.out (xor_rng _ _ hb0 HBb.out))⟩
        clear c_ f_ hb0
        simp only [Act.put]
        refine WL.nil ?_
        refine hK12 _ _ ?_
        refine wp_seq_k fun K13 hK13 => ?_
        refine wp_region_list (WL.out ?_)
        refine WL.val (by kernel_rfl) (.int .i64 0) (by go_simp) ?_
        simp only [Act.put, List.setIfInBounds_toArray, List.set_cons_zero, List.set_cons_succ]
        refine WL.nil ?_
        refine hK13 _ _ ?_
        refine wp_ret ?_
        have l1 := N9.out.at_.bx.c 0 (rfl : _ = some (Value.int .i32 1))
        have fr1 := N9.out.at_.bx.frozen 0
        try simp only [Exit.inBlock, Exit.then]
        refine leaves_cons (f := 37) (args := #[.pointer (some ⟨p, 0, none⟩)]) (by simp) (by simp [go_sem]) ?_
        refine (Go.MuLone.unlock_deferred Tryd.muLib ⟨p, 0, none⟩ .returning _ l1 fr1).mono ?_
        rintro e u' w'' ⟨rfl, rfl, rfl⟩
        have NF := N9.out.trans (N9.out.at_.relock 0)
        exact ⟨_, results_tmp rfl _ _ _, 0, _, rfl, pfl_ok (fdE_one.symm.trans (Her.out.symm.trans h4_1)) (by rw [Int.toNat_natCast, Hp.out]; show ¬ (by_ = 0 ∨ b.length = 0); have := Hrn.out; omega), NF, fun e => absurd rfl e, fun _ => ⟨_, _, Hp.out, by rw [Hrn.out]; rfl⟩⟩
  · skip
    refine WL.val (by kernel_rfl) (.bool true) (by go_simp) ?_
    simp only [Act.put, List.setIfInBounds_toArray, List.set_cons_zero, List.set_cons_succ]
    refine WL.nil ?_
    refine hK6 _ _ ?_
    refine wp_cond_true rfl ?_
    refine wp_seq_k fun K14 hK14 => ?_
    refine wp_region_list (WL.out ?_)
    refine WL.val (by kernel_rfl) (.int .i64 er) (by go_simp) ?_
    simp only [Act.put, List.setIfInBounds_toArray, List.set_cons_zero, List.set_cons_succ]
    refine WL.val (by kernel_rfl) (.int .i64 er) (by go_simp) ?_
    simp only [Act.put, List.setIfInBounds_toArray, List.set_cons_zero, List.set_cons_succ]
    refine WL.nil ?_
    refine hK14 _ _ ?_
    refine wp_ret ?_
    have l1 := N2.out.at_.bx.c 0 (rfl : _ = some (Value.int .i32 1))
    have fr1 := N2.out.at_.bx.frozen 0
    try simp only [Exit.inBlock, Exit.then]
    refine leaves_cons (f := 37) (args := #[.pointer (some ⟨p, 0, none⟩)]) (by simp) (by simp [go_sem]) ?_
    refine (Go.MuLone.unlock_deferred Tryd.muLib ⟨p, 0, none⟩ .returning _ l1 fr1).mono ?_
    rintro e u' w'' ⟨rfl, rfl, rfl⟩
    have NF := N2.out.trans (N2.out.at_.relock 0)
    exact ⟨_, results_tmp rfl _ _ _, er, Ks, rfl, pfl_er (Her.out.trans fdE_one) h4_1, NF, fun _ => rfl, fun e => absurd e h4_1⟩

theorem Tryd.in8 (w : World) (vs : Array Value) : (callFunc 8 vs).run Tryd.prog w = .ok (.enter 8 vs) w := by kernel_rfl
def LK0 : Lk := ⟨.slice none 0 0, []⟩
theorem Tryd.mkmapM (w : World) : (Instr.makeMap 56 none).run Tryd.prog w = .ok (.map (some w.heap.size)) (w.alloc (.map #[] 0)) := by kernel_rfl
def dn (N a b : Nat) (k : Int × Int) : Bool := decide (1 ≤ k.1 ∧ 1 ≤ k.2 ∧ k.2 ≤ (N : Int) ∧ k.1 ≠ k.2 ∧ (k.1 ≤ (a : Int) ∨ (k.1 = (a : Int) + 1 ∧ k.2 ≤ (b : Int))))
def FilledM (w : World) (mb N a b : Nat) : Prop := ∃ L, MpIs w mb L ∧ (L.map (·.1)).Nodup ∧ ∀ k : Int × Int, L.find? (kI k) = if dn N a b k = true then some (k, .slice none 0 0) else none
theorem FilledM.next {w : World} {mb N a b : Nat} (h : FilledM w mb N a b) (hb : b < N) (hne : a ≠ b) : ∃ w', (Instr.mapUpdate 56 (.map (some mb)) (kV ((a : Int) + 1, (b : Int) + 1)) (.slice none 0 0)).run Tryd.prog w = .ok () w' ∧ FilledM w' mb N a (b + 1) ∧ Grown w w' fun k => k = mb := by
  obtain ⟨L, h1, h2, h3⟩ := h
  have hn : L.find? (kI ((a : Int) + 1, (b : Int) + 1)) = none := by
    rw [h3, if_neg]
    simp only [dn, decide_eq_true_eq]
    omega
  obtain ⟨w', hr, hm, hg⟩ := kupd_new h1 ((a : Int) + 1, (b : Int) + 1) (.slice none 0 0) hn
  refine ⟨w', hr, ⟨_, hm, ?_, fun k => ?_⟩, hg⟩
  · rw [List.map_append, List.map_cons, List.map_nil, List.nodup_append]
    refine ⟨h2, by simp, ?_⟩
    intro x hx y hy
    rw [List.mem_singleton] at hy
    subst hy
    rintro rfl
    obtain ⟨z, hz, e⟩ := List.mem_map.1 hx
    have := List.find?_eq_none.1 hn z hz
    simp [kI, e] at this
  · rw [List.find?_append, h3 k]
    by_cases e : dn N a b k = true
    · rw [if_pos e, if_pos]
      · rfl
      · simp only [dn, decide_eq_true_eq] at e ⊢
        omega
    · rw [if_neg e, Option.none_or]
      by_cases e2 : k = ((a : Int) + 1, (b : Int) + 1)
      · subst e2
        rw [if_pos]
        · simp [kI]
        · simp only [dn, decide_eq_true_eq]
          exact ⟨by omega, by omega, by omega, by omega, .inr ⟨trivial, by omega⟩⟩
      · rw [if_neg]
        · simp [kI, e2]
        · obtain ⟨k1, k2⟩ := k
          simp only [Prod.mk.injEq] at e2
          simp only [dn, decide_eq_true_eq] at e ⊢
          omega
theorem FilledM.skip {w : World} {mb N a : Nat} (h : FilledM w mb N a a) : FilledM w mb N a (a + 1) := by
  obtain ⟨L, h1, h2, h3⟩ := h
  refine ⟨L, h1, h2, fun k => ?_⟩
  rw [h3 k]
  congr 1
  apply propext
  simp only [dn, decide_eq_true_eq]
  omega
theorem FilledM.row {w : World} {mb N a : Nat} (h : FilledM w mb N a N) : FilledM w mb N (a + 1) 0 := by
  obtain ⟨L, h1, h2, h3⟩ := h
  refine ⟨L, h1, h2, fun k => ?_⟩
  rw [h3 k]
  congr 1
  apply propext
  simp only [dn, decide_eq_true_eq]
  omega
theorem K0_of {N : Nat} (hN : N ≤ 8) {f t : Int} (h : thr N f t = true) : (lkOf K0 f t).v = .slice none 0 0 := by
  have hi := (thr_ix hN h).2.2
  have e : K0[ix f t]? = some LK0 := by
    unfold K0
    rw [List.getElem?_replicate, if_pos hi]
    rfl
  unfold lkOf
  rw [e]
  rfl
theorem FilledM.all {w : World} {mb N : Nat} (hN : N ≤ 8) (h : FilledM w mb N N 0) : LnAt w mb N K0 := by
  obtain ⟨L, h1, h2, h3⟩ := h
  refine ⟨L, h1, h2, fun k => ?_⟩
  rw [h3 k]
  have e : dn N N 0 k = thr N k.1 k.2 := by
    rw [Bool.eq_iff_iff]
    simp only [dn, thr, Bool.and_eq_true, decide_eq_true_eq]
    omega
  rw [e]
  by_cases ht : thr N k.1 k.2 = true
  · rw [if_pos ht, if_pos ht, K0_of hN ht]
  · rw [if_neg ht, if_neg ht]
theorem FilledM.grown {w w' : World} {mb N a b : Nat} {S : Nat → Prop} (h : FilledM w mb N a b) (hg : Grown w w' S) (hs : ¬ S mb) : FilledM w' mb N a b := by
  obtain ⟨L, h1, h2⟩ := h
  exact ⟨L, h1.grown hg hs, h2⟩
theorem pm_new {w : World} {p mb N : Nat} (h1 : Blk w p 67 #[.int .i32 0, .int .u32 0, .map (some mb)]) (h2 : FilledM w mb N N 0) (hN : 1 ≤ N ∧ N ≤ 8) : PmAt w p mb N 0 K0 := by
  have nl : ∀ k ∈ K0, k = LK0 := fun k hk => List.eq_of_mem_replicate hk
  refine ⟨h1, h2.all hN.2, List.length_replicate, hN, fun k hk => ?_, fun i j a b m ha hb e _ => ?_, fun i j s t a b q r m ha hb hq _ _ _ => ?_⟩
  · rw [nl k hk]
    exact ⟨⟨rfl, .inl ⟨rfl, rfl⟩⟩, fun _ h => by simp [LK0] at h, by simp [LK0]⟩
  · rw [nl a (List.mem_of_getElem? ha)] at e
    simp [LK0, Value.ownBlock] at e
  · rw [nl a (List.mem_of_getElem? ha)] at hq
    simp [LK0] at hq
theorem pmS0 {p mb k : Nat} (h : PmS p mb K0 k) : k = p ∨ k = mb := by
  rcases h with h | h | ⟨a, ha, h⟩
  · exact .inl h
  · exact .inr h
  · rw [List.eq_of_mem_replicate ha] at h
    rcases h with h | ⟨q, hq, _⟩
    · simp [Value.ownBlock] at h
    · simp at hq
theorem bldN (mb : Nat) : Tryd.prog.built 67 [(1, .map (some mb))] = some #[.int .i32 0, .int .u32 0, .map (some mb)] := by kernel_rfl
set_option maxRecDepth 8000 in
theorem pnw_lo (w : World) (n : Int) (hn : n < 1) : Calls Tryd.prog 8 #[.int .i64 n] w fun e w' => e = .returned (.tuple #[.pointer none, .int .i64 1]) ∧ w' = w := by
  go_enter Tryd.func8, Tryd.ntmps8
  refine wp_seq_k fun K1 hK1 => ?_
  refine wp_region_list (WL.out ?_)
  refine WL.val (by kernel_rfl) (.pointer none) (by go_simp) ?_
  simp only [Act.put, List.setIfInBounds_toArray, List.set_cons_zero, List.set_cons_succ]
  refine WL.val (by kernel_rfl) (.int .i64 0) (by go_simp) ?_
  simp only [Act.put, List.setIfInBounds_toArray, List.set_cons_zero, List.set_cons_succ]
  refine WL.nil ?_
  refine hK1 _ _ ?_
  refine wp_seq_k fun K2 hK2 => ?_
  refine wp_seq_k fun K3 hK3 => ?_
  refine wp_region_list (WL.out ?_)
  refine WL.val (by kernel_rfl) (.int .i64 n) (by go_simp) ?_
  simp only [Act.put, List.setIfInBounds_toArray, List.set_cons_zero, List.set_cons_succ]
  refine WL.val (by kernel_rfl) (.bool true) (by go_simp) ?_
  simp only [Act.put, List.setIfInBounds_toArray, List.set_cons_zero, List.set_cons_succ]
  refine WL.val (by kernel_rfl) (.bool true) (by go_simp) ?_
  simp only [Act.put, List.setIfInBounds_toArray, List.set_cons_zero, List.set_cons_succ]
  refine WL.skip (by kernel_rfl) ?_
  simp only [Act.put, List.setIfInBounds_toArray, List.set_cons_zero, List.set_cons_succ]
  refine WL.skip (by kernel_rfl) ?_
  simp only [Act.put, List.setIfInBounds_toArray, List.set_cons_zero, List.set_cons_succ]
  refine WL.val (by kernel_rfl) (.bool true) (by go_simp) ?_
  simp only [Act.put, List.setIfInBounds_toArray, List.set_cons_zero, List.set_cons_succ]
  refine WL.nil ?_
  refine hK3 _ _ ?_
  refine wp_cond_true rfl ?_
  refine wp_seq_k fun K4 hK4 => ?_
  refine wp_region_list (WL.out ?_)
  refine WL.val (by kernel_rfl) (.pointer none) (by go_simp) ?_
  simp only [Act.put, List.setIfInBounds_toArray, List.set_cons_zero, List.set_cons_succ]
  refine WL.val (by kernel_rfl) (.int .i64 1) (by go_simp) ?_
  simp only [Act.put, List.setIfInBounds_toArray, List.set_cons_zero, List.set_cons_succ]
  refine WL.nil ?_
  refine hK4 _ _ ?_
  refine wp_ret ?_
  try simp only [Exit.inBlock, Exit.then]
  exact bodyPost_ret (results_tmp2 (fn := Tryd.f8) rfl _ _ _) rfl ⟨rfl, rfl⟩
set_option maxRecDepth 8000 in
theorem pnw_hi (w : World) (n : Int) (hn : ¬ n < 1) (hn2 : 8 < n) : Calls Tryd.prog 8 #[.int .i64 n] w fun e w' => e = .returned (.tuple #[.pointer none, .int .i64 1]) ∧ w' = w := by
  have hn3 : n > 8 := hn2
  go_enter Tryd.func8, Tryd.ntmps8
  refine wp_seq_k fun K1 hK1 => ?_
  refine wp_region_list (WL.out ?_)
  refine WL.val (by kernel_rfl) (.pointer none) (by go_simp) ?_
  simp only [Act.put, List.setIfInBounds_toArray, List.set_cons_zero, List.set_cons_succ]
  refine WL.val (by kernel_rfl) (.int .i64 0) (by go_simp) ?_
  simp only [Act.put, List.setIfInBounds_toArray, List.set_cons_zero, List.set_cons_succ]
  refine WL.nil ?_
  refine hK1 _ _ ?_
  refine wp_seq_k fun K2 hK2 => ?_
  refine wp_seq_k fun K3 hK3 => ?_
  refine wp_region_list (WL.out ?_)
  refine WL.val (by kernel_rfl) (.int .i64 n) (by go_simp) ?_
  simp only [Act.put, List.setIfInBounds_toArray, List.set_cons_zero, List.set_cons_succ]
  refine WL.val (by kernel_rfl) (.bool false) (by go_simp) ?_
  simp only [Act.put, List.setIfInBounds_toArray, List.set_cons_zero, List.set_cons_succ]
  refine WL.val (by kernel_rfl) (.bool false) (by go_simp) ?_
  simp only [Act.put, List.setIfInBounds_toArray, List.set_cons_zero, List.set_cons_succ]
  refine WL.val (by kernel_rfl) (.int .i64 n) (by go_simp) ?_
  simp only [Act.put, List.setIfInBounds_toArray, List.set_cons_zero, List.set_cons_succ]
  refine WL.val (by kernel_rfl) (.bool true) (by go_simp) ?_
  simp only [Act.put, List.setIfInBounds_toArray, List.set_cons_zero, List.set_cons_succ]
  refine WL.val (by kernel_rfl) (.bool true) (by go_simp) ?_
  simp only [Act.put, List.setIfInBounds_toArray, List.set_cons_zero, List.set_cons_succ]
  refine WL.nil ?_
  refine hK3 _ _ ?_
  refine wp_cond_true rfl ?_
  refine wp_seq_k fun K4 hK4 => ?_
  refine wp_region_list (WL.out ?_)
  refine WL.val (by kernel_rfl) (.pointer none) (by go_simp) ?_
  simp only [Act.put, List.setIfInBounds_toArray, List.set_cons_zero, List.set_cons_succ]
  refine WL.val (by kernel_rfl) (.int .i64 1) (by go_simp) ?_
  simp only [Act.put, List.setIfInBounds_toArray, List.set_cons_zero, List.set_cons_succ]
  refine WL.nil ?_
  refine hK4 _ _ ?_
  refine wp_ret ?_
  try simp only [Exit.inBlock, Exit.then]
  exact bodyPost_ret (results_tmp2 (fn := Tryd.f8) rfl _ _ _) rfl ⟨rfl, rfl⟩
set_option maxRecDepth 8000 in
theorem pnw_ok (w : World) (N : Nat) (hN : 1 ≤ N ∧ N ≤ 8) : Calls Tryd.prog 8 #[.int .i64 (N : Int)] w fun e w' => ∃ p mb, e = .returned (.tuple #[.pointer (some ⟨p, 0, none⟩), .int .i64 0]) ∧ PmAt w' p mb N 0 K0 ∧ (w.heap.size ≤ p ∧ w.heap.size ≤ mb) ∧ Below w.heap.size w w' := by
  have hn1 : ¬ (N : Int) < 1 := by omega
  have hn2 : ¬ (N : Int) > 8 := by omega
  have hn3 : ¬ 8 < (N : Int) := by omega
  go_enter Tryd.func8, Tryd.ntmps8
  refine wp_seq_k fun K1 hK1 => ?_
  refine wp_region_list (WL.out ?_)
  refine WL.val (by kernel_rfl) (.pointer none) (by go_simp) ?_
  simp only [Act.put, List.setIfInBounds_toArray, List.set_cons_zero, List.set_cons_succ]
  refine WL.val (by kernel_rfl) (.int .i64 0) (by go_simp) ?_
  simp only [Act.put, List.setIfInBounds_toArray, List.set_cons_zero, List.set_cons_succ]
  refine WL.nil ?_
  refine hK1 _ _ ?_
  refine wp_seq_k fun K2 hK2 => ?_
  refine wp_seq_k fun K3 hK3 => ?_
  refine wp_region_list (WL.out ?_)
  refine WL.val (by kernel_rfl) (.int .i64 (N : Int)) (by go_simp) ?_
  simp only [Act.put, List.setIfInBounds_toArray, List.set_cons_zero, List.set_cons_succ]
  refine WL.val (by kernel_rfl) (.bool false) (by go_simp) ?_
  simp only [Act.put, List.setIfInBounds_toArray, List.set_cons_zero, List.set_cons_succ]
  refine WL.val (by kernel_rfl) (.bool false) (by go_simp) ?_
  simp only [Act.put, List.setIfInBounds_toArray, List.set_cons_zero, List.set_cons_succ]
  refine WL.val (by kernel_rfl) (.int .i64 (N : Int)) (by go_simp) ?_
  simp only [Act.put, List.setIfInBounds_toArray, List.set_cons_zero, List.set_cons_succ]
  refine WL.val (by kernel_rfl) (.bool false) (by go_simp) ?_
  simp only [Act.put, List.setIfInBounds_toArray, List.set_cons_zero, List.set_cons_succ]
  refine WL.val (by kernel_rfl) (.bool false) (by go_simp) ?_
  simp only [Act.put, List.setIfInBounds_toArray, List.set_cons_zero, List.set_cons_succ]
  refine WL.nil ?_
  refine hK3 _ _ ?_
  refine wp_cond_false rfl ?_
  refine wp_skip ?_
  refine hK2 _ _ ?_
  refine wp_seq_k fun K4 hK4 => ?_
  refine wp_region_list (WL.out ?_)
  refine WL.valW (by kernel_rfl) (.map (some w.heap.size)) (w.alloc (.map #[] 0)) (by have h := Tryd.mkmapM w; go_simp) ?_
  have b1 := below_new w (.map #[] 0)
  have F1 : Keep (FilledM (w.alloc (.map #[] 0)) w.heap.size N 0 0) := ⟨[], ⟨#[], 0, heap_alloc_new w _, rfl⟩, List.nodup_nil, fun k => by
    rw [if_neg]
    · rfl
    · simp only [dn, decide_eq_true_eq]; omega⟩
  generalize w.alloc (.map #[] 0) = w1 at *
  obtain ⟨mb, hmb⟩ : ∃ z, Keep (z = w.heap.size) := ⟨_, ⟨rfl⟩⟩
  rw [← hmb.out] at F1 ⊢
  have B1 : Keep (Grown w w1 (fun k => k = mb)) := ⟨Grown.below b1⟩
  clear b1
  simp only [Act.put, List.setIfInBounds_toArray, List.set_cons_zero, List.set_cons_succ]
  refine WL.val (by kernel_rfl) (.map (some mb)) (by go_simp) ?_
  simp only [Act.put, List.setIfInBounds_toArray, List.set_cons_zero, List.set_cons_succ]
  refine WL.nil ?_
  refine hK4 _ _ ?_
  refine wp_seq_k fun K5 hK5 => ?_
  refine wp_seq_k fun K6 hK6 => ?_
  refine wp_region_list (WL.out ?_)
  refine WL.val (by kernel_rfl) (.int .i64 1) (by go_simp) ?_
  simp only [Act.put, List.setIfInBounds_toArray, List.set_cons_zero, List.set_cons_succ]
  refine WL.nil ?_
  refine hK6 _ _ ?_
  refine wp_block ?_
  refine wp_loop (fun ac wr => ∃ (a : Nat) (fx : Nat → Value), ac = { tmps := #[.int .i64 (N : Int), undef, .pointer none, .int .i64 0, .map (some mb), .int .i64 ((a : Int) + 1), fx 6, .int .i64 (N : Int), .bool false, .bool false, .int .i64 (N : Int), .bool false, .bool false, .map (some mb), fx 14, fx 15, fx 16, fx 17, fx 18, fx 19, fx 20, fx 21, fx 22, fx 23, fx 24, fx 25, fx 26, fx 27, fx 28, fx 29, fx 30, undef, undef, undef], defers := [] } ∧ Keep (a ≤ N) ∧ Keep (Grown w wr fun k => k = mb) ∧ Keep (FilledM wr mb N a 0)) (fun a _ => N + 1 - (intOf (a.tmps.getD 5 undef)).toNat) ⟨0, fun zz => [.int .i64 (N : Int), undef, .pointer none, .int .i64 0, .map (some mb), .int .i64 1, undef, .int .i64 (N : Int), .bool false, .bool false, .int .i64 (N : Int), .bool false, .bool false, .map (some mb), undef, undef, undef, undef, undef, undef, undef, undef, undef, undef, undef, undef, undef, undef, undef, undef, undef, undef, undef, undef].getD zz undef, rfl, ⟨by omega⟩, B1, F1⟩ ?_
  rintro ac wr ⟨a, fx, rfl, haN, Ba, Fa⟩
  have haN := haN.out
  by_cases htn : a < N
  · have htn' : ((a : Int) + 1) ≤ (N : Int) := by omega
    have hw9 : IntKind.i64.wrap (((a : Int) + 1) + 1) = ((a : Int) + 1 + 1) := by rw [IntKind.wrap_i64]; omega
    refine wp_seq_k fun K7 hK7 => ?_
    refine wp_seq_k fun K8 hK8 => ?_
    refine wp_region_list (WL.out ?_)
    refine WL.val (by kernel_rfl) (.int .i64 ((a : Int) + 1)) (by go_simp) ?_
    simp only [Act.put, List.setIfInBounds_toArray, List.set_cons_zero, List.set_cons_succ]
    refine WL.val (by kernel_rfl) (.int .i64 (N : Int)) (by go_simp) ?_
    simp only [Act.put, List.setIfInBounds_toArray, List.set_cons_zero, List.set_cons_succ]
    refine WL.val (by kernel_rfl) (.bool true) (by go_simp) ?_
    simp only [Act.put, List.setIfInBounds_toArray, List.set_cons_zero, List.set_cons_succ]
    refine WL.nil ?_
    refine hK8 _ _ ?_
    refine wp_cond_true rfl ?_
    refine wp_skip ?_
    refine hK7 _ _ ?_
    refine wp_seq_k fun K9 hK9 => ?_
    refine wp_block ?_
    refine wp_seq_k fun K10 hK10 => ?_
    refine wp_region_list (WL.out ?_)
    refine WL.val (by kernel_rfl) (.int .i64 1) (by go_simp) ?_
    simp only [Act.put, List.setIfInBounds_toArray, List.set_cons_zero, List.set_cons_succ]
    refine WL.nil ?_
    refine hK10 _ _ ?_
    refine wp_block ?_
    refine wp_loop (fun ac wb => ∃ (b : Nat) (fy : Nat → Value), ac = { tmps := #[.int .i64 (N : Int), undef, .pointer none, .int .i64 0, .map (some mb), .int .i64 ((a : Int) + 1), .int .i64 ((b : Int) + 1), .int .i64 (N : Int), .bool false, .bool false, .int .i64 (N : Int), .bool false, .bool false, .map (some mb), .int .i64 ((a : Int) + 1), .int .i64 (N : Int), .bool true, fx 17, fx 18, fy 19, fy 20, fy 21, fy 22, fy 23, fy 24, fy 25, fy 26, fy 27, fy 28, fy 29, fy 30, undef, undef, undef], defers := [] } ∧ Keep (b ≤ N) ∧ Keep (Grown w wb fun k => k = mb) ∧ Keep (FilledM wb mb N a b)) (fun a _ => N + 1 - (intOf (a.tmps.getD 6 undef)).toNat) ⟨0, fun zz => [.int .i64 (N : Int), undef, .pointer none, .int .i64 0, .map (some mb), .int .i64 ((a : Int) + 1), .int .i64 1, .int .i64 (N : Int), .bool false, .bool false, .int .i64 (N : Int), .bool false, .bool false, .map (some mb), .int .i64 ((a : Int) + 1), .int .i64 (N : Int), .bool true, fx 17, fx 18, fx 19, fx 20, fx 21, fx 22, fx 23, fx 24, fx 25, fx 26, fx 27, fx 28, fx 29, fx 30, undef, undef, undef].getD zz undef, rfl, ⟨by omega⟩, Ba, Fa⟩ ?_
    rintro ac wb ⟨b, fy, rfl, hbN, Bb, Fb⟩
    have hbN := hbN.out
    by_cases hun : b < N
    · have hun' : ((b : Int) + 1) ≤ (N : Int) := by omega
      have hw8 : IntKind.i64.wrap (((b : Int) + 1) + 1) = ((b : Int) + 1 + 1) := by rw [IntKind.wrap_i64]; omega
      refine wp_seq_k fun K11 hK11 => ?_
      refine wp_seq_k fun K12 hK12 => ?_
      refine wp_region_list (WL.out ?_)
      refine WL.val (by kernel_rfl) (.int .i64 ((b : Int) + 1)) (by go_simp) ?_
      simp only [Act.put, List.setIfInBounds_toArray, List.set_cons_zero, List.set_cons_succ]
      refine WL.val (by kernel_rfl) (.int .i64 (N : Int)) (by go_simp) ?_
      simp only [Act.put, List.setIfInBounds_toArray, List.set_cons_zero, List.set_cons_succ]
      refine WL.val (by kernel_rfl) (.bool true) (by go_simp) ?_
      simp only [Act.put, List.setIfInBounds_toArray, List.set_cons_zero, List.set_cons_succ]
      refine WL.nil ?_
      refine hK12 _ _ ?_
      refine wp_cond_true rfl ?_
      refine wp_skip ?_
      refine hK11 _ _ ?_
      refine wp_seq_k fun K13 hK13 => ?_
      refine wp_block ?_
      refine wp_seq_k fun K14 hK14 => ?_
      refine wp_region_list (WL.out ?_)
      refine WL.val (by kernel_rfl) (.int .i64 ((a : Int) + 1)) (by go_simp) ?_
      simp only [Act.put, List.setIfInBounds_toArray, List.set_cons_zero, List.set_cons_succ]
      refine WL.val (by kernel_rfl) (.int .i64 ((b : Int) + 1)) (by go_simp) ?_
      simp only [Act.put, List.setIfInBounds_toArray, List.set_cons_zero, List.set_cons_succ]
      by_cases h10_2 : a = b
      · have hc_ : (((a : Int) + 1) = ((b : Int) + 1)) = True := by simp; omega
        refine WL.val (by kernel_rfl) (.bool false) (by go_simp) ?_
        simp only [Act.put, List.setIfInBounds_toArray, List.set_cons_zero, List.set_cons_succ]
        refine WL.nil ?_
        refine hK14 _ _ ?_
        refine wp_cond_false rfl ?_
        refine wp_skip ?_
        refine hK13 _ _ ?_
        refine wp_region_list (WL.out ?_)
        refine WL.val (by kernel_rfl) (.int .i64 ((b : Int) + 1)) (by go_simp) ?_
        simp only [Act.put, List.setIfInBounds_toArray, List.set_cons_zero, List.set_cons_succ]
        refine WL.val (by kernel_rfl) (.int .i64 ((b : Int) + 1 + 1)) (by go_simp) ?_
        simp only [Act.put, List.setIfInBounds_toArray, List.set_cons_zero, List.set_cons_succ]
        refine WL.val (by kernel_rfl) (.int .i64 ((b : Int) + 1 + 1)) (by go_simp) ?_
        simp only [Act.put, List.setIfInBounds_toArray, List.set_cons_zero, List.set_cons_succ]
        refine WL.nil ?_
        have hab : a = b := by assumption
        have Fb2 : Keep (FilledM wb mb N a (b + 1)) := ⟨by have h := Fb.out; rw [← hab] at h ⊢; exact h.skip⟩
        have Bb2 := Bb
        exact ⟨⟨b + 1, fun zz => [.int .i64 (N : Int), undef, .pointer none, .int .i64 0, .map (some mb), .int .i64 ((a : Int) + 1), .int .i64 ((b : Int) + 1 + 1), .int .i64 (N : Int), .bool false, .bool false, .int .i64 (N : Int), .bool false, .bool false, .map (some mb), .int .i64 ((a : Int) + 1), .int .i64 (N : Int), .bool true, fx 17, fx 18, .int .i64 ((b : Int) + 1), .int .i64 (N : Int), .bool true, .int .i64 ((b : Int) + 1), .int .i64 ((b : Int) + 1 + 1), .int .i64 ((a : Int) + 1), .int .i64 ((b : Int) + 1), .bool false, fy 27, fy 28, fy 29, fy 30, undef, undef, undef].getD zz undef, rfl, ⟨by omega⟩, Bb2, Fb2⟩, by simp only [intOf]; show N + 1 - (((b : Int) + 1 + 1)).toNat < N + 1 - (((b : Int) + 1)).toNat; omega⟩
      · have hc_ : (((a : Int) + 1) = ((b : Int) + 1)) = False := by simp; omega
        refine WL.val (by kernel_rfl) (.bool true) (by go_simp) ?_
        simp only [Act.put, List.setIfInBounds_toArray, List.set_cons_zero, List.set_cons_succ]
        refine WL.nil ?_
        refine hK14 _ _ ?_
        refine wp_cond_true rfl ?_
        refine wp_region_list (WL.out ?_)
        refine WL.val (by kernel_rfl) (.map (some mb)) (by go_simp) ?_
        simp only [Act.put, List.setIfInBounds_toArray, List.set_cons_zero, List.set_cons_succ]
        refine WL.val (by kernel_rfl) (.int .i64 ((a : Int) + 1)) (by go_simp) ?_
        simp only [Act.put, List.setIfInBounds_toArray, List.set_cons_zero, List.set_cons_succ]
        refine WL.val (by kernel_rfl) (.int .i64 ((b : Int) + 1)) (by go_simp) ?_
        simp only [Act.put, List.setIfInBounds_toArray, List.set_cons_zero, List.set_cons_succ]
        refine WL.bld (by kernel_rfl) 58 #[(0, .tmp 28), (1, .tmp 29)] rfl [(0, .int .i64 ((a : Int) + 1)), (1, .int .i64 ((b : Int) + 1))] (by simp [Act.eval]) #[.int .i64 ((a : Int) + 1), .int .i64 ((b : Int) + 1)] (bldP _ _) ?_
        simp only [Act.put, List.setIfInBounds_toArray, List.set_cons_zero, List.set_cons_succ]
        obtain ⟨wd, hr, hm, hgd⟩ := Fb.out.next hun (by omega)
        refine WL.mupd (by kernel_rfl) (.tmp 27) (.tmp 30) _ rfl (.map (some mb)) (kV ((a : Int) + 1, (b : Int) + 1)) (.slice none 0 0) rfl rfl rfl wd hr ?_
        have Fb2 := Keep.mk hm
        have Bb2 : Keep (Grown w wd fun k => k = mb) := ⟨Bb.out.trans hgd⟩
        clear hr hm hgd
        simp only [Act.put]
        refine WL.nil ?_
        refine hK13 _ _ ?_
        refine wp_region_list (WL.out ?_)
        refine WL.val (by kernel_rfl) (.int .i64 ((b : Int) + 1)) (by go_simp) ?_
        simp only [Act.put, List.setIfInBounds_toArray, List.set_cons_zero, List.set_cons_succ]
        refine WL.val (by kernel_rfl) (.int .i64 ((b : Int) + 1 + 1)) (by go_simp) ?_
        simp only [Act.put, List.setIfInBounds_toArray, List.set_cons_zero, List.set_cons_succ]
        refine WL.val (by kernel_rfl) (.int .i64 ((b : Int) + 1 + 1)) (by go_simp) ?_
        simp only [Act.put, List.setIfInBounds_toArray, List.set_cons_zero, List.set_cons_succ]
        refine WL.nil ?_
        exact ⟨⟨b + 1, fun zz => [.int .i64 (N : Int), undef, .pointer none, .int .i64 0, .map (some mb), .int .i64 ((a : Int) + 1), .int .i64 ((b : Int) + 1 + 1), .int .i64 (N : Int), .bool false, .bool false, .int .i64 (N : Int), .bool false, .bool false, .map (some mb), .int .i64 ((a : Int) + 1), .int .i64 (N : Int), .bool true, fx 17, fx 18, .int .i64 ((b : Int) + 1), .int .i64 (N : Int), .bool true, .int .i64 ((b : Int) + 1), .int .i64 ((b : Int) + 1 + 1), .int .i64 ((a : Int) + 1), .int .i64 ((b : Int) + 1), .bool true, .map (some mb), .int .i64 ((a : Int) + 1), .int .i64 ((b : Int) + 1), .agg #[.int .i64 ((a : Int) + 1), .int .i64 ((b : Int) + 1)], undef, undef, undef].getD zz undef, rfl, ⟨by omega⟩, Bb2, Fb2⟩, by simp only [intOf]; show N + 1 - (((b : Int) + 1 + 1)).toNat < N + 1 - (((b : Int) + 1)).toNat; omega⟩
    · have hun' : ¬ ((b : Int) + 1) ≤ (N : Int) := by omega
      have Fa2 : Keep (FilledM wb mb N (a + 1) 0) := ⟨by have h := Fb.out; rw [show b = N by omega] at h; exact h.row⟩
      refine wp_seq_k fun K15 hK15 => ?_
      refine wp_seq_k fun K16 hK16 => ?_
      refine wp_region_list (WL.out ?_)
      refine WL.val (by kernel_rfl) (.int .i64 ((b : Int) + 1)) (by go_simp) ?_
      simp only [Act.put, List.setIfInBounds_toArray, List.set_cons_zero, List.set_cons_succ]
      refine WL.val (by kernel_rfl) (.int .i64 (N : Int)) (by go_simp) ?_
      simp only [Act.put, List.setIfInBounds_toArray, List.set_cons_zero, List.set_cons_succ]
      refine WL.val (by kernel_rfl) (.bool false) (by go_simp) ?_
      simp only [Act.put, List.setIfInBounds_toArray, List.set_cons_zero, List.set_cons_succ]
      refine WL.nil ?_
      refine hK16 _ _ ?_
      refine wp_cond_false rfl ?_
      refine wp_exit ?_
      refine hK9 _ _ ?_
      refine wp_region_list (WL.out ?_)
      refine WL.val (by kernel_rfl) (.int .i64 ((a : Int) + 1)) (by go_simp) ?_
      simp only [Act.put, List.setIfInBounds_toArray, List.set_cons_zero, List.set_cons_succ]
      refine WL.val (by kernel_rfl) (.int .i64 ((a : Int) + 1 + 1)) (by go_simp) ?_
      simp only [Act.put, List.setIfInBounds_toArray, List.set_cons_zero, List.set_cons_succ]
      refine WL.val (by kernel_rfl) (.int .i64 ((a : Int) + 1 + 1)) (by go_simp) ?_
      simp only [Act.put, List.setIfInBounds_toArray, List.set_cons_zero, List.set_cons_succ]
      refine WL.nil ?_
      exact ⟨⟨a + 1, fun zz => [.int .i64 (N : Int), undef, .pointer none, .int .i64 0, .map (some mb), .int .i64 ((a : Int) + 1 + 1), .int .i64 ((b : Int) + 1), .int .i64 (N : Int), .bool false, .bool false, .int .i64 (N : Int), .bool false, .bool false, .map (some mb), .int .i64 ((a : Int) + 1), .int .i64 (N : Int), .bool true, .int .i64 ((a : Int) + 1), .int .i64 ((a : Int) + 1 + 1), .int .i64 ((b : Int) + 1), .int .i64 (N : Int), .bool false, fy 22, fy 23, fy 24, fy 25, fy 26, fy 27, fy 28, fy 29, fy 30, undef, undef, undef].getD zz undef, rfl, ⟨by omega⟩, Bb, Fa2⟩, by simp only [intOf]; show N + 1 - (((a : Int) + 1 + 1)).toNat < N + 1 - (((a : Int) + 1)).toNat; omega⟩
  · have htn' : ¬ ((a : Int) + 1) ≤ (N : Int) := by omega
    have Fz : Keep (FilledM wr mb N N 0) := ⟨by have h := Fa.out; rwa [show a = N by omega] at h⟩
    refine wp_seq_k fun K17 hK17 => ?_
    refine wp_seq_k fun K18 hK18 => ?_
    refine wp_region_list (WL.out ?_)
    refine WL.val (by kernel_rfl) (.int .i64 ((a : Int) + 1)) (by go_simp) ?_
    simp only [Act.put, List.setIfInBounds_toArray, List.set_cons_zero, List.set_cons_succ]
    refine WL.val (by kernel_rfl) (.int .i64 (N : Int)) (by go_simp) ?_
    simp only [Act.put, List.setIfInBounds_toArray, List.set_cons_zero, List.set_cons_succ]
    refine WL.val (by kernel_rfl) (.bool false) (by go_simp) ?_
    simp only [Act.put, List.setIfInBounds_toArray, List.set_cons_zero, List.set_cons_succ]
    refine WL.nil ?_
    refine hK18 _ _ ?_
    refine wp_cond_false rfl ?_
    refine wp_exit ?_
    refine hK5 _ _ ?_
    refine wp_seq_k fun K19 hK19 => ?_
    refine wp_region_list (WL.out ?_)
    refine WL.val (by kernel_rfl) (.map (some mb)) (by go_simp) ?_
    simp only [Act.put, List.setIfInBounds_toArray, List.set_cons_zero, List.set_cons_succ]
    refine WL.bld (by kernel_rfl) 67 #[(1, .tmp 31)] rfl [(1, .map (some mb))] (by simp [Act.eval]) #[.int .i32 0, .int .u32 0, .map (some mb)] (bldN _) ?_
    simp only [Act.put, List.setIfInBounds_toArray, List.set_cons_zero, List.set_cons_succ]
    refine WL.box (by kernel_rfl) 67 (.tmp 32) rfl #[.int .i32 0, .int .u32 0, .map (some mb)] rfl ?_
    have bb := below_new wr (.cells #[.int .i32 0, .int .u32 0, .map (some mb)] 67)
    have Qb := Keep.mk (Blk.new wr 67 #[.int .i32 0, .int .u32 0, .map (some mb)])
    have F9 := Keep.mk (Fz.out.grown (Grown.below (S := fun _ => False) bb) id)
    generalize wr.alloc (.cells #[.int .i32 0, .int .u32 0, .map (some mb)] 67) = w9 at *
    obtain ⟨p, hp⟩ : ∃ z, Keep (z = wr.heap.size) := ⟨_, ⟨rfl⟩⟩
    rw [← hp.out] at Qb ⊢
    simp only [Act.put, List.setIfInBounds_toArray, List.set_cons_zero, List.set_cons_succ]
    refine WL.val (by kernel_rfl) (.pointer (some ⟨p, 0, none⟩)) (by go_simp) ?_
    simp only [Act.put, List.setIfInBounds_toArray, List.set_cons_zero, List.set_cons_succ]
    refine WL.val (by kernel_rfl) (.int .i64 0) (by go_simp) ?_
    simp only [Act.put, List.setIfInBounds_toArray, List.set_cons_zero, List.set_cons_succ]
    refine WL.nil ?_
    refine hK19 _ _ ?_
    refine wp_ret ?_
    try simp only [Exit.inBlock, Exit.then]
    exact bodyPost_ret (results_tmp2 (fn := Tryd.f8) rfl _ _ _) rfl ⟨p, mb, rfl, pm_new Qb.out F9.out hN, ⟨by rw [hp.out]; exact Ba.out.size, by rw [hmb.out]; exact Nat.le_refl _⟩, (Ba.out.trans (Grown.below bb)).to_below (fun k hk e => by have := hmb.out; omega) (Nat.le_refl _)⟩

theorem Tryd.in17 (w : World) (vs : Array Value) : (callFunc 17 vs).run Tryd.prog w = .ok (.enter 17 vs) w := by kernel_rfl
theorem Tryd.in35 (w : World) (vs : Array Value) : (callFunc 35 vs).run Tryd.prog w = .ok (.enter 35 vs) w := by kernel_rfl
theorem toL_inj {a b : ByteArray} (h : a.toList = b.toList) : a = b := by
  rw [ByteArray.toList_eq, ByteArray.toList_eq] at h
  exact ByteArray.ext (Array.toList_inj.mp h)
theorem nums_eq {a b : List Int} (ha : Byts a) (hb : Byts b) : ((strOfNums a).toList == (strOfNums b).toList) = decide (a = b) := by
  rw [Bool.eq_iff_iff]
  simp only [beq_iff_eq, decide_eq_true_iff]
  constructor
  · intro h
    rw [← lst_nums ha, ← lst_nums hb, toL_inj h]
  · intro h; rw [h]
set_option maxRecDepth 8000 in
theorem same_any (va vb : Value) (a b : List Int) (w : World) (ha : RowAt w va a) (hb : RowAt w vb b) (hA : Byts a) (hB : Byts b) : Calls Tryd.prog 17 #[va, vb] w fun e w' => e = .returned (.bool (decide (a = b))) ∧ w' = w := by
  have q1 := conv_row va a w ha
  have q2 := conv_row vb b w hb
  have HA := Keep.mk hA
  have HB := Keep.mk hB
  clear ha hb hA hB
  go_enter Tryd.func17, Tryd.ntmps17
  refine wp_seq_k fun K1 hK1 => ?_
  refine wp_region_list (WL.out ?_)
  refine WL.val (by kernel_rfl) (.bool false) (by go_simp) ?_
  simp only [Act.put, List.setIfInBounds_toArray, List.set_cons_zero, List.set_cons_succ]
  refine WL.nil ?_
  refine hK1 _ _ ?_
  refine wp_seq_k fun K2 hK2 => ?_
  refine wp_region_list (WL.out ?_)
  refine WL.val (by kernel_rfl) (va) (by go_simp) ?_
  simp only [Act.put, List.setIfInBounds_toArray, List.set_cons_zero, List.set_cons_succ]
  refine WL.val (by kernel_rfl) (.string (strOfNums a)) (by go_simp) ?_
  simp only [Act.put, List.setIfInBounds_toArray, List.set_cons_zero, List.set_cons_succ]
  refine WL.val (by kernel_rfl) (vb) (by go_simp) ?_
  simp only [Act.put, List.setIfInBounds_toArray, List.set_cons_zero, List.set_cons_succ]
  refine WL.val (by kernel_rfl) (.string (strOfNums b)) (by go_simp) ?_
  simp only [Act.put, List.setIfInBounds_toArray, List.set_cons_zero, List.set_cons_succ]
  refine WL.val (by kernel_rfl) (.bool ((strOfNums a).toList == (strOfNums b).toList)) (by go_simp) ?_
  simp only [Act.put, List.setIfInBounds_toArray, List.set_cons_zero, List.set_cons_succ]
  refine WL.val (by kernel_rfl) (.bool ((strOfNums a).toList == (strOfNums b).toList)) (by go_simp) ?_
  simp only [Act.put, List.setIfInBounds_toArray, List.set_cons_zero, List.set_cons_succ]
  refine WL.nil ?_
  refine hK2 _ _ ?_
  refine wp_ret ?_
  go_ret
  refine ⟨?_, rfl⟩
  rw [← nums_eq HA.out HB.out]
  rfl
def mkB (i : Nat) : Int := ((i % 251 + 1 : Nat) : Int)
set_option maxRecDepth 8000 in
theorem full_some (b off n cap i : Nat) (mk : Int) (w : World) (hmk : Keep (mk = mkB i)) (HN : Keep (n ≤ 4398046511104)) (HI : Keep (i ≤ 4398046511104)) (HC : Keep (∀ t, t < n → w.cell? ⟨b, off + t, none⟩ = some (.int .u8 mk))) : Calls Tryd.prog 35 #[.slice (some ⟨b, off, none⟩) n cap, .int .i64 (i : Int)] w fun e w' => e = .returned (.bool true) ∧ w' = w := by
  have hm1 : Int.tmod (i : Int) 251 = ((i % 251 : Nat) : Int) := by rw [Int.tmod_eq_emod_of_nonneg (by omega)]; omega
  have hw1 : IntKind.i64.wrap ((i % 251 : Nat) : Int) = ((i % 251 : Nat) : Int) := by rw [IntKind.wrap_i64]; omega
  have hw2 : IntKind.i64.wrap (((i % 251 : Nat) : Int) + 1) = ((i % 251 + 1 : Nat) : Int) := by rw [IntKind.wrap_i64]; omega
  have hw3 : IntKind.u8.wrap ((i % 251 + 1 : Nat) : Int) = mk := by rw [hmk.out]; unfold mkB; rw [IntKind.wrap_u8]; omega
  have hw4 : IntKind.i64.wrap ((i : Int) % 251 + 1) = (i : Int) % 251 + 1 := by rw [IntKind.wrap_i64]; omega
  have hw5 : IntKind.u8.wrap ((i : Int) % 251 + 1) = mk := by rw [hmk.out]; unfold mkB; rw [IntKind.wrap_u8]; omega
  go_enter Tryd.func35, Tryd.ntmps35
  refine wp_seq_k fun K1 hK1 => ?_
  refine wp_region_list (WL.out ?_)
  refine WL.val (by kernel_rfl) (.bool false) (by go_simp) ?_
  simp only [Act.put, List.setIfInBounds_toArray, List.set_cons_zero, List.set_cons_succ]
  refine WL.nil ?_
  refine hK1 _ _ ?_
  refine wp_seq_k fun K2 hK2 => ?_
  refine wp_seq_k fun K3 hK3 => ?_
  refine wp_region_list (WL.out ?_)
  refine WL.val (by kernel_rfl) (.int .i64 0) (by go_simp) ?_
  simp only [Act.put, List.setIfInBounds_toArray, List.set_cons_zero, List.set_cons_succ]
  refine WL.nil ?_
  refine hK3 _ _ ?_
  refine wp_block ?_
  refine wp_loop (fun ac wr => ∃ (t : Nat) (f : Nat → Value), ac = { tmps := #[.slice (some ⟨b, off, none⟩) n cap, .int .i64 (i : Int), undef, undef, f 4, .int .i64 (t : Int), f 6, f 7, f 8, f 9, f 10, f 11, f 12, f 13, f 14, f 15, f 16, f 17, f 18, f 19, f 20], defers := [] } ∧ w = wr) (fun a _ => n - (intOf (a.tmps.getD 5 undef)).toNat) ⟨0, fun zz => [.slice (some ⟨b, off, none⟩) n cap, .int .i64 (i : Int), undef, undef, .bool false, .int .i64 0, undef, undef, undef, undef, undef, undef, undef, undef, undef, undef, undef, undef, undef, undef, undef].getD zz undef, rfl, rfl⟩ ?_
  rintro ac wr ⟨t, f, rfl, hw⟩
  subst hw
  by_cases htn : t < n
  · have htn' : (t : Int) < (n : Int) := by omega
    have hw9 : IntKind.i64.wrap ((t : Int) + 1) = ((t + 1 : Nat) : Int) := by rw [IntKind.wrap_i64]; have := HN.out; omega
    have c_ := HC.out t htn
    refine wp_seq_k fun K4 hK4 => ?_
    refine wp_seq_k fun K5 hK5 => ?_
    refine wp_region_list (WL.out ?_)
    refine WL.val (by kernel_rfl) (.int .i64 (t : Int)) (by go_simp) ?_
    simp only [Act.put, List.setIfInBounds_toArray, List.set_cons_zero, List.set_cons_succ]
    refine WL.val (by kernel_rfl) (.slice (some ⟨b, off, none⟩) n cap) (by go_simp) ?_
    simp only [Act.put, List.setIfInBounds_toArray, List.set_cons_zero, List.set_cons_succ]
    refine WL.val (by kernel_rfl) (.int .i64 (n : Int)) (by go_simp) ?_
    simp only [Act.put, List.setIfInBounds_toArray, List.set_cons_zero, List.set_cons_succ]
    refine WL.val (by kernel_rfl) (.bool true) (by go_simp) ?_
    simp only [Act.put, List.setIfInBounds_toArray, List.set_cons_zero, List.set_cons_succ]
    refine WL.nil ?_
    refine hK5 _ _ ?_
    refine wp_cond_true rfl ?_
    refine wp_skip ?_
    refine hK4 _ _ ?_
    refine wp_seq_k fun K6 hK6 => ?_
    refine wp_block ?_
    refine wp_seq_k fun K7 hK7 => ?_
    refine wp_region_list (WL.out ?_)
    refine WL.val (by kernel_rfl) (.slice (some ⟨b, off, none⟩) n cap) (by go_simp) ?_
    simp only [Act.put, List.setIfInBounds_toArray, List.set_cons_zero, List.set_cons_succ]
    refine WL.val (by kernel_rfl) (.int .i64 (t : Int)) (by go_simp) ?_
    simp only [Act.put, List.setIfInBounds_toArray, List.set_cons_zero, List.set_cons_succ]
    refine WL.val (by kernel_rfl) (.pointer (some ⟨b, off + t, none⟩)) (by go_simp) ?_
    simp only [Act.put, List.setIfInBounds_toArray, List.set_cons_zero, List.set_cons_succ]
    refine WL.val (by kernel_rfl) (.int .u8 mk) (by go_simp) ?_
    simp only [Act.put, List.setIfInBounds_toArray, List.set_cons_zero, List.set_cons_succ]
    refine WL.val (by kernel_rfl) (.int .i64 (i : Int)) (by go_simp) ?_
    simp only [Act.put, List.setIfInBounds_toArray, List.set_cons_zero, List.set_cons_succ]
    refine WL.val (by kernel_rfl) (.int .i64 ((i % 251 : Nat) : Int)) (by go_simp) ?_
    simp only [Act.put, List.setIfInBounds_toArray, List.set_cons_zero, List.set_cons_succ]
    refine WL.val (by kernel_rfl) (.int .i64 ((i % 251 + 1 : Nat) : Int)) (by go_simp) ?_
    simp only [Act.put, List.setIfInBounds_toArray, List.set_cons_zero, List.set_cons_succ]
    refine WL.val (by kernel_rfl) (.int .u8 mk) (by go_simp) ?_
    simp only [Act.put, List.setIfInBounds_toArray, List.set_cons_zero, List.set_cons_succ]
    refine WL.val (by kernel_rfl) (.bool false) (by go_simp) ?_
    simp only [Act.put, List.setIfInBounds_toArray, List.set_cons_zero, List.set_cons_succ]
    refine WL.nil ?_
    refine hK7 _ _ ?_
    refine wp_cond_false rfl ?_
    refine wp_skip ?_
    refine hK6 _ _ ?_
    refine wp_region_list (WL.out ?_)
    refine WL.val (by kernel_rfl) (.int .i64 (t : Int)) (by go_simp) ?_
    simp only [Act.put, List.setIfInBounds_toArray, List.set_cons_zero, List.set_cons_succ]
    refine WL.val (by kernel_rfl) (.int .i64 ((t + 1 : Nat) : Int)) (by go_simp) ?_
    simp only [Act.put, List.setIfInBounds_toArray, List.set_cons_zero, List.set_cons_succ]
    refine WL.val (by kernel_rfl) (.int .i64 ((t + 1 : Nat) : Int)) (by go_simp) ?_
    simp only [Act.put, List.setIfInBounds_toArray, List.set_cons_zero, List.set_cons_succ]
    refine WL.nil ?_
    refine ⟨⟨t + 1, fun zz => [.slice (some ⟨b, off, none⟩) n cap, .int .i64 (i : Int), undef, undef, f 4, .int .i64 ((t + 1 : Nat) : Int), .int .i64 (t : Int), .slice (some ⟨b, off, none⟩) n cap, .int .i64 (n : Int), .bool true, .int .i64 (t : Int), .int .i64 ((t + 1 : Nat) : Int), .slice (some ⟨b, off, none⟩) n cap, .int .i64 (t : Int), .pointer (some ⟨b, off + t, none⟩), .int .u8 mk, .int .i64 (i : Int), .int .i64 ((i % 251 : Nat) : Int), .int .i64 ((i % 251 + 1 : Nat) : Int), .int .u8 mk, .bool false].getD zz undef, rfl, rfl⟩, ?_⟩
    simp only [intOf]; show n - (((t + 1 : Nat) : Int)).toNat < n - ((t : Int)).toNat; omega
  · have htn' : ¬ (t : Int) < (n : Int) := by omega
    refine wp_seq_k fun K8 hK8 => ?_
    refine wp_seq_k fun K9 hK9 => ?_
    refine wp_region_list (WL.out ?_)
    refine WL.val (by kernel_rfl) (.int .i64 (t : Int)) (by go_simp) ?_
    simp only [Act.put, List.setIfInBounds_toArray, List.set_cons_zero, List.set_cons_succ]
    refine WL.val (by kernel_rfl) (.slice (some ⟨b, off, none⟩) n cap) (by go_simp) ?_
    simp only [Act.put, List.setIfInBounds_toArray, List.set_cons_zero, List.set_cons_succ]
    refine WL.val (by kernel_rfl) (.int .i64 (n : Int)) (by go_simp) ?_
    simp only [Act.put, List.setIfInBounds_toArray, List.set_cons_zero, List.set_cons_succ]
    refine WL.val (by kernel_rfl) (.bool false) (by go_simp) ?_
    simp only [Act.put, List.setIfInBounds_toArray, List.set_cons_zero, List.set_cons_succ]
    refine WL.nil ?_
    refine hK9 _ _ ?_
    refine wp_cond_false rfl ?_
    refine wp_exit ?_
    refine hK2 _ _ ?_
    refine wp_seq_k fun K10 hK10 => ?_
    refine wp_region_list (WL.out ?_)
    refine WL.val (by kernel_rfl) (.bool true) (by go_simp) ?_
    simp only [Act.put, List.setIfInBounds_toArray, List.set_cons_zero, List.set_cons_succ]
    refine WL.nil ?_
    refine hK10 _ _ ?_
    refine wp_ret ?_
    go_ret
    exact ⟨rfl, rfl⟩

end Go.Proofs.YteecdcocgflklaaDoor
