import Derived.Test.YteecdcocgflklaaDoorA03
import Derived.Test.YteecdcocgflklaaDoorA02
import Derived.Deep.DeepAppendRoom
namespace Go.Proofs.YteecdcocgflklaaDoor
open Go.RowKit
set_option linter.unusedSimpArgs false
set_option linter.unusedVariables false
theorem Tryd.in30 (w : World) (vs : Array Value) : (callFunc 30 vs).run Tryd.prog w = .ok (.enter 30 vs) w := by kernel_rfl
theorem owns_set {w : World} {B n cap gl : Nat} {xs : List Value} (h : w.ownsRow B 39 1 (.slice (some ⟨gl, 0, none⟩) n cap) n xs) (k : Nat) (u : Value) : (w.setCell ⟨gl, k, none⟩ u).ownsRow B 39 1 (.slice (some ⟨gl, 0, none⟩) n cap) n (xs.set k u) := by
  rcases h.2 with ⟨e, _⟩ | ⟨g, cap', cur, e, h1, h2, h3, h4, h5, h6⟩
  · cases e
  · injection e with e1 e2 e3
    injection e1 with e1
    injection e1 with e1
    subst e1 e3
    have hB : Blk w gl 39 cur := h2
    refine ⟨by rw [List.length_set]; exact h.1, .inr ⟨gl, cap, cur.setIfInBounds k u, rfl, h1, hB.set k u, h3, h4, by rw [Array.size_setIfInBounds]; exact h5, ?_⟩⟩
    rw [Array.toList_setIfInBounds, ← h6]
    by_cases hk : k < n * 1
    · rw [List.take_set]
    · rw [List.take_set]
theorem RmAt.relist {w w' : World} {x g N i : Nat} {K : List Lk} {a : Lk} {R : List (Value × List Int)} (h : RmAt w x g N K) (hi : K[i]? = some a) (hg : Grown w w' (fun m => a.v.ownBlock = some m)) (hv : w'.ownsRow 0 39 1 a.v R.length (R.map (·.1))) (hR : ∀ p ∈ R, p ∈ a.R ∨ (Own w' p.1 p.2 ∧ (∀ m, p.1.ownBlock = some m → w.heap.size ≤ m) ∧ p.2.length ≤ 2097194 ∧ Byts p.2)) (hn : R.length ≤ 1024) :
    RmN w x g N K (K.set i ⟨a.v, R⟩) w' := by
  have ham := List.mem_of_getElem? hi
  have ha1 := h.lk a ham
  have hgb : Blk w' g 85 (K.map (·.v)).toArray := hg.blk h.bg fun e => absurd ((owns_typ ha1.own e).one h.bg.typ) (by decide)
  refine h.next hi (hg.mono fun _ _ e => .inr e) ?_ ⟨hv, fun p hp => ?_, hn⟩ (fun m e => .inl e) fun p hp m e => ?_
  · have e : (K.set i ⟨a.v, R⟩).map (·.v) = K.map (·.v) := by
      rw [List.map_set]
      apply List.ext_getElem?
      intro j
      by_cases hj : i = j
      · subst hj
        rw [List.getElem?_set_self (by simpa using (List.getElem?_eq_some_iff.mp hi).1), List.getElem?_map, hi]; rfl
      · rw [List.getElem?_set_ne hj]
    rw [e]
    exact hgb
  · rcases hR p hp with h1 | h1
    · exact ⟨owns_grown (ha1.rows p h1).1 hg fun k hk e => absurd ((owns_typ (ha1.rows p h1).1 hk).one (owns_typ ha1.own e)) (by decide), (ha1.rows p h1).2⟩
    · exact ⟨h1.1, h1.2.2⟩
  · rcases hR p hp with h1 | h1
    · exact .inl ⟨p, h1, e⟩
    · exact .inr (h1.2.1 m e)
theorem RmAt.put {w w2 : World} {x g N i gl n cap k : Nat} {K : List Lk} {a : Lk} {u : Value} {b : List Int} (h : RmAt w x g N K) (hi : K[i]? = some a) (hv : a.v = .slice (some ⟨gl, 0, none⟩) n cap) (hn : a.R.length = n) (hb : Below w.heap.size w w2) (ho : Own w2 u b) (hf : ∀ m, u.ownBlock = some m → w.heap.size ≤ m) (hl : b.length ≤ 2097194) (hB : Byts b) : RmN w x g N K (K.set i ⟨a.v, a.R.set k (u, b)⟩) (w2.setCell ⟨gl, k, none⟩ u) := by
  have ham := List.mem_of_getElem? hi
  have h1 : RmAt w2 x g N K := h.below hb
  have ha1 := h1.lk a ham
  have hob : a.v.ownBlock = some gl := by rw [hv]; rfl
  have gs : Grown w2 (w2.setCell ⟨gl, k, none⟩ u) (fun m => m = gl) := Grown.setCell w2 gl k u fun _ => rfl
  refine h.relist hi ((Grown.below hb).trans (gs.mono fun m _ e => by rw [e]; exact hob)) ?_ (fun p hp => ?_) (by rw [List.length_set]; exact ha1.few)
  · have h2 := ha1.own
    rw [hv, hn] at h2
    have h3 := owns_set h2 k u
    rw [hv, List.length_set, hn, List.map_set]
    exact h3
  · rcases List.mem_or_eq_of_mem_set hp with hp | rfl
    · exact .inl hp
    · exact .inr ⟨owns_grown ho gs fun m hm e => absurd ((owns_typ ho hm).one (owns_typ ha1.own (by rw [e]; exact hob))) (by decide), hf, hl, hB⟩
set_option maxRecDepth 8000 in
theorem ci_err (w : World) (x g N : Nat) (K : List Lk) (f t i : Int) (m : Int) (HM : Keep (RmAt w x g N K)) (er : Int) (her : Keep (nmE N K f t i = er)) (he : (er != 0) = true) : Calls Tryd.prog 30 #[.pointer (some ⟨x, 0, none⟩), .int .i64 f, .int .i64 t, .int .i64 i, .int .i64 m] w fun e w' => e = .returned (.int .i64 er) ∧ w' = w := by
  go_enter Tryd.func30, Tryd.ntmps30
  refine wp_seq_k fun K1 hK1 => ?_
  refine wp_region_list (WL.out ?_)
  refine WL.val (by kernel_rfl) (.int .i64 0) (by go_simp) ?_
  simp only [Act.put, List.setIfInBounds_toArray, List.set_cons_zero, List.set_cons_succ]
  refine WL.nil ?_
  refine hK1 _ _ ?_
  refine wp_seq_k fun K2 hK2 => ?_
  refine wp_region_list (WL.out ?_)
  refine WL.val (by kernel_rfl) (.pointer (some ⟨x, 0, none⟩)) (by go_simp) ?_
  simp only [Act.put, List.setIfInBounds_toArray, List.set_cons_zero, List.set_cons_succ]
  refine WL.val (by kernel_rfl) (.int .i64 f) (by go_simp) ?_
  simp only [Act.put, List.setIfInBounds_toArray, List.set_cons_zero, List.set_cons_succ]
  refine WL.val (by kernel_rfl) (.int .i64 t) (by go_simp) ?_
  simp only [Act.put, List.setIfInBounds_toArray, List.set_cons_zero, List.set_cons_succ]
  refine WL.val (by kernel_rfl) (.int .i64 i) (by go_simp) ?_
  simp only [Act.put, List.setIfInBounds_toArray, List.set_cons_zero, List.set_cons_succ]
  refine WL.callF (by kernel_rfl) 45 _ _ rfl Tryd.in45 #[.pointer (some ⟨x, 0, none⟩), .int .i64 f, .int .i64 t, .int .i64 i] (by simp [Act.eval]) ?_
  refine (named_any w x g N K f t i HM.out).mono ?_
  rintro e w1_ ⟨q_, rfl, hq_, hw_⟩
  refine ⟨_, rfl, ?_⟩
  have hw_ := hw_.symm
  subst hw_
  rw [her.out] at hq_ ⊢
  clear hq_
  simp only [Act.put, List.setIfInBounds_toArray, List.set_cons_zero, List.set_cons_succ]
  refine WL.val (by kernel_rfl) (.tuple #[q_, .int .i64 er]) (by go_simp) ?_
  simp only [Act.put, List.setIfInBounds_toArray, List.set_cons_zero, List.set_cons_succ]
  refine WL.val (by kernel_rfl) (q_) (by go_simp) ?_
  simp only [Act.put, List.setIfInBounds_toArray, List.set_cons_zero, List.set_cons_succ]
  refine WL.val (by kernel_rfl) (.int .i64 er) (by go_simp) ?_
  simp only [Act.put, List.setIfInBounds_toArray, List.set_cons_zero, List.set_cons_succ]
  refine WL.val (by kernel_rfl) (q_) (by go_simp) ?_
  simp only [Act.put, List.setIfInBounds_toArray, List.set_cons_zero, List.set_cons_succ]
  refine WL.val (by kernel_rfl) (.int .i64 er) (by go_simp) ?_
  simp only [Act.put, List.setIfInBounds_toArray, List.set_cons_zero, List.set_cons_succ]
  refine WL.nil ?_
  refine hK2 _ _ ?_
  refine wp_seq_k fun K3 hK3 => ?_
  refine wp_seq_k fun K4 hK4 => ?_
  refine wp_region_list (WL.out ?_)
  refine WL.val (by kernel_rfl) (.int .i64 er) (by go_simp) ?_
  simp only [Act.put, List.setIfInBounds_toArray, List.set_cons_zero, List.set_cons_succ]
  refine WL.val (by kernel_rfl) (.bool true) (by go_simp) ?_
  simp only [Act.put, List.setIfInBounds_toArray, List.set_cons_zero, List.set_cons_succ]
  refine WL.nil ?_
  refine hK4 _ _ ?_
  refine wp_cond_true rfl ?_
  refine wp_seq_k fun K5 hK5 => ?_
  refine wp_region_list (WL.out ?_)
  refine WL.val (by kernel_rfl) (.int .i64 er) (by go_simp) ?_
  simp only [Act.put, List.setIfInBounds_toArray, List.set_cons_zero, List.set_cons_succ]
  refine WL.val (by kernel_rfl) (.int .i64 er) (by go_simp) ?_
  simp only [Act.put, List.setIfInBounds_toArray, List.set_cons_zero, List.set_cons_succ]
  refine WL.nil ?_
  refine hK5 _ _ ?_
  refine wp_ret ?_
  go_ret
  exact ⟨rfl, rfl⟩
set_option maxRecDepth 8000 in
set_option maxHeartbeats 1000000 in
theorem ci_none (w : World) (x g N : Nat) (Ks : List Lk) (f t m : Int) (k i_ n cap gl rn rc : Nat) (ra : Option Addr) (b : List Int) (a : Lk) (HM : Keep (RmAt w x g N Ks)) (her : Keep (nmE N Ks f t (k : Int) = 0)) (Hix : Keep (i_ = ix f t)) (Ha : Keep (Ks[i_]? = some a)) (Hv : Keep (a.v = .slice (some ⟨gl, 0, none⟩) n cap)) (Hn : Keep (a.R.length = n)) (Hp : Keep (a.R[k]? = some (.slice ra rn rc, b))) (HL2 : Keep (b.length ≤ 2097194)) (HBy : Keep (Byts b)) (hk : k < n) (hr1 : rn = 0)
    (HCd : Keep (∀ wx, Below w.heap.size w wx → wx.cell? ⟨g, i_, none⟩ = some (.slice (some ⟨gl, 0, none⟩) n cap))) (HCl : Keep (∀ wx, Below w.heap.size w wx → ∀ (j : Nat) (p : Value × List Int), a.R[j]? = some p → wx.cell? ⟨gl, j, none⟩ = some p.1)) : Calls Tryd.prog 30 #[.pointer (some ⟨x, 0, none⟩), .int .i64 f, .int .i64 t, .int .i64 (k : Int), .int .i64 m] w fun e w' => e = .returned (.int .i64 0) ∧ w' = w := by
  have hkn : (k : Int) < (n : Int) := by omega
  have hr' : ¬ (rn : Int) > 0 := by omega
  have hr'' : ¬ (0 : Int) < (rn : Int) := by omega
  have c_ := HCd.out w (Below.refl _ _)
  have d_ : w.cell? ⟨gl, k, none⟩ = some (.slice ra rn rc) := HCl.out w (Below.refl _ _) k _ Hp.out
  go_enter Tryd.func30, Tryd.ntmps30
  refine wp_seq_k fun K1 hK1 => ?_
  refine wp_region_list (WL.out ?_)
  refine WL.val (by kernel_rfl) (.int .i64 0) (by go_simp) ?_
  simp only [Act.put, List.setIfInBounds_toArray, List.set_cons_zero, List.set_cons_succ]
  refine WL.nil ?_
  refine hK1 _ _ ?_
  refine wp_seq_k fun K2 hK2 => ?_
  refine wp_region_list (WL.out ?_)
  refine WL.val (by kernel_rfl) (.pointer (some ⟨x, 0, none⟩)) (by go_simp) ?_
  simp only [Act.put, List.setIfInBounds_toArray, List.set_cons_zero, List.set_cons_succ]
  refine WL.val (by kernel_rfl) (.int .i64 f) (by go_simp) ?_
  simp only [Act.put, List.setIfInBounds_toArray, List.set_cons_zero, List.set_cons_succ]
  refine WL.val (by kernel_rfl) (.int .i64 t) (by go_simp) ?_
  simp only [Act.put, List.setIfInBounds_toArray, List.set_cons_zero, List.set_cons_succ]
  refine WL.val (by kernel_rfl) (.int .i64 (k : Int)) (by go_simp) ?_
  simp only [Act.put, List.setIfInBounds_toArray, List.set_cons_zero, List.set_cons_succ]
  refine WL.callF (by kernel_rfl) 45 _ _ rfl Tryd.in45 #[.pointer (some ⟨x, 0, none⟩), .int .i64 f, .int .i64 t, .int .i64 (k : Int)] (by simp [Act.eval]) ?_
  refine (named_any w x g N Ks f t (k : Int) HM.out).mono ?_
  rintro e w1_ ⟨q_, rfl, hq_, hw_⟩
  refine ⟨_, rfl, ?_⟩
  have hw_ := hw_.symm
  subst hw_
  rw [her.out] at hq_ ⊢
  obtain rfl := hq_ rfl
  rw [← Hix.out]
  simp only [Act.put, List.setIfInBounds_toArray, List.set_cons_zero, List.set_cons_succ]
  refine WL.val (by kernel_rfl) (.tuple #[.pointer (some ⟨g, i_, none⟩), .int .i64 0]) (by go_simp) ?_
  simp only [Act.put, List.setIfInBounds_toArray, List.set_cons_zero, List.set_cons_succ]
  refine WL.val (by kernel_rfl) (.pointer (some ⟨g, i_, none⟩)) (by go_simp) ?_
  simp only [Act.put, List.setIfInBounds_toArray, List.set_cons_zero, List.set_cons_succ]
  refine WL.val (by kernel_rfl) (.int .i64 0) (by go_simp) ?_
  simp only [Act.put, List.setIfInBounds_toArray, List.set_cons_zero, List.set_cons_succ]
  refine WL.val (by kernel_rfl) (.pointer (some ⟨g, i_, none⟩)) (by go_simp) ?_
  simp only [Act.put, List.setIfInBounds_toArray, List.set_cons_zero, List.set_cons_succ]
  refine WL.val (by kernel_rfl) (.int .i64 0) (by go_simp) ?_
  simp only [Act.put, List.setIfInBounds_toArray, List.set_cons_zero, List.set_cons_succ]
  refine WL.nil ?_
  refine hK2 _ _ ?_
  refine wp_seq_k fun K3 hK3 => ?_
  refine wp_seq_k fun K4 hK4 => ?_
  refine wp_region_list (WL.out ?_)
  refine WL.val (by kernel_rfl) (.int .i64 0) (by go_simp) ?_
  simp only [Act.put, List.setIfInBounds_toArray, List.set_cons_zero, List.set_cons_succ]
  refine WL.val (by kernel_rfl) (.bool false) (by go_simp) ?_
  simp only [Act.put, List.setIfInBounds_toArray, List.set_cons_zero, List.set_cons_succ]
  refine WL.nil ?_
  refine hK4 _ _ ?_
  refine wp_cond_false rfl ?_
  refine wp_skip ?_
  refine hK3 _ _ ?_
  refine wp_seq_k fun K5 hK5 => ?_
  refine wp_seq_k fun K6 hK6 => ?_
  refine wp_region_list (WL.out ?_)
  refine WL.val (by kernel_rfl) (.pointer (some ⟨g, i_, none⟩)) (by go_simp) ?_
  simp only [Act.put, List.setIfInBounds_toArray, List.set_cons_zero, List.set_cons_succ]
  refine WL.val (by kernel_rfl) (.pointer (some ⟨g, i_, none⟩)) (by go_simp) ?_
  simp only [Act.put, List.setIfInBounds_toArray, List.set_cons_zero, List.set_cons_succ]
  refine WL.val (by kernel_rfl) (.pointer (some ⟨g, i_, none⟩)) (by go_simp) ?_
  simp only [Act.put, List.setIfInBounds_toArray, List.set_cons_zero, List.set_cons_succ]
  refine WL.val (by kernel_rfl) (.slice (some ⟨gl, 0, none⟩) n cap) (by go_simp) ?_
  simp only [Act.put, List.setIfInBounds_toArray, List.set_cons_zero, List.set_cons_succ]
  refine WL.val (by kernel_rfl) (.int .i64 (k : Int)) (by go_simp) ?_
  simp only [Act.put, List.setIfInBounds_toArray, List.set_cons_zero, List.set_cons_succ]
  refine WL.val (by kernel_rfl) (.pointer (some ⟨gl, k, none⟩)) (by go_simp) ?_
  simp only [Act.put, List.setIfInBounds_toArray, List.set_cons_zero, List.set_cons_succ]
  refine WL.val (by kernel_rfl) (.slice ra rn rc) (by go_simp) ?_
  simp only [Act.put, List.setIfInBounds_toArray, List.set_cons_zero, List.set_cons_succ]
  refine WL.val (by kernel_rfl) (.int .i64 (rn : Int)) (by go_simp) ?_
  simp only [Act.put, List.setIfInBounds_toArray, List.set_cons_zero, List.set_cons_succ]
  refine WL.val (by kernel_rfl) (.bool false) (by go_simp) ?_
  simp only [Act.put, List.setIfInBounds_toArray, List.set_cons_zero, List.set_cons_succ]
  refine WL.nil ?_
  refine hK6 _ _ ?_
  refine wp_cond_false rfl ?_
  refine wp_skip ?_
  refine hK5 _ _ ?_
  refine wp_seq_k fun K7 hK7 => ?_
  refine wp_region_list (WL.out ?_)
  refine WL.val (by kernel_rfl) (.int .i64 0) (by go_simp) ?_
  simp only [Act.put, List.setIfInBounds_toArray, List.set_cons_zero, List.set_cons_succ]
  refine WL.nil ?_
  refine hK7 _ _ ?_
  refine wp_ret ?_
  go_ret
  exact ⟨rfl, rfl⟩
set_option maxRecDepth 8000 in
set_option maxHeartbeats 1000000 in
theorem ci_ok (w : World) (x g N : Nat) (Ks : List Lk) (f t m : Int) (k i_ n cap gl rn rc : Nat) (ra : Option Addr) (b : List Int) (a : Lk) (HM : Keep (RmAt w x g N Ks)) (her : Keep (nmE N Ks f t (k : Int) = 0)) (Hix : Keep (i_ = ix f t)) (Ha : Keep (Ks[i_]? = some a)) (Hv : Keep (a.v = .slice (some ⟨gl, 0, none⟩) n cap)) (Hn : Keep (a.R.length = n)) (Hp : Keep (a.R[k]? = some (.slice ra rn rc, b))) (HL2 : Keep (b.length ≤ 2097194)) (HBy : Keep (Byts b)) (hk : k < n) (hr1 : 1 ≤ rn) (hr2 : rn ≤ 2097194) (HTk : Keep (∀ wx, Below w.heap.size w wx → RowAt wx (.slice ra (rnd m rn) rc) (b.take (rnd m rn)))) (hrc : rn ≤ rc)
    (HCd : Keep (∀ wx, Below w.heap.size w wx → wx.cell? ⟨g, i_, none⟩ = some (.slice (some ⟨gl, 0, none⟩) n cap))) (HCl : Keep (∀ wx, Below w.heap.size w wx → ∀ (j : Nat) (p : Value × List Int), a.R[j]? = some p → wx.cell? ⟨gl, j, none⟩ = some p.1)) : Calls Tryd.prog 30 #[.pointer (some ⟨x, 0, none⟩), .int .i64 f, .int .i64 t, .int .i64 (k : Int), .int .i64 m] w fun e w' => e = .returned (.int .i64 0) ∧ ∃ u, RmN w x g N Ks (Ks.set i_ ⟨a.v, a.R.set k (u, b.take (rnd m rn))⟩) w' := by
  have hkn : (k : Int) < (n : Int) := by omega
  have hr0 : 0 < rn := by omega
  have hr' : (rn : Int) > 0 := by omega
  have hr'' : (0 : Int) < (rn : Int) := by omega
  have hrd := rnd_lt m hr1
  have hrd2 : ((rnd m rn : Nat) : Int) ≤ (rc : Int) := by omega
  have hrd3 : rnd m rn ≤ rc := by omega
  have c_ := HCd.out w (Below.refl _ _)
  have d_ : w.cell? ⟨gl, k, none⟩ = some (.slice ra rn rc) := HCl.out w (Below.refl _ _) k _ Hp.out
  go_enter Tryd.func30, Tryd.ntmps30
  refine wp_seq_k fun K1 hK1 => ?_
  refine wp_region_list (WL.out ?_)
  refine WL.val (by kernel_rfl) (.int .i64 0) (by go_simp) ?_
  simp only [Act.put, List.setIfInBounds_toArray, List.set_cons_zero, List.set_cons_succ]
  refine WL.nil ?_
  refine hK1 _ _ ?_
  refine wp_seq_k fun K2 hK2 => ?_
  refine wp_region_list (WL.out ?_)
  refine WL.val (by kernel_rfl) (.pointer (some ⟨x, 0, none⟩)) (by go_simp) ?_
  simp only [Act.put, List.setIfInBounds_toArray, List.set_cons_zero, List.set_cons_succ]
  refine WL.val (by kernel_rfl) (.int .i64 f) (by go_simp) ?_
  simp only [Act.put, List.setIfInBounds_toArray, List.set_cons_zero, List.set_cons_succ]
  refine WL.val (by kernel_rfl) (.int .i64 t) (by go_simp) ?_
  simp only [Act.put, List.setIfInBounds_toArray, List.set_cons_zero, List.set_cons_succ]
  refine WL.val (by kernel_rfl) (.int .i64 (k : Int)) (by go_simp) ?_
  simp only [Act.put, List.setIfInBounds_toArray, List.set_cons_zero, List.set_cons_succ]
  refine WL.callF (by kernel_rfl) 45 _ _ rfl Tryd.in45 #[.pointer (some ⟨x, 0, none⟩), .int .i64 f, .int .i64 t, .int .i64 (k : Int)] (by simp [Act.eval]) ?_
  refine (named_any w x g N Ks f t (k : Int) HM.out).mono ?_
  rintro e w1_ ⟨q_, rfl, hq_, hw_⟩
  refine ⟨_, rfl, ?_⟩
  have hw_ := hw_.symm
  subst hw_
  rw [her.out] at hq_ ⊢
  obtain rfl := hq_ rfl
  rw [← Hix.out]
  simp only [Act.put, List.setIfInBounds_toArray, List.set_cons_zero, List.set_cons_succ]
  refine WL.val (by kernel_rfl) (.tuple #[.pointer (some ⟨g, i_, none⟩), .int .i64 0]) (by go_simp) ?_
  simp only [Act.put, List.setIfInBounds_toArray, List.set_cons_zero, List.set_cons_succ]
  refine WL.val (by kernel_rfl) (.pointer (some ⟨g, i_, none⟩)) (by go_simp) ?_
  simp only [Act.put, List.setIfInBounds_toArray, List.set_cons_zero, List.set_cons_succ]
  refine WL.val (by kernel_rfl) (.int .i64 0) (by go_simp) ?_
  simp only [Act.put, List.setIfInBounds_toArray, List.set_cons_zero, List.set_cons_succ]
  refine WL.val (by kernel_rfl) (.pointer (some ⟨g, i_, none⟩)) (by go_simp) ?_
  simp only [Act.put, List.setIfInBounds_toArray, List.set_cons_zero, List.set_cons_succ]
  refine WL.val (by kernel_rfl) (.int .i64 0) (by go_simp) ?_
  simp only [Act.put, List.setIfInBounds_toArray, List.set_cons_zero, List.set_cons_succ]
  refine WL.nil ?_
  refine hK2 _ _ ?_
  refine wp_seq_k fun K3 hK3 => ?_
  refine wp_seq_k fun K4 hK4 => ?_
  refine wp_region_list (WL.out ?_)
  refine WL.val (by kernel_rfl) (.int .i64 0) (by go_simp) ?_
  simp only [Act.put, List.setIfInBounds_toArray, List.set_cons_zero, List.set_cons_succ]
  refine WL.val (by kernel_rfl) (.bool false) (by go_simp) ?_
  simp only [Act.put, List.setIfInBounds_toArray, List.set_cons_zero, List.set_cons_succ]
  refine WL.nil ?_
  refine hK4 _ _ ?_
  refine wp_cond_false rfl ?_
  refine wp_skip ?_
  refine hK3 _ _ ?_
  refine wp_seq_k fun K5 hK5 => ?_
  refine wp_seq_k fun K6 hK6 => ?_
  refine wp_region_list (WL.out ?_)
  refine WL.val (by kernel_rfl) (.pointer (some ⟨g, i_, none⟩)) (by go_simp) ?_
  simp only [Act.put, List.setIfInBounds_toArray, List.set_cons_zero, List.set_cons_succ]
  refine WL.val (by kernel_rfl) (.pointer (some ⟨g, i_, none⟩)) (by go_simp) ?_
  simp only [Act.put, List.setIfInBounds_toArray, List.set_cons_zero, List.set_cons_succ]
  refine WL.val (by kernel_rfl) (.pointer (some ⟨g, i_, none⟩)) (by go_simp) ?_
  simp only [Act.put, List.setIfInBounds_toArray, List.set_cons_zero, List.set_cons_succ]
  refine WL.val (by kernel_rfl) (.slice (some ⟨gl, 0, none⟩) n cap) (by go_simp) ?_
  simp only [Act.put, List.setIfInBounds_toArray, List.set_cons_zero, List.set_cons_succ]
  refine WL.val (by kernel_rfl) (.int .i64 (k : Int)) (by go_simp) ?_
  simp only [Act.put, List.setIfInBounds_toArray, List.set_cons_zero, List.set_cons_succ]
  refine WL.val (by kernel_rfl) (.pointer (some ⟨gl, k, none⟩)) (by go_simp) ?_
  simp only [Act.put, List.setIfInBounds_toArray, List.set_cons_zero, List.set_cons_succ]
  refine WL.val (by kernel_rfl) (.slice ra rn rc) (by go_simp) ?_
  simp only [Act.put, List.setIfInBounds_toArray, List.set_cons_zero, List.set_cons_succ]
  refine WL.val (by kernel_rfl) (.int .i64 (rn : Int)) (by go_simp) ?_
  simp only [Act.put, List.setIfInBounds_toArray, List.set_cons_zero, List.set_cons_succ]
  refine WL.val (by kernel_rfl) (.bool true) (by go_simp) ?_
  simp only [Act.put, List.setIfInBounds_toArray, List.set_cons_zero, List.set_cons_succ]
  refine WL.nil ?_
  refine hK6 _ _ ?_
  refine wp_cond_true rfl ?_
  clear c_ d_
  refine wp_region_held_drew (S := fun wx => wx.cell? ⟨g, i_, none⟩ = some (.slice (some ⟨gl, 0, none⟩) n cap)) (by kernel_rfl) (HCd.out _ (Below.refl w.heap.size w).drew) (fun hHeld => ?_)
  have HWd : Keep (Below w.heap.size w w.drew) := ⟨(Below.refl w.heap.size w).drew⟩
  have hsz : Keep (w.drew.heap.size = w.heap.size) := ⟨rfl⟩
  generalize w.drew = wd at *
  have Md := Keep.mk (HM.out.below HWd.out)
  have Cd : Keep (∀ wx, Below wd.heap.size wd wx → wx.cell? ⟨g, i_, none⟩ = some (.slice (some ⟨gl, 0, none⟩) n cap)) := ⟨fun wx hb => HCd.out wx (HWd.out.trans (hb.mono HWd.out.size))⟩
  have Ld : Keep (∀ wx, Below wd.heap.size wd wx → ∀ (j : Nat) (p : Value × List Int), a.R[j]? = some p → wx.cell? ⟨gl, j, none⟩ = some p.1) := ⟨fun wx hb => HCl.out wx (HWd.out.trans (hb.mono HWd.out.size))⟩
  refine wpAnyH_take (i := 0) (oi := ⟨some 33, Op.move (Operand.tmp 11), 81, _, _, none⟩) (v := .pointer (some ⟨g, i_, none⟩)) rfl (by kernel_rfl) (by kernel_rfl) (by kernel_rfl) (fun _ _ _ h => h) (Or.inl ⟨by rfl, fun w hS => by go_simp⟩) hHeld ?_
  simp only [Act.put, List.setIfInBounds_toArray, List.set_cons_zero, List.set_cons_succ]
  refine wpAnyH_take (i := 4) (oi := ⟨some 37, Op.move (Operand.tmp 3), 3, _, _, none⟩) (v := .int .i64 (k : Int)) rfl (by kernel_rfl) (by kernel_rfl) (by kernel_rfl) (fun _ _ _ h => h) (Or.inl ⟨by rfl, fun w hS => by go_simp⟩) hHeld ?_
  simp only [Act.put, List.setIfInBounds_toArray, List.set_cons_zero, List.set_cons_succ]
  refine wpAnyH_take (i := 5) (oi := ⟨some 38, Op.move (Operand.tmp 11), 81, _, _, none⟩) (v := .pointer (some ⟨g, i_, none⟩)) rfl (by kernel_rfl) (by kernel_rfl) (by kernel_rfl) (fun _ _ _ h => h) (Or.inl ⟨by rfl, fun w hS => by go_simp⟩) hHeld ?_
  simp only [Act.put, List.setIfInBounds_toArray, List.set_cons_zero, List.set_cons_succ]
  refine wpAnyH_take (i := 9) (oi := ⟨some 42, Op.move (Operand.tmp 3), 3, _, _, none⟩) (v := .int .i64 (k : Int)) rfl (by kernel_rfl) (by kernel_rfl) (by kernel_rfl) (fun _ _ _ h => h) (Or.inl ⟨by rfl, fun w hS => by go_simp⟩) hHeld ?_
  simp only [Act.put, List.setIfInBounds_toArray, List.set_cons_zero, List.set_cons_succ]
  refine wpAnyH_take (i := 12) (oi := ⟨some 45, Op.move (Operand.tmp 4), 3, _, _, none⟩) (v := .int .i64 m) rfl (by kernel_rfl) (by kernel_rfl) (by kernel_rfl) (fun _ _ _ h => h) (Or.inl ⟨by rfl, fun w hS => by go_simp⟩) hHeld ?_
  simp only [Act.put, List.setIfInBounds_toArray, List.set_cons_zero, List.set_cons_succ]
  refine wpAnyH_take (i := 13) (oi := ⟨some 46, Op.move (Operand.tmp 11), 81, _, _, none⟩) (v := .pointer (some ⟨g, i_, none⟩)) rfl (by kernel_rfl) (by kernel_rfl) (by kernel_rfl) (fun _ _ _ h => h) (Or.inl ⟨by rfl, fun w hS => by go_simp⟩) hHeld ?_
  simp only [Act.put, List.setIfInBounds_toArray, List.set_cons_zero, List.set_cons_succ]
  refine wpAnyH_take (i := 17) (oi := ⟨some 50, Op.move (Operand.tmp 3), 3, _, _, none⟩) (v := .int .i64 (k : Int)) rfl (by kernel_rfl) (by kernel_rfl) (by kernel_rfl) (fun _ _ _ h => h) (Or.inl ⟨by rfl, fun w hS => by go_simp⟩) hHeld ?_
  simp only [Act.put, List.setIfInBounds_toArray, List.set_cons_zero, List.set_cons_succ]
  refine wpAnyH_take (i := 1) (oi := ⟨some 34, Op.nilCheck (Operand.tmp 33), 0, _, _, none⟩) (v := .pointer (some ⟨g, i_, none⟩)) rfl (by kernel_rfl) (by kernel_rfl) (by kernel_rfl) (fun _ _ _ h => h) (Or.inl ⟨by rfl, fun w hS => by go_simp⟩) hHeld ?_
  simp only [Act.put, List.setIfInBounds_toArray, List.set_cons_zero, List.set_cons_succ]
  refine wpAnyH_take (i := 6) (oi := ⟨some 39, Op.nilCheck (Operand.tmp 38), 0, _, _, none⟩) (v := .pointer (some ⟨g, i_, none⟩)) rfl (by kernel_rfl) (by kernel_rfl) (by kernel_rfl) (fun _ _ _ h => h) (Or.inl ⟨by rfl, fun w hS => by go_simp⟩) hHeld ?_
  simp only [Act.put, List.setIfInBounds_toArray, List.set_cons_zero, List.set_cons_succ]
  refine wpAnyH_take (i := 14) (oi := ⟨some 47, Op.nilCheck (Operand.tmp 46), 0, _, _, none⟩) (v := .pointer (some ⟨g, i_, none⟩)) rfl (by kernel_rfl) (by kernel_rfl) (by kernel_rfl) (fun _ _ _ h => h) (Or.inl ⟨by rfl, fun w hS => by go_simp⟩) hHeld ?_
  simp only [Act.put, List.setIfInBounds_toArray, List.set_cons_zero, List.set_cons_succ]
  refine wpAnyH_take (i := 2) (oi := ⟨some 35, Op.fieldAddr 85 (Operand.tmp 34) 0, 0, _, _, none⟩) (v := .pointer (some ⟨g, i_, none⟩)) rfl (by kernel_rfl) (by kernel_rfl) (by kernel_rfl) (fun _ _ _ h => h) (Or.inl ⟨by rfl, fun w hS => by go_simp⟩) hHeld ?_
  simp only [Act.put, List.setIfInBounds_toArray, List.set_cons_zero, List.set_cons_succ]
  refine wpAnyH_take (i := 7) (oi := ⟨some 40, Op.fieldAddr 85 (Operand.tmp 39) 0, 0, _, _, none⟩) (v := .pointer (some ⟨g, i_, none⟩)) rfl (by kernel_rfl) (by kernel_rfl) (by kernel_rfl) (fun _ _ _ h => h) (Or.inl ⟨by rfl, fun w hS => by go_simp⟩) hHeld ?_
  simp only [Act.put, List.setIfInBounds_toArray, List.set_cons_zero, List.set_cons_succ]
  refine wpAnyH_take (i := 15) (oi := ⟨some 48, Op.fieldAddr 85 (Operand.tmp 47) 0, 0, _, _, none⟩) (v := .pointer (some ⟨g, i_, none⟩)) rfl (by kernel_rfl) (by kernel_rfl) (by kernel_rfl) (fun _ _ _ h => h) (Or.inl ⟨by rfl, fun w hS => by go_simp⟩) hHeld ?_
  simp only [Act.put, List.setIfInBounds_toArray, List.set_cons_zero, List.set_cons_succ]
  refine wpAnyH_take (i := 3) (oi := ⟨some 36, Op.load 36 (Operand.tmp 35), 36, _, _, none⟩) (v := .slice (some ⟨gl, 0, none⟩) n cap) rfl (by kernel_rfl) (by kernel_rfl) (by kernel_rfl) (fun _ _ _ h => h) (Or.inl ⟨by rfl, fun w hS => by go_simp⟩) hHeld ?_
  simp only [Act.put, List.setIfInBounds_toArray, List.set_cons_zero, List.set_cons_succ]
  refine wpAnyH_take (i := 8) (oi := ⟨some 41, Op.load 36 (Operand.tmp 40), 36, _, _, none⟩) (v := .slice (some ⟨gl, 0, none⟩) n cap) rfl (by kernel_rfl) (by kernel_rfl) (by kernel_rfl) (fun _ _ _ h => h) (Or.inl ⟨by rfl, fun w hS => by go_simp⟩) hHeld ?_
  simp only [Act.put, List.setIfInBounds_toArray, List.set_cons_zero, List.set_cons_succ]
  refine wpAnyH_take (i := 16) (oi := ⟨some 49, Op.load 36 (Operand.tmp 48), 36, _, _, none⟩) (v := .slice (some ⟨gl, 0, none⟩) n cap) rfl (by kernel_rfl) (by kernel_rfl) (by kernel_rfl) (fun _ _ _ h => h) (Or.inl ⟨by rfl, fun w hS => by go_simp⟩) hHeld ?_
  simp only [Act.put, List.setIfInBounds_toArray, List.set_cons_zero, List.set_cons_succ]
  refine wpAnyH_take (i := 10) (oi := ⟨some 43, Op.indexAddr 36 (Operand.tmp 41) (Operand.tmp 42), 0, _, _, none⟩) (v := .pointer (some ⟨gl, k, none⟩)) rfl (by kernel_rfl) (by kernel_rfl) (by kernel_rfl) (fun _ _ _ h => h) (Or.inl ⟨by rfl, fun w hS => by go_simp⟩) hHeld ?_
  simp only [Act.put, List.setIfInBounds_toArray, List.set_cons_zero, List.set_cons_succ]
  refine wpAnyH_take (i := 18) (oi := ⟨some 51, Op.indexAddr 36 (Operand.tmp 49) (Operand.tmp 50), 0, _, _, none⟩) (v := .pointer (some ⟨gl, k, none⟩)) rfl (by kernel_rfl) (by kernel_rfl) (by kernel_rfl) (fun _ _ _ h => h) (Or.inl ⟨by rfl, fun w hS => by go_simp⟩) hHeld ?_
  simp only [Act.put, List.setIfInBounds_toArray, List.set_cons_zero, List.set_cons_succ]
  refine wpAnyH_ready (rs := [11, 19]) (by kernel_rfl) (by simp) ?_
  refine AllReadyH.cons (o := ⟨some 44, Op.load 39 (Operand.tmp 43), 39, _, _, none⟩) rfl (fun K hK => ?_) (AllReadyH.cons (o := ⟨some 52, Op.load 39 (Operand.tmp 51), 39, _, _, none⟩) rfl (fun K hK => ?_) AllReadyH.nil)
  all_goals rw [if_pos (by rfl)]
  · have c_ : wd.cell? ⟨gl, k, none⟩ = some (.slice ra rn rc) := Ld.out wd (Below.refl _ _) k _ Hp.out
    refine wp_val (.slice ra rn rc) (by go_simp) ?_
    clear c_
    refine hK _ _ (Cd.out _ (Below.refl _ _)) fun hHl => ?_
    clear hK
    simp only [Act.put, List.setIfInBounds_toArray, List.set_cons_zero, List.set_cons_succ]
    refine wpAnyH_ready (rs := [19]) (by kernel_rfl) (by simp) ?_
    refine AllReadyH.cons (o := ⟨some 52, Op.load 39 (Operand.tmp 51), 39, _, _, none⟩) rfl (fun K hK => ?_) AllReadyH.nil
    rw [if_pos (by rfl)]
    have c_ : wd.cell? ⟨gl, k, none⟩ = some (.slice ra rn rc) := Ld.out wd (Below.refl _ _) k _ Hp.out
    refine wp_val (.slice ra rn rc) (by go_simp) ?_
    clear c_
    refine hK _ _ (Cd.out _ (Below.refl _ _)) fun hHy => ?_
    clear hK
    simp only [Act.put, List.setIfInBounds_toArray, List.set_cons_zero, List.set_cons_succ]
    refine wpAnyH_take (i := 20) (oi := ⟨some 53, Op.call { callee := Callee.builtin Builtin.len, args := #[Operand.tmp 52], argTypes := #[39] }, 3, _, _, none⟩) (v := .int .i64 (rn : Int)) rfl (by kernel_rfl) (by kernel_rfl) (by kernel_rfl) (fun _ _ _ h => h) (Or.inl ⟨by rfl, fun w hS => by go_simp⟩) hHy ?_
    simp only [Act.put, List.setIfInBounds_toArray, List.set_cons_zero, List.set_cons_succ]
    refine wpAnyH_ready (rs := [21]) (by kernel_rfl) (by simp) ?_
    refine AllReadyH.cons (o := ⟨some 54, Op.call { callee := Callee.value (Operand.func 47), args := #[Operand.tmp 45, Operand.tmp 53], argTypes := #[3, 3] }, 3, _, _, none⟩) rfl (fun K hK => ?_) AllReadyH.nil
    rw [if_pos (by rfl)]
    refine wp_callF 47 _ _ rfl Tryd.in47 #[.int .i64 m, .int .i64 (rn : Int)] (by simp [Act.eval]) (fun vz wz => vz = .int .i64 ((rnd m rn : Nat) : Int) ∧ wd = wz) ?_ ?_
    · refine (round_any wd m rn hr1 (by omega)).mono ?_
      rintro e wz ⟨rfl, e2⟩
      exact ⟨_, rfl, rfl, e2.symm⟩
    rintro vz wz ⟨rfl, e2⟩
    subst e2
    refine hK _ _ (Cd.out _ (Below.refl _ _)) fun hHr => ?_
    clear hK
    simp only [Act.put, List.setIfInBounds_toArray, List.set_cons_zero, List.set_cons_succ]
    refine wpAnyH_take (i := 22) (oi := ⟨some 55, Op.slice 39 (Operand.tmp 44) none (some (Operand.tmp 54)) none, 39, _, _, none⟩) (v := .slice ra (rnd m rn) rc) rfl (by kernel_rfl) (by kernel_rfl) (by kernel_rfl) (fun _ _ _ h => h) (Or.inl ⟨by rfl, fun w hS => by go_simp⟩) hHr ?_
    simp only [Act.put, List.setIfInBounds_toArray, List.set_cons_zero, List.set_cons_succ]
    refine wpAnyH_ready (rs := [23]) (by kernel_rfl) (by simp) ?_
    refine AllReadyH.cons (o := ⟨some 56, Op.call { callee := Callee.value (Operand.func 46), args := #[Operand.tmp 55], argTypes := #[39] }, 39, _, _, none⟩) rfl (fun K hK => ?_) AllReadyH.nil
    rw [if_pos (by rfl)]
    refine wp_callF 46 _ _ rfl Tryd.in46 #[.slice ra (rnd m rn) rc] (by simp [Act.eval]) (fun vz wz => ∃ v, vz = v ∧ Own wz v (b.take (rnd m rn)) ∧ (∀ k, v.ownBlock = some k → wd.heap.size ≤ k) ∧ Below wd.heap.size wd wz) ?_ ?_
    · refine (cpy_any wd _ (b.take (rnd m rn)) (HTk.out wd HWd.out) (by have := HL2.out; simp; omega)).mono ?_
      rintro e wz ⟨v, rfl, k1, k2, k3⟩
      exact ⟨_, rfl, v, rfl, k1, k2, k3⟩
    rintro vz wa ⟨u, rfl, k1, k2, k3⟩
    obtain ⟨ua, un, uc, hu⟩ := k1.sl
    subst hu
    have ba_ := Keep.mk k3
    have N9 : Keep (RmN wd x g N Ks (Ks.set i_ ⟨a.v, a.R.set k (.slice ua un uc, b.take (rnd m rn))⟩) (wa.setCell ⟨gl, k, none⟩ (.slice ua un uc))) := ⟨Md.out.put Ha.out Hv.out Hn.out k3 k1 k2 (by have := HL2.out; simp; omega) (HBy.out.take _)⟩
    have hab := (Md.out.below k3).lk a (List.mem_of_getElem? Ha.out)
    obtain ⟨cur, hcur⟩ : ∃ cur, Blk wa gl 39 cur := by
      obtain ⟨gl', cap', e1, _, _, _, h⟩ := hab.cells (by rw [Hn.out]; omega)
      rw [Hv.out] at e1
      injection e1 with e1
      injection e1 with e1
      injection e1 with e1
      subst e1
      exact h
    have f_o := hcur.frozen k
    have c_o : wa.cell? ⟨gl, k, none⟩ = some (.slice ra rn rc) := Ld.out wa k3 k _ Hp.out
    have hgg : Keep (g ≠ gl) := ⟨fun e => absurd (Typ.one (e ▸ (Md.out.below k3).bg.typ) hcur.typ) (by decide)⟩
    clear k1 k2 k3 hab hcur
    refine hK _ _ (Cd.out _ ba_.out) fun hHa => ?_
    clear hK
    simp only [Act.put, List.setIfInBounds_toArray, List.set_cons_zero, List.set_cons_succ]
    refine wpAnyH_take (i := 24) (oi := ⟨some 57, Op.indexAddr 36 (Operand.tmp 36) (Operand.tmp 37), 0, _, _, none⟩) (v := .pointer (some ⟨gl, k, none⟩)) rfl (by kernel_rfl) (by kernel_rfl) (by kernel_rfl) (fun _ _ _ h => h) (Or.inl ⟨by rfl, fun w hS => by go_simp⟩) hHa ?_
    simp only [Act.put, List.setIfInBounds_toArray, List.set_cons_zero, List.set_cons_succ]
    refine wpAnyH_ready (rs := [25]) (by kernel_rfl) (by simp) ?_
    refine AllReadyH.cons (o := ⟨none, Op.store 39 (Operand.tmp 57) (Operand.tmp 56), 0, _, _, none⟩) rfl (fun K hK => ?_) AllReadyH.nil
    rw [if_pos (by rfl)]
    refine wp_valS (wa.setCell ⟨gl, k, none⟩ (.slice ua un uc)) (by go_simp) ?_
    clear f_o c_o
    have c9 := (Grown.setCell wa gl k (.slice ua un uc) (S := fun m => m = gl) fun _ => rfl).cell (Cd.out _ ba_.out) hgg.out
    generalize wa.setCell ⟨gl, k, none⟩ (.slice ua un uc) = we at *
    refine hK _ _ c9 fun hHe => ?_
    clear hK
    simp only [Act.put, List.setIfInBounds_toArray, List.set_cons_zero, List.set_cons_succ]
    refine wpAnyH_done (by kernel_rfl) ?_ _
    refine hK5 _ _ ?_
    refine wp_seq_k fun K7 hK7 => ?_
    refine wp_region_list (WL.out ?_)
    refine WL.val (by kernel_rfl) (.int .i64 0) (by go_simp) ?_
    simp only [Act.put, List.setIfInBounds_toArray, List.set_cons_zero, List.set_cons_succ]
    refine WL.nil ?_
    refine hK7 _ _ ?_
    refine wp_ret ?_
    try simp only [Exit.inBlock, Exit.then]
    go_ret
    exact ⟨rfl, .slice ua un uc, ⟨N9.out.at_, (Grown.below (S := RmW g Ks) HWd.out).trans N9.out.gr, fun k hk => by have h := N9.out.new k hk; rw [hsz.out] at h; exact h⟩⟩
  · have c_ : wd.cell? ⟨gl, k, none⟩ = some (.slice ra rn rc) := Ld.out wd (Below.refl _ _) k _ Hp.out
    refine wp_val (.slice ra rn rc) (by go_simp) ?_
    clear c_
    refine hK _ _ (Cd.out _ (Below.refl _ _)) fun hHy => ?_
    clear hK
    simp only [Act.put, List.setIfInBounds_toArray, List.set_cons_zero, List.set_cons_succ]
    refine wpAnyH_take (i := 20) (oi := ⟨some 53, Op.call { callee := Callee.builtin Builtin.len, args := #[Operand.tmp 52], argTypes := #[39] }, 3, _, _, none⟩) (v := .int .i64 (rn : Int)) rfl (by kernel_rfl) (by kernel_rfl) (by kernel_rfl) (fun _ _ _ h => h) (Or.inl ⟨by rfl, fun w hS => by go_simp⟩) hHy ?_
    simp only [Act.put, List.setIfInBounds_toArray, List.set_cons_zero, List.set_cons_succ]
    refine wpAnyH_ready (rs := [11, 21]) (by kernel_rfl) (by simp) ?_
    refine AllReadyH.cons (o := ⟨some 44, Op.load 39 (Operand.tmp 43), 39, _, _, none⟩) rfl (fun K hK => ?_) (AllReadyH.cons (o := ⟨some 54, Op.call { callee := Callee.value (Operand.func 47), args := #[Operand.tmp 45, Operand.tmp 53], argTypes := #[3, 3] }, 3, _, _, none⟩) rfl (fun K hK => ?_) AllReadyH.nil)
    all_goals rw [if_pos (by rfl)]
    · have c_ : wd.cell? ⟨gl, k, none⟩ = some (.slice ra rn rc) := Ld.out wd (Below.refl _ _) k _ Hp.out
      refine wp_val (.slice ra rn rc) (by go_simp) ?_
      clear c_
      refine hK _ _ (Cd.out _ (Below.refl _ _)) fun hHl => ?_
      clear hK
      simp only [Act.put, List.setIfInBounds_toArray, List.set_cons_zero, List.set_cons_succ]
      refine wpAnyH_ready (rs := [21]) (by kernel_rfl) (by simp) ?_
      refine AllReadyH.cons (o := ⟨some 54, Op.call { callee := Callee.value (Operand.func 47), args := #[Operand.tmp 45, Operand.tmp 53], argTypes := #[3, 3] }, 3, _, _, none⟩) rfl (fun K hK => ?_) AllReadyH.nil
      rw [if_pos (by rfl)]
      refine wp_callF 47 _ _ rfl Tryd.in47 #[.int .i64 m, .int .i64 (rn : Int)] (by simp [Act.eval]) (fun vz wz => vz = .int .i64 ((rnd m rn : Nat) : Int) ∧ wd = wz) ?_ ?_
      · refine (round_any wd m rn hr1 (by omega)).mono ?_
        rintro e wz ⟨rfl, e2⟩
        exact ⟨_, rfl, rfl, e2.symm⟩
      rintro vz wz ⟨rfl, e2⟩
      subst e2
      refine hK _ _ (Cd.out _ (Below.refl _ _)) fun hHr => ?_
      clear hK
      simp only [Act.put, List.setIfInBounds_toArray, List.set_cons_zero, List.set_cons_succ]
      refine wpAnyH_take (i := 22) (oi := ⟨some 55, Op.slice 39 (Operand.tmp 44) none (some (Operand.tmp 54)) none, 39, _, _, none⟩) (v := .slice ra (rnd m rn) rc) rfl (by kernel_rfl) (by kernel_rfl) (by kernel_rfl) (fun _ _ _ h => h) (Or.inl ⟨by rfl, fun w hS => by go_simp⟩) hHr ?_
      simp only [Act.put, List.setIfInBounds_toArray, List.set_cons_zero, List.set_cons_succ]
      refine wpAnyH_ready (rs := [23]) (by kernel_rfl) (by simp) ?_
      refine AllReadyH.cons (o := ⟨some 56, Op.call { callee := Callee.value (Operand.func 46), args := #[Operand.tmp 55], argTypes := #[39] }, 39, _, _, none⟩) rfl (fun K hK => ?_) AllReadyH.nil
      rw [if_pos (by rfl)]
      refine wp_callF 46 _ _ rfl Tryd.in46 #[.slice ra (rnd m rn) rc] (by simp [Act.eval]) (fun vz wz => ∃ v, vz = v ∧ Own wz v (b.take (rnd m rn)) ∧ (∀ k, v.ownBlock = some k → wd.heap.size ≤ k) ∧ Below wd.heap.size wd wz) ?_ ?_
      · refine (cpy_any wd _ (b.take (rnd m rn)) (HTk.out wd HWd.out) (by have := HL2.out; simp; omega)).mono ?_
        rintro e wz ⟨v, rfl, k1, k2, k3⟩
        exact ⟨_, rfl, v, rfl, k1, k2, k3⟩
      rintro vz wa ⟨u, rfl, k1, k2, k3⟩
      obtain ⟨ua, un, uc, hu⟩ := k1.sl
      subst hu
      have ba_ := Keep.mk k3
      have N9 : Keep (RmN wd x g N Ks (Ks.set i_ ⟨a.v, a.R.set k (.slice ua un uc, b.take (rnd m rn))⟩) (wa.setCell ⟨gl, k, none⟩ (.slice ua un uc))) := ⟨Md.out.put Ha.out Hv.out Hn.out k3 k1 k2 (by have := HL2.out; simp; omega) (HBy.out.take _)⟩
      have hab := (Md.out.below k3).lk a (List.mem_of_getElem? Ha.out)
      obtain ⟨cur, hcur⟩ : ∃ cur, Blk wa gl 39 cur := by
        obtain ⟨gl', cap', e1, _, _, _, h⟩ := hab.cells (by rw [Hn.out]; omega)
        rw [Hv.out] at e1
        injection e1 with e1
        injection e1 with e1
        injection e1 with e1
        subst e1
        exact h
      have f_o := hcur.frozen k
      have c_o : wa.cell? ⟨gl, k, none⟩ = some (.slice ra rn rc) := Ld.out wa k3 k _ Hp.out
      have hgg : Keep (g ≠ gl) := ⟨fun e => absurd (Typ.one (e ▸ (Md.out.below k3).bg.typ) hcur.typ) (by decide)⟩
      clear k1 k2 k3 hab hcur
      refine hK _ _ (Cd.out _ ba_.out) fun hHa => ?_
      clear hK
      simp only [Act.put, List.setIfInBounds_toArray, List.set_cons_zero, List.set_cons_succ]
      refine wpAnyH_take (i := 24) (oi := ⟨some 57, Op.indexAddr 36 (Operand.tmp 36) (Operand.tmp 37), 0, _, _, none⟩) (v := .pointer (some ⟨gl, k, none⟩)) rfl (by kernel_rfl) (by kernel_rfl) (by kernel_rfl) (fun _ _ _ h => h) (Or.inl ⟨by rfl, fun w hS => by go_simp⟩) hHa ?_
      simp only [Act.put, List.setIfInBounds_toArray, List.set_cons_zero, List.set_cons_succ]
      refine wpAnyH_ready (rs := [25]) (by kernel_rfl) (by simp) ?_
      refine AllReadyH.cons (o := ⟨none, Op.store 39 (Operand.tmp 57) (Operand.tmp 56), 0, _, _, none⟩) rfl (fun K hK => ?_) AllReadyH.nil
      rw [if_pos (by rfl)]
      refine wp_valS (wa.setCell ⟨gl, k, none⟩ (.slice ua un uc)) (by go_simp) ?_
      clear f_o c_o
      have c9 := (Grown.setCell wa gl k (.slice ua un uc) (S := fun m => m = gl) fun _ => rfl).cell (Cd.out _ ba_.out) hgg.out
      generalize wa.setCell ⟨gl, k, none⟩ (.slice ua un uc) = we at *
      refine hK _ _ c9 fun hHe => ?_
      clear hK
      simp only [Act.put, List.setIfInBounds_toArray, List.set_cons_zero, List.set_cons_succ]
      refine wpAnyH_done (by kernel_rfl) ?_ _
      refine hK5 _ _ ?_
      refine wp_seq_k fun K8 hK8 => ?_
      refine wp_region_list (WL.out ?_)
      refine WL.val (by kernel_rfl) (.int .i64 0) (by go_simp) ?_
      simp only [Act.put, List.setIfInBounds_toArray, List.set_cons_zero, List.set_cons_succ]
      refine WL.nil ?_
      refine hK8 _ _ ?_
      refine wp_ret ?_
      try simp only [Exit.inBlock, Exit.then]
      go_ret
      exact ⟨rfl, .slice ua un uc, ⟨N9.out.at_, (Grown.below (S := RmW g Ks) HWd.out).trans N9.out.gr, fun k hk => by have h := N9.out.new k hk; rw [hsz.out] at h; exact h⟩⟩
    · refine wp_callF 47 _ _ rfl Tryd.in47 #[.int .i64 m, .int .i64 (rn : Int)] (by simp [Act.eval]) (fun vz wz => vz = .int .i64 ((rnd m rn : Nat) : Int) ∧ wd = wz) ?_ ?_
      · refine (round_any wd m rn hr1 (by omega)).mono ?_
        rintro e wz ⟨rfl, e2⟩
        exact ⟨_, rfl, rfl, e2.symm⟩
      rintro vz wz ⟨rfl, e2⟩
      subst e2
      refine hK _ _ (Cd.out _ (Below.refl _ _)) fun hHr => ?_
      clear hK
      simp only [Act.put, List.setIfInBounds_toArray, List.set_cons_zero, List.set_cons_succ]
      refine wpAnyH_ready (rs := [11]) (by kernel_rfl) (by simp) ?_
      refine AllReadyH.cons (o := ⟨some 44, Op.load 39 (Operand.tmp 43), 39, _, _, none⟩) rfl (fun K hK => ?_) AllReadyH.nil
      rw [if_pos (by rfl)]
      have c_ : wd.cell? ⟨gl, k, none⟩ = some (.slice ra rn rc) := Ld.out wd (Below.refl _ _) k _ Hp.out
      refine wp_val (.slice ra rn rc) (by go_simp) ?_
      clear c_
      refine hK _ _ (Cd.out _ (Below.refl _ _)) fun hHl => ?_
      clear hK
      simp only [Act.put, List.setIfInBounds_toArray, List.set_cons_zero, List.set_cons_succ]
      refine wpAnyH_take (i := 22) (oi := ⟨some 55, Op.slice 39 (Operand.tmp 44) none (some (Operand.tmp 54)) none, 39, _, _, none⟩) (v := .slice ra (rnd m rn) rc) rfl (by kernel_rfl) (by kernel_rfl) (by kernel_rfl) (fun _ _ _ h => h) (Or.inl ⟨by rfl, fun w hS => by go_simp⟩) hHl ?_
      simp only [Act.put, List.setIfInBounds_toArray, List.set_cons_zero, List.set_cons_succ]
      refine wpAnyH_ready (rs := [23]) (by kernel_rfl) (by simp) ?_
      refine AllReadyH.cons (o := ⟨some 56, Op.call { callee := Callee.value (Operand.func 46), args := #[Operand.tmp 55], argTypes := #[39] }, 39, _, _, none⟩) rfl (fun K hK => ?_) AllReadyH.nil
      rw [if_pos (by rfl)]
      refine wp_callF 46 _ _ rfl Tryd.in46 #[.slice ra (rnd m rn) rc] (by simp [Act.eval]) (fun vz wz => ∃ v, vz = v ∧ Own wz v (b.take (rnd m rn)) ∧ (∀ k, v.ownBlock = some k → wd.heap.size ≤ k) ∧ Below wd.heap.size wd wz) ?_ ?_
      · refine (cpy_any wd _ (b.take (rnd m rn)) (HTk.out wd HWd.out) (by have := HL2.out; simp; omega)).mono ?_
        rintro e wz ⟨v, rfl, k1, k2, k3⟩
        exact ⟨_, rfl, v, rfl, k1, k2, k3⟩
      rintro vz wa ⟨u, rfl, k1, k2, k3⟩
      obtain ⟨ua, un, uc, hu⟩ := k1.sl
      subst hu
      have ba_ := Keep.mk k3
      have N9 : Keep (RmN wd x g N Ks (Ks.set i_ ⟨a.v, a.R.set k (.slice ua un uc, b.take (rnd m rn))⟩) (wa.setCell ⟨gl, k, none⟩ (.slice ua un uc))) := ⟨Md.out.put Ha.out Hv.out Hn.out k3 k1 k2 (by have := HL2.out; simp; omega) (HBy.out.take _)⟩
      have hab := (Md.out.below k3).lk a (List.mem_of_getElem? Ha.out)
      obtain ⟨cur, hcur⟩ : ∃ cur, Blk wa gl 39 cur := by
        obtain ⟨gl', cap', e1, _, _, _, h⟩ := hab.cells (by rw [Hn.out]; omega)
        rw [Hv.out] at e1
        injection e1 with e1
        injection e1 with e1
        injection e1 with e1
        subst e1
        exact h
      have f_o := hcur.frozen k
      have c_o : wa.cell? ⟨gl, k, none⟩ = some (.slice ra rn rc) := Ld.out wa k3 k _ Hp.out
      have hgg : Keep (g ≠ gl) := ⟨fun e => absurd (Typ.one (e ▸ (Md.out.below k3).bg.typ) hcur.typ) (by decide)⟩
      clear k1 k2 k3 hab hcur
      refine hK _ _ (Cd.out _ ba_.out) fun hHa => ?_
      clear hK
      simp only [Act.put, List.setIfInBounds_toArray, List.set_cons_zero, List.set_cons_succ]
      refine wpAnyH_take (i := 24) (oi := ⟨some 57, Op.indexAddr 36 (Operand.tmp 36) (Operand.tmp 37), 0, _, _, none⟩) (v := .pointer (some ⟨gl, k, none⟩)) rfl (by kernel_rfl) (by kernel_rfl) (by kernel_rfl) (fun _ _ _ h => h) (Or.inl ⟨by rfl, fun w hS => by go_simp⟩) hHa ?_
      simp only [Act.put, List.setIfInBounds_toArray, List.set_cons_zero, List.set_cons_succ]
      refine wpAnyH_ready (rs := [25]) (by kernel_rfl) (by simp) ?_
      refine AllReadyH.cons (o := ⟨none, Op.store 39 (Operand.tmp 57) (Operand.tmp 56), 0, _, _, none⟩) rfl (fun K hK => ?_) AllReadyH.nil
      rw [if_pos (by rfl)]
      refine wp_valS (wa.setCell ⟨gl, k, none⟩ (.slice ua un uc)) (by go_simp) ?_
      clear f_o c_o
      have c9 := (Grown.setCell wa gl k (.slice ua un uc) (S := fun m => m = gl) fun _ => rfl).cell (Cd.out _ ba_.out) hgg.out
      generalize wa.setCell ⟨gl, k, none⟩ (.slice ua un uc) = we at *
      refine hK _ _ c9 fun hHe => ?_
      clear hK
      simp only [Act.put, List.setIfInBounds_toArray, List.set_cons_zero, List.set_cons_succ]
      refine wpAnyH_done (by kernel_rfl) ?_ _
      refine hK5 _ _ ?_
      refine wp_seq_k fun K9 hK9 => ?_
      refine wp_region_list (WL.out ?_)
      refine WL.val (by kernel_rfl) (.int .i64 0) (by go_simp) ?_
      simp only [Act.put, List.setIfInBounds_toArray, List.set_cons_zero, List.set_cons_succ]
      refine WL.nil ?_
      refine hK9 _ _ ?_
      refine wp_ret ?_
      try simp only [Exit.inBlock, Exit.then]
      go_ret
      exact ⟨rfl, .slice ua un uc, ⟨N9.out.at_, (Grown.below (S := RmW g Ks) HWd.out).trans N9.out.gr, fun k hk => by have h := N9.out.new k hk; rw [hsz.out] at h; exact h⟩⟩
theorem row_take {w : World} {ra : Option Addr} {rn rc j : Nat} {b : List Int} (h : RowAt w (.slice ra rn rc) b) (hb : b.length = rn) (hj : j ≤ rn) (h1 : 1 ≤ rn) : RowAt w (.slice ra j rc) (b.take j) ∧ rn ≤ rc := by
  rcases h with ⟨e, rfl⟩ | ⟨a, c, e, rfl⟩ | ⟨g, off, cap, e, h2, h3⟩
  · simp at hb; omega
  · simp at hb; omega
  · injection e with e1 e2 e3
    subst e1 e3
    have hl : (b.take j).length = j := by rw [List.length_take]; omega
    refine ⟨.inr (.inr ⟨g, off, rc, by rw [hl], by rw [hl]; omega, fun i hi => ?_⟩), by omega⟩
    rw [hl] at hi
    have h4 := h3 i (by omega)
    rw [h4]
    congr 2
    rw [List.getD_eq_getElem?_getD, List.getD_eq_getElem?_getD, List.getElem?_take, if_pos hi]
theorem rclip_any (w : World) (x g N : Nat) (K : List Lk) (f t i m : Int) (h : RmAt w x g N K) : Calls Tryd.prog 30 #[.pointer (some ⟨x, 0, none⟩), .int .i64 f, .int .i64 t, .int .i64 i, .int .i64 m] w fun e w' => e = .returned (.int .i64 (nmE N K f t i)) ∧ ∃ K', RmN w x g N K K' w' ∧ (nmE N K f t i ≠ 0 → K' = K) ∧ (nmE N K f t i = 0 → ∃ p, (lkOf K f t).R[i.toNat]? = some p ∧ (p.2.length = 0 → K' = K) ∧ (p.2.length ≠ 0 → ∃ u, K' = K.set (ix f t) ⟨(lkOf K f t).v, (lkOf K f t).R.set i.toNat (u, p.2.take (rnd m p.2.length))⟩)) := by
  by_cases he : nmE N K f t i = 0
  · obtain ⟨k, n, gl, cap, rfl, h1, h2, h3, h4, h5, h6, h7, h8⟩ := h.open_ he
    have her := he
    rw [he, Int.toNat_natCast]
    have hp := List.getElem?_eq_getElem (show k < (lkOf K f t).R.length by omega)
    have hr := ((h.lk _ (List.mem_of_getElem? h6)).rows _ (List.mem_of_getElem? hp))
    obtain ⟨p, hpe⟩ : ∃ p, p = (lkOf K f t).R[k]'(by omega) := ⟨_, rfl⟩
    rw [← hpe] at hp hr
    obtain ⟨pv, b⟩ := p
    obtain ⟨ra, rc, e⟩ := row_form hr.1.row
    simp only at e hr
    subst e
    by_cases hl : b.length = 0
    · exact (ci_none w x g N K f t m k _ n cap gl _ rc ra b _ ⟨h⟩ ⟨her⟩ ⟨rfl⟩ ⟨h6⟩ ⟨h5⟩ ⟨h2⟩ ⟨hp⟩ ⟨hr.2.1⟩ ⟨hr.2.2⟩ h1 hl ⟨h7⟩ ⟨h8⟩).mono fun e w' ⟨e1, e2⟩ => ⟨e1, K, by rw [e2]; exact RmN.refl h, fun _ => rfl, fun _ => ⟨_, hp, fun _ => rfl, fun e => absurd hl e⟩⟩
    · have hlt := rnd_lt m (m := b.length) (by omega)
      exact (ci_ok w x g N K f t m k _ n cap gl _ rc ra b _ ⟨h⟩ ⟨her⟩ ⟨rfl⟩ ⟨h6⟩ ⟨h5⟩ ⟨h2⟩ ⟨hp⟩ ⟨hr.2.1⟩ ⟨hr.2.2⟩ h1 (by omega) hr.2.1 ⟨fun wx hb => (row_take (hr.1.row.below hb) rfl (by omega) (by omega)).1⟩ (row_take hr.1.row rfl (Nat.le_refl _) (by omega)).2 ⟨h7⟩ ⟨h8⟩).mono fun e w' ⟨e1, u, e2⟩ => ⟨e1, _, e2, fun e => absurd rfl e, fun _ => ⟨_, hp, fun e => absurd e hl, fun _ => ⟨u, rfl⟩⟩⟩
  · exact (ci_err w x g N K f t i m ⟨h⟩ _ ⟨rfl⟩ (by simpa using he)).mono fun e w' ⟨e1, e2⟩ => ⟨e1, K, by rw [e2]; exact RmN.refl h, fun _ => rfl, fun e => absurd e he⟩

theorem Tryd.in38 (w : World) (vs : Array Value) : (callFunc 38 vs).run Tryd.prog w = .ok (.enter 38 vs) w := by kernel_rfl
theorem Tryd.in39 (w : World) (vs : Array Value) : (callFunc 39 vs).run Tryd.prog w = .ok (.enter 39 vs) w := by kernel_rfl
theorem Tryd.in42 (w : World) (vs : Array Value) : (callFunc 42 vs).run Tryd.prog w = .ok (.enter 42 vs) w := by kernel_rfl
theorem WL.lk {ops : Array Oper} {rest : List Oper} {o : Oper} {a : Act} {w : World} {Q : Exit → Act → World → Prop} (hw : Region.wanted o (yielded ops a.tmps) = true) (x y : Operand) (c : Bool) (ho : o.op = .lookup 56 x y c) (vx vy v : Value) (hx : a.eval x = vx) (hy : a.eval y = vy)
    (hr : (Instr.lookup 56 vx vy c).run Tryd.prog w = .ok v w) (h : WL Tryd.prog ops Q rest (a.put o.dst v) w) : WL Tryd.prog ops Q (o :: rest) a w :=
  WL.val hw v (by unfold execOp; simp only [ho, hx, hy, Sem.run_bind, hr, Result.andThen_ok, Sem.run_pure]) h
theorem WL.mupd {ops : Array Oper} {rest : List Oper} {o : Oper} {a : Act} {w : World} {Q : Exit → Act → World → Prop} (hw : Region.wanted o (yielded ops a.tmps) = true) (m x y : Operand) (ho : o.op = .mapUpdate 56 m x y) (vm vx vy : Value) (hm : a.eval m = vm) (hx : a.eval x = vx) (hy : a.eval y = vy) (w' : World)
    (hr : (Instr.mapUpdate 56 vm vx vy).run Tryd.prog w = .ok () w') (h : WL Tryd.prog ops Q rest (a.put o.dst undef) w') : WL Tryd.prog ops Q (o :: rest) a w :=
  WL.cell hw w' (by unfold execOp; simp only [ho, hm, hx, hy, Sem.run_bind, hr, Result.andThen_ok, Sem.run_pure]) h
theorem yieldsIf_lk {ops : Array Oper} {S : World → Prop} {op : Oper} {a : Act} (hw : Region.wanted op (yielded ops a.tmps) = true) (x y : Operand) (c : Bool) (ho : op.op = .lookup 56 x y c) (vx vy v : Value) (hx : a.eval x = vx) (hy : a.eval y = vy)
    (hr : ∀ w, S w → (Instr.lookup 56 vx vy c).run Tryd.prog w = .ok v w) : YieldsIf Tryd.prog ops S op v a :=
  .inl ⟨hw, fun w hS => by unfold execOp; simp only [ho, hx, hy, Sem.run_bind, hr w hS, Result.andThen_ok, Sem.run_pure]⟩
theorem wp_upd {Q : Exit → Act → World → Prop} {o : Oper} {a : Act} {w : World} {K : Act → World → Prop} (m x y : Operand) (ho : o.op = .mapUpdate 56 m x y) (vm vx vy : Value) (hm : a.eval m = vm) (hx : a.eval x = vx) (hy : a.eval y = vy) (w' : World)
    (hr : (Instr.mapUpdate 56 vm vx vy).run Tryd.prog w = .ok () w') (h : K (a.put o.dst undef) w') : o.wp Tryd.prog a w K Q := by
  unfold Oper.wp execOp
  simp only [ho, hm, hx, hy, Sem.run_bind, hr, Result.andThen_ok, Sem.run_pure]
  exact h
theorem yieldsIf_ld {ops : Array Oper} {S : World → Prop} {op : Oper} {a : Act} (hw : Region.wanted op (yielded ops a.tmps) = true) (x : Operand) (ty : TypeId) (ho : op.op = .load ty x) (b o : Nat) (hx : a.eval x = .pointer (some ⟨b, o, none⟩)) (cs : Array Value) (d : TypeDesc) (hu : Tryd.prog.underlying ty = some d) (hd : d.isRow = true) (hi : (Tryd.prog.info? ty).map (·.size) = some cs.size) (hS : ∀ w, S w → w.rangeAt b o cs.toList) : YieldsIf Tryd.prog ops S op (.agg cs) a := by
  have h := yieldsIf_load_mid (P := Tryd.prog) (ops := ops) (S := S) (op := op) (a := a) hw ty x ho b o hx cs.toList d hS hu hd (by rw [Array.length_toList]; exact hi)
  rw [Array.toArray_toList] at h
  exact h
theorem eql_nilA (a : Addr) (n c : Nat) (w : World) : (binOp .eql 39 (.slice (some a) n c) (.slice none 0 0)).run Tryd.prog w = .ok (.bool false) w := by kernel_rfl
theorem bldP (a b : Int) : Tryd.prog.built 58 [(0, .int .i64 a), (1, .int .i64 b)] = some #[.int .i64 a, .int .i64 b] := by kernel_rfl
theorem sizePr (a b : Value) : (Tryd.prog.info? 58).map (·.size) = some #[a, b].size := by kernel_rfl
def NmAt (w : World) (na : Option Addr) (is : List Int) : Prop := ∀ (j : Nat) (i : Int), is[j]? = some i → ∃ g, na = some ⟨g, 0, none⟩ ∧ w.cell? ⟨g, j, none⟩ = some (.int .i64 i)
def badI (n : Nat) (i : Int) : Bool := decide (i < 0 ∨ (n : Int) ≤ i)
def fdE (N : Nat) (K : List Lk) (f t : Int) (is : List Int) : Int := if thr N f t then (if is.any (badI (lkOf K f t).R.length) then 2 else 0) else 1
set_option maxRecDepth 8000 in
theorem fd_no (w : World) (p mb N : Nat) (K : List Lk) (f t : Int) (na : Option Addr) (nc : Nat) (is : List Int) (HL : Keep (LnAt w mb N K)) (c2_ : w.cell? ⟨p, 2, none⟩ = some (.map (some mb))) (hth : thr N f t = false) : Calls Tryd.prog 38 #[.pointer (some ⟨p, 0, none⟩), .int .i64 f, .int .i64 t, .slice na is.length nc] w fun e w' => e = .returned (.tuple #[.slice none 0 0, .int .i64 1]) ∧ w' = w := by
  go_enter Tryd.func38, Tryd.ntmps38
  refine wp_seq_k fun K1 hK1 => ?_
  refine wp_region_list (WL.out ?_)
  refine WL.val (by kernel_rfl) (.slice none 0 0) (by go_simp) ?_
  simp only [Act.put, List.setIfInBounds_toArray, List.set_cons_zero, List.set_cons_succ]
  refine WL.val (by kernel_rfl) (.int .i64 0) (by go_simp) ?_
  simp only [Act.put, List.setIfInBounds_toArray, List.set_cons_zero, List.set_cons_succ]
  refine WL.nil ?_
  refine hK1 _ _ ?_
  refine wp_seq_k fun K2 hK2 => ?_
  refine wp_region_list (WL.out ?_)
  refine WL.val (by kernel_rfl) (.pointer (some ⟨p, 0, none⟩)) (by go_simp) ?_
  simp only [Act.put, List.setIfInBounds_toArray, List.set_cons_zero, List.set_cons_succ]
  refine WL.val (by kernel_rfl) (.pointer (some ⟨p, 0, none⟩)) (by go_simp) ?_
  simp only [Act.put, List.setIfInBounds_toArray, List.set_cons_zero, List.set_cons_succ]
  refine WL.val (by kernel_rfl) (.pointer (some ⟨p, 2, none⟩)) (by go_simp) ?_
  simp only [Act.put, List.setIfInBounds_toArray, List.set_cons_zero, List.set_cons_succ]
  refine WL.val (by kernel_rfl) (.map (some mb)) (by go_simp) ?_
  simp only [Act.put, List.setIfInBounds_toArray, List.set_cons_zero, List.set_cons_succ]
  refine WL.val (by kernel_rfl) (.int .i64 f) (by go_simp) ?_
  simp only [Act.put, List.setIfInBounds_toArray, List.set_cons_zero, List.set_cons_succ]
  refine WL.val (by kernel_rfl) (.int .i64 t) (by go_simp) ?_
  simp only [Act.put, List.setIfInBounds_toArray, List.set_cons_zero, List.set_cons_succ]
  refine WL.bld (by kernel_rfl) 58 #[(0, .tmp 19), (1, .tmp 20)] rfl [(0, .int .i64 f), (1, .int .i64 t)] (by simp [Act.eval]) #[.int .i64 f, .int .i64 t] (bldP _ _) ?_
  simp only [Act.put, List.setIfInBounds_toArray, List.set_cons_zero, List.set_cons_succ]
  refine WL.lk (by kernel_rfl) (.tmp 18) (.tmp 21) true rfl (.map (some mb)) (kV (f, t)) (.tuple #[.slice none 0 0, .bool false]) rfl rfl ((HL.out.look2 f t).trans (by rw [hth]; rfl)) ?_
  simp only [Act.put, List.setIfInBounds_toArray, List.set_cons_zero, List.set_cons_succ]
  refine WL.val (by kernel_rfl) (.tuple #[.slice none 0 0, .bool false]) (by go_simp) ?_
  simp only [Act.put, List.setIfInBounds_toArray, List.set_cons_zero, List.set_cons_succ]
  refine WL.val (by kernel_rfl) (.slice none 0 0) (by go_simp) ?_
  simp only [Act.put, List.setIfInBounds_toArray, List.set_cons_zero, List.set_cons_succ]
  refine WL.val (by kernel_rfl) (.bool false) (by go_simp) ?_
  simp only [Act.put, List.setIfInBounds_toArray, List.set_cons_zero, List.set_cons_succ]
  refine WL.val (by kernel_rfl) (.slice none 0 0) (by go_simp) ?_
  simp only [Act.put, List.setIfInBounds_toArray, List.set_cons_zero, List.set_cons_succ]
  refine WL.val (by kernel_rfl) (.bool false) (by go_simp) ?_
  simp only [Act.put, List.setIfInBounds_toArray, List.set_cons_zero, List.set_cons_succ]
  refine WL.nil ?_
  refine hK2 _ _ ?_
  refine wp_seq_k fun K3 hK3 => ?_
  refine wp_seq_k fun K4 hK4 => ?_
  refine wp_region_list (WL.out ?_)
  refine WL.val (by kernel_rfl) (.bool false) (by go_simp) ?_
  simp only [Act.put, List.setIfInBounds_toArray, List.set_cons_zero, List.set_cons_succ]
  refine WL.val (by kernel_rfl) (.bool true) (by go_simp) ?_
  simp only [Act.put, List.setIfInBounds_toArray, List.set_cons_zero, List.set_cons_succ]
  refine WL.nil ?_
  refine hK4 _ _ ?_
  refine wp_cond_true rfl ?_
  refine wp_seq_k fun K5 hK5 => ?_
  refine wp_region_list (WL.out ?_)
  refine WL.val (by kernel_rfl) (.slice none 0 0) (by go_simp) ?_
  simp only [Act.put, List.setIfInBounds_toArray, List.set_cons_zero, List.set_cons_succ]
  refine WL.val (by kernel_rfl) (.int .i64 1) (by go_simp) ?_
  simp only [Act.put, List.setIfInBounds_toArray, List.set_cons_zero, List.set_cons_succ]
  refine WL.nil ?_
  refine hK5 _ _ ?_
  refine wp_ret ?_
  try simp only [Exit.inBlock, Exit.then]
  exact bodyPost_ret (results_tmp2 (fn := Tryd.f38) rfl _ _ _) rfl ⟨rfl, rfl⟩
set_option maxRecDepth 8000 in
theorem fd_yes (w : World) (p mb N n cap : Nat) (la : Option Addr) (K : List Lk) (f t : Int) (na : Option Addr) (nc : Nat) (is : List Int) (HL : Keep (LnAt w mb N K)) (c2_ : w.cell? ⟨p, 2, none⟩ = some (.map (some mb))) (hth : thr N f t = true) (Hv : Keep ((lkOf K f t).v = .slice la n cap)) (HN : Keep (NmAt w na is)) (HIL : Keep (is.length ≤ 4398046511104)) : Calls Tryd.prog 38 #[.pointer (some ⟨p, 0, none⟩), .int .i64 f, .int .i64 t, .slice na is.length nc] w fun e w' => ∃ (q : Value) (er : Int), e = .returned (.tuple #[q, .int .i64 er]) ∧ (er = if is.any (badI n) then 2 else 0) ∧ (er = 0 → q = .slice la n cap) ∧ w' = w := by
  go_enter Tryd.func38, Tryd.ntmps38
  refine wp_seq_k fun K1 hK1 => ?_
  refine wp_region_list (WL.out ?_)
  refine WL.val (by kernel_rfl) (.slice none 0 0) (by go_simp) ?_
  simp only [Act.put, List.setIfInBounds_toArray, List.set_cons_zero, List.set_cons_succ]
  refine WL.val (by kernel_rfl) (.int .i64 0) (by go_simp) ?_
  simp only [Act.put, List.setIfInBounds_toArray, List.set_cons_zero, List.set_cons_succ]
  refine WL.nil ?_
  refine hK1 _ _ ?_
  refine wp_seq_k fun K2 hK2 => ?_
  refine wp_region_list (WL.out ?_)
  refine WL.val (by kernel_rfl) (.pointer (some ⟨p, 0, none⟩)) (by go_simp) ?_
  simp only [Act.put, List.setIfInBounds_toArray, List.set_cons_zero, List.set_cons_succ]
  refine WL.val (by kernel_rfl) (.pointer (some ⟨p, 0, none⟩)) (by go_simp) ?_
  simp only [Act.put, List.setIfInBounds_toArray, List.set_cons_zero, List.set_cons_succ]
  refine WL.val (by kernel_rfl) (.pointer (some ⟨p, 2, none⟩)) (by go_simp) ?_
  simp only [Act.put, List.setIfInBounds_toArray, List.set_cons_zero, List.set_cons_succ]
  refine WL.val (by kernel_rfl) (.map (some mb)) (by go_simp) ?_
  simp only [Act.put, List.setIfInBounds_toArray, List.set_cons_zero, List.set_cons_succ]
  refine WL.val (by kernel_rfl) (.int .i64 f) (by go_simp) ?_
  simp only [Act.put, List.setIfInBounds_toArray, List.set_cons_zero, List.set_cons_succ]
  refine WL.val (by kernel_rfl) (.int .i64 t) (by go_simp) ?_
  simp only [Act.put, List.setIfInBounds_toArray, List.set_cons_zero, List.set_cons_succ]
  refine WL.bld (by kernel_rfl) 58 #[(0, .tmp 19), (1, .tmp 20)] rfl [(0, .int .i64 f), (1, .int .i64 t)] (by simp [Act.eval]) #[.int .i64 f, .int .i64 t] (bldP _ _) ?_
  simp only [Act.put, List.setIfInBounds_toArray, List.set_cons_zero, List.set_cons_succ]
  refine WL.lk (by kernel_rfl) (.tmp 18) (.tmp 21) true rfl (.map (some mb)) (kV (f, t)) (.tuple #[.slice la n cap, .bool true]) rfl rfl ((HL.out.look2 f t).trans (by rw [hth, if_pos rfl, Hv.out])) ?_
  simp only [Act.put, List.setIfInBounds_toArray, List.set_cons_zero, List.set_cons_succ]
  refine WL.val (by kernel_rfl) (.tuple #[.slice la n cap, .bool true]) (by go_simp) ?_
  simp only [Act.put, List.setIfInBounds_toArray, List.set_cons_zero, List.set_cons_succ]
  refine WL.val (by kernel_rfl) (.slice la n cap) (by go_simp) ?_
  simp only [Act.put, List.setIfInBounds_toArray, List.set_cons_zero, List.set_cons_succ]
  refine WL.val (by kernel_rfl) (.bool true) (by go_simp) ?_
  simp only [Act.put, List.setIfInBounds_toArray, List.set_cons_zero, List.set_cons_succ]
  refine WL.val (by kernel_rfl) (.slice la n cap) (by go_simp) ?_
  simp only [Act.put, List.setIfInBounds_toArray, List.set_cons_zero, List.set_cons_succ]
  refine WL.val (by kernel_rfl) (.bool true) (by go_simp) ?_
  simp only [Act.put, List.setIfInBounds_toArray, List.set_cons_zero, List.set_cons_succ]
  refine WL.nil ?_
  refine hK2 _ _ ?_
  refine wp_seq_k fun K3 hK3 => ?_
  refine wp_seq_k fun K4 hK4 => ?_
  refine wp_region_list (WL.out ?_)
  refine WL.val (by kernel_rfl) (.bool true) (by go_simp) ?_
  simp only [Act.put, List.setIfInBounds_toArray, List.set_cons_zero, List.set_cons_succ]
  refine WL.val (by kernel_rfl) (.bool false) (by go_simp) ?_
  simp only [Act.put, List.setIfInBounds_toArray, List.set_cons_zero, List.set_cons_succ]
  refine WL.nil ?_
  refine hK4 _ _ ?_
  refine wp_cond_false rfl ?_
  refine wp_skip ?_
  refine hK3 _ _ ?_
  refine wp_seq_k fun K5 hK5 => ?_
  refine wp_seq_k fun K6 hK6 => ?_
  refine wp_region_list (WL.out ?_)
  refine WL.val (by kernel_rfl) (.slice na is.length nc) (by go_simp) ?_
  simp only [Act.put, List.setIfInBounds_toArray, List.set_cons_zero, List.set_cons_succ]
  refine WL.val (by kernel_rfl) (.int .i64 (is.length : Int)) (by go_simp) ?_
  simp only [Act.put, List.setIfInBounds_toArray, List.set_cons_zero, List.set_cons_succ]
  refine WL.val (by kernel_rfl) (.int .i64 0) (by go_simp) ?_
  simp only [Act.put, List.setIfInBounds_toArray, List.set_cons_zero, List.set_cons_succ]
  refine WL.nil ?_
  refine hK6 _ _ ?_
  refine wp_block ?_
  refine wp_loop (fun ac wr => ∃ (u : Nat) (fz : Nat → Value), ac = { tmps := #[.pointer (some ⟨p, 0, none⟩), .int .i64 f, .int .i64 t, .slice na is.length nc, undef, undef, undef, undef, fz 8, fz 9, .slice la n cap, .bool true, undef, fz 13, .tuple #[.slice la n cap, .bool true], .pointer (some ⟨p, 0, none⟩), .pointer (some ⟨p, 0, none⟩), .pointer (some ⟨p, 2, none⟩), .map (some mb), .int .i64 f, .int .i64 t, .agg #[.int .i64 f, .int .i64 t], .tuple #[.slice la n cap, .bool true], .slice la n cap, .bool true, .bool true, .bool false, .slice na is.length nc, .int .i64 (is.length : Int), .int .i64 (u : Int), fz 30, fz 31, fz 32, fz 33, fz 34, fz 35, fz 36, fz 37, fz 38, fz 39, fz 40, fz 41, undef], defers := [] } ∧ w = wr ∧ Keep ((is.take u).any (badI n) = false)) (fun a _ => is.length - (intOf (a.tmps.getD 29 undef)).toNat) ⟨0, fun zz => [.pointer (some ⟨p, 0, none⟩), .int .i64 f, .int .i64 t, .slice na is.length nc, undef, undef, undef, undef, .slice none 0 0, .int .i64 0, .slice la n cap, .bool true, undef, undef, .tuple #[.slice la n cap, .bool true], .pointer (some ⟨p, 0, none⟩), .pointer (some ⟨p, 0, none⟩), .pointer (some ⟨p, 2, none⟩), .map (some mb), .int .i64 f, .int .i64 t, .agg #[.int .i64 f, .int .i64 t], .tuple #[.slice la n cap, .bool true], .slice la n cap, .bool true, .bool true, .bool false, .slice na is.length nc, .int .i64 (is.length : Int), .int .i64 0, undef, undef, undef, undef, undef, undef, undef, undef, undef, undef, undef, undef, undef].getD zz undef, rfl, rfl, ⟨by simp⟩⟩ ?_
  rintro ac wr ⟨u, fz, rfl, hw, Hj⟩
  subst hw
  by_cases hun : u < is.length
  · have hun' : (u : Int) < (is.length : Int) := by omega
    have hw9 : IntKind.i64.wrap ((u : Int) + 1) = ((u + 1 : Nat) : Int) := by rw [IntKind.wrap_i64]; have := HIL.out; omega
    obtain ⟨i, hi⟩ : ∃ i, is[u]? = some i := ⟨_, List.getElem?_eq_getElem hun⟩
    obtain ⟨ng, hna, n_⟩ := HN.out u i hi
    have hna := Keep.mk hna
    have Hi := Keep.mk hi
    clear hi
    have eNa := hna.out
    subst eNa
    refine wp_seq_k fun K7 hK7 => ?_
    refine wp_region_list (WL.out ?_)
    refine WL.val (by kernel_rfl) (.bool true) (by go_simp) ?_
    simp only [Act.put, List.setIfInBounds_toArray, List.set_cons_zero, List.set_cons_succ]
    refine WL.nil ?_
    refine hK7 _ _ ?_
    refine wp_seq_k fun K8 hK8 => ?_
    refine wp_cond_true rfl ?_
    refine wp_skip ?_
    refine hK8 _ _ ?_
    refine wp_seq_k fun K9 hK9 => ?_
    refine wp_block ?_
    refine wp_seq_k fun K10 hK10 => ?_
    refine wp_region_list (WL.out ?_)
    refine WL.val (by kernel_rfl) (.pointer (some ⟨ng, u, none⟩)) (by go_simp) ?_
    simp only [Act.put, List.setIfInBounds_toArray, List.set_cons_zero, List.set_cons_succ]
    refine WL.val (by kernel_rfl) (.int .i64 i) (by go_simp) ?_
    simp only [Act.put, List.setIfInBounds_toArray, List.set_cons_zero, List.set_cons_succ]
    refine WL.val (by kernel_rfl) (.int .i64 i) (by go_simp) ?_
    simp only [Act.put, List.setIfInBounds_toArray, List.set_cons_zero, List.set_cons_succ]
    refine WL.nil ?_
    refine hK10 _ _ ?_
    refine wp_seq_k fun K11 hK11 => ?_
    refine wp_region_list (WL.out ?_)
    refine WL.val (by kernel_rfl) (.int .i64 i) (by go_simp) ?_
    simp only [Act.put, List.setIfInBounds_toArray, List.set_cons_zero, List.set_cons_succ]
    by_cases h7_1 : i < 0
    · skip
      refine WL.val (by kernel_rfl) (.bool true) (by go_simp) ?_
      simp only [Act.put, List.setIfInBounds_toArray, List.set_cons_zero, List.set_cons_succ]
      refine WL.val (by kernel_rfl) (.bool true) (by go_simp) ?_
      simp only [Act.put, List.setIfInBounds_toArray, List.set_cons_zero, List.set_cons_succ]
      refine WL.skip (by kernel_rfl) ?_
      simp only [Act.put, List.setIfInBounds_toArray, List.set_cons_zero, List.set_cons_succ]
      refine WL.skip (by kernel_rfl) ?_
      simp only [Act.put, List.setIfInBounds_toArray, List.set_cons_zero, List.set_cons_succ]
      refine WL.skip (by kernel_rfl) ?_
      simp only [Act.put, List.setIfInBounds_toArray, List.set_cons_zero, List.set_cons_succ]
      refine WL.skip (by kernel_rfl) ?_
      simp only [Act.put, List.setIfInBounds_toArray, List.set_cons_zero, List.set_cons_succ]
      refine WL.val (by kernel_rfl) (.bool true) (by go_simp) ?_
      simp only [Act.put, List.setIfInBounds_toArray, List.set_cons_zero, List.set_cons_succ]
      refine WL.nil ?_
      refine hK11 _ _ ?_
      refine wp_cond_true rfl ?_
      refine wp_seq_k fun K12 hK12 => ?_
      refine wp_region_list (WL.out ?_)
      refine WL.val (by kernel_rfl) (.slice none 0 0) (by go_simp) ?_
      simp only [Act.put, List.setIfInBounds_toArray, List.set_cons_zero, List.set_cons_succ]
      refine WL.val (by kernel_rfl) (.int .i64 2) (by go_simp) ?_
      simp only [Act.put, List.setIfInBounds_toArray, List.set_cons_zero, List.set_cons_succ]
      refine WL.nil ?_
      refine hK12 _ _ ?_
      refine wp_ret ?_
      have : is.any (badI n) = true := by
        rw [List.any_eq_true]
        exact ⟨i, List.mem_of_getElem? Hi.out, by unfold badI; simp_all⟩
      try simp only [Exit.inBlock, Exit.then]
      exact bodyPost_ret (results_tmp2 (fn := Tryd.f38) rfl _ _ _) rfl ⟨_, _, rfl, by rw [this]; rfl, fun e => absurd e (by decide), rfl⟩
    · skip
      refine WL.val (by kernel_rfl) (.bool false) (by go_simp) ?_
      simp only [Act.put, List.setIfInBounds_toArray, List.set_cons_zero, List.set_cons_succ]
      refine WL.val (by kernel_rfl) (.bool false) (by go_simp) ?_
      simp only [Act.put, List.setIfInBounds_toArray, List.set_cons_zero, List.set_cons_succ]
      refine WL.val (by kernel_rfl) (.int .i64 i) (by go_simp) ?_
      simp only [Act.put, List.setIfInBounds_toArray, List.set_cons_zero, List.set_cons_succ]
      refine WL.val (by kernel_rfl) (.slice la n cap) (by go_simp) ?_
      simp only [Act.put, List.setIfInBounds_toArray, List.set_cons_zero, List.set_cons_succ]
      refine WL.val (by kernel_rfl) (.int .i64 (n : Int)) (by go_simp) ?_
      simp only [Act.put, List.setIfInBounds_toArray, List.set_cons_zero, List.set_cons_succ]
      by_cases h7_6 : (n : Int) ≤ i
      · skip
        refine WL.val (by kernel_rfl) (.bool true) (by go_simp) ?_
        simp only [Act.put, List.setIfInBounds_toArray, List.set_cons_zero, List.set_cons_succ]
        refine WL.val (by kernel_rfl) (.bool true) (by go_simp) ?_
        simp only [Act.put, List.setIfInBounds_toArray, List.set_cons_zero, List.set_cons_succ]
        refine WL.nil ?_
        refine hK11 _ _ ?_
        refine wp_cond_true rfl ?_
        refine wp_seq_k fun K13 hK13 => ?_
        refine wp_region_list (WL.out ?_)
        refine WL.val (by kernel_rfl) (.slice none 0 0) (by go_simp) ?_
        simp only [Act.put, List.setIfInBounds_toArray, List.set_cons_zero, List.set_cons_succ]
        refine WL.val (by kernel_rfl) (.int .i64 2) (by go_simp) ?_
        simp only [Act.put, List.setIfInBounds_toArray, List.set_cons_zero, List.set_cons_succ]
        refine WL.nil ?_
        refine hK13 _ _ ?_
        refine wp_ret ?_
        have : is.any (badI n) = true := by
          rw [List.any_eq_true]
          exact ⟨i, List.mem_of_getElem? Hi.out, by unfold badI; simp_all⟩
        try simp only [Exit.inBlock, Exit.then]
        exact bodyPost_ret (results_tmp2 (fn := Tryd.f38) rfl _ _ _) rfl ⟨_, _, rfl, by rw [this]; rfl, fun e => absurd e (by decide), rfl⟩
      · skip
        refine WL.val (by kernel_rfl) (.bool false) (by go_simp) ?_
        simp only [Act.put, List.setIfInBounds_toArray, List.set_cons_zero, List.set_cons_succ]
        refine WL.val (by kernel_rfl) (.bool false) (by go_simp) ?_
        simp only [Act.put, List.setIfInBounds_toArray, List.set_cons_zero, List.set_cons_succ]
        refine WL.nil ?_
        refine hK11 _ _ ?_
        refine wp_cond_false rfl ?_
        refine wp_skip ?_
        refine hK9 _ _ ?_
        refine wp_region_list (WL.out ?_)
        refine WL.val (by kernel_rfl) (.int .i64 ((u + 1 : Nat) : Int)) (by go_simp) ?_
        simp only [Act.put, List.setIfInBounds_toArray, List.set_cons_zero, List.set_cons_succ]
        refine WL.val (by kernel_rfl) (.int .i64 ((u + 1 : Nat) : Int)) (by go_simp) ?_
        simp only [Act.put, List.setIfInBounds_toArray, List.set_cons_zero, List.set_cons_succ]
        refine WL.nil ?_
        refine ⟨⟨u + 1, fun zz => [.pointer (some ⟨p, 0, none⟩), .int .i64 f, .int .i64 t, .slice (some ⟨ng, 0, none⟩) is.length nc, undef, undef, undef, undef, fz 8, fz 9, .slice la n cap, .bool true, undef, .int .i64 i, .tuple #[.slice la n cap, .bool true], .pointer (some ⟨p, 0, none⟩), .pointer (some ⟨p, 0, none⟩), .pointer (some ⟨p, 2, none⟩), .map (some mb), .int .i64 f, .int .i64 t, .agg #[.int .i64 f, .int .i64 t], .tuple #[.slice la n cap, .bool true], .slice la n cap, .bool true, .bool true, .bool false, .slice (some ⟨ng, 0, none⟩) is.length nc, .int .i64 (is.length : Int), .int .i64 ((u + 1 : Nat) : Int), .bool true, .pointer (some ⟨ng, u, none⟩), .int .i64 i, .int .i64 i, .bool false, .bool false, .int .i64 i, .slice la n cap, .int .i64 (n : Int), .bool false, .bool false, .int .i64 ((u + 1 : Nat) : Int), undef].getD zz undef, rfl, rfl, ⟨?_⟩⟩, ?_⟩
        · have hj := Hj.out
          rw [List.take_add_one, Hi.out, List.any_append, hj]
          simp only [Option.toList, List.any_cons, List.any_nil, Bool.or_false, Bool.false_or, badI]
          simp_all
        · simp only [intOf]; show is.length - (((u + 1 : Nat) : Int)).toNat < is.length - ((u : Int)).toNat; omega
  · have hun' : ¬ (u : Int) < (is.length : Int) := by omega
    have hany : is.any (badI n) = false := by
      have hj := Hj.out
      rwa [List.take_of_length_le (by omega)] at hj
    refine wp_seq_k fun K14 hK14 => ?_
    refine wp_region_list (WL.out ?_)
    refine WL.val (by kernel_rfl) (.bool false) (by go_simp) ?_
    simp only [Act.put, List.setIfInBounds_toArray, List.set_cons_zero, List.set_cons_succ]
    refine WL.nil ?_
    refine hK14 _ _ ?_
    refine wp_seq_k fun K15 hK15 => ?_
    refine wp_cond_false rfl ?_
    refine wp_exit ?_
    refine hK5 _ _ ?_
    refine wp_seq_k fun K16 hK16 => ?_
    refine wp_region_list (WL.out ?_)
    refine WL.val (by kernel_rfl) (.slice la n cap) (by go_simp) ?_
    simp only [Act.put, List.setIfInBounds_toArray, List.set_cons_zero, List.set_cons_succ]
    refine WL.val (by kernel_rfl) (.slice la n cap) (by go_simp) ?_
    simp only [Act.put, List.setIfInBounds_toArray, List.set_cons_zero, List.set_cons_succ]
    refine WL.val (by kernel_rfl) (.int .i64 0) (by go_simp) ?_
    simp only [Act.put, List.setIfInBounds_toArray, List.set_cons_zero, List.set_cons_succ]
    refine WL.nil ?_
    refine hK16 _ _ ?_
    refine wp_ret ?_
    try simp only [Exit.inBlock, Exit.then]
    exact bodyPost_ret (results_tmp2 (fn := Tryd.f38) rfl _ _ _) rfl ⟨_, _, rfl, by rw [hany]; rfl, fun _ => rfl, rfl⟩

theorem find_any (w : World) (p mb N : Nat) (l : Int) (K : List Lk) (f t : Int) (na : Option Addr) (nc n : Nat) (is : List Int) (h : PmAt w p mb N l K) (hn : is.length = n) (HN : NmAt w na is) (HI : n ≤ 4398046511104) : Calls Tryd.prog 38 #[.pointer (some ⟨p, 0, none⟩), .int .i64 f, .int .i64 t, .slice na n nc] w fun e w' => ∃ q er, e = .returned (.tuple #[q, .int .i64 er]) ∧ er = fdE N K f t is ∧ (er = 0 → q = (lkOf K f t).v) ∧ w' = w := by
  subst hn
  unfold fdE
  cases ht : thr N f t
  · exact (fd_no w p mb N K f t na nc is ⟨h.mp⟩ (h.bx.c 2 rfl) ht).mono fun e w' ⟨h1, h2⟩ => ⟨_, _, h1, rfl, fun e => absurd e (by decide), h2⟩
  · obtain ⟨a, c, ha⟩ := (h.link ht).2.sl
    exact (fd_yes w p mb N _ c a K f t na nc is ⟨h.mp⟩ (h.bx.c 2 rfl) ht ⟨ha⟩ ⟨HN⟩ ⟨HI⟩).mono fun e w' ⟨q, er, h1, h2, h3, h4⟩ => ⟨q, er, h1, by rw [h2]; rfl, fun e => by rw [h3 e, ha], h4⟩
theorem eql_nn (w : World) : (binOp .eql 39 (.slice none 0 0) (.slice none 0 0)).run Tryd.prog w = .ok (.bool true) w := by kernel_rfl
theorem nm_nil (w : World) : NmAt w none [] := fun j i h => by simp at h
set_option maxRecDepth 8000 in
theorem clo_nil (w : World) : Calls Tryd.prog 42 #[.slice none 0 0] w fun e w' => ∃ v, e = .returned v ∧ Own w' v [] ∧ (∀ k, v.ownBlock = some k → w.heap.size ≤ k) ∧ Below w.heap.size w w' := by
  go_enter Tryd.func42, Tryd.ntmps42
  refine wp_seq_k fun K1 hK1 => ?_
  refine wp_region_list (WL.out ?_)
  refine WL.val (by kernel_rfl) (.slice none 0 0) (by go_simp) ?_
  simp only [Act.put, List.setIfInBounds_toArray, List.set_cons_zero, List.set_cons_succ]
  refine WL.nil ?_
  refine hK1 _ _ ?_
  refine wp_seq_k fun K2 hK2 => ?_
  refine wp_seq_k fun K3 hK3 => ?_
  refine wp_region_list (WL.out ?_)
  refine WL.val (by kernel_rfl) (.slice none 0 0) (by go_simp) ?_
  simp only [Act.put, List.setIfInBounds_toArray, List.set_cons_zero, List.set_cons_succ]
  refine WL.val (by kernel_rfl) (.bool true) (by have h := eql_nn w; go_simp) ?_
  simp only [Act.put, List.setIfInBounds_toArray, List.set_cons_zero, List.set_cons_succ]
  refine WL.nil ?_
  refine hK3 _ _ ?_
  refine wp_cond_true rfl ?_
  refine wp_seq_k fun K4 hK4 => ?_
  refine wp_region_list (WL.out ?_)
  refine WL.val (by kernel_rfl) (.slice none 0 0) (by go_simp) ?_
  simp only [Act.put, List.setIfInBounds_toArray, List.set_cons_zero, List.set_cons_succ]
  refine WL.nil ?_
  refine hK4 _ _ ?_
  refine wp_ret ?_
  go_ret
  exact ⟨_, rfl, own_nil w, fun k e => by simp [Value.ownBlock] at e, Below.refl _ _⟩

set_option maxRecDepth 8000 in
theorem clo_some (w : World) (pa : Addr) (n pc : Nat) (b : List Int) (HB : Keep (RowAt w (.slice (some pa) n pc) b)) (HL : Keep (b.length ≤ 140737488355328)) : Calls Tryd.prog 42 #[.slice (some pa) n pc] w fun e w' => ∃ v, e = .returned v ∧ Own w' v b ∧ (∀ k, v.ownBlock = some k → w.heap.size ≤ k) ∧ Below w.heap.size w w' := by
  go_enter Tryd.func42, Tryd.ntmps42
  refine wp_seq_k fun K1 hK1 => ?_
  refine wp_region_list (WL.out ?_)
  refine WL.val (by kernel_rfl) (.slice none 0 0) (by go_simp) ?_
  simp only [Act.put, List.setIfInBounds_toArray, List.set_cons_zero, List.set_cons_succ]
  refine WL.nil ?_
  refine hK1 _ _ ?_
  refine wp_seq_k fun K2 hK2 => ?_
  refine wp_seq_k fun K3 hK3 => ?_
  refine wp_region_list (WL.out ?_)
  refine WL.val (by kernel_rfl) (.slice (some pa) n pc) (by go_simp) ?_
  simp only [Act.put, List.setIfInBounds_toArray, List.set_cons_zero, List.set_cons_succ]
  refine WL.val (by kernel_rfl) (.bool false) (by have h := eql_nilA pa n pc w; go_simp) ?_
  simp only [Act.put, List.setIfInBounds_toArray, List.set_cons_zero, List.set_cons_succ]
  refine WL.nil ?_
  refine hK3 _ _ ?_
  refine wp_cond_false rfl ?_
  refine wp_skip ?_
  refine hK2 _ _ ?_
  refine wp_seq_k fun K4 hK4 => ?_
  refine wp_region_list (WL.out ?_)
  refine WL.bs (by kernel_rfl) 39 0 #[] rfl #[] (by simp) _ _ (bsE w) ?_
  have O1 := Keep.mk (own_done w [] (by simp))
  have b1 := Keep.mk (below_new w (.cells #[] 5))
  change Keep (Own (w.alloc (.cells #[] 5)) _ []) at O1
  have Y1 := Keep.mk (HB.out.below b1.out)
  generalize w.alloc (.cells #[] 5) = w1 at *
  obtain ⟨g, hg⟩ : ∃ z, Keep (z = w.heap.size) := ⟨_, ⟨rfl⟩⟩
  rw [← hg.out] at O1 ⊢
  simp only [Act.put, List.setIfInBounds_toArray, List.set_cons_zero, List.set_cons_succ]
  refine WL.val (by kernel_rfl) (.slice (some pa) n pc) (by go_simp) ?_
  simp only [Act.put, List.setIfInBounds_toArray, List.set_cons_zero, List.set_cons_succ]
  refine WL.app (by kernel_rfl) (.tmp 5) (.tmp 6) rfl (.slice (some ⟨g, 0, none⟩) 0 0) (.slice (some pa) n pc) [] b rfl rfl O1.out Y1.out (by simpa using HL.out) ?_
  intro v2 w2 hp
  have O2 : Keep (Own w2 v2 b) := ⟨by simpa using hp.1⟩
  have B2 : Keep (Below w.heap.size w w2) := ⟨b1.out.trans (hp.grown.to_below (fun k hk e => by simp [Value.ownBlock] at e; have := hg.out; omega) b1.out.size)⟩
  have F2 : Keep (∀ k, v2.ownBlock = some k → w.heap.size ≤ k) := ⟨fun k hk => by
    rcases hp.moved with e | ⟨m, e, h2⟩
    · rw [e] at hk; simp [Value.ownBlock] at hk; have := hg.out; omega
    · rw [e] at hk; injection hk with hk; subst hk; have := b1.out.size; omega⟩
  clear hp
  simp only [Act.put, List.setIfInBounds_toArray, List.set_cons_zero, List.set_cons_succ]
  refine WL.val (by kernel_rfl) (v2) (by go_simp) ?_
  simp only [Act.put, List.setIfInBounds_toArray, List.set_cons_zero, List.set_cons_succ]
  refine WL.nil ?_
  refine hK4 _ _ ?_
  refine wp_ret ?_
  go_ret
  exact ⟨v2, rfl, O2.out, F2.out, B2.out⟩

theorem clo_any (w : World) (vb : Value) (b : List Int) (hb : RowAt w vb b) (hl : b.length ≤ 140737488355328) : Calls Tryd.prog 42 #[vb] w fun e w' => ∃ v, e = .returned v ∧ Own w' v b ∧ (∀ k, v.ownBlock = some k → w.heap.size ≤ k) ∧ Below w.heap.size w w' := by
  obtain ⟨a, c, hv⟩ := row_form hb
  rcases a with _ | a
  · rcases hb with ⟨rfl, rfl⟩ | ⟨_, _, rfl, rfl⟩ | ⟨_, _, _, rfl, _⟩
    · exact clo_nil w
    · simp at hv
    · simp at hv
  · subst hv
    exact clo_some w a _ c b ⟨hb⟩ ⟨hl⟩
theorem PmAt.push {w w1 w2 w3 : World} {p mb N : Nat} {l : Int} {K : List Lk} {f t : Int} {u v : Value} {b : List Int} (h : PmAt w p mb N l K) (ht : thr N f t = true) (hb1 : Below w.heap.size w w1) (ho : Own w1 u b) (hf : ∀ k, u.ownBlock = some k → w.heap.size ≤ k)
    (hv : w2.ownsRow 0 39 1 v ((lkOf K f t).R.length + 1) ((lkOf K f t).R.map (·.1) ++ [u])) (hg : Grown w1 w2 fun k => (lkOf K f t).v.ownBlock = some k) (hm : v.ownBlock = (lkOf K f t).v.ownBlock ∨ v.ownBlock = some w1.heap.size)
    (hl3 : LnAt w3 mb N (K.set (ix f t) ⟨v, (lkOf K f t).R ++ [(u, b)]⟩)) (hg3 : Grown w2 w3 fun k => k = mb) (hn : (lkOf K f t).R.length + 1 ≤ 1024) (hl : b.length ≤ 2097194) (hB : Byts b) : PmN w p mb N K (K.set (ix f t) ⟨v, (lkOf K f t).R ++ [(u, b)]⟩) l w3 := by
  obtain ⟨hi, ha⟩ := h.link ht
  have h1 := h.below hb1
  have ha1 := (h1.link ht).2
  have hv3 : w3.ownsRow 0 39 1 v ((lkOf K f t).R.length + 1) ((lkOf K f t).R.map (·.1) ++ [u]) := owns_grown hv hg3 fun k hk e => by
    rcases hm with e2 | e2
    · rw [e2] at hk
      exact h1.mp.ne (owns_typ ha1.own hk) e
    · rw [e2] at hk; injection hk with hk
      have := h1.mp.lt; omega
  have own3 : ∀ q c, Own w1 q c → Own w3 q c := fun q c hq => by
    have h2 : Own w2 q c := owns_grown hq hg fun k hk e => absurd ((owns_typ hq hk).one (owns_typ ha1.own e)) (by decide)
    exact owns_grown h2 hg3 fun k hk e => by
      subst e
      exact h1.mp.ne (owns_typ hq hk) rfl
  refine h.set ht ?_ hl3 ⟨by simpa using hv3, fun q hq => ?_, by simpa using hn⟩ (fun m e => ?_) (fun q hq m e => ?_) fun s z q r m hs hz hqm hrm => ?_
  · exact ((Grown.below hb1).trans (hg.mono (T := fun k => k = mb ∨ LkS (lkOf K f t) k) fun k _ e => .inr (.inl e))).trans (hg3.mono fun k _ e => .inl e)
  · rcases List.mem_append.1 hq with hq | hq
    · exact ⟨own3 _ _ (ha1.rows q hq).1, (ha1.rows q hq).2⟩
    · rw [List.mem_singleton.1 hq]
      exact ⟨own3 _ _ ho, hl, hB⟩
  · rcases hm with e2 | e2
    · exact .inl (e2 ▸ e)
    · rw [show v.ownBlock = some m from e] at e2; injection e2 with e2
      exact .inr (by rw [e2]; exact hb1.size)
  · rcases List.mem_append.1 hq with hq | hq
    · exact .inl ⟨q, hq, e⟩
    · rw [List.mem_singleton.1 hq] at e
      exact .inr (hf m e)
  · have two : ∀ (j : Nat) (x : Value × List Int), ((lkOf K f t).R ++ [(u, b)])[j]? = some x → (lkOf K f t).R[j]? = some x ∨ (j = (lkOf K f t).R.length ∧ x = (u, b)) := fun j x hj => by
      rcases Nat.lt_trichotomy j (lkOf K f t).R.length with hl | hl | hl
      · rw [List.getElem?_append_left hl] at hj; exact .inl hj
      · subst hl
        rw [List.getElem?_append_right (Nat.le_refl _), Nat.sub_self] at hj
        simp at hj; exact .inr ⟨rfl, hj.symm⟩
      · rw [List.getElem?_eq_none (by simp; omega)] at hj; cases hj
    have lt1 : ∀ (j : Nat) (x : Value × List Int), (lkOf K f t).R[j]? = some x → x.1.ownBlock = some m → m < w.heap.size := fun j x hj e => (ha.rows x (List.mem_of_getElem? hj)).1.lt m e
    rcases two s q hs with hs | ⟨rfl, rfl⟩ <;> rcases two z r hz with hz | ⟨rfl, rfl⟩
    · exact (h.nr _ _ s z _ _ q r m hi hi hs hz hqm hrm).2
    · have := lt1 s q hs hqm; have := hf m hrm; omega
    · have := lt1 z r hz hrm; have := hf m hqm; omega
    · rfl
def layE (K : List Lk) (f t : Int) : Int := if 1024 ≤ (lkOf K f t).R.length then 3 else 0

theorem lkN {w : World} {p mb N k T : Nat} {l : Int} {K : List Lk} {f t : Int} (h : PmAt w p mb N l K) (ht : thr N f t = true) (hT : Typ w k T) (h1 : T ≠ 39) (h2 : T ≠ 5) : ¬ (k = mb ∨ LkS (lkOf K f t) k) := fun e => by
  rcases e with e | e | ⟨q, hq, e⟩
  · exact h.mp.ne hT e
  · exact h1 (hT.one (owns_typ (h.link ht).2.own e))
  · exact h2 (hT.one (owns_typ ((h.link ht).2.rows q hq).1 e))
set_option maxRecDepth 8000 in
theorem ly_many (w : World) (p mb N n cap : Nat) (l : Int) (la : Option Addr) (Ks : List Lk) (f t : Int) (vb : Value) (b : List Int) (HM : Keep (PmAt w p mb N l Ks)) (hth : thr N f t = true) (Hv : Keep ((lkOf Ks f t).v = .slice la n cap)) (Hn : Keep ((lkOf Ks f t).R.length = n)) (HB : Keep (RowAt w vb b)) (HL : Keep (b.length ≤ 140737488355328)) (HL2 : Keep (b.length ≤ 2097194)) (HBy : Keep (Byts b)) (hn4 : 1024 ≤ n) : Calls Tryd.prog 39 #[.pointer (some ⟨p, 0, none⟩), .agg #[.int .i64 f, .int .i64 t], vb] w fun e w' => e = .returned (.int .i64 3) ∧ PmN w p mb N Ks Ks l w' := by
  have hn' : (n : Int) ≥ 1024 := by omega
  go_enter Tryd.func39, Tryd.ntmps39
  refine wp_seq_k fun K1 hK1 => ?_
  refine wp_region_list (WL.out ?_)
  refine WL.box (by kernel_rfl) 58 (.tmp 1) rfl #[.int .i64 f, .int .i64 t] rfl ?_
  have b1 := below_new w (.cells #[.int .i64 f, .int .i64 t] 58)
  have Q1 := Keep.mk (Blk.new w 58 #[.int .i64 f, .int .i64 t])
  generalize w.alloc (.cells #[.int .i64 f, .int .i64 t] 58) = w1 at *
  obtain ⟨q0, hq0⟩ : ∃ z, Keep (z = w.heap.size) := ⟨_, ⟨rfl⟩⟩
  rw [← hq0.out] at Q1 ⊢
  have N1 : Keep (PmN w p mb N Ks Ks l w1) := ⟨PmN.below HM.out b1⟩
  have Y1 : Keep (RowAt w1 vb b) := ⟨HB.out.below b1⟩
  clear b1
  simp only [Act.put, List.setIfInBounds_toArray, List.set_cons_zero, List.set_cons_succ]
  refine WL.val (by kernel_rfl) (.int .i64 0) (by go_simp) ?_
  simp only [Act.put, List.setIfInBounds_toArray, List.set_cons_zero, List.set_cons_succ]
  refine WL.nil ?_
  refine hK1 _ _ ?_
  refine wp_seq_k fun K2 hK2 => ?_
  refine wp_region_held_drew (S := fun wx => wx.cell? ⟨p, 2, none⟩ = some (.map (some mb)) ∧ Blk wx q0 58 #[.int .i64 f, .int .i64 t] ∧ LnAt wx mb N Ks) (by kernel_rfl) (⟨N1.out.at_.bx.drew.c 2 rfl, Q1.out.drew, (N1.out.at_.below (Below.refl _ _).drew).mp⟩) (fun hHeld => ?_)
  have bd := (Below.refl w1.heap.size w1).drew
  have N2 : Keep (PmN w p mb N Ks Ks l w1.drew) := ⟨N1.out.trans (PmN.below N1.out.at_ bd)⟩
  have Q2 : Keep (Blk w1.drew q0 58 #[.int .i64 f, .int .i64 t]) := ⟨Q1.out.drew⟩
  have Y2 : Keep (RowAt w1.drew vb b) := ⟨Y1.out.below bd⟩
  clear N1 Q1 Y1 bd
  generalize w1.drew = w2 at *
  refine wpAnyH_take (i := 0) (oi := ⟨some 8, Op.move (Operand.tmp 0), 26, _, _, none⟩) (v := .pointer (some ⟨p, 0, none⟩)) rfl (by kernel_rfl) (by kernel_rfl) (by kernel_rfl) (fun _ _ _ h => h) (Or.inl ⟨by rfl, fun w hS => by have c2_ := hS.1; go_simp⟩) hHeld ?_
  simp only [Act.put, List.setIfInBounds_toArray, List.set_cons_zero, List.set_cons_succ]
  refine wpAnyH_take (i := 1) (oi := ⟨some 9, Op.nilCheck (Operand.tmp 8), 0, _, _, none⟩) (v := .pointer (some ⟨p, 0, none⟩)) rfl (by kernel_rfl) (by kernel_rfl) (by kernel_rfl) (fun _ _ _ h => h) (Or.inl ⟨by rfl, fun w hS => by have c2_ := hS.1; go_simp⟩) hHeld ?_
  simp only [Act.put, List.setIfInBounds_toArray, List.set_cons_zero, List.set_cons_succ]
  refine wpAnyH_take (i := 2) (oi := ⟨some 10, Op.fieldAddr 67 (Operand.tmp 9) 1, 0, _, _, none⟩) (v := .pointer (some ⟨p, 2, none⟩)) rfl (by kernel_rfl) (by kernel_rfl) (by kernel_rfl) (fun _ _ _ h => h) (Or.inl ⟨by rfl, fun w hS => by have c2_ := hS.1; go_simp⟩) hHeld ?_
  simp only [Act.put, List.setIfInBounds_toArray, List.set_cons_zero, List.set_cons_succ]
  refine wpAnyH_take (i := 3) (oi := ⟨some 11, Op.load 56 (Operand.tmp 10), 56, _, _, none⟩) (v := .map (some mb)) rfl (by kernel_rfl) (by kernel_rfl) (by kernel_rfl) (fun _ _ _ h => h) (Or.inl ⟨by rfl, fun w hS => by have c2_ := hS.1; go_simp⟩) hHeld ?_
  simp only [Act.put, List.setIfInBounds_toArray, List.set_cons_zero, List.set_cons_succ]
  refine wpAnyH_take (i := 4) (oi := ⟨some 12, Op.load 58 (Operand.tmp 4), 58, _, _, none⟩) (v := .agg #[.int .i64 f, .int .i64 t]) rfl (by kernel_rfl) (by kernel_rfl) (by kernel_rfl) (fun _ _ _ h => h) (yieldsIf_ld (by rfl) (Operand.tmp 4) 58 rfl q0 0 rfl #[.int .i64 f, .int .i64 t] _ Tryd.underlying58 rfl (sizePr _ _) fun w hS => blk_range (hS.2.1)) hHeld ?_
  simp only [Act.put, List.setIfInBounds_toArray, List.set_cons_zero, List.set_cons_succ]
  refine wpAnyH_take (i := 5) (oi := ⟨some 13, Op.lookup 56 (Operand.tmp 11) (Operand.tmp 12) false, 36, _, _, none⟩) (v := .slice la n cap) rfl (by kernel_rfl) (by kernel_rfl) (by kernel_rfl) (fun _ _ _ h => h) (yieldsIf_lk (by rfl) (Operand.tmp 11) (Operand.tmp 12) false rfl (.map (some mb)) (kV (f, t)) (.slice la n cap) rfl rfl fun w hS => (hS.2.2.look f t).trans (by rw [hth, if_pos rfl, Hv.out])) hHeld ?_
  simp only [Act.put, List.setIfInBounds_toArray, List.set_cons_zero, List.set_cons_succ]
  refine wpAnyH_take (i := 6) (oi := ⟨some 7, Op.assign (Operand.tmp 13), 36, _, _, none⟩) (v := .slice la n cap) rfl (by kernel_rfl) (by kernel_rfl) (by kernel_rfl) (fun _ _ _ h => h) (Or.inl ⟨by rfl, fun w hS => by have c2_ := hS.1; go_simp⟩) hHeld ?_
  simp only [Act.put, List.setIfInBounds_toArray, List.set_cons_zero, List.set_cons_succ]
  refine wpAnyH_done (by kernel_rfl) ?_ _
  refine hK2 _ _ ?_
  refine wp_seq_k fun K3 hK3 => ?_
  refine wp_seq_k fun K4 hK4 => ?_
  refine wp_region_list (WL.out ?_)
  refine WL.val (by kernel_rfl) (.slice la n cap) (by go_simp) ?_
  simp only [Act.put, List.setIfInBounds_toArray, List.set_cons_zero, List.set_cons_succ]
  refine WL.val (by kernel_rfl) (.int .i64 (n : Int)) (by go_simp) ?_
  simp only [Act.put, List.setIfInBounds_toArray, List.set_cons_zero, List.set_cons_succ]
  refine WL.val (by kernel_rfl) (.bool true) (by go_simp) ?_
  simp only [Act.put, List.setIfInBounds_toArray, List.set_cons_zero, List.set_cons_succ]
  refine WL.nil ?_
  refine hK4 _ _ ?_
  refine wp_cond_true rfl ?_
  refine wp_seq_k fun K5 hK5 => ?_
  refine wp_region_list (WL.out ?_)
  refine WL.val (by kernel_rfl) (.int .i64 3) (by go_simp) ?_
  simp only [Act.put, List.setIfInBounds_toArray, List.set_cons_zero, List.set_cons_succ]
  refine WL.nil ?_
  refine hK5 _ _ ?_
  refine wp_ret ?_
  go_ret
  exact ⟨rfl, N2.out⟩
set_option maxRecDepth 8000 in
theorem ly_ok (w : World) (p mb N n cap : Nat) (l : Int) (la : Option Addr) (Ks : List Lk) (f t : Int) (vb : Value) (b : List Int) (HM : Keep (PmAt w p mb N l Ks)) (hth : thr N f t = true) (Hv : Keep ((lkOf Ks f t).v = .slice la n cap)) (Hn : Keep ((lkOf Ks f t).R.length = n)) (HB : Keep (RowAt w vb b)) (HL : Keep (b.length ≤ 140737488355328)) (HL2 : Keep (b.length ≤ 2097194)) (HBy : Keep (Byts b)) (hn4 : ¬ 1024 ≤ n) : Calls Tryd.prog 39 #[.pointer (some ⟨p, 0, none⟩), .agg #[.int .i64 f, .int .i64 t], vb] w fun e w' => e = .returned (.int .i64 0) ∧ ∃ u v, PmN w p mb N Ks (Ks.set (ix f t) ⟨v, (lkOf Ks f t).R ++ [(u, b)]⟩) l w' := by
  have hn' : ¬ (n : Int) ≥ 1024 := by omega
  have hn'' : ¬ 1024 ≤ (n : Int) := by omega
  go_enter Tryd.func39, Tryd.ntmps39
  refine wp_seq_k fun K1 hK1 => ?_
  refine wp_region_list (WL.out ?_)
  refine WL.box (by kernel_rfl) 58 (.tmp 1) rfl #[.int .i64 f, .int .i64 t] rfl ?_
  have b1 := below_new w (.cells #[.int .i64 f, .int .i64 t] 58)
  have Q1 := Keep.mk (Blk.new w 58 #[.int .i64 f, .int .i64 t])
  generalize w.alloc (.cells #[.int .i64 f, .int .i64 t] 58) = w1 at *
  obtain ⟨q0, hq0⟩ : ∃ z, Keep (z = w.heap.size) := ⟨_, ⟨rfl⟩⟩
  rw [← hq0.out] at Q1 ⊢
  have N1 : Keep (PmN w p mb N Ks Ks l w1) := ⟨PmN.below HM.out b1⟩
  have Y1 : Keep (RowAt w1 vb b) := ⟨HB.out.below b1⟩
  clear b1
  simp only [Act.put, List.setIfInBounds_toArray, List.set_cons_zero, List.set_cons_succ]
  refine WL.val (by kernel_rfl) (.int .i64 0) (by go_simp) ?_
  simp only [Act.put, List.setIfInBounds_toArray, List.set_cons_zero, List.set_cons_succ]
  refine WL.nil ?_
  refine hK1 _ _ ?_
  refine wp_seq_k fun K2 hK2 => ?_
  refine wp_region_held_drew (S := fun wx => wx.cell? ⟨p, 2, none⟩ = some (.map (some mb)) ∧ Blk wx q0 58 #[.int .i64 f, .int .i64 t] ∧ LnAt wx mb N Ks) (by kernel_rfl) (⟨N1.out.at_.bx.drew.c 2 rfl, Q1.out.drew, (N1.out.at_.below (Below.refl _ _).drew).mp⟩) (fun hHeld => ?_)
  have bd := (Below.refl w1.heap.size w1).drew
  have N2 : Keep (PmN w p mb N Ks Ks l w1.drew) := ⟨N1.out.trans (PmN.below N1.out.at_ bd)⟩
  have Q2 : Keep (Blk w1.drew q0 58 #[.int .i64 f, .int .i64 t]) := ⟨Q1.out.drew⟩
  have Y2 : Keep (RowAt w1.drew vb b) := ⟨Y1.out.below bd⟩
  clear N1 Q1 Y1 bd
  generalize w1.drew = w2 at *
  refine wpAnyH_take (i := 0) (oi := ⟨some 8, Op.move (Operand.tmp 0), 26, _, _, none⟩) (v := .pointer (some ⟨p, 0, none⟩)) rfl (by kernel_rfl) (by kernel_rfl) (by kernel_rfl) (fun _ _ _ h => h) (Or.inl ⟨by rfl, fun w hS => by have c2_ := hS.1; go_simp⟩) hHeld ?_
  simp only [Act.put, List.setIfInBounds_toArray, List.set_cons_zero, List.set_cons_succ]
  refine wpAnyH_take (i := 1) (oi := ⟨some 9, Op.nilCheck (Operand.tmp 8), 0, _, _, none⟩) (v := .pointer (some ⟨p, 0, none⟩)) rfl (by kernel_rfl) (by kernel_rfl) (by kernel_rfl) (fun _ _ _ h => h) (Or.inl ⟨by rfl, fun w hS => by have c2_ := hS.1; go_simp⟩) hHeld ?_
  simp only [Act.put, List.setIfInBounds_toArray, List.set_cons_zero, List.set_cons_succ]
  refine wpAnyH_take (i := 2) (oi := ⟨some 10, Op.fieldAddr 67 (Operand.tmp 9) 1, 0, _, _, none⟩) (v := .pointer (some ⟨p, 2, none⟩)) rfl (by kernel_rfl) (by kernel_rfl) (by kernel_rfl) (fun _ _ _ h => h) (Or.inl ⟨by rfl, fun w hS => by have c2_ := hS.1; go_simp⟩) hHeld ?_
  simp only [Act.put, List.setIfInBounds_toArray, List.set_cons_zero, List.set_cons_succ]
  refine wpAnyH_take (i := 3) (oi := ⟨some 11, Op.load 56 (Operand.tmp 10), 56, _, _, none⟩) (v := .map (some mb)) rfl (by kernel_rfl) (by kernel_rfl) (by kernel_rfl) (fun _ _ _ h => h) (Or.inl ⟨by rfl, fun w hS => by have c2_ := hS.1; go_simp⟩) hHeld ?_
  simp only [Act.put, List.setIfInBounds_toArray, List.set_cons_zero, List.set_cons_succ]
  refine wpAnyH_take (i := 4) (oi := ⟨some 12, Op.load 58 (Operand.tmp 4), 58, _, _, none⟩) (v := .agg #[.int .i64 f, .int .i64 t]) rfl (by kernel_rfl) (by kernel_rfl) (by kernel_rfl) (fun _ _ _ h => h) (yieldsIf_ld (by rfl) (Operand.tmp 4) 58 rfl q0 0 rfl #[.int .i64 f, .int .i64 t] _ Tryd.underlying58 rfl (sizePr _ _) fun w hS => blk_range (hS.2.1)) hHeld ?_
  simp only [Act.put, List.setIfInBounds_toArray, List.set_cons_zero, List.set_cons_succ]
  refine wpAnyH_take (i := 5) (oi := ⟨some 13, Op.lookup 56 (Operand.tmp 11) (Operand.tmp 12) false, 36, _, _, none⟩) (v := .slice la n cap) rfl (by kernel_rfl) (by kernel_rfl) (by kernel_rfl) (fun _ _ _ h => h) (yieldsIf_lk (by rfl) (Operand.tmp 11) (Operand.tmp 12) false rfl (.map (some mb)) (kV (f, t)) (.slice la n cap) rfl rfl fun w hS => (hS.2.2.look f t).trans (by rw [hth, if_pos rfl, Hv.out])) hHeld ?_
  simp only [Act.put, List.setIfInBounds_toArray, List.set_cons_zero, List.set_cons_succ]
  refine wpAnyH_take (i := 6) (oi := ⟨some 7, Op.assign (Operand.tmp 13), 36, _, _, none⟩) (v := .slice la n cap) rfl (by kernel_rfl) (by kernel_rfl) (by kernel_rfl) (fun _ _ _ h => h) (Or.inl ⟨by rfl, fun w hS => by have c2_ := hS.1; go_simp⟩) hHeld ?_
  simp only [Act.put, List.setIfInBounds_toArray, List.set_cons_zero, List.set_cons_succ]
  refine wpAnyH_done (by kernel_rfl) ?_ _
  refine hK2 _ _ ?_
  refine wp_seq_k fun K3 hK3 => ?_
  refine wp_seq_k fun K4 hK4 => ?_
  refine wp_region_list (WL.out ?_)
  refine WL.val (by kernel_rfl) (.slice la n cap) (by go_simp) ?_
  simp only [Act.put, List.setIfInBounds_toArray, List.set_cons_zero, List.set_cons_succ]
  refine WL.val (by kernel_rfl) (.int .i64 (n : Int)) (by go_simp) ?_
  simp only [Act.put, List.setIfInBounds_toArray, List.set_cons_zero, List.set_cons_succ]
  refine WL.val (by kernel_rfl) (.bool false) (by go_simp) ?_
  simp only [Act.put, List.setIfInBounds_toArray, List.set_cons_zero, List.set_cons_succ]
  refine WL.nil ?_
  refine hK4 _ _ ?_
  refine wp_cond_false rfl ?_
  refine wp_skip ?_
  refine hK3 _ _ ?_
  refine wp_seq_k fun K5 hK5 => ?_
  refine wp_region_held_drew (S := fun wx => Grown w2.drew wx (fun k => k = mb ∨ LkS (lkOf Ks f t) k)) (by kernel_rfl) (Grown.refl _ _) (fun hHeld => ?_)
  have bd := (Below.refl w2.heap.size w2).drew
  have N3 : Keep (PmN w p mb N Ks Ks l w2.drew) := ⟨N2.out.trans (PmN.below N2.out.at_ bd)⟩
  have Q3 : Keep (Blk w2.drew q0 58 #[.int .i64 f, .int .i64 t]) := ⟨Q2.out.drew⟩
  have Y3 : Keep (RowAt w2.drew vb b) := ⟨Y2.out.below bd⟩
  clear N2 Q2 Y2 bd
  generalize w2.drew = w3 at *
  have HC : Keep (∀ wx, Grown w3 wx (fun k => k = mb ∨ LkS (lkOf Ks f t) k) → wx.cell? ⟨p, 2, none⟩ = some (.map (some mb))) := ⟨fun wx hg => (hg.blk N3.out.at_.bx (lkN N3.out.at_ hth N3.out.at_.bx.typ (by decide) (by decide))).c 2 rfl⟩
  have HQ : Keep (∀ wx, Grown w3 wx (fun k => k = mb ∨ LkS (lkOf Ks f t) k) → Blk wx q0 58 #[.int .i64 f, .int .i64 t]) := ⟨fun wx hg => hg.blk Q3.out (lkN N3.out.at_ hth Q3.out.typ (by decide) (by decide))⟩
  refine wpAnyH_take (i := 0) (oi := ⟨some 17, Op.move (Operand.tmp 0), 26, _, _, none⟩) (v := .pointer (some ⟨p, 0, none⟩)) rfl (by kernel_rfl) (by kernel_rfl) (by kernel_rfl) (fun _ _ _ h => h) (Or.inl ⟨by rfl, fun w hS => by have c2_ := HC.out w hS; go_simp⟩) hHeld ?_
  simp only [Act.put, List.setIfInBounds_toArray, List.set_cons_zero, List.set_cons_succ]
  refine wpAnyH_take (i := 4) (oi := ⟨some 21, Op.load 58 (Operand.tmp 4), 58, _, _, none⟩) (v := .agg #[.int .i64 f, .int .i64 t]) rfl (by kernel_rfl) (by kernel_rfl) (by kernel_rfl) (fun _ _ _ h => h) (yieldsIf_ld (by rfl) (Operand.tmp 4) 58 rfl q0 0 rfl #[.int .i64 f, .int .i64 t] _ Tryd.underlying58 rfl (sizePr _ _) fun w hS => blk_range (HQ.out w hS)) hHeld ?_
  simp only [Act.put, List.setIfInBounds_toArray, List.set_cons_zero, List.set_cons_succ]
  refine wpAnyH_take (i := 5) (oi := ⟨some 22, Op.move (Operand.tmp 7), 36, _, _, none⟩) (v := .slice la n cap) rfl (by kernel_rfl) (by kernel_rfl) (by kernel_rfl) (fun _ _ _ h => h) (Or.inl ⟨by rfl, fun w hS => by have c2_ := HC.out w hS; go_simp⟩) hHeld ?_
  simp only [Act.put, List.setIfInBounds_toArray, List.set_cons_zero, List.set_cons_succ]
  refine wpAnyH_take (i := 6) (oi := ⟨some 23, Op.move (Operand.tmp 2), 39, _, _, none⟩) (v := vb) rfl (by kernel_rfl) (by kernel_rfl) (by kernel_rfl) (fun _ _ _ h => h) (Or.inl ⟨by rfl, fun w hS => by have c2_ := HC.out w hS; go_simp⟩) hHeld ?_
  simp only [Act.put, List.setIfInBounds_toArray, List.set_cons_zero, List.set_cons_succ]
  refine wpAnyH_take (i := 1) (oi := ⟨some 18, Op.nilCheck (Operand.tmp 17), 0, _, _, none⟩) (v := .pointer (some ⟨p, 0, none⟩)) rfl (by kernel_rfl) (by kernel_rfl) (by kernel_rfl) (fun _ _ _ h => h) (Or.inl ⟨by rfl, fun w hS => by have c2_ := HC.out w hS; go_simp⟩) hHeld ?_
  simp only [Act.put, List.setIfInBounds_toArray, List.set_cons_zero, List.set_cons_succ]
  refine wpAnyH_take (i := 2) (oi := ⟨some 19, Op.fieldAddr 67 (Operand.tmp 18) 1, 0, _, _, none⟩) (v := .pointer (some ⟨p, 2, none⟩)) rfl (by kernel_rfl) (by kernel_rfl) (by kernel_rfl) (fun _ _ _ h => h) (Or.inl ⟨by rfl, fun w hS => by have c2_ := HC.out w hS; go_simp⟩) hHeld ?_
  simp only [Act.put, List.setIfInBounds_toArray, List.set_cons_zero, List.set_cons_succ]
  refine wpAnyH_take (i := 3) (oi := ⟨some 20, Op.load 56 (Operand.tmp 19), 56, _, _, none⟩) (v := .map (some mb)) rfl (by kernel_rfl) (by kernel_rfl) (by kernel_rfl) (fun _ _ _ h => h) (Or.inl ⟨by rfl, fun w hS => by have c2_ := HC.out w hS; go_simp⟩) hHeld ?_
  simp only [Act.put, List.setIfInBounds_toArray, List.set_cons_zero, List.set_cons_succ]
  refine wpAnyH_ready (rs := [7]) (by kernel_rfl) (by simp) ?_
  refine AllReadyH.cons (o := ⟨some 24, Op.call { callee := Callee.value (Operand.func 42), args := #[Operand.tmp 23], argTypes := #[39] }, 39, _, _, none⟩) rfl (fun K hK => ?_) AllReadyH.nil
  rw [if_pos (by rfl)]
  refine wp_callF 42 _ _ rfl Tryd.in42 #[vb] (by simp [Act.eval]) (fun vz wz => ∃ v, vz = v ∧ Own wz v b ∧ (∀ k, v.ownBlock = some k → w3.heap.size ≤ k) ∧ Below w3.heap.size w3 wz) ?_ ?_
  · refine (clo_any w3 _ b Y3.out HL.out).mono ?_
    rintro e wz ⟨v, rfl, k1, k2, k3⟩
    exact ⟨_, rfl, v, rfl, k1, k2, k3⟩
  rintro vz wa ⟨u, rfl, k1, k2, k3⟩
  have Oa := Keep.mk k1
  have Fa := Keep.mk k2
  have ba_ := Keep.mk k3
  obtain ⟨ua, un, uc, hu⟩ := k1.sl
  subst hu
  clear k1 k2 k3
  refine hK _ _ (Grown.below ba_.out) fun hHa => ?_
  clear hK
  simp only [Act.put, List.setIfInBounds_toArray, List.set_cons_zero, List.set_cons_succ]
  refine wpAnyH_ready (rs := [8]) (by kernel_rfl) (by simp) ?_
  refine AllReadyH.cons (o := ⟨some 25, Op.buildSlice 36 1 #[(0, Operand.tmp 24)], 36, _, _, none⟩) rfl (fun K hK => ?_) AllReadyH.nil
  rw [if_pos (by rfl)]
  refine wp_bs 36 1 _ rfl #[(0, .slice ua un uc)] (by simp [Act.eval]) _ _ (bsRw1 ua un uc wa) ?_
  have bb := below_new wa (.cells #[.slice ua un uc] 39)
  have Qb := Keep.mk (Blk.new wa 39 #[.slice ua un uc])
  generalize wa.alloc (.cells #[.slice ua un uc] 39) = wb at *
  obtain ⟨gx, hgx⟩ : ∃ z, Keep (z = wa.heap.size) := ⟨_, ⟨rfl⟩⟩
  rw [← hgx.out] at Qb ⊢
  have Ob := Keep.mk (owns_below Oa.out bb)
  have bb2 : Keep (Below w3.heap.size w3 wb) := ⟨ba_.out.trans (bb.mono ba_.out.size)⟩
  clear bb hgx
  refine hK _ _ (Grown.below bb2.out) fun hHc => ?_
  clear hK
  simp only [Act.put, List.setIfInBounds_toArray, List.set_cons_zero, List.set_cons_succ]
  refine wpAnyH_ready (rs := [9]) (by kernel_rfl) (by simp) ?_
  refine AllReadyH.cons (o := ⟨some 26, Op.call { callee := Callee.builtin Builtin.append, args := #[Operand.tmp 22, Operand.tmp 25], argTypes := #[36, 36] }, 36, _, _, none⟩) rfl (fun K hK => ?_) AllReadyH.nil
  rw [if_pos (by rfl)]
  refine wp_appRw (.tmp 22) (.tmp 25) rfl 0 (.slice la n cap) n ((lkOf Ks f t).R.map (·.1)) gx ua un uc rfl rfl (by have h := ((N3.out.at_.below bb2.out).link hth).2.own; rw [Hv.out, Hn.out] at h; exact h) (Qb.out.c 0 rfl) (by have := hn4; omega) (Nat.zero_le _) ?_
  intro v9 wc k1 k2 k3
  obtain ⟨za, zc, hv9⟩ := owns_sl k1
  subst hv9
  have hgc : Grown w3 wc (fun k => k = mb ∨ LkS (lkOf Ks f t) k) := (Grown.below bb2.out).trans (k2.mono fun k _ e => .inr (.inl (by rw [Hv.out]; exact e)))
  have Lc : Keep (LnAt wc mb N Ks) := ⟨(N3.out.at_.below bb2.out).mp.grown k2 fun e => (N3.out.at_.below bb2.out).mp.ne (owns_typ ((N3.out.at_.below bb2.out).link hth).2.own (by rw [Hv.out]; exact e)) rfl⟩
  have K1 := Keep.mk k1
  have K2 := Keep.mk k2
  have K3 := Keep.mk k3
  clear k1 k2 k3
  have Hgc := Keep.mk hgc
  refine hK _ _ hgc fun hHd => ?_
  clear hK hgc
  simp only [Act.put, List.setIfInBounds_toArray, List.set_cons_zero, List.set_cons_succ]
  refine wpAnyH_ready (rs := [10]) (by kernel_rfl) (by simp) ?_
  refine AllReadyH.cons (o := ⟨none, Op.mapUpdate 56 (Operand.tmp 20) (Operand.tmp 21) (Operand.tmp 26), 0, _, _, none⟩) rfl (fun K hK => ?_) AllReadyH.nil
  rw [if_pos (by rfl)]
  obtain ⟨wd, hr, hm, hgd⟩ := Lc.out.upd N3.out.at_.nb.2 N3.out.at_.len hth ⟨.slice za (n + 1) zc, (lkOf Ks f t).R ++ [(.slice ua un uc, b)]⟩
  refine wp_upd (.tmp 20) (.tmp 21) (.tmp 26) rfl (.map (some mb)) (kV (f, t)) (.slice za (n + 1) zc) rfl rfl rfl wd hr ?_
  have N9 : Keep (PmN w p mb N Ks (Ks.set (ix f t) ⟨.slice za (n + 1) zc, (lkOf Ks f t).R ++ [(.slice ua un uc, b)]⟩) l wd) := ⟨N3.out.trans (N3.out.at_.push hth bb2.out Ob.out (fun k hk => Fa.out k hk) (by rw [Hn.out]; exact K1.out) (by rw [Hv.out]; exact K2.out) (by rw [Hv.out]; exact K3.out) hm hgd (by rw [Hn.out]; omega) HL2.out HBy.out)⟩
  refine hK _ _ (Hgc.out.trans (hgd.mono fun k _ e => .inl e)) fun hHe => ?_
  clear hK hr hm hgd
  simp only [Act.put, List.setIfInBounds_toArray, List.set_cons_zero, List.set_cons_succ]
  refine wpAnyH_done (by kernel_rfl) ?_ _
  refine hK5 _ _ ?_
  refine wp_seq_k fun K6 hK6 => ?_
  refine wp_region_list (WL.out ?_)
  refine WL.val (by kernel_rfl) (.int .i64 0) (by go_simp) ?_
  simp only [Act.put, List.setIfInBounds_toArray, List.set_cons_zero, List.set_cons_succ]
  refine WL.nil ?_
  refine hK6 _ _ ?_
  refine wp_ret ?_
  go_ret
  exact ⟨rfl, _, _, N9.out⟩
theorem lay_any (w : World) (p mb N : Nat) (l : Int) (K : List Lk) (f t : Int) (vb : Value) (b : List Int) (h : PmAt w p mb N l K) (ht : thr N f t = true) (hb : RowAt w vb b) (hB : Byts b) (hL : b.length ≤ 2097194) : Calls Tryd.prog 39 #[.pointer (some ⟨p, 0, none⟩), .agg #[.int .i64 f, .int .i64 t], vb] w fun e w' => ∃ er K', e = .returned (.int .i64 er) ∧ er = layE K f t ∧ PmN w p mb N K K' l w' ∧ (er ≠ 0 → K' = K) ∧ (er = 0 → ∃ u v, K' = K.set (ix f t) ⟨v, (lkOf K f t).R ++ [(u, b)]⟩) := by
  obtain ⟨a, c, ha⟩ := (h.link ht).2.sl
  unfold layE
  by_cases hn : 1024 ≤ (lkOf K f t).R.length
  · rw [if_pos hn]
    exact (ly_many w p mb N _ c l a K f t vb b ⟨h⟩ ht ⟨ha⟩ ⟨rfl⟩ ⟨hb⟩ ⟨by omega⟩ ⟨hL⟩ ⟨hB⟩ hn).mono fun e w' ⟨h1, h2⟩ => ⟨_, _, h1, rfl, h2, fun _ => rfl, fun e => absurd e (by decide)⟩
  · rw [if_neg hn]
    exact (ly_ok w p mb N _ c l a K f t vb b ⟨h⟩ ht ⟨ha⟩ ⟨rfl⟩ ⟨hb⟩ ⟨by omega⟩ ⟨hL⟩ ⟨hB⟩ hn).mono fun e w' ⟨h1, u, v, h2⟩ => ⟨_, _, h1, rfl, h2, fun e => absurd rfl e, fun _ => ⟨u, v, rfl⟩⟩

theorem Tryd.in52 (w : World) (vs : Array Value) : (callFunc 52 vs).run Tryd.prog w = .ok (.enter 52 vs) w := by kernel_rfl
theorem Tryd.in40 (w : World) (vs : Array Value) : (callFunc 40 vs).run Tryd.prog w = .ok (.enter 40 vs) w := by kernel_rfl
theorem WL.slr {ops : Array Oper} {rest : List Oper} {o : Oper} {a : Act} {w : World} {Q : Exit → Act → World → Prop} (hw : Region.wanted o (yielded ops a.tmps) = true) (t : TypeId) (x : Operand) (lo hi mx : Option Operand) (ho : o.op = .slice t x lo hi mx)
    (vx : Value) (vlo vhi vmx : Option Value) (vs : Value) (hx : a.eval x = vx) (hl : lo.map a.eval = vlo) (hh : hi.map a.eval = vhi) (hm : mx.map a.eval = vmx) (hr : (Instr.sliceAt t vx vlo vhi vmx).run Tryd.prog w = .ok vs w) (h : WL Tryd.prog ops Q rest (a.put o.dst vs) w) : WL Tryd.prog ops Q (o :: rest) a w :=
  WL.val hw vs (by unfold execOp; simp only [ho, hx, hl, hh, hm, Sem.run_bind, hr, Result.andThen_ok, Sem.run_pure]) h
theorem yieldsIf_slr {ops : Array Oper} {S : World → Prop} {op : Oper} {a : Act} (hw : Region.wanted op (yielded ops a.tmps) = true) (t : TypeId) (x : Operand) (lo hi : Option Operand) (ho : op.op = .slice t x lo hi none)
    (vx : Value) (vlo vhi : Option Value) (vs : Value) (hx : a.eval x = vx) (hl : lo.map a.eval = vlo) (hh : hi.map a.eval = vhi) (hr : ∀ w : World, (Instr.sliceAt t vx vlo vhi none).run Tryd.prog w = .ok vs w) : YieldsIf Tryd.prog ops S op vs a :=
  .inl ⟨hw, fun w _ => by unfold execOp; simp only [ho, hx, hl, hh, Option.map_none, Sem.run_bind, hr w, Result.andThen_ok, Sem.run_pure]⟩
theorem elemRw : Tryd.prog.elem 36 = 39 := by kernel_rfl
theorem sizeBy (w : World) : (sizeOf 39).run Tryd.prog w = .ok 1 w := by kernel_rfl
theorem slW_u : Tryd.prog.underlying 36 = some (.slice (Tryd.prog.elem 36)) := by rw [elemRw]; exact Tryd.underlying36
theorem slW_l (a : Option Addr) (n c i : Nat) (hi : i ≤ n) (w : World) : (Instr.sliceAt 36 (.slice a n c) (some (.int .i64 (i : Int))) none none).run Tryd.prog w = .ok (sliced a i n c 1) w := by
  have h1 := run_slice_l (P := Tryd.prog) (w := w) 36 a n c slW_u .i64 (i : Int) (by omega) (by omega)
  have h2 := run_sliceAt_slice (P := Tryd.prog) (w := w) 36 (.slice a n c) (some (.int .i64 (i : Int))) none none slW_u
  rw [h2, h1, elemRw, sizeBy, Result.andThen_ok, Int.toNat_natCast]
theorem slW_h (a : Option Addr) (n c i : Nat) (hi : i ≤ c) (w : World) : (Instr.sliceAt 36 (.slice a n c) none (some (.int .i64 (i : Int))) none).run Tryd.prog w = .ok (.slice a i c) w := by
  have h1 := run_slice_h (P := Tryd.prog) (w := w) 36 a n c slW_u .i64 (i : Int) (by omega) (by omega)
  have h2 := run_sliceAt_slice (P := Tryd.prog) (w := w) 36 (.slice a n c) none (some (.int .i64 (i : Int))) none slW_u
  rw [h2, h1, elemRw, sizeBy, Result.andThen_ok, Int.toNat_natCast]
  have h4 : (if c = 0 then a else a.map (·.add (0 * 1))) = a := by
    split
    · rfl
    · cases a <;> rfl
  unfold sliced
  rw [h4, Nat.sub_zero, Nat.sub_zero]
theorem slW_3 (a : Option Addr) (n c i j m : Nat) (h1 : i ≤ j) (h2 : j ≤ m) (h3 : m ≤ c) (w : World) : (Instr.sliceAt 36 (.slice a n c) (some (.int .i64 (i : Int))) (some (.int .i64 (j : Int))) (some (.int .i64 (m : Int)))).run Tryd.prog w = .ok (sliced a i j m 1) w := by
  have k1 := run_slice_lhm (P := Tryd.prog) (w := w) 36 a n c slW_u .i64 .i64 .i64 (i : Int) (j : Int) (m : Int) (by omega) (by omega) (by omega) (by omega)
  have k2 := run_sliceAt_slice (P := Tryd.prog) (w := w) 36 (.slice a n c) (some (.int .i64 (i : Int))) (some (.int .i64 (j : Int))) (some (.int .i64 (m : Int))) slW_u
  rw [k2, k1, elemRw, sizeBy, Result.andThen_ok, Int.toNat_natCast, Int.toNat_natCast, Int.toNat_natCast]
theorem slW_lh (a : Option Addr) (n c i j : Nat) (h1 : i ≤ j) (h2 : j ≤ c) (w : World) : (Instr.sliceAt 36 (.slice a n c) (some (.int .i64 (i : Int))) (some (.int .i64 (j : Int))) none).run Tryd.prog w = .ok (sliced a i j c 1) w := by
  have k1 := run_slice_lh (P := Tryd.prog) (w := w) 36 a n c slW_u .i64 .i64 (i : Int) (j : Int) (by omega) (by omega) (by omega)
  have k2 := run_sliceAt_slice (P := Tryd.prog) (w := w) 36 (.slice a n c) (some (.int .i64 (i : Int))) (some (.int .i64 (j : Int))) none slW_u
  rw [k2, k1, elemRw, sizeBy, Result.andThen_ok, Int.toNat_natCast, Int.toNat_natCast]
theorem run_clr1 (w : World) (g k c : Nat) (cur : Array Value) (ty : TypeId) (hg : Blk w g 39 cur) (hk : k + 1 ≤ cur.size) : ∃ cur' : Array Value,
    (Builtin.clear_ #[36] ty #[.slice (some ⟨g, k, none⟩) 1 c]).run Tryd.prog w = .ok (.tuple #[]) (w.setRow g cur') ∧ cur'.size = cur.size ∧ cur'.toList.take k = cur.toList.take k := by
  have hst := run_storeCells_at Tryd.prog g k 39 [Value.slice none 0 0] 0 cur w hg (by simpa using hk) (by simp [Value.oneCell'])
  obtain ⟨i, hi, hzz⟩ := Option.map_eq_some_iff.1 infoBy
  simp only [Prod.mk.injEq] at hzz
  refine ⟨(cur.toList.take (k + 0) ++ [Value.slice none 0 0] ++ cur.toList.drop (k + 0 + 1)).toArray, ?_, ?_, ?_⟩
  · have hz : (Builtin.zeroCells #[Value.slice none 0 0] 1).toList = [Value.slice none 0 0] := by simp [Builtin.zeroCells]
    simp only [Nat.add_zero, List.length_cons, List.length_nil, Nat.zero_add] at hst ⊢
    simp [Builtin.clear_, zeroValue, typeInfo, hi, hzz.1, Value.cells, Tryd.underlying36, hz, hst, Result.andThen]
  · simp only [List.size_toArray, List.length_append, List.length_take, List.length_drop, Array.length_toList, List.length_cons, List.length_nil]; omega
  · simp only [Nat.add_zero]
    rw [List.append_assoc, List.take_append_of_le_length (by simp; omega), List.take_take, Nat.min_self]
theorem WL.clr1 {ops : Array Oper} {rest : List Oper} {o : Oper} {a : Act} {w : World} {Q : Exit → Act → World → Prop} (hw : Region.wanted o (yielded ops a.tmps) = true) (x : Operand)
    (ho : o.op = .call { callee := .builtin .clear, args := #[x], argTypes := #[36] }) (g k c : Nat) (cur : Array Value) (hx : a.eval x = .slice (some ⟨g, k, none⟩) 1 c) (hg : Blk w g 39 cur) (hk : k + 1 ≤ cur.size)
    (h : ∀ cur' : Array Value, cur'.size = cur.size → cur'.toList.take k = cur.toList.take k → WL Tryd.prog ops Q rest (a.put o.dst (.tuple #[])) (w.setRow g cur')) : WL Tryd.prog ops Q (o :: rest) a w :=
  ⟨wpList_wanted hw fun K hK => by
    obtain ⟨cur', hr, h1, h2⟩ := run_clr1 w g k c cur o.type hg hk
    unfold Oper.wp execOp
    simp only [ho, resolve, invoke, builtin, Sem.run_bind, Sem.run_pure, Result.andThen_ok, List.map_toArray, List.map_cons, List.map_nil, hx, hr]
    exact hK _ _ (h cur' h1 h2).out⟩
theorem owns_take {w : World} {g n cap : Nat} {xs : List Value} (h : w.ownsRow 0 39 1 (.slice (some ⟨g, 0, none⟩) n cap) n xs) (i : Nat) (hi : i ≤ n) : w.ownsRow 0 39 1 (.slice (some ⟨g, 0, none⟩) i cap) i (xs.take i) := by
  have hl := h.1
  rcases h.2 with ⟨h0, _⟩ | ⟨g', cap', cur, hv, h2, h3, h4, h5, h6, h7⟩
  · cases h0
  · injection hv with e1 e2 e3
    injection e1 with e1
    injection e1 with e1
    subst e1 e3
    refine ⟨by rw [List.length_take]; omega, .inr ⟨g, cap, cur, rfl, h2, h3, by omega, h5, h6, ?_⟩⟩
    rw [← h7, List.take_take]
    congr 1
    omega
theorem owns_cells {w : World} {g n cap : Nat} {xs : List Value} (h : w.ownsRow 0 39 1 (.slice (some ⟨g, 0, none⟩) n cap) n xs) (j : Nat) (u : Value) (hu : xs[j]? = some u) : w.cell? ⟨g, j, none⟩ = some u := by
  have hl := h.1
  have hj := (List.getElem?_eq_some_iff.1 hu).1
  obtain ⟨g', e, hc, _⟩ := owns_at h (by omega) hu
  injection e with e; injection e with e; subst e; exact hc
set_option maxRecDepth 8000 in
set_option maxHeartbeats 400000 in
theorem del_one (g n cap i : Nat) (xs : List Value) (w : World) (HO : Keep (w.ownsRow 0 39 1 (.slice (some ⟨g, 0, none⟩) n cap) n xs)) (Hx : Keep (xs.length = n)) (H1 : Keep (∀ u ∈ xs, u.oneCell' = true)) (Hi : Keep (i < n)) (Hc : Keep (n ≤ cap)) (Hcm : Keep (cap ≤ maxLen)) (HL : Keep (n ≤ 4398046511104)) : Calls Tryd.prog 52 #[.slice (some ⟨g, 0, none⟩) n cap, .int .i64 (i : Int), .int .i64 ((i + 1 : Nat) : Int)] w fun e w' => e = .returned (.slice (some ⟨g, 0, none⟩) (n - 1) cap) ∧ w'.ownsRow 0 39 1 (.slice (some ⟨g, 0, none⟩) (n - 1) cap) (n - 1) (xs.eraseIdx i) ∧ Grown w w' fun k => k = g := by
  go_enter Tryd.func52, Tryd.ntmps52
  refine wp_seq_k fun K1 hK1 => ?_
  refine wp_region_list (WL.out ?_)
  refine WL.val (by kernel_rfl) (.slice none 0 0) (by go_simp) ?_
  simp only [Act.put, List.setIfInBounds_toArray, List.set_cons_zero, List.set_cons_succ]
  refine WL.nil ?_
  refine hK1 _ _ ?_
  refine wp_seq_k fun K2 hK2 => ?_
  refine wp_region_list (WL.out ?_)
  refine WL.val (by kernel_rfl) (.slice (some ⟨g, 0, none⟩) n cap) (by go_simp) ?_
  simp only [Act.put, List.setIfInBounds_toArray, List.set_cons_zero, List.set_cons_succ]
  refine WL.val (by kernel_rfl) (.int .i64 (i : Int)) (by go_simp) ?_
  simp only [Act.put, List.setIfInBounds_toArray, List.set_cons_zero, List.set_cons_succ]
  refine WL.val (by kernel_rfl) (.int .i64 ((i + 1 : Nat) : Int)) (by go_simp) ?_
  simp only [Act.put, List.setIfInBounds_toArray, List.set_cons_zero, List.set_cons_succ]
  refine WL.val (by kernel_rfl) (.slice (some ⟨g, 0, none⟩) n cap) (by go_simp) ?_
  simp only [Act.put, List.setIfInBounds_toArray, List.set_cons_zero, List.set_cons_succ]
  refine WL.val (by kernel_rfl) (.int .i64 (n : Int)) (by go_simp) ?_
  simp only [Act.put, List.setIfInBounds_toArray, List.set_cons_zero, List.set_cons_succ]
  refine WL.slr (by kernel_rfl) 36 (.tmp 8) (some (.tmp 9)) (some (.tmp 10)) (some (.tmp 12)) rfl _ (some (.int .i64 (i : Int))) (some (.int .i64 ((i + 1 : Nat) : Int))) (some (.int .i64 (n : Int))) (sliced (some ⟨g, 0, none⟩) i (i + 1) n 1) rfl rfl rfl rfl (slW_3 _ _ _ _ _ _ (by omega) (by have := Hi.out; omega) Hc.out w) ?_
  simp only [Act.put, List.setIfInBounds_toArray, List.set_cons_zero, List.set_cons_succ]
  refine WL.nil ?_
  refine hK2 _ _ ?_
  refine wp_seq_k fun K3 hK3 => ?_
  refine wp_seq_k fun K4 hK4 => ?_
  refine wp_region_list (WL.out ?_)
  refine WL.val (by kernel_rfl) (.int .i64 (i : Int)) (by go_simp) ?_
  simp only [Act.put, List.setIfInBounds_toArray, List.set_cons_zero, List.set_cons_succ]
  refine WL.val (by kernel_rfl) (.int .i64 ((i + 1 : Nat) : Int)) (by go_simp) ?_
  simp only [Act.put, List.setIfInBounds_toArray, List.set_cons_zero, List.set_cons_succ]
  have hne_ : ¬ (i : Int) = (i : Int) + 1 := by omega
  refine WL.val (by kernel_rfl) (.bool false) (by go_simp) ?_
  simp only [Act.put, List.setIfInBounds_toArray, List.set_cons_zero, List.set_cons_succ]
  refine WL.nil ?_
  refine hK4 _ _ ?_
  refine wp_cond_false rfl ?_
  refine wp_skip ?_
  refine hK3 _ _ ?_
  refine wp_seq_k fun K5 hK5 => ?_
  refine wp_region_list (WL.out ?_)
  refine WL.val (by kernel_rfl) (.slice (some ⟨g, 0, none⟩) n cap) (by go_simp) ?_
  simp only [Act.put, List.setIfInBounds_toArray, List.set_cons_zero, List.set_cons_succ]
  refine WL.val (by kernel_rfl) (.int .i64 (n : Int)) (by go_simp) ?_
  simp only [Act.put, List.setIfInBounds_toArray, List.set_cons_zero, List.set_cons_succ]
  refine WL.val (by kernel_rfl) (.int .i64 (n : Int)) (by go_simp) ?_
  simp only [Act.put, List.setIfInBounds_toArray, List.set_cons_zero, List.set_cons_succ]
  refine WL.nil ?_
  refine hK5 _ _ ?_
  refine wp_seq_k fun K6 hK6 => ?_
  obtain ⟨ad, mm, cc, hsl, hmm, had⟩ : ∃ ad mm cc, sliced (some ⟨g, 0, none⟩) (i + 1) n cap 1 = .slice (some ad) mm cc ∧ mm = n - (i + 1) ∧ (0 < mm → ad = ⟨g, (i + 1) * 1, none⟩) := by
    refine ⟨if cap = i + 1 then ⟨g, 0, none⟩ else ⟨g, (i + 1) * 1, none⟩, n - (i + 1), cap - (i + 1), ?_, rfl, fun h => if_neg (by have := Hc.out; omega)⟩
    unfold sliced
    split <;> simp [Addr.add]
  have Hsl := Keep.mk hsl
  have Hmm := Keep.mk hmm
  have Had := Keep.mk had
  clear hsl hmm had
  refine wp_region_held_drew (S := fun _ => True) (by kernel_rfl) (trivial) (fun hHeld => ?_)
  refine wpAnyH_take (i := 0) (oi := ⟨some 20, Op.move (Operand.tmp 0), 36, _, _, none⟩) (v := .slice (some ⟨g, 0, none⟩) n cap) rfl (by kernel_rfl) (by kernel_rfl) (by kernel_rfl) (fun _ _ _ h => h) (Or.inl ⟨by rfl, fun w hS => by go_simp⟩) hHeld ?_
  simp only [Act.put, List.setIfInBounds_toArray, List.set_cons_zero, List.set_cons_succ]
  refine wpAnyH_take (i := 1) (oi := ⟨some 21, Op.move (Operand.tmp 1), 3, _, _, none⟩) (v := .int .i64 (i : Int)) rfl (by kernel_rfl) (by kernel_rfl) (by kernel_rfl) (fun _ _ _ h => h) (Or.inl ⟨by rfl, fun w hS => by go_simp⟩) hHeld ?_
  simp only [Act.put, List.setIfInBounds_toArray, List.set_cons_zero, List.set_cons_succ]
  refine wpAnyH_take (i := 2) (oi := ⟨some 22, Op.slice 36 (Operand.tmp 20) none (some (Operand.tmp 21)) none, 36, _, _, none⟩) (v := .slice (some ⟨g, 0, none⟩) i cap) rfl (by kernel_rfl) (by kernel_rfl) (by kernel_rfl) (fun _ _ _ h => h) (yieldsIf_slr (by rfl) 36 (Operand.tmp 20) none (some (Operand.tmp 21)) rfl _ none (some (.int .i64 (i : Int))) _ rfl rfl rfl fun w => slW_h _ _ _ i (by have := Hc.out; have := Hi.out; omega) w) hHeld ?_
  simp only [Act.put, List.setIfInBounds_toArray, List.set_cons_zero, List.set_cons_succ]
  refine wpAnyH_take (i := 3) (oi := ⟨some 23, Op.move (Operand.tmp 0), 36, _, _, none⟩) (v := .slice (some ⟨g, 0, none⟩) n cap) rfl (by kernel_rfl) (by kernel_rfl) (by kernel_rfl) (fun _ _ _ h => h) (Or.inl ⟨by rfl, fun w hS => by go_simp⟩) hHeld ?_
  simp only [Act.put, List.setIfInBounds_toArray, List.set_cons_zero, List.set_cons_succ]
  refine wpAnyH_take (i := 4) (oi := ⟨some 24, Op.move (Operand.tmp 2), 3, _, _, none⟩) (v := .int .i64 ((i + 1 : Nat) : Int)) rfl (by kernel_rfl) (by kernel_rfl) (by kernel_rfl) (fun _ _ _ h => h) (Or.inl ⟨by rfl, fun w hS => by go_simp⟩) hHeld ?_
  simp only [Act.put, List.setIfInBounds_toArray, List.set_cons_zero, List.set_cons_succ]
  refine wpAnyH_take (i := 5) (oi := ⟨some 25, Op.slice 36 (Operand.tmp 23) (some (Operand.tmp 24)) none none, 36, _, _, none⟩) (v := .slice (some ad) mm cc) rfl (by kernel_rfl) (by kernel_rfl) (by kernel_rfl) (fun _ _ _ h => h) (yieldsIf_slr (by rfl) 36 (Operand.tmp 23) (some (Operand.tmp 24)) none rfl _ (some (.int .i64 ((i + 1 : Nat) : Int))) none _ rfl rfl rfl fun w => (slW_l _ _ _ (i + 1) (by have := Hi.out; omega) w).trans (by rw [Hsl.out])) hHeld ?_
  simp only [Act.put, List.setIfInBounds_toArray, List.set_cons_zero, List.set_cons_succ]
  refine wpAnyH_ready (rs := [6]) (by kernel_rfl) (by simp) ?_
  refine AllReadyH.cons (o := ⟨some 26, Op.call { callee := Callee.builtin Builtin.append, args := #[Operand.tmp 22, Operand.tmp 25], argTypes := #[36, 36] }, 36, _, _, none⟩) rfl (fun K hK => ?_) AllReadyH.nil
  rw [if_pos (by rfl)]
  obtain ⟨ti, hti, hzz⟩ := Option.map_eq_some_iff.1 infoBy
  simp only [Prod.mk.injEq] at hzz
  refine wp_append_own_spare w.drew (Operand.tmp 22) (Operand.tmp 25) 36 rfl 0 39 ti 1 Tryd.underlying36 hti hzz.2.1 g i cap (xs.take i) rfl (owns_take HO.out i (by have := Hi.out; omega)) ad mm cc (xs.drop (i + 1)) rfl (by rw [List.length_drop, Hmm.out, Hx.out]; omega) (fun j u hu => ?_) (fun u hu => H1.out u (List.mem_of_mem_drop hu)) (by have := Hc.out; have := Hi.out; have := Hmm.out; omega) fun w1 h1 h2 => ?_
  · have hpos : 0 < mm := by
      have := (List.getElem?_eq_some_iff.1 hu).1
      rw [List.length_drop] at this
      have := Hmm.out; have := Hx.out; omega
    rw [List.getElem?_drop] at hu
    have h := owns_cells HO.out (i + 1 + j) u hu
    rw [Had.out hpos, Nat.mul_one, Addr.add_mid]
    exact h
  have HW1 := Keep.mk h1
  have HG1 := Keep.mk h2
  clear hzz hti h1 h2
  refine hK _ _ trivial fun hH1 => ?_
  clear hK
  simp only [Act.put, List.setIfInBounds_toArray, List.set_cons_zero, List.set_cons_succ]
  refine wpAnyH_take (i := 7) (oi := ⟨some 0, Op.assign (Operand.tmp 26), 36, _, _, none⟩) (v := .slice (some ⟨g, 0, none⟩) (i + mm) cap) rfl (by kernel_rfl) (by kernel_rfl) (by kernel_rfl) (fun _ _ _ h => h) (Or.inl ⟨by rfl, fun w hS => by go_simp⟩) hH1 ?_
  simp only [Act.put, List.setIfInBounds_toArray, List.set_cons_zero, List.set_cons_succ]
  refine wpAnyH_done (by kernel_rfl) ?_ _
  refine hK6 _ _ ?_
  refine wp_seq_k fun K7 hK7 => ?_
  refine wp_region_list (WL.out ?_)
  refine WL.val (by kernel_rfl) (.slice (some ⟨g, 0, none⟩) (i + mm) cap) (by go_simp) ?_
  simp only [Act.put, List.setIfInBounds_toArray, List.set_cons_zero, List.set_cons_succ]
  refine WL.val (by kernel_rfl) (.slice (some ⟨g, 0, none⟩) (i + mm) cap) (by go_simp) ?_
  simp only [Act.put, List.setIfInBounds_toArray, List.set_cons_zero, List.set_cons_succ]
  refine WL.val (by kernel_rfl) (.int .i64 ((i + mm : Nat) : Int)) (by go_simp) ?_
  simp only [Act.put, List.setIfInBounds_toArray, List.set_cons_zero, List.set_cons_succ]
  refine WL.val (by kernel_rfl) (.int .i64 (n : Int)) (by go_simp) ?_
  simp only [Act.put, List.setIfInBounds_toArray, List.set_cons_zero, List.set_cons_succ]
  refine WL.slr (by kernel_rfl) 36 (.tmp 27) (some (.tmp 29)) (some (.tmp 30)) none rfl _ (some (.int .i64 ((i + mm : Nat) : Int))) (some (.int .i64 (n : Int))) none (.slice (some ⟨g, i + mm, none⟩) 1 (cap - (i + mm))) rfl rfl rfl rfl ((slW_lh _ _ _ (i + mm) n (by have := Hmm.out; have := Hi.out; omega) Hc.out _).trans (by have := Hmm.out; have := Hi.out; have := Hc.out; unfold sliced; rw [if_neg (by omega), show n - (i + mm) = 1 by omega]; simp [Addr.add]; omega)) ?_
  simp only [Act.put, List.setIfInBounds_toArray, List.set_cons_zero, List.set_cons_succ]
  obtain ⟨cur, hcur, hcs, hct⟩ : ∃ cur : Array Value, Blk w1 g 39 cur ∧ cur.size = cap ∧ cur.toList.take (i + mm) = xs.eraseIdx i := by
    rcases HW1.out.2 with ⟨h0, _⟩ | ⟨g', cap', cur, hv, h2, h3, h4, h5, h6, h7⟩
    · cases h0
    · injection hv with e1 e2 e3
      injection e1 with e1
      injection e1 with e1
      subst e1 e3
      exact ⟨cur, h3, by rw [h6, Nat.mul_one], by rw [List.eraseIdx_eq_take_drop_succ]; rw [Nat.mul_one] at h7; exact h7⟩
  refine WL.clr1 (by kernel_rfl) (.tmp 31) rfl g (i + mm) _ cur rfl hcur (by rw [hcs]; have := Hmm.out; have := Hi.out; have := Hc.out; omega) fun cur' k1 k2 => ?_
  have HF : Keep ((w1.setRow g cur').ownsRow 0 39 1 (.slice (some ⟨g, 0, none⟩) (i + mm) cap) (i + mm) (xs.eraseIdx i)) := ⟨by
    refine ⟨?_, .inr ⟨g, cap, cur', rfl, Nat.zero_le _, hcur.setRow cur', by have := Hmm.out; have := Hi.out; have := Hc.out; omega, Hcm.out, by rw [k1, hcs, Nat.mul_one], by rw [Nat.mul_one, k2, hct]⟩⟩
    rw [List.length_eraseIdx, Hx.out, if_pos Hi.out]; have := Hmm.out; have := Hi.out; omega⟩
  have HGr : Keep (Grown w (w1.setRow g cur') fun k => k = g) := ⟨((Grown.refl w _).drew.trans (Grown.of HG1.out fun k _ e => (Option.some.inj e).symm)).trans (Grown.setRow w1 g cur' fun _ => rfl)⟩
  clear hcur hcs hct k1 k2 HW1 HG1
  simp only [Act.put]
  refine WL.nil ?_
  refine hK7 _ _ ?_
  refine wp_seq_k fun K8 hK8 => ?_
  refine wp_region_list (WL.out ?_)
  refine WL.val (by kernel_rfl) (.slice (some ⟨g, 0, none⟩) (i + mm) cap) (by go_simp) ?_
  simp only [Act.put, List.setIfInBounds_toArray, List.set_cons_zero, List.set_cons_succ]
  refine WL.val (by kernel_rfl) (.slice (some ⟨g, 0, none⟩) (i + mm) cap) (by go_simp) ?_
  simp only [Act.put, List.setIfInBounds_toArray, List.set_cons_zero, List.set_cons_succ]
  refine WL.nil ?_
  refine hK8 _ _ ?_
  refine wp_ret ?_
  go_ret
  have hm : i + mm = n - 1 := by have := Hmm.out; have := Hi.out; omega
  have hF := HF.out
  rw [hm] at hF ⊢
  exact ⟨rfl, hF, HGr.out⟩

theorem eraseIdx_at {α : Type} (L : List α) (i s : Nat) (x : α) (h : (L.eraseIdx i)[s]? = some x) : (s < i ∧ L[s]? = some x) ∨ (i ≤ s ∧ L[s + 1]? = some x) := by
  rw [List.getElem?_eraseIdx] at h
  split at h
  · exact .inl ⟨by omega, h⟩
  · exact .inr ⟨by omega, h⟩
theorem map_eraseIdx {α β : Type} (fn : α → β) (L : List α) (i : Nat) : (L.eraseIdx i).map fn = (L.map fn).eraseIdx i := eraseIdx_mapX fn L i
theorem PmAt.lost {w w1 w2 : World} {p mb N i : Nat} {l : Int} {K : List Lk} {f t : Int} {v : Value} (h : PmAt w p mb N l K) (ht : thr N f t = true) (hi : i < (lkOf K f t).R.length)
    (hv : w1.ownsRow 0 39 1 v ((lkOf K f t).R.length - 1) (((lkOf K f t).R.map (·.1)).eraseIdx i)) (hm : v.ownBlock = (lkOf K f t).v.ownBlock) (hg : Grown w w1 fun k => (lkOf K f t).v.ownBlock = some k)
    (hl2 : LnAt w2 mb N (K.set (ix f t) ⟨v, (lkOf K f t).R.eraseIdx i⟩)) (hg2 : Grown w1 w2 fun k => k = mb) : PmN w p mb N K (K.set (ix f t) ⟨v, (lkOf K f t).R.eraseIdx i⟩) l w2 ∧ ∀ q ∈ (lkOf K f t).R, Own w2 q.1 q.2 := by
  obtain ⟨hK, ha⟩ := h.link ht
  have hlen : ((lkOf K f t).R.eraseIdx i).length = (lkOf K f t).R.length - 1 := by rw [List.length_eraseIdx, if_pos hi]
  have hv2 : w2.ownsRow 0 39 1 v ((lkOf K f t).R.length - 1) (((lkOf K f t).R.map (·.1)).eraseIdx i) := owns_grown hv hg2 fun k hk e => by
    rw [hm] at hk
    exact h.mp.ne (owns_typ ha.own hk) e
  have own2 : ∀ q ∈ (lkOf K f t).R, Own w2 q.1 q.2 := fun q hq => by
    have h1 : Own w1 q.1 q.2 := owns_grown (ha.rows q hq).1 hg fun k hk e => absurd ((owns_typ (ha.rows q hq).1 hk).one (owns_typ ha.own e)) (by decide)
    exact owns_grown h1 hg2 fun k hk e => h.mp.ne (owns_typ (ha.rows q hq).1 hk) e
  refine ⟨h.set ht ?_ hl2 ⟨?_, fun q hq => ?_, ?_⟩ (fun m e => .inl (hm ▸ e)) (fun q hq m e => .inl ⟨q, List.mem_of_mem_eraseIdx hq, e⟩) fun s z q r m hs hz hqm hrm => ?_, own2⟩
  · exact (hg.mono (T := fun k => k = mb ∨ LkS (lkOf K f t) k) fun k _ e => .inr (.inl e)).trans (hg2.mono fun k _ e => .inl e)
  · rw [hlen]
    simp only [map_eraseIdx]
    exact hv2
  · have hq := List.mem_of_mem_eraseIdx hq
    exact ⟨own2 q hq, (ha.rows q hq).2⟩
  · have := ha.few; simp only [hlen]; omega
  · rcases eraseIdx_at _ _ _ _ hs with ⟨h1, h2⟩ | ⟨h1, h2⟩ <;> rcases eraseIdx_at _ _ _ _ hz with ⟨h3, h4⟩ | ⟨h3, h4⟩
    all_goals have := (h.nr _ _ _ _ _ _ q r m hK hK h2 h4 hqm hrm).2; omega
theorem PmAt.gone {w : World} {p mb N i : Nat} {l : Int} {K : List Lk} {f t : Int} {v : Value} {q : Value × List Int} (h : PmAt w p mb N l K) (ht : thr N f t = true) (hi : (lkOf K f t).R[i]? = some q) (hm : v.ownBlock = (lkOf K f t).v.ownBlock) (k : Nat) (hk : q.1.ownBlock = some k) :
    PmS p mb K k ∧ ¬ PmS p mb (K.set (ix f t) ⟨v, (lkOf K f t).R.eraseIdx i⟩) k := by
  obtain ⟨hK, ha⟩ := h.link ht
  have hT := owns_typ (ha.rows q (List.mem_of_getElem? hi)).1 hk
  refine ⟨.inr (.inr ⟨_, List.mem_of_getElem? hK, .inr ⟨q, List.mem_of_getElem? hi, hk⟩⟩), ?_⟩
  rintro (e | e | ⟨c, hc, e⟩)
  · subst e; exact absurd (hT.one h.bx.typ) (by decide)
  · exact h.mp.ne hT e
  · obtain ⟨j, hj, rfl⟩ := List.getElem_of_mem hc
    have hj' := hj
    rw [List.length_set] at hj'
    by_cases e2 : j = ix f t
    · subst e2
      rw [List.getElem_set_self] at e
      rcases e with e | ⟨r, hr, e⟩
      · rw [show v.ownBlock = some k from e] at hm
        exact absurd (hT.one (owns_typ ha.own hm.symm)) (by decide)
      · obtain ⟨s, hs, rfl⟩ := List.getElem_of_mem hr
        rcases eraseIdx_at _ _ _ _ (List.getElem?_eq_getElem hs) with ⟨h1, h2⟩ | ⟨h1, h2⟩
        · have := (h.nr _ _ _ _ _ _ _ _ k hK hK h2 hi e hk).2; omega
        · have := (h.nr _ _ _ _ _ _ _ _ k hK hK h2 hi e hk).2; omega
    · rw [List.getElem_set_ne (fun h => e2 h.symm)] at e
      have hc2 := h.lk _ (List.getElem_mem hj')
      rcases e with e | ⟨r, hr, e⟩
      · exact absurd (hT.one (owns_typ hc2.own e)) (by decide)
      · obtain ⟨s, hs, rfl⟩ := List.getElem_of_mem hr
        exact e2 (h.nr _ _ _ _ _ _ _ _ k (List.getElem?_eq_getElem hj') hK (List.getElem?_eq_getElem hs) hi e hk).1
theorem wp_lk {Q : Exit → Act → World → Prop} {o : Oper} {a : Act} {w : World} {K : Act → World → Prop} (x y : Operand) (c : Bool) (ho : o.op = .lookup 56 x y c) (vx vy v : Value) (hx : a.eval x = vx) (hy : a.eval y = vy)
    (hr : (Instr.lookup 56 vx vy c).run Tryd.prog w = .ok v w) (h : K (a.put o.dst v) w) : o.wp Tryd.prog a w K Q :=
  wp_val v (by unfold execOp; simp only [ho, hx, hy, Sem.run_bind, hr, Result.andThen_ok, Sem.run_pure]) h
theorem LkAt.caps {w : World} {k : Lk} (h : LkAt w k) (h0 : 0 < k.R.length) : ∃ gl cap, k.v = .slice (some ⟨gl, 0, none⟩) k.R.length cap ∧ k.R.length ≤ cap ∧ cap ≤ maxLen := by
  obtain ⟨hl, hh⟩ := h.own
  rcases hh with ⟨hv, hn⟩ | ⟨g, cap, cur, hv, h2, h3, h4, h5, h6, h7⟩
  · rw [List.length_map] at hl
    simp only [Nat.mul_one] at hl
    rw [hn] at h0
    exact absurd h0 (by simp)
  · exact ⟨g, cap, hv, h4, h5⟩
set_option maxRecDepth 8000 in
theorem ls_ok (w : World) (p mb N n cap i g : Nat) (l : Int) (Ks : List Lk) (f t : Int) (HM : Keep (PmAt w p mb N l Ks)) (hth : thr N f t = true) (Hv : Keep ((lkOf Ks f t).v = .slice (some ⟨g, 0, none⟩) n cap)) (Hn : Keep ((lkOf Ks f t).R.length = n)) (Hi : Keep (i < n)) (Hc : Keep (n ≤ cap)) (Hcm : Keep (cap ≤ maxLen)) : Calls Tryd.prog 40 #[.pointer (some ⟨p, 0, none⟩), .agg #[.int .i64 f, .int .i64 t], .int .i64 (i : Int)] w fun e w' => e = .returned (.tuple #[]) ∧ PmN w p mb N Ks (Ks.set (ix f t) ⟨.slice (some ⟨g, 0, none⟩) (n - 1) cap, (lkOf Ks f t).R.eraseIdx i⟩) l w' ∧ ∀ q ∈ (lkOf Ks f t).R, Own w' q.1 q.2 := by
  have hi8 : IntKind.i64.wrap ((i : Int) + 1) = ((i + 1 : Nat) : Int) := by rw [IntKind.wrap_i64]; have := Hi.out; have := (HM.out.link hth).2.few; have := Hn.out; omega
  go_enter Tryd.func40, Tryd.ntmps40
  refine wp_seq_k fun K1 hK1 => ?_
  refine wp_region_list (WL.out ?_)
  refine WL.box (by kernel_rfl) 58 (.tmp 1) rfl #[.int .i64 f, .int .i64 t] rfl ?_
  have b1 := below_new w (.cells #[.int .i64 f, .int .i64 t] 58)
  have Q1 := Keep.mk (Blk.new w 58 #[.int .i64 f, .int .i64 t])
  generalize w.alloc (.cells #[.int .i64 f, .int .i64 t] 58) = w1 at *
  obtain ⟨q0, hq0⟩ : ∃ z, Keep (z = w.heap.size) := ⟨_, ⟨rfl⟩⟩
  rw [← hq0.out] at Q1 ⊢
  have N1 : Keep (PmN w p mb N Ks Ks l w1) := ⟨PmN.below HM.out b1⟩
  clear b1
  simp only [Act.put, List.setIfInBounds_toArray, List.set_cons_zero, List.set_cons_succ]
  refine WL.nil ?_
  refine hK1 _ _ ?_
  refine wp_region_held_drew (S := fun wx => Grown w1.drew wx (fun k => k = mb ∨ LkS (lkOf Ks f t) k)) (by kernel_rfl) (Grown.refl _ _) (fun hHeld => ?_)
  have bd := (Below.refl w1.heap.size w1).drew
  have N2 : Keep (PmN w p mb N Ks Ks l w1.drew) := ⟨N1.out.trans (PmN.below N1.out.at_ bd)⟩
  have Q2 : Keep (Blk w1.drew q0 58 #[.int .i64 f, .int .i64 t]) := ⟨Q1.out.drew⟩
  clear N1 Q1 bd
  generalize w1.drew = w2 at *
  have HC : Keep (∀ wx, Grown w2 wx (fun k => k = mb ∨ LkS (lkOf Ks f t) k) → wx.cell? ⟨p, 2, none⟩ = some (.map (some mb))) := ⟨fun wx hg => (hg.blk N2.out.at_.bx (lkN N2.out.at_ hth N2.out.at_.bx.typ (by decide) (by decide))).c 2 rfl⟩
  have HQ : Keep (∀ wx, Grown w2 wx (fun k => k = mb ∨ LkS (lkOf Ks f t) k) → Blk wx q0 58 #[.int .i64 f, .int .i64 t]) := ⟨fun wx hg => hg.blk Q2.out (lkN N2.out.at_ hth Q2.out.typ (by decide) (by decide))⟩
  refine wpAnyH_take (i := 0) (oi := ⟨some 6, Op.move (Operand.tmp 0), 26, _, _, none⟩) (v := .pointer (some ⟨p, 0, none⟩)) rfl (by kernel_rfl) (by kernel_rfl) (by kernel_rfl) (fun _ _ _ h => h) (Or.inl ⟨by rfl, fun w hS => by have c2_ := HC.out w hS; go_simp⟩) hHeld ?_
  simp only [Act.put, List.setIfInBounds_toArray, List.set_cons_zero, List.set_cons_succ]
  refine wpAnyH_take (i := 4) (oi := ⟨some 10, Op.load 58 (Operand.tmp 4), 58, _, _, none⟩) (v := .agg #[.int .i64 f, .int .i64 t]) rfl (by kernel_rfl) (by kernel_rfl) (by kernel_rfl) (fun _ _ _ h => h) (yieldsIf_ld (by rfl) (Operand.tmp 4) 58 rfl q0 0 rfl #[.int .i64 f, .int .i64 t] _ Tryd.underlying58 rfl (sizePr _ _) fun w hS => blk_range (HQ.out w hS)) hHeld ?_
  simp only [Act.put, List.setIfInBounds_toArray, List.set_cons_zero, List.set_cons_succ]
  refine wpAnyH_take (i := 5) (oi := ⟨some 11, Op.move (Operand.tmp 0), 26, _, _, none⟩) (v := .pointer (some ⟨p, 0, none⟩)) rfl (by kernel_rfl) (by kernel_rfl) (by kernel_rfl) (fun _ _ _ h => h) (Or.inl ⟨by rfl, fun w hS => by have c2_ := HC.out w hS; go_simp⟩) hHeld ?_
  simp only [Act.put, List.setIfInBounds_toArray, List.set_cons_zero, List.set_cons_succ]
  refine wpAnyH_take (i := 9) (oi := ⟨some 15, Op.load 58 (Operand.tmp 4), 58, _, _, none⟩) (v := .agg #[.int .i64 f, .int .i64 t]) rfl (by kernel_rfl) (by kernel_rfl) (by kernel_rfl) (fun _ _ _ h => h) (yieldsIf_ld (by rfl) (Operand.tmp 4) 58 rfl q0 0 rfl #[.int .i64 f, .int .i64 t] _ Tryd.underlying58 rfl (sizePr _ _) fun w hS => blk_range (HQ.out w hS)) hHeld ?_
  simp only [Act.put, List.setIfInBounds_toArray, List.set_cons_zero, List.set_cons_succ]
  refine wpAnyH_take (i := 11) (oi := ⟨some 17, Op.move (Operand.tmp 2), 3, _, _, none⟩) (v := .int .i64 (i : Int)) rfl (by kernel_rfl) (by kernel_rfl) (by kernel_rfl) (fun _ _ _ h => h) (Or.inl ⟨by rfl, fun w hS => by have c2_ := HC.out w hS; go_simp⟩) hHeld ?_
  simp only [Act.put, List.setIfInBounds_toArray, List.set_cons_zero, List.set_cons_succ]
  refine wpAnyH_take (i := 12) (oi := ⟨some 18, Op.move (Operand.tmp 2), 3, _, _, none⟩) (v := .int .i64 (i : Int)) rfl (by kernel_rfl) (by kernel_rfl) (by kernel_rfl) (fun _ _ _ h => h) (Or.inl ⟨by rfl, fun w hS => by have c2_ := HC.out w hS; go_simp⟩) hHeld ?_
  simp only [Act.put, List.setIfInBounds_toArray, List.set_cons_zero, List.set_cons_succ]
  refine wpAnyH_take (i := 1) (oi := ⟨some 7, Op.nilCheck (Operand.tmp 6), 0, _, _, none⟩) (v := .pointer (some ⟨p, 0, none⟩)) rfl (by kernel_rfl) (by kernel_rfl) (by kernel_rfl) (fun _ _ _ h => h) (Or.inl ⟨by rfl, fun w hS => by have c2_ := HC.out w hS; go_simp⟩) hHeld ?_
  simp only [Act.put, List.setIfInBounds_toArray, List.set_cons_zero, List.set_cons_succ]
  refine wpAnyH_take (i := 6) (oi := ⟨some 12, Op.nilCheck (Operand.tmp 11), 0, _, _, none⟩) (v := .pointer (some ⟨p, 0, none⟩)) rfl (by kernel_rfl) (by kernel_rfl) (by kernel_rfl) (fun _ _ _ h => h) (Or.inl ⟨by rfl, fun w hS => by have c2_ := HC.out w hS; go_simp⟩) hHeld ?_
  simp only [Act.put, List.setIfInBounds_toArray, List.set_cons_zero, List.set_cons_succ]
  refine wpAnyH_take (i := 13) (oi := ⟨some 19, Op.binOp BinOp.add 3 (Operand.tmp 18) (Operand.const (Value.int IntKind.i64 1)) 3, 3, _, _, none⟩) (v := .int .i64 ((i + 1 : Nat) : Int)) rfl (by kernel_rfl) (by kernel_rfl) (by kernel_rfl) (fun _ _ _ h => h) (Or.inl ⟨by rfl, fun w hS => by have c2_ := HC.out w hS; go_simp⟩) hHeld ?_
  simp only [Act.put, List.setIfInBounds_toArray, List.set_cons_zero, List.set_cons_succ]
  refine wpAnyH_take (i := 2) (oi := ⟨some 8, Op.fieldAddr 67 (Operand.tmp 7) 1, 0, _, _, none⟩) (v := .pointer (some ⟨p, 2, none⟩)) rfl (by kernel_rfl) (by kernel_rfl) (by kernel_rfl) (fun _ _ _ h => h) (Or.inl ⟨by rfl, fun w hS => by have c2_ := HC.out w hS; go_simp⟩) hHeld ?_
  simp only [Act.put, List.setIfInBounds_toArray, List.set_cons_zero, List.set_cons_succ]
  refine wpAnyH_take (i := 7) (oi := ⟨some 13, Op.fieldAddr 67 (Operand.tmp 12) 1, 0, _, _, none⟩) (v := .pointer (some ⟨p, 2, none⟩)) rfl (by kernel_rfl) (by kernel_rfl) (by kernel_rfl) (fun _ _ _ h => h) (Or.inl ⟨by rfl, fun w hS => by have c2_ := HC.out w hS; go_simp⟩) hHeld ?_
  simp only [Act.put, List.setIfInBounds_toArray, List.set_cons_zero, List.set_cons_succ]
  refine wpAnyH_take (i := 3) (oi := ⟨some 9, Op.load 56 (Operand.tmp 8), 56, _, _, none⟩) (v := .map (some mb)) rfl (by kernel_rfl) (by kernel_rfl) (by kernel_rfl) (fun _ _ _ h => h) (Or.inl ⟨by rfl, fun w hS => by have c2_ := HC.out w hS; go_simp⟩) hHeld ?_
  simp only [Act.put, List.setIfInBounds_toArray, List.set_cons_zero, List.set_cons_succ]
  refine wpAnyH_take (i := 8) (oi := ⟨some 14, Op.load 56 (Operand.tmp 13), 56, _, _, none⟩) (v := .map (some mb)) rfl (by kernel_rfl) (by kernel_rfl) (by kernel_rfl) (fun _ _ _ h => h) (Or.inl ⟨by rfl, fun w hS => by have c2_ := HC.out w hS; go_simp⟩) hHeld ?_
  simp only [Act.put, List.setIfInBounds_toArray, List.set_cons_zero, List.set_cons_succ]
  refine wpAnyH_ready (rs := [10]) (by kernel_rfl) (by simp) ?_
  refine AllReadyH.cons (o := ⟨some 16, Op.lookup 56 (Operand.tmp 14) (Operand.tmp 15) false, 36, _, _, none⟩) rfl (fun K hK => ?_) AllReadyH.nil
  rw [if_pos (by rfl)]
  refine wp_lk (.tmp 14) (.tmp 15) false rfl (.map (some mb)) (kV (f, t)) (.slice (some ⟨g, 0, none⟩) n cap) rfl rfl ((N2.out.at_.mp.look f t).trans (by rw [hth, if_pos rfl, Hv.out])) ?_
  refine hK _ _ (Grown.refl _ _) fun hHl => ?_
  clear hK
  simp only [Act.put, List.setIfInBounds_toArray, List.set_cons_zero, List.set_cons_succ]
  refine wpAnyH_ready (rs := [14]) (by kernel_rfl) (by simp) ?_
  refine AllReadyH.cons (o := ⟨some 20, Op.call { callee := Callee.value (Operand.func 52), args := #[Operand.tmp 16, Operand.tmp 17, Operand.tmp 19], argTypes := #[36, 3, 3] }, 36, _, _, none⟩) rfl (fun K hK => ?_) AllReadyH.nil
  rw [if_pos (by rfl)]
  refine wp_callF 52 _ _ rfl Tryd.in52 #[.slice (some ⟨g, 0, none⟩) n cap, .int .i64 (i : Int), .int .i64 ((i + 1 : Nat) : Int)] (by simp [Act.eval]) (fun vz wz => vz = .slice (some ⟨g, 0, none⟩) (n - 1) cap ∧ wz.ownsRow 0 39 1 (.slice (some ⟨g, 0, none⟩) (n - 1) cap) (n - 1) (((lkOf Ks f t).R.map (·.1)).eraseIdx i) ∧ Grown w2 wz fun k => k = g) ?_ ?_
  · refine (del_one g n cap i _ w2 ⟨by have h := (N2.out.at_.link hth).2.own; rw [Hv.out, Hn.out] at h; exact h⟩ ⟨by rw [List.length_map]; exact Hn.out⟩ ⟨(N2.out.at_.link hth).2.one⟩ ⟨Hi.out⟩ ⟨Hc.out⟩ ⟨Hcm.out⟩ ⟨by have := (N2.out.at_.link hth).2.few; have := Hn.out; omega⟩).mono ?_
    rintro e wz ⟨rfl, k1, k2⟩
    exact ⟨_, rfl, rfl, k1, k2⟩
  rintro vz wa ⟨rfl, k1, k2⟩
  have K1 := Keep.mk k1
  have K2 := Keep.mk k2
  have hga : Grown w2 wa (fun k => k = mb ∨ LkS (lkOf Ks f t) k) := k2.mono fun k _ e => .inr (.inl (by rw [Hv.out, e]; rfl))
  have Hga := Keep.mk hga
  clear k1 k2
  refine hK _ _ (hga) fun hHa => ?_
  clear hK
  simp only [Act.put, List.setIfInBounds_toArray, List.set_cons_zero, List.set_cons_succ]
  refine wpAnyH_ready (rs := [15]) (by kernel_rfl) (by simp) ?_
  refine AllReadyH.cons (o := ⟨none, Op.mapUpdate 56 (Operand.tmp 9) (Operand.tmp 10) (Operand.tmp 20), 0, _, _, none⟩) rfl (fun K hK => ?_) AllReadyH.nil
  rw [if_pos (by rfl)]
  have hLa : LnAt wa mb N Ks := N2.out.at_.mp.grown K2.out fun e => N2.out.at_.mp.ne (owns_typ (N2.out.at_.link hth).2.own (by rw [Hv.out]; rfl)) e.symm
  obtain ⟨wd, hr, hm, hgd⟩ := hLa.upd N2.out.at_.nb.2 N2.out.at_.len hth ⟨.slice (some ⟨g, 0, none⟩) (n - 1) cap, (lkOf Ks f t).R.eraseIdx i⟩
  refine wp_upd (.tmp 9) (.tmp 10) (.tmp 20) rfl (.map (some mb)) (kV (f, t)) (.slice (some ⟨g, 0, none⟩) (n - 1) cap) rfl rfl rfl wd hr ?_
  have N9 := Keep.mk (N2.out.at_.lost hth (by rw [Hn.out]; exact Hi.out) (by rw [Hn.out]; exact K1.out) (by rw [Hv.out]; rfl) (K2.out.mono fun k _ e => by rw [Hv.out, e]; rfl) hm hgd)
  refine hK _ _ (Hga.out.trans (hgd.mono fun k _ e => .inl e)) fun hHe => ?_
  clear hK hr hm hgd hLa
  simp only [Act.put, List.setIfInBounds_toArray, List.set_cons_zero, List.set_cons_succ]
  refine wpAnyH_done (by kernel_rfl) ?_ _
  try simp only [Exit.inBlock, Exit.then]
  refine bodyPost_end (results_none rfl _ _ _) rfl ?_
  exact ⟨rfl, N2.out.trans N9.out.1, N9.out.2⟩

end Go.Proofs.YteecdcocgflklaaDoor
