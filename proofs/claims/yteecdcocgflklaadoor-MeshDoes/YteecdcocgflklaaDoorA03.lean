import Derived.Test.YteecdcocgflklaaDoorA02
namespace Go.Proofs.YteecdcocgflklaaDoor
open Go.RowKit
set_option linter.unusedSimpArgs false
set_option linter.unusedVariables false
theorem Tryd.in44 (w : World) (vs : Array Value) : (callFunc 44 vs).run Tryd.prog w = .ok (.enter 44 vs) w := by kernel_rfl
theorem Tryd.in26 (w : World) (vs : Array Value) : (callFunc 26 vs).run Tryd.prog w = .ok (.enter 26 vs) w := by kernel_rfl
theorem bsRw0 (w : World) : (Instr.buildSlice 36 0 #[]).run Tryd.prog w = .ok (.slice (some ⟨w.heap.size, 0, none⟩) 0 0) (w.alloc (.cells #[] 39)) := by kernel_rfl
theorem run_appM (w : World) (ty : TypeId) (B : Nat) (v : Value) (n : Nat) (xs ys : List Value) (gl o_ m c : Nat) (hown : w.ownsRow B 39 1 v n xs) (hm : ys.length = m) (hy : ∀ (j : Nat) (u : Value), ys[j]? = some u → w.cell? ⟨gl, o_ + j, none⟩ = some u) (h1 : ∀ u ∈ ys, u.oneCell' = true) (hb : n + m ≤ 4398046511104) (hB : B ≤ w.heap.size) :
    ∃ v' w', (Builtin.append_ #[36, 36] ty #[v, .slice (some ⟨gl, o_, none⟩) m c]).run Tryd.prog w = .ok v' w' ∧ w'.ownsRow B 39 1 v' (n + m) (xs ++ ys) ∧ (Grown w w' fun k => v.ownBlock = some k) ∧ (v'.ownBlock = v.ownBlock ∨ v'.ownBlock = some w.heap.size) := by
  obtain ⟨i, hi, hzz⟩ := Option.map_eq_some_iff.1 infoBy
  simp only [Prod.mk.injEq] at hzz
  obtain ⟨hz, hsz, hby⟩ := hzz
  obtain ⟨v', w', hr', h1', h2, _, h3⟩ := run_append_own_at (P := Tryd.prog) w B 36 ty 39 i (.slice none 0 0) 1 24 Tryd.underlying36 hi hz hsz hby rfl (by omega) v n xs hown ⟨gl, o_, none⟩ m c ys (by omega) (fun j u hu => by
    rw [Addr.add_mid]; exact hy j u hu) h1 (by unfold maxLen; omega) (by omega) hB
  exact ⟨v', w', hr', h1', Grown.of h2 fun k _ e => e, h3⟩
theorem WL.appM {ops : Array Oper} {rest : List Oper} {o : Oper} {a : Act} {w : World} {Q : Exit → Act → World → Prop} (hw : Region.wanted o (yielded ops a.tmps) = true) (s x : Operand)
    (ho : o.op = .call { callee := .builtin .append, args := #[s, x], argTypes := #[36, 36] }) (B : Nat) (v : Value) (n : Nat) (xs ys : List Value) (gl o_ m c : Nat)
    (hs : a.eval s = v) (hx : a.eval x = .slice (some ⟨gl, o_, none⟩) m c) (hown : w.ownsRow B 39 1 v n xs) (hm : ys.length = m) (hy : ∀ (j : Nat) (u : Value), ys[j]? = some u → w.cell? ⟨gl, o_ + j, none⟩ = some u) (h1 : ∀ u ∈ ys, u.oneCell' = true) (hb : n + m ≤ 4398046511104) (hB : B ≤ w.heap.size)
    (h : ∀ v' w', w'.ownsRow B 39 1 v' (n + m) (xs ++ ys) → (Grown w w' fun k => v.ownBlock = some k) → (v'.ownBlock = v.ownBlock ∨ v'.ownBlock = some w.heap.size) → WL Tryd.prog ops Q rest (a.put o.dst v') w') : WL Tryd.prog ops Q (o :: rest) a w :=
  ⟨wpList_wanted hw fun K hK => by
    obtain ⟨v', w', hr, h2, h3, h4⟩ := run_appM w o.type B v n xs ys gl o_ m c hown hm hy h1 hb hB
    unfold Oper.wp execOp
    simp only [ho, resolve, invoke, builtin, Sem.run_bind, Sem.run_pure, Result.andThen_ok, List.map_toArray, List.map_cons, List.map_nil, hs, hx, hr]
    exact hK _ _ (h v' w' h2 h3 h4).out⟩
theorem LkAt.cells {w : World} {k : Lk} (h : LkAt w k) (h0 : 0 < k.R.length) : ∃ gl cap, k.v = .slice (some ⟨gl, 0, none⟩) k.R.length cap ∧ k.R.length ≤ cap ∧ (∀ (j : Nat) (p : Value × List Int), k.R[j]? = some p → w.cell? ⟨gl, j, none⟩ = some p.1) ∧ gl < w.heap.size ∧ ∃ cur, Blk w gl 39 cur := by
  rcases h.own.2 with ⟨_, e⟩ | ⟨g, cap, cur, e, _, h3, h4, h5, h6, h7⟩
  · omega
  · refine ⟨g, cap, e, h4, fun j p hp => ?_, (show Blk w g 39 cur from h3).lt, cur, h3⟩
    have hj := (List.getElem?_eq_some_iff.mp hp).1
    have e2 : (cur.toList.take (k.R.length * 1))[j]? = some p.1 := by rw [h7]; simp [hp]
    rw [List.getElem?_take, if_pos (by omega), Array.getElem?_toList] at e2
    exact (show Blk w g 39 cur from h3).c j e2
theorem LkAt.one {w : World} {k : Lk} (h : LkAt w k) : ∀ u ∈ k.R.map (·.1), u.oneCell' = true := fun u hu => by
  obtain ⟨p, hp, rfl⟩ := List.mem_map.1 hu
  obtain ⟨a, n, c, e⟩ := (h.rows p hp).1.sl
  rw [e]; rfl
theorem RmAt.renew {w w2 : World} {x g N i : Nat} {K : List Lk} {a : Lk} {v : Value} {R : List (Value × List Int)} (h : RmAt w x g N K) (hi : K[i]? = some a) (hb : Below w.heap.size w w2) (hv : w2.ownsRow 0 39 1 v R.length (R.map (·.1))) (hf : ∀ k, v.ownBlock = some k → w.heap.size ≤ k) (hR : ∀ p ∈ R, p ∈ a.R) (hn : R.length ≤ 1024) :
    RmN w x g N K (K.set i ⟨v, R⟩) (w2.setCell ⟨g, i, none⟩ v) := by
  have ham := List.mem_of_getElem? hi
  have h1 : RmAt w2 x g N K := h.below hb
  have ha1 := h1.lk a ham
  have gs : Grown w2 (w2.setCell ⟨g, i, none⟩ v) (fun k => k = g) := Grown.setCell w2 g i v fun _ => rfl
  refine h.next hi ((Grown.below hb).trans (gs.mono fun _ _ e => .inl e)) (RmAt.bgset (x := x) (N := N) h1.bg rfl) ⟨?_, fun p hp => ?_, hn⟩ (fun m e => .inr (hf m e)) fun p hp m e => .inl ⟨p, hR p hp, e⟩
  · exact owns_grown hv gs fun k hk e => by
      subst e
      exact absurd ((owns_typ hv hk).one h1.bg.typ) (by decide)
  · have hp' := ha1.rows p (hR p hp)
    exact ⟨owns_grown hp'.1 gs fun k hk e => by
      subst e
      exact absurd ((owns_typ hp'.1 hk).one h1.bg.typ) (by decide), hp'.2⟩
set_option maxRecDepth 8000 in
theorem tk_no (w : World) (x g N : Nat) (Ks : List Lk) (f t : Int) (HM : Keep (RmAt w x g N Ks)) (hth : thr N f t = false) : Calls Tryd.prog 44 #[.pointer (some ⟨x, 0, none⟩), .int .i64 f, .int .i64 t] w fun e w' => e = .returned (.tuple #[.slice none 0 0, .int .i64 1]) ∧ w' = w := by
  go_enter Tryd.func44, Tryd.ntmps44
  refine wp_seq_k fun K1 hK1 => ?_
  refine wp_region_list (WL.out ?_)
  refine WL.val (by kernel_rfl) (.slice none 0 0) (by go_simp) ?_
  simp only [Act.put, List.setIfInBounds_toArray, List.set_cons_zero, List.set_cons_succ]
  refine WL.val (by kernel_rfl) (.int .i64 0) (by go_simp) ?_
  simp only [Act.put, List.setIfInBounds_toArray, List.set_cons_zero, List.set_cons_succ]
  refine WL.nil ?_
  refine hK1 _ _ ?_
  refine wp_seq_k fun K2 hK2 => ?_
  refine wp_region_list (WL.out ?_)
  refine WL.val (by kernel_rfl) (.pointer (some ⟨x, 0, none⟩)) (by go_simp) ?_
  simp only [Act.put, List.setIfInBounds_toArray, List.set_cons_zero, List.set_cons_succ]
  refine WL.val (by kernel_rfl) (.int .i64 f) (by go_simp) ?_
  simp only [Act.put, List.setIfInBounds_toArray, List.set_cons_zero, List.set_cons_succ]
  refine WL.val (by kernel_rfl) (.int .i64 t) (by go_simp) ?_
  simp only [Act.put, List.setIfInBounds_toArray, List.set_cons_zero, List.set_cons_succ]
  refine WL.callF (by kernel_rfl) 48 _ _ rfl Tryd.in48 #[.pointer (some ⟨x, 0, none⟩), .int .i64 f, .int .i64 t] (by simp [Act.eval]) ?_
  refine (there_any w x g N Ks f t HM.out).mono ?_
  rintro e w1_ ⟨rfl, hw_⟩
  refine ⟨_, rfl, ?_⟩
  have hw_ := hw_.symm
  subst hw_
  rw [hth]
  simp only [Act.put, List.setIfInBounds_toArray, List.set_cons_zero, List.set_cons_succ]
  refine WL.val (by kernel_rfl) (.bool false) (by go_simp) ?_
  simp only [Act.put, List.setIfInBounds_toArray, List.set_cons_zero, List.set_cons_succ]
  refine WL.nil ?_
  refine hK2 _ _ ?_
  refine wp_seq_k fun K3 hK3 => ?_
  refine wp_seq_k fun K4 hK4 => ?_
  refine wp_region_list (WL.out ?_)
  refine WL.val (by kernel_rfl) (.bool false) (by go_simp) ?_
  simp only [Act.put, List.setIfInBounds_toArray, List.set_cons_zero, List.set_cons_succ]
  refine WL.val (by kernel_rfl) (.bool true) (by go_simp) ?_
  simp only [Act.put, List.setIfInBounds_toArray, List.set_cons_zero, List.set_cons_succ]
  refine WL.nil ?_
  refine hK4 _ _ ?_
  refine wp_cond_true rfl ?_
  refine wp_seq_k fun K5 hK5 => ?_
  refine wp_region_list (WL.out ?_)
  refine WL.val (by kernel_rfl) (.slice none 0 0) (by go_simp) ?_
  simp only [Act.put, List.setIfInBounds_toArray, List.set_cons_zero, List.set_cons_succ]
  refine WL.val (by kernel_rfl) (.int .i64 1) (by go_simp) ?_
  simp only [Act.put, List.setIfInBounds_toArray, List.set_cons_zero, List.set_cons_succ]
  refine WL.nil ?_
  refine hK5 _ _ ?_
  refine wp_ret ?_
  try simp only [Exit.inBlock, Exit.then]
  exact bodyPost_ret (results_tmp2 (fn := Tryd.f44) rfl _ _ _) rfl ⟨rfl, rfl⟩
set_option maxRecDepth 8000 in
theorem tk_idle (w : World) (x g N : Nat) (Ks : List Lk) (f t : Int) (HM : Keep (RmAt w x g N Ks)) (i_ cap : Nat) (la : Option Addr) (HI : Keep ((1 ≤ f ∧ f ≤ 8 ∧ 1 ≤ t ∧ t ≤ 8) ∧ (i_ : Int) = 9 * f + t ∧ i_ < 81)) (c_ : w.cell? ⟨g, i_, none⟩ = some (.slice la 0 cap)) (hth : thr N f t = true) : Calls Tryd.prog 44 #[.pointer (some ⟨x, 0, none⟩), .int .i64 f, .int .i64 t] w fun e w' => e = .returned (.tuple #[.slice none 0 0, .int .i64 (-1)]) ∧ w' = w := by
  go_enter Tryd.func44, Tryd.ntmps44
  refine wp_seq_k fun K1 hK1 => ?_
  refine wp_region_list (WL.out ?_)
  refine WL.val (by kernel_rfl) (.slice none 0 0) (by go_simp) ?_
  simp only [Act.put, List.setIfInBounds_toArray, List.set_cons_zero, List.set_cons_succ]
  refine WL.val (by kernel_rfl) (.int .i64 0) (by go_simp) ?_
  simp only [Act.put, List.setIfInBounds_toArray, List.set_cons_zero, List.set_cons_succ]
  refine WL.nil ?_
  refine hK1 _ _ ?_
  refine wp_seq_k fun K2 hK2 => ?_
  refine wp_region_list (WL.out ?_)
  refine WL.val (by kernel_rfl) (.pointer (some ⟨x, 0, none⟩)) (by go_simp) ?_
  simp only [Act.put, List.setIfInBounds_toArray, List.set_cons_zero, List.set_cons_succ]
  refine WL.val (by kernel_rfl) (.int .i64 f) (by go_simp) ?_
  simp only [Act.put, List.setIfInBounds_toArray, List.set_cons_zero, List.set_cons_succ]
  refine WL.val (by kernel_rfl) (.int .i64 t) (by go_simp) ?_
  simp only [Act.put, List.setIfInBounds_toArray, List.set_cons_zero, List.set_cons_succ]
  refine WL.callF (by kernel_rfl) 48 _ _ rfl Tryd.in48 #[.pointer (some ⟨x, 0, none⟩), .int .i64 f, .int .i64 t] (by simp [Act.eval]) ?_
  refine (there_any w x g N Ks f t HM.out).mono ?_
  rintro e w1_ ⟨rfl, hw_⟩
  refine ⟨_, rfl, ?_⟩
  have hw_ := hw_.symm
  subst hw_
  rw [hth]
  simp only [Act.put, List.setIfInBounds_toArray, List.set_cons_zero, List.set_cons_succ]
  refine WL.val (by kernel_rfl) (.bool true) (by go_simp) ?_
  simp only [Act.put, List.setIfInBounds_toArray, List.set_cons_zero, List.set_cons_succ]
  refine WL.nil ?_
  refine hK2 _ _ ?_
  refine wp_seq_k fun K3 hK3 => ?_
  refine wp_seq_k fun K4 hK4 => ?_
  refine wp_region_list (WL.out ?_)
  refine WL.val (by kernel_rfl) (.bool true) (by go_simp) ?_
  simp only [Act.put, List.setIfInBounds_toArray, List.set_cons_zero, List.set_cons_succ]
  refine WL.val (by kernel_rfl) (.bool false) (by go_simp) ?_
  simp only [Act.put, List.setIfInBounds_toArray, List.set_cons_zero, List.set_cons_succ]
  refine WL.nil ?_
  refine hK4 _ _ ?_
  refine wp_cond_false rfl ?_
  refine wp_skip ?_
  refine hK3 _ _ ?_
  refine wp_seq_k fun K5 hK5 => ?_
  refine wp_region_list (WL.out ?_)
  refine WL.val (by kernel_rfl) (.pointer (some ⟨x, 0, none⟩)) (by go_simp) ?_
  simp only [Act.put, List.setIfInBounds_toArray, List.set_cons_zero, List.set_cons_succ]
  refine WL.val (by kernel_rfl) (.int .i64 f) (by go_simp) ?_
  simp only [Act.put, List.setIfInBounds_toArray, List.set_cons_zero, List.set_cons_succ]
  refine WL.val (by kernel_rfl) (.int .i64 t) (by go_simp) ?_
  simp only [Act.put, List.setIfInBounds_toArray, List.set_cons_zero, List.set_cons_succ]
  refine WL.callF (by kernel_rfl) 49 _ _ rfl Tryd.in49 #[.pointer (some ⟨x, 0, none⟩), .int .i64 f, .int .i64 t] (by simp [Act.eval]) ?_
  refine (row_any w x g N i_ Ks f t HM.out HI.out.1 HI.out.2.1 HI.out.2.2).mono ?_
  rintro e w1_ ⟨rfl, hw_⟩
  refine ⟨_, rfl, ?_⟩
  have hw_ := hw_.symm
  subst hw_
  simp only [Act.put, List.setIfInBounds_toArray, List.set_cons_zero, List.set_cons_succ]
  refine WL.val (by kernel_rfl) (.pointer (some ⟨g, i_, none⟩)) (by go_simp) ?_
  simp only [Act.put, List.setIfInBounds_toArray, List.set_cons_zero, List.set_cons_succ]
  refine WL.nil ?_
  refine hK5 _ _ ?_
  refine wp_seq_k fun K6 hK6 => ?_
  refine wp_seq_k fun K7 hK7 => ?_
  refine wp_region_list (WL.out ?_)
  refine WL.val (by kernel_rfl) (.pointer (some ⟨g, i_, none⟩)) (by go_simp) ?_
  simp only [Act.put, List.setIfInBounds_toArray, List.set_cons_zero, List.set_cons_succ]
  refine WL.val (by kernel_rfl) (.pointer (some ⟨g, i_, none⟩)) (by go_simp) ?_
  simp only [Act.put, List.setIfInBounds_toArray, List.set_cons_zero, List.set_cons_succ]
  refine WL.val (by kernel_rfl) (.pointer (some ⟨g, i_, none⟩)) (by go_simp) ?_
  simp only [Act.put, List.setIfInBounds_toArray, List.set_cons_zero, List.set_cons_succ]
  refine WL.val (by kernel_rfl) (.slice la 0 cap) (by go_simp) ?_
  simp only [Act.put, List.setIfInBounds_toArray, List.set_cons_zero, List.set_cons_succ]
  refine WL.val (by kernel_rfl) (.int .i64 0) (by go_simp) ?_
  simp only [Act.put, List.setIfInBounds_toArray, List.set_cons_zero, List.set_cons_succ]
  refine WL.val (by kernel_rfl) (.bool true) (by go_simp) ?_
  simp only [Act.put, List.setIfInBounds_toArray, List.set_cons_zero, List.set_cons_succ]
  refine WL.nil ?_
  refine hK7 _ _ ?_
  refine wp_cond_true rfl ?_
  refine wp_seq_k fun K8 hK8 => ?_
  refine wp_region_list (WL.out ?_)
  refine WL.val (by kernel_rfl) (.slice none 0 0) (by go_simp) ?_
  simp only [Act.put, List.setIfInBounds_toArray, List.set_cons_zero, List.set_cons_succ]
  refine WL.val (by kernel_rfl) (.int .i64 (-1)) (by go_simp) ?_
  simp only [Act.put, List.setIfInBounds_toArray, List.set_cons_zero, List.set_cons_succ]
  refine WL.nil ?_
  refine hK8 _ _ ?_
  refine wp_ret ?_
  try simp only [Exit.inBlock, Exit.then]
  exact bodyPost_ret (results_tmp2 (fn := Tryd.f44) rfl _ _ _) rfl ⟨rfl, rfl⟩
set_option maxRecDepth 8000 in
theorem tk_ok (w : World) (x g N : Nat) (Ks : List Lk) (f t : Int) (HM : Keep (RmAt w x g N Ks)) (i_ n cap gl rn rc : Nat) (ra : Option Addr) (HI : Keep ((1 ≤ f ∧ f ≤ 8 ∧ 1 ≤ t ∧ t ≤ 8) ∧ (i_ : Int) = 9 * f + t ∧ i_ < 81)) (a : Lk) (b : List Int) (R : List (Value × List Int)) (Ha : Keep (Ks[i_]? = some a)) (Hv : Keep (a.v = .slice (some ⟨gl, 0, none⟩) n cap)) (Hn : Keep (a.R.length = n)) (HR : Keep (a.R = (.slice ra rn rc, b) :: R)) (hn1 : 1 ≤ n) (hnn : n ≤ 1024) (hc1 : n ≤ cap) (hc2 : ¬ cap = 1) (c_ : w.cell? ⟨g, i_, none⟩ = some (.slice (some ⟨gl, 0, none⟩) n cap)) (d_ : w.cell? ⟨gl, 0, none⟩ = some (.slice ra rn rc)) (hth : thr N f t = true) : Calls Tryd.prog 44 #[.pointer (some ⟨x, 0, none⟩), .int .i64 f, .int .i64 t] w fun e w' => e = .returned (.tuple #[.slice ra rn rc, .int .i64 0]) ∧ ∃ v, RmN w x g N Ks (Ks.set i_ ⟨v, R⟩) w' := by
  have hn0 : ((n : Int) == 0) = false := by simp; omega
  have hn0' : ¬ n = 0 := by omega
  have hn2 : (0 : Int) < (n : Int) := by omega
  have hn3 : (1 : Int) ≤ (n : Int) := by omega
  have hn4 : (n : Int) ≤ (cap : Int) := by omega
  go_enter Tryd.func44, Tryd.ntmps44
  refine wp_seq_k fun K1 hK1 => ?_
  refine wp_region_list (WL.out ?_)
  refine WL.val (by kernel_rfl) (.slice none 0 0) (by go_simp) ?_
  simp only [Act.put, List.setIfInBounds_toArray, List.set_cons_zero, List.set_cons_succ]
  refine WL.val (by kernel_rfl) (.int .i64 0) (by go_simp) ?_
  simp only [Act.put, List.setIfInBounds_toArray, List.set_cons_zero, List.set_cons_succ]
  refine WL.nil ?_
  refine hK1 _ _ ?_
  refine wp_seq_k fun K2 hK2 => ?_
  refine wp_region_list (WL.out ?_)
  refine WL.val (by kernel_rfl) (.pointer (some ⟨x, 0, none⟩)) (by go_simp) ?_
  simp only [Act.put, List.setIfInBounds_toArray, List.set_cons_zero, List.set_cons_succ]
  refine WL.val (by kernel_rfl) (.int .i64 f) (by go_simp) ?_
  simp only [Act.put, List.setIfInBounds_toArray, List.set_cons_zero, List.set_cons_succ]
  refine WL.val (by kernel_rfl) (.int .i64 t) (by go_simp) ?_
  simp only [Act.put, List.setIfInBounds_toArray, List.set_cons_zero, List.set_cons_succ]
  refine WL.callF (by kernel_rfl) 48 _ _ rfl Tryd.in48 #[.pointer (some ⟨x, 0, none⟩), .int .i64 f, .int .i64 t] (by simp [Act.eval]) ?_
  refine (there_any w x g N Ks f t HM.out).mono ?_
  rintro e w1_ ⟨rfl, hw_⟩
  refine ⟨_, rfl, ?_⟩
  have hw_ := hw_.symm
  subst hw_
  rw [hth]
  simp only [Act.put, List.setIfInBounds_toArray, List.set_cons_zero, List.set_cons_succ]
  refine WL.val (by kernel_rfl) (.bool true) (by go_simp) ?_
  simp only [Act.put, List.setIfInBounds_toArray, List.set_cons_zero, List.set_cons_succ]
  refine WL.nil ?_
  refine hK2 _ _ ?_
  refine wp_seq_k fun K3 hK3 => ?_
  refine wp_seq_k fun K4 hK4 => ?_
  refine wp_region_list (WL.out ?_)
  refine WL.val (by kernel_rfl) (.bool true) (by go_simp) ?_
  simp only [Act.put, List.setIfInBounds_toArray, List.set_cons_zero, List.set_cons_succ]
  refine WL.val (by kernel_rfl) (.bool false) (by go_simp) ?_
  simp only [Act.put, List.setIfInBounds_toArray, List.set_cons_zero, List.set_cons_succ]
  refine WL.nil ?_
  refine hK4 _ _ ?_
  refine wp_cond_false rfl ?_
  refine wp_skip ?_
  refine hK3 _ _ ?_
  refine wp_seq_k fun K5 hK5 => ?_
  refine wp_region_list (WL.out ?_)
  refine WL.val (by kernel_rfl) (.pointer (some ⟨x, 0, none⟩)) (by go_simp) ?_
  simp only [Act.put, List.setIfInBounds_toArray, List.set_cons_zero, List.set_cons_succ]
  refine WL.val (by kernel_rfl) (.int .i64 f) (by go_simp) ?_
  simp only [Act.put, List.setIfInBounds_toArray, List.set_cons_zero, List.set_cons_succ]
  refine WL.val (by kernel_rfl) (.int .i64 t) (by go_simp) ?_
  simp only [Act.put, List.setIfInBounds_toArray, List.set_cons_zero, List.set_cons_succ]
  refine WL.callF (by kernel_rfl) 49 _ _ rfl Tryd.in49 #[.pointer (some ⟨x, 0, none⟩), .int .i64 f, .int .i64 t] (by simp [Act.eval]) ?_
  refine (row_any w x g N i_ Ks f t HM.out HI.out.1 HI.out.2.1 HI.out.2.2).mono ?_
  rintro e w1_ ⟨rfl, hw_⟩
  refine ⟨_, rfl, ?_⟩
  have hw_ := hw_.symm
  subst hw_
  simp only [Act.put, List.setIfInBounds_toArray, List.set_cons_zero, List.set_cons_succ]
  refine WL.val (by kernel_rfl) (.pointer (some ⟨g, i_, none⟩)) (by go_simp) ?_
  simp only [Act.put, List.setIfInBounds_toArray, List.set_cons_zero, List.set_cons_succ]
  refine WL.nil ?_
  refine hK5 _ _ ?_
  refine wp_seq_k fun K6 hK6 => ?_
  refine wp_seq_k fun K7 hK7 => ?_
  refine wp_region_list (WL.out ?_)
  refine WL.val (by kernel_rfl) (.pointer (some ⟨g, i_, none⟩)) (by go_simp) ?_
  simp only [Act.put, List.setIfInBounds_toArray, List.set_cons_zero, List.set_cons_succ]
  refine WL.val (by kernel_rfl) (.pointer (some ⟨g, i_, none⟩)) (by go_simp) ?_
  simp only [Act.put, List.setIfInBounds_toArray, List.set_cons_zero, List.set_cons_succ]
  refine WL.val (by kernel_rfl) (.pointer (some ⟨g, i_, none⟩)) (by go_simp) ?_
  simp only [Act.put, List.setIfInBounds_toArray, List.set_cons_zero, List.set_cons_succ]
  refine WL.val (by kernel_rfl) (.slice (some ⟨gl, 0, none⟩) n cap) (by go_simp) ?_
  simp only [Act.put, List.setIfInBounds_toArray, List.set_cons_zero, List.set_cons_succ]
  refine WL.val (by kernel_rfl) (.int .i64 (n : Int)) (by go_simp) ?_
  simp only [Act.put, List.setIfInBounds_toArray, List.set_cons_zero, List.set_cons_succ]
  refine WL.val (by kernel_rfl) (.bool false) (by go_simp) ?_
  simp only [Act.put, List.setIfInBounds_toArray, List.set_cons_zero, List.set_cons_succ]
  refine WL.nil ?_
  refine hK7 _ _ ?_
  refine wp_cond_false rfl ?_
  refine wp_skip ?_
  refine hK6 _ _ ?_
  refine wp_seq_k fun K8 hK8 => ?_
  refine wp_region_list (WL.out ?_)
  refine WL.val (by kernel_rfl) (.pointer (some ⟨g, i_, none⟩)) (by go_simp) ?_
  simp only [Act.put, List.setIfInBounds_toArray, List.set_cons_zero, List.set_cons_succ]
  refine WL.val (by kernel_rfl) (.pointer (some ⟨g, i_, none⟩)) (by go_simp) ?_
  simp only [Act.put, List.setIfInBounds_toArray, List.set_cons_zero, List.set_cons_succ]
  refine WL.val (by kernel_rfl) (.pointer (some ⟨g, i_, none⟩)) (by go_simp) ?_
  simp only [Act.put, List.setIfInBounds_toArray, List.set_cons_zero, List.set_cons_succ]
  refine WL.val (by kernel_rfl) (.slice (some ⟨gl, 0, none⟩) n cap) (by go_simp) ?_
  simp only [Act.put, List.setIfInBounds_toArray, List.set_cons_zero, List.set_cons_succ]
  refine WL.val (by kernel_rfl) (.pointer (some ⟨gl, 0, none⟩)) (by go_simp) ?_
  simp only [Act.put, List.setIfInBounds_toArray, List.set_cons_zero, List.set_cons_succ]
  refine WL.val (by kernel_rfl) (.slice ra rn rc) (by go_simp) ?_
  simp only [Act.put, List.setIfInBounds_toArray, List.set_cons_zero, List.set_cons_succ]
  refine WL.val (by kernel_rfl) (.slice ra rn rc) (by go_simp) ?_
  simp only [Act.put, List.setIfInBounds_toArray, List.set_cons_zero, List.set_cons_succ]
  refine WL.nil ?_
  refine hK8 _ _ ?_
  refine wp_seq_k fun K9 hK9 => ?_
  refine wp_region_list (WL.out ?_)
  refine WL.val (by kernel_rfl) (.pointer (some ⟨g, i_, none⟩)) (by go_simp) ?_
  simp only [Act.put, List.setIfInBounds_toArray, List.set_cons_zero, List.set_cons_succ]
  refine WL.bs (by kernel_rfl) 36 0 #[] rfl #[] (by simp) _ _ (bsRw0 w) ?_
  clear c_ d_ 
  have b1 := Keep.mk (below_new w (.cells #[] 39))
  have Q1 : Keep ((w.alloc (.cells #[] 39)).ownsRow 0 39 1 (.slice (some ⟨w.heap.size, 0, none⟩) 0 0) 0 []) := ⟨rfl, .inr ⟨w.heap.size, 0, _, rfl, Nat.zero_le _, Blk.new w 39 #[], Nat.le_refl _, by decide, rfl, rfl⟩⟩
  generalize w.alloc (.cells #[] 39) = w1 at *
  obtain ⟨ge, hge⟩ : ∃ z, Keep (z = w.heap.size) := ⟨_, ⟨rfl⟩⟩
  rw [← hge.out] at Q1 ⊢
  have M1 := Keep.mk (HM.out.below b1.out)
  have c_ : w1.cell? ⟨g, i_, none⟩ = some (.slice (some ⟨gl, 0, none⟩) n cap) := by
    have h := M1.out.bg.c i_ (by simp [Ha.out] : (Ks.map (·.v)).toArray[i_]? = some a.v)
    rw [Hv.out] at h
    exact h
  simp only [Act.put, List.setIfInBounds_toArray, List.set_cons_zero, List.set_cons_succ]
  refine WL.val (by kernel_rfl) (.pointer (some ⟨g, i_, none⟩)) (by go_simp) ?_
  simp only [Act.put, List.setIfInBounds_toArray, List.set_cons_zero, List.set_cons_succ]
  refine WL.val (by kernel_rfl) (.pointer (some ⟨g, i_, none⟩)) (by go_simp) ?_
  simp only [Act.put, List.setIfInBounds_toArray, List.set_cons_zero, List.set_cons_succ]
  refine WL.val (by kernel_rfl) (.pointer (some ⟨g, i_, none⟩)) (by go_simp) ?_
  simp only [Act.put, List.setIfInBounds_toArray, List.set_cons_zero, List.set_cons_succ]
  refine WL.val (by kernel_rfl) (.slice (some ⟨gl, 0, none⟩) n cap) (by go_simp) ?_
  simp only [Act.put, List.setIfInBounds_toArray, List.set_cons_zero, List.set_cons_succ]
  refine WL.val (by kernel_rfl) (.slice (some ⟨gl, 1, none⟩) (n - 1) (cap - 1)) (by go_simp) ?_
  simp only [Act.put, List.setIfInBounds_toArray, List.set_cons_zero, List.set_cons_succ]
  clear c_
  refine WL.appM (by kernel_rfl) (.tmp 34) (.tmp 39) rfl 0 (.slice (some ⟨ge, 0, none⟩) 0 0) 0 [] (R.map (·.1)) gl 1 (n - 1) (cap - 1) rfl rfl Q1.out (by have := Hn.out; rw [HR.out] at this; simp at this ⊢; omega) (fun j u hu => by
    obtain ⟨gl', cap', e1, _, e3, _⟩ := (M1.out.lk a (List.mem_of_getElem? Ha.out)).cells (by rw [Hn.out]; omega)
    rw [Hv.out] at e1
    injection e1 with e1
    injection e1 with e1
    injection e1 with e1
    subst e1
    obtain ⟨p, hp, rfl⟩ := Option.map_eq_some_iff.1 (by rw [List.getElem?_map] at hu; exact hu)
    rw [Nat.add_comm]
    exact e3 (j + 1) p (by rw [HR.out]; simpa using hp)) (fun u hu => (M1.out.lk a (List.mem_of_getElem? Ha.out)).one u (by rw [HR.out]; simp at hu ⊢; exact .inr hu)) (by have := hnn; omega) (Nat.zero_le _) ?_
  intro v2 w2 k1 k2 k3
  obtain ⟨za, zc, hz⟩ := owns_sl k1
  subst hz
  have N9 : Keep (RmN w x g N Ks (Ks.set i_ ⟨.slice za (0 + (n - 1)) zc, R⟩) (w2.setCell ⟨g, i_, none⟩ (.slice za (0 + (n - 1)) zc))) := ⟨HM.out.renew Ha.out (b1.out.trans (k2.to_below (fun k hk e => by simp [Value.ownBlock] at e; have := hge.out; omega) b1.out.size)) (by
    have hr : R.length = 0 + (n - 1) := by have := Hn.out; rw [HR.out] at this; simp at this; omega
    rw [hr]
    exact k1) (fun k hk => by
    rcases k3 with e | e
    · rw [e] at hk; simp [Value.ownBlock] at hk; have := hge.out; omega
    · rw [e] at hk; injection hk with hk; have := b1.out.size; omega) (fun p hp => by rw [HR.out]; simp [hp]) (by have := (HM.out.lk a (List.mem_of_getElem? Ha.out)).few; rw [HR.out] at this; simp at this; omega)⟩
  have hDc := k2.blk M1.out.bg fun e => by simp [Value.ownBlock] at e; have := hge.out; have := HM.out.bg.lt; omega
  have f_o := hDc.frozen i_
  have c_o := hDc.c i_ (by simp [Ha.out] : (Ks.map (·.v)).toArray[i_]? = some a.v)
  clear k1 k2 k3 hDc
  simp only [Act.put, List.setIfInBounds_toArray, List.set_cons_zero, List.set_cons_succ]
  refine WL.val (by kernel_rfl) (.pointer (some ⟨g, i_, none⟩)) (by go_simp) ?_
  simp only [Act.put, List.setIfInBounds_toArray, List.set_cons_zero, List.set_cons_succ]
  refine WL.val (by kernel_rfl) (.pointer (some ⟨g, i_, none⟩)) (by go_simp) ?_
  simp only [Act.put, List.setIfInBounds_toArray, List.set_cons_zero, List.set_cons_succ]
  refine WL.cell (by kernel_rfl) (w2.setCell ⟨g, i_, none⟩ (.slice za (0 + (n - 1)) zc)) (by go_simp) ?_
  clear f_o c_o
  generalize w2.setCell ⟨g, i_, none⟩ (.slice za (0 + (n - 1)) zc) = w3 at *
  simp only [Act.put]
  refine WL.nil ?_
  refine hK9 _ _ ?_
  refine wp_seq_k fun K10 hK10 => ?_
  refine wp_region_list (WL.out ?_)
  refine WL.val (by kernel_rfl) (.slice ra rn rc) (by go_simp) ?_
  simp only [Act.put, List.setIfInBounds_toArray, List.set_cons_zero, List.set_cons_succ]
  refine WL.val (by kernel_rfl) (.slice ra rn rc) (by go_simp) ?_
  simp only [Act.put, List.setIfInBounds_toArray, List.set_cons_zero, List.set_cons_succ]
  refine WL.val (by kernel_rfl) (.int .i64 0) (by go_simp) ?_
  simp only [Act.put, List.setIfInBounds_toArray, List.set_cons_zero, List.set_cons_succ]
  refine WL.nil ?_
  refine hK10 _ _ ?_
  refine wp_ret ?_
  try simp only [Exit.inBlock, Exit.then]
  exact bodyPost_ret (results_tmp2 (fn := Tryd.f44) rfl _ _ _) rfl ⟨rfl, _, N9.out⟩
set_option maxRecDepth 8000 in
theorem tk_ok1 (w : World) (x g N : Nat) (Ks : List Lk) (f t : Int) (HM : Keep (RmAt w x g N Ks)) (i_ n cap gl rn rc : Nat) (ra : Option Addr) (HI : Keep ((1 ≤ f ∧ f ≤ 8 ∧ 1 ≤ t ∧ t ≤ 8) ∧ (i_ : Int) = 9 * f + t ∧ i_ < 81)) (a : Lk) (b : List Int) (R : List (Value × List Int)) (Ha : Keep (Ks[i_]? = some a)) (Hv : Keep (a.v = .slice (some ⟨gl, 0, none⟩) n cap)) (Hn : Keep (a.R.length = n)) (HR : Keep (a.R = (.slice ra rn rc, b) :: R)) (hn1 : 1 ≤ n) (hnn : n ≤ 1024) (hc1 : n ≤ cap) (hc2 : cap = 1) (c_ : w.cell? ⟨g, i_, none⟩ = some (.slice (some ⟨gl, 0, none⟩) n cap)) (d_ : w.cell? ⟨gl, 0, none⟩ = some (.slice ra rn rc)) (hth : thr N f t = true) : Calls Tryd.prog 44 #[.pointer (some ⟨x, 0, none⟩), .int .i64 f, .int .i64 t] w fun e w' => e = .returned (.tuple #[.slice ra rn rc, .int .i64 0]) ∧ ∃ v, RmN w x g N Ks (Ks.set i_ ⟨v, R⟩) w' := by
  have hn0 : ((n : Int) == 0) = false := by simp; omega
  have hn0' : ¬ n = 0 := by omega
  have hn2 : (0 : Int) < (n : Int) := by omega
  have hn3 : (1 : Int) ≤ (n : Int) := by omega
  have hn4 : (n : Int) ≤ (cap : Int) := by omega
  go_enter Tryd.func44, Tryd.ntmps44
  refine wp_seq_k fun K1 hK1 => ?_
  refine wp_region_list (WL.out ?_)
  refine WL.val (by kernel_rfl) (.slice none 0 0) (by go_simp) ?_
  simp only [Act.put, List.setIfInBounds_toArray, List.set_cons_zero, List.set_cons_succ]
  refine WL.val (by kernel_rfl) (.int .i64 0) (by go_simp) ?_
  simp only [Act.put, List.setIfInBounds_toArray, List.set_cons_zero, List.set_cons_succ]
  refine WL.nil ?_
  refine hK1 _ _ ?_
  refine wp_seq_k fun K2 hK2 => ?_
  refine wp_region_list (WL.out ?_)
  refine WL.val (by kernel_rfl) (.pointer (some ⟨x, 0, none⟩)) (by go_simp) ?_
  simp only [Act.put, List.setIfInBounds_toArray, List.set_cons_zero, List.set_cons_succ]
  refine WL.val (by kernel_rfl) (.int .i64 f) (by go_simp) ?_
  simp only [Act.put, List.setIfInBounds_toArray, List.set_cons_zero, List.set_cons_succ]
  refine WL.val (by kernel_rfl) (.int .i64 t) (by go_simp) ?_
  simp only [Act.put, List.setIfInBounds_toArray, List.set_cons_zero, List.set_cons_succ]
  refine WL.callF (by kernel_rfl) 48 _ _ rfl Tryd.in48 #[.pointer (some ⟨x, 0, none⟩), .int .i64 f, .int .i64 t] (by simp [Act.eval]) ?_
  refine (there_any w x g N Ks f t HM.out).mono ?_
  rintro e w1_ ⟨rfl, hw_⟩
  refine ⟨_, rfl, ?_⟩
  have hw_ := hw_.symm
  subst hw_
  rw [hth]
  simp only [Act.put, List.setIfInBounds_toArray, List.set_cons_zero, List.set_cons_succ]
  refine WL.val (by kernel_rfl) (.bool true) (by go_simp) ?_
  simp only [Act.put, List.setIfInBounds_toArray, List.set_cons_zero, List.set_cons_succ]
  refine WL.nil ?_
  refine hK2 _ _ ?_
  refine wp_seq_k fun K3 hK3 => ?_
  refine wp_seq_k fun K4 hK4 => ?_
  refine wp_region_list (WL.out ?_)
  refine WL.val (by kernel_rfl) (.bool true) (by go_simp) ?_
  simp only [Act.put, List.setIfInBounds_toArray, List.set_cons_zero, List.set_cons_succ]
  refine WL.val (by kernel_rfl) (.bool false) (by go_simp) ?_
  simp only [Act.put, List.setIfInBounds_toArray, List.set_cons_zero, List.set_cons_succ]
  refine WL.nil ?_
  refine hK4 _ _ ?_
  refine wp_cond_false rfl ?_
  refine wp_skip ?_
  refine hK3 _ _ ?_
  refine wp_seq_k fun K5 hK5 => ?_
  refine wp_region_list (WL.out ?_)
  refine WL.val (by kernel_rfl) (.pointer (some ⟨x, 0, none⟩)) (by go_simp) ?_
  simp only [Act.put, List.setIfInBounds_toArray, List.set_cons_zero, List.set_cons_succ]
  refine WL.val (by kernel_rfl) (.int .i64 f) (by go_simp) ?_
  simp only [Act.put, List.setIfInBounds_toArray, List.set_cons_zero, List.set_cons_succ]
  refine WL.val (by kernel_rfl) (.int .i64 t) (by go_simp) ?_
  simp only [Act.put, List.setIfInBounds_toArray, List.set_cons_zero, List.set_cons_succ]
  refine WL.callF (by kernel_rfl) 49 _ _ rfl Tryd.in49 #[.pointer (some ⟨x, 0, none⟩), .int .i64 f, .int .i64 t] (by simp [Act.eval]) ?_
  refine (row_any w x g N i_ Ks f t HM.out HI.out.1 HI.out.2.1 HI.out.2.2).mono ?_
  rintro e w1_ ⟨rfl, hw_⟩
  refine ⟨_, rfl, ?_⟩
  have hw_ := hw_.symm
  subst hw_
  simp only [Act.put, List.setIfInBounds_toArray, List.set_cons_zero, List.set_cons_succ]
  refine WL.val (by kernel_rfl) (.pointer (some ⟨g, i_, none⟩)) (by go_simp) ?_
  simp only [Act.put, List.setIfInBounds_toArray, List.set_cons_zero, List.set_cons_succ]
  refine WL.nil ?_
  refine hK5 _ _ ?_
  refine wp_seq_k fun K6 hK6 => ?_
  refine wp_seq_k fun K7 hK7 => ?_
  refine wp_region_list (WL.out ?_)
  refine WL.val (by kernel_rfl) (.pointer (some ⟨g, i_, none⟩)) (by go_simp) ?_
  simp only [Act.put, List.setIfInBounds_toArray, List.set_cons_zero, List.set_cons_succ]
  refine WL.val (by kernel_rfl) (.pointer (some ⟨g, i_, none⟩)) (by go_simp) ?_
  simp only [Act.put, List.setIfInBounds_toArray, List.set_cons_zero, List.set_cons_succ]
  refine WL.val (by kernel_rfl) (.pointer (some ⟨g, i_, none⟩)) (by go_simp) ?_
  simp only [Act.put, List.setIfInBounds_toArray, List.set_cons_zero, List.set_cons_succ]
  refine WL.val (by kernel_rfl) (.slice (some ⟨gl, 0, none⟩) n cap) (by go_simp) ?_
  simp only [Act.put, List.setIfInBounds_toArray, List.set_cons_zero, List.set_cons_succ]
  refine WL.val (by kernel_rfl) (.int .i64 (n : Int)) (by go_simp) ?_
  simp only [Act.put, List.setIfInBounds_toArray, List.set_cons_zero, List.set_cons_succ]
  refine WL.val (by kernel_rfl) (.bool false) (by go_simp) ?_
  simp only [Act.put, List.setIfInBounds_toArray, List.set_cons_zero, List.set_cons_succ]
  refine WL.nil ?_
  refine hK7 _ _ ?_
  refine wp_cond_false rfl ?_
  refine wp_skip ?_
  refine hK6 _ _ ?_
  refine wp_seq_k fun K8 hK8 => ?_
  refine wp_region_list (WL.out ?_)
  refine WL.val (by kernel_rfl) (.pointer (some ⟨g, i_, none⟩)) (by go_simp) ?_
  simp only [Act.put, List.setIfInBounds_toArray, List.set_cons_zero, List.set_cons_succ]
  refine WL.val (by kernel_rfl) (.pointer (some ⟨g, i_, none⟩)) (by go_simp) ?_
  simp only [Act.put, List.setIfInBounds_toArray, List.set_cons_zero, List.set_cons_succ]
  refine WL.val (by kernel_rfl) (.pointer (some ⟨g, i_, none⟩)) (by go_simp) ?_
  simp only [Act.put, List.setIfInBounds_toArray, List.set_cons_zero, List.set_cons_succ]
  refine WL.val (by kernel_rfl) (.slice (some ⟨gl, 0, none⟩) n cap) (by go_simp) ?_
  simp only [Act.put, List.setIfInBounds_toArray, List.set_cons_zero, List.set_cons_succ]
  refine WL.val (by kernel_rfl) (.pointer (some ⟨gl, 0, none⟩)) (by go_simp) ?_
  simp only [Act.put, List.setIfInBounds_toArray, List.set_cons_zero, List.set_cons_succ]
  refine WL.val (by kernel_rfl) (.slice ra rn rc) (by go_simp) ?_
  simp only [Act.put, List.setIfInBounds_toArray, List.set_cons_zero, List.set_cons_succ]
  refine WL.val (by kernel_rfl) (.slice ra rn rc) (by go_simp) ?_
  simp only [Act.put, List.setIfInBounds_toArray, List.set_cons_zero, List.set_cons_succ]
  refine WL.nil ?_
  refine hK8 _ _ ?_
  refine wp_seq_k fun K9 hK9 => ?_
  refine wp_region_list (WL.out ?_)
  refine WL.val (by kernel_rfl) (.pointer (some ⟨g, i_, none⟩)) (by go_simp) ?_
  simp only [Act.put, List.setIfInBounds_toArray, List.set_cons_zero, List.set_cons_succ]
  refine WL.bs (by kernel_rfl) 36 0 #[] rfl #[] (by simp) _ _ (bsRw0 w) ?_
  clear c_ d_ 
  have b1 := Keep.mk (below_new w (.cells #[] 39))
  have Q1 : Keep ((w.alloc (.cells #[] 39)).ownsRow 0 39 1 (.slice (some ⟨w.heap.size, 0, none⟩) 0 0) 0 []) := ⟨rfl, .inr ⟨w.heap.size, 0, _, rfl, Nat.zero_le _, Blk.new w 39 #[], Nat.le_refl _, by decide, rfl, rfl⟩⟩
  generalize w.alloc (.cells #[] 39) = w1 at *
  obtain ⟨ge, hge⟩ : ∃ z, Keep (z = w.heap.size) := ⟨_, ⟨rfl⟩⟩
  rw [← hge.out] at Q1 ⊢
  have M1 := Keep.mk (HM.out.below b1.out)
  have c_ : w1.cell? ⟨g, i_, none⟩ = some (.slice (some ⟨gl, 0, none⟩) n cap) := by
    have h := M1.out.bg.c i_ (by simp [Ha.out] : (Ks.map (·.v)).toArray[i_]? = some a.v)
    rw [Hv.out] at h
    exact h
  simp only [Act.put, List.setIfInBounds_toArray, List.set_cons_zero, List.set_cons_succ]
  refine WL.val (by kernel_rfl) (.pointer (some ⟨g, i_, none⟩)) (by go_simp) ?_
  simp only [Act.put, List.setIfInBounds_toArray, List.set_cons_zero, List.set_cons_succ]
  refine WL.val (by kernel_rfl) (.pointer (some ⟨g, i_, none⟩)) (by go_simp) ?_
  simp only [Act.put, List.setIfInBounds_toArray, List.set_cons_zero, List.set_cons_succ]
  refine WL.val (by kernel_rfl) (.pointer (some ⟨g, i_, none⟩)) (by go_simp) ?_
  simp only [Act.put, List.setIfInBounds_toArray, List.set_cons_zero, List.set_cons_succ]
  refine WL.val (by kernel_rfl) (.slice (some ⟨gl, 0, none⟩) n cap) (by go_simp) ?_
  simp only [Act.put, List.setIfInBounds_toArray, List.set_cons_zero, List.set_cons_succ]
  refine WL.val (by kernel_rfl) (.slice (some ⟨gl, 0, none⟩) (n - 1) (cap - 1)) (by go_simp) ?_
  simp only [Act.put, List.setIfInBounds_toArray, List.set_cons_zero, List.set_cons_succ]
  clear c_
  refine WL.appM (by kernel_rfl) (.tmp 34) (.tmp 39) rfl 0 (.slice (some ⟨ge, 0, none⟩) 0 0) 0 [] (R.map (·.1)) gl 0 (n - 1) (cap - 1) rfl rfl Q1.out (by have := Hn.out; rw [HR.out] at this; simp at this ⊢; omega) (fun j u hu => by
    obtain ⟨gl', cap', e1, _, e3, _⟩ := (M1.out.lk a (List.mem_of_getElem? Ha.out)).cells (by rw [Hn.out]; omega)
    rw [Hv.out] at e1
    injection e1 with e1
    injection e1 with e1
    injection e1 with e1
    subst e1
    have hj := (List.getElem?_eq_some_iff.mp hu).1
    have h5 := Hn.out
    rw [HR.out] at h5
    simp at hj h5
    exfalso
    omega) (fun u hu => (M1.out.lk a (List.mem_of_getElem? Ha.out)).one u (by rw [HR.out]; simp at hu ⊢; exact .inr hu)) (by have := hnn; omega) (Nat.zero_le _) ?_
  intro v2 w2 k1 k2 k3
  obtain ⟨za, zc, hz⟩ := owns_sl k1
  subst hz
  have N9 : Keep (RmN w x g N Ks (Ks.set i_ ⟨.slice za (0 + (n - 1)) zc, R⟩) (w2.setCell ⟨g, i_, none⟩ (.slice za (0 + (n - 1)) zc))) := ⟨HM.out.renew Ha.out (b1.out.trans (k2.to_below (fun k hk e => by simp [Value.ownBlock] at e; have := hge.out; omega) b1.out.size)) (by
    have hr : R.length = 0 + (n - 1) := by have := Hn.out; rw [HR.out] at this; simp at this; omega
    rw [hr]
    exact k1) (fun k hk => by
    rcases k3 with e | e
    · rw [e] at hk; simp [Value.ownBlock] at hk; have := hge.out; omega
    · rw [e] at hk; injection hk with hk; have := b1.out.size; omega) (fun p hp => by rw [HR.out]; simp [hp]) (by have := (HM.out.lk a (List.mem_of_getElem? Ha.out)).few; rw [HR.out] at this; simp at this; omega)⟩
  have hDc := k2.blk M1.out.bg fun e => by simp [Value.ownBlock] at e; have := hge.out; have := HM.out.bg.lt; omega
  have f_o := hDc.frozen i_
  have c_o := hDc.c i_ (by simp [Ha.out] : (Ks.map (·.v)).toArray[i_]? = some a.v)
  clear k1 k2 k3 hDc
  simp only [Act.put, List.setIfInBounds_toArray, List.set_cons_zero, List.set_cons_succ]
  refine WL.val (by kernel_rfl) (.pointer (some ⟨g, i_, none⟩)) (by go_simp) ?_
  simp only [Act.put, List.setIfInBounds_toArray, List.set_cons_zero, List.set_cons_succ]
  refine WL.val (by kernel_rfl) (.pointer (some ⟨g, i_, none⟩)) (by go_simp) ?_
  simp only [Act.put, List.setIfInBounds_toArray, List.set_cons_zero, List.set_cons_succ]
  refine WL.cell (by kernel_rfl) (w2.setCell ⟨g, i_, none⟩ (.slice za (0 + (n - 1)) zc)) (by go_simp) ?_
  clear f_o c_o
  generalize w2.setCell ⟨g, i_, none⟩ (.slice za (0 + (n - 1)) zc) = w3 at *
  simp only [Act.put]
  refine WL.nil ?_
  refine hK9 _ _ ?_
  refine wp_seq_k fun K10 hK10 => ?_
  refine wp_region_list (WL.out ?_)
  refine WL.val (by kernel_rfl) (.slice ra rn rc) (by go_simp) ?_
  simp only [Act.put, List.setIfInBounds_toArray, List.set_cons_zero, List.set_cons_succ]
  refine WL.val (by kernel_rfl) (.slice ra rn rc) (by go_simp) ?_
  simp only [Act.put, List.setIfInBounds_toArray, List.set_cons_zero, List.set_cons_succ]
  refine WL.val (by kernel_rfl) (.int .i64 0) (by go_simp) ?_
  simp only [Act.put, List.setIfInBounds_toArray, List.set_cons_zero, List.set_cons_succ]
  refine WL.nil ?_
  refine hK10 _ _ ?_
  refine wp_ret ?_
  try simp only [Exit.inBlock, Exit.then]
  exact bodyPost_ret (results_tmp2 (fn := Tryd.f44) rfl _ _ _) rfl ⟨rfl, _, N9.out⟩
def tkE (N : Nat) (K : List Lk) (f t : Int) : Int := if thr N f t then (if (lkOf K f t).R.length = 0 then -1 else 0) else 1
theorem rtake_any (w : World) (x g N : Nat) (K : List Lk) (f t : Int) (h : RmAt w x g N K) : Calls Tryd.prog 44 #[.pointer (some ⟨x, 0, none⟩), .int .i64 f, .int .i64 t] w fun e w' => ∃ v K', e = .returned (.tuple #[v, .int .i64 (tkE N K f t)]) ∧ RmN w x g N K K' w' ∧ (tkE N K f t ≠ 0 → K' = K ∧ v = .slice none 0 0) ∧ (tkE N K f t = 0 → ∃ b R u, (lkOf K f t).R = (v, b) :: R ∧ K' = K.set (ix f t) ⟨u, R⟩) := by
  unfold tkE
  cases ht : thr N f t
  · exact (tk_no w x g N K f t ⟨h⟩ ht).mono fun e w' ⟨h1, h2⟩ => ⟨_, K, h1, by rw [h2]; exact RmN.refl h, fun _ => ⟨rfl, rfl⟩, fun e => by simp at e⟩
  · rw [if_pos rfl]
    have hI := thr_ix h.nb.2 ht
    obtain ⟨h4, h2, h3⟩ := h.link ht
    by_cases h0 : (lkOf K f t).R.length = 0
    · rw [if_pos h0]
      obtain ⟨a, c, e⟩ := h2.sl
      rw [e, h0] at h3
      exact (tk_idle w x g N K f t ⟨h⟩ _ _ _ ⟨hI⟩ h3 ht).mono fun e w' ⟨h1, h2⟩ => ⟨_, K, h1, by rw [h2]; exact RmN.refl h, fun _ => ⟨rfl, rfl⟩, fun e => by simp at e⟩
    · rw [if_neg h0]
      obtain ⟨gl, cap, e, hc, hcs, _⟩ := h2.cells (by omega)
      rw [e] at h3
      obtain ⟨p, R, hR⟩ : ∃ p R, (lkOf K f t).R = p :: R := by
        match hq : (lkOf K f t).R with
        | p :: R => exact ⟨p, R, rfl⟩
        | [] => exact absurd (by rw [hq]; rfl) h0
      obtain ⟨ra, rn, rc, hp⟩ := (h2.rows p (by rw [hR]; simp)).1.sl
      obtain ⟨pv, pb⟩ := p
      simp only at hp
      subst hp
      by_cases hc2 : cap = 1
      · exact (tk_ok1 w x g N K f t ⟨h⟩ _ _ cap gl rn rc ra ⟨hI⟩ _ pb R ⟨h4⟩ ⟨e⟩ ⟨rfl⟩ ⟨hR⟩ (by omega) h2.few hc hc2 h3 (hcs 0 _ (by rw [hR]; rfl)) ht).mono fun e w' ⟨h1, v, h2⟩ => ⟨_, _, h1, h2, fun e => absurd rfl e, fun _ => ⟨pb, R, v, hR, rfl⟩⟩
      · exact (tk_ok w x g N K f t ⟨h⟩ _ _ cap gl rn rc ra ⟨hI⟩ _ pb R ⟨h4⟩ ⟨e⟩ ⟨rfl⟩ ⟨hR⟩ (by omega) h2.few hc hc2 h3 (hcs 0 _ (by rw [hR]; rfl)) ht).mono fun e w' ⟨h1, v, h2⟩ => ⟨_, _, h1, h2, fun e => absurd rfl e, fun _ => ⟨pb, R, v, hR, rfl⟩⟩

set_option maxRecDepth 8000 in
theorem dp_err (w : World) (x g N : Nat) (K : List Lk) (f t i : Int) (HM : Keep (RmAt w x g N K)) (er : Int) (her : Keep (nmE N K f t i = er)) (he : (er != 0) = true) : Calls Tryd.prog 26 #[.pointer (some ⟨x, 0, none⟩), .int .i64 f, .int .i64 t, .int .i64 i] w fun e w' => e = .returned (.int .i64 er) ∧ w' = w := by
  go_enter Tryd.func26, Tryd.ntmps26
  refine wp_seq_k fun K1 hK1 => ?_
  refine wp_region_list (WL.out ?_)
  refine WL.val (by kernel_rfl) (.int .i64 0) (by go_simp) ?_
  simp only [Act.put, List.setIfInBounds_toArray, List.set_cons_zero, List.set_cons_succ]
  refine WL.nil ?_
  refine hK1 _ _ ?_
  refine wp_seq_k fun K2 hK2 => ?_
  refine wp_region_list (WL.out ?_)
  refine WL.val (by kernel_rfl) (.pointer (some ⟨x, 0, none⟩)) (by go_simp) ?_
  simp only [Act.put, List.setIfInBounds_toArray, List.set_cons_zero, List.set_cons_succ]
  refine WL.val (by kernel_rfl) (.int .i64 f) (by go_simp) ?_
  simp only [Act.put, List.setIfInBounds_toArray, List.set_cons_zero, List.set_cons_succ]
  refine WL.val (by kernel_rfl) (.int .i64 t) (by go_simp) ?_
  simp only [Act.put, List.setIfInBounds_toArray, List.set_cons_zero, List.set_cons_succ]
  refine WL.val (by kernel_rfl) (.int .i64 i) (by go_simp) ?_
  simp only [Act.put, List.setIfInBounds_toArray, List.set_cons_zero, List.set_cons_succ]
  refine WL.callF (by kernel_rfl) 45 _ _ rfl Tryd.in45 #[.pointer (some ⟨x, 0, none⟩), .int .i64 f, .int .i64 t, .int .i64 i] (by simp [Act.eval]) ?_
  refine (named_any w x g N K f t i HM.out).mono ?_
  rintro e w1_ ⟨q_, rfl, hq_, hw_⟩
  refine ⟨_, rfl, ?_⟩
  have hw_ := hw_.symm
  subst hw_
  rw [her.out] at hq_ ⊢
  clear hq_
  simp only [Act.put, List.setIfInBounds_toArray, List.set_cons_zero, List.set_cons_succ]
  refine WL.val (by kernel_rfl) (.tuple #[q_, .int .i64 er]) (by go_simp) ?_
  simp only [Act.put, List.setIfInBounds_toArray, List.set_cons_zero, List.set_cons_succ]
  refine WL.val (by kernel_rfl) (q_) (by go_simp) ?_
  simp only [Act.put, List.setIfInBounds_toArray, List.set_cons_zero, List.set_cons_succ]
  refine WL.val (by kernel_rfl) (.int .i64 er) (by go_simp) ?_
  simp only [Act.put, List.setIfInBounds_toArray, List.set_cons_zero, List.set_cons_succ]
  refine WL.val (by kernel_rfl) (q_) (by go_simp) ?_
  simp only [Act.put, List.setIfInBounds_toArray, List.set_cons_zero, List.set_cons_succ]
  refine WL.val (by kernel_rfl) (.int .i64 er) (by go_simp) ?_
  simp only [Act.put, List.setIfInBounds_toArray, List.set_cons_zero, List.set_cons_succ]
  refine WL.nil ?_
  refine hK2 _ _ ?_
  refine wp_seq_k fun K3 hK3 => ?_
  refine wp_seq_k fun K4 hK4 => ?_
  refine wp_region_list (WL.out ?_)
  refine WL.val (by kernel_rfl) (.int .i64 er) (by go_simp) ?_
  simp only [Act.put, List.setIfInBounds_toArray, List.set_cons_zero, List.set_cons_succ]
  refine WL.val (by kernel_rfl) (.bool true) (by go_simp) ?_
  simp only [Act.put, List.setIfInBounds_toArray, List.set_cons_zero, List.set_cons_succ]
  refine WL.nil ?_
  refine hK4 _ _ ?_
  refine wp_cond_true rfl ?_
  refine wp_seq_k fun K5 hK5 => ?_
  refine wp_region_list (WL.out ?_)
  refine WL.val (by kernel_rfl) (.int .i64 er) (by go_simp) ?_
  simp only [Act.put, List.setIfInBounds_toArray, List.set_cons_zero, List.set_cons_succ]
  refine WL.val (by kernel_rfl) (.int .i64 er) (by go_simp) ?_
  simp only [Act.put, List.setIfInBounds_toArray, List.set_cons_zero, List.set_cons_succ]
  refine WL.nil ?_
  refine hK5 _ _ ?_
  refine wp_ret ?_
  go_ret
  exact ⟨rfl, rfl⟩
set_option maxRecDepth 8000 in
theorem dp_ok (w : World) (x g N : Nat) (Ks : List Lk) (f t : Int) (k i_ n cap gl : Nat) (a : Lk) (HM : Keep (RmAt w x g N Ks)) (her : Keep (nmE N Ks f t (k : Int) = 0)) (Hix : Keep (i_ = ix f t)) (Ha : Keep (Ks[i_]? = some a)) (Hv : Keep (a.v = .slice (some ⟨gl, 0, none⟩) n cap)) (Hn : Keep (a.R.length = n)) (hk : k < n) (hnn : n ≤ 1024) (hc1 : n ≤ cap) (hc2 : ¬ cap = k + 1)
    (HCd : Keep (∀ wx, Below w.heap.size w wx → wx.cell? ⟨g, i_, none⟩ = some (.slice (some ⟨gl, 0, none⟩) n cap))) (HCl : Keep (∀ wx, Below w.heap.size w wx → ∀ (j : Nat) (p : Value × List Int), a.R[j]? = some p → wx.cell? ⟨gl, j, none⟩ = some p.1)) : Calls Tryd.prog 26 #[.pointer (some ⟨x, 0, none⟩), .int .i64 f, .int .i64 t, .int .i64 (k : Int)] w fun e w' => e = .returned (.int .i64 0) ∧ ∃ v, RmN w x g N Ks (Ks.set i_ ⟨v, a.R.eraseIdx k⟩) w' := by
  have hw1 : IntKind.i64.wrap ((k : Int) + 1) = ((k + 1 : Nat) : Int) := by rw [IntKind.wrap_i64]; omega
  have hk1 : (k : Int) ≤ (cap : Int) := by omega
  have hk2 : ((k + 1 : Nat) : Int) ≤ (n : Int) := by omega
  have hk2' : (k : Int) + 1 ≤ (n : Int) := by omega
  have hk3 : (n : Int) ≤ (cap : Int) := by omega
  have hk4 : 0 ≤ (k : Int) + 1 := by omega
  have hk6 : ¬ (k : Int) + 1 < (k : Int) := by omega
  have hk5 : ¬ cap - (k + 1) = 0 ↔ ¬ cap = k + 1 := by omega
  go_enter Tryd.func26, Tryd.ntmps26
  refine wp_seq_k fun K1 hK1 => ?_
  refine wp_region_list (WL.out ?_)
  refine WL.val (by kernel_rfl) (.int .i64 0) (by go_simp) ?_
  simp only [Act.put, List.setIfInBounds_toArray, List.set_cons_zero, List.set_cons_succ]
  refine WL.nil ?_
  refine hK1 _ _ ?_
  refine wp_seq_k fun K2 hK2 => ?_
  refine wp_region_list (WL.out ?_)
  refine WL.val (by kernel_rfl) (.pointer (some ⟨x, 0, none⟩)) (by go_simp) ?_
  simp only [Act.put, List.setIfInBounds_toArray, List.set_cons_zero, List.set_cons_succ]
  refine WL.val (by kernel_rfl) (.int .i64 f) (by go_simp) ?_
  simp only [Act.put, List.setIfInBounds_toArray, List.set_cons_zero, List.set_cons_succ]
  refine WL.val (by kernel_rfl) (.int .i64 t) (by go_simp) ?_
  simp only [Act.put, List.setIfInBounds_toArray, List.set_cons_zero, List.set_cons_succ]
  refine WL.val (by kernel_rfl) (.int .i64 (k : Int)) (by go_simp) ?_
  simp only [Act.put, List.setIfInBounds_toArray, List.set_cons_zero, List.set_cons_succ]
  refine WL.callF (by kernel_rfl) 45 _ _ rfl Tryd.in45 #[.pointer (some ⟨x, 0, none⟩), .int .i64 f, .int .i64 t, .int .i64 (k : Int)] (by simp [Act.eval]) ?_
  refine (named_any w x g N Ks f t (k : Int) HM.out).mono ?_
  rintro e w1_ ⟨q_, rfl, hq_, hw_⟩
  refine ⟨_, rfl, ?_⟩
  have hw_ := hw_.symm
  subst hw_
  rw [her.out] at hq_ ⊢
  obtain rfl := hq_ rfl
  rw [← Hix.out]
  simp only [Act.put, List.setIfInBounds_toArray, List.set_cons_zero, List.set_cons_succ]
  refine WL.val (by kernel_rfl) (.tuple #[.pointer (some ⟨g, i_, none⟩), .int .i64 0]) (by go_simp) ?_
  simp only [Act.put, List.setIfInBounds_toArray, List.set_cons_zero, List.set_cons_succ]
  refine WL.val (by kernel_rfl) (.pointer (some ⟨g, i_, none⟩)) (by go_simp) ?_
  simp only [Act.put, List.setIfInBounds_toArray, List.set_cons_zero, List.set_cons_succ]
  refine WL.val (by kernel_rfl) (.int .i64 0) (by go_simp) ?_
  simp only [Act.put, List.setIfInBounds_toArray, List.set_cons_zero, List.set_cons_succ]
  refine WL.val (by kernel_rfl) (.pointer (some ⟨g, i_, none⟩)) (by go_simp) ?_
  simp only [Act.put, List.setIfInBounds_toArray, List.set_cons_zero, List.set_cons_succ]
  refine WL.val (by kernel_rfl) (.int .i64 0) (by go_simp) ?_
  simp only [Act.put, List.setIfInBounds_toArray, List.set_cons_zero, List.set_cons_succ]
  refine WL.nil ?_
  refine hK2 _ _ ?_
  refine wp_seq_k fun K3 hK3 => ?_
  refine wp_seq_k fun K4 hK4 => ?_
  refine wp_region_list (WL.out ?_)
  refine WL.val (by kernel_rfl) (.int .i64 0) (by go_simp) ?_
  simp only [Act.put, List.setIfInBounds_toArray, List.set_cons_zero, List.set_cons_succ]
  refine WL.val (by kernel_rfl) (.bool false) (by go_simp) ?_
  simp only [Act.put, List.setIfInBounds_toArray, List.set_cons_zero, List.set_cons_succ]
  refine WL.nil ?_
  refine hK4 _ _ ?_
  refine wp_cond_false rfl ?_
  refine wp_skip ?_
  refine hK3 _ _ ?_
  refine wp_seq_k fun K5 hK5 => ?_
  refine wp_region_list (WL.out ?_)
  refine WL.bs (by kernel_rfl) 36 0 #[] rfl #[] (by simp) _ _ (bsRw0 w) ?_
  have b1 := Keep.mk (below_new w (.cells #[] 39))
  have Q1 : Keep ((w.alloc (.cells #[] 39)).ownsRow 0 39 1 (.slice (some ⟨w.heap.size, 0, none⟩) 0 0) 0 []) := ⟨rfl, .inr ⟨w.heap.size, 0, _, rfl, Nat.zero_le _, Blk.new w 39 #[], Nat.le_refl _, by decide, rfl, rfl⟩⟩
  generalize w.alloc (.cells #[] 39) = w1 at *
  obtain ⟨ge, hge⟩ : ∃ z, Keep (z = w.heap.size) := ⟨_, ⟨rfl⟩⟩
  rw [← hge.out] at Q1 ⊢
  have M1 := Keep.mk (HM.out.below b1.out)
  have c_ := HCd.out w1 b1.out
  simp only [Act.put, List.setIfInBounds_toArray, List.set_cons_zero, List.set_cons_succ]
  refine WL.val (by kernel_rfl) (.pointer (some ⟨g, i_, none⟩)) (by go_simp) ?_
  simp only [Act.put, List.setIfInBounds_toArray, List.set_cons_zero, List.set_cons_succ]
  refine WL.val (by kernel_rfl) (.pointer (some ⟨g, i_, none⟩)) (by go_simp) ?_
  simp only [Act.put, List.setIfInBounds_toArray, List.set_cons_zero, List.set_cons_succ]
  refine WL.val (by kernel_rfl) (.pointer (some ⟨g, i_, none⟩)) (by go_simp) ?_
  simp only [Act.put, List.setIfInBounds_toArray, List.set_cons_zero, List.set_cons_succ]
  refine WL.val (by kernel_rfl) (.slice (some ⟨gl, 0, none⟩) n cap) (by go_simp) ?_
  simp only [Act.put, List.setIfInBounds_toArray, List.set_cons_zero, List.set_cons_succ]
  refine WL.val (by kernel_rfl) (.int .i64 (k : Int)) (by go_simp) ?_
  simp only [Act.put, List.setIfInBounds_toArray, List.set_cons_zero, List.set_cons_succ]
  refine WL.val (by kernel_rfl) (.slice (some ⟨gl, 0, none⟩) k cap) (by go_simp) ?_
  simp only [Act.put, List.setIfInBounds_toArray, List.set_cons_zero, List.set_cons_succ]
  clear c_
  refine WL.appM (by kernel_rfl) (.tmp 23) (.tmp 29) rfl 0 (.slice (some ⟨ge, 0, none⟩) 0 0) 0 [] ((a.R.take k).map (·.1)) gl 0 k cap rfl rfl Q1.out (by have := Hn.out; simp; omega) (fun j u hu => by
    obtain ⟨p, hp, rfl⟩ := Option.map_eq_some_iff.1 (by rw [List.getElem?_map] at hu; exact hu)
    rw [Nat.zero_add]
    exact HCl.out w1 b1.out j p (by have hj := (List.getElem?_eq_some_iff.mp hp).1; rw [List.length_take] at hj; rw [List.getElem?_take, if_pos (by omega)] at hp; exact hp)) (fun u hu => (M1.out.lk a (List.mem_of_getElem? Ha.out)).one u (by obtain ⟨p, hp, rfl⟩ := List.mem_map.1 hu; exact List.mem_map.2 ⟨p, List.mem_of_mem_take hp, rfl⟩)) (by omega) (Nat.zero_le _) ?_
  intro v2 w2 k1 k2 k3
  have b2 : Keep (Below w.heap.size w w2) := ⟨b1.out.trans (k2.to_below (fun k hk e => by simp [Value.ownBlock] at e; have := hge.out; omega) b1.out.size)⟩
  have F2 : Keep (∀ m, v2.ownBlock = some m → w.heap.size ≤ m) := ⟨fun m hk => by
    rcases k3 with e | e
    · rw [e] at hk; simp [Value.ownBlock] at hk; have := hge.out; omega
    · rw [e] at hk; injection hk with hk; have := b1.out.size; omega⟩
  have Q2 := Keep.mk k1
  have M2 := Keep.mk (HM.out.below b2.out)
  have c_ := HCd.out w2 b2.out
  clear k1 k2 k3 M1 Q1 b1 hge
  simp only [Act.put, List.setIfInBounds_toArray, List.set_cons_zero, List.set_cons_succ]
  refine WL.val (by kernel_rfl) (v2) (by go_simp) ?_
  simp only [Act.put, List.setIfInBounds_toArray, List.set_cons_zero, List.set_cons_succ]
  refine WL.nil ?_
  refine hK5 _ _ ?_
  refine wp_seq_k fun K6 hK6 => ?_
  refine wp_region_list (WL.out ?_)
  refine WL.val (by kernel_rfl) (.pointer (some ⟨g, i_, none⟩)) (by go_simp) ?_
  simp only [Act.put, List.setIfInBounds_toArray, List.set_cons_zero, List.set_cons_succ]
  refine WL.val (by kernel_rfl) (v2) (by go_simp) ?_
  simp only [Act.put, List.setIfInBounds_toArray, List.set_cons_zero, List.set_cons_succ]
  refine WL.val (by kernel_rfl) (.pointer (some ⟨g, i_, none⟩)) (by go_simp) ?_
  simp only [Act.put, List.setIfInBounds_toArray, List.set_cons_zero, List.set_cons_succ]
  refine WL.val (by kernel_rfl) (.pointer (some ⟨g, i_, none⟩)) (by go_simp) ?_
  simp only [Act.put, List.setIfInBounds_toArray, List.set_cons_zero, List.set_cons_succ]
  refine WL.val (by kernel_rfl) (.pointer (some ⟨g, i_, none⟩)) (by go_simp) ?_
  simp only [Act.put, List.setIfInBounds_toArray, List.set_cons_zero, List.set_cons_succ]
  refine WL.val (by kernel_rfl) (.slice (some ⟨gl, 0, none⟩) n cap) (by go_simp) ?_
  simp only [Act.put, List.setIfInBounds_toArray, List.set_cons_zero, List.set_cons_succ]
  refine WL.val (by kernel_rfl) (.int .i64 (k : Int)) (by go_simp) ?_
  simp only [Act.put, List.setIfInBounds_toArray, List.set_cons_zero, List.set_cons_succ]
  refine WL.val (by kernel_rfl) (.int .i64 ((k + 1 : Nat) : Int)) (by go_simp) ?_
  simp only [Act.put, List.setIfInBounds_toArray, List.set_cons_zero, List.set_cons_succ]
  refine WL.val (by kernel_rfl) (.slice (some ⟨gl, (k + 1), none⟩) (n - (k + 1)) (cap - (k + 1))) (by go_simp) ?_
  simp only [Act.put, List.setIfInBounds_toArray, List.set_cons_zero, List.set_cons_succ]
  clear c_
  refine WL.appM (by kernel_rfl) (.tmp 32) (.tmp 39) rfl 0 v2 (0 + k) ([] ++ (a.R.take k).map (·.1)) ((a.R.drop (k + 1)).map (·.1)) gl (k + 1) (n - (k + 1)) (cap - (k + 1)) rfl rfl Q2.out (by have := Hn.out; simp; omega) (fun j u hu => by
    obtain ⟨p, hp, rfl⟩ := Option.map_eq_some_iff.1 (by rw [List.getElem?_map] at hu; exact hu)
    exact HCl.out w2 b2.out (k + 1 + j) p (by rw [List.getElem?_drop] at hp; exact hp)) (fun u hu => (M2.out.lk a (List.mem_of_getElem? Ha.out)).one u (by obtain ⟨p, hp, rfl⟩ := List.mem_map.1 hu; exact List.mem_map.2 ⟨p, List.mem_of_mem_drop hp, rfl⟩)) (by omega) (Nat.zero_le _) ?_
  intro v3 w3 k1 k2 k3
  obtain ⟨za, zc, hz⟩ := owns_sl k1
  subst hz
  have b3 : Keep (Below w.heap.size w w3) := ⟨b2.out.trans (k2.to_below (fun k hk e => by have := F2.out k e; omega) b2.out.size)⟩
  have N9 : Keep (RmN w x g N Ks (Ks.set i_ ⟨.slice za (0 + k + (n - (k + 1))) zc, a.R.eraseIdx k⟩) (w3.setCell ⟨g, i_, none⟩ (.slice za (0 + k + (n - (k + 1))) zc))) := ⟨HM.out.renew Ha.out b3.out (by
    have hr : a.R.eraseIdx k = a.R.take k ++ a.R.drop (k + 1) := List.eraseIdx_eq_take_drop_succ _ _
    have hl : (a.R.eraseIdx k).length = 0 + k + (n - (k + 1)) := by rw [hr]; have := Hn.out; simp; omega
    rw [hl, hr, List.map_append]
    exact k1) (fun m hk => by
    rcases k3 with e | e
    · rw [e] at hk; exact F2.out m hk
    · rw [e] at hk; injection hk with hk; have := b2.out.size; omega) (fun p hp => List.mem_of_mem_eraseIdx hp) (by have h1 := (HM.out.lk a (List.mem_of_getElem? Ha.out)).few; have h2 := List.length_eraseIdx_le a.R k; omega)⟩
  have hDc : Blk w3 g 85 (Ks.map (·.v)).toArray := (HM.out.below b3.out).bg
  have f_o := hDc.frozen i_
  have c_o := hDc.c i_ (by simp [Ha.out] : (Ks.map (·.v)).toArray[i_]? = some a.v)
  clear k1 k2 k3 hDc
  simp only [Act.put, List.setIfInBounds_toArray, List.set_cons_zero, List.set_cons_succ]
  refine WL.val (by kernel_rfl) (.pointer (some ⟨g, i_, none⟩)) (by go_simp) ?_
  simp only [Act.put, List.setIfInBounds_toArray, List.set_cons_zero, List.set_cons_succ]
  refine WL.val (by kernel_rfl) (.pointer (some ⟨g, i_, none⟩)) (by go_simp) ?_
  simp only [Act.put, List.setIfInBounds_toArray, List.set_cons_zero, List.set_cons_succ]
  refine WL.cell (by kernel_rfl) (w3.setCell ⟨g, i_, none⟩ (.slice za (0 + k + (n - (k + 1))) zc)) (by go_simp) ?_
  clear f_o c_o
  generalize w3.setCell ⟨g, i_, none⟩ (.slice za (0 + k + (n - (k + 1))) zc) = w4 at *
  simp only [Act.put]
  refine WL.nil ?_
  refine hK6 _ _ ?_
  refine wp_seq_k fun K7 hK7 => ?_
  refine wp_region_list (WL.out ?_)
  refine WL.val (by kernel_rfl) (.int .i64 0) (by go_simp) ?_
  simp only [Act.put, List.setIfInBounds_toArray, List.set_cons_zero, List.set_cons_succ]
  refine WL.nil ?_
  refine hK7 _ _ ?_
  refine wp_ret ?_
  go_ret
  exact ⟨rfl, _, N9.out⟩
set_option maxRecDepth 8000 in
theorem dp_ok1 (w : World) (x g N : Nat) (Ks : List Lk) (f t : Int) (k i_ n cap gl : Nat) (a : Lk) (HM : Keep (RmAt w x g N Ks)) (her : Keep (nmE N Ks f t (k : Int) = 0)) (Hix : Keep (i_ = ix f t)) (Ha : Keep (Ks[i_]? = some a)) (Hv : Keep (a.v = .slice (some ⟨gl, 0, none⟩) n cap)) (Hn : Keep (a.R.length = n)) (hk : k < n) (hnn : n ≤ 1024) (hc1 : n ≤ cap) (hc2 : cap = k + 1)
    (HCd : Keep (∀ wx, Below w.heap.size w wx → wx.cell? ⟨g, i_, none⟩ = some (.slice (some ⟨gl, 0, none⟩) n cap))) (HCl : Keep (∀ wx, Below w.heap.size w wx → ∀ (j : Nat) (p : Value × List Int), a.R[j]? = some p → wx.cell? ⟨gl, j, none⟩ = some p.1)) : Calls Tryd.prog 26 #[.pointer (some ⟨x, 0, none⟩), .int .i64 f, .int .i64 t, .int .i64 (k : Int)] w fun e w' => e = .returned (.int .i64 0) ∧ ∃ v, RmN w x g N Ks (Ks.set i_ ⟨v, a.R.eraseIdx k⟩) w' := by
  have hw1 : IntKind.i64.wrap ((k : Int) + 1) = ((k + 1 : Nat) : Int) := by rw [IntKind.wrap_i64]; omega
  have hk1 : (k : Int) ≤ (cap : Int) := by omega
  have hk2 : ((k + 1 : Nat) : Int) ≤ (n : Int) := by omega
  have hk2' : (k : Int) + 1 ≤ (n : Int) := by omega
  have hk3 : (n : Int) ≤ (cap : Int) := by omega
  have hk4 : 0 ≤ (k : Int) + 1 := by omega
  have hk6 : ¬ (k : Int) + 1 < (k : Int) := by omega
  have hk5 : ¬ cap - (k + 1) = 0 ↔ ¬ cap = k + 1 := by omega
  go_enter Tryd.func26, Tryd.ntmps26
  refine wp_seq_k fun K1 hK1 => ?_
  refine wp_region_list (WL.out ?_)
  refine WL.val (by kernel_rfl) (.int .i64 0) (by go_simp) ?_
  simp only [Act.put, List.setIfInBounds_toArray, List.set_cons_zero, List.set_cons_succ]
  refine WL.nil ?_
  refine hK1 _ _ ?_
  refine wp_seq_k fun K2 hK2 => ?_
  refine wp_region_list (WL.out ?_)
  refine WL.val (by kernel_rfl) (.pointer (some ⟨x, 0, none⟩)) (by go_simp) ?_
  simp only [Act.put, List.setIfInBounds_toArray, List.set_cons_zero, List.set_cons_succ]
  refine WL.val (by kernel_rfl) (.int .i64 f) (by go_simp) ?_
  simp only [Act.put, List.setIfInBounds_toArray, List.set_cons_zero, List.set_cons_succ]
  refine WL.val (by kernel_rfl) (.int .i64 t) (by go_simp) ?_
  simp only [Act.put, List.setIfInBounds_toArray, List.set_cons_zero, List.set_cons_succ]
  refine WL.val (by kernel_rfl) (.int .i64 (k : Int)) (by go_simp) ?_
  simp only [Act.put, List.setIfInBounds_toArray, List.set_cons_zero, List.set_cons_succ]
  refine WL.callF (by kernel_rfl) 45 _ _ rfl Tryd.in45 #[.pointer (some ⟨x, 0, none⟩), .int .i64 f, .int .i64 t, .int .i64 (k : Int)] (by simp [Act.eval]) ?_
  refine (named_any w x g N Ks f t (k : Int) HM.out).mono ?_
  rintro e w1_ ⟨q_, rfl, hq_, hw_⟩
  refine ⟨_, rfl, ?_⟩
  have hw_ := hw_.symm
  subst hw_
  rw [her.out] at hq_ ⊢
  obtain rfl := hq_ rfl
  rw [← Hix.out]
  simp only [Act.put, List.setIfInBounds_toArray, List.set_cons_zero, List.set_cons_succ]
  refine WL.val (by kernel_rfl) (.tuple #[.pointer (some ⟨g, i_, none⟩), .int .i64 0]) (by go_simp) ?_
  simp only [Act.put, List.setIfInBounds_toArray, List.set_cons_zero, List.set_cons_succ]
  refine WL.val (by kernel_rfl) (.pointer (some ⟨g, i_, none⟩)) (by go_simp) ?_
  simp only [Act.put, List.setIfInBounds_toArray, List.set_cons_zero, List.set_cons_succ]
  refine WL.val (by kernel_rfl) (.int .i64 0) (by go_simp) ?_
  simp only [Act.put, List.setIfInBounds_toArray, List.set_cons_zero, List.set_cons_succ]
  refine WL.val (by kernel_rfl) (.pointer (some ⟨g, i_, none⟩)) (by go_simp) ?_
  simp only [Act.put, List.setIfInBounds_toArray, List.set_cons_zero, List.set_cons_succ]
  refine WL.val (by kernel_rfl) (.int .i64 0) (by go_simp) ?_
  simp only [Act.put, List.setIfInBounds_toArray, List.set_cons_zero, List.set_cons_succ]
  refine WL.nil ?_
  refine hK2 _ _ ?_
  refine wp_seq_k fun K3 hK3 => ?_
  refine wp_seq_k fun K4 hK4 => ?_
  refine wp_region_list (WL.out ?_)
  refine WL.val (by kernel_rfl) (.int .i64 0) (by go_simp) ?_
  simp only [Act.put, List.setIfInBounds_toArray, List.set_cons_zero, List.set_cons_succ]
  refine WL.val (by kernel_rfl) (.bool false) (by go_simp) ?_
  simp only [Act.put, List.setIfInBounds_toArray, List.set_cons_zero, List.set_cons_succ]
  refine WL.nil ?_
  refine hK4 _ _ ?_
  refine wp_cond_false rfl ?_
  refine wp_skip ?_
  refine hK3 _ _ ?_
  refine wp_seq_k fun K5 hK5 => ?_
  refine wp_region_list (WL.out ?_)
  refine WL.bs (by kernel_rfl) 36 0 #[] rfl #[] (by simp) _ _ (bsRw0 w) ?_
  have b1 := Keep.mk (below_new w (.cells #[] 39))
  have Q1 : Keep ((w.alloc (.cells #[] 39)).ownsRow 0 39 1 (.slice (some ⟨w.heap.size, 0, none⟩) 0 0) 0 []) := ⟨rfl, .inr ⟨w.heap.size, 0, _, rfl, Nat.zero_le _, Blk.new w 39 #[], Nat.le_refl _, by decide, rfl, rfl⟩⟩
  generalize w.alloc (.cells #[] 39) = w1 at *
  obtain ⟨ge, hge⟩ : ∃ z, Keep (z = w.heap.size) := ⟨_, ⟨rfl⟩⟩
  rw [← hge.out] at Q1 ⊢
  have M1 := Keep.mk (HM.out.below b1.out)
  have c_ := HCd.out w1 b1.out
  simp only [Act.put, List.setIfInBounds_toArray, List.set_cons_zero, List.set_cons_succ]
  refine WL.val (by kernel_rfl) (.pointer (some ⟨g, i_, none⟩)) (by go_simp) ?_
  simp only [Act.put, List.setIfInBounds_toArray, List.set_cons_zero, List.set_cons_succ]
  refine WL.val (by kernel_rfl) (.pointer (some ⟨g, i_, none⟩)) (by go_simp) ?_
  simp only [Act.put, List.setIfInBounds_toArray, List.set_cons_zero, List.set_cons_succ]
  refine WL.val (by kernel_rfl) (.pointer (some ⟨g, i_, none⟩)) (by go_simp) ?_
  simp only [Act.put, List.setIfInBounds_toArray, List.set_cons_zero, List.set_cons_succ]
  refine WL.val (by kernel_rfl) (.slice (some ⟨gl, 0, none⟩) n cap) (by go_simp) ?_
  simp only [Act.put, List.setIfInBounds_toArray, List.set_cons_zero, List.set_cons_succ]
  refine WL.val (by kernel_rfl) (.int .i64 (k : Int)) (by go_simp) ?_
  simp only [Act.put, List.setIfInBounds_toArray, List.set_cons_zero, List.set_cons_succ]
  refine WL.val (by kernel_rfl) (.slice (some ⟨gl, 0, none⟩) k cap) (by go_simp) ?_
  simp only [Act.put, List.setIfInBounds_toArray, List.set_cons_zero, List.set_cons_succ]
  clear c_
  refine WL.appM (by kernel_rfl) (.tmp 23) (.tmp 29) rfl 0 (.slice (some ⟨ge, 0, none⟩) 0 0) 0 [] ((a.R.take k).map (·.1)) gl 0 k cap rfl rfl Q1.out (by have := Hn.out; simp; omega) (fun j u hu => by
    obtain ⟨p, hp, rfl⟩ := Option.map_eq_some_iff.1 (by rw [List.getElem?_map] at hu; exact hu)
    rw [Nat.zero_add]
    exact HCl.out w1 b1.out j p (by have hj := (List.getElem?_eq_some_iff.mp hp).1; rw [List.length_take] at hj; rw [List.getElem?_take, if_pos (by omega)] at hp; exact hp)) (fun u hu => (M1.out.lk a (List.mem_of_getElem? Ha.out)).one u (by obtain ⟨p, hp, rfl⟩ := List.mem_map.1 hu; exact List.mem_map.2 ⟨p, List.mem_of_mem_take hp, rfl⟩)) (by omega) (Nat.zero_le _) ?_
  intro v2 w2 k1 k2 k3
  have b2 : Keep (Below w.heap.size w w2) := ⟨b1.out.trans (k2.to_below (fun k hk e => by simp [Value.ownBlock] at e; have := hge.out; omega) b1.out.size)⟩
  have F2 : Keep (∀ m, v2.ownBlock = some m → w.heap.size ≤ m) := ⟨fun m hk => by
    rcases k3 with e | e
    · rw [e] at hk; simp [Value.ownBlock] at hk; have := hge.out; omega
    · rw [e] at hk; injection hk with hk; have := b1.out.size; omega⟩
  have Q2 := Keep.mk k1
  have M2 := Keep.mk (HM.out.below b2.out)
  have c_ := HCd.out w2 b2.out
  clear k1 k2 k3 M1 Q1 b1 hge
  simp only [Act.put, List.setIfInBounds_toArray, List.set_cons_zero, List.set_cons_succ]
  refine WL.val (by kernel_rfl) (v2) (by go_simp) ?_
  simp only [Act.put, List.setIfInBounds_toArray, List.set_cons_zero, List.set_cons_succ]
  refine WL.nil ?_
  refine hK5 _ _ ?_
  refine wp_seq_k fun K6 hK6 => ?_
  refine wp_region_list (WL.out ?_)
  refine WL.val (by kernel_rfl) (.pointer (some ⟨g, i_, none⟩)) (by go_simp) ?_
  simp only [Act.put, List.setIfInBounds_toArray, List.set_cons_zero, List.set_cons_succ]
  refine WL.val (by kernel_rfl) (v2) (by go_simp) ?_
  simp only [Act.put, List.setIfInBounds_toArray, List.set_cons_zero, List.set_cons_succ]
  refine WL.val (by kernel_rfl) (.pointer (some ⟨g, i_, none⟩)) (by go_simp) ?_
  simp only [Act.put, List.setIfInBounds_toArray, List.set_cons_zero, List.set_cons_succ]
  refine WL.val (by kernel_rfl) (.pointer (some ⟨g, i_, none⟩)) (by go_simp) ?_
  simp only [Act.put, List.setIfInBounds_toArray, List.set_cons_zero, List.set_cons_succ]
  refine WL.val (by kernel_rfl) (.pointer (some ⟨g, i_, none⟩)) (by go_simp) ?_
  simp only [Act.put, List.setIfInBounds_toArray, List.set_cons_zero, List.set_cons_succ]
  refine WL.val (by kernel_rfl) (.slice (some ⟨gl, 0, none⟩) n cap) (by go_simp) ?_
  simp only [Act.put, List.setIfInBounds_toArray, List.set_cons_zero, List.set_cons_succ]
  refine WL.val (by kernel_rfl) (.int .i64 (k : Int)) (by go_simp) ?_
  simp only [Act.put, List.setIfInBounds_toArray, List.set_cons_zero, List.set_cons_succ]
  refine WL.val (by kernel_rfl) (.int .i64 ((k + 1 : Nat) : Int)) (by go_simp) ?_
  simp only [Act.put, List.setIfInBounds_toArray, List.set_cons_zero, List.set_cons_succ]
  refine WL.val (by kernel_rfl) (.slice (some ⟨gl, 0, none⟩) (n - (k + 1)) (cap - (k + 1))) (by go_simp) ?_
  simp only [Act.put, List.setIfInBounds_toArray, List.set_cons_zero, List.set_cons_succ]
  clear c_
  refine WL.appM (by kernel_rfl) (.tmp 32) (.tmp 39) rfl 0 v2 (0 + k) ([] ++ (a.R.take k).map (·.1)) ((a.R.drop (k + 1)).map (·.1)) gl 0 (n - (k + 1)) (cap - (k + 1)) rfl rfl Q2.out (by have := Hn.out; simp; omega) (fun j u hu => by
    have hj := (List.getElem?_eq_some_iff.mp hu).1
    have h5 := Hn.out
    simp at hj
    exfalso
    omega) (fun u hu => (M2.out.lk a (List.mem_of_getElem? Ha.out)).one u (by obtain ⟨p, hp, rfl⟩ := List.mem_map.1 hu; exact List.mem_map.2 ⟨p, List.mem_of_mem_drop hp, rfl⟩)) (by omega) (Nat.zero_le _) ?_
  intro v3 w3 k1 k2 k3
  obtain ⟨za, zc, hz⟩ := owns_sl k1
  subst hz
  have b3 : Keep (Below w.heap.size w w3) := ⟨b2.out.trans (k2.to_below (fun k hk e => by have := F2.out k e; omega) b2.out.size)⟩
  have N9 : Keep (RmN w x g N Ks (Ks.set i_ ⟨.slice za (0 + k + (n - (k + 1))) zc, a.R.eraseIdx k⟩) (w3.setCell ⟨g, i_, none⟩ (.slice za (0 + k + (n - (k + 1))) zc))) := ⟨HM.out.renew Ha.out b3.out (by
    have hr : a.R.eraseIdx k = a.R.take k ++ a.R.drop (k + 1) := List.eraseIdx_eq_take_drop_succ _ _
    have hl : (a.R.eraseIdx k).length = 0 + k + (n - (k + 1)) := by rw [hr]; have := Hn.out; simp; omega
    rw [hl, hr, List.map_append]
    exact k1) (fun m hk => by
    rcases k3 with e | e
    · rw [e] at hk; exact F2.out m hk
    · rw [e] at hk; injection hk with hk; have := b2.out.size; omega) (fun p hp => List.mem_of_mem_eraseIdx hp) (by have h1 := (HM.out.lk a (List.mem_of_getElem? Ha.out)).few; have h2 := List.length_eraseIdx_le a.R k; omega)⟩
  have hDc : Blk w3 g 85 (Ks.map (·.v)).toArray := (HM.out.below b3.out).bg
  have f_o := hDc.frozen i_
  have c_o := hDc.c i_ (by simp [Ha.out] : (Ks.map (·.v)).toArray[i_]? = some a.v)
  clear k1 k2 k3 hDc
  simp only [Act.put, List.setIfInBounds_toArray, List.set_cons_zero, List.set_cons_succ]
  refine WL.val (by kernel_rfl) (.pointer (some ⟨g, i_, none⟩)) (by go_simp) ?_
  simp only [Act.put, List.setIfInBounds_toArray, List.set_cons_zero, List.set_cons_succ]
  refine WL.val (by kernel_rfl) (.pointer (some ⟨g, i_, none⟩)) (by go_simp) ?_
  simp only [Act.put, List.setIfInBounds_toArray, List.set_cons_zero, List.set_cons_succ]
  refine WL.cell (by kernel_rfl) (w3.setCell ⟨g, i_, none⟩ (.slice za (0 + k + (n - (k + 1))) zc)) (by go_simp) ?_
  clear f_o c_o
  generalize w3.setCell ⟨g, i_, none⟩ (.slice za (0 + k + (n - (k + 1))) zc) = w4 at *
  simp only [Act.put]
  refine WL.nil ?_
  refine hK6 _ _ ?_
  refine wp_seq_k fun K7 hK7 => ?_
  refine wp_region_list (WL.out ?_)
  refine WL.val (by kernel_rfl) (.int .i64 0) (by go_simp) ?_
  simp only [Act.put, List.setIfInBounds_toArray, List.set_cons_zero, List.set_cons_succ]
  refine WL.nil ?_
  refine hK7 _ _ ?_
  refine wp_ret ?_
  go_ret
  exact ⟨rfl, _, N9.out⟩
theorem RmAt.open_ {w : World} {x g N : Nat} {K : List Lk} {f t i : Int} (h : RmAt w x g N K) (he : nmE N K f t i = 0) : ∃ (k n gl cap : Nat), i = (k : Int) ∧ k < n ∧ (lkOf K f t).R.length = n ∧ n ≤ 1024 ∧ n ≤ cap ∧ (lkOf K f t).v = .slice (some ⟨gl, 0, none⟩) n cap ∧ K[ix f t]? = some (lkOf K f t) ∧ (∀ wx, Below w.heap.size w wx → wx.cell? ⟨g, ix f t, none⟩ = some (.slice (some ⟨gl, 0, none⟩) n cap)) ∧ (∀ wx, Below w.heap.size w wx → ∀ (j : Nat) (p : Value × List Int), (lkOf K f t).R[j]? = some p → wx.cell? ⟨gl, j, none⟩ = some p.1) := by
  obtain ⟨ht, h0, h1⟩ := nmE_ok he
  obtain ⟨h4, h2, h3⟩ := h.link ht
  obtain ⟨gl, cap, e, hc, hcs, hlt, _⟩ := h2.cells (by omega)
  rw [e] at h3
  exact ⟨i.toNat, _, gl, cap, by omega, by omega, rfl, h2.few, hc, e, h4, fun wx hb => (Grown.below (S := fun _ => False) hb).cell h3 id, fun wx hb j p hp => (Grown.below (S := fun _ => False) hb).cell (hcs j p hp) id⟩
theorem rdrop_any (w : World) (x g N : Nat) (K : List Lk) (f t i : Int) (h : RmAt w x g N K) : Calls Tryd.prog 26 #[.pointer (some ⟨x, 0, none⟩), .int .i64 f, .int .i64 t, .int .i64 i] w fun e w' => e = .returned (.int .i64 (nmE N K f t i)) ∧ ∃ K', RmN w x g N K K' w' ∧ (nmE N K f t i ≠ 0 → K' = K) ∧ (nmE N K f t i = 0 → ∃ v, K' = K.set (ix f t) ⟨v, (lkOf K f t).R.eraseIdx i.toNat⟩) := by
  by_cases he : nmE N K f t i = 0
  · obtain ⟨k, n, gl, cap, rfl, h1, h2, h3, h4, h5, h6, h7, h8⟩ := h.open_ he
    have her := he
    rw [he]
    by_cases hc : cap = k + 1
    · exact (dp_ok1 w x g N K f t k _ n cap gl _ ⟨h⟩ ⟨her⟩ ⟨rfl⟩ ⟨h6⟩ ⟨h5⟩ ⟨h2⟩ h1 h3 h4 hc ⟨h7⟩ ⟨h8⟩).mono fun e w' ⟨e1, v, e2⟩ => ⟨e1, _, e2, fun e => absurd rfl e, fun _ => ⟨v, rfl⟩⟩
    · exact (dp_ok w x g N K f t k _ n cap gl _ ⟨h⟩ ⟨her⟩ ⟨rfl⟩ ⟨h6⟩ ⟨h5⟩ ⟨h2⟩ h1 h3 h4 hc ⟨h7⟩ ⟨h8⟩).mono fun e w' ⟨e1, v, e2⟩ => ⟨e1, _, e2, fun e => absurd rfl e, fun _ => ⟨v, rfl⟩⟩
  · exact (dp_err w x g N K f t i ⟨h⟩ _ ⟨rfl⟩ (by simpa using he)).mono fun e w' ⟨e1, e2⟩ => ⟨e1, K, by rw [e2]; exact RmN.refl h, fun _ => rfl, fun e => absurd e he⟩

theorem Tryd.in27 (w : World) (vs : Array Value) : (callFunc 27 vs).run Tryd.prog w = .ok (.enter 27 vs) w := by kernel_rfl
theorem Tryd.in28 (w : World) (vs : Array Value) : (callFunc 28 vs).run Tryd.prog w = .ok (.enter 28 vs) w := by kernel_rfl
set_option maxRecDepth 8000 in
theorem tw_err (w : World) (x g N : Nat) (K : List Lk) (f t i : Int) (HM : Keep (RmAt w x g N K)) (er : Int) (her : Keep (nmE N K f t i = er)) (he : (er != 0) = true) : Calls Tryd.prog 27 #[.pointer (some ⟨x, 0, none⟩), .int .i64 f, .int .i64 t, .int .i64 i] w fun e w' => e = .returned (.int .i64 er) ∧ w' = w := by
  go_enter Tryd.func27, Tryd.ntmps27
  refine wp_seq_k fun K1 hK1 => ?_
  refine wp_region_list (WL.out ?_)
  refine WL.val (by kernel_rfl) (.int .i64 0) (by go_simp) ?_
  simp only [Act.put, List.setIfInBounds_toArray, List.set_cons_zero, List.set_cons_succ]
  refine WL.nil ?_
  refine hK1 _ _ ?_
  refine wp_seq_k fun K2 hK2 => ?_
  refine wp_region_list (WL.out ?_)
  refine WL.val (by kernel_rfl) (.pointer (some ⟨x, 0, none⟩)) (by go_simp) ?_
  simp only [Act.put, List.setIfInBounds_toArray, List.set_cons_zero, List.set_cons_succ]
  refine WL.val (by kernel_rfl) (.int .i64 f) (by go_simp) ?_
  simp only [Act.put, List.setIfInBounds_toArray, List.set_cons_zero, List.set_cons_succ]
  refine WL.val (by kernel_rfl) (.int .i64 t) (by go_simp) ?_
  simp only [Act.put, List.setIfInBounds_toArray, List.set_cons_zero, List.set_cons_succ]
  refine WL.val (by kernel_rfl) (.int .i64 i) (by go_simp) ?_
  simp only [Act.put, List.setIfInBounds_toArray, List.set_cons_zero, List.set_cons_succ]
  refine WL.callF (by kernel_rfl) 45 _ _ rfl Tryd.in45 #[.pointer (some ⟨x, 0, none⟩), .int .i64 f, .int .i64 t, .int .i64 i] (by simp [Act.eval]) ?_
  refine (named_any w x g N K f t i HM.out).mono ?_
  rintro e w1_ ⟨q_, rfl, hq_, hw_⟩
  refine ⟨_, rfl, ?_⟩
  have hw_ := hw_.symm
  subst hw_
  rw [her.out] at hq_ ⊢
  clear hq_
  simp only [Act.put, List.setIfInBounds_toArray, List.set_cons_zero, List.set_cons_succ]
  refine WL.val (by kernel_rfl) (.tuple #[q_, .int .i64 er]) (by go_simp) ?_
  simp only [Act.put, List.setIfInBounds_toArray, List.set_cons_zero, List.set_cons_succ]
  refine WL.val (by kernel_rfl) (q_) (by go_simp) ?_
  simp only [Act.put, List.setIfInBounds_toArray, List.set_cons_zero, List.set_cons_succ]
  refine WL.val (by kernel_rfl) (.int .i64 er) (by go_simp) ?_
  simp only [Act.put, List.setIfInBounds_toArray, List.set_cons_zero, List.set_cons_succ]
  refine WL.val (by kernel_rfl) (q_) (by go_simp) ?_
  simp only [Act.put, List.setIfInBounds_toArray, List.set_cons_zero, List.set_cons_succ]
  refine WL.val (by kernel_rfl) (.int .i64 er) (by go_simp) ?_
  simp only [Act.put, List.setIfInBounds_toArray, List.set_cons_zero, List.set_cons_succ]
  refine WL.nil ?_
  refine hK2 _ _ ?_
  refine wp_seq_k fun K3 hK3 => ?_
  refine wp_seq_k fun K4 hK4 => ?_
  refine wp_region_list (WL.out ?_)
  refine WL.val (by kernel_rfl) (.int .i64 er) (by go_simp) ?_
  simp only [Act.put, List.setIfInBounds_toArray, List.set_cons_zero, List.set_cons_succ]
  refine WL.val (by kernel_rfl) (.bool true) (by go_simp) ?_
  simp only [Act.put, List.setIfInBounds_toArray, List.set_cons_zero, List.set_cons_succ]
  refine WL.nil ?_
  refine hK4 _ _ ?_
  refine wp_cond_true rfl ?_
  refine wp_seq_k fun K5 hK5 => ?_
  refine wp_region_list (WL.out ?_)
  refine WL.val (by kernel_rfl) (.int .i64 er) (by go_simp) ?_
  simp only [Act.put, List.setIfInBounds_toArray, List.set_cons_zero, List.set_cons_succ]
  refine WL.val (by kernel_rfl) (.int .i64 er) (by go_simp) ?_
  simp only [Act.put, List.setIfInBounds_toArray, List.set_cons_zero, List.set_cons_succ]
  refine WL.nil ?_
  refine hK5 _ _ ?_
  refine wp_ret ?_
  go_ret
  exact ⟨rfl, rfl⟩
set_option maxRecDepth 8000 in
set_option maxHeartbeats 1000000 in
theorem tw_many (w : World) (x g N : Nat) (Ks : List Lk) (f t : Int) (k i_ n cap gl rn rc : Nat) (ra : Option Addr) (b : List Int) (a : Lk) (HM : Keep (RmAt w x g N Ks)) (her : Keep (nmE N Ks f t (k : Int) = 0)) (Hix : Keep (i_ = ix f t)) (Ha : Keep (Ks[i_]? = some a)) (Hv : Keep (a.v = .slice (some ⟨gl, 0, none⟩) n cap)) (Hn : Keep (a.R.length = n)) (Hp : Keep (a.R[k]? = some (.slice ra rn rc, b))) (HL2 : Keep (b.length ≤ 2097194)) (HBy : Keep (Byts b)) (hk : k < n) (hnn : 1024 ≤ n)
    (HCd : Keep (∀ wx, Below w.heap.size w wx → wx.cell? ⟨g, i_, none⟩ = some (.slice (some ⟨gl, 0, none⟩) n cap))) (HCl : Keep (∀ wx, Below w.heap.size w wx → ∀ (j : Nat) (p : Value × List Int), a.R[j]? = some p → wx.cell? ⟨gl, j, none⟩ = some p.1)) : Calls Tryd.prog 27 #[.pointer (some ⟨x, 0, none⟩), .int .i64 f, .int .i64 t, .int .i64 (k : Int)] w fun e w' => e = .returned (.int .i64 3) ∧ w' = w := by
  have hkn : (k : Int) < (n : Int) := by omega
  have hn' : (n : Int) ≥ 1024 := by omega
  have hn'' : 1024 ≤ (n : Int) := by omega
  have c_ := HCd.out w (Below.refl _ _)
  go_enter Tryd.func27, Tryd.ntmps27
  refine wp_seq_k fun K1 hK1 => ?_
  refine wp_region_list (WL.out ?_)
  refine WL.val (by kernel_rfl) (.int .i64 0) (by go_simp) ?_
  simp only [Act.put, List.setIfInBounds_toArray, List.set_cons_zero, List.set_cons_succ]
  refine WL.nil ?_
  refine hK1 _ _ ?_
  refine wp_seq_k fun K2 hK2 => ?_
  refine wp_region_list (WL.out ?_)
  refine WL.val (by kernel_rfl) (.pointer (some ⟨x, 0, none⟩)) (by go_simp) ?_
  simp only [Act.put, List.setIfInBounds_toArray, List.set_cons_zero, List.set_cons_succ]
  refine WL.val (by kernel_rfl) (.int .i64 f) (by go_simp) ?_
  simp only [Act.put, List.setIfInBounds_toArray, List.set_cons_zero, List.set_cons_succ]
  refine WL.val (by kernel_rfl) (.int .i64 t) (by go_simp) ?_
  simp only [Act.put, List.setIfInBounds_toArray, List.set_cons_zero, List.set_cons_succ]
  refine WL.val (by kernel_rfl) (.int .i64 (k : Int)) (by go_simp) ?_
  simp only [Act.put, List.setIfInBounds_toArray, List.set_cons_zero, List.set_cons_succ]
  refine WL.callF (by kernel_rfl) 45 _ _ rfl Tryd.in45 #[.pointer (some ⟨x, 0, none⟩), .int .i64 f, .int .i64 t, .int .i64 (k : Int)] (by simp [Act.eval]) ?_
  refine (named_any w x g N Ks f t (k : Int) HM.out).mono ?_
  rintro e w1_ ⟨q_, rfl, hq_, hw_⟩
  refine ⟨_, rfl, ?_⟩
  have hw_ := hw_.symm
  subst hw_
  rw [her.out] at hq_ ⊢
  obtain rfl := hq_ rfl
  rw [← Hix.out]
  simp only [Act.put, List.setIfInBounds_toArray, List.set_cons_zero, List.set_cons_succ]
  refine WL.val (by kernel_rfl) (.tuple #[.pointer (some ⟨g, i_, none⟩), .int .i64 0]) (by go_simp) ?_
  simp only [Act.put, List.setIfInBounds_toArray, List.set_cons_zero, List.set_cons_succ]
  refine WL.val (by kernel_rfl) (.pointer (some ⟨g, i_, none⟩)) (by go_simp) ?_
  simp only [Act.put, List.setIfInBounds_toArray, List.set_cons_zero, List.set_cons_succ]
  refine WL.val (by kernel_rfl) (.int .i64 0) (by go_simp) ?_
  simp only [Act.put, List.setIfInBounds_toArray, List.set_cons_zero, List.set_cons_succ]
  refine WL.val (by kernel_rfl) (.pointer (some ⟨g, i_, none⟩)) (by go_simp) ?_
  simp only [Act.put, List.setIfInBounds_toArray, List.set_cons_zero, List.set_cons_succ]
  refine WL.val (by kernel_rfl) (.int .i64 0) (by go_simp) ?_
  simp only [Act.put, List.setIfInBounds_toArray, List.set_cons_zero, List.set_cons_succ]
  refine WL.nil ?_
  refine hK2 _ _ ?_
  refine wp_seq_k fun K3 hK3 => ?_
  refine wp_seq_k fun K4 hK4 => ?_
  refine wp_region_list (WL.out ?_)
  refine WL.val (by kernel_rfl) (.int .i64 0) (by go_simp) ?_
  simp only [Act.put, List.setIfInBounds_toArray, List.set_cons_zero, List.set_cons_succ]
  refine WL.val (by kernel_rfl) (.bool false) (by go_simp) ?_
  simp only [Act.put, List.setIfInBounds_toArray, List.set_cons_zero, List.set_cons_succ]
  refine WL.nil ?_
  refine hK4 _ _ ?_
  refine wp_cond_false rfl ?_
  refine wp_skip ?_
  refine hK3 _ _ ?_
  refine wp_seq_k fun K5 hK5 => ?_
  refine wp_seq_k fun K6 hK6 => ?_
  refine wp_region_list (WL.out ?_)
  refine WL.val (by kernel_rfl) (.pointer (some ⟨g, i_, none⟩)) (by go_simp) ?_
  simp only [Act.put, List.setIfInBounds_toArray, List.set_cons_zero, List.set_cons_succ]
  refine WL.val (by kernel_rfl) (.pointer (some ⟨g, i_, none⟩)) (by go_simp) ?_
  simp only [Act.put, List.setIfInBounds_toArray, List.set_cons_zero, List.set_cons_succ]
  refine WL.val (by kernel_rfl) (.pointer (some ⟨g, i_, none⟩)) (by go_simp) ?_
  simp only [Act.put, List.setIfInBounds_toArray, List.set_cons_zero, List.set_cons_succ]
  refine WL.val (by kernel_rfl) (.slice (some ⟨gl, 0, none⟩) n cap) (by go_simp) ?_
  simp only [Act.put, List.setIfInBounds_toArray, List.set_cons_zero, List.set_cons_succ]
  refine WL.val (by kernel_rfl) (.int .i64 (n : Int)) (by go_simp) ?_
  simp only [Act.put, List.setIfInBounds_toArray, List.set_cons_zero, List.set_cons_succ]
  refine WL.val (by kernel_rfl) (.bool true) (by go_simp) ?_
  simp only [Act.put, List.setIfInBounds_toArray, List.set_cons_zero, List.set_cons_succ]
  refine WL.nil ?_
  refine hK6 _ _ ?_
  refine wp_cond_true rfl ?_
  refine wp_seq_k fun K7 hK7 => ?_
  refine wp_region_list (WL.out ?_)
  refine WL.val (by kernel_rfl) (.int .i64 3) (by go_simp) ?_
  simp only [Act.put, List.setIfInBounds_toArray, List.set_cons_zero, List.set_cons_succ]
  refine WL.nil ?_
  refine hK7 _ _ ?_
  refine wp_ret ?_
  go_ret
  exact ⟨rfl, rfl⟩
set_option maxRecDepth 8000 in
set_option maxHeartbeats 1000000 in
theorem tw_ok (w : World) (x g N : Nat) (Ks : List Lk) (f t : Int) (k i_ n cap gl rn rc : Nat) (ra : Option Addr) (b : List Int) (a : Lk) (HM : Keep (RmAt w x g N Ks)) (her : Keep (nmE N Ks f t (k : Int) = 0)) (Hix : Keep (i_ = ix f t)) (Ha : Keep (Ks[i_]? = some a)) (Hv : Keep (a.v = .slice (some ⟨gl, 0, none⟩) n cap)) (Hn : Keep (a.R.length = n)) (Hp : Keep (a.R[k]? = some (.slice ra rn rc, b))) (HL2 : Keep (b.length ≤ 2097194)) (HBy : Keep (Byts b)) (hk : k < n) (hnn : ¬ 1024 ≤ n)
    (HCd : Keep (∀ wx, Below w.heap.size w wx → wx.cell? ⟨g, i_, none⟩ = some (.slice (some ⟨gl, 0, none⟩) n cap))) (HCl : Keep (∀ wx, Below w.heap.size w wx → ∀ (j : Nat) (p : Value × List Int), a.R[j]? = some p → wx.cell? ⟨gl, j, none⟩ = some p.1)) : Calls Tryd.prog 27 #[.pointer (some ⟨x, 0, none⟩), .int .i64 f, .int .i64 t, .int .i64 (k : Int)] w fun e w' => e = .returned (.int .i64 0) ∧ ∃ u v, RmN w x g N Ks (Ks.set i_ ⟨v, a.R ++ [(u, b)]⟩) w' := by
  have hkn : (k : Int) < (n : Int) := by omega
  have hn' : ¬ (n : Int) ≥ 1024 := by omega
  have hn'' : ¬ 1024 ≤ (n : Int) := by omega
  have c_ := HCd.out w (Below.refl _ _)
  go_enter Tryd.func27, Tryd.ntmps27
  refine wp_seq_k fun K1 hK1 => ?_
  refine wp_region_list (WL.out ?_)
  refine WL.val (by kernel_rfl) (.int .i64 0) (by go_simp) ?_
  simp only [Act.put, List.setIfInBounds_toArray, List.set_cons_zero, List.set_cons_succ]
  refine WL.nil ?_
  refine hK1 _ _ ?_
  refine wp_seq_k fun K2 hK2 => ?_
  refine wp_region_list (WL.out ?_)
  refine WL.val (by kernel_rfl) (.pointer (some ⟨x, 0, none⟩)) (by go_simp) ?_
  simp only [Act.put, List.setIfInBounds_toArray, List.set_cons_zero, List.set_cons_succ]
  refine WL.val (by kernel_rfl) (.int .i64 f) (by go_simp) ?_
  simp only [Act.put, List.setIfInBounds_toArray, List.set_cons_zero, List.set_cons_succ]
  refine WL.val (by kernel_rfl) (.int .i64 t) (by go_simp) ?_
  simp only [Act.put, List.setIfInBounds_toArray, List.set_cons_zero, List.set_cons_succ]
  refine WL.val (by kernel_rfl) (.int .i64 (k : Int)) (by go_simp) ?_
  simp only [Act.put, List.setIfInBounds_toArray, List.set_cons_zero, List.set_cons_succ]
  refine WL.callF (by kernel_rfl) 45 _ _ rfl Tryd.in45 #[.pointer (some ⟨x, 0, none⟩), .int .i64 f, .int .i64 t, .int .i64 (k : Int)] (by simp [Act.eval]) ?_
  refine (named_any w x g N Ks f t (k : Int) HM.out).mono ?_
  rintro e w1_ ⟨q_, rfl, hq_, hw_⟩
  refine ⟨_, rfl, ?_⟩
  have hw_ := hw_.symm
  subst hw_
  rw [her.out] at hq_ ⊢
  obtain rfl := hq_ rfl
  rw [← Hix.out]
  simp only [Act.put, List.setIfInBounds_toArray, List.set_cons_zero, List.set_cons_succ]
  refine WL.val (by kernel_rfl) (.tuple #[.pointer (some ⟨g, i_, none⟩), .int .i64 0]) (by go_simp) ?_
  simp only [Act.put, List.setIfInBounds_toArray, List.set_cons_zero, List.set_cons_succ]
  refine WL.val (by kernel_rfl) (.pointer (some ⟨g, i_, none⟩)) (by go_simp) ?_
  simp only [Act.put, List.setIfInBounds_toArray, List.set_cons_zero, List.set_cons_succ]
  refine WL.val (by kernel_rfl) (.int .i64 0) (by go_simp) ?_
  simp only [Act.put, List.setIfInBounds_toArray, List.set_cons_zero, List.set_cons_succ]
  refine WL.val (by kernel_rfl) (.pointer (some ⟨g, i_, none⟩)) (by go_simp) ?_
  simp only [Act.put, List.setIfInBounds_toArray, List.set_cons_zero, List.set_cons_succ]
  refine WL.val (by kernel_rfl) (.int .i64 0) (by go_simp) ?_
  simp only [Act.put, List.setIfInBounds_toArray, List.set_cons_zero, List.set_cons_succ]
  refine WL.nil ?_
  refine hK2 _ _ ?_
  refine wp_seq_k fun K3 hK3 => ?_
  refine wp_seq_k fun K4 hK4 => ?_
  refine wp_region_list (WL.out ?_)
  refine WL.val (by kernel_rfl) (.int .i64 0) (by go_simp) ?_
  simp only [Act.put, List.setIfInBounds_toArray, List.set_cons_zero, List.set_cons_succ]
  refine WL.val (by kernel_rfl) (.bool false) (by go_simp) ?_
  simp only [Act.put, List.setIfInBounds_toArray, List.set_cons_zero, List.set_cons_succ]
  refine WL.nil ?_
  refine hK4 _ _ ?_
  refine wp_cond_false rfl ?_
  refine wp_skip ?_
  refine hK3 _ _ ?_
  refine wp_seq_k fun K5 hK5 => ?_
  refine wp_seq_k fun K6 hK6 => ?_
  refine wp_region_list (WL.out ?_)
  refine WL.val (by kernel_rfl) (.pointer (some ⟨g, i_, none⟩)) (by go_simp) ?_
  simp only [Act.put, List.setIfInBounds_toArray, List.set_cons_zero, List.set_cons_succ]
  refine WL.val (by kernel_rfl) (.pointer (some ⟨g, i_, none⟩)) (by go_simp) ?_
  simp only [Act.put, List.setIfInBounds_toArray, List.set_cons_zero, List.set_cons_succ]
  refine WL.val (by kernel_rfl) (.pointer (some ⟨g, i_, none⟩)) (by go_simp) ?_
  simp only [Act.put, List.setIfInBounds_toArray, List.set_cons_zero, List.set_cons_succ]
  refine WL.val (by kernel_rfl) (.slice (some ⟨gl, 0, none⟩) n cap) (by go_simp) ?_
  simp only [Act.put, List.setIfInBounds_toArray, List.set_cons_zero, List.set_cons_succ]
  refine WL.val (by kernel_rfl) (.int .i64 (n : Int)) (by go_simp) ?_
  simp only [Act.put, List.setIfInBounds_toArray, List.set_cons_zero, List.set_cons_succ]
  refine WL.val (by kernel_rfl) (.bool false) (by go_simp) ?_
  simp only [Act.put, List.setIfInBounds_toArray, List.set_cons_zero, List.set_cons_succ]
  refine WL.nil ?_
  refine hK6 _ _ ?_
  refine wp_cond_false rfl ?_
  refine wp_skip ?_
  refine hK5 _ _ ?_
  refine wp_seq_k fun K7 hK7 => ?_
  clear c_
  refine wp_region_held_drew (S := fun _ => True) (by kernel_rfl) trivial (fun hHeld => ?_)
  have HWd : Keep (Below w.heap.size w w.drew) := ⟨(Below.refl w.heap.size w).drew⟩
  have hsz : Keep (w.drew.heap.size = w.heap.size) := ⟨rfl⟩
  generalize w.drew = wd at *
  have Md := Keep.mk (HM.out.below HWd.out)
  have Cd : Keep (∀ wx, Below wd.heap.size wd wx → wx.cell? ⟨g, i_, none⟩ = some (.slice (some ⟨gl, 0, none⟩) n cap)) := ⟨fun wx hb => HCd.out wx (HWd.out.trans (hb.mono HWd.out.size))⟩
  have Ld : Keep (∀ wx, Below wd.heap.size wd wx → ∀ (j : Nat) (p : Value × List Int), a.R[j]? = some p → wx.cell? ⟨gl, j, none⟩ = some p.1) := ⟨fun wx hb => HCl.out wx (HWd.out.trans (hb.mono HWd.out.size))⟩
  refine wpAnyH_take (i := 0) (oi := ⟨some 28, Op.move (Operand.tmp 9), 81, _, _, none⟩) (v := .pointer (some ⟨g, i_, none⟩)) rfl (by kernel_rfl) (by kernel_rfl) (by kernel_rfl) (fun _ _ _ h => h) (Or.inl ⟨by rfl, fun w hS => by go_simp⟩) hHeld ?_
  simp only [Act.put, List.setIfInBounds_toArray, List.set_cons_zero, List.set_cons_succ]
  refine wpAnyH_take (i := 1) (oi := ⟨some 29, Op.move (Operand.tmp 9), 81, _, _, none⟩) (v := .pointer (some ⟨g, i_, none⟩)) rfl (by kernel_rfl) (by kernel_rfl) (by kernel_rfl) (fun _ _ _ h => h) (Or.inl ⟨by rfl, fun w hS => by go_simp⟩) hHeld ?_
  simp only [Act.put, List.setIfInBounds_toArray, List.set_cons_zero, List.set_cons_succ]
  refine wpAnyH_take (i := 5) (oi := ⟨some 33, Op.move (Operand.tmp 9), 81, _, _, none⟩) (v := .pointer (some ⟨g, i_, none⟩)) rfl (by kernel_rfl) (by kernel_rfl) (by kernel_rfl) (fun _ _ _ h => h) (Or.inl ⟨by rfl, fun w hS => by go_simp⟩) hHeld ?_
  simp only [Act.put, List.setIfInBounds_toArray, List.set_cons_zero, List.set_cons_succ]
  refine wpAnyH_take (i := 9) (oi := ⟨some 37, Op.move (Operand.tmp 3), 3, _, _, none⟩) (v := .int .i64 (k : Int)) rfl (by kernel_rfl) (by kernel_rfl) (by kernel_rfl) (fun _ _ _ h => h) (Or.inl ⟨by rfl, fun w hS => by go_simp⟩) hHeld ?_
  simp only [Act.put, List.setIfInBounds_toArray, List.set_cons_zero, List.set_cons_succ]
  refine wpAnyH_take (i := 2) (oi := ⟨some 30, Op.nilCheck (Operand.tmp 29), 0, _, _, none⟩) (v := .pointer (some ⟨g, i_, none⟩)) rfl (by kernel_rfl) (by kernel_rfl) (by kernel_rfl) (fun _ _ _ h => h) (Or.inl ⟨by rfl, fun w hS => by go_simp⟩) hHeld ?_
  simp only [Act.put, List.setIfInBounds_toArray, List.set_cons_zero, List.set_cons_succ]
  refine wpAnyH_take (i := 6) (oi := ⟨some 34, Op.nilCheck (Operand.tmp 33), 0, _, _, none⟩) (v := .pointer (some ⟨g, i_, none⟩)) rfl (by kernel_rfl) (by kernel_rfl) (by kernel_rfl) (fun _ _ _ h => h) (Or.inl ⟨by rfl, fun w hS => by go_simp⟩) hHeld ?_
  simp only [Act.put, List.setIfInBounds_toArray, List.set_cons_zero, List.set_cons_succ]
  refine wpAnyH_take (i := 3) (oi := ⟨some 31, Op.fieldAddr 85 (Operand.tmp 30) 0, 0, _, _, none⟩) (v := .pointer (some ⟨g, i_, none⟩)) rfl (by kernel_rfl) (by kernel_rfl) (by kernel_rfl) (fun _ _ _ h => h) (Or.inl ⟨by rfl, fun w hS => by go_simp⟩) hHeld ?_
  simp only [Act.put, List.setIfInBounds_toArray, List.set_cons_zero, List.set_cons_succ]
  refine wpAnyH_take (i := 7) (oi := ⟨some 35, Op.fieldAddr 85 (Operand.tmp 34) 0, 0, _, _, none⟩) (v := .pointer (some ⟨g, i_, none⟩)) rfl (by kernel_rfl) (by kernel_rfl) (by kernel_rfl) (fun _ _ _ h => h) (Or.inl ⟨by rfl, fun w hS => by go_simp⟩) hHeld ?_
  simp only [Act.put, List.setIfInBounds_toArray, List.set_cons_zero, List.set_cons_succ]
  refine wpAnyH_ready (rs := [4, 8]) (by kernel_rfl) (by simp) ?_
  refine AllReadyH.cons (o := ⟨some 32, Op.load 36 (Operand.tmp 31), 36, _, _, none⟩) rfl (fun K hK => ?_) (AllReadyH.cons (o := ⟨some 36, Op.load 36 (Operand.tmp 35), 36, _, _, none⟩) rfl (fun K hK => ?_) AllReadyH.nil)
  all_goals rw [if_pos (by rfl)]
  · have c_ := Cd.out wd (Below.refl _ _)
    refine wp_val (.slice (some ⟨gl, 0, none⟩) n cap) (by go_simp) ?_
    clear c_
    refine hK _ _ trivial fun hHl => ?_
    clear hK
    simp only [Act.put, List.setIfInBounds_toArray, List.set_cons_zero, List.set_cons_succ]
    refine wpAnyH_ready (rs := [8]) (by kernel_rfl) (by simp) ?_
    refine AllReadyH.cons (o := ⟨some 36, Op.load 36 (Operand.tmp 35), 36, _, _, none⟩) rfl (fun K hK => ?_) AllReadyH.nil
    rw [if_pos (by rfl)]
    have c_ := Cd.out wd (Below.refl _ _)
    refine wp_val (.slice (some ⟨gl, 0, none⟩) n cap) (by go_simp) ?_
    clear c_
    refine hK _ _ trivial fun hHx => ?_
    clear hK
    simp only [Act.put, List.setIfInBounds_toArray, List.set_cons_zero, List.set_cons_succ]
    refine wpAnyH_take (i := 10) (oi := ⟨some 38, Op.indexAddr 36 (Operand.tmp 36) (Operand.tmp 37), 0, _, _, none⟩) (v := .pointer (some ⟨gl, k, none⟩)) rfl (by kernel_rfl) (by kernel_rfl) (by kernel_rfl) (fun _ _ _ h => h) (Or.inl ⟨by rfl, fun w hS => by go_simp⟩) hHx ?_
    simp only [Act.put, List.setIfInBounds_toArray, List.set_cons_zero, List.set_cons_succ]
    refine wpAnyH_ready (rs := [11]) (by kernel_rfl) (by simp) ?_
    refine AllReadyH.cons (o := ⟨some 39, Op.load 39 (Operand.tmp 38), 39, _, _, none⟩) rfl (fun K hK => ?_) AllReadyH.nil
    rw [if_pos (by rfl)]
    have c_ : wd.cell? ⟨gl, k, none⟩ = some (.slice ra rn rc) := Ld.out wd (Below.refl _ _) k _ Hp.out
    refine wp_val (.slice ra rn rc) (by go_simp) ?_
    clear c_
    refine hK _ _ trivial fun hHy => ?_
    clear hK
    simp only [Act.put, List.setIfInBounds_toArray, List.set_cons_zero, List.set_cons_succ]
    refine wpAnyH_ready (rs := [12]) (by kernel_rfl) (by simp) ?_
    refine AllReadyH.cons (o := ⟨some 40, Op.call { callee := Callee.value (Operand.func 46), args := #[Operand.tmp 39], argTypes := #[39] }, 39, _, _, none⟩) rfl (fun K hK => ?_) AllReadyH.nil
    rw [if_pos (by rfl)]
    refine wp_callF 46 _ _ rfl Tryd.in46 #[.slice ra rn rc] (by simp [Act.eval]) (fun vz wz => ∃ v, vz = v ∧ Own wz v b ∧ (∀ k, v.ownBlock = some k → wd.heap.size ≤ k) ∧ Below wd.heap.size wd wz) ?_ ?_
    · refine (cpy_any wd _ b (Md.out.lk a (List.mem_of_getElem? Ha.out) |>.rows _ (List.mem_of_getElem? Hp.out)).1.row (by have := HL2.out; omega)).mono ?_
      rintro e wz ⟨v, rfl, k1, k2, k3⟩
      exact ⟨_, rfl, v, rfl, k1, k2, k3⟩
    rintro vz wa ⟨u, rfl, k1, k2, k3⟩
    have Oa := Keep.mk k1
    have Fa := Keep.mk k2
    have ba_ := Keep.mk k3
    obtain ⟨ua, un, uc, hu⟩ := k1.sl
    subst hu
    clear k1 k2 k3
    refine hK _ _ (trivial) fun hHa => ?_
    clear hK
    simp only [Act.put, List.setIfInBounds_toArray, List.set_cons_zero, List.set_cons_succ]
    refine wpAnyH_ready (rs := [13]) (by kernel_rfl) (by simp) ?_
    refine AllReadyH.cons (o := ⟨some 41, Op.buildSlice 36 1 #[(0, Operand.tmp 40)], 36, _, _, none⟩) rfl (fun K hK => ?_) AllReadyH.nil
    rw [if_pos (by rfl)]
    refine wp_bs 36 1 _ rfl #[(0, .slice ua un uc)] (by simp [Act.eval]) _ _ (bsRw1 ua un uc wa) ?_
    have bb := below_new wa (.cells #[.slice ua un uc] 39)
    have Qb := Keep.mk (Blk.new wa 39 #[.slice ua un uc])
    generalize wa.alloc (.cells #[.slice ua un uc] 39) = wb at *
    obtain ⟨gx, hgx⟩ : ∃ z, Keep (z = wa.heap.size) := ⟨_, ⟨rfl⟩⟩
    rw [← hgx.out] at Qb ⊢
    have Ob := Keep.mk (owns_below Oa.out bb)
    have bb2 : Keep (Below wd.heap.size wd wb) := ⟨ba_.out.trans (bb.mono ba_.out.size)⟩
    clear bb hgx
    refine hK _ _ trivial fun hHc => ?_
    clear hK
    simp only [Act.put, List.setIfInBounds_toArray, List.set_cons_zero, List.set_cons_succ]
    refine wpAnyH_ready (rs := [14]) (by kernel_rfl) (by simp) ?_
    refine AllReadyH.cons (o := ⟨some 42, Op.call { callee := Callee.builtin Builtin.append, args := #[Operand.tmp 32, Operand.tmp 41], argTypes := #[36, 36] }, 36, _, _, none⟩) rfl (fun K hK => ?_) AllReadyH.nil
    rw [if_pos (by rfl)]
    refine wp_appRw (.tmp 32) (.tmp 41) rfl 0 (.slice (some ⟨gl, 0, none⟩) n cap) n (a.R.map (·.1)) gx ua un uc rfl rfl (by have h := owns_below (Md.out.lk a (List.mem_of_getElem? Ha.out)).own bb2.out; rw [Hv.out, Hn.out] at h; exact h) (Qb.out.c 0 rfl) (by omega) (Nat.zero_le _) ?_
    intro v9 wc k1 k2 k3
    obtain ⟨za, zc, hv9⟩ := owns_sl k1
    subst hv9
    have N9 : Keep (RmN wd x g N Ks (Ks.set i_ ⟨.slice za (n + 1) zc, a.R ++ [(.slice ua un uc, b)]⟩) (wc.setCell ⟨g, i_, none⟩ (.slice za (n + 1) zc))) := ⟨Md.out.push Ha.out bb2.out Ob.out (fun k hk => Fa.out k hk) (by rw [Hn.out]; exact k1) (by rw [Hv.out]; exact k2) (by rw [Hv.out]; exact k3) (by rw [Hn.out]; omega) HL2.out HBy.out⟩
    have hDc := k2.blk ((Md.out.below bb2.out).bg) fun e => absurd ((owns_typ ((Md.out.below bb2.out).lk a (List.mem_of_getElem? Ha.out)).own (by rw [Hv.out]; exact e)).one (Md.out.below bb2.out).bg.typ) (by decide)
    have f_o := hDc.frozen i_
    have c_o := hDc.c i_ (by simp [Ha.out] : (Ks.map (·.v)).toArray[i_]? = some a.v)
    clear k1 k2 k3 hDc
    refine hK _ _ trivial fun hHd => ?_
    clear hK
    simp only [Act.put, List.setIfInBounds_toArray, List.set_cons_zero, List.set_cons_succ]
    refine wpAnyH_take (i := 15) (oi := ⟨some 43, Op.nilCheck (Operand.tmp 28), 0, _, _, none⟩) (v := .pointer (some ⟨g, i_, none⟩)) rfl (by kernel_rfl) (by kernel_rfl) (by kernel_rfl) (fun _ _ _ h => h) (Or.inl ⟨by rfl, fun w hS => by go_simp⟩) hHd ?_
    simp only [Act.put, List.setIfInBounds_toArray, List.set_cons_zero, List.set_cons_succ]
    refine wpAnyH_take (i := 16) (oi := ⟨some 44, Op.fieldAddr 85 (Operand.tmp 43) 0, 0, _, _, none⟩) (v := .pointer (some ⟨g, i_, none⟩)) rfl (by kernel_rfl) (by kernel_rfl) (by kernel_rfl) (fun _ _ _ h => h) (Or.inl ⟨by rfl, fun w hS => by go_simp⟩) hHd ?_
    simp only [Act.put, List.setIfInBounds_toArray, List.set_cons_zero, List.set_cons_succ]
    refine wpAnyH_ready (rs := [17]) (by kernel_rfl) (by simp) ?_
    refine AllReadyH.cons (o := ⟨none, Op.store 36 (Operand.tmp 44) (Operand.tmp 42), 0, _, _, none⟩) rfl (fun K hK => ?_) AllReadyH.nil
    rw [if_pos (by rfl)]
    refine wp_valS (wc.setCell ⟨g, i_, none⟩ (.slice za (n + 1) zc)) (by go_simp) ?_
    clear f_o c_o
    generalize wc.setCell ⟨g, i_, none⟩ (.slice za (n + 1) zc) = we at *
    refine hK _ _ trivial fun hHe => ?_
    clear hK
    simp only [Act.put, List.setIfInBounds_toArray, List.set_cons_zero, List.set_cons_succ]
    refine wpAnyH_done (by kernel_rfl) ?_ _
    refine hK7 _ _ ?_
    refine wp_seq_k fun K8 hK8 => ?_
    refine wp_region_list (WL.out ?_)
    refine WL.val (by kernel_rfl) (.int .i64 0) (by go_simp) ?_
    simp only [Act.put, List.setIfInBounds_toArray, List.set_cons_zero, List.set_cons_succ]
    refine WL.nil ?_
    refine hK8 _ _ ?_
    refine wp_ret ?_
    try simp only [Exit.inBlock, Exit.then]
    go_ret
    exact ⟨rfl, .slice ua un uc, .slice za (n + 1) zc, ⟨N9.out.at_, (Grown.below (S := RmW g Ks) HWd.out).trans N9.out.gr, fun k hk => by have h := N9.out.new k hk; rw [hsz.out] at h; exact h⟩⟩
  · have c_ := Cd.out wd (Below.refl _ _)
    refine wp_val (.slice (some ⟨gl, 0, none⟩) n cap) (by go_simp) ?_
    clear c_
    refine hK _ _ trivial fun hHx => ?_
    clear hK
    simp only [Act.put, List.setIfInBounds_toArray, List.set_cons_zero, List.set_cons_succ]
    refine wpAnyH_take (i := 10) (oi := ⟨some 38, Op.indexAddr 36 (Operand.tmp 36) (Operand.tmp 37), 0, _, _, none⟩) (v := .pointer (some ⟨gl, k, none⟩)) rfl (by kernel_rfl) (by kernel_rfl) (by kernel_rfl) (fun _ _ _ h => h) (Or.inl ⟨by rfl, fun w hS => by go_simp⟩) hHx ?_
    simp only [Act.put, List.setIfInBounds_toArray, List.set_cons_zero, List.set_cons_succ]
    refine wpAnyH_ready (rs := [4, 11]) (by kernel_rfl) (by simp) ?_
    refine AllReadyH.cons (o := ⟨some 32, Op.load 36 (Operand.tmp 31), 36, _, _, none⟩) rfl (fun K hK => ?_) (AllReadyH.cons (o := ⟨some 39, Op.load 39 (Operand.tmp 38), 39, _, _, none⟩) rfl (fun K hK => ?_) AllReadyH.nil)
    all_goals rw [if_pos (by rfl)]
    · have c_ := Cd.out wd (Below.refl _ _)
      refine wp_val (.slice (some ⟨gl, 0, none⟩) n cap) (by go_simp) ?_
      clear c_
      refine hK _ _ trivial fun hHl => ?_
      clear hK
      simp only [Act.put, List.setIfInBounds_toArray, List.set_cons_zero, List.set_cons_succ]
      refine wpAnyH_ready (rs := [11]) (by kernel_rfl) (by simp) ?_
      refine AllReadyH.cons (o := ⟨some 39, Op.load 39 (Operand.tmp 38), 39, _, _, none⟩) rfl (fun K hK => ?_) AllReadyH.nil
      rw [if_pos (by rfl)]
      have c_ : wd.cell? ⟨gl, k, none⟩ = some (.slice ra rn rc) := Ld.out wd (Below.refl _ _) k _ Hp.out
      refine wp_val (.slice ra rn rc) (by go_simp) ?_
      clear c_
      refine hK _ _ trivial fun hHy => ?_
      clear hK
      simp only [Act.put, List.setIfInBounds_toArray, List.set_cons_zero, List.set_cons_succ]
      refine wpAnyH_ready (rs := [12]) (by kernel_rfl) (by simp) ?_
      refine AllReadyH.cons (o := ⟨some 40, Op.call { callee := Callee.value (Operand.func 46), args := #[Operand.tmp 39], argTypes := #[39] }, 39, _, _, none⟩) rfl (fun K hK => ?_) AllReadyH.nil
      rw [if_pos (by rfl)]
      refine wp_callF 46 _ _ rfl Tryd.in46 #[.slice ra rn rc] (by simp [Act.eval]) (fun vz wz => ∃ v, vz = v ∧ Own wz v b ∧ (∀ k, v.ownBlock = some k → wd.heap.size ≤ k) ∧ Below wd.heap.size wd wz) ?_ ?_
      · refine (cpy_any wd _ b (Md.out.lk a (List.mem_of_getElem? Ha.out) |>.rows _ (List.mem_of_getElem? Hp.out)).1.row (by have := HL2.out; omega)).mono ?_
        rintro e wz ⟨v, rfl, k1, k2, k3⟩
        exact ⟨_, rfl, v, rfl, k1, k2, k3⟩
      rintro vz wa ⟨u, rfl, k1, k2, k3⟩
      have Oa := Keep.mk k1
      have Fa := Keep.mk k2
      have ba_ := Keep.mk k3
      obtain ⟨ua, un, uc, hu⟩ := k1.sl
      subst hu
      clear k1 k2 k3
      refine hK _ _ (trivial) fun hHa => ?_
      clear hK
      simp only [Act.put, List.setIfInBounds_toArray, List.set_cons_zero, List.set_cons_succ]
      refine wpAnyH_ready (rs := [13]) (by kernel_rfl) (by simp) ?_
      refine AllReadyH.cons (o := ⟨some 41, Op.buildSlice 36 1 #[(0, Operand.tmp 40)], 36, _, _, none⟩) rfl (fun K hK => ?_) AllReadyH.nil
      rw [if_pos (by rfl)]
      refine wp_bs 36 1 _ rfl #[(0, .slice ua un uc)] (by simp [Act.eval]) _ _ (bsRw1 ua un uc wa) ?_
      have bb := below_new wa (.cells #[.slice ua un uc] 39)
      have Qb := Keep.mk (Blk.new wa 39 #[.slice ua un uc])
      generalize wa.alloc (.cells #[.slice ua un uc] 39) = wb at *
      obtain ⟨gx, hgx⟩ : ∃ z, Keep (z = wa.heap.size) := ⟨_, ⟨rfl⟩⟩
      rw [← hgx.out] at Qb ⊢
      have Ob := Keep.mk (owns_below Oa.out bb)
      have bb2 : Keep (Below wd.heap.size wd wb) := ⟨ba_.out.trans (bb.mono ba_.out.size)⟩
      clear bb hgx
      refine hK _ _ trivial fun hHc => ?_
      clear hK
      simp only [Act.put, List.setIfInBounds_toArray, List.set_cons_zero, List.set_cons_succ]
      refine wpAnyH_ready (rs := [14]) (by kernel_rfl) (by simp) ?_
      refine AllReadyH.cons (o := ⟨some 42, Op.call { callee := Callee.builtin Builtin.append, args := #[Operand.tmp 32, Operand.tmp 41], argTypes := #[36, 36] }, 36, _, _, none⟩) rfl (fun K hK => ?_) AllReadyH.nil
      rw [if_pos (by rfl)]
      refine wp_appRw (.tmp 32) (.tmp 41) rfl 0 (.slice (some ⟨gl, 0, none⟩) n cap) n (a.R.map (·.1)) gx ua un uc rfl rfl (by have h := owns_below (Md.out.lk a (List.mem_of_getElem? Ha.out)).own bb2.out; rw [Hv.out, Hn.out] at h; exact h) (Qb.out.c 0 rfl) (by omega) (Nat.zero_le _) ?_
      intro v9 wc k1 k2 k3
      obtain ⟨za, zc, hv9⟩ := owns_sl k1
      subst hv9
      have N9 : Keep (RmN wd x g N Ks (Ks.set i_ ⟨.slice za (n + 1) zc, a.R ++ [(.slice ua un uc, b)]⟩) (wc.setCell ⟨g, i_, none⟩ (.slice za (n + 1) zc))) := ⟨Md.out.push Ha.out bb2.out Ob.out (fun k hk => Fa.out k hk) (by rw [Hn.out]; exact k1) (by rw [Hv.out]; exact k2) (by rw [Hv.out]; exact k3) (by rw [Hn.out]; omega) HL2.out HBy.out⟩
      have hDc := k2.blk ((Md.out.below bb2.out).bg) fun e => absurd ((owns_typ ((Md.out.below bb2.out).lk a (List.mem_of_getElem? Ha.out)).own (by rw [Hv.out]; exact e)).one (Md.out.below bb2.out).bg.typ) (by decide)
      have f_o := hDc.frozen i_
      have c_o := hDc.c i_ (by simp [Ha.out] : (Ks.map (·.v)).toArray[i_]? = some a.v)
      clear k1 k2 k3 hDc
      refine hK _ _ trivial fun hHd => ?_
      clear hK
      simp only [Act.put, List.setIfInBounds_toArray, List.set_cons_zero, List.set_cons_succ]
      refine wpAnyH_take (i := 15) (oi := ⟨some 43, Op.nilCheck (Operand.tmp 28), 0, _, _, none⟩) (v := .pointer (some ⟨g, i_, none⟩)) rfl (by kernel_rfl) (by kernel_rfl) (by kernel_rfl) (fun _ _ _ h => h) (Or.inl ⟨by rfl, fun w hS => by go_simp⟩) hHd ?_
      simp only [Act.put, List.setIfInBounds_toArray, List.set_cons_zero, List.set_cons_succ]
      refine wpAnyH_take (i := 16) (oi := ⟨some 44, Op.fieldAddr 85 (Operand.tmp 43) 0, 0, _, _, none⟩) (v := .pointer (some ⟨g, i_, none⟩)) rfl (by kernel_rfl) (by kernel_rfl) (by kernel_rfl) (fun _ _ _ h => h) (Or.inl ⟨by rfl, fun w hS => by go_simp⟩) hHd ?_
      simp only [Act.put, List.setIfInBounds_toArray, List.set_cons_zero, List.set_cons_succ]
      refine wpAnyH_ready (rs := [17]) (by kernel_rfl) (by simp) ?_
      refine AllReadyH.cons (o := ⟨none, Op.store 36 (Operand.tmp 44) (Operand.tmp 42), 0, _, _, none⟩) rfl (fun K hK => ?_) AllReadyH.nil
      rw [if_pos (by rfl)]
      refine wp_valS (wc.setCell ⟨g, i_, none⟩ (.slice za (n + 1) zc)) (by go_simp) ?_
      clear f_o c_o
      generalize wc.setCell ⟨g, i_, none⟩ (.slice za (n + 1) zc) = we at *
      refine hK _ _ trivial fun hHe => ?_
      clear hK
      simp only [Act.put, List.setIfInBounds_toArray, List.set_cons_zero, List.set_cons_succ]
      refine wpAnyH_done (by kernel_rfl) ?_ _
      refine hK7 _ _ ?_
      refine wp_seq_k fun K9 hK9 => ?_
      refine wp_region_list (WL.out ?_)
      refine WL.val (by kernel_rfl) (.int .i64 0) (by go_simp) ?_
      simp only [Act.put, List.setIfInBounds_toArray, List.set_cons_zero, List.set_cons_succ]
      refine WL.nil ?_
      refine hK9 _ _ ?_
      refine wp_ret ?_
      try simp only [Exit.inBlock, Exit.then]
      go_ret
      exact ⟨rfl, .slice ua un uc, .slice za (n + 1) zc, ⟨N9.out.at_, (Grown.below (S := RmW g Ks) HWd.out).trans N9.out.gr, fun k hk => by have h := N9.out.new k hk; rw [hsz.out] at h; exact h⟩⟩
    · have c_ : wd.cell? ⟨gl, k, none⟩ = some (.slice ra rn rc) := Ld.out wd (Below.refl _ _) k _ Hp.out
      refine wp_val (.slice ra rn rc) (by go_simp) ?_
      clear c_
      refine hK _ _ trivial fun hHy => ?_
      clear hK
      simp only [Act.put, List.setIfInBounds_toArray, List.set_cons_zero, List.set_cons_succ]
      refine wpAnyH_ready (rs := [4, 12]) (by kernel_rfl) (by simp) ?_
      refine AllReadyH.cons (o := ⟨some 32, Op.load 36 (Operand.tmp 31), 36, _, _, none⟩) rfl (fun K hK => ?_) (AllReadyH.cons (o := ⟨some 40, Op.call { callee := Callee.value (Operand.func 46), args := #[Operand.tmp 39], argTypes := #[39] }, 39, _, _, none⟩) rfl (fun K hK => ?_) AllReadyH.nil)
      all_goals rw [if_pos (by rfl)]
      · have c_ := Cd.out wd (Below.refl _ _)
        refine wp_val (.slice (some ⟨gl, 0, none⟩) n cap) (by go_simp) ?_
        clear c_
        refine hK _ _ trivial fun hHl => ?_
        clear hK
        simp only [Act.put, List.setIfInBounds_toArray, List.set_cons_zero, List.set_cons_succ]
        refine wpAnyH_ready (rs := [12]) (by kernel_rfl) (by simp) ?_
        refine AllReadyH.cons (o := ⟨some 40, Op.call { callee := Callee.value (Operand.func 46), args := #[Operand.tmp 39], argTypes := #[39] }, 39, _, _, none⟩) rfl (fun K hK => ?_) AllReadyH.nil
        rw [if_pos (by rfl)]
        refine wp_callF 46 _ _ rfl Tryd.in46 #[.slice ra rn rc] (by simp [Act.eval]) (fun vz wz => ∃ v, vz = v ∧ Own wz v b ∧ (∀ k, v.ownBlock = some k → wd.heap.size ≤ k) ∧ Below wd.heap.size wd wz) ?_ ?_
        · refine (cpy_any wd _ b (Md.out.lk a (List.mem_of_getElem? Ha.out) |>.rows _ (List.mem_of_getElem? Hp.out)).1.row (by have := HL2.out; omega)).mono ?_
          rintro e wz ⟨v, rfl, k1, k2, k3⟩
          exact ⟨_, rfl, v, rfl, k1, k2, k3⟩
        rintro vz wa ⟨u, rfl, k1, k2, k3⟩
        have Oa := Keep.mk k1
        have Fa := Keep.mk k2
        have ba_ := Keep.mk k3
        obtain ⟨ua, un, uc, hu⟩ := k1.sl
        subst hu
        clear k1 k2 k3
        refine hK _ _ (trivial) fun hHa => ?_
        clear hK
        simp only [Act.put, List.setIfInBounds_toArray, List.set_cons_zero, List.set_cons_succ]
        refine wpAnyH_ready (rs := [13]) (by kernel_rfl) (by simp) ?_
        refine AllReadyH.cons (o := ⟨some 41, Op.buildSlice 36 1 #[(0, Operand.tmp 40)], 36, _, _, none⟩) rfl (fun K hK => ?_) AllReadyH.nil
        rw [if_pos (by rfl)]
        refine wp_bs 36 1 _ rfl #[(0, .slice ua un uc)] (by simp [Act.eval]) _ _ (bsRw1 ua un uc wa) ?_
        have bb := below_new wa (.cells #[.slice ua un uc] 39)
        have Qb := Keep.mk (Blk.new wa 39 #[.slice ua un uc])
        generalize wa.alloc (.cells #[.slice ua un uc] 39) = wb at *
        obtain ⟨gx, hgx⟩ : ∃ z, Keep (z = wa.heap.size) := ⟨_, ⟨rfl⟩⟩
        rw [← hgx.out] at Qb ⊢
        have Ob := Keep.mk (owns_below Oa.out bb)
        have bb2 : Keep (Below wd.heap.size wd wb) := ⟨ba_.out.trans (bb.mono ba_.out.size)⟩
        clear bb hgx
        refine hK _ _ trivial fun hHc => ?_
        clear hK
        simp only [Act.put, List.setIfInBounds_toArray, List.set_cons_zero, List.set_cons_succ]
        refine wpAnyH_ready (rs := [14]) (by kernel_rfl) (by simp) ?_
        refine AllReadyH.cons (o := ⟨some 42, Op.call { callee := Callee.builtin Builtin.append, args := #[Operand.tmp 32, Operand.tmp 41], argTypes := #[36, 36] }, 36, _, _, none⟩) rfl (fun K hK => ?_) AllReadyH.nil
        rw [if_pos (by rfl)]
        refine wp_appRw (.tmp 32) (.tmp 41) rfl 0 (.slice (some ⟨gl, 0, none⟩) n cap) n (a.R.map (·.1)) gx ua un uc rfl rfl (by have h := owns_below (Md.out.lk a (List.mem_of_getElem? Ha.out)).own bb2.out; rw [Hv.out, Hn.out] at h; exact h) (Qb.out.c 0 rfl) (by omega) (Nat.zero_le _) ?_
        intro v9 wc k1 k2 k3
        obtain ⟨za, zc, hv9⟩ := owns_sl k1
        subst hv9
        have N9 : Keep (RmN wd x g N Ks (Ks.set i_ ⟨.slice za (n + 1) zc, a.R ++ [(.slice ua un uc, b)]⟩) (wc.setCell ⟨g, i_, none⟩ (.slice za (n + 1) zc))) := ⟨Md.out.push Ha.out bb2.out Ob.out (fun k hk => Fa.out k hk) (by rw [Hn.out]; exact k1) (by rw [Hv.out]; exact k2) (by rw [Hv.out]; exact k3) (by rw [Hn.out]; omega) HL2.out HBy.out⟩
        have hDc := k2.blk ((Md.out.below bb2.out).bg) fun e => absurd ((owns_typ ((Md.out.below bb2.out).lk a (List.mem_of_getElem? Ha.out)).own (by rw [Hv.out]; exact e)).one (Md.out.below bb2.out).bg.typ) (by decide)
        have f_o := hDc.frozen i_
        have c_o := hDc.c i_ (by simp [Ha.out] : (Ks.map (·.v)).toArray[i_]? = some a.v)
        clear k1 k2 k3 hDc
        refine hK _ _ trivial fun hHd => ?_
        clear hK
        simp only [Act.put, List.setIfInBounds_toArray, List.set_cons_zero, List.set_cons_succ]
        refine wpAnyH_take (i := 15) (oi := ⟨some 43, Op.nilCheck (Operand.tmp 28), 0, _, _, none⟩) (v := .pointer (some ⟨g, i_, none⟩)) rfl (by kernel_rfl) (by kernel_rfl) (by kernel_rfl) (fun _ _ _ h => h) (Or.inl ⟨by rfl, fun w hS => by go_simp⟩) hHd ?_
        simp only [Act.put, List.setIfInBounds_toArray, List.set_cons_zero, List.set_cons_succ]
        refine wpAnyH_take (i := 16) (oi := ⟨some 44, Op.fieldAddr 85 (Operand.tmp 43) 0, 0, _, _, none⟩) (v := .pointer (some ⟨g, i_, none⟩)) rfl (by kernel_rfl) (by kernel_rfl) (by kernel_rfl) (fun _ _ _ h => h) (Or.inl ⟨by rfl, fun w hS => by go_simp⟩) hHd ?_
        simp only [Act.put, List.setIfInBounds_toArray, List.set_cons_zero, List.set_cons_succ]
        refine wpAnyH_ready (rs := [17]) (by kernel_rfl) (by simp) ?_
        refine AllReadyH.cons (o := ⟨none, Op.store 36 (Operand.tmp 44) (Operand.tmp 42), 0, _, _, none⟩) rfl (fun K hK => ?_) AllReadyH.nil
        rw [if_pos (by rfl)]
        refine wp_valS (wc.setCell ⟨g, i_, none⟩ (.slice za (n + 1) zc)) (by go_simp) ?_
        clear f_o c_o
        generalize wc.setCell ⟨g, i_, none⟩ (.slice za (n + 1) zc) = we at *
        refine hK _ _ trivial fun hHe => ?_
        clear hK
        simp only [Act.put, List.setIfInBounds_toArray, List.set_cons_zero, List.set_cons_succ]
        refine wpAnyH_done (by kernel_rfl) ?_ _
        refine hK7 _ _ ?_
        refine wp_seq_k fun K10 hK10 => ?_
        refine wp_region_list (WL.out ?_)
        refine WL.val (by kernel_rfl) (.int .i64 0) (by go_simp) ?_
        simp only [Act.put, List.setIfInBounds_toArray, List.set_cons_zero, List.set_cons_succ]
        refine WL.nil ?_
        refine hK10 _ _ ?_
        refine wp_ret ?_
        try simp only [Exit.inBlock, Exit.then]
        go_ret
        exact ⟨rfl, .slice ua un uc, .slice za (n + 1) zc, ⟨N9.out.at_, (Grown.below (S := RmW g Ks) HWd.out).trans N9.out.gr, fun k hk => by have h := N9.out.new k hk; rw [hsz.out] at h; exact h⟩⟩
      · refine wp_callF 46 _ _ rfl Tryd.in46 #[.slice ra rn rc] (by simp [Act.eval]) (fun vz wz => ∃ v, vz = v ∧ Own wz v b ∧ (∀ k, v.ownBlock = some k → wd.heap.size ≤ k) ∧ Below wd.heap.size wd wz) ?_ ?_
        · refine (cpy_any wd _ b (Md.out.lk a (List.mem_of_getElem? Ha.out) |>.rows _ (List.mem_of_getElem? Hp.out)).1.row (by have := HL2.out; omega)).mono ?_
          rintro e wz ⟨v, rfl, k1, k2, k3⟩
          exact ⟨_, rfl, v, rfl, k1, k2, k3⟩
        rintro vz wa ⟨u, rfl, k1, k2, k3⟩
        have Oa := Keep.mk k1
        have Fa := Keep.mk k2
        have ba_ := Keep.mk k3
        obtain ⟨ua, un, uc, hu⟩ := k1.sl
        subst hu
        clear k1 k2 k3
        refine hK _ _ (trivial) fun hHa => ?_
        clear hK
        simp only [Act.put, List.setIfInBounds_toArray, List.set_cons_zero, List.set_cons_succ]
        refine wpAnyH_ready (rs := [4, 13]) (by kernel_rfl) (by simp) ?_
        refine AllReadyH.cons (o := ⟨some 32, Op.load 36 (Operand.tmp 31), 36, _, _, none⟩) rfl (fun K hK => ?_) (AllReadyH.cons (o := ⟨some 41, Op.buildSlice 36 1 #[(0, Operand.tmp 40)], 36, _, _, none⟩) rfl (fun K hK => ?_) AllReadyH.nil)
        all_goals rw [if_pos (by rfl)]
        · have c_ := Cd.out wa ba_.out
          refine wp_val (.slice (some ⟨gl, 0, none⟩) n cap) (by go_simp) ?_
          clear c_
          refine hK _ _ trivial fun hHl => ?_
          clear hK
          simp only [Act.put, List.setIfInBounds_toArray, List.set_cons_zero, List.set_cons_succ]
          refine wpAnyH_ready (rs := [13]) (by kernel_rfl) (by simp) ?_
          refine AllReadyH.cons (o := ⟨some 41, Op.buildSlice 36 1 #[(0, Operand.tmp 40)], 36, _, _, none⟩) rfl (fun K hK => ?_) AllReadyH.nil
          rw [if_pos (by rfl)]
          refine wp_bs 36 1 _ rfl #[(0, .slice ua un uc)] (by simp [Act.eval]) _ _ (bsRw1 ua un uc wa) ?_
          have bb := below_new wa (.cells #[.slice ua un uc] 39)
          have Qb := Keep.mk (Blk.new wa 39 #[.slice ua un uc])
          generalize wa.alloc (.cells #[.slice ua un uc] 39) = wb at *
          obtain ⟨gx, hgx⟩ : ∃ z, Keep (z = wa.heap.size) := ⟨_, ⟨rfl⟩⟩
          rw [← hgx.out] at Qb ⊢
          have Ob := Keep.mk (owns_below Oa.out bb)
          have bb2 : Keep (Below wd.heap.size wd wb) := ⟨ba_.out.trans (bb.mono ba_.out.size)⟩
          clear bb hgx
          refine hK _ _ trivial fun hHc => ?_
          clear hK
          simp only [Act.put, List.setIfInBounds_toArray, List.set_cons_zero, List.set_cons_succ]
          refine wpAnyH_ready (rs := [14]) (by kernel_rfl) (by simp) ?_
          refine AllReadyH.cons (o := ⟨some 42, Op.call { callee := Callee.builtin Builtin.append, args := #[Operand.tmp 32, Operand.tmp 41], argTypes := #[36, 36] }, 36, _, _, none⟩) rfl (fun K hK => ?_) AllReadyH.nil
          rw [if_pos (by rfl)]
          refine wp_appRw (.tmp 32) (.tmp 41) rfl 0 (.slice (some ⟨gl, 0, none⟩) n cap) n (a.R.map (·.1)) gx ua un uc rfl rfl (by have h := owns_below (Md.out.lk a (List.mem_of_getElem? Ha.out)).own bb2.out; rw [Hv.out, Hn.out] at h; exact h) (Qb.out.c 0 rfl) (by omega) (Nat.zero_le _) ?_
          intro v9 wc k1 k2 k3
          obtain ⟨za, zc, hv9⟩ := owns_sl k1
          subst hv9
          have N9 : Keep (RmN wd x g N Ks (Ks.set i_ ⟨.slice za (n + 1) zc, a.R ++ [(.slice ua un uc, b)]⟩) (wc.setCell ⟨g, i_, none⟩ (.slice za (n + 1) zc))) := ⟨Md.out.push Ha.out bb2.out Ob.out (fun k hk => Fa.out k hk) (by rw [Hn.out]; exact k1) (by rw [Hv.out]; exact k2) (by rw [Hv.out]; exact k3) (by rw [Hn.out]; omega) HL2.out HBy.out⟩
          have hDc := k2.blk ((Md.out.below bb2.out).bg) fun e => absurd ((owns_typ ((Md.out.below bb2.out).lk a (List.mem_of_getElem? Ha.out)).own (by rw [Hv.out]; exact e)).one (Md.out.below bb2.out).bg.typ) (by decide)
          have f_o := hDc.frozen i_
          have c_o := hDc.c i_ (by simp [Ha.out] : (Ks.map (·.v)).toArray[i_]? = some a.v)
          clear k1 k2 k3 hDc
          refine hK _ _ trivial fun hHd => ?_
          clear hK
          simp only [Act.put, List.setIfInBounds_toArray, List.set_cons_zero, List.set_cons_succ]
          refine wpAnyH_take (i := 15) (oi := ⟨some 43, Op.nilCheck (Operand.tmp 28), 0, _, _, none⟩) (v := .pointer (some ⟨g, i_, none⟩)) rfl (by kernel_rfl) (by kernel_rfl) (by kernel_rfl) (fun _ _ _ h => h) (Or.inl ⟨by rfl, fun w hS => by go_simp⟩) hHd ?_
          simp only [Act.put, List.setIfInBounds_toArray, List.set_cons_zero, List.set_cons_succ]
          refine wpAnyH_take (i := 16) (oi := ⟨some 44, Op.fieldAddr 85 (Operand.tmp 43) 0, 0, _, _, none⟩) (v := .pointer (some ⟨g, i_, none⟩)) rfl (by kernel_rfl) (by kernel_rfl) (by kernel_rfl) (fun _ _ _ h => h) (Or.inl ⟨by rfl, fun w hS => by go_simp⟩) hHd ?_
          simp only [Act.put, List.setIfInBounds_toArray, List.set_cons_zero, List.set_cons_succ]
          refine wpAnyH_ready (rs := [17]) (by kernel_rfl) (by simp) ?_
          refine AllReadyH.cons (o := ⟨none, Op.store 36 (Operand.tmp 44) (Operand.tmp 42), 0, _, _, none⟩) rfl (fun K hK => ?_) AllReadyH.nil
          rw [if_pos (by rfl)]
          refine wp_valS (wc.setCell ⟨g, i_, none⟩ (.slice za (n + 1) zc)) (by go_simp) ?_
          clear f_o c_o
          generalize wc.setCell ⟨g, i_, none⟩ (.slice za (n + 1) zc) = we at *
          refine hK _ _ trivial fun hHe => ?_
          clear hK
          simp only [Act.put, List.setIfInBounds_toArray, List.set_cons_zero, List.set_cons_succ]
          refine wpAnyH_done (by kernel_rfl) ?_ _
          refine hK7 _ _ ?_
          refine wp_seq_k fun K11 hK11 => ?_
          refine wp_region_list (WL.out ?_)
          refine WL.val (by kernel_rfl) (.int .i64 0) (by go_simp) ?_
          simp only [Act.put, List.setIfInBounds_toArray, List.set_cons_zero, List.set_cons_succ]
          refine WL.nil ?_
          refine hK11 _ _ ?_
          refine wp_ret ?_
          try simp only [Exit.inBlock, Exit.then]
          go_ret
          exact ⟨rfl, .slice ua un uc, .slice za (n + 1) zc, ⟨N9.out.at_, (Grown.below (S := RmW g Ks) HWd.out).trans N9.out.gr, fun k hk => by have h := N9.out.new k hk; rw [hsz.out] at h; exact h⟩⟩
        · refine wp_bs 36 1 _ rfl #[(0, .slice ua un uc)] (by simp [Act.eval]) _ _ (bsRw1 ua un uc wa) ?_
          have bb := below_new wa (.cells #[.slice ua un uc] 39)
          have Qb := Keep.mk (Blk.new wa 39 #[.slice ua un uc])
          generalize wa.alloc (.cells #[.slice ua un uc] 39) = wb at *
          obtain ⟨gx, hgx⟩ : ∃ z, Keep (z = wa.heap.size) := ⟨_, ⟨rfl⟩⟩
          rw [← hgx.out] at Qb ⊢
          have Ob := Keep.mk (owns_below Oa.out bb)
          have bb2 : Keep (Below wd.heap.size wd wb) := ⟨ba_.out.trans (bb.mono ba_.out.size)⟩
          clear bb hgx
          refine hK _ _ trivial fun hHc => ?_
          clear hK
          simp only [Act.put, List.setIfInBounds_toArray, List.set_cons_zero, List.set_cons_succ]
          refine wpAnyH_ready (rs := [4]) (by kernel_rfl) (by simp) ?_
          refine AllReadyH.cons (o := ⟨some 32, Op.load 36 (Operand.tmp 31), 36, _, _, none⟩) rfl (fun K hK => ?_) AllReadyH.nil
          rw [if_pos (by rfl)]
          have c_ := Cd.out wb bb2.out
          refine wp_val (.slice (some ⟨gl, 0, none⟩) n cap) (by go_simp) ?_
          clear c_
          refine hK _ _ trivial fun hHl => ?_
          clear hK
          simp only [Act.put, List.setIfInBounds_toArray, List.set_cons_zero, List.set_cons_succ]
          refine wpAnyH_ready (rs := [14]) (by kernel_rfl) (by simp) ?_
          refine AllReadyH.cons (o := ⟨some 42, Op.call { callee := Callee.builtin Builtin.append, args := #[Operand.tmp 32, Operand.tmp 41], argTypes := #[36, 36] }, 36, _, _, none⟩) rfl (fun K hK => ?_) AllReadyH.nil
          rw [if_pos (by rfl)]
          refine wp_appRw (.tmp 32) (.tmp 41) rfl 0 (.slice (some ⟨gl, 0, none⟩) n cap) n (a.R.map (·.1)) gx ua un uc rfl rfl (by have h := owns_below (Md.out.lk a (List.mem_of_getElem? Ha.out)).own bb2.out; rw [Hv.out, Hn.out] at h; exact h) (Qb.out.c 0 rfl) (by omega) (Nat.zero_le _) ?_
          intro v9 wc k1 k2 k3
          obtain ⟨za, zc, hv9⟩ := owns_sl k1
          subst hv9
          have N9 : Keep (RmN wd x g N Ks (Ks.set i_ ⟨.slice za (n + 1) zc, a.R ++ [(.slice ua un uc, b)]⟩) (wc.setCell ⟨g, i_, none⟩ (.slice za (n + 1) zc))) := ⟨Md.out.push Ha.out bb2.out Ob.out (fun k hk => Fa.out k hk) (by rw [Hn.out]; exact k1) (by rw [Hv.out]; exact k2) (by rw [Hv.out]; exact k3) (by rw [Hn.out]; omega) HL2.out HBy.out⟩
          have hDc := k2.blk ((Md.out.below bb2.out).bg) fun e => absurd ((owns_typ ((Md.out.below bb2.out).lk a (List.mem_of_getElem? Ha.out)).own (by rw [Hv.out]; exact e)).one (Md.out.below bb2.out).bg.typ) (by decide)
          have f_o := hDc.frozen i_
          have c_o := hDc.c i_ (by simp [Ha.out] : (Ks.map (·.v)).toArray[i_]? = some a.v)
          clear k1 k2 k3 hDc
          refine hK _ _ trivial fun hHd => ?_
          clear hK
          simp only [Act.put, List.setIfInBounds_toArray, List.set_cons_zero, List.set_cons_succ]
          refine wpAnyH_take (i := 15) (oi := ⟨some 43, Op.nilCheck (Operand.tmp 28), 0, _, _, none⟩) (v := .pointer (some ⟨g, i_, none⟩)) rfl (by kernel_rfl) (by kernel_rfl) (by kernel_rfl) (fun _ _ _ h => h) (Or.inl ⟨by rfl, fun w hS => by go_simp⟩) hHd ?_
          simp only [Act.put, List.setIfInBounds_toArray, List.set_cons_zero, List.set_cons_succ]
          refine wpAnyH_take (i := 16) (oi := ⟨some 44, Op.fieldAddr 85 (Operand.tmp 43) 0, 0, _, _, none⟩) (v := .pointer (some ⟨g, i_, none⟩)) rfl (by kernel_rfl) (by kernel_rfl) (by kernel_rfl) (fun _ _ _ h => h) (Or.inl ⟨by rfl, fun w hS => by go_simp⟩) hHd ?_
          simp only [Act.put, List.setIfInBounds_toArray, List.set_cons_zero, List.set_cons_succ]
          refine wpAnyH_ready (rs := [17]) (by kernel_rfl) (by simp) ?_
          refine AllReadyH.cons (o := ⟨none, Op.store 36 (Operand.tmp 44) (Operand.tmp 42), 0, _, _, none⟩) rfl (fun K hK => ?_) AllReadyH.nil
          rw [if_pos (by rfl)]
          refine wp_valS (wc.setCell ⟨g, i_, none⟩ (.slice za (n + 1) zc)) (by go_simp) ?_
          clear f_o c_o
          generalize wc.setCell ⟨g, i_, none⟩ (.slice za (n + 1) zc) = we at *
          refine hK _ _ trivial fun hHe => ?_
          clear hK
          simp only [Act.put, List.setIfInBounds_toArray, List.set_cons_zero, List.set_cons_succ]
          refine wpAnyH_done (by kernel_rfl) ?_ _
          refine hK7 _ _ ?_
          refine wp_seq_k fun K12 hK12 => ?_
          refine wp_region_list (WL.out ?_)
          refine WL.val (by kernel_rfl) (.int .i64 0) (by go_simp) ?_
          simp only [Act.put, List.setIfInBounds_toArray, List.set_cons_zero, List.set_cons_succ]
          refine WL.nil ?_
          refine hK12 _ _ ?_
          refine wp_ret ?_
          try simp only [Exit.inBlock, Exit.then]
          go_ret
          exact ⟨rfl, .slice ua un uc, .slice za (n + 1) zc, ⟨N9.out.at_, (Grown.below (S := RmW g Ks) HWd.out).trans N9.out.gr, fun k hk => by have h := N9.out.new k hk; rw [hsz.out] at h; exact h⟩⟩
def twE (N : Nat) (K : List Lk) (f t i : Int) : Int := if nmE N K f t i = 0 then (if 1024 ≤ (lkOf K f t).R.length then 3 else 0) else nmE N K f t i
theorem rtwice_any (w : World) (x g N : Nat) (K : List Lk) (f t i : Int) (h : RmAt w x g N K) : Calls Tryd.prog 27 #[.pointer (some ⟨x, 0, none⟩), .int .i64 f, .int .i64 t, .int .i64 i] w fun e w' => e = .returned (.int .i64 (twE N K f t i)) ∧ ∃ K', RmN w x g N K K' w' ∧ (twE N K f t i ≠ 0 → K' = K) ∧ (twE N K f t i = 0 → ∃ u v p, (lkOf K f t).R[i.toNat]? = some p ∧ K' = K.set (ix f t) ⟨v, (lkOf K f t).R ++ [(u, p.2)]⟩) := by
  unfold twE
  by_cases he : nmE N K f t i = 0
  · obtain ⟨k, n, gl, cap, rfl, h1, h2, h3, h4, h5, h6, h7, h8⟩ := h.open_ he
    rw [if_pos he, h2]
    have hp := List.getElem?_eq_getElem (show k < (lkOf K f t).R.length by omega)
    have hr := ((h.lk _ (List.mem_of_getElem? h6)).rows _ (List.mem_of_getElem? hp))
    obtain ⟨ra, rn, rc, e⟩ := hr.1.sl
    have hp2 : (lkOf K f t).R[k]? = some (.slice ra rn rc, ((lkOf K f t).R[k]'(by omega)).2) := by rw [hp, ← e]
    by_cases hn : 1024 ≤ n
    · rw [if_pos hn]
      exact (tw_many w x g N K f t k _ n cap gl rn rc ra _ _ ⟨h⟩ ⟨he⟩ ⟨rfl⟩ ⟨h6⟩ ⟨h5⟩ ⟨h2⟩ ⟨hp2⟩ ⟨hr.2.1⟩ ⟨hr.2.2⟩ h1 hn ⟨h7⟩ ⟨h8⟩).mono fun e w' ⟨e1, e2⟩ => ⟨e1, K, by rw [e2]; exact RmN.refl h, fun _ => rfl, fun e => by simp at e⟩
    · rw [if_neg hn]
      exact (tw_ok w x g N K f t k _ n cap gl rn rc ra _ _ ⟨h⟩ ⟨he⟩ ⟨rfl⟩ ⟨h6⟩ ⟨h5⟩ ⟨h2⟩ ⟨hp2⟩ ⟨hr.2.1⟩ ⟨hr.2.2⟩ h1 hn ⟨h7⟩ ⟨h8⟩).mono fun e w' ⟨e1, u, v, e2⟩ => ⟨e1, _, e2, fun e => absurd rfl e, fun _ => ⟨u, v, (.slice ra rn rc, _), by rw [Int.toNat_natCast]; exact hp2, rfl⟩⟩
  · rw [if_neg he]
    exact (tw_err w x g N K f t i ⟨h⟩ _ ⟨rfl⟩ (by simpa using he)).mono fun e w' ⟨e1, e2⟩ => ⟨e1, K, by rw [e2]; exact RmN.refl h, fun _ => rfl, fun e => absurd e he⟩

end Go.Proofs.YteecdcocgflklaaDoor
