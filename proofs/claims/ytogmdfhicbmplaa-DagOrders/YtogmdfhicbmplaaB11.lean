import Derived.Test.YtogmdfhicbmplaaB08
import Derived.Test.YtogmdfhicbmplaaB09
namespace Go.Proofs.Ytogmdfhicbmplaa
open Go.RowKit
set_option linter.unusedSimpArgs false
set_option linter.unusedVariables false

theorem Try.in23 (w : World) (vs : Array Value) : (callFunc 23 vs).run Try.prog w = .ok (.enter 23 vs) w := by kernel_rfl
theorem Try.in16 (w : World) (vs : Array Value) : (callFunc 16 vs).run Try.prog w = .ok (.enter 16 vs) w := by kernel_rfl
theorem Try.in65 (w : World) (vs : Array Value) : (callFunc 65 vs).run Try.prog w = .ok (.enter 65 vs) w := by kernel_rfl
theorem run_appM (w : World) (ty : TypeId) (v vx : Value) (l M : List Hs) (hown : OwnH w v l) (hr : HRow w vx M) (hb : l.length + M.length ≤ 1000000000000) :
    ∃ v' w', (Builtin.append_ #[37, 37] ty #[v, vx]).run Try.prog w = .ok v' w' ∧ OwnH w' v' (l ++ M) ∧ (Grown w w' fun k => v.ownBlock = some k) ∧ Moved w v v' := by
  obtain ⟨i, hi, hzz⟩ := Option.map_eq_some_iff.1 Try.infoH
  simp only [Prod.mk.injEq] at hzz
  obtain ⟨hz, hsz, hby⟩ := hzz
  have hzs : (Value.agg (bytesA 32 fun _ => 0)).cells.size = 32 := by show (bytesA 32 fun _ => 0).size = 32; exact bytesA_size _ _
  have some_ : ∀ (a : Addr) (c : Nat), vx = .slice (some a) M.length c → (∀ j u, (flatH M)[j]? = some u → w.cell? (a.add j) = some u) → ∃ v' w', (Builtin.append_ #[37, 37] ty #[v, vx]).run Try.prog w = .ok v' w' ∧ OwnH w' v' (l ++ M) ∧ (Grown w w' fun k => v.ownBlock = some k) ∧ Moved w v v' := by
    intro a c e hc
    obtain ⟨v', w', hr, h1, h2, _, h3⟩ := run_append_own_at (P := Try.prog) w 0 37 ty 36 i (.agg (bytesA 32 fun _ => 0)) 32 32 Try.underlying37 hi hz hsz hby hzs (by omega) v l.length (flatH l) hown a M.length c (flatH M) (flatH_len M) hc (flatH_one M) (by unfold maxLen; omega) (by omega) (Nat.zero_le _)
    refine ⟨v', w', by rw [e]; exact hr, ?_, Grown.of h2 fun k _ e => e, ?_⟩
    · unfold OwnH
      rw [List.length_append, flatH_app]
      exact h1
    · rcases h3 with h3 | h3
      · exact .inl h3
      · exact .inr ⟨_, h3, Nat.le_refl _⟩
  rcases hr with ⟨ad, c, rfl, rfl, hac⟩ | ⟨b, off, cap, rfl, hcap, hc⟩
  · cases ad with
    | none =>
      obtain rfl := hac rfl
      exact ⟨v, w, run_append_owned_none (P := Try.prog) (w := w) 0 37 ty 36 i 32 Try.underlying37 hi v l.length _ hown, by rw [List.append_nil]; exact hown, Grown.refl _ _, Moved.refl _ _⟩
    | some ad => exact some_ ad c rfl (fun j u hu => by simp [flatH_nil] at hu)
  · exact some_ ⟨b, off, none⟩ cap rfl (fun j u hu => by rw [Addr.add_mid]; exact hc j u hu)
theorem WL.appM {ops : Array Oper} {rest : List Oper} {o : Oper} {a : Act} {w : World} {Q : Exit → Act → World → Prop} (hw : Region.wanted o (yielded ops a.tmps) = true) (s x : Operand)
    (ho : o.op = .call { callee := .builtin .append, args := #[s, x], argTypes := #[37, 37] }) (v vx : Value) (l M : List Hs) (hs : a.eval s = v) (hx : a.eval x = vx) (hown : OwnH w v l) (hr : HRow w vx M) (hb : l.length + M.length ≤ 1000000000000)
    (h : ∀ v' w', OwnH w' v' (l ++ M) → (Grown w w' fun k => v.ownBlock = some k) → Moved w v v' → WL Try.prog ops Q rest (a.put o.dst v') w') : WL Try.prog ops Q (o :: rest) a w :=
  ⟨wpList_wanted hw fun K hK => by
    obtain ⟨v', w', hr, h1, h2, h3⟩ := run_appM w o.type v vx l M hown hr hb
    unfold Oper.wp execOp
    simp only [ho, resolve, invoke, builtin, Sem.run_bind, Sem.run_pure, Result.andThen_ok, List.map_toArray, List.map_cons, List.map_nil, hs, hx, hr]
    exact hK _ _ (h v' w' h1 h2 h3).out⟩
theorem ix_neg {x : Hs} : ∀ (l : List Hs) (t : Nat), ixF x l t < 0 ↔ x ∉ l
  | [], t => by simp [ixF]
  | y :: r, t => by
    rw [ixF]
    by_cases h : x = y
    · rw [if_pos h]; simp [h]
    · rw [if_neg h, ix_neg r (t + 1)]; simp [h]
/-- What was gathered of those at the end of the order. -/
structure GatD (g : DG) (R Hh Nn : List Hs) : Prop where
  nm : ∀ x, x ∈ Nn ↔ ∃ y ∈ R, x ∈ parH g.held y
  hh : ∀ x, x ∈ Hh ↔ x ∈ R ∧ ∀ y ∈ R, x ∉ parH g.held y
theorem GatD.step {g : DG} (h : DI g) {i : Nat} {y : Hs} {v : VX} {Hh Nn : List Hs} (hy : g.order[i]? = some y) (hv : g.held.find? (isV y) = some v) (k : GatD g (g.order.drop (i + 1)) Hh Nn) :
    GatD g (g.order.drop i) (if ixF y Nn 0 < 0 then Hh ++ [y] else Hh) (Nn ++ v.ps) := by
  have hil := (List.getElem?_eq_some_iff.1 hy).1
  have hd : g.order.drop i = y :: g.order.drop (i + 1) := by rw [List.drop_eq_getElem_cons hil, (List.getElem?_eq_some_iff.1 hy).2]
  have hp : parH g.held y = v.ps := by unfold parH; rw [hv]
  have later : ∀ x, x ∈ g.order.drop (i + 1) → x ∉ v.ps := fun x hx hc => by
    obtain ⟨j, hj⟩ := mem_at hx
    rw [List.getElem?_drop] at hj
    have := h.oo.top i (i + 1 + j) y x hy hj (by rw [hp]; exact hc)
    omega
  have self : y ∉ v.ps := fun hc => by have := h.oo.top i i y y hy hy (by rw [hp]; exact hc); omega
  refine ⟨fun x => ?_, fun x => ?_⟩
  · rw [List.mem_append, k.nm, hd]
    constructor
    · rintro (⟨z, h1, h2⟩ | h1)
      · exact ⟨z, List.mem_cons_of_mem _ h1, h2⟩
      · exact ⟨y, List.mem_cons_self, by rw [hp]; exact h1⟩
    · rintro ⟨z, h1, h2⟩
      rcases List.mem_cons.1 h1 with rfl | h1
      · exact .inr (by rw [← hp]; exact h2)
      · exact .inl ⟨z, h1, h2⟩
  · rw [hd]
    by_cases hx : ixF y Nn 0 < 0
    · rw [if_pos hx, List.mem_append, k.hh, List.mem_singleton]
      rw [ix_neg, k.nm] at hx
      constructor
      · rintro (⟨h1, h2⟩ | rfl)
        · refine ⟨List.mem_cons_of_mem _ h1, fun z hz => ?_⟩
          rcases List.mem_cons.1 hz with rfl | hz
          · rw [hp]; exact later x h1
          · exact h2 z hz
        · refine ⟨List.mem_cons_self, fun z hz => ?_⟩
          rcases List.mem_cons.1 hz with rfl | hz
          · rw [hp]; exact self
          · exact fun hc => hx ⟨z, hz, hc⟩
      · rintro ⟨h1, h2⟩
        rcases List.mem_cons.1 h1 with rfl | h1
        · exact .inr rfl
        · exact .inl ⟨h1, fun z hz => h2 z (List.mem_cons_of_mem _ hz)⟩
    · rw [if_neg hx, k.hh]
      rw [ix_neg, Classical.not_not, k.nm] at hx
      constructor
      · rintro ⟨h1, h2⟩
        refine ⟨List.mem_cons_of_mem _ h1, fun z hz => ?_⟩
        rcases List.mem_cons.1 hz with rfl | hz
        · rw [hp]; exact later x h1
        · exact h2 z hz
      · rintro ⟨h1, h2⟩
        rcases List.mem_cons.1 h1 with rfl | h1
        · obtain ⟨z, hz, hc⟩ := hx
          exact absurd hc (h2 z (List.mem_cons_of_mem _ hz))
        · exact ⟨h1, fun z hz => h2 z (List.mem_cons_of_mem _ hz)⟩
theorem GatD.heads {g : DG} (h : DI g) {Hh Nn : List Hs} (k : GatD g g.order Hh Nn) (x : Hs) : x ∈ Hh ↔ x ∈ g.heads := by
  rw [k.hh, h.hm, h.om]
  constructor
  · rintro ⟨h1, h2⟩
    refine ⟨h1, fun v hv => ?_⟩
    have := h2 v.id ((h.om _).2 (hasB_iff.2 ⟨v, hv, rfl⟩))
    rw [parH_mem h.hn hv] at this
    exact this
  · rintro ⟨h1, h2⟩
    refine ⟨h1, fun y hy => ?_⟩
    obtain ⟨v, _, hvm, hve⟩ := find_has ((h.om y).1 hy)
    rw [← hve, parH_mem h.hn hvm]
    exact h2 v hvm
theorem DI.notWait {g : DG} (h : DI g) {x : Hs} (hx : hasB g.held x = true) : hasB g.wait x = false := by
  rw [hasB_no]
  intro v hv e
  have := h.dj v hv
  rw [e, hx] at this; cases this
theorem DI.ckp {g : DG} (h : DI g) {v : VX} (hv : v ∈ g.held) {p : Hs} (hp : p ∈ v.ps) : ckOf g.held p < ckOf g.held v.id := by
  obtain ⟨u, hu, e, hlt⟩ := ck_lt h hv hp
  unfold ckOf
  rw [← e, find_mem h.hn hu, find_mem h.hn hv]
  exact hlt
theorem pw_rises {L : List Hs} (h : L.Pairwise Lt) : risesB L = true := by
  rw [risesB_iff]
  intro i hi
  exact pw_inc h i (i + 1) (by omega) hi
theorem riR_any (v : Value) (L : List Hs) (w : World) (h : HRow w v L) (hn : (L.length : Int) ≤ 9223372036854775806) (hp : L.Pairwise Lt) : Calls Try.prog 65 #[v] w fun e w' => e = .returned (.bool true) ∧ Below w.heap.size w w' :=
  (refRising_any v L w h hn).mono fun e w' hh => ⟨by rw [hh.1, pw_rises hp], hh.2⟩
set_option maxRecDepth 8000 in
set_option maxHeartbeats 8000000 in
theorem closed_any (B0 d : Nat) (g : DG) (w : World) (hD : DS B0 w d g) : Calls Try.prog 23 #[ptr d, .int .i64 g.room] w fun e w' => e = .returned (.bool true) ∧ Below w.heap.size w w' := by
  have HD := Keep.mk hD
  have HL : Keep (g.order.length ≤ 4096) := ⟨by have := hD.di.ol; have := hD.di.hl; omega⟩
  have HQ : Keep (g.queue.length ≤ 64) := ⟨by have := hD.di.qlen; have := hD.di.wl; omega⟩
  have hol := hD.di.ol
  have HOl : Keep ((g.order.length : Int) = (g.held.length : Int)) := ⟨by omega⟩
  have hgt1 : ¬ (4096 : Int) < (g.order.length : Int) := by have := HL.out; omega
  have hgt2 : ¬ g.room < (g.queue.length : Int) := by have := hD.di.qlen; have := hD.di.ql; omega
  have hwn : IntKind.i64.wrap ((g.order.length : Int) - 1) = (g.order.length : Int) - 1 := by rw [IntKind.wrap_i64]; have := HL.out; omega
  clear hD hol
  go_enter Try.func23, Try.ntmps23
  refine wp_seq_k fun K1 hK1 => ?_
  refine wp_region_list (WL.out ?_)
  refine WL.val (by kernel_rfl) (.bool false) (by go_simp) ?_
  simp only [Act.put, pqA, pqB, pqC]
  refine WL.nil ?_
  refine hK1 _ _ ?_
  refine wp_seq_k fun K2 hK2 => ?_
  refine wp_region_list (WL.out ?_)
  refine WL.val (by kernel_rfl) (.pointer (some ⟨d, 0, none⟩)) (by go_simp) ?_
  simp only [Act.put, pqA, pqB, pqC]
  refine WL.callF (by kernel_rfl) 21 _ _ rfl Try.in21 #[ptr d] (by simp [Act.eval]) ?_
  refine (order_any d (DgS d g) g w HD.out.at' (by have := HL.out; omega)).mono ?_
  rintro e w1 ⟨v5, rfl, hf⟩
  refine ⟨_, rfl, ?_⟩
  obtain ⟨la, lc, e5⟩ := hf.own.sl
  subst e5
  have O1 := Keep.mk hf.own
  have B1 := Keep.mk hf.bel
  have D1 := Keep.mk (HD.out.below hf.bel)
  clear hf
  simp only [Act.put, pqA, pqB, pqC]
  refine WL.val (by kernel_rfl) (.slice la g.order.length lc) (by go_simp) ?_
  simp only [Act.put, pqA, pqB, pqC]
  refine WL.nil ?_
  refine hK2 _ _ ?_
  refine wp_seq_k fun K3 hK3 => ?_
  refine wp_region_list (WL.out ?_)
  refine WL.val (by kernel_rfl) (.pointer (some ⟨d, 0, none⟩)) (by go_simp) ?_
  simp only [Act.put, pqA, pqB, pqC]
  refine WL.callF (by kernel_rfl) 52 _ _ rfl Try.in52 #[ptr d] (by simp [Act.eval]) ?_
  refine (waiting_any d (DgS d g) g w1 D1.out.at' (by have := HQ.out; omega)).mono ?_
  rintro e w2 ⟨v6, rfl, hf⟩
  refine ⟨_, rfl, ?_⟩
  obtain ⟨xa, xc, e6⟩ := hf.own.sl
  subst e6
  have O5 := Keep.mk (O1.out.below hf.bel)
  have O6 := Keep.mk hf.own
  have B2 := Keep.mk (belowT B1.out hf.bel)
  have D2 := Keep.mk (D1.out.below hf.bel)
  clear hf O1 B1 D1
  simp only [Act.put, pqA, pqB, pqC]
  refine WL.val (by kernel_rfl) (.slice xa g.queue.length xc) (by go_simp) ?_
  simp only [Act.put, pqA, pqB, pqC]
  refine WL.nil ?_
  refine hK3 _ _ ?_
  refine wp_seq_k fun K4 hK4 => ?_
  refine wp_seq_k fun K5 hK5 => ?_
  refine wp_region_list (WL.out ?_)
  refine WL.val (by kernel_rfl) (.slice la g.order.length lc) (by go_simp) ?_
  simp only [Act.put, pqA, pqB, pqC]
  refine WL.val (by kernel_rfl) (.int .i64 (g.order.length : Int)) (by go_simp) ?_
  simp only [Act.put, pqA, pqB, pqC]
  refine WL.val (by kernel_rfl) (.pointer (some ⟨d, 0, none⟩)) (by go_simp) ?_
  simp only [Act.put, pqA, pqB, pqC]
  refine WL.callF (by kernel_rfl) 36 _ _ rfl Try.in36 #[ptr d] (by simp [Act.eval]) ?_
  refine (dlen_any d (DgS d g) g w2 D2.out.at').mono ?_
  rintro e wq ⟨rfl, hq⟩
  refine ⟨_, rfl, ?_⟩
  obtain rfl : w2 = wq := hq.symm
  simp only [Act.put, pqA, pqB, pqC]
  refine WL.val (by kernel_rfl) (.bool false) (by have hol := HOl.out; go_simp) ?_
  simp only [Act.put, pqA, pqB, pqC]
  refine WL.val (by kernel_rfl) (.bool false) (by go_simp) ?_
  simp only [Act.put, pqA, pqB, pqC]
  refine WL.val (by kernel_rfl) (.slice la g.order.length lc) (by go_simp) ?_
  simp only [Act.put, pqA, pqB, pqC]
  refine WL.val (by kernel_rfl) (.int .i64 (g.order.length : Int)) (by go_simp) ?_
  simp only [Act.put, pqA, pqB, pqC]
  refine WL.val (by kernel_rfl) (.bool false) (by go_simp) ?_
  simp only [Act.put, pqA, pqB, pqC]
  refine WL.val (by kernel_rfl) (.bool false) (by go_simp) ?_
  simp only [Act.put, pqA, pqB, pqC]
  refine WL.val (by kernel_rfl) (.bool false) (by go_simp) ?_
  simp only [Act.put, pqA, pqB, pqC]
  refine WL.val (by kernel_rfl) (.slice xa g.queue.length xc) (by go_simp) ?_
  simp only [Act.put, pqA, pqB, pqC]
  refine WL.val (by kernel_rfl) (.int .i64 (g.queue.length : Int)) (by go_simp) ?_
  simp only [Act.put, pqA, pqB, pqC]
  refine WL.val (by kernel_rfl) (.int .i64 g.room) (by go_simp) ?_
  simp only [Act.put, pqA, pqB, pqC]
  refine WL.val (by kernel_rfl) (.bool false) (by go_simp) ?_
  simp only [Act.put, pqA, pqB, pqC]
  refine WL.val (by kernel_rfl) (.bool false) (by go_simp) ?_
  simp only [Act.put, pqA, pqB, pqC]
  refine WL.nil ?_
  refine hK5 _ _ ?_
  refine wp_cond_false rfl ?_
  refine wp_skip ?_
  refine hK4 _ _ ?_
  refine wp_seq_k fun K6 hK6 => ?_
  refine wp_region_list (WL.out ?_)
  refine WL.bs (by kernel_rfl) 37 0 _ rfl #[] (by simp) _ _ (bsHE w2) ?_
  have O7 := Keep.mk (ownH_empty w2)
  have B3 := Keep.mk (below_new w2 (.cells #[] 36))
  generalize w2.alloc (.cells #[] 36) = w3 at *
  obtain ⟨g7, hg7⟩ : ∃ n, Keep (n = w2.heap.size) := ⟨_, ⟨rfl⟩⟩
  rw [← hg7.out]
  rw [← hg7.out] at O7
  simp only [Act.put, pqA, pqB, pqC]
  refine WL.val (by kernel_rfl) (.slice (some ⟨g7, 0, none⟩) 0 0) (by go_simp) ?_
  simp only [Act.put, pqA, pqB, pqC]
  refine WL.nil ?_
  refine hK6 _ _ ?_
  refine wp_seq_k fun K7 hK7 => ?_
  refine wp_region_list (WL.out ?_)
  refine WL.bs (by kernel_rfl) 37 0 _ rfl #[] (by simp) _ _ (bsHE w3) ?_
  have O8 := Keep.mk (ownH_empty w3)
  have B4 := Keep.mk (below_new w3 (.cells #[] 36))
  generalize w3.alloc (.cells #[] 36) = w4 at *
  obtain ⟨g8, hg8⟩ : ∃ n, Keep (n = w3.heap.size) := ⟨_, ⟨rfl⟩⟩
  rw [← hg8.out]
  rw [← hg8.out] at O8
  simp only [Act.put, pqA, pqB, pqC]
  refine WL.val (by kernel_rfl) (.slice (some ⟨g8, 0, none⟩) 0 0) (by go_simp) ?_
  simp only [Act.put, pqA, pqB, pqC]
  refine WL.nil ?_
  refine hK7 _ _ ?_
  refine wp_seq_k fun K8 hK8 => ?_
  refine wp_seq_k fun K9 hK9 => ?_
  refine wp_region_list (WL.out ?_)
  refine WL.val (by kernel_rfl) (.slice la g.order.length lc) (by go_simp) ?_
  simp only [Act.put, pqA, pqB, pqC]
  refine WL.val (by kernel_rfl) (.int .i64 (g.order.length : Int)) (by go_simp) ?_
  simp only [Act.put, pqA, pqB, pqC]
  refine WL.val (by kernel_rfl) (.int .i64 ((g.order.length : Int) - 1)) (by go_simp) ?_
  simp only [Act.put, pqA, pqB, pqC]
  refine WL.val (by kernel_rfl) (.int .i64 ((g.order.length : Int) - 1)) (by go_simp) ?_
  simp only [Act.put, pqA, pqB, pqC]
  refine WL.nil ?_
  refine hK9 _ _ ?_
  refine wp_block ?_
  refine wp_loop (fun ac wr => ∃ (t : Nat) (f : Nat → Value) (ci : Int) (Hh Nn : List Hs), ac = { tmps := #[.pointer (some ⟨d, 0, none⟩), .int .i64 g.room, undef, undef, f 4, .slice la g.order.length lc, .slice xa g.queue.length xc, f 7, f 8, .int .i64 ci, f 10, f 11, f 12, f 13, undef, undef, undef, .pointer (some ⟨d, 0, none⟩), .slice la g.order.length lc, .pointer (some ⟨d, 0, none⟩), .slice xa g.queue.length xc, .slice la g.order.length lc, .int .i64 (g.order.length : Int), .pointer (some ⟨d, 0, none⟩), .int .i64 (g.held.length : Int), .bool false, .bool false, .slice la g.order.length lc, .int .i64 (g.order.length : Int), .bool false, .bool false, .bool false, .slice xa g.queue.length xc, .int .i64 (g.queue.length : Int), .int .i64 g.room, .bool false, .bool false, .slice (some ⟨g7, 0, none⟩) 0 0, .slice (some ⟨g8, 0, none⟩) 0 0, .slice la g.order.length lc, .int .i64 (g.order.length : Int), .int .i64 ((g.order.length : Int) - 1), f 42, f 43, f 44, f 45, f 46, f 47, f 48, f 49, f 50, f 51, f 52, f 53, f 54, f 55, f 56, f 57, f 58, f 59, f 60, f 61, f 62, f 63, f 64, f 65, f 66, f 67, f 68, f 69, f 70, f 71, f 72, f 73, f 74, f 75, f 76, f 77, f 78, f 79, f 80, f 81, f 82, f 83, f 84, f 85, f 86, f 87, f 88, f 89, f 90, f 91, f 92, f 93, f 94, f 95, f 96, f 97, f 98, f 99, f 100, f 101, f 102, f 103, f 104, f 105, f 106, f 107, f 108, f 109, f 110, f 111, f 112, f 113, f 114, f 115, f 116, f 117, f 118, f 119, f 120, f 121, f 122, f 123, f 124, f 125, f 126, f 127, f 128, f 129, f 130, f 131, f 132, f 133, undef, undef, undef, undef, undef, undef, undef, undef, undef, undef, undef, undef, undef, undef, undef, undef, undef, undef, undef, undef, undef, undef, undef, undef, undef, undef, undef, undef, undef, undef, undef, undef, undef, undef, undef, undef, undef, undef, undef, undef, undef, undef, undef, undef, undef, undef, undef, undef, undef, undef, undef, undef, undef, undef, undef, undef, undef], defers := [] } ∧ t ≤ g.order.length ∧ ci = (g.order.length : Int) - 1 - (t : Int) ∧ Below w2.heap.size w2 wr ∧ OwnH wr (f 7) Hh ∧ OwnH wr (f 8) Nn ∧ ((∀ k, (f 7).ownBlock = some k → w2.heap.size ≤ k ∧ (f 8).ownBlock ≠ some k) ∧ ∀ k, (f 8).ownBlock = some k → w2.heap.size ≤ k) ∧ GatD g (g.order.drop (g.order.length - t)) Hh Nn ∧ (Hh.length ≤ t ∧ Nn.length ≤ 64 * t)) (fun a _ => ((intOf (a.tmps.getD 9 undef)) + 1).toNat) ⟨0, fun zi => [.pointer (some ⟨d, 0, none⟩), .int .i64 g.room, undef, undef, .bool false, .slice la g.order.length lc, .slice xa g.queue.length xc, .slice (some ⟨g7, 0, none⟩) 0 0, .slice (some ⟨g8, 0, none⟩) 0 0, .int .i64 ((g.order.length : Int) - 1), undef, undef, undef, undef, undef, undef, undef, .pointer (some ⟨d, 0, none⟩), .slice la g.order.length lc, .pointer (some ⟨d, 0, none⟩), .slice xa g.queue.length xc, .slice la g.order.length lc, .int .i64 (g.order.length : Int), .pointer (some ⟨d, 0, none⟩), .int .i64 (g.held.length : Int), .bool false, .bool false, .slice la g.order.length lc, .int .i64 (g.order.length : Int), .bool false, .bool false, .bool false, .slice xa g.queue.length xc, .int .i64 (g.queue.length : Int), .int .i64 g.room, .bool false, .bool false, .slice (some ⟨g7, 0, none⟩) 0 0, .slice (some ⟨g8, 0, none⟩) 0 0, .slice la g.order.length lc, .int .i64 (g.order.length : Int), .int .i64 ((g.order.length : Int) - 1), undef, undef, undef, undef, undef, undef, undef, undef, undef, undef, undef, undef, undef, undef, undef, undef, undef, undef, undef, undef, undef, undef, undef, undef, undef, undef, undef, undef, undef, undef, undef, undef, undef, undef, undef, undef, undef, undef, undef, undef, undef, undef, undef, undef, undef, undef, undef, undef, undef, undef, undef, undef, undef, undef, undef, undef, undef, undef, undef, undef, undef, undef, undef, undef, undef, undef, undef, undef, undef, undef, undef, undef, undef, undef, undef, undef, undef, undef, undef, undef, undef, undef, undef, undef, undef, undef, undef, undef, undef, undef, undef, undef, undef, undef, undef, undef, undef, undef, undef, undef, undef, undef, undef, undef, undef, undef, undef, undef, undef, undef, undef, undef, undef, undef, undef, undef, undef, undef, undef, undef, undef, undef, undef, undef, undef, undef, undef, undef, undef, undef, undef, undef, undef, undef, undef, undef, undef, undef, undef, undef, undef, undef, undef, undef, undef, undef, undef, undef, undef].getD zi undef, (g.order.length : Int) - 1, [], [], rfl, by omega, by omega, belowT B3.out B4.out, O7.out.below B4.out, O8.out, ⟨fun k hk => by have h1 : g7 = k := (by simpa [Value.ownBlock] using hk); subst h1; exact ⟨Nat.le_of_eq hg7.out.symm, fun e => by have h2 : g8 = g7 := (by simpa [Value.ownBlock] using e); have := hg7.out; have := hg8.out; have := O7.out.lt g7 rfl; omega⟩, fun k hk => by have h1 : g8 = k := (by simpa [Value.ownBlock] using hk); subst h1; have := hg8.out; have := B3.out.size; omega⟩, ⟨fun x => by simp, fun x => by simp⟩, ⟨by simp, by simp⟩⟩ ?_
  rintro ac wr ⟨t, f, ci, Hh, Nn, rfl, ht, hc, hB, h7, h8, hN, hG, hLn⟩
  have JB := Keep.mk hB
  have J7 := Keep.mk h7
  have J8 := Keep.mk h8
  have JN := Keep.mk hN
  have JG := Keep.mk hG
  have JL := Keep.mk hLn
  clear hB h7 h8 hN hG hLn
  by_cases htl : t < g.order.length
  · obtain ⟨i, hi⟩ : ∃ i : Nat, i + t + 1 = g.order.length := ⟨g.order.length - 1 - t, by omega⟩
    have hci : ci = (i : Int) := by omega
    subst hci
    clear hc
    have HI := Keep.mk hi
    have hi0 : (0 : Int) ≤ (i : Int) := by omega
    have hil : i < g.order.length := by omega
    have hil' : (i : Int) < (g.order.length : Int) := by omega
    have hwi : IntKind.i64.wrap ((i : Int) - 1) = (i : Int) - 1 := by rw [IntKind.wrap_i64]; have := HL.out; omega
    clear hi
    obtain ⟨b, off, hla, -, -, hrg⟩ := O5.out.row.at (by omega)
    subst hla
    obtain ⟨y, hy⟩ : ∃ y, Keep (g.order[i]? = some y) := ⟨_, ⟨List.getElem?_eq_getElem hil⟩⟩
    have Hlt := Keep.mk (rangeAt_lt hrg (by omega))
    have Hry : Keep (∀ wx, Below w2.heap.size w2 wx → wx.rangeAt b (off + i * 32) (encH y)) := ⟨fun wx hb => by have h := rangeAt_elem (rangeAt_below hrg hb Hlt.out) i hil; rw [(List.getElem?_eq_some_iff.1 hy.out).2] at h; exact h⟩
    obtain ⟨v, hv1, hvm, hve⟩ := find_has ((HD.out.di.om _).1 (at_mem hy.out))
    have HV1 := Keep.mk hv1
    have HVm := Keep.mk hvm
    have HVe := Keep.mk hve
    have Hhy : Keep (hasB g.held y = true) := ⟨(HD.out.di.om _).1 (at_mem hy.out)⟩
    have HVl := Keep.mk (chk_ok (HD.out.di.hc v hvm)).1
    have HVc : Keep (1 ≤ v.ck) := ⟨(chk_ok (HD.out.di.hc v hvm)).2.2.1⟩
    obtain ⟨ax, hax⟩ : ∃ a, Keep (ixF y Nn 0 = a) := ⟨_, ⟨rfl⟩⟩
    clear hrg hv1 hvm hve
    refine wp_seq_k fun K10 hK10 => ?_
    refine wp_seq_k fun K11 hK11 => ?_
    refine wp_region_list (WL.out ?_)
    refine WL.val (by kernel_rfl) (.int .i64 (i : Int)) (by go_simp) ?_
    simp only [Act.put, pqA, pqB, pqC]
    refine WL.val (by kernel_rfl) (.bool true) (by go_simp) ?_
    simp only [Act.put, pqA, pqB, pqC]
    refine WL.nil ?_
    refine hK11 _ _ ?_
    refine wp_cond_true rfl ?_
    refine wp_skip ?_
    refine hK10 _ _ ?_
    refine wp_seq_k fun K12 hK12 => ?_
    refine wp_block ?_
    refine wp_seq_k fun K13 hK13 => ?_
    refine wp_seq_k fun K14 hK14 => ?_
    refine wp_region_list (WL.out ?_)
    refine WL.val (by kernel_rfl) (f 8) (by go_simp) ?_
    simp only [Act.put, pqA, pqB, pqC]
    refine WL.val (by kernel_rfl) (.slice (some ⟨b, off, none⟩) g.order.length lc) (by go_simp) ?_
    simp only [Act.put, pqA, pqB, pqC]
    refine WL.val (by kernel_rfl) (.int .i64 (i : Int)) (by go_simp) ?_
    simp only [Act.put, pqA, pqB, pqC]
    refine WL.val (by kernel_rfl) (.pointer (some ⟨b, off + i * 32, none⟩)) (by go_simp) ?_
    simp only [Act.put, pqA, pqB, pqC]
    refine WL.mid (by kernel_rfl) 36 (.tmp 49) rfl b (off + i * 32) rfl (encH y) _ (Hry.out _ JB.out) Try.underlying36 rfl (Try.size36L y) ?_
    rw [enc_load]
    simp only [Act.put, pqA, pqB, pqC]
    have hix := refIx_any (f 8) Nn y wr J8.out.row (by have := JL.out.2; have := HL.out; omega)
    rw [hax.out] at hix
    refine WL.callF (by kernel_rfl) 63 _ _ rfl Try.in63 #[f 8, .agg (bytesA 32 y.f)] (by simp [Act.eval]) ?_
    refine (hix).mono ?_
    rintro e wa ⟨rfl, hz⟩
    refine ⟨_, rfl, ?_⟩
    clear hix
    have KB := Keep.mk (belowT JB.out hz)
    have K7 := Keep.mk (J7.out.below hz)
    have K8 := Keep.mk (J8.out.below hz)
    clear hz
    simp only [Act.put, pqA, pqB, pqC]
    by_cases h10_6 : ax < 0
    · skip
      refine WL.val (by kernel_rfl) (.bool true) (by go_simp) ?_
      simp only [Act.put, pqA, pqB, pqC]
      refine WL.nil ?_
      refine hK14 _ _ ?_
      refine wp_cond_true rfl ?_
      refine wp_region_list (WL.out ?_)
      refine WL.val (by kernel_rfl) (f 7) (by go_simp) ?_
      simp only [Act.put, pqA, pqB, pqC]
      refine WL.val (by kernel_rfl) (.slice (some ⟨b, off, none⟩) g.order.length lc) (by go_simp) ?_
      simp only [Act.put, pqA, pqB, pqC]
      refine WL.val (by kernel_rfl) (.int .i64 (i : Int)) (by go_simp) ?_
      simp only [Act.put, pqA, pqB, pqC]
      refine WL.val (by kernel_rfl) (.pointer (some ⟨b, off + i * 32, none⟩)) (by go_simp) ?_
      simp only [Act.put, pqA, pqB, pqC]
      refine WL.mid (by kernel_rfl) 36 (.tmp 56) rfl b (off + i * 32) rfl (encH y) _ (Hry.out _ KB.out) Try.underlying36 rfl (Try.size36L y) ?_
      rw [enc_load]
      simp only [Act.put, pqA, pqB, pqC]
      refine WL.bs (by kernel_rfl) 37 1 _ rfl #[(0, .agg (bytesA 32 y.f))] (by simp [Act.eval]) _ _ (bsH y wa) ?_
      have HGy := Keep.mk (Blk.new wa 36 (bytesA 32 y.f))
      have B7 := Keep.mk (below_new wa (.cells (bytesA 32 y.f) 36))
      generalize wa.alloc (.cells (bytesA 32 y.f) 36) = wb at *
      have KB7 := Keep.mk (belowT KB.out B7.out)
      have K77 := Keep.mk (K7.out.below B7.out)
      have K87 := Keep.mk (K8.out.below B7.out)
      generalize wa.heap.size = gy at *
      simp only [Act.put, pqA, pqB, pqC]
      refine WL.appH (by kernel_rfl) (.tmp 53) (.tmp 58) rfl _ Hh gy y rfl rfl K77.out HGy.out (by have := JL.out.1; have := HL.out; omega) fun v9 w9 h1 h2 h3 => ?_
      have h2' : Grown wb w9 fun k => (f 7).ownBlock = some k := h2
      have h3' : Moved wb (f 7) v9 := h3
      have L7 : Keep (OwnH w9 v9 (Hh ++ [y])) := ⟨h1⟩
      have LB : Keep (Below w2.heap.size w2 w9) := ⟨KB7.out.trans (h2'.to_below (fun k hk e => by have := (JN.out.1 k e).1; omega) KB7.out.size)⟩
      have L8 : Keep (OwnH w9 (f 8) Nn) := ⟨K87.out.grown h2' fun k hk e => (JN.out.1 k e).2 hk⟩
      have LN : Keep (∀ k, v9.ownBlock = some k → w2.heap.size ≤ k ∧ (f 8).ownBlock ≠ some k) := ⟨fun k hk => h3'.elim (fun e => JN.out.1 k (by rw [← e]; exact hk)) fun ⟨q, e, hq⟩ => by rw [hk] at e; have := Option.some.inj e; subst this; exact ⟨Nat.le_trans KB7.out.size hq, fun e => by have := K87.out.lt k e; omega⟩⟩
      clear h1 h2 h3 h2' h3'
      simp only [Act.put, pqA, pqB, pqC]
      refine WL.val (by kernel_rfl) (v9) (by go_simp) ?_
      simp only [Act.put, pqA, pqB, pqC]
      refine WL.nil ?_
      refine hK13 _ _ ?_
      refine wp_seq_k fun K15 hK15 => ?_
      have MB : Keep (Below w2.heap.size w2 w9) := LB
      have M7 : Keep (OwnH w9 v9 (if ax < 0 then Hh ++ [y] else Hh)) := ⟨by rw [if_pos h10_6]; exact L7.out⟩
      have M8 := L8
      have MN := LN
      have Mln : Keep ((if ax < 0 then Hh ++ [y] else Hh).length ≤ t + 1) := ⟨by rw [if_pos h10_6, List.length_append, List.length_singleton]; have := JL.out.1; omega⟩
      clear LB L7 L8 LN KB7 K77 K87 HGy
      refine wp_region_list (WL.out ?_)
      refine WL.val (by kernel_rfl) (.pointer (some ⟨d, 0, none⟩)) (by go_simp) ?_
      simp only [Act.put, pqA, pqB, pqC]
      refine WL.val (by kernel_rfl) (.slice (some ⟨b, off, none⟩) g.order.length lc) (by go_simp) ?_
      simp only [Act.put, pqA, pqB, pqC]
      refine WL.val (by kernel_rfl) (.int .i64 (i : Int)) (by go_simp) ?_
      simp only [Act.put, pqA, pqB, pqC]
      refine WL.val (by kernel_rfl) (.pointer (some ⟨b, off + i * 32, none⟩)) (by go_simp) ?_
      simp only [Act.put, pqA, pqB, pqC]
      refine WL.mid (by kernel_rfl) 36 (.tmp 64) rfl b (off + i * 32) rfl (encH y) _ (Hry.out _ MB.out) Try.underlying36 rfl (Try.size36L y) ?_
      rw [enc_load]
      simp only [Act.put, pqA, pqB, pqC]
      have hpa := parents_any d y (DgS d g) g w9 (D2.out.below MB.out).at' (fun u hu => by have h := HV1.out; rw [hu] at h; cases h; have := HVl.out; omega)
      refine WL.callF (by kernel_rfl) 26 _ _ rfl Try.in26 #[ptr d, .agg (bytesA 32 y.f)] (by simp [Act.eval]) ?_
      refine (hpa.mono (R' := fun e w' => ∃ v', e = .returned (.tuple #[v', .int .i64 0]) ∧ Fresh w9 w' v' v.ps) (fun e w' h => h.elim (fun h => by have h1 := h.1; rw [HV1.out] at h1; cases h1) fun ⟨u, h1, h2⟩ => by rw [HV1.out] at h1; cases h1; exact h2)).mono ?_
      rintro e wd ⟨v10, rfl, hf⟩
      refine ⟨_, rfl, ?_⟩
      clear hpa
      obtain ⟨pa, pc, e10⟩ := hf.own.sl
      subst e10
      have PO := Keep.mk hf.own
      have PN : Keep (∀ k, (Value.slice pa v.ps.length pc).ownBlock = some k → (f 8).ownBlock ≠ some k) := ⟨fun k hk e => by have := hf.new k hk; have := M8.out.lt k e; omega⟩
      have PB := Keep.mk (belowT MB.out hf.bel)
      have P7 := Keep.mk (M7.out.below hf.bel)
      have P8 := Keep.mk (M8.out.below hf.bel)
      clear hf
      simp only [Act.put, pqA, pqB, pqC]
      refine WL.val (by kernel_rfl) (.tuple #[.slice pa v.ps.length pc, .int .i64 0]) (by go_simp) ?_
      simp only [Act.put, pqA, pqB, pqC]
      refine WL.val (by kernel_rfl) (.slice pa v.ps.length pc) (by go_simp) ?_
      simp only [Act.put, pqA, pqB, pqC]
      refine WL.val (by kernel_rfl) (.int .i64 0) (by go_simp) ?_
      simp only [Act.put, pqA, pqB, pqC]
      refine WL.val (by kernel_rfl) (.slice pa v.ps.length pc) (by go_simp) ?_
      simp only [Act.put, pqA, pqB, pqC]
      refine WL.val (by kernel_rfl) (.int .i64 0) (by go_simp) ?_
      simp only [Act.put, pqA, pqB, pqC]
      refine WL.nil ?_
      refine hK15 _ _ ?_
      refine wp_seq_k fun K16 hK16 => ?_
      refine wp_seq_k fun K17 hK17 => ?_
      refine wp_region_list (WL.out ?_)
      refine WL.val (by kernel_rfl) (.int .i64 0) (by go_simp) ?_
      simp only [Act.put, pqA, pqB, pqC]
      refine WL.val (by kernel_rfl) (.bool false) (by go_simp) ?_
      simp only [Act.put, pqA, pqB, pqC]
      refine WL.val (by kernel_rfl) (.bool false) (by go_simp) ?_
      simp only [Act.put, pqA, pqB, pqC]
      refine WL.val (by kernel_rfl) (.pointer (some ⟨d, 0, none⟩)) (by go_simp) ?_
      simp only [Act.put, pqA, pqB, pqC]
      refine WL.val (by kernel_rfl) (.slice (some ⟨b, off, none⟩) g.order.length lc) (by go_simp) ?_
      simp only [Act.put, pqA, pqB, pqC]
      refine WL.val (by kernel_rfl) (.int .i64 (i : Int)) (by go_simp) ?_
      simp only [Act.put, pqA, pqB, pqC]
      refine WL.val (by kernel_rfl) (.pointer (some ⟨b, off + i * 32, none⟩)) (by go_simp) ?_
      simp only [Act.put, pqA, pqB, pqC]
      refine WL.mid (by kernel_rfl) 36 (.tmp 75) rfl b (off + i * 32) rfl (encH y) _ (Hry.out _ PB.out) Try.underlying36 rfl (Try.size36L y) ?_
      rw [enc_load]
      simp only [Act.put, pqA, pqB, pqC]
      have hhs := has_any d y (DgS d g) g wd (D2.out.below PB.out).at'
      rw [show (g.held.find? (isV y)).isSome = true from Hhy.out] at hhs
      refine WL.callF (by kernel_rfl) 45 _ _ rfl Try.in45 #[ptr d, .agg (bytesA 32 y.f)] (by simp [Act.eval]) ?_
      refine (hhs).mono ?_
      rintro e we ⟨rfl, hz⟩
      refine ⟨_, rfl, ?_⟩
      clear hhs
      have PBb := Keep.mk (belowT PB.out hz)
      have P7b := Keep.mk (P7.out.below hz)
      have P8b := Keep.mk (P8.out.below hz)
      have POb := Keep.mk (PO.out.below hz)
      clear hz
      simp only [Act.put, pqA, pqB, pqC]
      refine WL.val (by kernel_rfl) (.bool false) (by go_simp) ?_
      simp only [Act.put, pqA, pqB, pqC]
      refine WL.val (by kernel_rfl) (.bool false) (by go_simp) ?_
      simp only [Act.put, pqA, pqB, pqC]
      refine WL.val (by kernel_rfl) (.bool false) (by go_simp) ?_
      simp only [Act.put, pqA, pqB, pqC]
      refine WL.val (by kernel_rfl) (.pointer (some ⟨d, 0, none⟩)) (by go_simp) ?_
      simp only [Act.put, pqA, pqB, pqC]
      refine WL.val (by kernel_rfl) (.slice (some ⟨b, off, none⟩) g.order.length lc) (by go_simp) ?_
      simp only [Act.put, pqA, pqB, pqC]
      refine WL.val (by kernel_rfl) (.int .i64 (i : Int)) (by go_simp) ?_
      simp only [Act.put, pqA, pqB, pqC]
      refine WL.val (by kernel_rfl) (.pointer (some ⟨b, off + i * 32, none⟩)) (by go_simp) ?_
      simp only [Act.put, pqA, pqB, pqC]
      refine WL.mid (by kernel_rfl) 36 (.tmp 84) rfl b (off + i * 32) rfl (encH y) _ (Hry.out _ PBb.out) Try.underlying36 rfl (Try.size36L y) ?_
      rw [enc_load]
      simp only [Act.put, pqA, pqB, pqC]
      have hhs := waits_any d y (DgS d g) g we (D2.out.below PBb.out).at'
      rw [show (g.wait.find? (isV y)).isSome = false from HD.out.di.notWait Hhy.out] at hhs
      refine WL.callF (by kernel_rfl) 47 _ _ rfl Try.in47 #[ptr d, .agg (bytesA 32 y.f)] (by simp [Act.eval]) ?_
      refine (hhs).mono ?_
      rintro e wf ⟨rfl, hz⟩
      refine ⟨_, rfl, ?_⟩
      clear hhs
      have PBc := Keep.mk (belowT PBb.out hz)
      have P7c := Keep.mk (P7b.out.below hz)
      have P8c := Keep.mk (P8b.out.below hz)
      have POc := Keep.mk (POb.out.below hz)
      clear hz
      simp only [Act.put, pqA, pqB, pqC]
      refine WL.val (by kernel_rfl) (.bool false) (by go_simp) ?_
      simp only [Act.put, pqA, pqB, pqC]
      refine WL.val (by kernel_rfl) (.bool false) (by go_simp) ?_
      simp only [Act.put, pqA, pqB, pqC]
      refine WL.val (by kernel_rfl) (.pointer (some ⟨d, 0, none⟩)) (by go_simp) ?_
      simp only [Act.put, pqA, pqB, pqC]
      refine WL.val (by kernel_rfl) (.slice (some ⟨b, off, none⟩) g.order.length lc) (by go_simp) ?_
      simp only [Act.put, pqA, pqB, pqC]
      refine WL.val (by kernel_rfl) (.int .i64 (i : Int)) (by go_simp) ?_
      simp only [Act.put, pqA, pqB, pqC]
      refine WL.val (by kernel_rfl) (.pointer (some ⟨b, off + i * 32, none⟩)) (by go_simp) ?_
      simp only [Act.put, pqA, pqB, pqC]
      refine WL.mid (by kernel_rfl) 36 (.tmp 92) rfl b (off + i * 32) rfl (encH y) _ (Hry.out _ PBc.out) Try.underlying36 rfl (Try.size36L y) ?_
      rw [enc_load]
      simp only [Act.put, pqA, pqB, pqC]
      have hck := clock_any d y (DgS d g) g wf (D2.out.below PBc.out).at'
      rw [show ckOf g.held y = v.ck by unfold ckOf; rw [HV1.out]] at hck
      refine WL.callF (by kernel_rfl) 27 _ _ rfl Try.in27 #[ptr d, .agg (bytesA 32 y.f)] (by simp [Act.eval]) ?_
      refine (hck).mono ?_
      rintro e wg ⟨rfl, hz⟩
      refine ⟨_, rfl, ?_⟩
      clear hck
      have PBd := Keep.mk (belowT PBc.out hz)
      have P7d := Keep.mk (P7c.out.below hz)
      have P8d := Keep.mk (P8c.out.below hz)
      have POd := Keep.mk (POc.out.below hz)
      have hck1 : ¬ v.ck < 1 := by have := HVc.out; omega
      clear hz
      simp only [Act.put, pqA, pqB, pqC]
      refine WL.val (by kernel_rfl) (.bool false) (by go_simp) ?_
      simp only [Act.put, pqA, pqB, pqC]
      refine WL.val (by kernel_rfl) (.bool false) (by go_simp) ?_
      simp only [Act.put, pqA, pqB, pqC]
      refine WL.nil ?_
      refine hK17 _ _ ?_
      refine wp_cond_false rfl ?_
      refine wp_skip ?_
      refine hK16 _ _ ?_
      refine wp_seq_k fun K18 hK18 => ?_
      refine wp_region_list (WL.out ?_)
      refine WL.val (by kernel_rfl) (f 8) (by go_simp) ?_
      simp only [Act.put, pqA, pqB, pqC]
      refine WL.val (by kernel_rfl) (.slice pa v.ps.length pc) (by go_simp) ?_
      simp only [Act.put, pqA, pqB, pqC]
      refine WL.appM (by kernel_rfl) (.tmp 97) (.tmp 98) rfl (f 8) _ Nn v.ps rfl rfl P8d.out POd.out.row (by have := JL.out.2; have := HVl.out; have := HL.out; omega) fun v8 wh h1 h2 h3 => ?_
      have Q8 : Keep (OwnH wh v8 (Nn ++ v.ps)) := ⟨h1⟩
      have QG : Keep (Grown wg wh fun k => (f 8).ownBlock = some k) := ⟨h2⟩
      have QB : Keep (Below w2.heap.size w2 wh) := ⟨PBd.out.trans (QG.out.to_below (fun k hk e => by have := JN.out.2 k e; omega) PBd.out.size)⟩
      have Q7 : Keep (OwnH wh (v9) (if ax < 0 then Hh ++ [y] else Hh)) := ⟨P7d.out.grown QG.out fun k hk e => (MN.out k hk).2 e⟩
      have QO := Keep.mk (POd.out.grown QG.out fun k hk e => PN.out k hk e)
      have hsz : ∀ k, k < wg.heap.size → v8.ownBlock = some k → (f 8).ownBlock = some k := fun k hk e => h3.old hk e
      have QN8 : Keep (∀ k, v8.ownBlock = some k → w2.heap.size ≤ k) := ⟨fun k hk => (Nat.lt_or_ge k wg.heap.size).elim (fun h => JN.out.2 k (hsz k h hk)) fun h => Nat.le_trans PBd.out.size h⟩
      have QN7 : Keep (∀ k, (v9).ownBlock = some k → w2.heap.size ≤ k ∧ v8.ownBlock ≠ some k) := ⟨fun k hk => ⟨(MN.out k hk).1, fun e => (MN.out k hk).2 (hsz k (P7d.out.lt k hk) e)⟩⟩
      clear h1 h2 h3 hsz
      simp only [Act.put, pqA, pqB, pqC]
      refine WL.val (by kernel_rfl) (v8) (by go_simp) ?_
      simp only [Act.put, pqA, pqB, pqC]
      refine WL.nil ?_
      refine hK18 _ _ ?_
      refine wp_seq_k fun K19 hK19 => ?_
      refine wp_region_list (WL.out ?_)
      refine WL.val (by kernel_rfl) (.int .i64 0) (by go_simp) ?_
      simp only [Act.put, pqA, pqB, pqC]
      refine WL.nil ?_
      refine hK19 _ _ ?_
      refine wp_block ?_
      refine wp_loop (fun ac wi => ∃ (k : Nat) (h : Nat → Value), ac = { tmps := #[.pointer (some ⟨d, 0, none⟩), .int .i64 g.room, undef, undef, h 4, .slice (some ⟨b, off, none⟩) g.order.length lc, .slice xa g.queue.length xc, v9, v8, .int .i64 (i : Int), .slice pa v.ps.length pc, .int .i64 0, .int .i64 (k : Int), h 13, undef, undef, undef, .pointer (some ⟨d, 0, none⟩), .slice (some ⟨b, off, none⟩) g.order.length lc, .pointer (some ⟨d, 0, none⟩), .slice xa g.queue.length xc, .slice (some ⟨b, off, none⟩) g.order.length lc, .int .i64 (g.order.length : Int), .pointer (some ⟨d, 0, none⟩), .int .i64 (g.held.length : Int), .bool false, .bool false, .slice (some ⟨b, off, none⟩) g.order.length lc, .int .i64 (g.order.length : Int), .bool false, .bool false, .bool false, .slice xa g.queue.length xc, .int .i64 (g.queue.length : Int), .int .i64 g.room, .bool false, .bool false, .slice (some ⟨g7, 0, none⟩) 0 0, .slice (some ⟨g8, 0, none⟩) 0 0, .slice (some ⟨b, off, none⟩) g.order.length lc, .int .i64 (g.order.length : Int), .int .i64 ((g.order.length : Int) - 1), .int .i64 (i : Int), .bool true, f 44, f 45, f 8, .slice (some ⟨b, off, none⟩) g.order.length lc, .int .i64 (i : Int), .pointer (some ⟨b, off + i * 32, none⟩), .agg (bytesA 32 y.f), .int .i64 ax, .bool true, f 7, .slice (some ⟨b, off, none⟩) g.order.length lc, .int .i64 (i : Int), .pointer (some ⟨b, off + i * 32, none⟩), .agg (bytesA 32 y.f), .slice (some ⟨gy, 0, none⟩) 1 1, v9, .tuple #[.slice pa v.ps.length pc, .int .i64 0], .pointer (some ⟨d, 0, none⟩), .slice (some ⟨b, off, none⟩) g.order.length lc, .int .i64 (i : Int), .pointer (some ⟨b, off + i * 32, none⟩), .agg (bytesA 32 y.f), .tuple #[.slice pa v.ps.length pc, .int .i64 0], .slice pa v.ps.length pc, .int .i64 0, .int .i64 0, .bool false, .bool false, .pointer (some ⟨d, 0, none⟩), .slice (some ⟨b, off, none⟩) g.order.length lc, .int .i64 (i : Int), .pointer (some ⟨b, off + i * 32, none⟩), .agg (bytesA 32 y.f), .bool true, .bool false, .bool false, .bool false, .pointer (some ⟨d, 0, none⟩), .slice (some ⟨b, off, none⟩) g.order.length lc, .int .i64 (i : Int), .pointer (some ⟨b, off + i * 32, none⟩), .agg (bytesA 32 y.f), .bool false, .bool false, .bool false, .pointer (some ⟨d, 0, none⟩), .slice (some ⟨b, off, none⟩) g.order.length lc, .int .i64 (i : Int), .pointer (some ⟨b, off + i * 32, none⟩), .agg (bytesA 32 y.f), .int .i64 v.ck, .bool false, .bool false, f 8, .slice pa v.ps.length pc, v8, h 100, h 101, h 102, h 103, h 104, h 105, h 106, h 107, h 108, h 109, h 110, h 111, h 112, h 113, h 114, h 115, h 116, h 117, h 118, h 119, h 120, h 121, h 122, h 123, h 124, h 125, h 126, h 127, h 128, h 129, h 130, h 131, h 132, h 133, undef, undef, undef, undef, undef, undef, undef, undef, undef, undef, undef, undef, undef, undef, undef, undef, undef, undef, undef, undef, undef, undef, undef, undef, undef, undef, undef, undef, undef, undef, undef, undef, undef, undef, undef, undef, undef, undef, undef, undef, undef, undef, undef, undef, undef, undef, undef, undef, undef, undef, undef, undef, undef, undef, undef, undef, undef], defers := [] } ∧ k ≤ v.ps.length ∧ Below wh.heap.size wh wi) (fun a _ => v.ps.length - (intOf (a.tmps.getD 12 undef)).toNat) ⟨0, fun zi => [.pointer (some ⟨d, 0, none⟩), .int .i64 g.room, undef, undef, f 4, .slice (some ⟨b, off, none⟩) g.order.length lc, .slice xa g.queue.length xc, v9, v8, .int .i64 (i : Int), .slice pa v.ps.length pc, .int .i64 0, .int .i64 0, f 13, undef, undef, undef, .pointer (some ⟨d, 0, none⟩), .slice (some ⟨b, off, none⟩) g.order.length lc, .pointer (some ⟨d, 0, none⟩), .slice xa g.queue.length xc, .slice (some ⟨b, off, none⟩) g.order.length lc, .int .i64 (g.order.length : Int), .pointer (some ⟨d, 0, none⟩), .int .i64 (g.held.length : Int), .bool false, .bool false, .slice (some ⟨b, off, none⟩) g.order.length lc, .int .i64 (g.order.length : Int), .bool false, .bool false, .bool false, .slice xa g.queue.length xc, .int .i64 (g.queue.length : Int), .int .i64 g.room, .bool false, .bool false, .slice (some ⟨g7, 0, none⟩) 0 0, .slice (some ⟨g8, 0, none⟩) 0 0, .slice (some ⟨b, off, none⟩) g.order.length lc, .int .i64 (g.order.length : Int), .int .i64 ((g.order.length : Int) - 1), .int .i64 (i : Int), .bool true, f 44, f 45, f 8, .slice (some ⟨b, off, none⟩) g.order.length lc, .int .i64 (i : Int), .pointer (some ⟨b, off + i * 32, none⟩), .agg (bytesA 32 y.f), .int .i64 ax, .bool true, f 7, .slice (some ⟨b, off, none⟩) g.order.length lc, .int .i64 (i : Int), .pointer (some ⟨b, off + i * 32, none⟩), .agg (bytesA 32 y.f), .slice (some ⟨gy, 0, none⟩) 1 1, v9, .tuple #[.slice pa v.ps.length pc, .int .i64 0], .pointer (some ⟨d, 0, none⟩), .slice (some ⟨b, off, none⟩) g.order.length lc, .int .i64 (i : Int), .pointer (some ⟨b, off + i * 32, none⟩), .agg (bytesA 32 y.f), .tuple #[.slice pa v.ps.length pc, .int .i64 0], .slice pa v.ps.length pc, .int .i64 0, .int .i64 0, .bool false, .bool false, .pointer (some ⟨d, 0, none⟩), .slice (some ⟨b, off, none⟩) g.order.length lc, .int .i64 (i : Int), .pointer (some ⟨b, off + i * 32, none⟩), .agg (bytesA 32 y.f), .bool true, .bool false, .bool false, .bool false, .pointer (some ⟨d, 0, none⟩), .slice (some ⟨b, off, none⟩) g.order.length lc, .int .i64 (i : Int), .pointer (some ⟨b, off + i * 32, none⟩), .agg (bytesA 32 y.f), .bool false, .bool false, .bool false, .pointer (some ⟨d, 0, none⟩), .slice (some ⟨b, off, none⟩) g.order.length lc, .int .i64 (i : Int), .pointer (some ⟨b, off + i * 32, none⟩), .agg (bytesA 32 y.f), .int .i64 v.ck, .bool false, .bool false, f 8, .slice pa v.ps.length pc, v8, f 100, f 101, f 102, f 103, f 104, f 105, f 106, f 107, f 108, f 109, f 110, f 111, f 112, f 113, f 114, f 115, f 116, f 117, f 118, f 119, f 120, f 121, f 122, f 123, f 124, f 125, f 126, f 127, f 128, f 129, f 130, f 131, f 132, f 133, undef, undef, undef, undef, undef, undef, undef, undef, undef, undef, undef, undef, undef, undef, undef, undef, undef, undef, undef, undef, undef, undef, undef, undef, undef, undef, undef, undef, undef, undef, undef, undef, undef, undef, undef, undef, undef, undef, undef, undef, undef, undef, undef, undef, undef, undef, undef, undef, undef, undef, undef, undef, undef, undef, undef, undef, undef].getD zi undef, rfl, by omega, Below.refl _ _⟩ ?_
      rintro ac wi ⟨k, h, rfl, hk, hC⟩
      have KC := Keep.mk hC
      clear hC
      by_cases hkl : k < v.ps.length
      · have hkl' : (k : Int) < (v.ps.length : Int) := by omega
        have hwk : IntKind.i64.wrap ((k : Int) + 1) = ((k + 1 : Nat) : Int) := by rw [IntKind.wrap_i64]; have := HVl.out; omega
        obtain ⟨gq, oq, hqa, -, -, hrq⟩ := QO.out.row.at (by omega)
        subst hqa
        obtain ⟨p, hp⟩ : ∃ p, Keep (p = v.ps[k]) := ⟨_, ⟨rfl⟩⟩
        have Hlp := Keep.mk (rangeAt_lt hrq (by omega))
        have Hrp : Keep (∀ wx, Below wh.heap.size wh wx → wx.rangeAt gq (oq + k * 32) (encH p)) := ⟨fun wx hb => by rw [hp.out]; exact rangeAt_elem (rangeAt_below hrq hb Hlp.out) k hkl⟩
        have hpm : p ∈ v.ps := by rw [hp.out]; exact List.getElem_mem hkl
        obtain ⟨ja, hja, hjb, hjc⟩ := par_at HD.out.di HVm.out hpm
        have HJ := Keep.mk hjc
        have hji : ja < i := HD.out.di.oo.top i ja y p hy.out hjb (by unfold parH; rw [HV1.out]; exact hpm)
        have hji' : ¬ (i : Int) ≤ (ja : Int) := by omega
        have hj0 : ¬ (ja : Int) < 0 := by omega
        obtain ⟨cp, hcp⟩ : ∃ c, Keep (ckOf g.held p = c) := ⟨_, ⟨rfl⟩⟩
        have hcl : ¬ v.ck ≤ cp := by have h := HD.out.di.ckp HVm.out hpm; rw [hcp.out, HVe.out, show ckOf g.held y = v.ck by unfold ckOf; rw [HV1.out]] at h; omega
        clear hrq hja hjb hjc hpm
        refine wp_seq_k fun K20 hK20 => ?_
        refine wp_seq_k fun K21 hK21 => ?_
        refine wp_region_list (WL.out ?_)
        refine WL.val (by kernel_rfl) (.int .i64 (k : Int)) (by go_simp) ?_
        simp only [Act.put, pqA, pqB, pqC]
        refine WL.val (by kernel_rfl) (.slice (some ⟨gq, oq, none⟩) v.ps.length pc) (by go_simp) ?_
        simp only [Act.put, pqA, pqB, pqC]
        refine WL.val (by kernel_rfl) (.int .i64 (v.ps.length : Int)) (by go_simp) ?_
        simp only [Act.put, pqA, pqB, pqC]
        refine WL.val (by kernel_rfl) (.bool true) (by go_simp) ?_
        simp only [Act.put, pqA, pqB, pqC]
        refine WL.nil ?_
        refine hK21 _ _ ?_
        refine wp_cond_true rfl ?_
        refine wp_skip ?_
        refine hK20 _ _ ?_
        refine wp_seq_k fun K22 hK22 => ?_
        refine wp_block ?_
        refine wp_seq_k fun K23 hK23 => ?_
        refine wp_region_list (WL.out ?_)
        refine WL.val (by kernel_rfl) (.slice (some ⟨b, off, none⟩) g.order.length lc) (by go_simp) ?_
        simp only [Act.put, pqA, pqB, pqC]
        refine WL.val (by kernel_rfl) (.slice (some ⟨gq, oq, none⟩) v.ps.length pc) (by go_simp) ?_
        simp only [Act.put, pqA, pqB, pqC]
        refine WL.val (by kernel_rfl) (.int .i64 (k : Int)) (by go_simp) ?_
        simp only [Act.put, pqA, pqB, pqC]
        refine WL.val (by kernel_rfl) (.pointer (some ⟨gq, oq + k * 32, none⟩)) (by go_simp) ?_
        simp only [Act.put, pqA, pqB, pqC]
        refine WL.mid (by kernel_rfl) 36 (.tmp 109) rfl gq (oq + k * 32) rfl (encH p) _ (Hrp.out _ KC.out) Try.underlying36 rfl (Try.size36L p) ?_
        rw [enc_load]
        simp only [Act.put, pqA, pqB, pqC]
        have hix := refIx_any (.slice (some ⟨b, off, none⟩) g.order.length lc) g.order p wi (O5.out.below (belowT QB.out KC.out)).row (by have := HL.out; omega)
        rw [HJ.out] at hix
        refine WL.callF (by kernel_rfl) 63 _ _ rfl Try.in63 #[.slice (some ⟨b, off, none⟩) g.order.length lc, .agg (bytesA 32 p.f)] (by simp [Act.eval]) ?_
        refine (hix).mono ?_
        rintro e wj ⟨rfl, hz⟩
        refine ⟨_, rfl, ?_⟩
        clear hix
        have KJ := Keep.mk (belowT KC.out hz)
        clear hz
        simp only [Act.put, pqA, pqB, pqC]
        refine WL.val (by kernel_rfl) (.int .i64 (ja : Int)) (by go_simp) ?_
        simp only [Act.put, pqA, pqB, pqC]
        refine WL.nil ?_
        refine hK23 _ _ ?_
        refine wp_seq_k fun K24 hK24 => ?_
        have hS0 : Keep (∀ wx, Below wh.heap.size wh wx → (fun wx => wx.rangeAt gq (oq + k * 32) (encH p) ∧ wx.rangeAt b (off + i * 32) (encH y)) wx) := ⟨fun wx hb => ⟨Hrp.out _ hb, Hry.out _ (belowT QB.out hb)⟩⟩
        have KD : Keep (Below wh.heap.size wh wj.drew) := ⟨KJ.out.drew⟩
        refine wp_region_held_drew (S := fun wx => wx.rangeAt gq (oq + k * 32) (encH p) ∧ wx.rangeAt b (off + i * 32) (encH y)) (by kernel_rfl) (hS0.out _ KD.out) (fun hHeld => ?_)
        refine wpAnyH_take (i := 0) (oi := ⟨some 112, Op.move (Operand.tmp 13), 3, _, _, none⟩) (v := .int .i64 (ja : Int)) rfl (by kernel_rfl) (by kernel_rfl) (by kernel_rfl) (fun _ _ _ h => h) (Or.inl ⟨by rfl, fun w hS => by clear hS; go_simp⟩) hHeld ?_
        simp only [Act.put, pqA, pqB, pqC]
        refine wpAnyH_take (i := 1) (oi := ⟨some 113, Op.binOp BinOp.lss 3 (Operand.tmp 112) (Operand.const (Value.int IntKind.i64 0)) 3, 4, _, _, none⟩) (v := .bool false) rfl (by kernel_rfl) (by kernel_rfl) (by kernel_rfl) (fun _ _ _ h => h) (Or.inl ⟨by rfl, fun w hS => by clear hS; go_simp⟩) hHeld ?_
        simp only [Act.put, pqA, pqB, pqC]
        refine wpAnyH_take (i := 2) (oi := ⟨some 114, Op.move (Operand.tmp 113), 4, _, _, none⟩) (v := .bool false) rfl (by kernel_rfl) (by kernel_rfl) (by kernel_rfl) (fun _ _ _ h => h) (Or.inl ⟨by rfl, fun w hS => by clear hS; go_simp⟩) hHeld ?_
        simp only [Act.put, pqA, pqB, pqC]
        refine wpAnyH_take (i := 3) (oi := ⟨some 115, Op.move (Operand.tmp 13), 3, _, _, some (2, false)⟩) (v := .int .i64 (ja : Int)) rfl (by kernel_rfl) (by kernel_rfl) (by kernel_rfl) (fun _ _ _ h => h) (Or.inl ⟨by rfl, fun w hS => by clear hS; go_simp⟩) hHeld ?_
        simp only [Act.put, pqA, pqB, pqC]
        refine wpAnyH_take (i := 4) (oi := ⟨some 116, Op.move (Operand.tmp 9), 3, _, _, some (2, false)⟩) (v := .int .i64 (i : Int)) rfl (by kernel_rfl) (by kernel_rfl) (by kernel_rfl) (fun _ _ _ h => h) (Or.inl ⟨by rfl, fun w hS => by clear hS; go_simp⟩) hHeld ?_
        simp only [Act.put, pqA, pqB, pqC]
        refine wpAnyH_take (i := 5) (oi := ⟨some 117, Op.binOp BinOp.geq 3 (Operand.tmp 115) (Operand.tmp 116) 3, 4, _, _, some (2, false)⟩) (v := .bool false) rfl (by kernel_rfl) (by kernel_rfl) (by kernel_rfl) (fun _ _ _ h => h) (Or.inl ⟨by rfl, fun w hS => by clear hS; go_simp⟩) hHeld ?_
        simp only [Act.put, pqA, pqB, pqC]
        refine wpAnyH_take (i := 6) (oi := ⟨some 118, Op.pick (Operand.tmp 114) (Operand.const (Value.bool true)) (Operand.tmp 117), 4, _, _, none⟩) (v := .bool false) rfl (by kernel_rfl) (by kernel_rfl) (by kernel_rfl) (fun _ _ _ h => h) (Or.inl ⟨by rfl, fun w hS => by clear hS; go_simp⟩) hHeld ?_
        simp only [Act.put, pqA, pqB, pqC]
        refine wpAnyH_take (i := 7) (oi := ⟨some 119, Op.move (Operand.tmp 118), 4, _, _, none⟩) (v := .bool false) rfl (by kernel_rfl) (by kernel_rfl) (by kernel_rfl) (fun _ _ _ h => h) (Or.inl ⟨by rfl, fun w hS => by clear hS; go_simp⟩) hHeld ?_
        simp only [Act.put, pqA, pqB, pqC]
        refine wpAnyH_take (i := 8) (oi := ⟨some 120, Op.move (Operand.tmp 0), 27, _, _, some (7, false)⟩) (v := .pointer (some ⟨d, 0, none⟩)) rfl (by kernel_rfl) (by kernel_rfl) (by kernel_rfl) (fun _ _ _ h => h) (Or.inl ⟨by rfl, fun w hS => by clear hS; go_simp⟩) hHeld ?_
        simp only [Act.put, pqA, pqB, pqC]
        refine wpAnyH_take (i := 9) (oi := ⟨some 121, Op.move (Operand.tmp 10), 37, _, _, some (7, false)⟩) (v := .slice (some ⟨gq, oq, none⟩) v.ps.length pc) rfl (by kernel_rfl) (by kernel_rfl) (by kernel_rfl) (fun _ _ _ h => h) (Or.inl ⟨by rfl, fun w hS => by clear hS; go_simp⟩) hHeld ?_
        simp only [Act.put, pqA, pqB, pqC]
        refine wpAnyH_take (i := 10) (oi := ⟨some 122, Op.move (Operand.tmp 12), 3, _, _, some (7, false)⟩) (v := .int .i64 (k : Int)) rfl (by kernel_rfl) (by kernel_rfl) (by kernel_rfl) (fun _ _ _ h => h) (Or.inl ⟨by rfl, fun w hS => by clear hS; go_simp⟩) hHeld ?_
        simp only [Act.put, pqA, pqB, pqC]
        refine wpAnyH_take (i := 11) (oi := ⟨some 123, Op.indexAddr 37 (Operand.tmp 121) (Operand.tmp 122), 0, _, _, some (7, false)⟩) (v := .pointer (some ⟨gq, oq + k * 32, none⟩)) rfl (by kernel_rfl) (by kernel_rfl) (by kernel_rfl) (fun _ _ _ h => h) (Or.inl ⟨by rfl, fun w hS => by clear hS; go_simp⟩) hHeld ?_
        simp only [Act.put, pqA, pqB, pqC]
        refine wpAnyH_take (i := 12) (oi := ⟨some 124, Op.load 36 (Operand.tmp 123), 36, _, _, some (7, false)⟩) (v := .agg (bytesA 32 p.f)) rfl (by kernel_rfl) (by kernel_rfl) (by kernel_rfl) (fun _ _ _ h => h) (yieldsIf_ldE (by rfl) (Operand.tmp 123) rfl gq (oq + k * 32) rfl p fun w hS => hS.1) hHeld ?_
        simp only [Act.put, pqA, pqB, pqC]
        refine wpAnyH_take (i := 14) (oi := ⟨some 126, Op.move (Operand.tmp 0), 27, _, _, some (7, false)⟩) (v := .pointer (some ⟨d, 0, none⟩)) rfl (by kernel_rfl) (by kernel_rfl) (by kernel_rfl) (fun _ _ _ h => h) (Or.inl ⟨by rfl, fun w hS => by clear hS; go_simp⟩) hHeld ?_
        simp only [Act.put, pqA, pqB, pqC]
        refine wpAnyH_take (i := 15) (oi := ⟨some 127, Op.move (Operand.tmp 5), 37, _, _, some (7, false)⟩) (v := .slice (some ⟨b, off, none⟩) g.order.length lc) rfl (by kernel_rfl) (by kernel_rfl) (by kernel_rfl) (fun _ _ _ h => h) (Or.inl ⟨by rfl, fun w hS => by clear hS; go_simp⟩) hHeld ?_
        simp only [Act.put, pqA, pqB, pqC]
        refine wpAnyH_take (i := 16) (oi := ⟨some 128, Op.move (Operand.tmp 9), 3, _, _, some (7, false)⟩) (v := .int .i64 (i : Int)) rfl (by kernel_rfl) (by kernel_rfl) (by kernel_rfl) (fun _ _ _ h => h) (Or.inl ⟨by rfl, fun w hS => by clear hS; go_simp⟩) hHeld ?_
        simp only [Act.put, pqA, pqB, pqC]
        refine wpAnyH_take (i := 17) (oi := ⟨some 129, Op.indexAddr 37 (Operand.tmp 127) (Operand.tmp 128), 0, _, _, some (7, false)⟩) (v := .pointer (some ⟨b, off + i * 32, none⟩)) rfl (by kernel_rfl) (by kernel_rfl) (by kernel_rfl) (fun _ _ _ h => h) (Or.inl ⟨by rfl, fun w hS => by clear hS; go_simp⟩) hHeld ?_
        simp only [Act.put, pqA, pqB, pqC]
        refine wpAnyH_take (i := 18) (oi := ⟨some 130, Op.load 36 (Operand.tmp 129), 36, _, _, some (7, false)⟩) (v := .agg (bytesA 32 y.f)) rfl (by kernel_rfl) (by kernel_rfl) (by kernel_rfl) (fun _ _ _ h => h) (yieldsIf_ldE (by rfl) (Operand.tmp 129) rfl b (off + i * 32) rfl y fun w hS => hS.2) hHeld ?_
        simp only [Act.put, pqA, pqB, pqC]
        refine wpAnyH_ready (rs := [13]) (by kernel_rfl) (by simp) ?_
        refine AllReadyH.cons (o := ⟨some 125, Op.call { callee := Callee.value (Operand.func 27), args := #[Operand.tmp 120, Operand.tmp 124], argTypes := #[27, 36] }, 3, _, _, some (7, false)⟩) rfl (fun K hK => ?_) AllReadyH.nil
        rw [if_pos (by rfl)]
        have hck := clock_any d p (DgS d g) g wj.drew (D2.out.below (belowT QB.out KD.out)).at'
        rw [hcp.out] at hck
        refine wp_callF 27 _ _ rfl Try.in27 #[ptr d, .agg (bytesA 32 p.f)] (by simp [Act.eval]) (fun u wx => u = .int .i64 cp ∧ Below wj.drew.heap.size wj.drew wx) (hck.mono fun e w' ⟨h1, h2⟩ => ⟨_, h1, rfl, h2⟩) ?_
        clear hck
        rintro _ wk ⟨rfl, hb⟩
        have KE := Keep.mk (belowT KD.out hb)
        refine hK _ _ (hS0.out _ KE.out) fun hH1 => ?_
        clear hK hb
        simp only [Act.put, pqA, pqB, pqC]
        refine wpAnyH_ready (rs := [19]) (by kernel_rfl) (by simp) ?_
        refine AllReadyH.cons (o := ⟨some 131, Op.call { callee := Callee.value (Operand.func 27), args := #[Operand.tmp 126, Operand.tmp 130], argTypes := #[27, 36] }, 3, _, _, some (7, false)⟩) rfl (fun K hK => ?_) AllReadyH.nil
        rw [if_pos (by rfl)]
        have hck := clock_any d y (DgS d g) g wk (D2.out.below (belowT QB.out KE.out)).at'
        rw [show ckOf g.held y = v.ck by unfold ckOf; rw [HV1.out]] at hck
        refine wp_callF 27 _ _ rfl Try.in27 #[ptr d, .agg (bytesA 32 y.f)] (by simp [Act.eval]) (fun u wx => u = .int .i64 v.ck ∧ Below wk.heap.size wk wx) (hck.mono fun e w' ⟨h1, h2⟩ => ⟨_, h1, rfl, h2⟩) ?_
        clear hck
        rintro _ wl ⟨rfl, hb⟩
        have KF := Keep.mk (belowT KE.out hb)
        refine hK _ _ (hS0.out _ KF.out) fun hH2 => ?_
        clear hK hb
        simp only [Act.put, pqA, pqB, pqC]
        refine wpAnyH_take (i := 20) (oi := ⟨some 132, Op.binOp BinOp.geq 3 (Operand.tmp 125) (Operand.tmp 131) 3, 4, _, _, some (7, false)⟩) (v := .bool false) rfl (by kernel_rfl) (by kernel_rfl) (by kernel_rfl) (fun _ _ _ h => h) (Or.inl ⟨by rfl, fun w hS => by clear hS; go_simp⟩) hH2 ?_
        simp only [Act.put, pqA, pqB, pqC]
        refine wpAnyH_take (i := 21) (oi := ⟨some 133, Op.pick (Operand.tmp 119) (Operand.const (Value.bool true)) (Operand.tmp 132), 4, _, _, none⟩) (v := .bool false) rfl (by kernel_rfl) (by kernel_rfl) (by kernel_rfl) (fun _ _ _ h => h) (Or.inl ⟨by rfl, fun w hS => by clear hS; go_simp⟩) hH2 ?_
        simp only [Act.put, pqA, pqB, pqC]
        refine wpAnyH_done (by kernel_rfl) ?_ _
        refine hK24 _ _ ?_
        refine wp_cond_false rfl ?_
        refine wp_skip ?_
        refine hK22 _ _ ?_
        refine wp_region_list (WL.out ?_)
        refine WL.val (by kernel_rfl) (.int .i64 (k : Int)) (by go_simp) ?_
        simp only [Act.put, pqA, pqB, pqC]
        refine WL.val (by kernel_rfl) (.int .i64 ((k + 1 : Nat) : Int)) (by go_simp) ?_
        simp only [Act.put, pqA, pqB, pqC]
        refine WL.val (by kernel_rfl) (.int .i64 ((k + 1 : Nat) : Int)) (by go_simp) ?_
        simp only [Act.put, pqA, pqB, pqC]
        refine WL.nil ?_
        refine ⟨⟨k + 1, fun zi => [.pointer (some ⟨d, 0, none⟩), .int .i64 g.room, undef, undef, h 4, .slice (some ⟨b, off, none⟩) g.order.length lc, .slice xa g.queue.length xc, v9, v8, .int .i64 (i : Int), .slice (some ⟨gq, oq, none⟩) v.ps.length pc, .int .i64 0, .int .i64 ((k + 1 : Nat) : Int), .int .i64 (ja : Int), undef, undef, undef, .pointer (some ⟨d, 0, none⟩), .slice (some ⟨b, off, none⟩) g.order.length lc, .pointer (some ⟨d, 0, none⟩), .slice xa g.queue.length xc, .slice (some ⟨b, off, none⟩) g.order.length lc, .int .i64 (g.order.length : Int), .pointer (some ⟨d, 0, none⟩), .int .i64 (g.held.length : Int), .bool false, .bool false, .slice (some ⟨b, off, none⟩) g.order.length lc, .int .i64 (g.order.length : Int), .bool false, .bool false, .bool false, .slice xa g.queue.length xc, .int .i64 (g.queue.length : Int), .int .i64 g.room, .bool false, .bool false, .slice (some ⟨g7, 0, none⟩) 0 0, .slice (some ⟨g8, 0, none⟩) 0 0, .slice (some ⟨b, off, none⟩) g.order.length lc, .int .i64 (g.order.length : Int), .int .i64 ((g.order.length : Int) - 1), .int .i64 (i : Int), .bool true, f 44, f 45, f 8, .slice (some ⟨b, off, none⟩) g.order.length lc, .int .i64 (i : Int), .pointer (some ⟨b, off + i * 32, none⟩), .agg (bytesA 32 y.f), .int .i64 ax, .bool true, f 7, .slice (some ⟨b, off, none⟩) g.order.length lc, .int .i64 (i : Int), .pointer (some ⟨b, off + i * 32, none⟩), .agg (bytesA 32 y.f), .slice (some ⟨gy, 0, none⟩) 1 1, v9, .tuple #[.slice (some ⟨gq, oq, none⟩) v.ps.length pc, .int .i64 0], .pointer (some ⟨d, 0, none⟩), .slice (some ⟨b, off, none⟩) g.order.length lc, .int .i64 (i : Int), .pointer (some ⟨b, off + i * 32, none⟩), .agg (bytesA 32 y.f), .tuple #[.slice (some ⟨gq, oq, none⟩) v.ps.length pc, .int .i64 0], .slice (some ⟨gq, oq, none⟩) v.ps.length pc, .int .i64 0, .int .i64 0, .bool false, .bool false, .pointer (some ⟨d, 0, none⟩), .slice (some ⟨b, off, none⟩) g.order.length lc, .int .i64 (i : Int), .pointer (some ⟨b, off + i * 32, none⟩), .agg (bytesA 32 y.f), .bool true, .bool false, .bool false, .bool false, .pointer (some ⟨d, 0, none⟩), .slice (some ⟨b, off, none⟩) g.order.length lc, .int .i64 (i : Int), .pointer (some ⟨b, off + i * 32, none⟩), .agg (bytesA 32 y.f), .bool false, .bool false, .bool false, .pointer (some ⟨d, 0, none⟩), .slice (some ⟨b, off, none⟩) g.order.length lc, .int .i64 (i : Int), .pointer (some ⟨b, off + i * 32, none⟩), .agg (bytesA 32 y.f), .int .i64 v.ck, .bool false, .bool false, f 8, .slice (some ⟨gq, oq, none⟩) v.ps.length pc, v8, .int .i64 (k : Int), .slice (some ⟨gq, oq, none⟩) v.ps.length pc, .int .i64 (v.ps.length : Int), .bool true, .int .i64 (k : Int), .int .i64 ((k + 1 : Nat) : Int), .slice (some ⟨b, off, none⟩) g.order.length lc, .slice (some ⟨gq, oq, none⟩) v.ps.length pc, .int .i64 (k : Int), .pointer (some ⟨gq, oq + k * 32, none⟩), .agg (bytesA 32 p.f), .int .i64 (ja : Int), .int .i64 (ja : Int), .bool false, .bool false, .int .i64 (ja : Int), .int .i64 (i : Int), .bool false, .bool false, .bool false, .pointer (some ⟨d, 0, none⟩), .slice (some ⟨gq, oq, none⟩) v.ps.length pc, .int .i64 (k : Int), .pointer (some ⟨gq, oq + k * 32, none⟩), .agg (bytesA 32 p.f), .int .i64 cp, .pointer (some ⟨d, 0, none⟩), .slice (some ⟨b, off, none⟩) g.order.length lc, .int .i64 (i : Int), .pointer (some ⟨b, off + i * 32, none⟩), .agg (bytesA 32 y.f), .int .i64 v.ck, .bool false, .bool false, undef, undef, undef, undef, undef, undef, undef, undef, undef, undef, undef, undef, undef, undef, undef, undef, undef, undef, undef, undef, undef, undef, undef, undef, undef, undef, undef, undef, undef, undef, undef, undef, undef, undef, undef, undef, undef, undef, undef, undef, undef, undef, undef, undef, undef, undef, undef, undef, undef, undef, undef, undef, undef, undef, undef, undef, undef].getD zi undef, rfl, by omega, KF.out⟩, ?_⟩
        simp only [intOf]; show v.ps.length - (((k + 1 : Nat) : Int)).toNat < v.ps.length - ((k : Int)).toNat; omega
      · have hkl' : ¬ (k : Int) < (v.ps.length : Int) := by omega
        have RB := Keep.mk (belowT QB.out KC.out)
        have R7 := Keep.mk (Q7.out.below KC.out)
        have R8 := Keep.mk (Q8.out.below KC.out)
        refine wp_seq_k fun K25 hK25 => ?_
        refine wp_seq_k fun K26 hK26 => ?_
        refine wp_region_list (WL.out ?_)
        refine WL.val (by kernel_rfl) (.int .i64 (k : Int)) (by go_simp) ?_
        simp only [Act.put, pqA, pqB, pqC]
        refine WL.val (by kernel_rfl) (.slice pa v.ps.length pc) (by go_simp) ?_
        simp only [Act.put, pqA, pqB, pqC]
        refine WL.val (by kernel_rfl) (.int .i64 (v.ps.length : Int)) (by go_simp) ?_
        simp only [Act.put, pqA, pqB, pqC]
        refine WL.val (by kernel_rfl) (.bool false) (by go_simp) ?_
        simp only [Act.put, pqA, pqB, pqC]
        refine WL.nil ?_
        refine hK26 _ _ ?_
        refine wp_cond_false rfl ?_
        refine wp_exit ?_
        refine hK12 _ _ ?_
        refine wp_region_list (WL.out ?_)
        refine WL.val (by kernel_rfl) (.int .i64 (i : Int)) (by go_simp) ?_
        simp only [Act.put, pqA, pqB, pqC]
        refine WL.val (by kernel_rfl) (.int .i64 ((i : Int) - 1)) (by go_simp) ?_
        simp only [Act.put, pqA, pqB, pqC]
        refine WL.val (by kernel_rfl) (.int .i64 ((i : Int) - 1)) (by go_simp) ?_
        simp only [Act.put, pqA, pqB, pqC]
        refine WL.nil ?_
        refine ⟨⟨t + 1, fun zi => [.pointer (some ⟨d, 0, none⟩), .int .i64 g.room, undef, undef, h 4, .slice (some ⟨b, off, none⟩) g.order.length lc, .slice xa g.queue.length xc, v9, v8, .int .i64 ((i : Int) - 1), .slice pa v.ps.length pc, .int .i64 0, .int .i64 (k : Int), h 13, undef, undef, undef, .pointer (some ⟨d, 0, none⟩), .slice (some ⟨b, off, none⟩) g.order.length lc, .pointer (some ⟨d, 0, none⟩), .slice xa g.queue.length xc, .slice (some ⟨b, off, none⟩) g.order.length lc, .int .i64 (g.order.length : Int), .pointer (some ⟨d, 0, none⟩), .int .i64 (g.held.length : Int), .bool false, .bool false, .slice (some ⟨b, off, none⟩) g.order.length lc, .int .i64 (g.order.length : Int), .bool false, .bool false, .bool false, .slice xa g.queue.length xc, .int .i64 (g.queue.length : Int), .int .i64 g.room, .bool false, .bool false, .slice (some ⟨g7, 0, none⟩) 0 0, .slice (some ⟨g8, 0, none⟩) 0 0, .slice (some ⟨b, off, none⟩) g.order.length lc, .int .i64 (g.order.length : Int), .int .i64 ((g.order.length : Int) - 1), .int .i64 (i : Int), .bool true, .int .i64 (i : Int), .int .i64 ((i : Int) - 1), f 8, .slice (some ⟨b, off, none⟩) g.order.length lc, .int .i64 (i : Int), .pointer (some ⟨b, off + i * 32, none⟩), .agg (bytesA 32 y.f), .int .i64 ax, .bool true, f 7, .slice (some ⟨b, off, none⟩) g.order.length lc, .int .i64 (i : Int), .pointer (some ⟨b, off + i * 32, none⟩), .agg (bytesA 32 y.f), .slice (some ⟨gy, 0, none⟩) 1 1, v9, .tuple #[.slice pa v.ps.length pc, .int .i64 0], .pointer (some ⟨d, 0, none⟩), .slice (some ⟨b, off, none⟩) g.order.length lc, .int .i64 (i : Int), .pointer (some ⟨b, off + i * 32, none⟩), .agg (bytesA 32 y.f), .tuple #[.slice pa v.ps.length pc, .int .i64 0], .slice pa v.ps.length pc, .int .i64 0, .int .i64 0, .bool false, .bool false, .pointer (some ⟨d, 0, none⟩), .slice (some ⟨b, off, none⟩) g.order.length lc, .int .i64 (i : Int), .pointer (some ⟨b, off + i * 32, none⟩), .agg (bytesA 32 y.f), .bool true, .bool false, .bool false, .bool false, .pointer (some ⟨d, 0, none⟩), .slice (some ⟨b, off, none⟩) g.order.length lc, .int .i64 (i : Int), .pointer (some ⟨b, off + i * 32, none⟩), .agg (bytesA 32 y.f), .bool false, .bool false, .bool false, .pointer (some ⟨d, 0, none⟩), .slice (some ⟨b, off, none⟩) g.order.length lc, .int .i64 (i : Int), .pointer (some ⟨b, off + i * 32, none⟩), .agg (bytesA 32 y.f), .int .i64 v.ck, .bool false, .bool false, f 8, .slice pa v.ps.length pc, v8, .int .i64 (k : Int), .slice pa v.ps.length pc, .int .i64 (v.ps.length : Int), .bool false, h 104, h 105, h 106, h 107, h 108, h 109, h 110, h 111, h 112, h 113, h 114, h 115, h 116, h 117, h 118, h 119, h 120, h 121, h 122, h 123, h 124, h 125, h 126, h 127, h 128, h 129, h 130, h 131, h 132, h 133, undef, undef, undef, undef, undef, undef, undef, undef, undef, undef, undef, undef, undef, undef, undef, undef, undef, undef, undef, undef, undef, undef, undef, undef, undef, undef, undef, undef, undef, undef, undef, undef, undef, undef, undef, undef, undef, undef, undef, undef, undef, undef, undef, undef, undef, undef, undef, undef, undef, undef, undef, undef, undef, undef, undef, undef, undef].getD zi undef, (i : Int) - 1, (if ax < 0 then Hh ++ [y] else Hh), Nn ++ v.ps, rfl, by have := HI.out; omega, by have := HI.out; omega, RB.out, R7.out, R8.out, ⟨QN7.out, QN8.out⟩, ?_, ⟨Mln.out, by rw [List.length_append]; have := JL.out.2; have := HVl.out; omega⟩⟩, ?_⟩
        · have h := GatD.step HD.out.di hy.out HV1.out (by have h := JG.out; rw [show g.order.length - t = i + 1 by have := HI.out; omega] at h; exact h)
          rw [hax.out] at h
          rw [show g.order.length - (t + 1) = i by have := HI.out; omega]
          exact h
        · simp only [intOf]; show ((i : Int) - 1 + 1).toNat < ((i : Int) + 1).toNat; omega
    · skip
      refine WL.val (by kernel_rfl) (.bool false) (by go_simp) ?_
      simp only [Act.put, pqA, pqB, pqC]
      refine WL.nil ?_
      refine hK14 _ _ ?_
      refine wp_cond_false rfl ?_
      refine wp_skip ?_
      refine hK13 _ _ ?_
      refine wp_seq_k fun K27 hK27 => ?_
      have MB : Keep (Below w2.heap.size w2 wa) := KB
      have M7 : Keep (OwnH wa (f 7) (if ax < 0 then Hh ++ [y] else Hh)) := ⟨by rw [if_neg h10_6]; exact K7.out⟩
      have M8 := K8
      have MN : Keep (∀ k, (f 7).ownBlock = some k → w2.heap.size ≤ k ∧ (f 8).ownBlock ≠ some k) := ⟨JN.out.1⟩
      have Mln : Keep ((if ax < 0 then Hh ++ [y] else Hh).length ≤ t + 1) := ⟨by rw [if_neg h10_6]; have := JL.out.1; omega⟩
      refine wp_region_list (WL.out ?_)
      refine WL.val (by kernel_rfl) (.pointer (some ⟨d, 0, none⟩)) (by go_simp) ?_
      simp only [Act.put, pqA, pqB, pqC]
      refine WL.val (by kernel_rfl) (.slice (some ⟨b, off, none⟩) g.order.length lc) (by go_simp) ?_
      simp only [Act.put, pqA, pqB, pqC]
      refine WL.val (by kernel_rfl) (.int .i64 (i : Int)) (by go_simp) ?_
      simp only [Act.put, pqA, pqB, pqC]
      refine WL.val (by kernel_rfl) (.pointer (some ⟨b, off + i * 32, none⟩)) (by go_simp) ?_
      simp only [Act.put, pqA, pqB, pqC]
      refine WL.mid (by kernel_rfl) 36 (.tmp 64) rfl b (off + i * 32) rfl (encH y) _ (Hry.out _ MB.out) Try.underlying36 rfl (Try.size36L y) ?_
      rw [enc_load]
      simp only [Act.put, pqA, pqB, pqC]
      have hpa := parents_any d y (DgS d g) g wa (D2.out.below MB.out).at' (fun u hu => by have h := HV1.out; rw [hu] at h; cases h; have := HVl.out; omega)
      refine WL.callF (by kernel_rfl) 26 _ _ rfl Try.in26 #[ptr d, .agg (bytesA 32 y.f)] (by simp [Act.eval]) ?_
      refine (hpa.mono (R' := fun e w' => ∃ v', e = .returned (.tuple #[v', .int .i64 0]) ∧ Fresh wa w' v' v.ps) (fun e w' h => h.elim (fun h => by have h1 := h.1; rw [HV1.out] at h1; cases h1) fun ⟨u, h1, h2⟩ => by rw [HV1.out] at h1; cases h1; exact h2)).mono ?_
      rintro e wd ⟨v10, rfl, hf⟩
      refine ⟨_, rfl, ?_⟩
      clear hpa
      obtain ⟨pa, pc, e10⟩ := hf.own.sl
      subst e10
      have PO := Keep.mk hf.own
      have PN : Keep (∀ k, (Value.slice pa v.ps.length pc).ownBlock = some k → (f 8).ownBlock ≠ some k) := ⟨fun k hk e => by have := hf.new k hk; have := M8.out.lt k e; omega⟩
      have PB := Keep.mk (belowT MB.out hf.bel)
      have P7 := Keep.mk (M7.out.below hf.bel)
      have P8 := Keep.mk (M8.out.below hf.bel)
      clear hf
      simp only [Act.put, pqA, pqB, pqC]
      refine WL.val (by kernel_rfl) (.tuple #[.slice pa v.ps.length pc, .int .i64 0]) (by go_simp) ?_
      simp only [Act.put, pqA, pqB, pqC]
      refine WL.val (by kernel_rfl) (.slice pa v.ps.length pc) (by go_simp) ?_
      simp only [Act.put, pqA, pqB, pqC]
      refine WL.val (by kernel_rfl) (.int .i64 0) (by go_simp) ?_
      simp only [Act.put, pqA, pqB, pqC]
      refine WL.val (by kernel_rfl) (.slice pa v.ps.length pc) (by go_simp) ?_
      simp only [Act.put, pqA, pqB, pqC]
      refine WL.val (by kernel_rfl) (.int .i64 0) (by go_simp) ?_
      simp only [Act.put, pqA, pqB, pqC]
      refine WL.nil ?_
      refine hK27 _ _ ?_
      refine wp_seq_k fun K28 hK28 => ?_
      refine wp_seq_k fun K29 hK29 => ?_
      refine wp_region_list (WL.out ?_)
      refine WL.val (by kernel_rfl) (.int .i64 0) (by go_simp) ?_
      simp only [Act.put, pqA, pqB, pqC]
      refine WL.val (by kernel_rfl) (.bool false) (by go_simp) ?_
      simp only [Act.put, pqA, pqB, pqC]
      refine WL.val (by kernel_rfl) (.bool false) (by go_simp) ?_
      simp only [Act.put, pqA, pqB, pqC]
      refine WL.val (by kernel_rfl) (.pointer (some ⟨d, 0, none⟩)) (by go_simp) ?_
      simp only [Act.put, pqA, pqB, pqC]
      refine WL.val (by kernel_rfl) (.slice (some ⟨b, off, none⟩) g.order.length lc) (by go_simp) ?_
      simp only [Act.put, pqA, pqB, pqC]
      refine WL.val (by kernel_rfl) (.int .i64 (i : Int)) (by go_simp) ?_
      simp only [Act.put, pqA, pqB, pqC]
      refine WL.val (by kernel_rfl) (.pointer (some ⟨b, off + i * 32, none⟩)) (by go_simp) ?_
      simp only [Act.put, pqA, pqB, pqC]
      refine WL.mid (by kernel_rfl) 36 (.tmp 75) rfl b (off + i * 32) rfl (encH y) _ (Hry.out _ PB.out) Try.underlying36 rfl (Try.size36L y) ?_
      rw [enc_load]
      simp only [Act.put, pqA, pqB, pqC]
      have hhs := has_any d y (DgS d g) g wd (D2.out.below PB.out).at'
      rw [show (g.held.find? (isV y)).isSome = true from Hhy.out] at hhs
      refine WL.callF (by kernel_rfl) 45 _ _ rfl Try.in45 #[ptr d, .agg (bytesA 32 y.f)] (by simp [Act.eval]) ?_
      refine (hhs).mono ?_
      rintro e we ⟨rfl, hz⟩
      refine ⟨_, rfl, ?_⟩
      clear hhs
      have PBb := Keep.mk (belowT PB.out hz)
      have P7b := Keep.mk (P7.out.below hz)
      have P8b := Keep.mk (P8.out.below hz)
      have POb := Keep.mk (PO.out.below hz)
      clear hz
      simp only [Act.put, pqA, pqB, pqC]
      refine WL.val (by kernel_rfl) (.bool false) (by go_simp) ?_
      simp only [Act.put, pqA, pqB, pqC]
      refine WL.val (by kernel_rfl) (.bool false) (by go_simp) ?_
      simp only [Act.put, pqA, pqB, pqC]
      refine WL.val (by kernel_rfl) (.bool false) (by go_simp) ?_
      simp only [Act.put, pqA, pqB, pqC]
      refine WL.val (by kernel_rfl) (.pointer (some ⟨d, 0, none⟩)) (by go_simp) ?_
      simp only [Act.put, pqA, pqB, pqC]
      refine WL.val (by kernel_rfl) (.slice (some ⟨b, off, none⟩) g.order.length lc) (by go_simp) ?_
      simp only [Act.put, pqA, pqB, pqC]
      refine WL.val (by kernel_rfl) (.int .i64 (i : Int)) (by go_simp) ?_
      simp only [Act.put, pqA, pqB, pqC]
      refine WL.val (by kernel_rfl) (.pointer (some ⟨b, off + i * 32, none⟩)) (by go_simp) ?_
      simp only [Act.put, pqA, pqB, pqC]
      refine WL.mid (by kernel_rfl) 36 (.tmp 84) rfl b (off + i * 32) rfl (encH y) _ (Hry.out _ PBb.out) Try.underlying36 rfl (Try.size36L y) ?_
      rw [enc_load]
      simp only [Act.put, pqA, pqB, pqC]
      have hhs := waits_any d y (DgS d g) g we (D2.out.below PBb.out).at'
      rw [show (g.wait.find? (isV y)).isSome = false from HD.out.di.notWait Hhy.out] at hhs
      refine WL.callF (by kernel_rfl) 47 _ _ rfl Try.in47 #[ptr d, .agg (bytesA 32 y.f)] (by simp [Act.eval]) ?_
      refine (hhs).mono ?_
      rintro e wf ⟨rfl, hz⟩
      refine ⟨_, rfl, ?_⟩
      clear hhs
      have PBc := Keep.mk (belowT PBb.out hz)
      have P7c := Keep.mk (P7b.out.below hz)
      have P8c := Keep.mk (P8b.out.below hz)
      have POc := Keep.mk (POb.out.below hz)
      clear hz
      simp only [Act.put, pqA, pqB, pqC]
      refine WL.val (by kernel_rfl) (.bool false) (by go_simp) ?_
      simp only [Act.put, pqA, pqB, pqC]
      refine WL.val (by kernel_rfl) (.bool false) (by go_simp) ?_
      simp only [Act.put, pqA, pqB, pqC]
      refine WL.val (by kernel_rfl) (.pointer (some ⟨d, 0, none⟩)) (by go_simp) ?_
      simp only [Act.put, pqA, pqB, pqC]
      refine WL.val (by kernel_rfl) (.slice (some ⟨b, off, none⟩) g.order.length lc) (by go_simp) ?_
      simp only [Act.put, pqA, pqB, pqC]
      refine WL.val (by kernel_rfl) (.int .i64 (i : Int)) (by go_simp) ?_
      simp only [Act.put, pqA, pqB, pqC]
      refine WL.val (by kernel_rfl) (.pointer (some ⟨b, off + i * 32, none⟩)) (by go_simp) ?_
      simp only [Act.put, pqA, pqB, pqC]
      refine WL.mid (by kernel_rfl) 36 (.tmp 92) rfl b (off + i * 32) rfl (encH y) _ (Hry.out _ PBc.out) Try.underlying36 rfl (Try.size36L y) ?_
      rw [enc_load]
      simp only [Act.put, pqA, pqB, pqC]
      have hck := clock_any d y (DgS d g) g wf (D2.out.below PBc.out).at'
      rw [show ckOf g.held y = v.ck by unfold ckOf; rw [HV1.out]] at hck
      refine WL.callF (by kernel_rfl) 27 _ _ rfl Try.in27 #[ptr d, .agg (bytesA 32 y.f)] (by simp [Act.eval]) ?_
      refine (hck).mono ?_
      rintro e wg ⟨rfl, hz⟩
      refine ⟨_, rfl, ?_⟩
      clear hck
      have PBd := Keep.mk (belowT PBc.out hz)
      have P7d := Keep.mk (P7c.out.below hz)
      have P8d := Keep.mk (P8c.out.below hz)
      have POd := Keep.mk (POc.out.below hz)
      have hck1 : ¬ v.ck < 1 := by have := HVc.out; omega
      clear hz
      simp only [Act.put, pqA, pqB, pqC]
      refine WL.val (by kernel_rfl) (.bool false) (by go_simp) ?_
      simp only [Act.put, pqA, pqB, pqC]
      refine WL.val (by kernel_rfl) (.bool false) (by go_simp) ?_
      simp only [Act.put, pqA, pqB, pqC]
      refine WL.nil ?_
      refine hK29 _ _ ?_
      refine wp_cond_false rfl ?_
      refine wp_skip ?_
      refine hK28 _ _ ?_
      refine wp_seq_k fun K30 hK30 => ?_
      refine wp_region_list (WL.out ?_)
      refine WL.val (by kernel_rfl) (f 8) (by go_simp) ?_
      simp only [Act.put, pqA, pqB, pqC]
      refine WL.val (by kernel_rfl) (.slice pa v.ps.length pc) (by go_simp) ?_
      simp only [Act.put, pqA, pqB, pqC]
      refine WL.appM (by kernel_rfl) (.tmp 97) (.tmp 98) rfl (f 8) _ Nn v.ps rfl rfl P8d.out POd.out.row (by have := JL.out.2; have := HVl.out; have := HL.out; omega) fun v8 wh h1 h2 h3 => ?_
      have Q8 : Keep (OwnH wh v8 (Nn ++ v.ps)) := ⟨h1⟩
      have QG : Keep (Grown wg wh fun k => (f 8).ownBlock = some k) := ⟨h2⟩
      have QB : Keep (Below w2.heap.size w2 wh) := ⟨PBd.out.trans (QG.out.to_below (fun k hk e => by have := JN.out.2 k e; omega) PBd.out.size)⟩
      have Q7 : Keep (OwnH wh (f 7) (if ax < 0 then Hh ++ [y] else Hh)) := ⟨P7d.out.grown QG.out fun k hk e => (MN.out k hk).2 e⟩
      have QO := Keep.mk (POd.out.grown QG.out fun k hk e => PN.out k hk e)
      have hsz : ∀ k, k < wg.heap.size → v8.ownBlock = some k → (f 8).ownBlock = some k := fun k hk e => h3.old hk e
      have QN8 : Keep (∀ k, v8.ownBlock = some k → w2.heap.size ≤ k) := ⟨fun k hk => (Nat.lt_or_ge k wg.heap.size).elim (fun h => JN.out.2 k (hsz k h hk)) fun h => Nat.le_trans PBd.out.size h⟩
      have QN7 : Keep (∀ k, (f 7).ownBlock = some k → w2.heap.size ≤ k ∧ v8.ownBlock ≠ some k) := ⟨fun k hk => ⟨(MN.out k hk).1, fun e => (MN.out k hk).2 (hsz k (P7d.out.lt k hk) e)⟩⟩
      clear h1 h2 h3 hsz
      simp only [Act.put, pqA, pqB, pqC]
      refine WL.val (by kernel_rfl) (v8) (by go_simp) ?_
      simp only [Act.put, pqA, pqB, pqC]
      refine WL.nil ?_
      refine hK30 _ _ ?_
      refine wp_seq_k fun K31 hK31 => ?_
      refine wp_region_list (WL.out ?_)
      refine WL.val (by kernel_rfl) (.int .i64 0) (by go_simp) ?_
      simp only [Act.put, pqA, pqB, pqC]
      refine WL.nil ?_
      refine hK31 _ _ ?_
      refine wp_block ?_
      refine wp_loop (fun ac wi => ∃ (k : Nat) (h : Nat → Value), ac = { tmps := #[.pointer (some ⟨d, 0, none⟩), .int .i64 g.room, undef, undef, h 4, .slice (some ⟨b, off, none⟩) g.order.length lc, .slice xa g.queue.length xc, f 7, v8, .int .i64 (i : Int), .slice pa v.ps.length pc, .int .i64 0, .int .i64 (k : Int), h 13, undef, undef, undef, .pointer (some ⟨d, 0, none⟩), .slice (some ⟨b, off, none⟩) g.order.length lc, .pointer (some ⟨d, 0, none⟩), .slice xa g.queue.length xc, .slice (some ⟨b, off, none⟩) g.order.length lc, .int .i64 (g.order.length : Int), .pointer (some ⟨d, 0, none⟩), .int .i64 (g.held.length : Int), .bool false, .bool false, .slice (some ⟨b, off, none⟩) g.order.length lc, .int .i64 (g.order.length : Int), .bool false, .bool false, .bool false, .slice xa g.queue.length xc, .int .i64 (g.queue.length : Int), .int .i64 g.room, .bool false, .bool false, .slice (some ⟨g7, 0, none⟩) 0 0, .slice (some ⟨g8, 0, none⟩) 0 0, .slice (some ⟨b, off, none⟩) g.order.length lc, .int .i64 (g.order.length : Int), .int .i64 ((g.order.length : Int) - 1), .int .i64 (i : Int), .bool true, f 44, f 45, f 8, .slice (some ⟨b, off, none⟩) g.order.length lc, .int .i64 (i : Int), .pointer (some ⟨b, off + i * 32, none⟩), .agg (bytesA 32 y.f), .int .i64 ax, .bool false, f 53, f 54, f 55, f 56, f 57, f 58, f 59, .tuple #[.slice pa v.ps.length pc, .int .i64 0], .pointer (some ⟨d, 0, none⟩), .slice (some ⟨b, off, none⟩) g.order.length lc, .int .i64 (i : Int), .pointer (some ⟨b, off + i * 32, none⟩), .agg (bytesA 32 y.f), .tuple #[.slice pa v.ps.length pc, .int .i64 0], .slice pa v.ps.length pc, .int .i64 0, .int .i64 0, .bool false, .bool false, .pointer (some ⟨d, 0, none⟩), .slice (some ⟨b, off, none⟩) g.order.length lc, .int .i64 (i : Int), .pointer (some ⟨b, off + i * 32, none⟩), .agg (bytesA 32 y.f), .bool true, .bool false, .bool false, .bool false, .pointer (some ⟨d, 0, none⟩), .slice (some ⟨b, off, none⟩) g.order.length lc, .int .i64 (i : Int), .pointer (some ⟨b, off + i * 32, none⟩), .agg (bytesA 32 y.f), .bool false, .bool false, .bool false, .pointer (some ⟨d, 0, none⟩), .slice (some ⟨b, off, none⟩) g.order.length lc, .int .i64 (i : Int), .pointer (some ⟨b, off + i * 32, none⟩), .agg (bytesA 32 y.f), .int .i64 v.ck, .bool false, .bool false, f 8, .slice pa v.ps.length pc, v8, h 100, h 101, h 102, h 103, h 104, h 105, h 106, h 107, h 108, h 109, h 110, h 111, h 112, h 113, h 114, h 115, h 116, h 117, h 118, h 119, h 120, h 121, h 122, h 123, h 124, h 125, h 126, h 127, h 128, h 129, h 130, h 131, h 132, h 133, undef, undef, undef, undef, undef, undef, undef, undef, undef, undef, undef, undef, undef, undef, undef, undef, undef, undef, undef, undef, undef, undef, undef, undef, undef, undef, undef, undef, undef, undef, undef, undef, undef, undef, undef, undef, undef, undef, undef, undef, undef, undef, undef, undef, undef, undef, undef, undef, undef, undef, undef, undef, undef, undef, undef, undef, undef], defers := [] } ∧ k ≤ v.ps.length ∧ Below wh.heap.size wh wi) (fun a _ => v.ps.length - (intOf (a.tmps.getD 12 undef)).toNat) ⟨0, fun zi => [.pointer (some ⟨d, 0, none⟩), .int .i64 g.room, undef, undef, f 4, .slice (some ⟨b, off, none⟩) g.order.length lc, .slice xa g.queue.length xc, f 7, v8, .int .i64 (i : Int), .slice pa v.ps.length pc, .int .i64 0, .int .i64 0, f 13, undef, undef, undef, .pointer (some ⟨d, 0, none⟩), .slice (some ⟨b, off, none⟩) g.order.length lc, .pointer (some ⟨d, 0, none⟩), .slice xa g.queue.length xc, .slice (some ⟨b, off, none⟩) g.order.length lc, .int .i64 (g.order.length : Int), .pointer (some ⟨d, 0, none⟩), .int .i64 (g.held.length : Int), .bool false, .bool false, .slice (some ⟨b, off, none⟩) g.order.length lc, .int .i64 (g.order.length : Int), .bool false, .bool false, .bool false, .slice xa g.queue.length xc, .int .i64 (g.queue.length : Int), .int .i64 g.room, .bool false, .bool false, .slice (some ⟨g7, 0, none⟩) 0 0, .slice (some ⟨g8, 0, none⟩) 0 0, .slice (some ⟨b, off, none⟩) g.order.length lc, .int .i64 (g.order.length : Int), .int .i64 ((g.order.length : Int) - 1), .int .i64 (i : Int), .bool true, f 44, f 45, f 8, .slice (some ⟨b, off, none⟩) g.order.length lc, .int .i64 (i : Int), .pointer (some ⟨b, off + i * 32, none⟩), .agg (bytesA 32 y.f), .int .i64 ax, .bool false, f 53, f 54, f 55, f 56, f 57, f 58, f 59, .tuple #[.slice pa v.ps.length pc, .int .i64 0], .pointer (some ⟨d, 0, none⟩), .slice (some ⟨b, off, none⟩) g.order.length lc, .int .i64 (i : Int), .pointer (some ⟨b, off + i * 32, none⟩), .agg (bytesA 32 y.f), .tuple #[.slice pa v.ps.length pc, .int .i64 0], .slice pa v.ps.length pc, .int .i64 0, .int .i64 0, .bool false, .bool false, .pointer (some ⟨d, 0, none⟩), .slice (some ⟨b, off, none⟩) g.order.length lc, .int .i64 (i : Int), .pointer (some ⟨b, off + i * 32, none⟩), .agg (bytesA 32 y.f), .bool true, .bool false, .bool false, .bool false, .pointer (some ⟨d, 0, none⟩), .slice (some ⟨b, off, none⟩) g.order.length lc, .int .i64 (i : Int), .pointer (some ⟨b, off + i * 32, none⟩), .agg (bytesA 32 y.f), .bool false, .bool false, .bool false, .pointer (some ⟨d, 0, none⟩), .slice (some ⟨b, off, none⟩) g.order.length lc, .int .i64 (i : Int), .pointer (some ⟨b, off + i * 32, none⟩), .agg (bytesA 32 y.f), .int .i64 v.ck, .bool false, .bool false, f 8, .slice pa v.ps.length pc, v8, f 100, f 101, f 102, f 103, f 104, f 105, f 106, f 107, f 108, f 109, f 110, f 111, f 112, f 113, f 114, f 115, f 116, f 117, f 118, f 119, f 120, f 121, f 122, f 123, f 124, f 125, f 126, f 127, f 128, f 129, f 130, f 131, f 132, f 133, undef, undef, undef, undef, undef, undef, undef, undef, undef, undef, undef, undef, undef, undef, undef, undef, undef, undef, undef, undef, undef, undef, undef, undef, undef, undef, undef, undef, undef, undef, undef, undef, undef, undef, undef, undef, undef, undef, undef, undef, undef, undef, undef, undef, undef, undef, undef, undef, undef, undef, undef, undef, undef, undef, undef, undef, undef].getD zi undef, rfl, by omega, Below.refl _ _⟩ ?_
      rintro ac wi ⟨k, h, rfl, hk, hC⟩
      have KC := Keep.mk hC
      clear hC
      by_cases hkl : k < v.ps.length
      · have hkl' : (k : Int) < (v.ps.length : Int) := by omega
        have hwk : IntKind.i64.wrap ((k : Int) + 1) = ((k + 1 : Nat) : Int) := by rw [IntKind.wrap_i64]; have := HVl.out; omega
        obtain ⟨gq, oq, hqa, -, -, hrq⟩ := QO.out.row.at (by omega)
        subst hqa
        obtain ⟨p, hp⟩ : ∃ p, Keep (p = v.ps[k]) := ⟨_, ⟨rfl⟩⟩
        have Hlp := Keep.mk (rangeAt_lt hrq (by omega))
        have Hrp : Keep (∀ wx, Below wh.heap.size wh wx → wx.rangeAt gq (oq + k * 32) (encH p)) := ⟨fun wx hb => by rw [hp.out]; exact rangeAt_elem (rangeAt_below hrq hb Hlp.out) k hkl⟩
        have hpm : p ∈ v.ps := by rw [hp.out]; exact List.getElem_mem hkl
        obtain ⟨ja, hja, hjb, hjc⟩ := par_at HD.out.di HVm.out hpm
        have HJ := Keep.mk hjc
        have hji : ja < i := HD.out.di.oo.top i ja y p hy.out hjb (by unfold parH; rw [HV1.out]; exact hpm)
        have hji' : ¬ (i : Int) ≤ (ja : Int) := by omega
        have hj0 : ¬ (ja : Int) < 0 := by omega
        obtain ⟨cp, hcp⟩ : ∃ c, Keep (ckOf g.held p = c) := ⟨_, ⟨rfl⟩⟩
        have hcl : ¬ v.ck ≤ cp := by have h := HD.out.di.ckp HVm.out hpm; rw [hcp.out, HVe.out, show ckOf g.held y = v.ck by unfold ckOf; rw [HV1.out]] at h; omega
        clear hrq hja hjb hjc hpm
        refine wp_seq_k fun K32 hK32 => ?_
        refine wp_seq_k fun K33 hK33 => ?_
        refine wp_region_list (WL.out ?_)
        refine WL.val (by kernel_rfl) (.int .i64 (k : Int)) (by go_simp) ?_
        simp only [Act.put, pqA, pqB, pqC]
        refine WL.val (by kernel_rfl) (.slice (some ⟨gq, oq, none⟩) v.ps.length pc) (by go_simp) ?_
        simp only [Act.put, pqA, pqB, pqC]
        refine WL.val (by kernel_rfl) (.int .i64 (v.ps.length : Int)) (by go_simp) ?_
        simp only [Act.put, pqA, pqB, pqC]
        refine WL.val (by kernel_rfl) (.bool true) (by go_simp) ?_
        simp only [Act.put, pqA, pqB, pqC]
        refine WL.nil ?_
        refine hK33 _ _ ?_
        refine wp_cond_true rfl ?_
        refine wp_skip ?_
        refine hK32 _ _ ?_
        refine wp_seq_k fun K34 hK34 => ?_
        refine wp_block ?_
        refine wp_seq_k fun K35 hK35 => ?_
        refine wp_region_list (WL.out ?_)
        refine WL.val (by kernel_rfl) (.slice (some ⟨b, off, none⟩) g.order.length lc) (by go_simp) ?_
        simp only [Act.put, pqA, pqB, pqC]
        refine WL.val (by kernel_rfl) (.slice (some ⟨gq, oq, none⟩) v.ps.length pc) (by go_simp) ?_
        simp only [Act.put, pqA, pqB, pqC]
        refine WL.val (by kernel_rfl) (.int .i64 (k : Int)) (by go_simp) ?_
        simp only [Act.put, pqA, pqB, pqC]
        refine WL.val (by kernel_rfl) (.pointer (some ⟨gq, oq + k * 32, none⟩)) (by go_simp) ?_
        simp only [Act.put, pqA, pqB, pqC]
        refine WL.mid (by kernel_rfl) 36 (.tmp 109) rfl gq (oq + k * 32) rfl (encH p) _ (Hrp.out _ KC.out) Try.underlying36 rfl (Try.size36L p) ?_
        rw [enc_load]
        simp only [Act.put, pqA, pqB, pqC]
        have hix := refIx_any (.slice (some ⟨b, off, none⟩) g.order.length lc) g.order p wi (O5.out.below (belowT QB.out KC.out)).row (by have := HL.out; omega)
        rw [HJ.out] at hix
        refine WL.callF (by kernel_rfl) 63 _ _ rfl Try.in63 #[.slice (some ⟨b, off, none⟩) g.order.length lc, .agg (bytesA 32 p.f)] (by simp [Act.eval]) ?_
        refine (hix).mono ?_
        rintro e wj ⟨rfl, hz⟩
        refine ⟨_, rfl, ?_⟩
        clear hix
        have KJ := Keep.mk (belowT KC.out hz)
        clear hz
        simp only [Act.put, pqA, pqB, pqC]
        refine WL.val (by kernel_rfl) (.int .i64 (ja : Int)) (by go_simp) ?_
        simp only [Act.put, pqA, pqB, pqC]
        refine WL.nil ?_
        refine hK35 _ _ ?_
        refine wp_seq_k fun K36 hK36 => ?_
        have hS0 : Keep (∀ wx, Below wh.heap.size wh wx → (fun wx => wx.rangeAt gq (oq + k * 32) (encH p) ∧ wx.rangeAt b (off + i * 32) (encH y)) wx) := ⟨fun wx hb => ⟨Hrp.out _ hb, Hry.out _ (belowT QB.out hb)⟩⟩
        have KD : Keep (Below wh.heap.size wh wj.drew) := ⟨KJ.out.drew⟩
        refine wp_region_held_drew (S := fun wx => wx.rangeAt gq (oq + k * 32) (encH p) ∧ wx.rangeAt b (off + i * 32) (encH y)) (by kernel_rfl) (hS0.out _ KD.out) (fun hHeld => ?_)
        refine wpAnyH_take (i := 0) (oi := ⟨some 112, Op.move (Operand.tmp 13), 3, _, _, none⟩) (v := .int .i64 (ja : Int)) rfl (by kernel_rfl) (by kernel_rfl) (by kernel_rfl) (fun _ _ _ h => h) (Or.inl ⟨by rfl, fun w hS => by clear hS; go_simp⟩) hHeld ?_
        simp only [Act.put, pqA, pqB, pqC]
        refine wpAnyH_take (i := 1) (oi := ⟨some 113, Op.binOp BinOp.lss 3 (Operand.tmp 112) (Operand.const (Value.int IntKind.i64 0)) 3, 4, _, _, none⟩) (v := .bool false) rfl (by kernel_rfl) (by kernel_rfl) (by kernel_rfl) (fun _ _ _ h => h) (Or.inl ⟨by rfl, fun w hS => by clear hS; go_simp⟩) hHeld ?_
        simp only [Act.put, pqA, pqB, pqC]
        refine wpAnyH_take (i := 2) (oi := ⟨some 114, Op.move (Operand.tmp 113), 4, _, _, none⟩) (v := .bool false) rfl (by kernel_rfl) (by kernel_rfl) (by kernel_rfl) (fun _ _ _ h => h) (Or.inl ⟨by rfl, fun w hS => by clear hS; go_simp⟩) hHeld ?_
        simp only [Act.put, pqA, pqB, pqC]
        refine wpAnyH_take (i := 3) (oi := ⟨some 115, Op.move (Operand.tmp 13), 3, _, _, some (2, false)⟩) (v := .int .i64 (ja : Int)) rfl (by kernel_rfl) (by kernel_rfl) (by kernel_rfl) (fun _ _ _ h => h) (Or.inl ⟨by rfl, fun w hS => by clear hS; go_simp⟩) hHeld ?_
        simp only [Act.put, pqA, pqB, pqC]
        refine wpAnyH_take (i := 4) (oi := ⟨some 116, Op.move (Operand.tmp 9), 3, _, _, some (2, false)⟩) (v := .int .i64 (i : Int)) rfl (by kernel_rfl) (by kernel_rfl) (by kernel_rfl) (fun _ _ _ h => h) (Or.inl ⟨by rfl, fun w hS => by clear hS; go_simp⟩) hHeld ?_
        simp only [Act.put, pqA, pqB, pqC]
        refine wpAnyH_take (i := 5) (oi := ⟨some 117, Op.binOp BinOp.geq 3 (Operand.tmp 115) (Operand.tmp 116) 3, 4, _, _, some (2, false)⟩) (v := .bool false) rfl (by kernel_rfl) (by kernel_rfl) (by kernel_rfl) (fun _ _ _ h => h) (Or.inl ⟨by rfl, fun w hS => by clear hS; go_simp⟩) hHeld ?_
        simp only [Act.put, pqA, pqB, pqC]
        refine wpAnyH_take (i := 6) (oi := ⟨some 118, Op.pick (Operand.tmp 114) (Operand.const (Value.bool true)) (Operand.tmp 117), 4, _, _, none⟩) (v := .bool false) rfl (by kernel_rfl) (by kernel_rfl) (by kernel_rfl) (fun _ _ _ h => h) (Or.inl ⟨by rfl, fun w hS => by clear hS; go_simp⟩) hHeld ?_
        simp only [Act.put, pqA, pqB, pqC]
        refine wpAnyH_take (i := 7) (oi := ⟨some 119, Op.move (Operand.tmp 118), 4, _, _, none⟩) (v := .bool false) rfl (by kernel_rfl) (by kernel_rfl) (by kernel_rfl) (fun _ _ _ h => h) (Or.inl ⟨by rfl, fun w hS => by clear hS; go_simp⟩) hHeld ?_
        simp only [Act.put, pqA, pqB, pqC]
        refine wpAnyH_take (i := 8) (oi := ⟨some 120, Op.move (Operand.tmp 0), 27, _, _, some (7, false)⟩) (v := .pointer (some ⟨d, 0, none⟩)) rfl (by kernel_rfl) (by kernel_rfl) (by kernel_rfl) (fun _ _ _ h => h) (Or.inl ⟨by rfl, fun w hS => by clear hS; go_simp⟩) hHeld ?_
        simp only [Act.put, pqA, pqB, pqC]
        refine wpAnyH_take (i := 9) (oi := ⟨some 121, Op.move (Operand.tmp 10), 37, _, _, some (7, false)⟩) (v := .slice (some ⟨gq, oq, none⟩) v.ps.length pc) rfl (by kernel_rfl) (by kernel_rfl) (by kernel_rfl) (fun _ _ _ h => h) (Or.inl ⟨by rfl, fun w hS => by clear hS; go_simp⟩) hHeld ?_
        simp only [Act.put, pqA, pqB, pqC]
        refine wpAnyH_take (i := 10) (oi := ⟨some 122, Op.move (Operand.tmp 12), 3, _, _, some (7, false)⟩) (v := .int .i64 (k : Int)) rfl (by kernel_rfl) (by kernel_rfl) (by kernel_rfl) (fun _ _ _ h => h) (Or.inl ⟨by rfl, fun w hS => by clear hS; go_simp⟩) hHeld ?_
        simp only [Act.put, pqA, pqB, pqC]
        refine wpAnyH_take (i := 11) (oi := ⟨some 123, Op.indexAddr 37 (Operand.tmp 121) (Operand.tmp 122), 0, _, _, some (7, false)⟩) (v := .pointer (some ⟨gq, oq + k * 32, none⟩)) rfl (by kernel_rfl) (by kernel_rfl) (by kernel_rfl) (fun _ _ _ h => h) (Or.inl ⟨by rfl, fun w hS => by clear hS; go_simp⟩) hHeld ?_
        simp only [Act.put, pqA, pqB, pqC]
        refine wpAnyH_take (i := 12) (oi := ⟨some 124, Op.load 36 (Operand.tmp 123), 36, _, _, some (7, false)⟩) (v := .agg (bytesA 32 p.f)) rfl (by kernel_rfl) (by kernel_rfl) (by kernel_rfl) (fun _ _ _ h => h) (yieldsIf_ldE (by rfl) (Operand.tmp 123) rfl gq (oq + k * 32) rfl p fun w hS => hS.1) hHeld ?_
        simp only [Act.put, pqA, pqB, pqC]
        refine wpAnyH_take (i := 14) (oi := ⟨some 126, Op.move (Operand.tmp 0), 27, _, _, some (7, false)⟩) (v := .pointer (some ⟨d, 0, none⟩)) rfl (by kernel_rfl) (by kernel_rfl) (by kernel_rfl) (fun _ _ _ h => h) (Or.inl ⟨by rfl, fun w hS => by clear hS; go_simp⟩) hHeld ?_
        simp only [Act.put, pqA, pqB, pqC]
        refine wpAnyH_take (i := 15) (oi := ⟨some 127, Op.move (Operand.tmp 5), 37, _, _, some (7, false)⟩) (v := .slice (some ⟨b, off, none⟩) g.order.length lc) rfl (by kernel_rfl) (by kernel_rfl) (by kernel_rfl) (fun _ _ _ h => h) (Or.inl ⟨by rfl, fun w hS => by clear hS; go_simp⟩) hHeld ?_
        simp only [Act.put, pqA, pqB, pqC]
        refine wpAnyH_take (i := 16) (oi := ⟨some 128, Op.move (Operand.tmp 9), 3, _, _, some (7, false)⟩) (v := .int .i64 (i : Int)) rfl (by kernel_rfl) (by kernel_rfl) (by kernel_rfl) (fun _ _ _ h => h) (Or.inl ⟨by rfl, fun w hS => by clear hS; go_simp⟩) hHeld ?_
        simp only [Act.put, pqA, pqB, pqC]
        refine wpAnyH_take (i := 17) (oi := ⟨some 129, Op.indexAddr 37 (Operand.tmp 127) (Operand.tmp 128), 0, _, _, some (7, false)⟩) (v := .pointer (some ⟨b, off + i * 32, none⟩)) rfl (by kernel_rfl) (by kernel_rfl) (by kernel_rfl) (fun _ _ _ h => h) (Or.inl ⟨by rfl, fun w hS => by clear hS; go_simp⟩) hHeld ?_
        simp only [Act.put, pqA, pqB, pqC]
        refine wpAnyH_take (i := 18) (oi := ⟨some 130, Op.load 36 (Operand.tmp 129), 36, _, _, some (7, false)⟩) (v := .agg (bytesA 32 y.f)) rfl (by kernel_rfl) (by kernel_rfl) (by kernel_rfl) (fun _ _ _ h => h) (yieldsIf_ldE (by rfl) (Operand.tmp 129) rfl b (off + i * 32) rfl y fun w hS => hS.2) hHeld ?_
        simp only [Act.put, pqA, pqB, pqC]
        refine wpAnyH_ready (rs := [13]) (by kernel_rfl) (by simp) ?_
        refine AllReadyH.cons (o := ⟨some 125, Op.call { callee := Callee.value (Operand.func 27), args := #[Operand.tmp 120, Operand.tmp 124], argTypes := #[27, 36] }, 3, _, _, some (7, false)⟩) rfl (fun K hK => ?_) AllReadyH.nil
        rw [if_pos (by rfl)]
        have hck := clock_any d p (DgS d g) g wj.drew (D2.out.below (belowT QB.out KD.out)).at'
        rw [hcp.out] at hck
        refine wp_callF 27 _ _ rfl Try.in27 #[ptr d, .agg (bytesA 32 p.f)] (by simp [Act.eval]) (fun u wx => u = .int .i64 cp ∧ Below wj.drew.heap.size wj.drew wx) (hck.mono fun e w' ⟨h1, h2⟩ => ⟨_, h1, rfl, h2⟩) ?_
        clear hck
        rintro _ wk ⟨rfl, hb⟩
        have KE := Keep.mk (belowT KD.out hb)
        refine hK _ _ (hS0.out _ KE.out) fun hH1 => ?_
        clear hK hb
        simp only [Act.put, pqA, pqB, pqC]
        refine wpAnyH_ready (rs := [19]) (by kernel_rfl) (by simp) ?_
        refine AllReadyH.cons (o := ⟨some 131, Op.call { callee := Callee.value (Operand.func 27), args := #[Operand.tmp 126, Operand.tmp 130], argTypes := #[27, 36] }, 3, _, _, some (7, false)⟩) rfl (fun K hK => ?_) AllReadyH.nil
        rw [if_pos (by rfl)]
        have hck := clock_any d y (DgS d g) g wk (D2.out.below (belowT QB.out KE.out)).at'
        rw [show ckOf g.held y = v.ck by unfold ckOf; rw [HV1.out]] at hck
        refine wp_callF 27 _ _ rfl Try.in27 #[ptr d, .agg (bytesA 32 y.f)] (by simp [Act.eval]) (fun u wx => u = .int .i64 v.ck ∧ Below wk.heap.size wk wx) (hck.mono fun e w' ⟨h1, h2⟩ => ⟨_, h1, rfl, h2⟩) ?_
        clear hck
        rintro _ wl ⟨rfl, hb⟩
        have KF := Keep.mk (belowT KE.out hb)
        refine hK _ _ (hS0.out _ KF.out) fun hH2 => ?_
        clear hK hb
        simp only [Act.put, pqA, pqB, pqC]
        refine wpAnyH_take (i := 20) (oi := ⟨some 132, Op.binOp BinOp.geq 3 (Operand.tmp 125) (Operand.tmp 131) 3, 4, _, _, some (7, false)⟩) (v := .bool false) rfl (by kernel_rfl) (by kernel_rfl) (by kernel_rfl) (fun _ _ _ h => h) (Or.inl ⟨by rfl, fun w hS => by clear hS; go_simp⟩) hH2 ?_
        simp only [Act.put, pqA, pqB, pqC]
        refine wpAnyH_take (i := 21) (oi := ⟨some 133, Op.pick (Operand.tmp 119) (Operand.const (Value.bool true)) (Operand.tmp 132), 4, _, _, none⟩) (v := .bool false) rfl (by kernel_rfl) (by kernel_rfl) (by kernel_rfl) (fun _ _ _ h => h) (Or.inl ⟨by rfl, fun w hS => by clear hS; go_simp⟩) hH2 ?_
        simp only [Act.put, pqA, pqB, pqC]
        refine wpAnyH_done (by kernel_rfl) ?_ _
        refine hK36 _ _ ?_
        refine wp_cond_false rfl ?_
        refine wp_skip ?_
        refine hK34 _ _ ?_
        refine wp_region_list (WL.out ?_)
        refine WL.val (by kernel_rfl) (.int .i64 (k : Int)) (by go_simp) ?_
        simp only [Act.put, pqA, pqB, pqC]
        refine WL.val (by kernel_rfl) (.int .i64 ((k + 1 : Nat) : Int)) (by go_simp) ?_
        simp only [Act.put, pqA, pqB, pqC]
        refine WL.val (by kernel_rfl) (.int .i64 ((k + 1 : Nat) : Int)) (by go_simp) ?_
        simp only [Act.put, pqA, pqB, pqC]
        refine WL.nil ?_
        refine ⟨⟨k + 1, fun zi => [.pointer (some ⟨d, 0, none⟩), .int .i64 g.room, undef, undef, h 4, .slice (some ⟨b, off, none⟩) g.order.length lc, .slice xa g.queue.length xc, f 7, v8, .int .i64 (i : Int), .slice (some ⟨gq, oq, none⟩) v.ps.length pc, .int .i64 0, .int .i64 ((k + 1 : Nat) : Int), .int .i64 (ja : Int), undef, undef, undef, .pointer (some ⟨d, 0, none⟩), .slice (some ⟨b, off, none⟩) g.order.length lc, .pointer (some ⟨d, 0, none⟩), .slice xa g.queue.length xc, .slice (some ⟨b, off, none⟩) g.order.length lc, .int .i64 (g.order.length : Int), .pointer (some ⟨d, 0, none⟩), .int .i64 (g.held.length : Int), .bool false, .bool false, .slice (some ⟨b, off, none⟩) g.order.length lc, .int .i64 (g.order.length : Int), .bool false, .bool false, .bool false, .slice xa g.queue.length xc, .int .i64 (g.queue.length : Int), .int .i64 g.room, .bool false, .bool false, .slice (some ⟨g7, 0, none⟩) 0 0, .slice (some ⟨g8, 0, none⟩) 0 0, .slice (some ⟨b, off, none⟩) g.order.length lc, .int .i64 (g.order.length : Int), .int .i64 ((g.order.length : Int) - 1), .int .i64 (i : Int), .bool true, f 44, f 45, f 8, .slice (some ⟨b, off, none⟩) g.order.length lc, .int .i64 (i : Int), .pointer (some ⟨b, off + i * 32, none⟩), .agg (bytesA 32 y.f), .int .i64 ax, .bool false, f 53, f 54, f 55, f 56, f 57, f 58, f 59, .tuple #[.slice (some ⟨gq, oq, none⟩) v.ps.length pc, .int .i64 0], .pointer (some ⟨d, 0, none⟩), .slice (some ⟨b, off, none⟩) g.order.length lc, .int .i64 (i : Int), .pointer (some ⟨b, off + i * 32, none⟩), .agg (bytesA 32 y.f), .tuple #[.slice (some ⟨gq, oq, none⟩) v.ps.length pc, .int .i64 0], .slice (some ⟨gq, oq, none⟩) v.ps.length pc, .int .i64 0, .int .i64 0, .bool false, .bool false, .pointer (some ⟨d, 0, none⟩), .slice (some ⟨b, off, none⟩) g.order.length lc, .int .i64 (i : Int), .pointer (some ⟨b, off + i * 32, none⟩), .agg (bytesA 32 y.f), .bool true, .bool false, .bool false, .bool false, .pointer (some ⟨d, 0, none⟩), .slice (some ⟨b, off, none⟩) g.order.length lc, .int .i64 (i : Int), .pointer (some ⟨b, off + i * 32, none⟩), .agg (bytesA 32 y.f), .bool false, .bool false, .bool false, .pointer (some ⟨d, 0, none⟩), .slice (some ⟨b, off, none⟩) g.order.length lc, .int .i64 (i : Int), .pointer (some ⟨b, off + i * 32, none⟩), .agg (bytesA 32 y.f), .int .i64 v.ck, .bool false, .bool false, f 8, .slice (some ⟨gq, oq, none⟩) v.ps.length pc, v8, .int .i64 (k : Int), .slice (some ⟨gq, oq, none⟩) v.ps.length pc, .int .i64 (v.ps.length : Int), .bool true, .int .i64 (k : Int), .int .i64 ((k + 1 : Nat) : Int), .slice (some ⟨b, off, none⟩) g.order.length lc, .slice (some ⟨gq, oq, none⟩) v.ps.length pc, .int .i64 (k : Int), .pointer (some ⟨gq, oq + k * 32, none⟩), .agg (bytesA 32 p.f), .int .i64 (ja : Int), .int .i64 (ja : Int), .bool false, .bool false, .int .i64 (ja : Int), .int .i64 (i : Int), .bool false, .bool false, .bool false, .pointer (some ⟨d, 0, none⟩), .slice (some ⟨gq, oq, none⟩) v.ps.length pc, .int .i64 (k : Int), .pointer (some ⟨gq, oq + k * 32, none⟩), .agg (bytesA 32 p.f), .int .i64 cp, .pointer (some ⟨d, 0, none⟩), .slice (some ⟨b, off, none⟩) g.order.length lc, .int .i64 (i : Int), .pointer (some ⟨b, off + i * 32, none⟩), .agg (bytesA 32 y.f), .int .i64 v.ck, .bool false, .bool false, undef, undef, undef, undef, undef, undef, undef, undef, undef, undef, undef, undef, undef, undef, undef, undef, undef, undef, undef, undef, undef, undef, undef, undef, undef, undef, undef, undef, undef, undef, undef, undef, undef, undef, undef, undef, undef, undef, undef, undef, undef, undef, undef, undef, undef, undef, undef, undef, undef, undef, undef, undef, undef, undef, undef, undef, undef].getD zi undef, rfl, by omega, KF.out⟩, ?_⟩
        simp only [intOf]; show v.ps.length - (((k + 1 : Nat) : Int)).toNat < v.ps.length - ((k : Int)).toNat; omega
      · have hkl' : ¬ (k : Int) < (v.ps.length : Int) := by omega
        have RB := Keep.mk (belowT QB.out KC.out)
        have R7 := Keep.mk (Q7.out.below KC.out)
        have R8 := Keep.mk (Q8.out.below KC.out)
        refine wp_seq_k fun K37 hK37 => ?_
        refine wp_seq_k fun K38 hK38 => ?_
        refine wp_region_list (WL.out ?_)
        refine WL.val (by kernel_rfl) (.int .i64 (k : Int)) (by go_simp) ?_
        simp only [Act.put, pqA, pqB, pqC]
        refine WL.val (by kernel_rfl) (.slice pa v.ps.length pc) (by go_simp) ?_
        simp only [Act.put, pqA, pqB, pqC]
        refine WL.val (by kernel_rfl) (.int .i64 (v.ps.length : Int)) (by go_simp) ?_
        simp only [Act.put, pqA, pqB, pqC]
        refine WL.val (by kernel_rfl) (.bool false) (by go_simp) ?_
        simp only [Act.put, pqA, pqB, pqC]
        refine WL.nil ?_
        refine hK38 _ _ ?_
        refine wp_cond_false rfl ?_
        refine wp_exit ?_
        refine hK12 _ _ ?_
        refine wp_region_list (WL.out ?_)
        refine WL.val (by kernel_rfl) (.int .i64 (i : Int)) (by go_simp) ?_
        simp only [Act.put, pqA, pqB, pqC]
        refine WL.val (by kernel_rfl) (.int .i64 ((i : Int) - 1)) (by go_simp) ?_
        simp only [Act.put, pqA, pqB, pqC]
        refine WL.val (by kernel_rfl) (.int .i64 ((i : Int) - 1)) (by go_simp) ?_
        simp only [Act.put, pqA, pqB, pqC]
        refine WL.nil ?_
        refine ⟨⟨t + 1, fun zi => [.pointer (some ⟨d, 0, none⟩), .int .i64 g.room, undef, undef, h 4, .slice (some ⟨b, off, none⟩) g.order.length lc, .slice xa g.queue.length xc, f 7, v8, .int .i64 ((i : Int) - 1), .slice pa v.ps.length pc, .int .i64 0, .int .i64 (k : Int), h 13, undef, undef, undef, .pointer (some ⟨d, 0, none⟩), .slice (some ⟨b, off, none⟩) g.order.length lc, .pointer (some ⟨d, 0, none⟩), .slice xa g.queue.length xc, .slice (some ⟨b, off, none⟩) g.order.length lc, .int .i64 (g.order.length : Int), .pointer (some ⟨d, 0, none⟩), .int .i64 (g.held.length : Int), .bool false, .bool false, .slice (some ⟨b, off, none⟩) g.order.length lc, .int .i64 (g.order.length : Int), .bool false, .bool false, .bool false, .slice xa g.queue.length xc, .int .i64 (g.queue.length : Int), .int .i64 g.room, .bool false, .bool false, .slice (some ⟨g7, 0, none⟩) 0 0, .slice (some ⟨g8, 0, none⟩) 0 0, .slice (some ⟨b, off, none⟩) g.order.length lc, .int .i64 (g.order.length : Int), .int .i64 ((g.order.length : Int) - 1), .int .i64 (i : Int), .bool true, .int .i64 (i : Int), .int .i64 ((i : Int) - 1), f 8, .slice (some ⟨b, off, none⟩) g.order.length lc, .int .i64 (i : Int), .pointer (some ⟨b, off + i * 32, none⟩), .agg (bytesA 32 y.f), .int .i64 ax, .bool false, f 53, f 54, f 55, f 56, f 57, f 58, f 59, .tuple #[.slice pa v.ps.length pc, .int .i64 0], .pointer (some ⟨d, 0, none⟩), .slice (some ⟨b, off, none⟩) g.order.length lc, .int .i64 (i : Int), .pointer (some ⟨b, off + i * 32, none⟩), .agg (bytesA 32 y.f), .tuple #[.slice pa v.ps.length pc, .int .i64 0], .slice pa v.ps.length pc, .int .i64 0, .int .i64 0, .bool false, .bool false, .pointer (some ⟨d, 0, none⟩), .slice (some ⟨b, off, none⟩) g.order.length lc, .int .i64 (i : Int), .pointer (some ⟨b, off + i * 32, none⟩), .agg (bytesA 32 y.f), .bool true, .bool false, .bool false, .bool false, .pointer (some ⟨d, 0, none⟩), .slice (some ⟨b, off, none⟩) g.order.length lc, .int .i64 (i : Int), .pointer (some ⟨b, off + i * 32, none⟩), .agg (bytesA 32 y.f), .bool false, .bool false, .bool false, .pointer (some ⟨d, 0, none⟩), .slice (some ⟨b, off, none⟩) g.order.length lc, .int .i64 (i : Int), .pointer (some ⟨b, off + i * 32, none⟩), .agg (bytesA 32 y.f), .int .i64 v.ck, .bool false, .bool false, f 8, .slice pa v.ps.length pc, v8, .int .i64 (k : Int), .slice pa v.ps.length pc, .int .i64 (v.ps.length : Int), .bool false, h 104, h 105, h 106, h 107, h 108, h 109, h 110, h 111, h 112, h 113, h 114, h 115, h 116, h 117, h 118, h 119, h 120, h 121, h 122, h 123, h 124, h 125, h 126, h 127, h 128, h 129, h 130, h 131, h 132, h 133, undef, undef, undef, undef, undef, undef, undef, undef, undef, undef, undef, undef, undef, undef, undef, undef, undef, undef, undef, undef, undef, undef, undef, undef, undef, undef, undef, undef, undef, undef, undef, undef, undef, undef, undef, undef, undef, undef, undef, undef, undef, undef, undef, undef, undef, undef, undef, undef, undef, undef, undef, undef, undef, undef, undef, undef, undef].getD zi undef, (i : Int) - 1, (if ax < 0 then Hh ++ [y] else Hh), Nn ++ v.ps, rfl, by have := HI.out; omega, by have := HI.out; omega, RB.out, R7.out, R8.out, ⟨QN7.out, QN8.out⟩, ?_, ⟨Mln.out, by rw [List.length_append]; have := JL.out.2; have := HVl.out; omega⟩⟩, ?_⟩
        · have h := GatD.step HD.out.di hy.out HV1.out (by have h := JG.out; rw [show g.order.length - t = i + 1 by have := HI.out; omega] at h; exact h)
          rw [hax.out] at h
          rw [show g.order.length - (t + 1) = i by have := HI.out; omega]
          exact h
        · simp only [intOf]; show ((i : Int) - 1 + 1).toNat < ((i : Int) + 1).toNat; omega
  · have hte : t = g.order.length := by omega
    have hci : ci = -1 := by omega
    subst hci
    clear hc
    have HGt : Keep (GatD g g.order Hh Nn) := ⟨by have h := JG.out; rw [hte, Nat.sub_self, List.drop_zero] at h; exact h⟩
    have HLh : Keep (Hh.length ≤ 4096) := ⟨by have := JL.out.1; have := HL.out; omega⟩
    clear JG JL J8
    refine wp_seq_k fun K39 hK39 => ?_
    refine wp_seq_k fun K40 hK40 => ?_
    refine wp_region_list (WL.out ?_)
    refine WL.val (by kernel_rfl) (.int .i64 (-1)) (by go_simp) ?_
    simp only [Act.put, pqA, pqB, pqC]
    refine WL.val (by kernel_rfl) (.bool false) (by go_simp) ?_
    simp only [Act.put, pqA, pqB, pqC]
    refine WL.nil ?_
    refine hK40 _ _ ?_
    refine wp_cond_false rfl ?_
    refine wp_exit ?_
    refine hK8 _ _ ?_
    refine wp_seq_k fun K41 hK41 => ?_
    refine wp_seq_k fun K42 hK42 => ?_
    refine wp_region_list (WL.out ?_)
    refine WL.val (by kernel_rfl) (.int .i64 0) (by go_simp) ?_
    simp only [Act.put, pqA, pqB, pqC]
    refine WL.nil ?_
    refine hK42 _ _ ?_
    refine wp_block ?_
    refine wp_loop (fun ac wr4 => ∃ (r : Nat) (h4 : Nat → Value), ac = { tmps := #[.pointer (some ⟨d, 0, none⟩), .int .i64 g.room, undef, undef, h4 4, .slice la g.order.length lc, .slice xa g.queue.length xc, f 7, f 8, .int .i64 (-1), f 10, f 11, f 12, f 13, .int .i64 (r : Int), undef, undef, .pointer (some ⟨d, 0, none⟩), .slice la g.order.length lc, .pointer (some ⟨d, 0, none⟩), .slice xa g.queue.length xc, .slice la g.order.length lc, .int .i64 (g.order.length : Int), .pointer (some ⟨d, 0, none⟩), .int .i64 (g.held.length : Int), .bool false, .bool false, .slice la g.order.length lc, .int .i64 (g.order.length : Int), .bool false, .bool false, .bool false, .slice xa g.queue.length xc, .int .i64 (g.queue.length : Int), .int .i64 g.room, .bool false, .bool false, .slice (some ⟨g7, 0, none⟩) 0 0, .slice (some ⟨g8, 0, none⟩) 0 0, .slice la g.order.length lc, .int .i64 (g.order.length : Int), .int .i64 ((g.order.length : Int) - 1), .int .i64 (-1), .bool false, f 44, f 45, f 46, f 47, f 48, f 49, f 50, f 51, f 52, f 53, f 54, f 55, f 56, f 57, f 58, f 59, f 60, f 61, f 62, f 63, f 64, f 65, f 66, f 67, f 68, f 69, f 70, f 71, f 72, f 73, f 74, f 75, f 76, f 77, f 78, f 79, f 80, f 81, f 82, f 83, f 84, f 85, f 86, f 87, f 88, f 89, f 90, f 91, f 92, f 93, f 94, f 95, f 96, f 97, f 98, f 99, f 100, f 101, f 102, f 103, f 104, f 105, f 106, f 107, f 108, f 109, f 110, f 111, f 112, f 113, f 114, f 115, f 116, f 117, f 118, f 119, f 120, f 121, f 122, f 123, f 124, f 125, f 126, f 127, f 128, f 129, f 130, f 131, f 132, f 133, h4 134, h4 135, h4 136, h4 137, h4 138, h4 139, h4 140, h4 141, h4 142, h4 143, h4 144, h4 145, h4 146, h4 147, h4 148, h4 149, h4 150, h4 151, h4 152, h4 153, h4 154, undef, undef, undef, undef, undef, undef, undef, undef, undef, undef, undef, undef, undef, undef, undef, undef, undef, undef, undef, undef, undef, undef, undef, undef, undef, undef, undef, undef, undef, undef, undef, undef, undef, undef, undef, undef], defers := [] } ∧ r ≤ g.queue.length ∧ Below w2.heap.size w2 wr4 ∧ OwnH wr4 (f 7) Hh) (fun a _ => g.queue.length - (intOf (a.tmps.getD 14 undef)).toNat) ⟨0, fun zi => [.pointer (some ⟨d, 0, none⟩), .int .i64 g.room, undef, undef, f 4, .slice la g.order.length lc, .slice xa g.queue.length xc, f 7, f 8, .int .i64 (-1), f 10, f 11, f 12, f 13, .int .i64 0, undef, undef, .pointer (some ⟨d, 0, none⟩), .slice la g.order.length lc, .pointer (some ⟨d, 0, none⟩), .slice xa g.queue.length xc, .slice la g.order.length lc, .int .i64 (g.order.length : Int), .pointer (some ⟨d, 0, none⟩), .int .i64 (g.held.length : Int), .bool false, .bool false, .slice la g.order.length lc, .int .i64 (g.order.length : Int), .bool false, .bool false, .bool false, .slice xa g.queue.length xc, .int .i64 (g.queue.length : Int), .int .i64 g.room, .bool false, .bool false, .slice (some ⟨g7, 0, none⟩) 0 0, .slice (some ⟨g8, 0, none⟩) 0 0, .slice la g.order.length lc, .int .i64 (g.order.length : Int), .int .i64 ((g.order.length : Int) - 1), .int .i64 (-1), .bool false, f 44, f 45, f 46, f 47, f 48, f 49, f 50, f 51, f 52, f 53, f 54, f 55, f 56, f 57, f 58, f 59, f 60, f 61, f 62, f 63, f 64, f 65, f 66, f 67, f 68, f 69, f 70, f 71, f 72, f 73, f 74, f 75, f 76, f 77, f 78, f 79, f 80, f 81, f 82, f 83, f 84, f 85, f 86, f 87, f 88, f 89, f 90, f 91, f 92, f 93, f 94, f 95, f 96, f 97, f 98, f 99, f 100, f 101, f 102, f 103, f 104, f 105, f 106, f 107, f 108, f 109, f 110, f 111, f 112, f 113, f 114, f 115, f 116, f 117, f 118, f 119, f 120, f 121, f 122, f 123, f 124, f 125, f 126, f 127, f 128, f 129, f 130, f 131, f 132, f 133, undef, undef, undef, undef, undef, undef, undef, undef, undef, undef, undef, undef, undef, undef, undef, undef, undef, undef, undef, undef, undef, undef, undef, undef, undef, undef, undef, undef, undef, undef, undef, undef, undef, undef, undef, undef, undef, undef, undef, undef, undef, undef, undef, undef, undef, undef, undef, undef, undef, undef, undef, undef, undef, undef, undef, undef, undef].getD zi undef, rfl, by omega, JB.out, J7.out⟩ ?_
    rintro ac wr4 ⟨r, h4, rfl, hr, hC, hS⟩
    have KS := Keep.mk hS
    clear hS
    have KB := Keep.mk hC
    clear hC
    by_cases hrl : r < g.queue.length
    · have hrl' : (r : Int) < (g.queue.length : Int) := by omega
      have hwr : IntKind.i64.wrap ((r : Int) + 1) = ((r + 1 : Nat) : Int) := by rw [IntKind.wrap_i64]; have := HQ.out; omega
      obtain ⟨gw, ow, hwa, -, -, hrw⟩ := O6.out.row.at (by omega)
      subst hwa
      obtain ⟨x, hx⟩ : ∃ x, Keep (x = g.queue[r]) := ⟨_, ⟨rfl⟩⟩
      have Hlx := Keep.mk (rangeAt_lt hrw (by omega))
      have Hrx : Keep (∀ wx, Below w2.heap.size w2 wx → wx.rangeAt gw (ow + r * 32) (encH x)) := ⟨fun wx hb => by rw [hx.out]; exact rangeAt_elem (rangeAt_below hrw hb Hlx.out) r hrl⟩
      have hxm : x ∈ g.queue := by rw [hx.out]; exact List.getElem_mem hrl
      rw [HD.out.di.q] at hxm
      obtain ⟨u, hu, hue⟩ := List.mem_map.1 hxm
      have HW1 : Keep (hasB g.wait x = true) := ⟨hasB_iff.2 ⟨u, hu, hue⟩⟩
      have HW2 : Keep (hasB g.held x = false) := ⟨by rw [← hue]; exact HD.out.di.dj u hu⟩
      clear hrw hxm hu hue
      refine wp_seq_k fun K43 hK43 => ?_
      refine wp_seq_k fun K44 hK44 => ?_
      refine wp_region_list (WL.out ?_)
      refine WL.val (by kernel_rfl) (.int .i64 (r : Int)) (by go_simp) ?_
      simp only [Act.put, pqA, pqB, pqC]
      refine WL.val (by kernel_rfl) (.slice (some ⟨gw, ow, none⟩) g.queue.length xc) (by go_simp) ?_
      simp only [Act.put, pqA, pqB, pqC]
      refine WL.val (by kernel_rfl) (.int .i64 (g.queue.length : Int)) (by go_simp) ?_
      simp only [Act.put, pqA, pqB, pqC]
      refine WL.val (by kernel_rfl) (.bool true) (by go_simp) ?_
      simp only [Act.put, pqA, pqB, pqC]
      refine WL.nil ?_
      refine hK44 _ _ ?_
      refine wp_cond_true rfl ?_
      refine wp_skip ?_
      refine hK43 _ _ ?_
      refine wp_seq_k fun K45 hK45 => ?_
      refine wp_block ?_
      refine wp_seq_k fun K46 hK46 => ?_
      refine wp_region_list (WL.out ?_)
      refine WL.val (by kernel_rfl) (.pointer (some ⟨d, 0, none⟩)) (by go_simp) ?_
      simp only [Act.put, pqA, pqB, pqC]
      refine WL.val (by kernel_rfl) (.slice (some ⟨gw, ow, none⟩) g.queue.length xc) (by go_simp) ?_
      simp only [Act.put, pqA, pqB, pqC]
      refine WL.val (by kernel_rfl) (.int .i64 (r : Int)) (by go_simp) ?_
      simp only [Act.put, pqA, pqB, pqC]
      refine WL.val (by kernel_rfl) (.pointer (some ⟨gw, ow + r * 32, none⟩)) (by go_simp) ?_
      simp only [Act.put, pqA, pqB, pqC]
      refine WL.mid (by kernel_rfl) 36 (.tmp 143) rfl gw (ow + r * 32) rfl (encH x) _ (Hrx.out _ KB.out) Try.underlying36 rfl (Try.size36L x) ?_
      rw [enc_load]
      simp only [Act.put, pqA, pqB, pqC]
      have hhs := has_any d x (DgS d g) g wr4 (D2.out.below KB.out).at'
      rw [show (g.held.find? (isV x)).isSome = false from HW2.out] at hhs
      refine WL.callF (by kernel_rfl) 45 _ _ rfl Try.in45 #[ptr d, .agg (bytesA 32 x.f)] (by simp [Act.eval]) ?_
      refine (hhs).mono ?_
      rintro e wm ⟨rfl, hz⟩
      refine ⟨_, rfl, ?_⟩
      clear hhs
      have KB1 := Keep.mk (belowT KB.out hz)
      have KS1 := Keep.mk (KS.out.below hz)
      clear hz
      simp only [Act.put, pqA, pqB, pqC]
      refine WL.val (by kernel_rfl) (.bool false) (by go_simp) ?_
      simp only [Act.put, pqA, pqB, pqC]
      refine WL.val (by kernel_rfl) (.pointer (some ⟨d, 0, none⟩)) (by go_simp) ?_
      simp only [Act.put, pqA, pqB, pqC]
      refine WL.val (by kernel_rfl) (.slice (some ⟨gw, ow, none⟩) g.queue.length xc) (by go_simp) ?_
      simp only [Act.put, pqA, pqB, pqC]
      refine WL.val (by kernel_rfl) (.int .i64 (r : Int)) (by go_simp) ?_
      simp only [Act.put, pqA, pqB, pqC]
      refine WL.val (by kernel_rfl) (.pointer (some ⟨gw, ow + r * 32, none⟩)) (by go_simp) ?_
      simp only [Act.put, pqA, pqB, pqC]
      refine WL.mid (by kernel_rfl) 36 (.tmp 150) rfl gw (ow + r * 32) rfl (encH x) _ (Hrx.out _ KB1.out) Try.underlying36 rfl (Try.size36L x) ?_
      rw [enc_load]
      simp only [Act.put, pqA, pqB, pqC]
      have hhs := waits_any d x (DgS d g) g wm (D2.out.below KB1.out).at'
      rw [show (g.wait.find? (isV x)).isSome = true from HW1.out] at hhs
      refine WL.callF (by kernel_rfl) 47 _ _ rfl Try.in47 #[ptr d, .agg (bytesA 32 x.f)] (by simp [Act.eval]) ?_
      refine (hhs).mono ?_
      rintro e wn ⟨rfl, hz⟩
      refine ⟨_, rfl, ?_⟩
      clear hhs
      have KB2 := Keep.mk (belowT KB1.out hz)
      have KS2 := Keep.mk (KS1.out.below hz)
      clear hz
      simp only [Act.put, pqA, pqB, pqC]
      refine WL.val (by kernel_rfl) (.bool false) (by go_simp) ?_
      simp only [Act.put, pqA, pqB, pqC]
      refine WL.val (by kernel_rfl) (.bool false) (by go_simp) ?_
      simp only [Act.put, pqA, pqB, pqC]
      refine WL.nil ?_
      refine hK46 _ _ ?_
      refine wp_cond_false rfl ?_
      refine wp_skip ?_
      refine hK45 _ _ ?_
      refine wp_region_list (WL.out ?_)
      refine WL.val (by kernel_rfl) (.int .i64 (r : Int)) (by go_simp) ?_
      simp only [Act.put, pqA, pqB, pqC]
      refine WL.val (by kernel_rfl) (.int .i64 ((r + 1 : Nat) : Int)) (by go_simp) ?_
      simp only [Act.put, pqA, pqB, pqC]
      refine WL.val (by kernel_rfl) (.int .i64 ((r + 1 : Nat) : Int)) (by go_simp) ?_
      simp only [Act.put, pqA, pqB, pqC]
      refine WL.nil ?_
      refine ⟨⟨r + 1, fun zi => [.pointer (some ⟨d, 0, none⟩), .int .i64 g.room, undef, undef, h4 4, .slice la g.order.length lc, .slice (some ⟨gw, ow, none⟩) g.queue.length xc, f 7, f 8, .int .i64 (-1), f 10, f 11, f 12, f 13, .int .i64 ((r + 1 : Nat) : Int), undef, undef, .pointer (some ⟨d, 0, none⟩), .slice la g.order.length lc, .pointer (some ⟨d, 0, none⟩), .slice (some ⟨gw, ow, none⟩) g.queue.length xc, .slice la g.order.length lc, .int .i64 (g.order.length : Int), .pointer (some ⟨d, 0, none⟩), .int .i64 (g.held.length : Int), .bool false, .bool false, .slice la g.order.length lc, .int .i64 (g.order.length : Int), .bool false, .bool false, .bool false, .slice (some ⟨gw, ow, none⟩) g.queue.length xc, .int .i64 (g.queue.length : Int), .int .i64 g.room, .bool false, .bool false, .slice (some ⟨g7, 0, none⟩) 0 0, .slice (some ⟨g8, 0, none⟩) 0 0, .slice la g.order.length lc, .int .i64 (g.order.length : Int), .int .i64 ((g.order.length : Int) - 1), .int .i64 (-1), .bool false, f 44, f 45, f 46, f 47, f 48, f 49, f 50, f 51, f 52, f 53, f 54, f 55, f 56, f 57, f 58, f 59, f 60, f 61, f 62, f 63, f 64, f 65, f 66, f 67, f 68, f 69, f 70, f 71, f 72, f 73, f 74, f 75, f 76, f 77, f 78, f 79, f 80, f 81, f 82, f 83, f 84, f 85, f 86, f 87, f 88, f 89, f 90, f 91, f 92, f 93, f 94, f 95, f 96, f 97, f 98, f 99, f 100, f 101, f 102, f 103, f 104, f 105, f 106, f 107, f 108, f 109, f 110, f 111, f 112, f 113, f 114, f 115, f 116, f 117, f 118, f 119, f 120, f 121, f 122, f 123, f 124, f 125, f 126, f 127, f 128, f 129, f 130, f 131, f 132, f 133, .int .i64 (r : Int), .slice (some ⟨gw, ow, none⟩) g.queue.length xc, .int .i64 (g.queue.length : Int), .bool true, .int .i64 (r : Int), .int .i64 ((r + 1 : Nat) : Int), .pointer (some ⟨d, 0, none⟩), .slice (some ⟨gw, ow, none⟩) g.queue.length xc, .int .i64 (r : Int), .pointer (some ⟨gw, ow + r * 32, none⟩), .agg (bytesA 32 x.f), .bool false, .bool false, .pointer (some ⟨d, 0, none⟩), .slice (some ⟨gw, ow, none⟩) g.queue.length xc, .int .i64 (r : Int), .pointer (some ⟨gw, ow + r * 32, none⟩), .agg (bytesA 32 x.f), .bool true, .bool false, .bool false, undef, undef, undef, undef, undef, undef, undef, undef, undef, undef, undef, undef, undef, undef, undef, undef, undef, undef, undef, undef, undef, undef, undef, undef, undef, undef, undef, undef, undef, undef, undef, undef, undef, undef, undef, undef].getD zi undef, rfl, by omega, KB2.out, KS2.out⟩, ?_⟩
      simp only [intOf]; show g.queue.length - (((r + 1 : Nat) : Int)).toNat < g.queue.length - ((r : Int)).toNat; omega
    · have hrl' : ¬ (r : Int) < (g.queue.length : Int) := by omega
      refine wp_seq_k fun K47 hK47 => ?_
      refine wp_seq_k fun K48 hK48 => ?_
      refine wp_region_list (WL.out ?_)
      refine WL.val (by kernel_rfl) (.int .i64 (r : Int)) (by go_simp) ?_
      simp only [Act.put, pqA, pqB, pqC]
      refine WL.val (by kernel_rfl) (.slice xa g.queue.length xc) (by go_simp) ?_
      simp only [Act.put, pqA, pqB, pqC]
      refine WL.val (by kernel_rfl) (.int .i64 (g.queue.length : Int)) (by go_simp) ?_
      simp only [Act.put, pqA, pqB, pqC]
      refine WL.val (by kernel_rfl) (.bool false) (by go_simp) ?_
      simp only [Act.put, pqA, pqB, pqC]
      refine WL.nil ?_
      refine hK48 _ _ ?_
      refine wp_cond_false rfl ?_
      refine wp_exit ?_
      refine hK41 _ _ ?_
      refine wp_seq_k fun K49 hK49 => ?_
      refine wp_region_list (WL.out ?_)
      refine WL.val (by kernel_rfl) (.pointer (some ⟨d, 0, none⟩)) (by go_simp) ?_
      simp only [Act.put, pqA, pqB, pqC]
      have hmi := missing_any B0 d g wr4 (D2.out.below KB.out)
      refine WL.callF (by kernel_rfl) 50 _ _ rfl Try.in50 #[ptr d] (by simp [Act.eval]) ?_
      refine (hmi).mono ?_
      rintro e w20 ⟨v15, L15, rfl, hf, hp, hm, hl⟩
      refine ⟨_, rfl, ?_⟩
      clear hmi
      obtain ⟨ma, mc, e15⟩ := hf.own.sl
      subst e15
      have O15 := Keep.mk hf.own
      have B20 := Keep.mk (belowT KB.out hf.bel)
      have S20 := Keep.mk (KS.out.below hf.bel)
      have M15 := Keep.mk hm
      have R15 := Keep.mk hp
      have L15l := Keep.mk hl
      clear hf hp hm hl
      simp only [Act.put, pqA, pqB, pqC]
      refine WL.val (by kernel_rfl) (.slice ma L15.length mc) (by go_simp) ?_
      simp only [Act.put, pqA, pqB, pqC]
      refine WL.nil ?_
      refine hK49 _ _ ?_
      refine wp_seq_k fun K50 hK50 => ?_
      refine wp_seq_k fun K51 hK51 => ?_
      refine wp_region_list (WL.out ?_)
      refine WL.val (by kernel_rfl) (.int .i64 0) (by go_simp) ?_
      simp only [Act.put, pqA, pqB, pqC]
      refine WL.nil ?_
      refine hK51 _ _ ?_
      refine wp_block ?_
      refine wp_loop (fun ac wr6 => ∃ (q : Nat) (h6 : Nat → Value), ac = { tmps := #[.pointer (some ⟨d, 0, none⟩), .int .i64 g.room, undef, undef, h6 4, .slice la g.order.length lc, .slice xa g.queue.length xc, f 7, f 8, .int .i64 (-1), f 10, f 11, f 12, f 13, .int .i64 (r : Int), .slice ma L15.length mc, .int .i64 (q : Int), .pointer (some ⟨d, 0, none⟩), .slice la g.order.length lc, .pointer (some ⟨d, 0, none⟩), .slice xa g.queue.length xc, .slice la g.order.length lc, .int .i64 (g.order.length : Int), .pointer (some ⟨d, 0, none⟩), .int .i64 (g.held.length : Int), .bool false, .bool false, .slice la g.order.length lc, .int .i64 (g.order.length : Int), .bool false, .bool false, .bool false, .slice xa g.queue.length xc, .int .i64 (g.queue.length : Int), .int .i64 g.room, .bool false, .bool false, .slice (some ⟨g7, 0, none⟩) 0 0, .slice (some ⟨g8, 0, none⟩) 0 0, .slice la g.order.length lc, .int .i64 (g.order.length : Int), .int .i64 ((g.order.length : Int) - 1), .int .i64 (-1), .bool false, f 44, f 45, f 46, f 47, f 48, f 49, f 50, f 51, f 52, f 53, f 54, f 55, f 56, f 57, f 58, f 59, f 60, f 61, f 62, f 63, f 64, f 65, f 66, f 67, f 68, f 69, f 70, f 71, f 72, f 73, f 74, f 75, f 76, f 77, f 78, f 79, f 80, f 81, f 82, f 83, f 84, f 85, f 86, f 87, f 88, f 89, f 90, f 91, f 92, f 93, f 94, f 95, f 96, f 97, f 98, f 99, f 100, f 101, f 102, f 103, f 104, f 105, f 106, f 107, f 108, f 109, f 110, f 111, f 112, f 113, f 114, f 115, f 116, f 117, f 118, f 119, f 120, f 121, f 122, f 123, f 124, f 125, f 126, f 127, f 128, f 129, f 130, f 131, f 132, f 133, .int .i64 (r : Int), .slice xa g.queue.length xc, .int .i64 (g.queue.length : Int), .bool false, h4 138, h4 139, h4 140, h4 141, h4 142, h4 143, h4 144, h4 145, h4 146, h4 147, h4 148, h4 149, h4 150, h4 151, h4 152, h4 153, h4 154, .pointer (some ⟨d, 0, none⟩), .slice ma L15.length mc, h6 157, h6 158, h6 159, h6 160, h6 161, h6 162, h6 163, h6 164, h6 165, h6 166, h6 167, h6 168, h6 169, h6 170, h6 171, h6 172, h6 173, h6 174, h6 175, h6 176, undef, undef, undef, undef, undef, undef, undef, undef, undef, undef, undef, undef, undef, undef], defers := [] } ∧ q ≤ L15.length ∧ Below w20.heap.size w20 wr6) (fun a _ => L15.length - (intOf (a.tmps.getD 16 undef)).toNat) ⟨0, fun zi => [.pointer (some ⟨d, 0, none⟩), .int .i64 g.room, undef, undef, h4 4, .slice la g.order.length lc, .slice xa g.queue.length xc, f 7, f 8, .int .i64 (-1), f 10, f 11, f 12, f 13, .int .i64 (r : Int), .slice ma L15.length mc, .int .i64 0, .pointer (some ⟨d, 0, none⟩), .slice la g.order.length lc, .pointer (some ⟨d, 0, none⟩), .slice xa g.queue.length xc, .slice la g.order.length lc, .int .i64 (g.order.length : Int), .pointer (some ⟨d, 0, none⟩), .int .i64 (g.held.length : Int), .bool false, .bool false, .slice la g.order.length lc, .int .i64 (g.order.length : Int), .bool false, .bool false, .bool false, .slice xa g.queue.length xc, .int .i64 (g.queue.length : Int), .int .i64 g.room, .bool false, .bool false, .slice (some ⟨g7, 0, none⟩) 0 0, .slice (some ⟨g8, 0, none⟩) 0 0, .slice la g.order.length lc, .int .i64 (g.order.length : Int), .int .i64 ((g.order.length : Int) - 1), .int .i64 (-1), .bool false, f 44, f 45, f 46, f 47, f 48, f 49, f 50, f 51, f 52, f 53, f 54, f 55, f 56, f 57, f 58, f 59, f 60, f 61, f 62, f 63, f 64, f 65, f 66, f 67, f 68, f 69, f 70, f 71, f 72, f 73, f 74, f 75, f 76, f 77, f 78, f 79, f 80, f 81, f 82, f 83, f 84, f 85, f 86, f 87, f 88, f 89, f 90, f 91, f 92, f 93, f 94, f 95, f 96, f 97, f 98, f 99, f 100, f 101, f 102, f 103, f 104, f 105, f 106, f 107, f 108, f 109, f 110, f 111, f 112, f 113, f 114, f 115, f 116, f 117, f 118, f 119, f 120, f 121, f 122, f 123, f 124, f 125, f 126, f 127, f 128, f 129, f 130, f 131, f 132, f 133, .int .i64 (r : Int), .slice xa g.queue.length xc, .int .i64 (g.queue.length : Int), .bool false, h4 138, h4 139, h4 140, h4 141, h4 142, h4 143, h4 144, h4 145, h4 146, h4 147, h4 148, h4 149, h4 150, h4 151, h4 152, h4 153, h4 154, .pointer (some ⟨d, 0, none⟩), .slice ma L15.length mc, undef, undef, undef, undef, undef, undef, undef, undef, undef, undef, undef, undef, undef, undef, undef, undef, undef, undef, undef, undef, undef, undef, undef, undef, undef, undef, undef, undef, undef, undef, undef, undef, undef, undef].getD zi undef, rfl, by omega, Below.refl _ _⟩ ?_
      rintro ac wr6 ⟨q, h6, rfl, hq, hC⟩
      have NB := Keep.mk hC
      clear hC
      by_cases hql : q < L15.length
      · have hql' : (q : Int) < (L15.length : Int) := by omega
        have hwq : IntKind.i64.wrap ((q : Int) + 1) = ((q + 1 : Nat) : Int) := by rw [IntKind.wrap_i64]; have := L15l.out; omega
        obtain ⟨gm, om, hma, -, -, hrm⟩ := O15.out.row.at (by omega)
        subst hma
        obtain ⟨x, hx⟩ : ∃ x, Keep (x = L15[q]) := ⟨_, ⟨rfl⟩⟩
        have Hlx := Keep.mk (rangeAt_lt hrm (by omega))
        have Hrx : Keep (∀ wx, Below w20.heap.size w20 wx → wx.rangeAt gm (om + q * 32) (encH x)) := ⟨fun wx hb => by rw [hx.out]; exact rangeAt_elem (rangeAt_below hrm hb Hlx.out) q hql⟩
        have hxm : x ∈ misL g g.wait := (M15.out x).1 (by rw [hx.out]; exact List.getElem_mem hql)
        have hxp : misP g x = true := (List.mem_filter.1 hxm).2
        have HW2 : Keep (hasB g.held x = false) := ⟨by unfold misP at hxp; cases h : hasB g.held x <;> simp_all⟩
        have HW1 : Keep (hasB g.wait x = false) := ⟨by unfold misP at hxp; cases h : hasB g.wait x <;> simp_all⟩
        clear hrm hxm hxp
        refine wp_seq_k fun K52 hK52 => ?_
        refine wp_seq_k fun K53 hK53 => ?_
        refine wp_region_list (WL.out ?_)
        refine WL.val (by kernel_rfl) (.int .i64 (q : Int)) (by go_simp) ?_
        simp only [Act.put, pqA, pqB, pqC]
        refine WL.val (by kernel_rfl) (.slice (some ⟨gm, om, none⟩) L15.length mc) (by go_simp) ?_
        simp only [Act.put, pqA, pqB, pqC]
        refine WL.val (by kernel_rfl) (.int .i64 (L15.length : Int)) (by go_simp) ?_
        simp only [Act.put, pqA, pqB, pqC]
        refine WL.val (by kernel_rfl) (.bool true) (by go_simp) ?_
        simp only [Act.put, pqA, pqB, pqC]
        refine WL.nil ?_
        refine hK53 _ _ ?_
        refine wp_cond_true rfl ?_
        refine wp_skip ?_
        refine hK52 _ _ ?_
        refine wp_seq_k fun K54 hK54 => ?_
        refine wp_block ?_
        refine wp_seq_k fun K55 hK55 => ?_
        refine wp_region_list (WL.out ?_)
        refine WL.val (by kernel_rfl) (.pointer (some ⟨d, 0, none⟩)) (by go_simp) ?_
        simp only [Act.put, pqA, pqB, pqC]
        refine WL.val (by kernel_rfl) (.slice (some ⟨gm, om, none⟩) L15.length mc) (by go_simp) ?_
        simp only [Act.put, pqA, pqB, pqC]
        refine WL.val (by kernel_rfl) (.int .i64 (q : Int)) (by go_simp) ?_
        simp only [Act.put, pqA, pqB, pqC]
        refine WL.val (by kernel_rfl) (.pointer (some ⟨gm, om + q * 32, none⟩)) (by go_simp) ?_
        simp only [Act.put, pqA, pqB, pqC]
        refine WL.mid (by kernel_rfl) 36 (.tmp 166) rfl gm (om + q * 32) rfl (encH x) _ (Hrx.out _ NB.out) Try.underlying36 rfl (Try.size36L x) ?_
        rw [enc_load]
        simp only [Act.put, pqA, pqB, pqC]
        have hhs := has_any d x (DgS d g) g wr6 (D2.out.below (belowT B20.out NB.out)).at'
        rw [show (g.held.find? (isV x)).isSome = false from HW2.out] at hhs
        refine WL.callF (by kernel_rfl) 45 _ _ rfl Try.in45 #[ptr d, .agg (bytesA 32 x.f)] (by simp [Act.eval]) ?_
        refine (hhs).mono ?_
        rintro e wm ⟨rfl, hz⟩
        refine ⟨_, rfl, ?_⟩
        clear hhs
        have NB1 := Keep.mk (belowT NB.out hz)
        clear hz
        simp only [Act.put, pqA, pqB, pqC]
        refine WL.val (by kernel_rfl) (.bool false) (by go_simp) ?_
        simp only [Act.put, pqA, pqB, pqC]
        refine WL.val (by kernel_rfl) (.pointer (some ⟨d, 0, none⟩)) (by go_simp) ?_
        simp only [Act.put, pqA, pqB, pqC]
        refine WL.val (by kernel_rfl) (.slice (some ⟨gm, om, none⟩) L15.length mc) (by go_simp) ?_
        simp only [Act.put, pqA, pqB, pqC]
        refine WL.val (by kernel_rfl) (.int .i64 (q : Int)) (by go_simp) ?_
        simp only [Act.put, pqA, pqB, pqC]
        refine WL.val (by kernel_rfl) (.pointer (some ⟨gm, om + q * 32, none⟩)) (by go_simp) ?_
        simp only [Act.put, pqA, pqB, pqC]
        refine WL.mid (by kernel_rfl) 36 (.tmp 173) rfl gm (om + q * 32) rfl (encH x) _ (Hrx.out _ NB1.out) Try.underlying36 rfl (Try.size36L x) ?_
        rw [enc_load]
        simp only [Act.put, pqA, pqB, pqC]
        have hhs := waits_any d x (DgS d g) g wm (D2.out.below (belowT B20.out NB1.out)).at'
        rw [show (g.wait.find? (isV x)).isSome = false from HW1.out] at hhs
        refine WL.callF (by kernel_rfl) 47 _ _ rfl Try.in47 #[ptr d, .agg (bytesA 32 x.f)] (by simp [Act.eval]) ?_
        refine (hhs).mono ?_
        rintro e wn ⟨rfl, hz⟩
        refine ⟨_, rfl, ?_⟩
        clear hhs
        have NB2 := Keep.mk (belowT NB1.out hz)
        clear hz
        simp only [Act.put, pqA, pqB, pqC]
        refine WL.val (by kernel_rfl) (.bool false) (by go_simp) ?_
        simp only [Act.put, pqA, pqB, pqC]
        refine WL.nil ?_
        refine hK55 _ _ ?_
        refine wp_cond_false rfl ?_
        refine wp_skip ?_
        refine hK54 _ _ ?_
        refine wp_region_list (WL.out ?_)
        refine WL.val (by kernel_rfl) (.int .i64 (q : Int)) (by go_simp) ?_
        simp only [Act.put, pqA, pqB, pqC]
        refine WL.val (by kernel_rfl) (.int .i64 ((q + 1 : Nat) : Int)) (by go_simp) ?_
        simp only [Act.put, pqA, pqB, pqC]
        refine WL.val (by kernel_rfl) (.int .i64 ((q + 1 : Nat) : Int)) (by go_simp) ?_
        simp only [Act.put, pqA, pqB, pqC]
        refine WL.nil ?_
        refine ⟨⟨q + 1, fun zi => [.pointer (some ⟨d, 0, none⟩), .int .i64 g.room, undef, undef, h6 4, .slice la g.order.length lc, .slice xa g.queue.length xc, f 7, f 8, .int .i64 (-1), f 10, f 11, f 12, f 13, .int .i64 (r : Int), .slice (some ⟨gm, om, none⟩) L15.length mc, .int .i64 ((q + 1 : Nat) : Int), .pointer (some ⟨d, 0, none⟩), .slice la g.order.length lc, .pointer (some ⟨d, 0, none⟩), .slice xa g.queue.length xc, .slice la g.order.length lc, .int .i64 (g.order.length : Int), .pointer (some ⟨d, 0, none⟩), .int .i64 (g.held.length : Int), .bool false, .bool false, .slice la g.order.length lc, .int .i64 (g.order.length : Int), .bool false, .bool false, .bool false, .slice xa g.queue.length xc, .int .i64 (g.queue.length : Int), .int .i64 g.room, .bool false, .bool false, .slice (some ⟨g7, 0, none⟩) 0 0, .slice (some ⟨g8, 0, none⟩) 0 0, .slice la g.order.length lc, .int .i64 (g.order.length : Int), .int .i64 ((g.order.length : Int) - 1), .int .i64 (-1), .bool false, f 44, f 45, f 46, f 47, f 48, f 49, f 50, f 51, f 52, f 53, f 54, f 55, f 56, f 57, f 58, f 59, f 60, f 61, f 62, f 63, f 64, f 65, f 66, f 67, f 68, f 69, f 70, f 71, f 72, f 73, f 74, f 75, f 76, f 77, f 78, f 79, f 80, f 81, f 82, f 83, f 84, f 85, f 86, f 87, f 88, f 89, f 90, f 91, f 92, f 93, f 94, f 95, f 96, f 97, f 98, f 99, f 100, f 101, f 102, f 103, f 104, f 105, f 106, f 107, f 108, f 109, f 110, f 111, f 112, f 113, f 114, f 115, f 116, f 117, f 118, f 119, f 120, f 121, f 122, f 123, f 124, f 125, f 126, f 127, f 128, f 129, f 130, f 131, f 132, f 133, .int .i64 (r : Int), .slice xa g.queue.length xc, .int .i64 (g.queue.length : Int), .bool false, h4 138, h4 139, h4 140, h4 141, h4 142, h4 143, h4 144, h4 145, h4 146, h4 147, h4 148, h4 149, h4 150, h4 151, h4 152, h4 153, h4 154, .pointer (some ⟨d, 0, none⟩), .slice (some ⟨gm, om, none⟩) L15.length mc, .int .i64 (q : Int), .slice (some ⟨gm, om, none⟩) L15.length mc, .int .i64 (L15.length : Int), .bool true, .int .i64 (q : Int), .int .i64 ((q + 1 : Nat) : Int), .pointer (some ⟨d, 0, none⟩), .slice (some ⟨gm, om, none⟩) L15.length mc, .int .i64 (q : Int), .pointer (some ⟨gm, om + q * 32, none⟩), .agg (bytesA 32 x.f), .bool false, .bool false, .pointer (some ⟨d, 0, none⟩), .slice (some ⟨gm, om, none⟩) L15.length mc, .int .i64 (q : Int), .pointer (some ⟨gm, om + q * 32, none⟩), .agg (bytesA 32 x.f), .bool false, .bool false, undef, undef, undef, undef, undef, undef, undef, undef, undef, undef, undef, undef, undef, undef].getD zi undef, rfl, by omega, NB2.out⟩, ?_⟩
        simp only [intOf]; show L15.length - (((q + 1 : Nat) : Int)).toNat < L15.length - ((q : Int)).toNat; omega
      · have hql' : ¬ (q : Int) < (L15.length : Int) := by omega
        have E2 := Keep.mk (belowT B20.out NB.out)
        have E7 := Keep.mk (S20.out.below NB.out)
        have E15 := Keep.mk (O15.out.below NB.out)
        refine wp_seq_k fun K56 hK56 => ?_
        refine wp_seq_k fun K57 hK57 => ?_
        refine wp_region_list (WL.out ?_)
        refine WL.val (by kernel_rfl) (.int .i64 (q : Int)) (by go_simp) ?_
        simp only [Act.put, pqA, pqB, pqC]
        refine WL.val (by kernel_rfl) (.slice ma L15.length mc) (by go_simp) ?_
        simp only [Act.put, pqA, pqB, pqC]
        refine WL.val (by kernel_rfl) (.int .i64 (L15.length : Int)) (by go_simp) ?_
        simp only [Act.put, pqA, pqB, pqC]
        refine WL.val (by kernel_rfl) (.bool false) (by go_simp) ?_
        simp only [Act.put, pqA, pqB, pqC]
        refine WL.nil ?_
        refine hK57 _ _ ?_
        refine wp_cond_false rfl ?_
        refine wp_exit ?_
        refine hK50 _ _ ?_
        refine wp_seq_k fun K58 hK58 => ?_
        refine wp_region_list (WL.out ?_)
        refine WL.val (by kernel_rfl) (f 7) (by go_simp) ?_
        simp only [Act.put, pqA, pqB, pqC]
        have hso := refSort_any _ (f 7) Hh wr6 rfl E7.out.row (by have := HLh.out; omega)
        refine WL.callF (by kernel_rfl) 16 _ _ rfl Try.in16 #[f 7] (by simp [Act.eval]) ?_
        refine (hso.mono (R' := fun e w' => ∃ v', e = .returned v' ∧ OwnH w' v' g.heads ∧ Below wr6.heap.size wr6 w') (fun e w' ⟨v', L', h1, h2, h3, h4, h5, h6⟩ => ⟨v', h1, by have h : L' = g.heads := rising_unique _ _ h3 HD.out.di.hd (fun x => by rw [h4, HGt.out.heads HD.out.di]); rw [← h]; exact OwnH.of h2, h6⟩)).mono ?_
        rintro e w21 ⟨v178, rfl, h1, hz⟩
        refine ⟨_, rfl, ?_⟩
        clear hso
        have F7 := Keep.mk h1
        have F2 := Keep.mk (belowT E2.out hz)
        have F15 := Keep.mk (E15.out.below hz)
        clear h1 hz
        simp only [Act.put, pqA, pqB, pqC]
        refine WL.val (by kernel_rfl) (.pointer (some ⟨d, 0, none⟩)) (by go_simp) ?_
        simp only [Act.put, pqA, pqB, pqC]
        refine WL.callF (by kernel_rfl) 25 _ _ rfl Try.in25 #[ptr d] (by simp [Act.eval]) ?_
        refine (heads_any d (DgS d g) g w21 (D2.out.below F2.out).at' (by have := HD.out.di.hdl; have := HD.out.di.hl; omega)).mono ?_
        rintro e w22 ⟨v180, rfl, hf⟩
        refine ⟨_, rfl, ?_⟩
        have G7 := Keep.mk (F7.out.below hf.bel)
        have G8 := Keep.mk hf.own
        have G2 := Keep.mk (belowT F2.out hf.bel)
        have G15 := Keep.mk (F15.out.below hf.bel)
        clear hf
        simp only [Act.put, pqA, pqB, pqC]
        have hsm := smH_any v178 v180 g.heads g.heads w22 G7.out.row G8.out.row (by have := HD.out.di.hdl; have := HD.out.di.hl; omega)
        rw [decide_eq_true rfl] at hsm
        refine WL.callF (by kernel_rfl) 19 _ _ rfl Try.in19 #[v178, v180] (by simp [Act.eval]) ?_
        refine (hsm).mono ?_
        rintro e w23 ⟨rfl, hz⟩
        refine ⟨_, rfl, ?_⟩
        clear hsm
        have H2 := Keep.mk (belowT G2.out hz)
        have H15 := Keep.mk (G15.out.below hz)
        clear hz
        simp only [Act.put, pqA, pqB, pqC]
        refine WL.val (by kernel_rfl) (.bool true) (by go_simp) ?_
        simp only [Act.put, pqA, pqB, pqC]
        refine WL.val (by kernel_rfl) (.slice ma L15.length mc) (by go_simp) ?_
        simp only [Act.put, pqA, pqB, pqC]
        have hri := riR_any _ L15 w23 H15.out.row (by have := L15l.out; omega) R15.out
        refine WL.callF (by kernel_rfl) 65 _ _ rfl Try.in65 #[.slice ma L15.length mc] (by simp [Act.eval]) ?_
        refine (hri).mono ?_
        rintro e w24 ⟨rfl, hz⟩
        refine ⟨_, rfl, ?_⟩
        clear hri
        have I2 := Keep.mk (belowT H2.out hz)
        clear hz
        simp only [Act.put, pqA, pqB, pqC]
        refine WL.val (by kernel_rfl) (.bool true) (by go_simp) ?_
        simp only [Act.put, pqA, pqB, pqC]
        refine WL.val (by kernel_rfl) (.bool true) (by go_simp) ?_
        simp only [Act.put, pqA, pqB, pqC]
        refine WL.val (by kernel_rfl) (.pointer (some ⟨d, 0, none⟩)) (by go_simp) ?_
        simp only [Act.put, pqA, pqB, pqC]
        refine WL.val (by kernel_rfl) (.slice la g.order.length lc) (by go_simp) ?_
        simp only [Act.put, pqA, pqB, pqC]
        have hod := ordered_any B0 d (.slice la g.order.length lc) g w24 (D2.out.below I2.out) (O5.out.below I2.out).row
        refine WL.callF (by kernel_rfl) 66 _ _ rfl Try.in66 #[ptr d, .slice la g.order.length lc] (by simp [Act.eval]) ?_
        refine (hod).mono ?_
        rintro e w25 ⟨rfl, hz⟩
        refine ⟨_, rfl, ?_⟩
        clear hod
        have K2 := Keep.mk (belowT I2.out hz)
        clear hz
        simp only [Act.put, pqA, pqB, pqC]
        refine WL.val (by kernel_rfl) (.bool true) (by go_simp) ?_
        simp only [Act.put, pqA, pqB, pqC]
        refine WL.val (by kernel_rfl) (.bool true) (by go_simp) ?_
        simp only [Act.put, pqA, pqB, pqC]
        refine WL.nil ?_
        refine hK58 _ _ ?_
        refine wp_ret ?_
        go_ret
        exact ⟨rfl, belowT B2.out K2.out⟩
end Go.Proofs.Ytogmdfhicbmplaa
