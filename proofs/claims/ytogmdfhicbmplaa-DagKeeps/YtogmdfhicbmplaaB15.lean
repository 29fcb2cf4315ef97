import Derived.Test.YtogmdfhicbmplaaB12
import Derived.Test.YtogmdfhicbmplaaB14
import Derived.Test.YtogmdfhicbmplaaB09
import Derived.Test.YtogmdfhicbmplaaB13
namespace Go.Proofs.Ytogmdfhicbmplaa
open Go.RowKit
set_option linter.unusedSimpArgs false
set_option linter.unusedVariables false

def mk8 : Hs := Hs.mk' (fun j => if j = 8 then 136 else 0) fun j _ => by
  by_cases h : j = 8
  · simp only [h, if_true]; omega
  · simp only [h, if_false]; omega
theorem built8 : Try.prog.built 36 [(8, .int .u8 136)] = some (bytesA 32 mk8.f) := by
  have h : Try.prog.built 36 [(8, .int .u8 136)] = some (bytesA 32 (upd (fun _ => 0) 8 136)) := by kernel_rfl
  rw [h]
  congr 1
theorem built9 : Try.prog.built 36 [(9, .int .u8 153)] = some (bytesA 32 (upd (fun _ => 0) 9 153)) := by kernel_rfl
theorem bs2 (c : Nat → Int) (w : World) : (Instr.buildSlice 37 2 #[(0, .agg (bytesA 32 c)), (1, .agg (bytesA 32 c))]).run Try.prog w = .ok (.slice (some ⟨w.heap.size, 0, none⟩) 2 2) (w.alloc (.cells (bytesA 32 c ++ bytesA 32 c) 36)) := by kernel_rfl
theorem two_row (x : Hs) (w : World) : HRow (w.alloc (.cells (bytesA 32 x.f ++ bytesA 32 x.f) 36)) (.slice (some ⟨w.heap.size, 0, none⟩) 2 2) [x, x] := by
  refine HRow.mk rfl (Nat.le_refl _) ?_
  have h := blk_rng (Blk.new w 36 (bytesA 32 x.f ++ bytesA 32 x.f))
  rw [Array.toList_append] at h
  have e : flatH [x, x] = (bytesA 32 x.f).toList ++ (bytesA 32 x.f).toList := by simp [flatH, encH]
  rw [e]
  exact h
theorem run_appMK (w : World) (ty : TypeId) (v vx : Value) (l M : List Hs) (hown : OwnH w v l) (hr : HRow w vx M) (hb : l.length + M.length ≤ 4398046511104) :
    ∃ v' w', (Builtin.append_ #[37, 37] ty #[v, vx]).run Try.prog w = .ok v' w' ∧ OwnH w' v' (l ++ M) ∧ (Grown w w' fun k => v.ownBlock = some k) ∧ Moved w v v' := by
  obtain ⟨i, hi, hzz⟩ := Option.map_eq_some_iff.1 Try.infoH
  simp only [Prod.mk.injEq] at hzz
  obtain ⟨hz, hsz, hby⟩ := hzz
  have hzs : (Value.agg (bytesA 32 fun _ => 0)).cells.size = 32 := by show (bytesA 32 fun _ => 0).size = 32; exact bytesA_size _ _
  have some_ : ∀ (a : Addr) (c : Nat), vx = .slice (some a) M.length c → (∀ j u, (flatH M)[j]? = some u → w.cell? (a.add j) = some u) → ∃ v' w', (Builtin.append_ #[37, 37] ty #[v, vx]).run Try.prog w = .ok v' w' ∧ OwnH w' v' (l ++ M) ∧ (Grown w w' fun k => v.ownBlock = some k) ∧ Moved w v v' := by
    intro a c e hc
    obtain ⟨v', w', hr, h1, h2, _, h3⟩ := run_append_own_at (P := Try.prog) w 0 37 ty 36 i (.agg (bytesA 32 fun _ => 0)) 32 32 Try.underlying37 hi hz hsz hby hzs (by omega) v l.length (flatH l) hown a M.length c (flatH M) (flatH_len M) hc (flatH_one M) (by unfold maxLen; omega) (by omega) (Nat.zero_le _)
    refine ⟨v', w', by rw [e]; exact hr, ?_, Grown.of h2 fun k _ e => e, ?_⟩
    · unfold OwnH
      rw [List.length_append, flatH_app]
      exact h1
    · rcases h3 with h3 | h3
      · exact .inl h3
      · exact .inr ⟨_, h3, Nat.le_refl _⟩
  rcases hr with ⟨ad, c, rfl, rfl, hac⟩ | ⟨b, off, cap, rfl, hcap, hc⟩
  · cases ad with
    | none =>
      obtain rfl := hac rfl
      exact ⟨v, w, run_append_owned_none (P := Try.prog) (w := w) 0 37 ty 36 i 32 Try.underlying37 hi v l.length _ hown, by rw [List.append_nil]; exact hown, Grown.refl _ _, Moved.refl _ _⟩
    | some ad => exact some_ ad c rfl (fun j u hu => by simp [flatH_nil] at hu)
  · exact some_ ⟨b, off, none⟩ cap rfl (fun j u hu => by rw [Addr.add_mid]; exact hc j u hu)
theorem wp_apM {o : Oper} {a : Act} {w : World} {K : Act → World → Prop} {Q : Exit → Act → World → Prop} (s x : Operand)
    (ho : o.op = .call { callee := .builtin .append, args := #[s, x], argTypes := #[37, 37] }) (v vx : Value) (l M : List Hs) (hs : a.eval s = v) (hx : a.eval x = vx) (hown : OwnH w v l) (hr : HRow w vx M) (hb : l.length + M.length ≤ 4398046511104)
    (h : ∀ v' w', OwnH w' v' (l ++ M) → (Grown w w' fun k => v.ownBlock = some k) → Moved w v v' → K (a.put o.dst v') w') : o.wp Try.prog a w K Q := by
  obtain ⟨v', w', hr, h1, h2, h3⟩ := run_appMK w o.type v vx l M hown hr hb
  unfold Oper.wp execOp
  simp only [ho, resolve, invoke, builtin, Sem.run_bind, Sem.run_pure, Result.andThen_ok, List.map_toArray, List.map_cons, List.map_nil, hs, hx, hr]
  exact h v' w' h1 h2 h3
theorem DS.addAv {B : Nat} {w w' : World} {d : Nat} {g : DG} (h : DS B w d g) (hb : Below w.heap.size w w') {ga : Nat} (hg : w.heap.size ≤ ga ∧ ga < w'.heap.size) : DagAt w' (fun k => DgS d g k ∨ k = ga) d g :=
  h.at'.grown (Grown.below (S := fun _ => False) hb) (fun _ e => e.elim) (fun _ _ e => e.elim) (fun k hk e => e.elim id fun e => by omega) (fun k hk => .inl hk) (fun k hk => hk.elim (fun h2 => Nat.lt_of_lt_of_le (h.at'.lt k h2) hb.size) fun e => by omega)
theorem Ste.over {B : Nat} {w w1 w2 : World} {d ga : Nat} {g g1 : DG} (h : Ste w w1 (fun k => DgS d g k ∨ k = ga) d g g1) (hI : DI g1) (hlo : ∀ k, DgS d g k → B ≤ k) (hB : B ≤ w.heap.size) (hga : ¬ DgS d g ga) (hlt : ga < w.heap.size) (hg : Grown w1 w2 fun k => k = ga) : DS B w2 d g1 ∧ ¬ DgS d g1 ga := by
  have hn : ¬ DgS d g1 ga := fun e => (h.sub ga e).elim hga fun h => by omega
  refine ⟨⟨?_, hI, fun k hk => (h.sub k hk).elim (hlo k) fun h => Nat.le_trans hB h⟩, hn⟩
  exact h.at'.grown hg (fun k e hk => hn (e ▸ hk)) (fun k _ e => .inl (.inr e)) (fun k _ e => .inr e) (fun k hk => hk) (fun k hk => Nat.lt_of_lt_of_le (h.at'.lt k (.inr hk)) hg.size)
theorem ownX_grown {w w' : World} {v : Value} {n : Nat} {xs : List Value} {T : Nat → Prop} (h : w.ownsRow 0 36 32 v n xs) (hg : Grown w w' T) (hs : ∀ k, v.ownBlock = some k → ¬ T k) : w'.ownsRow 0 36 32 v n xs := by
  refine ⟨h.1, ?_⟩
  rcases h.2 with h1 | ⟨g, cap, cur, rfl, h2, h3, h4⟩
  · exact .inl h1
  · exact .inr ⟨g, cap, cur, rfl, h2, hg.blk (show Blk w g 36 cur from h3) (hs g rfl), h4⟩
theorem mrg_one (x : Hs) (l : List Hs) : (mrg [x] l).length ≤ l.length + 1 := by have := mrg_length [x] l; simpa [Nat.add_comm] using this
theorem srt_len : ∀ l : List Hs, (srt l).length ≤ l.length
  | [] => Nat.le_refl _
  | x :: r => by have h1 := mrg_one x (srt r); have h2 := srt_len r; rw [srt, List.length_cons]; omega
theorem mis_len {g : DG} (h : DI g) : (srt (misL g g.wait)).length ≤ 4096 := by
  refine Nat.le_trans (srt_len _) ?_
  unfold misL
  refine Nat.le_trans (List.length_filter_le _ _) ?_
  have key : ∀ l : List VX, (∀ v ∈ l, v.ps.length ≤ 64) → (l.flatMap (·.ps)).length ≤ 64 * l.length := by
    intro l
    induction l with
    | nil => intro _; simp
    | cons a b ih => intro hl; rw [List.flatMap_cons, List.length_append, List.length_cons]; have := hl a (by simp); have := ih (fun v hv => hl v (by simp [hv])); omega
  have := key g.wait (fun v hv => (chk_ok (h.wc v hv)).1)
  have := h.wl
  omega
set_option maxRecDepth 8000 in
set_option maxHeartbeats 8000000 in
theorem keeps_any (r : Int) (v : Value) (S : List OP) (x : Hs) (w : World) (hS : ORow w v S) (hSl : (S.length : Int) ≤ 9223372036854775806) (hPk : ∀ o ∈ S, o.q.1.ps.length ≤ 4398046510976) : Calls Try.prog 8 #[.int .i64 r, v, .agg (bytesA 32 x.f)] w fun e w' => e = .returned (.bool true) ∧ Below w.heap.size w w' := by
  obtain ⟨sa, sc, rfl⟩ := hS.form
  have HS := Keep.mk hS
  have HSl := Keep.mk hSl
  have HPk := Keep.mk hPk
  clear hS hSl hPk
  go_enter Try.func8, Try.ntmps8
  refine wp_seq_k fun K1 hK1 => ?_
  refine wp_region_list (WL.out ?_)
  refine WL.box (by kernel_rfl) 36 (.tmp 2) rfl (bytesA 32 x.f) rfl ?_
  obtain ⟨w1, hwn⟩ : ∃ wx, Keep (wx = w.alloc (.cells (bytesA 32 x.f) 36)) := ⟨_, ⟨rfl⟩⟩
  rw [← hwn.out]
  have HX1 : Keep (Blk w1 w.heap.size 36 (bytesA 32 x.f)) := ⟨by rw [hwn.out]; exact Blk.new _ _ _⟩
  have LB1 : Keep (Below w.heap.size w w1) := ⟨by rw [hwn.out]; exact below_new _ _⟩
  clear hwn
  simp only [Act.put, List.setIfInBounds_toArray, List.set_cons_zero, List.set_cons_succ]
  refine WL.val (by kernel_rfl) (.bool false) (by go_simp) ?_
  simp only [Act.put, List.setIfInBounds_toArray, List.set_cons_zero, List.set_cons_succ]
  refine WL.nil ?_
  refine hK1 _ _ ?_
  refine wp_seq_k fun K2 hK2 => ?_
  have hnw := new_ds r w1
  by_cases hr1 : r < 0 ∨ 64 < r
  · refine wp_region_list (WL.out ?_)
    refine WL.val (by kernel_rfl) (.int .i64 r) (by go_simp) ?_
    simp only [Act.put, List.setIfInBounds_toArray, List.set_cons_zero, List.set_cons_succ]
    refine WL.callF (by kernel_rfl) 10 _ _ rfl Try.in10 #[.int .i64 r] (by simp [Act.eval]) ?_
    refine (hnw.mono (R' := fun e w' => e = .returned (.tuple #[.pointer none, .int .i64 1]) ∧ Below w1.heap.size w1 w') (fun e w' h => h.elim (fun h => h.2) fun ⟨h1, h2, _⟩ => by omega)).mono ?_
    rintro e w2 ⟨rfl, hb⟩
    refine ⟨_, rfl, ?_⟩
    clear hnw
    have B2 := Keep.mk (belowT LB1.out hb)
    clear hb
    simp only [Act.put, List.setIfInBounds_toArray, List.set_cons_zero, List.set_cons_succ]
    refine WL.val (by kernel_rfl) (.tuple #[.pointer none, .int .i64 1]) (by go_simp) ?_
    simp only [Act.put, List.setIfInBounds_toArray, List.set_cons_zero, List.set_cons_succ]
    refine WL.val (by kernel_rfl) (.pointer none) (by go_simp) ?_
    simp only [Act.put, List.setIfInBounds_toArray, List.set_cons_zero, List.set_cons_succ]
    refine WL.val (by kernel_rfl) (.int .i64 1) (by go_simp) ?_
    simp only [Act.put, List.setIfInBounds_toArray, List.set_cons_zero, List.set_cons_succ]
    refine WL.val (by kernel_rfl) (.pointer none) (by go_simp) ?_
    simp only [Act.put, List.setIfInBounds_toArray, List.set_cons_zero, List.set_cons_succ]
    refine WL.val (by kernel_rfl) (.int .i64 1) (by go_simp) ?_
    simp only [Act.put, List.setIfInBounds_toArray, List.set_cons_zero, List.set_cons_succ]
    refine WL.nil ?_
    refine hK2 _ _ ?_
    refine wp_seq_k fun K3 hK3 => ?_
    refine wp_seq_k fun K4 hK4 => ?_
    refine wp_region_list (WL.out ?_)
    refine WL.val (by kernel_rfl) (.pointer none) (by go_simp) ?_
    simp only [Act.put, List.setIfInBounds_toArray, List.set_cons_zero, List.set_cons_succ]
    refine WL.val (by kernel_rfl) (.bool true) (by go_simp) ?_
    simp only [Act.put, List.setIfInBounds_toArray, List.set_cons_zero, List.set_cons_succ]
    refine WL.val (by kernel_rfl) (.bool true) (by go_simp) ?_
    simp only [Act.put, List.setIfInBounds_toArray, List.set_cons_zero, List.set_cons_succ]
    refine WL.skip (by kernel_rfl) ?_
    simp only [Act.put, List.setIfInBounds_toArray, List.set_cons_zero, List.set_cons_succ]
    refine WL.skip (by kernel_rfl) ?_
    simp only [Act.put, List.setIfInBounds_toArray, List.set_cons_zero, List.set_cons_succ]
    refine WL.val (by kernel_rfl) (.bool true) (by go_simp) ?_
    simp only [Act.put, List.setIfInBounds_toArray, List.set_cons_zero, List.set_cons_succ]
    refine WL.nil ?_
    refine hK4 _ _ ?_
    refine wp_cond_true rfl ?_
    refine wp_seq_k fun K5 hK5 => ?_
    by_cases hr0 : r < 0
    · skip
      refine wp_region_list (WL.out ?_)
      refine WL.val (by kernel_rfl) (.pointer none) (by go_simp) ?_
      simp only [Act.put, List.setIfInBounds_toArray, List.set_cons_zero, List.set_cons_succ]
      refine WL.val (by kernel_rfl) (.bool true) (by go_simp) ?_
      simp only [Act.put, List.setIfInBounds_toArray, List.set_cons_zero, List.set_cons_succ]
      refine WL.val (by kernel_rfl) (.int .i64 r) (by go_simp) ?_
      simp only [Act.put, List.setIfInBounds_toArray, List.set_cons_zero, List.set_cons_succ]
      refine WL.val (by kernel_rfl) (.bool true) (by go_simp) ?_
      simp only [Act.put, List.setIfInBounds_toArray, List.set_cons_zero, List.set_cons_succ]
      refine WL.val (by kernel_rfl) (.bool true) (by go_simp) ?_
      simp only [Act.put, List.setIfInBounds_toArray, List.set_cons_zero, List.set_cons_succ]
      refine WL.skip (by kernel_rfl) ?_
      simp only [Act.put, List.setIfInBounds_toArray, List.set_cons_zero, List.set_cons_succ]
      refine WL.skip (by kernel_rfl) ?_
      simp only [Act.put, List.setIfInBounds_toArray, List.set_cons_zero, List.set_cons_succ]
      refine WL.val (by kernel_rfl) (.bool true) (by go_simp) ?_
      simp only [Act.put, List.setIfInBounds_toArray, List.set_cons_zero, List.set_cons_succ]
      refine WL.val (by kernel_rfl) (.bool true) (by go_simp) ?_
      simp only [Act.put, List.setIfInBounds_toArray, List.set_cons_zero, List.set_cons_succ]
      refine WL.val (by kernel_rfl) (.bool true) (by go_simp) ?_
      simp only [Act.put, List.setIfInBounds_toArray, List.set_cons_zero, List.set_cons_succ]
      refine WL.callF (by kernel_rfl) 9 _ _ rfl Try.in9 #[] (by simp) ?_
      refine (fixed_any w2).mono ?_
      rintro e w3 ⟨rfl, hz⟩
      refine ⟨_, rfl, ?_⟩
      have B3 := Keep.mk (belowT B2.out hz)
      clear hz
      simp only [Act.put, List.setIfInBounds_toArray, List.set_cons_zero, List.set_cons_succ]
      refine WL.val (by kernel_rfl) (.bool true) (by go_simp) ?_
      simp only [Act.put, List.setIfInBounds_toArray, List.set_cons_zero, List.set_cons_succ]
      refine WL.val (by kernel_rfl) (.bool true) (by go_simp) ?_
      simp only [Act.put, List.setIfInBounds_toArray, List.set_cons_zero, List.set_cons_succ]
      refine WL.nil ?_
      refine hK5 _ _ ?_
      refine wp_ret ?_
      go_ret
      exact ⟨rfl, B3.out⟩
    · have hr64 : (64 : Int) < r := by omega
      refine wp_region_list (WL.out ?_)
      refine WL.val (by kernel_rfl) (.pointer none) (by go_simp) ?_
      simp only [Act.put, List.setIfInBounds_toArray, List.set_cons_zero, List.set_cons_succ]
      refine WL.val (by kernel_rfl) (.bool true) (by go_simp) ?_
      simp only [Act.put, List.setIfInBounds_toArray, List.set_cons_zero, List.set_cons_succ]
      refine WL.val (by kernel_rfl) (.int .i64 r) (by go_simp) ?_
      simp only [Act.put, List.setIfInBounds_toArray, List.set_cons_zero, List.set_cons_succ]
      refine WL.val (by kernel_rfl) (.bool false) (by go_simp) ?_
      simp only [Act.put, List.setIfInBounds_toArray, List.set_cons_zero, List.set_cons_succ]
      refine WL.val (by kernel_rfl) (.bool false) (by go_simp) ?_
      simp only [Act.put, List.setIfInBounds_toArray, List.set_cons_zero, List.set_cons_succ]
      refine WL.val (by kernel_rfl) (.int .i64 r) (by go_simp) ?_
      simp only [Act.put, List.setIfInBounds_toArray, List.set_cons_zero, List.set_cons_succ]
      refine WL.val (by kernel_rfl) (.bool true) (by go_simp) ?_
      simp only [Act.put, List.setIfInBounds_toArray, List.set_cons_zero, List.set_cons_succ]
      refine WL.val (by kernel_rfl) (.bool true) (by go_simp) ?_
      simp only [Act.put, List.setIfInBounds_toArray, List.set_cons_zero, List.set_cons_succ]
      refine WL.val (by kernel_rfl) (.bool true) (by go_simp) ?_
      simp only [Act.put, List.setIfInBounds_toArray, List.set_cons_zero, List.set_cons_succ]
      refine WL.val (by kernel_rfl) (.bool true) (by go_simp) ?_
      simp only [Act.put, List.setIfInBounds_toArray, List.set_cons_zero, List.set_cons_succ]
      refine WL.callF (by kernel_rfl) 9 _ _ rfl Try.in9 #[] (by simp) ?_
      refine (fixed_any w2).mono ?_
      rintro e w3 ⟨rfl, hz⟩
      refine ⟨_, rfl, ?_⟩
      have B3 := Keep.mk (belowT B2.out hz)
      clear hz
      simp only [Act.put, List.setIfInBounds_toArray, List.set_cons_zero, List.set_cons_succ]
      refine WL.val (by kernel_rfl) (.bool true) (by go_simp) ?_
      simp only [Act.put, List.setIfInBounds_toArray, List.set_cons_zero, List.set_cons_succ]
      refine WL.val (by kernel_rfl) (.bool true) (by go_simp) ?_
      simp only [Act.put, List.setIfInBounds_toArray, List.set_cons_zero, List.set_cons_succ]
      refine WL.nil ?_
      refine hK5 _ _ ?_
      refine wp_ret ?_
      go_ret
      exact ⟨rfl, B3.out⟩
  · have hr2 : ¬ r < 0 := by omega
    have hr3 : ¬ (64 : Int) < r := by omega
    refine wp_region_list (WL.out ?_)
    refine WL.val (by kernel_rfl) (.int .i64 r) (by go_simp) ?_
    simp only [Act.put, List.setIfInBounds_toArray, List.set_cons_zero, List.set_cons_succ]
    refine WL.callF (by kernel_rfl) 10 _ _ rfl Try.in10 #[.int .i64 r] (by simp [Act.eval]) ?_
    refine (hnw.mono (R' := fun e w' => ∃ d g, e = .returned (.tuple #[.pointer (some ⟨d, 0, none⟩), .int .i64 0]) ∧ DS w1.heap.size w' d g ∧ Below w1.heap.size w1 w') (fun e w' h => h.elim (fun h => absurd h.1 hr1) fun ⟨_, _, d, g, h1, h2, h3, _⟩ => ⟨d, g, h1, h2, h3⟩)).mono ?_
    rintro e w2 ⟨d, g0, rfl, hds, hb⟩
    refine ⟨_, rfl, ?_⟩
    clear hnw hr1
    have D2 := Keep.mk hds
    have B2 := Keep.mk hb
    clear hds hb
    simp only [Act.put, List.setIfInBounds_toArray, List.set_cons_zero, List.set_cons_succ]
    refine WL.val (by kernel_rfl) (.tuple #[.pointer (some ⟨d, 0, none⟩), .int .i64 0]) (by go_simp) ?_
    simp only [Act.put, List.setIfInBounds_toArray, List.set_cons_zero, List.set_cons_succ]
    refine WL.val (by kernel_rfl) (.pointer (some ⟨d, 0, none⟩)) (by go_simp) ?_
    simp only [Act.put, List.setIfInBounds_toArray, List.set_cons_zero, List.set_cons_succ]
    refine WL.val (by kernel_rfl) (.int .i64 0) (by go_simp) ?_
    simp only [Act.put, List.setIfInBounds_toArray, List.set_cons_zero, List.set_cons_succ]
    refine WL.val (by kernel_rfl) (.pointer (some ⟨d, 0, none⟩)) (by go_simp) ?_
    simp only [Act.put, List.setIfInBounds_toArray, List.set_cons_zero, List.set_cons_succ]
    refine WL.val (by kernel_rfl) (.int .i64 0) (by go_simp) ?_
    simp only [Act.put, List.setIfInBounds_toArray, List.set_cons_zero, List.set_cons_succ]
    refine WL.nil ?_
    refine hK2 _ _ ?_
    refine wp_seq_k fun K6 hK6 => ?_
    refine wp_seq_k fun K7 hK7 => ?_
    refine wp_region_list (WL.out ?_)
    refine WL.val (by kernel_rfl) (.pointer (some ⟨d, 0, none⟩)) (by go_simp) ?_
    simp only [Act.put, List.setIfInBounds_toArray, List.set_cons_zero, List.set_cons_succ]
    refine WL.val (by kernel_rfl) (.bool false) (by go_simp) ?_
    simp only [Act.put, List.setIfInBounds_toArray, List.set_cons_zero, List.set_cons_succ]
    refine WL.val (by kernel_rfl) (.bool false) (by go_simp) ?_
    simp only [Act.put, List.setIfInBounds_toArray, List.set_cons_zero, List.set_cons_succ]
    refine WL.val (by kernel_rfl) (.int .i64 0) (by go_simp) ?_
    simp only [Act.put, List.setIfInBounds_toArray, List.set_cons_zero, List.set_cons_succ]
    refine WL.val (by kernel_rfl) (.bool false) (by go_simp) ?_
    simp only [Act.put, List.setIfInBounds_toArray, List.set_cons_zero, List.set_cons_succ]
    refine WL.val (by kernel_rfl) (.bool false) (by go_simp) ?_
    simp only [Act.put, List.setIfInBounds_toArray, List.set_cons_zero, List.set_cons_succ]
    refine WL.nil ?_
    refine hK7 _ _ ?_
    refine wp_cond_false rfl ?_
    refine wp_skip ?_
    refine hK6 _ _ ?_
    refine wp_seq_k fun K8 hK8 => ?_
    refine wp_seq_k fun K9 hK9 => ?_
    refine wp_region_list (WL.out ?_)
    refine WL.val (by kernel_rfl) (.int .i64 0) (by go_simp) ?_
    simp only [Act.put, List.setIfInBounds_toArray, List.set_cons_zero, List.set_cons_succ]
    refine WL.nil ?_
    refine hK9 _ _ ?_
    refine wp_block ?_
    refine wp_loop (fun ac wr => ∃ (t : Nat) (f : Nat → Value) (gr : DG), ac = { tmps := #[.int .i64 r, .slice sa S.length sc, .agg (bytesA 32 x.f), undef, undef, .pointer (some ⟨w.heap.size, 0, none⟩), f 6, .pointer (some ⟨d, 0, none⟩), .int .i64 0, .int .i64 (t : Int), f 10, f 11, f 12, f 13, undef, undef, undef, undef, undef, undef, .tuple #[.pointer (some ⟨d, 0, none⟩), .int .i64 0], .int .i64 r, .tuple #[.pointer (some ⟨d, 0, none⟩), .int .i64 0], .pointer (some ⟨d, 0, none⟩), .int .i64 0, .pointer (some ⟨d, 0, none⟩), .bool false, .bool false, .int .i64 0, .bool false, .bool false, undef, undef, undef, undef, undef, undef, undef, undef, undef, undef, undef, undef, f 43, f 44, f 45, f 46, f 47, f 48, f 49, f 50, f 51, f 52, f 53, f 54, f 55, f 56, f 57, f 58, f 59, f 60, f 61, f 62, f 63, f 64, f 65, f 66, f 67, f 68, f 69, f 70, f 71, f 72, f 73, f 74, f 75, f 76, f 77, f 78, f 79, f 80, f 81, f 82, f 83, f 84, f 85, f 86, f 87, f 88, f 89, f 90, f 91, f 92, f 93, f 94, f 95, f 96, f 97, f 98, f 99, f 100, f 101, f 102, f 103, f 104, f 105, f 106, f 107, f 108, f 109, f 110, f 111, f 112, f 113, f 114, f 115, f 116, f 117, f 118, f 119, f 120, f 121, f 122, f 123, f 124, f 125, f 126, f 127, f 128, f 129, f 130, f 131, f 132, f 133, undef, undef, undef, undef, undef, undef, undef, undef, undef, undef, undef, undef, undef, undef, undef, undef, undef, undef, undef, undef, undef, undef, undef, undef, undef, undef, undef, undef, undef, undef, undef, undef, undef, undef, undef, undef, undef, undef, undef, undef, undef, undef, undef, undef, undef, undef, undef, undef, undef, undef, undef, undef, undef, undef, undef, undef, undef, undef], defers := [] } ∧ t ≤ S.length ∧ DS w1.heap.size wr d gr ∧ Below w1.heap.size w1 wr) (fun a _ => S.length - (intOf (a.tmps.getD 9 undef)).toNat) ⟨0, fun zi => [.int .i64 r, .slice sa S.length sc, .agg (bytesA 32 x.f), undef, undef, .pointer (some ⟨w.heap.size, 0, none⟩), .bool false, .pointer (some ⟨d, 0, none⟩), .int .i64 0, .int .i64 0, undef, undef, undef, undef, undef, undef, undef, undef, undef, undef, .tuple #[.pointer (some ⟨d, 0, none⟩), .int .i64 0], .int .i64 r, .tuple #[.pointer (some ⟨d, 0, none⟩), .int .i64 0], .pointer (some ⟨d, 0, none⟩), .int .i64 0, .pointer (some ⟨d, 0, none⟩), .bool false, .bool false, .int .i64 0, .bool false, .bool false, undef, undef, undef, undef, undef, undef, undef, undef, undef, undef, undef, undef, undef, undef, undef, undef, undef, undef, undef, undef, undef, undef, undef, undef, undef, undef, undef, undef, undef, undef, undef, undef, undef, undef, undef, undef, undef, undef, undef, undef, undef, undef, undef, undef, undef, undef, undef, undef, undef, undef, undef, undef, undef, undef, undef, undef, undef, undef, undef, undef, undef, undef, undef, undef, undef, undef, undef, undef, undef, undef, undef, undef, undef, undef, undef, undef, undef, undef, undef, undef, undef, undef, undef, undef, undef, undef, undef, undef, undef, undef, undef, undef, undef, undef, undef, undef, undef, undef, undef, undef, undef, undef, undef, undef, undef, undef, undef, undef, undef, undef, undef, undef, undef, undef, undef, undef, undef, undef, undef, undef, undef, undef, undef, undef, undef, undef, undef, undef, undef, undef, undef, undef, undef, undef, undef, undef, undef, undef, undef, undef, undef, undef, undef, undef, undef, undef, undef, undef, undef, undef, undef, undef, undef, undef, undef, undef, undef, undef, undef, undef, undef].getD zi undef, g0, rfl, by omega, D2.out, B2.out⟩ ?_
    rintro ac wr ⟨t, f, gr, rfl, ht, hD, hB⟩
    have JD := Keep.mk hD
    have JB := Keep.mk hB
    clear hD hB
    by_cases htl : t < S.length
    · have htl' : (t : Int) < (S.length : Int) := by omega
      have hwt : IntKind.i64.wrap ((t : Int) + 1) = ((t + 1 : Nat) : Int) := by rw [IntKind.wrap_i64]; have := HSl.out; omega
      obtain ⟨b, off, hsa, hblt, hrg⟩ := HS.out.at (by omega)
      subst hsa
      obtain ⟨op, hop⟩ : ∃ o, o = S[t] := ⟨_, rfl⟩
      have Hopm : Keep (op ∈ S) := ⟨hop ▸ List.getElem_mem htl⟩
      have Hel : Keep (∀ wx, Below w.heap.size w wx → wx.rangeAt b (off + t * 68) (opA op).toList) := ⟨fun wx hb => by have h := flat_elem encO_len (rangeAt_below hrg hb hblt) t htl; rw [← hop] at h; exact h⟩
      have hps := (HS.out.2 op Hopm.out).1
      obtain ⟨pa, pc, hpf⟩ := hps.form
      obtain ⟨n, hn⟩ : ∃ n, Keep (n = op.q.1.ps.length) := ⟨_, ⟨rfl⟩⟩
      rw [← hn.out] at hpf
      have HPf := Keep.mk hpf
      have HPs : Keep (HRow w (.slice pa n pc) op.q.1.ps) := ⟨by rw [← hpf]; exact hps⟩
      have HPl : Keep (n ≤ 4398046510976) := ⟨by rw [hn.out]; exact HPk.out op Hopm.out⟩
      obtain ⟨vv, hvv⟩ : ∃ a : Array Value, Keep (a = vtx op.q.1.id.f op.q.1.ck (.slice pa n pc)) := ⟨_, ⟨rfl⟩⟩
      obtain ⟨vz, hvz⟩ : ∃ a : Array Value, Keep (a = vtx (fun _ => 0) 0 (.slice none 0 0)) := ⟨_, ⟨rfl⟩⟩
      have HelV : Keep (∀ wx, Below w.heap.size w wx → wx.rangeAt b (off + t * 68 + 2) vv.toList) := ⟨fun wx hb => by rw [hvv.out, ← hpf]; exact opA_v (Hel.out wx hb)⟩
      have HelP : Keep (∀ wx, Below w.heap.size w wx → wx.cell? ⟨b, off + t * 68 + 2 + 33, none⟩ = some (.slice pa n pc)) := ⟨fun wx hb => HelV.out wx hb 33 _ (by rw [Array.getElem?_toList, hvv.out]; exact vtx_ps _ _ _)⟩
      have HelK : Keep (∀ wx, Below w.heap.size w wx → wx.cell? ⟨b, off + t * 68, none⟩ = some (.int .i64 op.k)) := ⟨fun wx hb => opA_k0 (Hel.out wx hb)⟩
      have HW : Keep (Below w.heap.size w wr) := ⟨belowT LB1.out JB.out⟩
      clear hblt hrg hop hps hpf
      refine wp_seq_k fun K10 hK10 => ?_
      refine wp_seq_k fun K11 hK11 => ?_
      refine wp_region_list (WL.out ?_)
      refine WL.val (by kernel_rfl) (.int .i64 (t : Int)) (by go_simp) ?_
      simp only [Act.put, List.setIfInBounds_toArray, List.set_cons_zero, List.set_cons_succ]
      refine WL.val (by kernel_rfl) (.slice (some ⟨b, off, none⟩) S.length sc) (by go_simp) ?_
      simp only [Act.put, List.setIfInBounds_toArray, List.set_cons_zero, List.set_cons_succ]
      refine WL.val (by kernel_rfl) (.int .i64 (S.length : Int)) (by go_simp) ?_
      simp only [Act.put, List.setIfInBounds_toArray, List.set_cons_zero, List.set_cons_succ]
      refine WL.val (by kernel_rfl) (.bool true) (by go_simp) ?_
      simp only [Act.put, List.setIfInBounds_toArray, List.set_cons_zero, List.set_cons_succ]
      refine WL.nil ?_
      refine hK11 _ _ ?_
      refine wp_cond_true rfl ?_
      refine wp_skip ?_
      refine hK10 _ _ ?_
      refine wp_seq_k fun K12 hK12 => ?_
      refine wp_block ?_
      refine wp_seq_k fun K13 hK13 => ?_
      refine wp_region_list (WL.out ?_)
      refine WL.val (by kernel_rfl) (.slice (some ⟨b, off, none⟩) S.length sc) (by go_simp) ?_
      simp only [Act.put, List.setIfInBounds_toArray, List.set_cons_zero, List.set_cons_succ]
      refine WL.val (by kernel_rfl) (.int .i64 (t : Int)) (by go_simp) ?_
      simp only [Act.put, List.setIfInBounds_toArray, List.set_cons_zero, List.set_cons_succ]
      refine WL.val (by kernel_rfl) (.pointer (some ⟨b, off + t * 68, none⟩)) (by go_simp) ?_
      simp only [Act.put, List.setIfInBounds_toArray, List.set_cons_zero, List.set_cons_succ]
      refine WL.val (by kernel_rfl) (.pointer (some ⟨b, off + t * 68 + 2, none⟩)) (by go_simp) ?_
      simp only [Act.put, List.setIfInBounds_toArray, List.set_cons_zero, List.set_cons_succ]
      refine WL.midA (by kernel_rfl) 39 (.tmp 52) rfl b (off + t * 68 + 2) rfl vv _ (HelV.out _ HW.out) Try.underlying39 rfl (by rw [hvv.out]; exact Try.info39s _ _ _) ?_
      simp only [Act.put, List.setIfInBounds_toArray, List.set_cons_zero, List.set_cons_succ]
      refine WL.new (by kernel_rfl) 39 rfl vz (by rw [hvz.out]; exact Try.new39) ?_
      simp only [Act.put, List.setIfInBounds_toArray, List.set_cons_zero, List.set_cons_succ]
      refine WL.storeR (by kernel_rfl) 39 (.tmp 10) (.tmp 53) rfl wr.heap.size vv rfl rfl 39 vz (Blk.new wr 39 _) (by rw [hvv.out]; exact Try.info39s _ _ _) (by simp only [hvv.out, hvz.out, vtx_size]) (by rw [hvv.out]; exact vtx_one _ _ _ (slice_one _ _ _)) ?_
      have V1 := Keep.mk ((Blk.new wr 39 vz).setRow vv)
      have BA : Keep (Below wr.heap.size wr ((wr.alloc (.cells vz 39)).setRow wr.heap.size vv)) := ⟨below_setRow (below_new wr _) (Nat.le_refl _) _⟩
      generalize (wr.alloc (.cells vz 39)).setRow wr.heap.size vv = wa at *
      obtain ⟨n10, hn10⟩ : ∃ k, k = wr.heap.size := ⟨_, rfl⟩
      rw [← hn10] at V1 ⊢
      have N10 := Keep.mk hn10
      clear hn10
      simp only [Act.put]
      refine WL.nil ?_
      refine hK13 _ _ ?_
      refine wp_seq_k fun K14 hK14 => ?_
      refine wp_region_list (WL.out ?_)
      obtain ⟨mm, hmm⟩ : ∃ a : Array Value, Keep (a = bytesA 32 mk8.f) := ⟨_, ⟨rfl⟩⟩
      refine WL.bld (by kernel_rfl) 36 _ rfl [(8, .int .u8 136)] (by simp [Act.eval]) mm (by rw [hmm.out]; exact built8) ?_
      simp only [Act.put, List.setIfInBounds_toArray, List.set_cons_zero, List.set_cons_succ]
      refine WL.new (by kernel_rfl) 36 rfl _ Try.new36 ?_
      simp only [Act.put, List.setIfInBounds_toArray, List.set_cons_zero, List.set_cons_succ]
      refine WL.storeR (by kernel_rfl) 36 (.tmp 11) (.tmp 54) rfl wa.heap.size mm rfl rfl 36 (bytesA 32 fun _ => 0) (Blk.new wa 36 _) (by rw [hmm.out]; exact Try.size36B _) (by rw [hmm.out]; exact bytesA_sizes _ _ _) (by rw [hmm.out]; exact bytesA_one _ _) ?_
      have M1 := Keep.mk ((Blk.new wa 36 (bytesA 32 fun _ => 0)).setRow mm)
      have B0b : Keep (Below wa.heap.size wa ((wa.alloc (.cells (bytesA 32 fun _ => 0) 36)).setRow wa.heap.size mm)) := ⟨below_setRow (below_new wa _) (Nat.le_refl _) _⟩
      generalize (wa.alloc (.cells (bytesA 32 fun _ => 0) 36)).setRow wa.heap.size mm = wb at *
      have V2 := Keep.mk (V1.out.below B0b.out V1.out.lt)
      have BB := Keep.mk (belowT BA.out B0b.out)
      obtain ⟨n11, hn11⟩ : ∃ k, k = wa.heap.size := ⟨_, rfl⟩
      rw [← hn11] at M1 ⊢
      have N11 : Keep (wr.heap.size ≤ n11) := ⟨by rw [hn11]; exact BA.out.size⟩
      clear hn11
      simp only [Act.put]
      refine WL.nil ?_
      refine hK14 _ _ ?_
      refine wp_seq_k fun K15 hK15 => ?_
      have rest9 : ∀ (wc : World) (ga az : Nat) (e55 e56 e57 e58 e59 e60 e61 : Value), Below wb.heap.size wb wc → OwnH wc (.slice (some ⟨ga, 0, none⟩) (n + 2) az) (op.q.1.ps ++ [mk8, mk8]) → wb.heap.size ≤ ga ∧ n + 2 ≤ az → K15 { tmps := #[.int .i64 r, .slice (some ⟨b, off, none⟩) S.length sc, .agg (bytesA 32 x.f), undef, undef, .pointer (some ⟨w.heap.size, 0, none⟩), f 6, .pointer (some ⟨d, 0, none⟩), .int .i64 0, .int .i64 (t : Int), .pointer (some ⟨n10, 0, none⟩), .pointer (some ⟨n11, 0, none⟩), .slice (some ⟨ga, 0, none⟩) (n + 2) az, f 13, undef, undef, undef, undef, undef, undef, .tuple #[.pointer (some ⟨d, 0, none⟩), .int .i64 0], .int .i64 r, .tuple #[.pointer (some ⟨d, 0, none⟩), .int .i64 0], .pointer (some ⟨d, 0, none⟩), .int .i64 0, .pointer (some ⟨d, 0, none⟩), .bool false, .bool false, .int .i64 0, .bool false, .bool false, undef, undef, undef, undef, undef, undef, undef, undef, undef, undef, undef, undef, .int .i64 (t : Int), .slice (some ⟨b, off, none⟩) S.length sc, .int .i64 (S.length : Int), .bool true, f 47, f 48, .slice (some ⟨b, off, none⟩) S.length sc, .int .i64 (t : Int), .pointer (some ⟨b, off + t * 68, none⟩), .pointer (some ⟨b, off + t * 68 + 2, none⟩), .agg vv, .agg mm, e55, e56, e57, e58, e59, e60, e61, f 62, f 63, f 64, f 65, f 66, f 67, f 68, f 69, f 70, f 71, f 72, f 73, f 74, f 75, f 76, f 77, f 78, f 79, f 80, f 81, f 82, f 83, f 84, f 85, f 86, f 87, f 88, f 89, f 90, f 91, f 92, f 93, f 94, f 95, f 96, f 97, f 98, f 99, f 100, f 101, f 102, f 103, f 104, f 105, f 106, f 107, f 108, f 109, f 110, f 111, f 112, f 113, f 114, f 115, f 116, f 117, f 118, f 119, f 120, f 121, f 122, f 123, f 124, f 125, f 126, f 127, f 128, f 129, f 130, f 131, f 132, f 133, undef, undef, undef, undef, undef, undef, undef, undef, undef, undef, undef, undef, undef, undef, undef, undef, undef, undef, undef, undef, undef, undef, undef, undef, undef, undef, undef, undef, undef, undef, undef, undef, undef, undef, undef, undef, undef, undef, undef, undef, undef, undef, undef, undef, undef, undef, undef, undef, undef, undef, undef, undef, undef, undef, undef, undef, undef, undef], defers := [] } wc := by
        intro wc ga az e55 e56 e57 e58 e59 e60 e61 hbc ho12 hga
        have BC := Keep.mk hbc
        have O12 := Keep.mk ho12
        have HGa := Keep.mk hga
        clear hbc ho12 hga
        refine hK15 _ _ ?_
        refine wp_seq_k fun K16 hK16 => ?_
        refine wp_region_list (WL.out ?_)
        refine WL.val (by kernel_rfl) (.slice (some ⟨ga, 0, none⟩) (n + 2) az) (by go_simp) ?_
        simp only [Act.put, List.setIfInBounds_toArray, List.set_cons_zero, List.set_cons_succ]
        refine WL.val (by kernel_rfl) (.slice (some ⟨b, off, none⟩) S.length sc) (by go_simp) ?_
        simp only [Act.put, List.setIfInBounds_toArray, List.set_cons_zero, List.set_cons_succ]
        refine WL.val (by kernel_rfl) (.int .i64 (t : Int)) (by go_simp) ?_
        simp only [Act.put, List.setIfInBounds_toArray, List.set_cons_zero, List.set_cons_succ]
        refine WL.val (by kernel_rfl) (.pointer (some ⟨b, off + t * 68, none⟩)) (by go_simp) ?_
        simp only [Act.put, List.setIfInBounds_toArray, List.set_cons_zero, List.set_cons_succ]
        refine WL.val (by kernel_rfl) (.pointer (some ⟨b, off + t * 68 + 2, none⟩)) (by go_simp) ?_
        simp only [Act.put, List.setIfInBounds_toArray, List.set_cons_zero, List.set_cons_succ]
        refine WL.val (by kernel_rfl) (.pointer (some ⟨b, off + t * 68 + 2 + 33, none⟩)) (by go_simp) ?_
        simp only [Act.put, List.setIfInBounds_toArray, List.set_cons_zero, List.set_cons_succ]
        have HWc : Keep (Below w.heap.size w wc) := ⟨belowT HW.out (belowT BB.out BC.out)⟩
        have cP := HelP.out _ HWc.out
        refine WL.val (by kernel_rfl) (.slice pa n pc) (by go_simp) ?_
        clear cP
        simp only [Act.put, List.setIfInBounds_toArray, List.set_cons_zero, List.set_cons_succ]
        refine WL.val (by kernel_rfl) (.int .i64 (n : Int)) (by go_simp) ?_
        simp only [Act.put, List.setIfInBounds_toArray, List.set_cons_zero, List.set_cons_succ]
        refine WL.slr (by kernel_rfl) 37 (.tmp 62) none (some (.tmp 69)) rfl _ none (some (.int .i64 (n : Int))) (.slice (some ⟨ga, 0, none⟩) n az) rfl rfl rfl (slH_h _ _ _ n (by have := HGa.out.2; omega) _) ?_
        simp only [Act.put, List.setIfInBounds_toArray, List.set_cons_zero, List.set_cons_succ]
        refine WL.val (by kernel_rfl) (.pointer (some ⟨n10, 33, none⟩)) (by go_simp) ?_
        simp only [Act.put, List.setIfInBounds_toArray, List.set_cons_zero, List.set_cons_succ]
        have V3 := Keep.mk (V2.out.below BC.out V2.out.lt)
        have M3 := Keep.mk (M1.out.below BC.out M1.out.lt)
        have f_o := V3.out.frozen 33
        have c_o : wc.cell? ⟨n10, 33, none⟩ = some (.slice pa n pc) := V3.out.c 33 (by rw [hvv.out]; exact vtx_ps _ _ _)
        refine WL.cell (by kernel_rfl) (wc.setCell ⟨n10, 33, none⟩ (.slice (some ⟨ga, 0, none⟩) n az)) (by go_simp) ?_
        clear f_o c_o
        obtain ⟨vw, hvw⟩ : ∃ a : Array Value, Keep (a = vtx op.q.1.id.f op.q.1.ck (.slice (some ⟨ga, 0, none⟩) n az)) := ⟨_, ⟨rfl⟩⟩
        have V4 : Keep (Blk (wc.setCell ⟨n10, 33, none⟩ (.slice (some ⟨ga, 0, none⟩) n az)) n10 39 vw) := ⟨by have h := V3.out.set 33 (.slice (some ⟨ga, 0, none⟩) n az); rw [hvv.out, vtx_set] at h; rw [hvw.out]; exact h⟩
        have G4 : Keep (Grown wc (wc.setCell ⟨n10, 33, none⟩ (.slice (some ⟨ga, 0, none⟩) n az)) fun k => k = n10) := ⟨Grown.setCell wc n10 33 _ fun _ => rfl⟩
        have Hne : Keep (n11 ≠ n10 ∧ ga ≠ n10 ∧ n11 ≠ ga) := ⟨⟨fun e => by subst e; have := M3.out.typ.one V3.out.typ; revert this; decide, fun e => by have := V2.out.lt; have := HGa.out.1; omega, fun e => by have := M1.out.lt; have := HGa.out.1; omega⟩⟩
        have M4 := Keep.mk (G4.out.blk M3.out Hne.out.1)
        have O4 : Keep (OwnH (wc.setCell ⟨n10, 33, none⟩ (.slice (some ⟨ga, 0, none⟩) n az)) (.slice (some ⟨ga, 0, none⟩) (n + 2) az) (op.q.1.ps ++ [mk8, mk8])) := ⟨O12.out.grown G4.out fun k hk e => by have h : ga = k := (by simpa [Value.ownBlock] using hk); exact Hne.out.2.1 (h.trans e)⟩
        have B4 : Keep (Below wr.heap.size wr (wc.setCell ⟨n10, 33, none⟩ (.slice (some ⟨ga, 0, none⟩) n az))) := ⟨(belowT BB.out BC.out).trans (G4.out.to_below (fun k hk e => by have := N10.out; omega) (belowT BB.out BC.out).size)⟩
        generalize wc.setCell ⟨n10, 33, none⟩ (.slice (some ⟨ga, 0, none⟩) n az) = wd at *
        clear V3 M3 G4
        simp only [Act.put]
        refine WL.nil ?_
        refine hK16 _ _ ?_
        refine wp_seq_k fun K17 hK17 => ?_
        refine wp_region_list (WL.out ?_)
        refine WL.val (by kernel_rfl) (.pointer (some ⟨d, 0, none⟩)) (by go_simp) ?_
        simp only [Act.put, List.setIfInBounds_toArray, List.set_cons_zero, List.set_cons_succ]
        refine WL.row (by kernel_rfl) 39 (.tmp 10) rfl n10 rfl 39 vw _ V4.out Try.underlying39 rfl (by rw [hvw.out]; exact Try.info39s _ _ _) ?_
        simp only [Act.put, List.setIfInBounds_toArray, List.set_cons_zero, List.set_cons_succ]
        have HRs : Keep (HRow wd (.slice (some ⟨ga, 0, none⟩) n az) op.q.1.ps) := ⟨by have h := ownH_take (g := ga) O4.out n (by rw [List.length_append, ← hn.out]; omega); rw [List.take_append_of_le_length (by rw [← hn.out]; exact Nat.le_refl _), (show List.take n op.q.1.ps = op.q.1.ps by rw [hn.out, List.take_length])] at h; exact HRow.of_owns h⟩
        have HLi : Keep ((op.q.1.ps.length : Int) ≤ 9223372036854775806) := ⟨by rw [← hn.out]; have := HPl.out; omega⟩
        have hft := fit_any d op.q.1 (.slice (some ⟨ga, 0, none⟩) n az) (DgS d gr) gr wd (JD.out.below B4.out).at' HRs.out JD.out.di.hM HLi.out
        rw [← hvw.out] at hft
        refine WL.callF (by kernel_rfl) 28 _ _ rfl Try.in28 #[ptr d, .agg vw] (by simp [Act.eval]) ?_
        refine (hft.mono (R' := fun e w' => ∃ r, e = .returned r ∧ Below wd.heap.size wd w') (fun e w' h => ⟨_, h.1, h.2⟩)).mono ?_
        rintro e we ⟨r74, rfl, hz⟩
        refine ⟨_, rfl, ?_⟩
        clear hft
        have V5 := Keep.mk (V4.out.below hz V4.out.lt)
        have M5 := Keep.mk (M4.out.below hz M4.out.lt)
        have O5 := Keep.mk (O4.out.below hz)
        have HR5 := Keep.mk (HRs.out.below hz)
        have B5 := Keep.mk (belowT B4.out hz)
        clear hz
        simp only [Act.put, List.setIfInBounds_toArray, List.set_cons_zero, List.set_cons_succ]
        refine WL.nil ?_
        refine hK17 _ _ ?_
        refine wp_seq_k fun K18 hK18 => ?_
        refine wp_region_list (WL.out ?_)
        refine WL.val (by kernel_rfl) (.pointer (some ⟨d, 0, none⟩)) (by go_simp) ?_
        simp only [Act.put, List.setIfInBounds_toArray, List.set_cons_zero, List.set_cons_succ]
        refine WL.row (by kernel_rfl) 39 (.tmp 10) rfl n10 rfl 39 vw _ V5.out Try.underlying39 rfl (by rw [hvw.out]; exact Try.info39s _ _ _) ?_
        simp only [Act.put, List.setIfInBounds_toArray, List.set_cons_zero, List.set_cons_succ]
        have HgL : Keep (wr.heap.size ≤ ga ∧ ga < we.heap.size) := ⟨⟨Nat.le_trans BB.out.size HGa.out.1, O5.out.lt ga rfl⟩⟩
        have had := add_any d op.q.1 (.slice (some ⟨ga, 0, none⟩) n az) (fun k => DgS d gr k ∨ k = ga) gr we (JD.out.addAv B5.out HgL.out) JD.out.di HR5.out HLi.out
        rw [← hvw.out] at had
        refine WL.callF (by kernel_rfl) 17 _ _ rfl Try.in17 #[ptr d, .agg vw] (by simp [Act.eval]) ?_
        refine (had.mono (R' := fun e w' => ∃ r g', e = .returned r ∧ Ste we w' (fun k => DgS d gr k ∨ k = ga) d gr g' ∧ DI g') (fun e w' ⟨u, g', ol, h1, h2, h3, _⟩ => ⟨_, g', h1, h2, h3⟩)).mono ?_
        rintro e wf ⟨r77, g1, rfl, hs, hi⟩
        refine ⟨_, rfl, ?_⟩
        clear had
        have HS1 := Keep.mk hs
        have HI1 := Keep.mk hi
        have Hng : Keep (∀ k, wr.heap.size ≤ k → ¬ DgS d gr k) := ⟨fun k hk e => by have := JD.out.at'.lt k e; omega⟩
        have V6 := Keep.mk (hs.grown.blk V5.out (Hng.out _ (by rw [N10.out]; exact Nat.le_refl _)))
        have M6 := Keep.mk (hs.grown.blk M5.out (Hng.out _ N11.out))
        have O6 := Keep.mk (O5.out.grown hs.grown fun k hk => Hng.out k (by have h : ga = k := (by simpa [Value.ownBlock] using hk); rw [← h]; exact HgL.out.1))
        have G6 : Keep (Below w1.heap.size w1 wf) := ⟨((JB.out.trans (below_cut B5.out JB.out.size)).trans (hs.grown.to_below (fun k hk e => by have := JD.out.lo k e; omega) (Nat.le_trans JB.out.size B5.out.size)))⟩
        have HWf : Keep (Below w.heap.size w wf) := ⟨belowT LB1.out G6.out⟩
        clear hs hi
        simp only [Act.put, List.setIfInBounds_toArray, List.set_cons_zero, List.set_cons_succ]
        refine WL.nil ?_
        refine hK18 _ _ ?_
        refine wp_seq_k fun K19 hK19 => ?_
        refine wp_seq_k fun K20 hK20 => ?_
        have hS0 : Keep (∀ wx, Below wf.heap.size wf wx → (fun wx => wx.cell? ⟨n10, 33, none⟩ = some (.slice (some ⟨ga, 0, none⟩) n az) ∧ wx.cell? ⟨b, off + t * 68 + 2 + 33, none⟩ = some (.slice pa n pc) ∧ wx.rangeAt ga (n * 32) (encH mk8) ∧ wx.rangeAt ga ((n + 1) * 32) (encH mk8) ∧ wx.rangeAt n11 0 mm.toList) wx) := ⟨fun wx hb => by
          have hrg := ownH_rng (O6.out.below hb)
          have hl : (op.q.1.ps ++ [mk8, mk8]).length = n + 2 := by rw [List.length_append, ← hn.out]; rfl
          have h1 := rangeAt_elem hrg n (by omega)
          have h2 := rangeAt_elem hrg (n + 1) (by omega)
          rw [Nat.zero_add] at h1 h2
          rw [List.getElem_append_right (by rw [← hn.out]; exact Nat.le_refl _)] at h1
          rw [List.getElem_append_right (by rw [← hn.out]; omega)] at h2
          simp only [← hn.out, Nat.sub_self, Nat.add_sub_cancel_left, List.getElem_cons_zero, List.getElem_cons_succ] at h1 h2
          exact ⟨(V6.out.below hb V6.out.lt).c 33 (by rw [hvw.out]; exact vtx_ps _ _ _), HelP.out _ (belowT HWf.out hb), h1, h2, blk_rng (M6.out.below hb M6.out.lt)⟩⟩
        have BD : Keep (Below wf.heap.size wf wf.drew) := ⟨(Below.refl _ _).drew⟩
        have hac : (n : Int) < ((n + 2 : Nat) : Int) := by omega
        have hac2 : ((n + 1 : Nat) : Int) < ((n + 2 : Nat) : Int) := by omega
        have hac3 : (n : Int) < (n : Int) + 2 := by omega
        have hac4 : (n : Int) + 1 < (n : Int) + 2 := by omega
        have hwn : IntKind.i64.wrap ((n : Int) + 1) = ((n + 1 : Nat) : Int) := by rw [IntKind.wrap_i64]; have := HPl.out; omega
        refine wp_region_held_drew (S := fun wx => wx.cell? ⟨n10, 33, none⟩ = some (.slice (some ⟨ga, 0, none⟩) n az) ∧ wx.cell? ⟨b, off + t * 68 + 2 + 33, none⟩ = some (.slice pa n pc) ∧ wx.rangeAt ga (n * 32) (encH mk8) ∧ wx.rangeAt ga ((n + 1) * 32) (encH mk8) ∧ wx.rangeAt n11 0 mm.toList) (by kernel_rfl) (hS0.out _ BD.out) (fun hHeld => ?_)
        refine wpAnyH_take (i := 0) (oi := ⟨some 78, Op.fieldAddr 39 (Operand.tmp 10) 2, 0, _, _, none⟩) (v := .pointer (some ⟨n10, 33, none⟩)) rfl (by kernel_rfl) (by kernel_rfl) (by kernel_rfl) (fun _ _ _ h => h) (Or.inl ⟨by rfl, fun w hS => by obtain ⟨hS1, hS2, hS3, hS4, hS5⟩ := hS; clear hS3 hS4 hS5; go_simp⟩) hHeld ?_
        simp only [Act.put, List.setIfInBounds_toArray, List.set_cons_zero, List.set_cons_succ]
        refine wpAnyH_take (i := 1) (oi := ⟨some 79, Op.load 37 (Operand.tmp 78), 37, _, _, none⟩) (v := .slice (some ⟨ga, 0, none⟩) n az) rfl (by kernel_rfl) (by kernel_rfl) (by kernel_rfl) (fun _ _ _ h => h) (Or.inl ⟨by rfl, fun w hS => by obtain ⟨hS1, hS2, hS3, hS4, hS5⟩ := hS; clear hS3 hS4 hS5; go_simp⟩) hHeld ?_
        simp only [Act.put, List.setIfInBounds_toArray, List.set_cons_zero, List.set_cons_succ]
        refine wpAnyH_take (i := 2) (oi := ⟨some 80, Op.move (Operand.tmp 1), 24, _, _, none⟩) (v := .slice (some ⟨b, off, none⟩) S.length sc) rfl (by kernel_rfl) (by kernel_rfl) (by kernel_rfl) (fun _ _ _ h => h) (Or.inl ⟨by rfl, fun w hS => by obtain ⟨hS1, hS2, hS3, hS4, hS5⟩ := hS; clear hS3 hS4 hS5; go_simp⟩) hHeld ?_
        simp only [Act.put, List.setIfInBounds_toArray, List.set_cons_zero, List.set_cons_succ]
        refine wpAnyH_take (i := 3) (oi := ⟨some 81, Op.move (Operand.tmp 9), 3, _, _, none⟩) (v := .int .i64 (t : Int)) rfl (by kernel_rfl) (by kernel_rfl) (by kernel_rfl) (fun _ _ _ h => h) (Or.inl ⟨by rfl, fun w hS => by obtain ⟨hS1, hS2, hS3, hS4, hS5⟩ := hS; clear hS3 hS4 hS5; go_simp⟩) hHeld ?_
        simp only [Act.put, List.setIfInBounds_toArray, List.set_cons_zero, List.set_cons_succ]
        refine wpAnyH_take (i := 4) (oi := ⟨some 82, Op.indexAddr 24 (Operand.tmp 80) (Operand.tmp 81), 0, _, _, none⟩) (v := .pointer (some ⟨b, off + t * 68, none⟩)) rfl (by kernel_rfl) (by kernel_rfl) (by kernel_rfl) (fun _ _ _ h => h) (Or.inl ⟨by rfl, fun w hS => by obtain ⟨hS1, hS2, hS3, hS4, hS5⟩ := hS; clear hS3 hS4 hS5; go_simp⟩) hHeld ?_
        simp only [Act.put, List.setIfInBounds_toArray, List.set_cons_zero, List.set_cons_succ]
        refine wpAnyH_take (i := 5) (oi := ⟨some 83, Op.fieldAddr 41 (Operand.tmp 82) 2, 0, _, _, none⟩) (v := .pointer (some ⟨b, off + t * 68 + 2, none⟩)) rfl (by kernel_rfl) (by kernel_rfl) (by kernel_rfl) (fun _ _ _ h => h) (Or.inl ⟨by rfl, fun w hS => by obtain ⟨hS1, hS2, hS3, hS4, hS5⟩ := hS; clear hS3 hS4 hS5; go_simp⟩) hHeld ?_
        simp only [Act.put, List.setIfInBounds_toArray, List.set_cons_zero, List.set_cons_succ]
        refine wpAnyH_take (i := 6) (oi := ⟨some 84, Op.fieldAddr 39 (Operand.tmp 83) 2, 0, _, _, none⟩) (v := .pointer (some ⟨b, off + t * 68 + 2 + 33, none⟩)) rfl (by kernel_rfl) (by kernel_rfl) (by kernel_rfl) (fun _ _ _ h => h) (Or.inl ⟨by rfl, fun w hS => by obtain ⟨hS1, hS2, hS3, hS4, hS5⟩ := hS; clear hS3 hS4 hS5; go_simp⟩) hHeld ?_
        simp only [Act.put, List.setIfInBounds_toArray, List.set_cons_zero, List.set_cons_succ]
        refine wpAnyH_take (i := 7) (oi := ⟨some 85, Op.load 37 (Operand.tmp 84), 37, _, _, none⟩) (v := .slice pa n pc) rfl (by kernel_rfl) (by kernel_rfl) (by kernel_rfl) (fun _ _ _ h => h) (Or.inl ⟨by rfl, fun w hS => by obtain ⟨hS1, hS2, hS3, hS4, hS5⟩ := hS; clear hS3 hS4 hS5; go_simp⟩) hHeld ?_
        simp only [Act.put, List.setIfInBounds_toArray, List.set_cons_zero, List.set_cons_succ]
        refine wpAnyH_ready (rs := [8]) (by kernel_rfl) (by simp) ?_
        refine AllReadyH.cons (o := ⟨some 86, Op.call { callee := Callee.value (Operand.func 19), args := #[Operand.tmp 79, Operand.tmp 85], argTypes := #[37, 37] }, 4, _, _, none⟩) rfl (fun K hK => ?_) AllReadyH.nil
        rw [if_pos (by rfl)]
        have hsm := smH_any (.slice (some ⟨ga, 0, none⟩) n az) (.slice pa n pc) op.q.1.ps op.q.1.ps wf.drew (by have h := ownH_take (g := ga) (O6.out.below BD.out) n (by rw [List.length_append, ← hn.out]; omega); rw [List.take_append_of_le_length (by rw [← hn.out]; exact Nat.le_refl _), (show List.take n op.q.1.ps = op.q.1.ps by rw [hn.out, List.take_length])] at h; exact HRow.of_owns h) (HPs.out.below (belowT HWf.out BD.out)) (by rw [← hn.out]; have := HPl.out; omega)
        rw [decide_eq_true rfl] at hsm
        refine wp_callF 19 _ _ rfl Try.in19 #[.slice (some ⟨ga, 0, none⟩) n az, .slice pa n pc] (by simp [Act.eval]) (fun u wx => u = .bool true ∧ Below wf.drew.heap.size wf.drew wx) (hsm.mono fun e w' ⟨h1, h2⟩ => ⟨_, h1, rfl, h2⟩) ?_
        clear hsm
        rintro _ wg ⟨rfl, hz⟩
        have BG := Keep.mk (belowT BD.out hz)
        refine hK _ _ (hS0.out _ BG.out) fun hH1 => ?_
        clear hK hz
        simp only [Act.put, List.setIfInBounds_toArray, List.set_cons_zero, List.set_cons_succ]
        refine wpAnyH_take (i := 9) (oi := ⟨some 87, Op.unOp UnOp.not 4 (Operand.tmp 86), 4, _, _, none⟩) (v := .bool false) rfl (by kernel_rfl) (by kernel_rfl) (by kernel_rfl) (fun _ _ _ h => h) (Or.inl ⟨by rfl, fun w hS => by obtain ⟨hS1, hS2, hS3, hS4, hS5⟩ := hS; clear hS3 hS4 hS5; go_simp⟩) hH1 ?_
        simp only [Act.put, List.setIfInBounds_toArray, List.set_cons_zero, List.set_cons_succ]
        refine wpAnyH_take (i := 10) (oi := ⟨some 88, Op.move (Operand.tmp 87), 4, _, _, none⟩) (v := .bool false) rfl (by kernel_rfl) (by kernel_rfl) (by kernel_rfl) (fun _ _ _ h => h) (Or.inl ⟨by rfl, fun w hS => by obtain ⟨hS1, hS2, hS3, hS4, hS5⟩ := hS; clear hS3 hS4 hS5; go_simp⟩) hH1 ?_
        simp only [Act.put, List.setIfInBounds_toArray, List.set_cons_zero, List.set_cons_succ]
        refine wpAnyH_take (i := 11) (oi := ⟨some 89, Op.move (Operand.tmp 12), 37, _, _, some (10, false)⟩) (v := .slice (some ⟨ga, 0, none⟩) (n + 2) az) rfl (by kernel_rfl) (by kernel_rfl) (by kernel_rfl) (fun _ _ _ h => h) (Or.inl ⟨by rfl, fun w hS => by obtain ⟨hS1, hS2, hS3, hS4, hS5⟩ := hS; clear hS3 hS4 hS5; go_simp⟩) hH1 ?_
        simp only [Act.put, List.setIfInBounds_toArray, List.set_cons_zero, List.set_cons_succ]
        refine wpAnyH_take (i := 12) (oi := ⟨some 90, Op.fieldAddr 39 (Operand.tmp 10) 2, 0, _, _, some (10, false)⟩) (v := .pointer (some ⟨n10, 33, none⟩)) rfl (by kernel_rfl) (by kernel_rfl) (by kernel_rfl) (fun _ _ _ h => h) (Or.inl ⟨by rfl, fun w hS => by obtain ⟨hS1, hS2, hS3, hS4, hS5⟩ := hS; clear hS3 hS4 hS5; go_simp⟩) hH1 ?_
        simp only [Act.put, List.setIfInBounds_toArray, List.set_cons_zero, List.set_cons_succ]
        refine wpAnyH_take (i := 13) (oi := ⟨some 91, Op.load 37 (Operand.tmp 90), 37, _, _, some (10, false)⟩) (v := .slice (some ⟨ga, 0, none⟩) n az) rfl (by kernel_rfl) (by kernel_rfl) (by kernel_rfl) (fun _ _ _ h => h) (Or.inl ⟨by rfl, fun w hS => by obtain ⟨hS1, hS2, hS3, hS4, hS5⟩ := hS; clear hS3 hS4 hS5; go_simp⟩) hH1 ?_
        simp only [Act.put, List.setIfInBounds_toArray, List.set_cons_zero, List.set_cons_succ]
        refine wpAnyH_take (i := 14) (oi := ⟨some 92, Op.call { callee := Callee.builtin Builtin.len, args := #[Operand.tmp 91], argTypes := #[37] }, 3, _, _, some (10, false)⟩) (v := .int .i64 (n : Int)) rfl (by kernel_rfl) (by kernel_rfl) (by kernel_rfl) (fun _ _ _ h => h) (Or.inl ⟨by rfl, fun w hS => by obtain ⟨hS1, hS2, hS3, hS4, hS5⟩ := hS; clear hS3 hS4 hS5; go_simp⟩) hH1 ?_
        simp only [Act.put, List.setIfInBounds_toArray, List.set_cons_zero, List.set_cons_succ]
        refine wpAnyH_take (i := 15) (oi := ⟨some 93, Op.indexAddr 37 (Operand.tmp 89) (Operand.tmp 92), 0, _, _, some (10, false)⟩) (v := .pointer (some ⟨ga, n * 32, none⟩)) rfl (by kernel_rfl) (by kernel_rfl) (by kernel_rfl) (fun _ _ _ h => h) (Or.inl ⟨by rfl, fun w hS => by obtain ⟨hS1, hS2, hS3, hS4, hS5⟩ := hS; clear hS3 hS4 hS5; go_simp⟩) hH1 ?_
        simp only [Act.put, List.setIfInBounds_toArray, List.set_cons_zero, List.set_cons_succ]
        refine wpAnyH_take (i := 16) (oi := ⟨some 94, Op.load 36 (Operand.tmp 93), 36, _, _, some (10, false)⟩) (v := .agg (bytesA 32 mk8.f)) rfl (by kernel_rfl) (by kernel_rfl) (by kernel_rfl) (fun _ _ _ h => h) (yieldsIf_ldE (by rfl) (Operand.tmp 93) rfl ga (n * 32) rfl mk8 fun w hS => hS.2.2.1) hH1 ?_
        simp only [Act.put, List.setIfInBounds_toArray, List.set_cons_zero, List.set_cons_succ]
        refine wpAnyH_take (i := 17) (oi := ⟨some 95, Op.load 36 (Operand.tmp 11), 36, _, _, some (10, false)⟩) (v := .agg (bytesA 32 mk8.f)) rfl (by kernel_rfl) (by kernel_rfl) (by kernel_rfl) (fun _ _ _ h => h) (yieldsIf_ld (by rfl) (Operand.tmp 11) 36 rfl n11 0 rfl (bytesA 32 mk8.f) _ Try.underlying36 rfl (size36A _) fun w hS => by have h := hS.2.2.2.2; rw [hmm.out] at h; exact h) hH1 ?_
        simp only [Act.put, List.setIfInBounds_toArray, List.set_cons_zero, List.set_cons_succ]
        refine wpAnyH_take (i := 18) (oi := ⟨some 96, Op.binOp BinOp.neq 36 (Operand.tmp 94) (Operand.tmp 95) 36, 4, _, _, some (10, false)⟩) (v := .bool false) rfl (by kernel_rfl) (by kernel_rfl) (by kernel_rfl) (fun _ _ _ h => h) (Or.inl ⟨by rfl, fun w hS => by clear hS; go_simp; rw [run_equal_arr2, all_eq_iff, decide_eq_true rfl]; rfl⟩) hH1 ?_
        simp only [Act.put, List.setIfInBounds_toArray, List.set_cons_zero, List.set_cons_succ]
        refine wpAnyH_take (i := 19) (oi := ⟨some 97, Op.pick (Operand.tmp 88) (Operand.const (Value.bool true)) (Operand.tmp 96), 4, _, _, none⟩) (v := .bool false) rfl (by kernel_rfl) (by kernel_rfl) (by kernel_rfl) (fun _ _ _ h => h) (Or.inl ⟨by rfl, fun w hS => by obtain ⟨hS1, hS2, hS3, hS4, hS5⟩ := hS; clear hS3 hS4 hS5; go_simp⟩) hH1 ?_
        simp only [Act.put, List.setIfInBounds_toArray, List.set_cons_zero, List.set_cons_succ]
        refine wpAnyH_take (i := 20) (oi := ⟨some 98, Op.move (Operand.tmp 97), 4, _, _, none⟩) (v := .bool false) rfl (by kernel_rfl) (by kernel_rfl) (by kernel_rfl) (fun _ _ _ h => h) (Or.inl ⟨by rfl, fun w hS => by obtain ⟨hS1, hS2, hS3, hS4, hS5⟩ := hS; clear hS3 hS4 hS5; go_simp⟩) hH1 ?_
        simp only [Act.put, List.setIfInBounds_toArray, List.set_cons_zero, List.set_cons_succ]
        refine wpAnyH_take (i := 21) (oi := ⟨some 99, Op.move (Operand.tmp 12), 37, _, _, some (20, false)⟩) (v := .slice (some ⟨ga, 0, none⟩) (n + 2) az) rfl (by kernel_rfl) (by kernel_rfl) (by kernel_rfl) (fun _ _ _ h => h) (Or.inl ⟨by rfl, fun w hS => by obtain ⟨hS1, hS2, hS3, hS4, hS5⟩ := hS; clear hS3 hS4 hS5; go_simp⟩) hH1 ?_
        simp only [Act.put, List.setIfInBounds_toArray, List.set_cons_zero, List.set_cons_succ]
        refine wpAnyH_take (i := 22) (oi := ⟨some 100, Op.fieldAddr 39 (Operand.tmp 10) 2, 0, _, _, some (20, false)⟩) (v := .pointer (some ⟨n10, 33, none⟩)) rfl (by kernel_rfl) (by kernel_rfl) (by kernel_rfl) (fun _ _ _ h => h) (Or.inl ⟨by rfl, fun w hS => by obtain ⟨hS1, hS2, hS3, hS4, hS5⟩ := hS; clear hS3 hS4 hS5; go_simp⟩) hH1 ?_
        simp only [Act.put, List.setIfInBounds_toArray, List.set_cons_zero, List.set_cons_succ]
        refine wpAnyH_take (i := 23) (oi := ⟨some 101, Op.load 37 (Operand.tmp 100), 37, _, _, some (20, false)⟩) (v := .slice (some ⟨ga, 0, none⟩) n az) rfl (by kernel_rfl) (by kernel_rfl) (by kernel_rfl) (fun _ _ _ h => h) (Or.inl ⟨by rfl, fun w hS => by obtain ⟨hS1, hS2, hS3, hS4, hS5⟩ := hS; clear hS3 hS4 hS5; go_simp⟩) hH1 ?_
        simp only [Act.put, List.setIfInBounds_toArray, List.set_cons_zero, List.set_cons_succ]
        refine wpAnyH_take (i := 24) (oi := ⟨some 102, Op.call { callee := Callee.builtin Builtin.len, args := #[Operand.tmp 101], argTypes := #[37] }, 3, _, _, some (20, false)⟩) (v := .int .i64 (n : Int)) rfl (by kernel_rfl) (by kernel_rfl) (by kernel_rfl) (fun _ _ _ h => h) (Or.inl ⟨by rfl, fun w hS => by obtain ⟨hS1, hS2, hS3, hS4, hS5⟩ := hS; clear hS3 hS4 hS5; go_simp⟩) hH1 ?_
        simp only [Act.put, List.setIfInBounds_toArray, List.set_cons_zero, List.set_cons_succ]
        refine wpAnyH_take (i := 25) (oi := ⟨some 103, Op.binOp BinOp.add 3 (Operand.tmp 102) (Operand.const (Value.int IntKind.i64 1)) 3, 3, _, _, some (20, false)⟩) (v := .int .i64 ((n + 1 : Nat) : Int)) rfl (by kernel_rfl) (by kernel_rfl) (by kernel_rfl) (fun _ _ _ h => h) (Or.inl ⟨by rfl, fun w hS => by obtain ⟨hS1, hS2, hS3, hS4, hS5⟩ := hS; clear hS3 hS4 hS5; go_simp⟩) hH1 ?_
        simp only [Act.put, List.setIfInBounds_toArray, List.set_cons_zero, List.set_cons_succ]
        refine wpAnyH_take (i := 26) (oi := ⟨some 104, Op.indexAddr 37 (Operand.tmp 99) (Operand.tmp 103), 0, _, _, some (20, false)⟩) (v := .pointer (some ⟨ga, (n + 1) * 32, none⟩)) rfl (by kernel_rfl) (by kernel_rfl) (by kernel_rfl) (fun _ _ _ h => h) (Or.inl ⟨by rfl, fun w hS => by clear hS; go_simp; first | omega | (constructor <;> omega) | (simp only []; omega) | exact (0 : Nat)⟩) hH1 ?_
        simp only [Act.put, List.setIfInBounds_toArray, List.set_cons_zero, List.set_cons_succ]
        refine wpAnyH_take (i := 27) (oi := ⟨some 105, Op.load 36 (Operand.tmp 104), 36, _, _, some (20, false)⟩) (v := .agg (bytesA 32 mk8.f)) rfl (by kernel_rfl) (by kernel_rfl) (by kernel_rfl) (fun _ _ _ h => h) (yieldsIf_ldE (by rfl) (Operand.tmp 104) rfl ga ((n + 1) * 32) rfl mk8 fun w hS => hS.2.2.2.1) hH1 ?_
        simp only [Act.put, List.setIfInBounds_toArray, List.set_cons_zero, List.set_cons_succ]
        refine wpAnyH_take (i := 28) (oi := ⟨some 106, Op.load 36 (Operand.tmp 11), 36, _, _, some (20, false)⟩) (v := .agg (bytesA 32 mk8.f)) rfl (by kernel_rfl) (by kernel_rfl) (by kernel_rfl) (fun _ _ _ h => h) (yieldsIf_ld (by rfl) (Operand.tmp 11) 36 rfl n11 0 rfl (bytesA 32 mk8.f) _ Try.underlying36 rfl (size36A _) fun w hS => by have h := hS.2.2.2.2; rw [hmm.out] at h; exact h) hH1 ?_
        simp only [Act.put, List.setIfInBounds_toArray, List.set_cons_zero, List.set_cons_succ]
        refine wpAnyH_take (i := 29) (oi := ⟨some 107, Op.binOp BinOp.neq 36 (Operand.tmp 105) (Operand.tmp 106) 36, 4, _, _, some (20, false)⟩) (v := .bool false) rfl (by kernel_rfl) (by kernel_rfl) (by kernel_rfl) (fun _ _ _ h => h) (Or.inl ⟨by rfl, fun w hS => by clear hS; go_simp; rw [run_equal_arr2, all_eq_iff, decide_eq_true rfl]; rfl⟩) hH1 ?_
        simp only [Act.put, List.setIfInBounds_toArray, List.set_cons_zero, List.set_cons_succ]
        refine wpAnyH_take (i := 30) (oi := ⟨some 108, Op.pick (Operand.tmp 98) (Operand.const (Value.bool true)) (Operand.tmp 107), 4, _, _, none⟩) (v := .bool false) rfl (by kernel_rfl) (by kernel_rfl) (by kernel_rfl) (fun _ _ _ h => h) (Or.inl ⟨by rfl, fun w hS => by obtain ⟨hS1, hS2, hS3, hS4, hS5⟩ := hS; clear hS3 hS4 hS5; go_simp⟩) hH1 ?_
        simp only [Act.put, List.setIfInBounds_toArray, List.set_cons_zero, List.set_cons_succ]
        refine wpAnyH_done (by kernel_rfl) ?_ _
        refine hK20 _ _ ?_
        refine wp_cond_false rfl ?_
        refine wp_skip ?_
        refine hK19 _ _ ?_
        refine wp_seq_k fun K21 hK21 => ?_
        refine wp_seq_k fun K22 hK22 => ?_
        refine wp_region_list (WL.out ?_)
        refine WL.val (by kernel_rfl) (.int .i64 0) (by go_simp) ?_
        simp only [Act.put, List.setIfInBounds_toArray, List.set_cons_zero, List.set_cons_succ]
        refine WL.nil ?_
        refine hK22 _ _ ?_
        refine wp_block ?_
        have hN1 : Keep (OwnX wg (.slice (some ⟨ga, 0, none⟩) n az) n) := ⟨by obtain ⟨cur, hb, -, hc, hm, hs, -⟩ := ownH_blk (O6.out.below BG.out); exact ownX_mk hb (by have := HGa.out.2; omega) hm hs⟩
        have V7 := Keep.mk (V6.out.below BG.out V6.out.lt)
        refine wp_loop (fun ac wi => ∃ (k : Nat) (h : Nat → Value), ac = { tmps := #[.int .i64 r, .slice (some ⟨b, off, none⟩) S.length sc, .agg (bytesA 32 x.f), undef, undef, .pointer (some ⟨w.heap.size, 0, none⟩), f 6, .pointer (some ⟨d, 0, none⟩), .int .i64 0, .int .i64 (t : Int), .pointer (some ⟨n10, 0, none⟩), .pointer (some ⟨n11, 0, none⟩), .slice (some ⟨ga, 0, none⟩) (n + 2) az, .int .i64 (k : Int), undef, undef, undef, undef, undef, undef, .tuple #[.pointer (some ⟨d, 0, none⟩), .int .i64 0], .int .i64 r, .tuple #[.pointer (some ⟨d, 0, none⟩), .int .i64 0], .pointer (some ⟨d, 0, none⟩), .int .i64 0, .pointer (some ⟨d, 0, none⟩), .bool false, .bool false, .int .i64 0, .bool false, .bool false, undef, undef, undef, undef, undef, undef, undef, undef, undef, undef, undef, undef, .int .i64 (t : Int), .slice (some ⟨b, off, none⟩) S.length sc, .int .i64 (S.length : Int), .bool true, f 47, f 48, .slice (some ⟨b, off, none⟩) S.length sc, .int .i64 (t : Int), .pointer (some ⟨b, off + t * 68, none⟩), .pointer (some ⟨b, off + t * 68 + 2, none⟩), .agg vv, .agg mm, e55, e56, e57, e58, e59, e60, e61, .slice (some ⟨ga, 0, none⟩) (n + 2) az, .slice (some ⟨b, off, none⟩) S.length sc, .int .i64 (t : Int), .pointer (some ⟨b, off + t * 68, none⟩), .pointer (some ⟨b, off + t * 68 + 2, none⟩), .pointer (some ⟨b, off + t * 68 + 2 + 33, none⟩), .slice pa n pc, .int .i64 (n : Int), .slice (some ⟨ga, 0, none⟩) n az, .pointer (some ⟨n10, 33, none⟩), .pointer (some ⟨d, 0, none⟩), .agg vw, r74, .pointer (some ⟨d, 0, none⟩), .agg vw, r77, .pointer (some ⟨n10, 33, none⟩), .slice (some ⟨ga, 0, none⟩) n az, .slice (some ⟨b, off, none⟩) S.length sc, .int .i64 (t : Int), .pointer (some ⟨b, off + t * 68, none⟩), .pointer (some ⟨b, off + t * 68 + 2, none⟩), .pointer (some ⟨b, off + t * 68 + 2 + 33, none⟩), .slice pa n pc, .bool true, .bool false, .bool false, .slice (some ⟨ga, 0, none⟩) (n + 2) az, .pointer (some ⟨n10, 33, none⟩), .slice (some ⟨ga, 0, none⟩) n az, .int .i64 (n : Int), .pointer (some ⟨ga, n * 32, none⟩), .agg (bytesA 32 mk8.f), .agg (bytesA 32 mk8.f), .bool false, .bool false, .bool false, .slice (some ⟨ga, 0, none⟩) (n + 2) az, .pointer (some ⟨n10, 33, none⟩), .slice (some ⟨ga, 0, none⟩) n az, .int .i64 (n : Int), .int .i64 ((n + 1 : Nat) : Int), .pointer (some ⟨ga, (n + 1) * 32, none⟩), .agg (bytesA 32 mk8.f), .agg (bytesA 32 mk8.f), .bool false, .bool false, h 109, h 110, h 111, h 112, h 113, h 114, h 115, h 116, h 117, h 118, h 119, h 120, f 121, f 122, f 123, f 124, f 125, f 126, f 127, f 128, f 129, f 130, f 131, f 132, f 133, undef, undef, undef, undef, undef, undef, undef, undef, undef, undef, undef, undef, undef, undef, undef, undef, undef, undef, undef, undef, undef, undef, undef, undef, undef, undef, undef, undef, undef, undef, undef, undef, undef, undef, undef, undef, undef, undef, undef, undef, undef, undef, undef, undef, undef, undef, undef, undef, undef, undef, undef, undef, undef, undef, undef, undef, undef, undef], defers := [] } ∧ k ≤ n ∧ OwnX wi (.slice (some ⟨ga, 0, none⟩) n az) n ∧ Blk wi n10 39 vw ∧ (Grown wg wi fun q => q = ga)) (fun a _ => n - (intOf (a.tmps.getD 13 undef)).toNat) ⟨0, fun zi => [.int .i64 r, .slice (some ⟨b, off, none⟩) S.length sc, .agg (bytesA 32 x.f), undef, undef, .pointer (some ⟨w.heap.size, 0, none⟩), f 6, .pointer (some ⟨d, 0, none⟩), .int .i64 0, .int .i64 (t : Int), .pointer (some ⟨n10, 0, none⟩), .pointer (some ⟨n11, 0, none⟩), .slice (some ⟨ga, 0, none⟩) (n + 2) az, .int .i64 0, undef, undef, undef, undef, undef, undef, .tuple #[.pointer (some ⟨d, 0, none⟩), .int .i64 0], .int .i64 r, .tuple #[.pointer (some ⟨d, 0, none⟩), .int .i64 0], .pointer (some ⟨d, 0, none⟩), .int .i64 0, .pointer (some ⟨d, 0, none⟩), .bool false, .bool false, .int .i64 0, .bool false, .bool false, undef, undef, undef, undef, undef, undef, undef, undef, undef, undef, undef, undef, .int .i64 (t : Int), .slice (some ⟨b, off, none⟩) S.length sc, .int .i64 (S.length : Int), .bool true, f 47, f 48, .slice (some ⟨b, off, none⟩) S.length sc, .int .i64 (t : Int), .pointer (some ⟨b, off + t * 68, none⟩), .pointer (some ⟨b, off + t * 68 + 2, none⟩), .agg vv, .agg mm, e55, e56, e57, e58, e59, e60, e61, .slice (some ⟨ga, 0, none⟩) (n + 2) az, .slice (some ⟨b, off, none⟩) S.length sc, .int .i64 (t : Int), .pointer (some ⟨b, off + t * 68, none⟩), .pointer (some ⟨b, off + t * 68 + 2, none⟩), .pointer (some ⟨b, off + t * 68 + 2 + 33, none⟩), .slice pa n pc, .int .i64 (n : Int), .slice (some ⟨ga, 0, none⟩) n az, .pointer (some ⟨n10, 33, none⟩), .pointer (some ⟨d, 0, none⟩), .agg vw, r74, .pointer (some ⟨d, 0, none⟩), .agg vw, r77, .pointer (some ⟨n10, 33, none⟩), .slice (some ⟨ga, 0, none⟩) n az, .slice (some ⟨b, off, none⟩) S.length sc, .int .i64 (t : Int), .pointer (some ⟨b, off + t * 68, none⟩), .pointer (some ⟨b, off + t * 68 + 2, none⟩), .pointer (some ⟨b, off + t * 68 + 2 + 33, none⟩), .slice pa n pc, .bool true, .bool false, .bool false, .slice (some ⟨ga, 0, none⟩) (n + 2) az, .pointer (some ⟨n10, 33, none⟩), .slice (some ⟨ga, 0, none⟩) n az, .int .i64 (n : Int), .pointer (some ⟨ga, n * 32, none⟩), .agg (bytesA 32 mk8.f), .agg (bytesA 32 mk8.f), .bool false, .bool false, .bool false, .slice (some ⟨ga, 0, none⟩) (n + 2) az, .pointer (some ⟨n10, 33, none⟩), .slice (some ⟨ga, 0, none⟩) n az, .int .i64 (n : Int), .int .i64 ((n + 1 : Nat) : Int), .pointer (some ⟨ga, (n + 1) * 32, none⟩), .agg (bytesA 32 mk8.f), .agg (bytesA 32 mk8.f), .bool false, .bool false, f 109, f 110, f 111, f 112, f 113, f 114, f 115, f 116, f 117, f 118, f 119, f 120, f 121, f 122, f 123, f 124, f 125, f 126, f 127, f 128, f 129, f 130, f 131, f 132, f 133, undef, undef, undef, undef, undef, undef, undef, undef, undef, undef, undef, undef, undef, undef, undef, undef, undef, undef, undef, undef, undef, undef, undef, undef, undef, undef, undef, undef, undef, undef, undef, undef, undef, undef, undef, undef, undef, undef, undef, undef, undef, undef, undef, undef, undef, undef, undef, undef, undef, undef, undef, undef, undef, undef, undef, undef, undef, undef].getD zi undef, rfl, by omega, hN1.out, V7.out, Grown.refl _ _⟩ ?_
        rintro ac wi ⟨k, h, rfl, hk, hO, hV, hG⟩
        have KO := Keep.mk hO
        have KV := Keep.mk hV
        have KG := Keep.mk hG
        clear hO hV hG
        by_cases hkl : k < n
        · have hkl' : (k : Int) < (n : Int) := by omega
          have hwk : IntKind.i64.wrap ((k : Int) + 1) = ((k + 1 : Nat) : Int) := by rw [IntKind.wrap_i64]; have := HPl.out; omega
          obtain ⟨cc, hcc⟩ : ∃ a : Array Value, Keep (a = bytesA 32 (upd (fun _ => 0) 9 153)) := ⟨_, ⟨rfl⟩⟩
          refine wp_seq_k fun K23 hK23 => ?_
          refine wp_seq_k fun K24 hK24 => ?_
          refine wp_region_list (WL.out ?_)
          refine WL.val (by kernel_rfl) (.int .i64 (k : Int)) (by go_simp) ?_
          simp only [Act.put, List.setIfInBounds_toArray, List.set_cons_zero, List.set_cons_succ]
          refine WL.val (by kernel_rfl) (.pointer (some ⟨n10, 33, none⟩)) (by go_simp) ?_
          simp only [Act.put, List.setIfInBounds_toArray, List.set_cons_zero, List.set_cons_succ]
          have cV : wi.cell? ⟨n10, 33, none⟩ = some (.slice (some ⟨ga, 0, none⟩) n az) := KV.out.c 33 (by rw [hvw.out]; exact vtx_ps _ _ _)
          refine WL.val (by kernel_rfl) (.slice (some ⟨ga, 0, none⟩) n az) (by go_simp) ?_
          clear cV
          simp only [Act.put, List.setIfInBounds_toArray, List.set_cons_zero, List.set_cons_succ]
          refine WL.val (by kernel_rfl) (.int .i64 (n : Int)) (by go_simp) ?_
          simp only [Act.put, List.setIfInBounds_toArray, List.set_cons_zero, List.set_cons_succ]
          refine WL.val (by kernel_rfl) (.bool true) (by go_simp) ?_
          simp only [Act.put, List.setIfInBounds_toArray, List.set_cons_zero, List.set_cons_succ]
          refine WL.nil ?_
          refine hK24 _ _ ?_
          refine wp_cond_true rfl ?_
          refine wp_skip ?_
          refine hK23 _ _ ?_
          refine wp_seq_k fun K25 hK25 => ?_
          refine wp_block ?_
          refine wp_region_list (WL.out ?_)
          refine WL.val (by kernel_rfl) (.pointer (some ⟨n10, 33, none⟩)) (by go_simp) ?_
          simp only [Act.put, List.setIfInBounds_toArray, List.set_cons_zero, List.set_cons_succ]
          have cV : wi.cell? ⟨n10, 33, none⟩ = some (.slice (some ⟨ga, 0, none⟩) n az) := KV.out.c 33 (by rw [hvw.out]; exact vtx_ps _ _ _)
          refine WL.val (by kernel_rfl) (.slice (some ⟨ga, 0, none⟩) n az) (by go_simp) ?_
          clear cV
          simp only [Act.put, List.setIfInBounds_toArray, List.set_cons_zero, List.set_cons_succ]
          refine WL.val (by kernel_rfl) (.int .i64 (k : Int)) (by go_simp) ?_
          simp only [Act.put, List.setIfInBounds_toArray, List.set_cons_zero, List.set_cons_succ]
          refine WL.bld (by kernel_rfl) 36 _ rfl [(9, .int .u8 153)] (by simp [Act.eval]) cc (by rw [hcc.out]; exact built9) ?_
          simp only [Act.put, List.setIfInBounds_toArray, List.set_cons_zero, List.set_cons_succ]
          refine WL.val (by kernel_rfl) (.pointer (some ⟨ga, k * 32, none⟩)) (by go_simp) ?_
          simp only [Act.put, List.setIfInBounds_toArray, List.set_cons_zero, List.set_cons_succ]
          obtain ⟨g', cur, hga, -, hcb, hcc2, hcm, hcs⟩ := KO.out.at (by omega)
          cases hga
          have hfit : k * 32 + cc.size ≤ cur.size := by rw [hcc.out, bytesA_size, hcs]; omega
          refine WL.part (by kernel_rfl) 36 (.tmp 120) (.tmp 119) rfl ga (k * 32) cc rfl rfl 36 cur hcb (by rw [hcc.out]; exact Try.size36B _) hfit (by rw [hcc.out]; exact bytesA_one _ _) _ rfl ?_
          have hgr : Grown wi (wi.setRow ga (cur.toList.take (k * 32) ++ cc.toList ++ cur.toList.drop (k * 32 + cc.size)).toArray) fun q => q = ga := Grown.setRow wi ga _ fun _ => rfl
          have L1 : Keep (OwnX (wi.setRow ga (cur.toList.take (k * 32) ++ cc.toList ++ cur.toList.drop (k * 32 + cc.size)).toArray) (.slice (some ⟨ga, 0, none⟩) n az) n) := ⟨ownX_mk (hcb.setRow _) hcc2 hcm (by simp only [List.size_toArray, List.length_append, List.length_take, List.length_drop, Array.length_toList]; omega)⟩
          have L2 := Keep.mk (hgr.blk KV.out fun e => Hne.out.2.1 e.symm)
          have L3 := Keep.mk (KG.out.trans hgr)
          clear hcb hcc2 hcm hcs hfit hgr
          generalize wi.setRow ga (cur.toList.take (k * 32) ++ cc.toList ++ cur.toList.drop (k * 32 + cc.size)).toArray = wj at *
          simp only [Act.put]
          refine WL.nil ?_
          refine hK25 _ _ ?_
          refine wp_region_list (WL.out ?_)
          refine WL.val (by kernel_rfl) (.int .i64 (k : Int)) (by go_simp) ?_
          simp only [Act.put, List.setIfInBounds_toArray, List.set_cons_zero, List.set_cons_succ]
          refine WL.val (by kernel_rfl) (.int .i64 ((k + 1 : Nat) : Int)) (by go_simp) ?_
          simp only [Act.put, List.setIfInBounds_toArray, List.set_cons_zero, List.set_cons_succ]
          refine WL.val (by kernel_rfl) (.int .i64 ((k + 1 : Nat) : Int)) (by go_simp) ?_
          simp only [Act.put, List.setIfInBounds_toArray, List.set_cons_zero, List.set_cons_succ]
          refine WL.nil ?_
          refine ⟨⟨k + 1, fun zi => [.int .i64 r, .slice (some ⟨b, off, none⟩) S.length sc, .agg (bytesA 32 x.f), undef, undef, .pointer (some ⟨w.heap.size, 0, none⟩), f 6, .pointer (some ⟨d, 0, none⟩), .int .i64 0, .int .i64 (t : Int), .pointer (some ⟨n10, 0, none⟩), .pointer (some ⟨n11, 0, none⟩), .slice (some ⟨ga, 0, none⟩) (n + 2) az, .int .i64 ((k + 1 : Nat) : Int), undef, undef, undef, undef, undef, undef, .tuple #[.pointer (some ⟨d, 0, none⟩), .int .i64 0], .int .i64 r, .tuple #[.pointer (some ⟨d, 0, none⟩), .int .i64 0], .pointer (some ⟨d, 0, none⟩), .int .i64 0, .pointer (some ⟨d, 0, none⟩), .bool false, .bool false, .int .i64 0, .bool false, .bool false, undef, undef, undef, undef, undef, undef, undef, undef, undef, undef, undef, undef, .int .i64 (t : Int), .slice (some ⟨b, off, none⟩) S.length sc, .int .i64 (S.length : Int), .bool true, f 47, f 48, .slice (some ⟨b, off, none⟩) S.length sc, .int .i64 (t : Int), .pointer (some ⟨b, off + t * 68, none⟩), .pointer (some ⟨b, off + t * 68 + 2, none⟩), .agg vv, .agg mm, e55, e56, e57, e58, e59, e60, e61, .slice (some ⟨ga, 0, none⟩) (n + 2) az, .slice (some ⟨b, off, none⟩) S.length sc, .int .i64 (t : Int), .pointer (some ⟨b, off + t * 68, none⟩), .pointer (some ⟨b, off + t * 68 + 2, none⟩), .pointer (some ⟨b, off + t * 68 + 2 + 33, none⟩), .slice pa n pc, .int .i64 (n : Int), .slice (some ⟨ga, 0, none⟩) n az, .pointer (some ⟨n10, 33, none⟩), .pointer (some ⟨d, 0, none⟩), .agg vw, r74, .pointer (some ⟨d, 0, none⟩), .agg vw, r77, .pointer (some ⟨n10, 33, none⟩), .slice (some ⟨ga, 0, none⟩) n az, .slice (some ⟨b, off, none⟩) S.length sc, .int .i64 (t : Int), .pointer (some ⟨b, off + t * 68, none⟩), .pointer (some ⟨b, off + t * 68 + 2, none⟩), .pointer (some ⟨b, off + t * 68 + 2 + 33, none⟩), .slice pa n pc, .bool true, .bool false, .bool false, .slice (some ⟨ga, 0, none⟩) (n + 2) az, .pointer (some ⟨n10, 33, none⟩), .slice (some ⟨ga, 0, none⟩) n az, .int .i64 (n : Int), .pointer (some ⟨ga, n * 32, none⟩), .agg (bytesA 32 mk8.f), .agg (bytesA 32 mk8.f), .bool false, .bool false, .bool false, .slice (some ⟨ga, 0, none⟩) (n + 2) az, .pointer (some ⟨n10, 33, none⟩), .slice (some ⟨ga, 0, none⟩) n az, .int .i64 (n : Int), .int .i64 ((n + 1 : Nat) : Int), .pointer (some ⟨ga, (n + 1) * 32, none⟩), .agg (bytesA 32 mk8.f), .agg (bytesA 32 mk8.f), .bool false, .bool false, .int .i64 (k : Int), .pointer (some ⟨n10, 33, none⟩), .slice (some ⟨ga, 0, none⟩) n az, .int .i64 (n : Int), .bool true, .int .i64 (k : Int), .int .i64 ((k + 1 : Nat) : Int), .pointer (some ⟨n10, 33, none⟩), .slice (some ⟨ga, 0, none⟩) n az, .int .i64 (k : Int), .agg cc, .pointer (some ⟨ga, k * 32, none⟩), f 121, f 122, f 123, f 124, f 125, f 126, f 127, f 128, f 129, f 130, f 131, f 132, f 133, undef, undef, undef, undef, undef, undef, undef, undef, undef, undef, undef, undef, undef, undef, undef, undef, undef, undef, undef, undef, undef, undef, undef, undef, undef, undef, undef, undef, undef, undef, undef, undef, undef, undef, undef, undef, undef, undef, undef, undef, undef, undef, undef, undef, undef, undef, undef, undef, undef, undef, undef, undef, undef, undef, undef, undef, undef, undef].getD zi undef, rfl, by omega, L1.out, L2.out, L3.out⟩, ?_⟩
          simp only [intOf]; show n - (((k + 1 : Nat) : Int)).toNat < n - ((k : Int)).toNat; omega
        · have hkl' : ¬ (k : Int) < (n : Int) := by omega
          have hov := HS1.out.over (B := w1.heap.size) (w2 := wi) HI1.out JD.out.lo (Nat.le_trans JB.out.size B5.out.size) (Hng.out ga HgL.out.1) HgL.out.2 ((Grown.below (S := fun q => q = ga) BG.out).trans KG.out)
          have F1 := Keep.mk hov.1
          have F2 : Keep (Below w1.heap.size w1 wi) := ⟨(G6.out.trans (below_cut BG.out G6.out.size)).trans (KG.out.to_below (fun q hq e => by have := HgL.out.1; have := JB.out.size; omega) (Nat.le_trans G6.out.size BG.out.size))⟩
          have F3 : Keep (Below w.heap.size w wi) := ⟨belowT LB1.out F2.out⟩
          have cK : wi.cell? ⟨b, off + t * 68, none⟩ = some (.int .i64 op.k) := HelK.out _ F3.out
          clear hov
          refine wp_seq_k fun K26 hK26 => ?_
          refine wp_seq_k fun K27 hK27 => ?_
          refine wp_region_list (WL.out ?_)
          refine WL.val (by kernel_rfl) (.int .i64 (k : Int)) (by go_simp) ?_
          simp only [Act.put, List.setIfInBounds_toArray, List.set_cons_zero, List.set_cons_succ]
          refine WL.val (by kernel_rfl) (.pointer (some ⟨n10, 33, none⟩)) (by go_simp) ?_
          simp only [Act.put, List.setIfInBounds_toArray, List.set_cons_zero, List.set_cons_succ]
          have cV : wi.cell? ⟨n10, 33, none⟩ = some (.slice (some ⟨ga, 0, none⟩) n az) := KV.out.c 33 (by rw [hvw.out]; exact vtx_ps _ _ _)
          refine WL.val (by kernel_rfl) (.slice (some ⟨ga, 0, none⟩) n az) (by go_simp) ?_
          clear cV
          simp only [Act.put, List.setIfInBounds_toArray, List.set_cons_zero, List.set_cons_succ]
          refine WL.val (by kernel_rfl) (.int .i64 (n : Int)) (by go_simp) ?_
          simp only [Act.put, List.setIfInBounds_toArray, List.set_cons_zero, List.set_cons_succ]
          refine WL.val (by kernel_rfl) (.bool false) (by go_simp) ?_
          simp only [Act.put, List.setIfInBounds_toArray, List.set_cons_zero, List.set_cons_succ]
          refine WL.nil ?_
          refine hK27 _ _ ?_
          refine wp_cond_false rfl ?_
          refine wp_exit ?_
          refine hK21 _ _ ?_
          refine wp_seq_k fun K28 hK28 => ?_
          refine wp_region_list (WL.out ?_)
          refine WL.val (by kernel_rfl) (.slice (some ⟨b, off, none⟩) S.length sc) (by go_simp) ?_
          simp only [Act.put, List.setIfInBounds_toArray, List.set_cons_zero, List.set_cons_succ]
          refine WL.val (by kernel_rfl) (.int .i64 (t : Int)) (by go_simp) ?_
          simp only [Act.put, List.setIfInBounds_toArray, List.set_cons_zero, List.set_cons_succ]
          refine WL.val (by kernel_rfl) (.pointer (some ⟨b, off + t * 68, none⟩)) (by go_simp) ?_
          simp only [Act.put, List.setIfInBounds_toArray, List.set_cons_zero, List.set_cons_succ]
          refine WL.val (by kernel_rfl) (.pointer (some ⟨b, off + t * 68, none⟩)) (by go_simp) ?_
          simp only [Act.put, List.setIfInBounds_toArray, List.set_cons_zero, List.set_cons_succ]
          refine WL.val (by kernel_rfl) (.int .i64 op.k) (by go_simp) ?_
          simp only [Act.put, List.setIfInBounds_toArray, List.set_cons_zero, List.set_cons_succ]
          by_cases h19_5 : op.k = 5
          · skip
            refine WL.val (by kernel_rfl) (.bool true) (by go_simp) ?_
            simp only [Act.put, List.setIfInBounds_toArray, List.set_cons_zero, List.set_cons_succ]
            refine WL.nil ?_
            refine hK28 _ _ ?_
            refine wp_cond_true rfl ?_
            refine wp_region_list (WL.out ?_)
            refine WL.val (by kernel_rfl) (.pointer (some ⟨d, 0, none⟩)) (by go_simp) ?_
            simp only [Act.put, List.setIfInBounds_toArray, List.set_cons_zero, List.set_cons_succ]
            refine WL.val (by kernel_rfl) (.slice (some ⟨b, off, none⟩) S.length sc) (by go_simp) ?_
            simp only [Act.put, List.setIfInBounds_toArray, List.set_cons_zero, List.set_cons_succ]
            refine WL.val (by kernel_rfl) (.int .i64 (t : Int)) (by go_simp) ?_
            simp only [Act.put, List.setIfInBounds_toArray, List.set_cons_zero, List.set_cons_succ]
            refine WL.val (by kernel_rfl) (.pointer (some ⟨b, off + t * 68, none⟩)) (by go_simp) ?_
            simp only [Act.put, List.setIfInBounds_toArray, List.set_cons_zero, List.set_cons_succ]
            refine WL.val (by kernel_rfl) (.pointer (some ⟨b, off + t * 68 + 36, none⟩)) (by go_simp) ?_
            simp only [Act.put, List.setIfInBounds_toArray, List.set_cons_zero, List.set_cons_succ]
            clear cK
            refine WL.midA (by kernel_rfl) 36 (.tmp 131) rfl b (off + t * 68 + 36) rfl (bytesA 32 op.h.f) _ (opA_h (Hel.out _ F3.out)) Try.underlying36 rfl (Try.size36B _) ?_
            simp only [Act.put, List.setIfInBounds_toArray, List.set_cons_zero, List.set_cons_succ]
            have hst := settle_any d op.h (DgS d g1) g1 wi F1.out.at' F1.out.di
            refine WL.callF (by kernel_rfl) 29 _ _ rfl Try.in29 #[ptr d, .agg (bytesA 32 op.h.f)] (by simp [Act.eval]) ?_
            refine (hst.mono (R' := fun e w' => ∃ r g', e = .returned r ∧ DS w1.heap.size w' d g' ∧ Below w1.heap.size wi w') (fun e w' ⟨g', h1, h2, h3, _⟩ => ⟨_, g', h1, (h2.ds h3 F1.out F2.out.size).1, (h2.ds h3 F1.out F2.out.size).2⟩)).mono ?_
            rintro e wk ⟨r133, g2, rfl, hd, hb⟩
            refine ⟨_, rfl, ?_⟩
            clear hst
            have E1 := Keep.mk hd
            have E2 : Keep (Below w1.heap.size w1 wk) := ⟨F2.out.trans hb⟩
            clear hd hb
            simp only [Act.put, List.setIfInBounds_toArray, List.set_cons_zero, List.set_cons_succ]
            refine WL.nil ?_
            refine hK12 _ _ ?_
            refine wp_region_list (WL.out ?_)
            refine WL.val (by kernel_rfl) (.int .i64 (t : Int)) (by go_simp) ?_
            simp only [Act.put, List.setIfInBounds_toArray, List.set_cons_zero, List.set_cons_succ]
            refine WL.val (by kernel_rfl) (.int .i64 ((t + 1 : Nat) : Int)) (by go_simp) ?_
            simp only [Act.put, List.setIfInBounds_toArray, List.set_cons_zero, List.set_cons_succ]
            refine WL.val (by kernel_rfl) (.int .i64 ((t + 1 : Nat) : Int)) (by go_simp) ?_
            simp only [Act.put, List.setIfInBounds_toArray, List.set_cons_zero, List.set_cons_succ]
            refine WL.nil ?_
            refine ⟨⟨t + 1, fun zi => [.int .i64 r, .slice (some ⟨b, off, none⟩) S.length sc, .agg (bytesA 32 x.f), undef, undef, .pointer (some ⟨w.heap.size, 0, none⟩), f 6, .pointer (some ⟨d, 0, none⟩), .int .i64 0, .int .i64 ((t + 1 : Nat) : Int), .pointer (some ⟨n10, 0, none⟩), .pointer (some ⟨n11, 0, none⟩), .slice (some ⟨ga, 0, none⟩) (n + 2) az, .int .i64 (k : Int), undef, undef, undef, undef, undef, undef, .tuple #[.pointer (some ⟨d, 0, none⟩), .int .i64 0], .int .i64 r, .tuple #[.pointer (some ⟨d, 0, none⟩), .int .i64 0], .pointer (some ⟨d, 0, none⟩), .int .i64 0, .pointer (some ⟨d, 0, none⟩), .bool false, .bool false, .int .i64 0, .bool false, .bool false, undef, undef, undef, undef, undef, undef, undef, undef, undef, undef, undef, undef, .int .i64 (t : Int), .slice (some ⟨b, off, none⟩) S.length sc, .int .i64 (S.length : Int), .bool true, .int .i64 (t : Int), .int .i64 ((t + 1 : Nat) : Int), .slice (some ⟨b, off, none⟩) S.length sc, .int .i64 (t : Int), .pointer (some ⟨b, off + t * 68, none⟩), .pointer (some ⟨b, off + t * 68 + 2, none⟩), .agg vv, .agg mm, e55, e56, e57, e58, e59, e60, e61, .slice (some ⟨ga, 0, none⟩) (n + 2) az, .slice (some ⟨b, off, none⟩) S.length sc, .int .i64 (t : Int), .pointer (some ⟨b, off + t * 68, none⟩), .pointer (some ⟨b, off + t * 68 + 2, none⟩), .pointer (some ⟨b, off + t * 68 + 2 + 33, none⟩), .slice pa n pc, .int .i64 (n : Int), .slice (some ⟨ga, 0, none⟩) n az, .pointer (some ⟨n10, 33, none⟩), .pointer (some ⟨d, 0, none⟩), .agg vw, r74, .pointer (some ⟨d, 0, none⟩), .agg vw, r77, .pointer (some ⟨n10, 33, none⟩), .slice (some ⟨ga, 0, none⟩) n az, .slice (some ⟨b, off, none⟩) S.length sc, .int .i64 (t : Int), .pointer (some ⟨b, off + t * 68, none⟩), .pointer (some ⟨b, off + t * 68 + 2, none⟩), .pointer (some ⟨b, off + t * 68 + 2 + 33, none⟩), .slice pa n pc, .bool true, .bool false, .bool false, .slice (some ⟨ga, 0, none⟩) (n + 2) az, .pointer (some ⟨n10, 33, none⟩), .slice (some ⟨ga, 0, none⟩) n az, .int .i64 (n : Int), .pointer (some ⟨ga, n * 32, none⟩), .agg (bytesA 32 mk8.f), .agg (bytesA 32 mk8.f), .bool false, .bool false, .bool false, .slice (some ⟨ga, 0, none⟩) (n + 2) az, .pointer (some ⟨n10, 33, none⟩), .slice (some ⟨ga, 0, none⟩) n az, .int .i64 (n : Int), .int .i64 ((n + 1 : Nat) : Int), .pointer (some ⟨ga, (n + 1) * 32, none⟩), .agg (bytesA 32 mk8.f), .agg (bytesA 32 mk8.f), .bool false, .bool false, .int .i64 (k : Int), .pointer (some ⟨n10, 33, none⟩), .slice (some ⟨ga, 0, none⟩) n az, .int .i64 (n : Int), .bool false, h 114, h 115, h 116, h 117, h 118, h 119, h 120, .slice (some ⟨b, off, none⟩) S.length sc, .int .i64 (t : Int), .pointer (some ⟨b, off + t * 68, none⟩), .pointer (some ⟨b, off + t * 68, none⟩), .int .i64 op.k, .bool true, .pointer (some ⟨d, 0, none⟩), .slice (some ⟨b, off, none⟩) S.length sc, .int .i64 (t : Int), .pointer (some ⟨b, off + t * 68, none⟩), .pointer (some ⟨b, off + t * 68 + 36, none⟩), .agg (bytesA 32 op.h.f), r133, undef, undef, undef, undef, undef, undef, undef, undef, undef, undef, undef, undef, undef, undef, undef, undef, undef, undef, undef, undef, undef, undef, undef, undef, undef, undef, undef, undef, undef, undef, undef, undef, undef, undef, undef, undef, undef, undef, undef, undef, undef, undef, undef, undef, undef, undef, undef, undef, undef, undef, undef, undef, undef, undef, undef, undef, undef, undef].getD zi undef, g2, rfl, by omega, E1.out, E2.out⟩, ?_⟩
            simp only [intOf]; show S.length - (((t + 1 : Nat) : Int)).toNat < S.length - ((t : Int)).toNat; omega
          · skip
            refine WL.val (by kernel_rfl) (.bool false) (by go_simp) ?_
            simp only [Act.put, List.setIfInBounds_toArray, List.set_cons_zero, List.set_cons_succ]
            refine WL.nil ?_
            refine hK28 _ _ ?_
            refine wp_cond_false rfl ?_
            refine wp_skip ?_
            refine hK12 _ _ ?_
            refine wp_region_list (WL.out ?_)
            refine WL.val (by kernel_rfl) (.int .i64 (t : Int)) (by go_simp) ?_
            simp only [Act.put, List.setIfInBounds_toArray, List.set_cons_zero, List.set_cons_succ]
            refine WL.val (by kernel_rfl) (.int .i64 ((t + 1 : Nat) : Int)) (by go_simp) ?_
            simp only [Act.put, List.setIfInBounds_toArray, List.set_cons_zero, List.set_cons_succ]
            refine WL.val (by kernel_rfl) (.int .i64 ((t + 1 : Nat) : Int)) (by go_simp) ?_
            simp only [Act.put, List.setIfInBounds_toArray, List.set_cons_zero, List.set_cons_succ]
            refine WL.nil ?_
            refine ⟨⟨t + 1, fun zi => [.int .i64 r, .slice (some ⟨b, off, none⟩) S.length sc, .agg (bytesA 32 x.f), undef, undef, .pointer (some ⟨w.heap.size, 0, none⟩), f 6, .pointer (some ⟨d, 0, none⟩), .int .i64 0, .int .i64 ((t + 1 : Nat) : Int), .pointer (some ⟨n10, 0, none⟩), .pointer (some ⟨n11, 0, none⟩), .slice (some ⟨ga, 0, none⟩) (n + 2) az, .int .i64 (k : Int), undef, undef, undef, undef, undef, undef, .tuple #[.pointer (some ⟨d, 0, none⟩), .int .i64 0], .int .i64 r, .tuple #[.pointer (some ⟨d, 0, none⟩), .int .i64 0], .pointer (some ⟨d, 0, none⟩), .int .i64 0, .pointer (some ⟨d, 0, none⟩), .bool false, .bool false, .int .i64 0, .bool false, .bool false, undef, undef, undef, undef, undef, undef, undef, undef, undef, undef, undef, undef, .int .i64 (t : Int), .slice (some ⟨b, off, none⟩) S.length sc, .int .i64 (S.length : Int), .bool true, .int .i64 (t : Int), .int .i64 ((t + 1 : Nat) : Int), .slice (some ⟨b, off, none⟩) S.length sc, .int .i64 (t : Int), .pointer (some ⟨b, off + t * 68, none⟩), .pointer (some ⟨b, off + t * 68 + 2, none⟩), .agg vv, .agg mm, e55, e56, e57, e58, e59, e60, e61, .slice (some ⟨ga, 0, none⟩) (n + 2) az, .slice (some ⟨b, off, none⟩) S.length sc, .int .i64 (t : Int), .pointer (some ⟨b, off + t * 68, none⟩), .pointer (some ⟨b, off + t * 68 + 2, none⟩), .pointer (some ⟨b, off + t * 68 + 2 + 33, none⟩), .slice pa n pc, .int .i64 (n : Int), .slice (some ⟨ga, 0, none⟩) n az, .pointer (some ⟨n10, 33, none⟩), .pointer (some ⟨d, 0, none⟩), .agg vw, r74, .pointer (some ⟨d, 0, none⟩), .agg vw, r77, .pointer (some ⟨n10, 33, none⟩), .slice (some ⟨ga, 0, none⟩) n az, .slice (some ⟨b, off, none⟩) S.length sc, .int .i64 (t : Int), .pointer (some ⟨b, off + t * 68, none⟩), .pointer (some ⟨b, off + t * 68 + 2, none⟩), .pointer (some ⟨b, off + t * 68 + 2 + 33, none⟩), .slice pa n pc, .bool true, .bool false, .bool false, .slice (some ⟨ga, 0, none⟩) (n + 2) az, .pointer (some ⟨n10, 33, none⟩), .slice (some ⟨ga, 0, none⟩) n az, .int .i64 (n : Int), .pointer (some ⟨ga, n * 32, none⟩), .agg (bytesA 32 mk8.f), .agg (bytesA 32 mk8.f), .bool false, .bool false, .bool false, .slice (some ⟨ga, 0, none⟩) (n + 2) az, .pointer (some ⟨n10, 33, none⟩), .slice (some ⟨ga, 0, none⟩) n az, .int .i64 (n : Int), .int .i64 ((n + 1 : Nat) : Int), .pointer (some ⟨ga, (n + 1) * 32, none⟩), .agg (bytesA 32 mk8.f), .agg (bytesA 32 mk8.f), .bool false, .bool false, .int .i64 (k : Int), .pointer (some ⟨n10, 33, none⟩), .slice (some ⟨ga, 0, none⟩) n az, .int .i64 (n : Int), .bool false, h 114, h 115, h 116, h 117, h 118, h 119, h 120, .slice (some ⟨b, off, none⟩) S.length sc, .int .i64 (t : Int), .pointer (some ⟨b, off + t * 68, none⟩), .pointer (some ⟨b, off + t * 68, none⟩), .int .i64 op.k, .bool false, f 127, f 128, f 129, f 130, f 131, f 132, f 133, undef, undef, undef, undef, undef, undef, undef, undef, undef, undef, undef, undef, undef, undef, undef, undef, undef, undef, undef, undef, undef, undef, undef, undef, undef, undef, undef, undef, undef, undef, undef, undef, undef, undef, undef, undef, undef, undef, undef, undef, undef, undef, undef, undef, undef, undef, undef, undef, undef, undef, undef, undef, undef, undef, undef, undef, undef, undef].getD zi undef, g1, rfl, by omega, F1.out, F2.out⟩, ?_⟩
            simp only [intOf]; show S.length - (((t + 1 : Nat) : Int)).toNat < S.length - ((t : Int)).toNat; omega
      have hSB : Keep (∀ wx, Below wb.heap.size wb wx → (fun wx => wx.cell? ⟨n10, 33, none⟩ = some (.slice pa n pc) ∧ wx.rangeAt n11 0 mm.toList) wx) := ⟨fun wx hb => ⟨(V2.out.below hb V2.out.lt).c 33 (by rw [hvv.out]; exact vtx_ps _ _ _), blk_rng (M1.out.below hb M1.out.lt)⟩⟩
      have BD : Keep (Below wb.heap.size wb wb.drew) := ⟨(Below.refl _ _).drew⟩
      have HPb : Keep (∀ wx, Below wb.heap.size wb wx → HRow wx (.slice pa n pc) op.q.1.ps) := ⟨fun wx hb => HPs.out.below (belowT HW.out (belowT BB.out hb))⟩
      refine wp_region_held_drew (S := fun wx => wx.cell? ⟨n10, 33, none⟩ = some (.slice pa n pc) ∧ wx.rangeAt n11 0 mm.toList) (by kernel_rfl) (hSB.out _ BD.out) (fun hHeld => ?_)
      refine wpAnyH_take (i := 0) (oi := ⟨some 55, Op.fieldAddr 39 (Operand.tmp 10) 2, 0, _, _, none⟩) (v := .pointer (some ⟨n10, 33, none⟩)) rfl (by kernel_rfl) (by kernel_rfl) (by kernel_rfl) (fun _ _ _ h => h) (Or.inl ⟨by rfl, fun w hS => by obtain ⟨hS1, hS2⟩ := hS; go_simp⟩) hHeld ?_
      simp only [Act.put, List.setIfInBounds_toArray, List.set_cons_zero, List.set_cons_succ]
      refine wpAnyH_take (i := 1) (oi := ⟨some 56, Op.load 37 (Operand.tmp 55), 37, _, _, none⟩) (v := .slice pa n pc) rfl (by kernel_rfl) (by kernel_rfl) (by kernel_rfl) (fun _ _ _ h => h) (Or.inl ⟨by rfl, fun w hS => by obtain ⟨hS1, hS2⟩ := hS; go_simp⟩) hHeld ?_
      simp only [Act.put, List.setIfInBounds_toArray, List.set_cons_zero, List.set_cons_succ]
      refine wpAnyH_take (i := 3) (oi := ⟨some 58, Op.load 36 (Operand.tmp 11), 36, _, _, none⟩) (v := .agg mm) rfl (by kernel_rfl) (by kernel_rfl) (by kernel_rfl) (fun _ _ _ h => h) (yieldsIf_ld (by rfl) (Operand.tmp 11) 36 rfl n11 0 rfl mm _ Try.underlying36 rfl (by rw [hmm.out]; exact size36A _) fun w hS => hS.2) hHeld ?_
      simp only [Act.put, List.setIfInBounds_toArray, List.set_cons_zero, List.set_cons_succ]
      refine wpAnyH_take (i := 4) (oi := ⟨some 59, Op.load 36 (Operand.tmp 11), 36, _, _, none⟩) (v := .agg mm) rfl (by kernel_rfl) (by kernel_rfl) (by kernel_rfl) (fun _ _ _ h => h) (yieldsIf_ld (by rfl) (Operand.tmp 11) 36 rfl n11 0 rfl mm _ Try.underlying36 rfl (by rw [hmm.out]; exact size36A _) fun w hS => hS.2) hHeld ?_
      simp only [Act.put, List.setIfInBounds_toArray, List.set_cons_zero, List.set_cons_succ]
      refine wpAnyH_ready (rs := [2, 5]) (by kernel_rfl) (by simp) ?_
      refine AllReadyH.cons (o := ⟨some 57, Op.call { callee := Callee.builtin Builtin.append, args := #[Operand.const (Value.slice none 0 0), Operand.tmp 56], argTypes := #[37, 37] }, 37, _, _, none⟩) rfl (fun K hK => ?_) (AllReadyH.cons (o := ⟨some 60, Op.buildSlice 37 2 #[(0, Operand.tmp 58), (1, Operand.tmp 59)], 37, _, _, none⟩) rfl (fun K hK => ?_) AllReadyH.nil)
      all_goals rw [if_pos (by rfl)]
      · refine wp_apM (Operand.const (.slice none 0 0)) (Operand.tmp 56) rfl (.slice none 0 0) _ [] op.q.1.ps rfl rfl (ownH_nil _) (HPb.out _ BD.out) (by rw [← hn.out]; have := HPl.out; simp; omega) fun v57 wx1 h1 h2 h3 => ?_
        rw [List.nil_append] at h1
        have hz : Below wb.drew.heap.size wb.drew wx1 := h2.to_below (fun k _ e => by cases e) (Nat.le_refl _)
        have BX1 := Keep.mk (belowT BD.out hz)
        have O57 := Keep.mk h1
        have N57 : Keep (∀ k, v57.ownBlock = some k → wb.heap.size ≤ k) := ⟨fun k hk => h3.elim (fun e => by rw [hk] at e; cases e) fun ⟨q, e, hq⟩ => by rw [hk] at e; have := Option.some.inj e; have := BD.out.size; omega⟩
        refine hK _ _ (hSB.out _ BX1.out) fun hR1 => ?_
        clear hK h1 h2 h3 hz
        simp only [Act.put, List.setIfInBounds_toArray, List.set_cons_zero, List.set_cons_succ]
        refine wpAnyH_ready (rs := [5]) (by kernel_rfl) (by simp) ?_
        refine AllReadyH.cons (o := ⟨some 60, Op.buildSlice 37 2 #[(0, Operand.tmp 58), (1, Operand.tmp 59)], 37, _, _, none⟩) rfl (fun K hK => ?_) AllReadyH.nil
        rw [if_pos (by rfl)]
        refine wp_bs 37 2 _ rfl #[(0, .agg mm), (1, .agg mm)] (by simp [Act.eval]) _ _ (by rw [hmm.out]; exact bs2 _ wx1) ?_
        have R60 := Keep.mk (two_row mk8 wx1)
        have hz := below_new wx1 (.cells (bytesA 32 mk8.f ++ bytesA 32 mk8.f) 36)
        have BX2 := Keep.mk (belowT BX1.out hz)
        generalize wx1.alloc (.cells (bytesA 32 mk8.f ++ bytesA 32 mk8.f) 36) = wx2 at *
        have O57 := Keep.mk (O57.out.below hz)
        obtain ⟨gy, hgy⟩ : ∃ k, k = wx1.heap.size := ⟨_, rfl⟩
        rw [← hgy] at R60 ⊢
        clear hgy
        refine hK _ _ (hSB.out _ BX2.out) fun hR2 => ?_
        clear hK hz
        simp only [Act.put, List.setIfInBounds_toArray, List.set_cons_zero, List.set_cons_succ]
        refine wpAnyH_ready (rs := [6]) (by kernel_rfl) (by simp) ?_
        refine AllReadyH.cons (o := ⟨some 61, Op.call { callee := Callee.builtin Builtin.append, args := #[Operand.tmp 57, Operand.tmp 60], argTypes := #[37, 37] }, 37, _, _, none⟩) rfl (fun K hK => ?_) AllReadyH.nil
        rw [if_pos (by rfl)]
        refine wp_apM (Operand.tmp 57) (Operand.tmp 60) rfl v57 _ op.q.1.ps [mk8, mk8] rfl rfl O57.out R60.out (by rw [← hn.out]; have := HPl.out; simp; omega) fun v12 wc h1 h2 h3 => ?_
        have BC : Keep (Below wb.heap.size wb wc) := ⟨BX2.out.trans (h2.to_below (fun k hk e => by have := N57.out k e; omega) BX2.out.size)⟩
        have N12 : Keep (∀ k, v12.ownBlock = some k → wb.heap.size ≤ k) := ⟨fun k hk => h3.elim (fun e => N57.out k (by rw [← e]; exact hk)) fun ⟨q, e, hq⟩ => by rw [hk] at e; have := Option.some.inj e; have := BX2.out.size; omega⟩
        have hlen : (op.q.1.ps ++ [mk8, mk8]).length = n + 2 := by rw [List.length_append, ← hn.out]; rfl
        obtain ⟨ga, az, cura, hva, hba, hca, -⟩ : ∃ ga az cur, v12 = .slice (some ⟨ga, 0, none⟩) (n + 2) az ∧ Blk wc ga 36 cur ∧ n + 2 ≤ az ∧ True := by
          rcases h1.form with ⟨_, h0⟩ | ⟨ga, az, cur, e, hb, hc, _⟩
          · have := congrArg List.length h0; rw [hlen] at this; simp at this
          · rw [hlen] at e hc; exact ⟨ga, az, cur, e, hb, hc, trivial⟩
        subst hva
        have O12 := Keep.mk h1
        have HGa : Keep (wb.heap.size ≤ ga ∧ n + 2 ≤ az) := ⟨⟨N12.out ga rfl, hca⟩⟩
        refine hK _ _ (hSB.out _ BC.out) fun hH9 => ?_
        clear hK h1 h2 h3 hlen hba hca
        simp only [Act.put, List.setIfInBounds_toArray, List.set_cons_zero, List.set_cons_succ]
        refine wpAnyH_take (i := 7) (oi := ⟨some 12, Op.assign (Operand.tmp 61), 37, _, _, none⟩) (v := .slice (some ⟨ga, 0, none⟩) (n + 2) az) rfl (by kernel_rfl) (by kernel_rfl) (by kernel_rfl) (fun _ _ _ h => h) (Or.inl ⟨by rfl, fun w hS => by obtain ⟨hS1, hS2⟩ := hS; go_simp⟩) hH9 ?_
        simp only [Act.put, List.setIfInBounds_toArray, List.set_cons_zero, List.set_cons_succ]
        refine wpAnyH_done (by kernel_rfl) ?_ _
        exact rest9 wc ga az _ _ _ _ _ _ _ BC.out O12.out HGa.out
      · refine wp_bs 37 2 _ rfl #[(0, .agg mm), (1, .agg mm)] (by simp [Act.eval]) _ _ (by rw [hmm.out]; exact bs2 _ wb.drew) ?_
        have R60 := Keep.mk (two_row mk8 wb.drew)
        have hz := below_new wb.drew (.cells (bytesA 32 mk8.f ++ bytesA 32 mk8.f) 36)
        have BX1 := Keep.mk (belowT BD.out hz)
        generalize wb.drew.alloc (.cells (bytesA 32 mk8.f ++ bytesA 32 mk8.f) 36) = wx1 at *
        obtain ⟨gy, hgy⟩ : ∃ k, k = wb.drew.heap.size := ⟨_, rfl⟩
        rw [← hgy] at R60 ⊢
        clear hgy
        refine hK _ _ (hSB.out _ BX1.out) fun hR1 => ?_
        clear hK hz
        simp only [Act.put, List.setIfInBounds_toArray, List.set_cons_zero, List.set_cons_succ]
        refine wpAnyH_ready (rs := [2]) (by kernel_rfl) (by simp) ?_
        refine AllReadyH.cons (o := ⟨some 57, Op.call { callee := Callee.builtin Builtin.append, args := #[Operand.const (Value.slice none 0 0), Operand.tmp 56], argTypes := #[37, 37] }, 37, _, _, none⟩) rfl (fun K hK => ?_) AllReadyH.nil
        rw [if_pos (by rfl)]
        refine wp_apM (Operand.const (.slice none 0 0)) (Operand.tmp 56) rfl (.slice none 0 0) _ [] op.q.1.ps rfl rfl (ownH_nil _) (HPb.out _ BX1.out) (by rw [← hn.out]; have := HPl.out; simp; omega) fun v57 wx2 h1 h2 h3 => ?_
        rw [List.nil_append] at h1
        have hz : Below wx1.heap.size wx1 wx2 := h2.to_below (fun k _ e => by cases e) (Nat.le_refl _)
        have BX2 := Keep.mk (belowT BX1.out hz)
        have O57 := Keep.mk h1
        have N57 : Keep (∀ k, v57.ownBlock = some k → wb.heap.size ≤ k) := ⟨fun k hk => h3.elim (fun e => by rw [hk] at e; cases e) fun ⟨q, e, hq⟩ => by rw [hk] at e; have := Option.some.inj e; have := BX1.out.size; omega⟩
        have R60 := Keep.mk (R60.out.below hz)
        refine hK _ _ (hSB.out _ BX2.out) fun hR2 => ?_
        clear hK h1 h2 h3 hz
        simp only [Act.put, List.setIfInBounds_toArray, List.set_cons_zero, List.set_cons_succ]
        refine wpAnyH_ready (rs := [6]) (by kernel_rfl) (by simp) ?_
        refine AllReadyH.cons (o := ⟨some 61, Op.call { callee := Callee.builtin Builtin.append, args := #[Operand.tmp 57, Operand.tmp 60], argTypes := #[37, 37] }, 37, _, _, none⟩) rfl (fun K hK => ?_) AllReadyH.nil
        rw [if_pos (by rfl)]
        refine wp_apM (Operand.tmp 57) (Operand.tmp 60) rfl v57 _ op.q.1.ps [mk8, mk8] rfl rfl O57.out R60.out (by rw [← hn.out]; have := HPl.out; simp; omega) fun v12 wc h1 h2 h3 => ?_
        have BC : Keep (Below wb.heap.size wb wc) := ⟨BX2.out.trans (h2.to_below (fun k hk e => by have := N57.out k e; omega) BX2.out.size)⟩
        have N12 : Keep (∀ k, v12.ownBlock = some k → wb.heap.size ≤ k) := ⟨fun k hk => h3.elim (fun e => N57.out k (by rw [← e]; exact hk)) fun ⟨q, e, hq⟩ => by rw [hk] at e; have := Option.some.inj e; have := BX2.out.size; omega⟩
        have hlen : (op.q.1.ps ++ [mk8, mk8]).length = n + 2 := by rw [List.length_append, ← hn.out]; rfl
        obtain ⟨ga, az, cura, hva, hba, hca, -⟩ : ∃ ga az cur, v12 = .slice (some ⟨ga, 0, none⟩) (n + 2) az ∧ Blk wc ga 36 cur ∧ n + 2 ≤ az ∧ True := by
          rcases h1.form with ⟨_, h0⟩ | ⟨ga, az, cur, e, hb, hc, _⟩
          · have := congrArg List.length h0; rw [hlen] at this; simp at this
          · rw [hlen] at e hc; exact ⟨ga, az, cur, e, hb, hc, trivial⟩
        subst hva
        have O12 := Keep.mk h1
        have HGa : Keep (wb.heap.size ≤ ga ∧ n + 2 ≤ az) := ⟨⟨N12.out ga rfl, hca⟩⟩
        refine hK _ _ (hSB.out _ BC.out) fun hH9 => ?_
        clear hK h1 h2 h3 hlen hba hca
        simp only [Act.put, List.setIfInBounds_toArray, List.set_cons_zero, List.set_cons_succ]
        refine wpAnyH_take (i := 7) (oi := ⟨some 12, Op.assign (Operand.tmp 61), 37, _, _, none⟩) (v := .slice (some ⟨ga, 0, none⟩) (n + 2) az) rfl (by kernel_rfl) (by kernel_rfl) (by kernel_rfl) (fun _ _ _ h => h) (Or.inl ⟨by rfl, fun w hS => by obtain ⟨hS1, hS2⟩ := hS; go_simp⟩) hH9 ?_
        simp only [Act.put, List.setIfInBounds_toArray, List.set_cons_zero, List.set_cons_succ]
        refine wpAnyH_done (by kernel_rfl) ?_ _
        exact rest9 wc ga az _ _ _ _ _ _ _ BC.out O12.out HGa.out
    · have htl' : ¬ (t : Int) < (S.length : Int) := by omega
      have HX2 := Keep.mk (HX1.out.below JB.out HX1.out.lt)
      have HLn : Keep (∀ i, i < 6 → (lsL gr x i).length ≤ 4096) := ⟨fun i _ => lsL_len JD.out.di x (mis_len JD.out.di) i⟩
      refine wp_seq_k fun K29 hK29 => ?_
      refine wp_seq_k fun K30 hK30 => ?_
      refine wp_region_list (WL.out ?_)
      refine WL.val (by kernel_rfl) (.int .i64 (t : Int)) (by go_simp) ?_
      simp only [Act.put, List.setIfInBounds_toArray, List.set_cons_zero, List.set_cons_succ]
      refine WL.val (by kernel_rfl) (.slice sa S.length sc) (by go_simp) ?_
      simp only [Act.put, List.setIfInBounds_toArray, List.set_cons_zero, List.set_cons_succ]
      refine WL.val (by kernel_rfl) (.int .i64 (S.length : Int)) (by go_simp) ?_
      simp only [Act.put, List.setIfInBounds_toArray, List.set_cons_zero, List.set_cons_succ]
      refine WL.val (by kernel_rfl) (.bool false) (by go_simp) ?_
      simp only [Act.put, List.setIfInBounds_toArray, List.set_cons_zero, List.set_cons_succ]
      refine WL.nil ?_
      refine hK30 _ _ ?_
      refine wp_cond_false rfl ?_
      refine wp_exit ?_
      refine hK8 _ _ ?_
      refine wp_seq_k fun K31 hK31 => ?_
      refine wp_region_list (WL.out ?_)
      refine WL.val (by kernel_rfl) (.pointer (some ⟨d, 0, none⟩)) (by go_simp) ?_
      simp only [Act.put, List.setIfInBounds_toArray, List.set_cons_zero, List.set_cons_succ]
      refine WL.row (by kernel_rfl) 36 (.tmp 5) rfl w.heap.size rfl 36 (bytesA 32 x.f) _ HX2.out Try.underlying36 rfl (Try.size36B _) ?_
      simp only [Act.put, List.setIfInBounds_toArray, List.set_cons_zero, List.set_cons_succ]
      have BR : Keep (Below wr.heap.size wr wr) := ⟨Below.refl _ _⟩
      have hls := lists_any w1.heap.size d x gr wr (JD.out.below BR.out)
      refine WL.callF (by kernel_rfl) 30 _ _ rfl Try.in30 #[ptr d, .agg (bytesA 32 x.f)] (by simp [Act.eval]) ?_
      refine (hls).mono ?_
      rintro e x1 ⟨a14, ga14, Va, rfl, hl, ha, hb⟩
      refine ⟨_, rfl, ?_⟩
      clear hls
      have La := Keep.mk hl
      have Aa := Keep.mk ha
      have Q1 := Keep.mk (belowT BR.out hb)
      have HX3 := Keep.mk (HX2.out.below hb HX2.out.lt)
      clear hl ha hb
      simp only [Act.put, List.setIfInBounds_toArray, List.set_cons_zero, List.set_cons_succ]
      refine WL.val (by kernel_rfl) (a14) (by go_simp) ?_
      simp only [Act.put, List.setIfInBounds_toArray, List.set_cons_zero, List.set_cons_succ]
      refine WL.nil ?_
      refine hK31 _ _ ?_
      refine wp_seq_k fun K32 hK32 => ?_
      refine wp_region_list (WL.out ?_)
      refine WL.val (by kernel_rfl) (.pointer (some ⟨d, 0, none⟩)) (by go_simp) ?_
      simp only [Act.put, List.setIfInBounds_toArray, List.set_cons_zero, List.set_cons_succ]
      refine WL.row (by kernel_rfl) 36 (.tmp 5) rfl w.heap.size rfl 36 (bytesA 32 x.f) _ HX3.out Try.underlying36 rfl (Try.size36B _) ?_
      simp only [Act.put, List.setIfInBounds_toArray, List.set_cons_zero, List.set_cons_succ]
      have hls := lists_any w1.heap.size d x gr x1 (JD.out.below Q1.out)
      refine WL.callF (by kernel_rfl) 30 _ _ rfl Try.in30 #[ptr d, .agg (bytesA 32 x.f)] (by simp [Act.eval]) ?_
      refine (hls).mono ?_
      rintro e x2 ⟨b15, gb15, Vb, rfl, hl, ha, hb⟩
      refine ⟨_, rfl, ?_⟩
      clear hls
      have Lb := Keep.mk hl
      have Ab := Keep.mk ha
      have Q2 := Keep.mk (belowT Q1.out hb)
      have La2 := Keep.mk (La.out.below hb)
      have HX4 := Keep.mk (HX3.out.below hb HX3.out.lt)
      have S12 : Keep (x1.heap.size ≤ x2.heap.size) := ⟨hb.size⟩
      clear hl ha hb
      simp only [Act.put, List.setIfInBounds_toArray, List.set_cons_zero, List.set_cons_succ]
      refine WL.val (by kernel_rfl) (b15) (by go_simp) ?_
      simp only [Act.put, List.setIfInBounds_toArray, List.set_cons_zero, List.set_cons_succ]
      refine WL.nil ?_
      refine hK32 _ _ ?_
      refine wp_seq_k fun K33 hK33 => ?_
      refine wp_region_list (WL.out ?_)
      refine WL.val (by kernel_rfl) (a14) (by go_simp) ?_
      simp only [Act.put, List.setIfInBounds_toArray, List.set_cons_zero, List.set_cons_succ]
      have hco := copies_any _ a14 ga14 Va (lsL gr x) x2 La2.out HLn.out
      refine WL.callF (by kernel_rfl) 31 _ _ rfl Try.in31 #[a14] (by simp [Act.eval]) ?_
      refine (hco).mono ?_
      rintro e x3 ⟨c16, gc16, Vc, rfl, hl, hb⟩
      refine ⟨_, rfl, ?_⟩
      clear hco
      have Lc := Keep.mk hl
      have La3 := Keep.mk (La2.out.below hb)
      have Lb3 := Keep.mk (Lb.out.below hb)
      have HX5 := Keep.mk (HX4.out.below hb HX4.out.lt)
      have Q3 := Keep.mk (belowT Q2.out hb)
      have S23 : Keep (x2.heap.size ≤ x3.heap.size) := ⟨hb.size⟩
      clear hl hb
      simp only [Act.put, List.setIfInBounds_toArray, List.set_cons_zero, List.set_cons_succ]
      refine WL.val (by kernel_rfl) (c16) (by go_simp) ?_
      simp only [Act.put, List.setIfInBounds_toArray, List.set_cons_zero, List.set_cons_succ]
      refine WL.nil ?_
      refine hK33 _ _ ?_
      refine wp_seq_k fun K34 hK34 => ?_
      refine wp_seq_k fun K35 hK35 => ?_
      refine wp_region_list (WL.out ?_)
      refine WL.val (by kernel_rfl) (b15) (by go_simp) ?_
      simp only [Act.put, List.setIfInBounds_toArray, List.set_cons_zero, List.set_cons_succ]
      refine WL.val (by kernel_rfl) (c16) (by go_simp) ?_
      simp only [Act.put, List.setIfInBounds_toArray, List.set_cons_zero, List.set_cons_succ]
      have hsl := sameLs_any _ _ b15 c16 _ _ _ _ (lsL gr x) (lsL gr x) x3 Lb3.out Lc.out (fun _ _ => rfl) HLn.out
      refine WL.callF (by kernel_rfl) 32 _ _ rfl Try.in32 #[b15, c16] (by simp [Act.eval]) ?_
      refine (hsl).mono ?_
      rintro e x4 ⟨rfl, hb⟩
      refine ⟨_, rfl, ?_⟩
      clear hsl
      have Q4 := Keep.mk (belowT Q3.out hb)
      have La4 := Keep.mk (La3.out.below hb)
      have Lb4 := Keep.mk (Lb3.out.below hb)
      have Lc4 := Keep.mk (Lc.out.below hb)
      have HX6 := Keep.mk (HX5.out.below hb HX5.out.lt)
      have S34 : Keep (x3.heap.size ≤ x4.heap.size) := ⟨hb.size⟩
      clear hb
      simp only [Act.put, List.setIfInBounds_toArray, List.set_cons_zero, List.set_cons_succ]
      refine WL.val (by kernel_rfl) (.bool false) (by go_simp) ?_
      simp only [Act.put, List.setIfInBounds_toArray, List.set_cons_zero, List.set_cons_succ]
      refine WL.nil ?_
      refine hK35 _ _ ?_
      refine wp_cond_false rfl ?_
      refine wp_skip ?_
      refine hK34 _ _ ?_
      refine wp_seq_k fun K36 hK36 => ?_
      refine wp_seq_k fun K37 hK37 => ?_
      refine wp_region_list (WL.out ?_)
      refine WL.val (by kernel_rfl) (.int .i64 0) (by go_simp) ?_
      simp only [Act.put, List.setIfInBounds_toArray, List.set_cons_zero, List.set_cons_succ]
      refine WL.nil ?_
      refine hK37 _ _ ?_
      refine wp_block ?_
      obtain ⟨ca, eca⟩ := La4.out.eq
      have ECa := Keep.mk eca
      clear eca
      rw [ECa.out]
      refine wp_loop (fun ac y4 => ∃ (i4 : Nat) (f4 : Nat → Value), ac = { tmps := #[.int .i64 r, .slice sa S.length sc, .agg (bytesA 32 x.f), undef, undef, .pointer (some ⟨w.heap.size, 0, none⟩), f 6, .pointer (some ⟨d, 0, none⟩), .int .i64 0, .int .i64 (t : Int), f 10, f 11, f 12, f 13, .slice (some ⟨ga14, 0, none⟩) 6 ca, b15, c16, .int .i64 (i4 : Int), undef, undef, .tuple #[.pointer (some ⟨d, 0, none⟩), .int .i64 0], .int .i64 r, .tuple #[.pointer (some ⟨d, 0, none⟩), .int .i64 0], .pointer (some ⟨d, 0, none⟩), .int .i64 0, .pointer (some ⟨d, 0, none⟩), .bool false, .bool false, .int .i64 0, .bool false, .bool false, undef, undef, undef, undef, undef, undef, undef, undef, undef, undef, undef, undef, .int .i64 (t : Int), .slice sa S.length sc, .int .i64 (S.length : Int), .bool false, f 47, f 48, f 49, f 50, f 51, f 52, f 53, f 54, f 55, f 56, f 57, f 58, f 59, f 60, f 61, f 62, f 63, f 64, f 65, f 66, f 67, f 68, f 69, f 70, f 71, f 72, f 73, f 74, f 75, f 76, f 77, f 78, f 79, f 80, f 81, f 82, f 83, f 84, f 85, f 86, f 87, f 88, f 89, f 90, f 91, f 92, f 93, f 94, f 95, f 96, f 97, f 98, f 99, f 100, f 101, f 102, f 103, f 104, f 105, f 106, f 107, f 108, f 109, f 110, f 111, f 112, f 113, f 114, f 115, f 116, f 117, f 118, f 119, f 120, f 121, f 122, f 123, f 124, f 125, f 126, f 127, f 128, f 129, f 130, f 131, f 132, f 133, .pointer (some ⟨d, 0, none⟩), .agg (bytesA 32 x.f), .slice (some ⟨ga14, 0, none⟩) 6 ca, .pointer (some ⟨d, 0, none⟩), .agg (bytesA 32 x.f), b15, .slice (some ⟨ga14, 0, none⟩) 6 ca, c16, b15, c16, .bool true, .bool false, f4 146, f4 147, f4 148, f4 149, f4 150, f4 151, f4 152, f4 153, f4 154, f4 155, f4 156, undef, undef, undef, undef, undef, undef, undef, undef, undef, undef, undef, undef, undef, undef, undef, undef, undef, undef, undef, undef, undef, undef, undef, undef, undef, undef, undef, undef, undef, undef, undef, undef, undef, undef, undef], defers := [] } ∧ i4 ≤ 6 ∧ (Grown x4 y4 fun k => ∃ i, i < 6 ∧ (Va i).ownBlock = some k) ∧ (∀ i, i4 ≤ i → i < 6 → OwnX y4 (Va i) (lsL gr x i).length)) (fun a _ => 6 - (intOf (a.tmps.getD 17 undef)).toNat) ⟨0, fun zi => [.int .i64 r, .slice sa S.length sc, .agg (bytesA 32 x.f), undef, undef, .pointer (some ⟨w.heap.size, 0, none⟩), f 6, .pointer (some ⟨d, 0, none⟩), .int .i64 0, .int .i64 (t : Int), f 10, f 11, f 12, f 13, .slice (some ⟨ga14, 0, none⟩) 6 ca, b15, c16, .int .i64 0, undef, undef, .tuple #[.pointer (some ⟨d, 0, none⟩), .int .i64 0], .int .i64 r, .tuple #[.pointer (some ⟨d, 0, none⟩), .int .i64 0], .pointer (some ⟨d, 0, none⟩), .int .i64 0, .pointer (some ⟨d, 0, none⟩), .bool false, .bool false, .int .i64 0, .bool false, .bool false, undef, undef, undef, undef, undef, undef, undef, undef, undef, undef, undef, undef, .int .i64 (t : Int), .slice sa S.length sc, .int .i64 (S.length : Int), .bool false, f 47, f 48, f 49, f 50, f 51, f 52, f 53, f 54, f 55, f 56, f 57, f 58, f 59, f 60, f 61, f 62, f 63, f 64, f 65, f 66, f 67, f 68, f 69, f 70, f 71, f 72, f 73, f 74, f 75, f 76, f 77, f 78, f 79, f 80, f 81, f 82, f 83, f 84, f 85, f 86, f 87, f 88, f 89, f 90, f 91, f 92, f 93, f 94, f 95, f 96, f 97, f 98, f 99, f 100, f 101, f 102, f 103, f 104, f 105, f 106, f 107, f 108, f 109, f 110, f 111, f 112, f 113, f 114, f 115, f 116, f 117, f 118, f 119, f 120, f 121, f 122, f 123, f 124, f 125, f 126, f 127, f 128, f 129, f 130, f 131, f 132, f 133, .pointer (some ⟨d, 0, none⟩), .agg (bytesA 32 x.f), .slice (some ⟨ga14, 0, none⟩) 6 ca, .pointer (some ⟨d, 0, none⟩), .agg (bytesA 32 x.f), b15, .slice (some ⟨ga14, 0, none⟩) 6 ca, c16, b15, c16, .bool true, .bool false, undef, undef, undef, undef, undef, undef, undef, undef, undef, undef, undef, undef, undef, undef, undef, undef, undef, undef, undef, undef, undef, undef, undef, undef, undef, undef, undef, undef, undef, undef, undef, undef, undef, undef, undef, undef, undef, undef, undef, undef, undef, undef, undef, undef, undef, undef].getD zi undef, rfl, by omega, Grown.refl _ _, (fun i _ hi => (La4.out.own i hi).x)⟩ ?_
      rintro ac y4 ⟨i4, f4, rfl, hi, hG, hl⟩
      have NA := Keep.mk hG
      have NAl := Keep.mk hl
      clear hG hl
      by_cases htli4 : i4 < 6
      · have htl' : (i4 : Int) < 6 := by omega
        have hwt : IntKind.i64.wrap ((i4 : Int) + 1) = ((i4 + 1 : Nat) : Int) := by rw [IntKind.wrap_i64]; omega
        obtain ⟨pa, pc, eV⟩ := (La4.out.own i4 htli4).sl
        have hoX : OwnX y4 (Va i4) (lsL gr x i4).length := NAl.out i4 (Nat.le_refl _) htli4
        rw [eV] at hoX
        have cV : y4.cell? ⟨ga14, i4, none⟩ = some (.slice pa (lsL gr x i4).length pc) := by rw [← eV]; exact cell_grown (La4.out.cell i4 htli4) NA.out (fun ⟨i, hi, e⟩ => La4.out.ne i hi _ e rfl)
        have OX := Keep.mk hoX
        have EV := Keep.mk eV
        clear hoX eV
        refine wp_seq_k fun K38 hK38 => ?_
        refine wp_seq_k fun K39 hK39 => ?_
        refine wp_region_list (WL.out ?_)
        refine WL.val (by kernel_rfl) (.int .i64 (i4 : Int)) (by go_simp) ?_
        simp only [Act.put, List.setIfInBounds_toArray, List.set_cons_zero, List.set_cons_succ]
        refine WL.val (by kernel_rfl) (.slice (some ⟨ga14, 0, none⟩) 6 ca) (by go_simp) ?_
        simp only [Act.put, List.setIfInBounds_toArray, List.set_cons_zero, List.set_cons_succ]
        refine WL.val (by kernel_rfl) (.int .i64 6) (by go_simp) ?_
        simp only [Act.put, List.setIfInBounds_toArray, List.set_cons_zero, List.set_cons_succ]
        refine WL.val (by kernel_rfl) (.bool true) (by go_simp) ?_
        simp only [Act.put, List.setIfInBounds_toArray, List.set_cons_zero, List.set_cons_succ]
        refine WL.nil ?_
        refine hK39 _ _ ?_
        refine wp_cond_true rfl ?_
        refine wp_skip ?_
        refine hK38 _ _ ?_
        refine wp_seq_k fun K40 hK40 => ?_
        refine wp_block ?_
        refine wp_region_list (WL.out ?_)
        refine WL.val (by kernel_rfl) (.slice (some ⟨ga14, 0, none⟩) 6 ca) (by go_simp) ?_
        simp only [Act.put, List.setIfInBounds_toArray, List.set_cons_zero, List.set_cons_succ]
        refine WL.val (by kernel_rfl) (.int .i64 (i4 : Int)) (by go_simp) ?_
        simp only [Act.put, List.setIfInBounds_toArray, List.set_cons_zero, List.set_cons_succ]
        refine WL.val (by kernel_rfl) (.pointer (some ⟨ga14, i4, none⟩)) (by go_simp) ?_
        simp only [Act.put, List.setIfInBounds_toArray, List.set_cons_zero, List.set_cons_succ]
        refine WL.val (by kernel_rfl) (.slice pa (lsL gr x i4).length pc) (by go_simp) ?_
        simp only [Act.put, List.setIfInBounds_toArray, List.set_cons_zero, List.set_cons_succ]
        clear cV
        have hsp := spoil_any _ _ y4 OX.out (by have := HLn.out i4 htli4; omega)
        refine WL.callF (by kernel_rfl) 33 _ _ rfl Try.in33 #[.slice pa (lsL gr x i4).length pc] (by simp [Act.eval]) ?_
        refine (hsp).mono ?_
        rintro e ws ⟨⟨rs, rfl⟩, hg⟩
        refine ⟨_, rfl, ?_⟩
        clear hsp
        rw [← EV.out] at hg
        have NG : Keep (Grown x4 ws fun k => ∃ i, i < 6 ∧ (Va i).ownBlock = some k) := ⟨NA.out.next hg fun k _ e => ⟨i4, htli4, e⟩⟩
        have NL : Keep (∀ i, i4 + 1 ≤ i → i < 6 → OwnX ws (Va i) (lsL gr x i).length) := ⟨fun i h1 h2 => by obtain ⟨xs, hx⟩ := NAl.out i (by omega) h2; exact ⟨xs, ownX_grown hx hg fun k hk e => Aa.out i i4 h2 htli4 (by omega) k hk e⟩⟩
        clear hg
        simp only [Act.put, List.setIfInBounds_toArray, List.set_cons_zero, List.set_cons_succ]
        refine WL.nil ?_
        refine hK40 _ _ ?_
        refine wp_region_list (WL.out ?_)
        refine WL.val (by kernel_rfl) (.int .i64 (i4 : Int)) (by go_simp) ?_
        simp only [Act.put, List.setIfInBounds_toArray, List.set_cons_zero, List.set_cons_succ]
        refine WL.val (by kernel_rfl) (.int .i64 ((i4 + 1 : Nat) : Int)) (by go_simp) ?_
        simp only [Act.put, List.setIfInBounds_toArray, List.set_cons_zero, List.set_cons_succ]
        refine WL.val (by kernel_rfl) (.int .i64 ((i4 + 1 : Nat) : Int)) (by go_simp) ?_
        simp only [Act.put, List.setIfInBounds_toArray, List.set_cons_zero, List.set_cons_succ]
        refine WL.nil ?_
        refine ⟨⟨i4 + 1, fun zi => [.int .i64 r, .slice sa S.length sc, .agg (bytesA 32 x.f), undef, undef, .pointer (some ⟨w.heap.size, 0, none⟩), f 6, .pointer (some ⟨d, 0, none⟩), .int .i64 0, .int .i64 (t : Int), f 10, f 11, f 12, f 13, .slice (some ⟨ga14, 0, none⟩) 6 ca, b15, c16, .int .i64 ((i4 + 1 : Nat) : Int), undef, undef, .tuple #[.pointer (some ⟨d, 0, none⟩), .int .i64 0], .int .i64 r, .tuple #[.pointer (some ⟨d, 0, none⟩), .int .i64 0], .pointer (some ⟨d, 0, none⟩), .int .i64 0, .pointer (some ⟨d, 0, none⟩), .bool false, .bool false, .int .i64 0, .bool false, .bool false, undef, undef, undef, undef, undef, undef, undef, undef, undef, undef, undef, undef, .int .i64 (t : Int), .slice sa S.length sc, .int .i64 (S.length : Int), .bool false, f 47, f 48, f 49, f 50, f 51, f 52, f 53, f 54, f 55, f 56, f 57, f 58, f 59, f 60, f 61, f 62, f 63, f 64, f 65, f 66, f 67, f 68, f 69, f 70, f 71, f 72, f 73, f 74, f 75, f 76, f 77, f 78, f 79, f 80, f 81, f 82, f 83, f 84, f 85, f 86, f 87, f 88, f 89, f 90, f 91, f 92, f 93, f 94, f 95, f 96, f 97, f 98, f 99, f 100, f 101, f 102, f 103, f 104, f 105, f 106, f 107, f 108, f 109, f 110, f 111, f 112, f 113, f 114, f 115, f 116, f 117, f 118, f 119, f 120, f 121, f 122, f 123, f 124, f 125, f 126, f 127, f 128, f 129, f 130, f 131, f 132, f 133, .pointer (some ⟨d, 0, none⟩), .agg (bytesA 32 x.f), .slice (some ⟨ga14, 0, none⟩) 6 ca, .pointer (some ⟨d, 0, none⟩), .agg (bytesA 32 x.f), b15, .slice (some ⟨ga14, 0, none⟩) 6 ca, c16, b15, c16, .bool true, .bool false, .int .i64 (i4 : Int), .slice (some ⟨ga14, 0, none⟩) 6 ca, .int .i64 6, .bool true, .int .i64 (i4 : Int), .int .i64 ((i4 + 1 : Nat) : Int), .slice (some ⟨ga14, 0, none⟩) 6 ca, .int .i64 (i4 : Int), .pointer (some ⟨ga14, i4, none⟩), .slice pa (lsL gr x i4).length pc, rs, undef, undef, undef, undef, undef, undef, undef, undef, undef, undef, undef, undef, undef, undef, undef, undef, undef, undef, undef, undef, undef, undef, undef, undef, undef, undef, undef, undef, undef, undef, undef, undef, undef, undef, undef].getD zi undef, rfl, by omega, NG.out, NL.out⟩, ?_⟩
        simp only [intOf]; show 6 - (((i4 + 1 : Nat) : Int)).toNat < 6 - ((i4 : Int)).toNat; omega
      · have htl' : ¬ (i4 : Int) < 6 := by omega
        refine wp_seq_k fun K41 hK41 => ?_
        refine wp_seq_k fun K42 hK42 => ?_
        refine wp_region_list (WL.out ?_)
        refine WL.val (by kernel_rfl) (.int .i64 (i4 : Int)) (by go_simp) ?_
        simp only [Act.put, List.setIfInBounds_toArray, List.set_cons_zero, List.set_cons_succ]
        refine WL.val (by kernel_rfl) (.slice (some ⟨ga14, 0, none⟩) 6 ca) (by go_simp) ?_
        simp only [Act.put, List.setIfInBounds_toArray, List.set_cons_zero, List.set_cons_succ]
        refine WL.val (by kernel_rfl) (.int .i64 6) (by go_simp) ?_
        simp only [Act.put, List.setIfInBounds_toArray, List.set_cons_zero, List.set_cons_succ]
        refine WL.val (by kernel_rfl) (.bool false) (by go_simp) ?_
        simp only [Act.put, List.setIfInBounds_toArray, List.set_cons_zero, List.set_cons_succ]
        refine WL.nil ?_
        refine hK42 _ _ ?_
        refine wp_cond_false rfl ?_
        refine wp_exit ?_
        refine hK36 _ _ ?_
        refine wp_seq_k fun K43 hK43 => ?_
        refine wp_seq_k fun K44 hK44 => ?_
        refine wp_region_list (WL.out ?_)
        refine WL.val (by kernel_rfl) (b15) (by go_simp) ?_
        simp only [Act.put, List.setIfInBounds_toArray, List.set_cons_zero, List.set_cons_succ]
        refine WL.val (by kernel_rfl) (c16) (by go_simp) ?_
        simp only [Act.put, List.setIfInBounds_toArray, List.set_cons_zero, List.set_cons_succ]
        have QA : Keep (Below wr.heap.size wr y4) := ⟨Q4.out.trans (NA.out.to_below (fun k hk ⟨i, hi, e⟩ => by have := La4.out.new i hi k e; omega) Q4.out.size)⟩
        have Lb5 := Keep.mk (Lb4.out.grown NA.out (fun ⟨i, hi, e⟩ => by have h1 := Lb4.out.lo; have h2 := La.out.lt.2 i hi _ e; omega) (fun j hj k hk ⟨i, hi, e⟩ => by have h1 := Lb4.out.new j hj k hk; have h2 := La.out.lt.2 i hi k e; omega))
        have Lc5 := Keep.mk (Lc4.out.grown NA.out (fun ⟨i, hi, e⟩ => by have h1 := Lc4.out.lo; have h2 := La.out.lt.2 i hi _ e; have := S12.out; omega) (fun j hj k hk ⟨i, hi, e⟩ => by have h1 := Lc4.out.new j hj k hk; have h2 := La.out.lt.2 i hi k e; have := S12.out; omega))
        have HX7 := Keep.mk (NA.out.blk HX6.out fun ⟨i, hi, e⟩ => by have h1 := La4.out.new i hi _ e; have := HX2.out.lt; omega)
        have hsl := sameLs_any _ _ b15 c16 _ _ _ _ (lsL gr x) (lsL gr x) y4 Lb5.out Lc5.out (fun _ _ => rfl) HLn.out
        refine WL.callF (by kernel_rfl) 32 _ _ rfl Try.in32 #[b15, c16] (by simp [Act.eval]) ?_
        refine (hsl).mono ?_
        rintro e x5 ⟨rfl, hb⟩
        refine ⟨_, rfl, ?_⟩
        clear hsl
        have Q5 := Keep.mk (belowT QA.out hb)
        have S45 : Keep (y4.heap.size ≤ x5.heap.size) := ⟨hb.size⟩
        have Lb6 := Keep.mk (Lb5.out.below hb)
        have Lc6 := Keep.mk (Lc5.out.below hb)
        have HX8 := Keep.mk (HX7.out.below hb HX7.out.lt)
        clear hb
        simp only [Act.put, List.setIfInBounds_toArray, List.set_cons_zero, List.set_cons_succ]
        refine WL.val (by kernel_rfl) (.bool false) (by go_simp) ?_
        simp only [Act.put, List.setIfInBounds_toArray, List.set_cons_zero, List.set_cons_succ]
        refine WL.nil ?_
        refine hK44 _ _ ?_
        refine wp_cond_false rfl ?_
        refine wp_skip ?_
        refine hK43 _ _ ?_
        refine wp_seq_k fun K45 hK45 => ?_
        refine wp_region_list (WL.out ?_)
        refine WL.val (by kernel_rfl) (.pointer (some ⟨d, 0, none⟩)) (by go_simp) ?_
        simp only [Act.put, List.setIfInBounds_toArray, List.set_cons_zero, List.set_cons_succ]
        refine WL.row (by kernel_rfl) 36 (.tmp 5) rfl w.heap.size rfl 36 (bytesA 32 x.f) _ HX8.out Try.underlying36 rfl (Try.size36B _) ?_
        simp only [Act.put, List.setIfInBounds_toArray, List.set_cons_zero, List.set_cons_succ]
        have hls := lists_any w1.heap.size d x gr x5 (JD.out.below Q5.out)
        refine WL.callF (by kernel_rfl) 30 _ _ rfl Try.in30 #[ptr d, .agg (bytesA 32 x.f)] (by simp [Act.eval]) ?_
        refine (hls).mono ?_
        rintro e x6 ⟨c18, gc18, Vd, rfl, hl, ha, hb⟩
        refine ⟨_, rfl, ?_⟩
        clear hls
        have Ld := Keep.mk hl
        have Ad := Keep.mk ha
        have Q6 := Keep.mk (belowT Q5.out hb)
        have Lb7 := Keep.mk (Lb6.out.below hb)
        have Lc7 := Keep.mk (Lc6.out.below hb)
        have HX9 := Keep.mk (HX8.out.below hb HX8.out.lt)
        clear hl ha hb
        simp only [Act.put, List.setIfInBounds_toArray, List.set_cons_zero, List.set_cons_succ]
        refine WL.val (by kernel_rfl) (c18) (by go_simp) ?_
        simp only [Act.put, List.setIfInBounds_toArray, List.set_cons_zero, List.set_cons_succ]
        refine WL.nil ?_
        refine hK45 _ _ ?_
        refine wp_seq_k fun K46 hK46 => ?_
        refine wp_seq_k fun K47 hK47 => ?_
        refine wp_region_list (WL.out ?_)
        refine WL.val (by kernel_rfl) (.int .i64 0) (by go_simp) ?_
        simp only [Act.put, List.setIfInBounds_toArray, List.set_cons_zero, List.set_cons_succ]
        refine WL.nil ?_
        refine hK47 _ _ ?_
        refine wp_block ?_
        obtain ⟨cb, ecb⟩ := Lb7.out.eq
        have ECb := Keep.mk ecb
        clear ecb
        rw [ECb.out]
        refine wp_loop (fun ac y6 => ∃ (i6 : Nat) (f6 : Nat → Value), ac = { tmps := #[.int .i64 r, .slice sa S.length sc, .agg (bytesA 32 x.f), undef, undef, .pointer (some ⟨w.heap.size, 0, none⟩), f 6, .pointer (some ⟨d, 0, none⟩), .int .i64 0, .int .i64 (t : Int), f 10, f 11, f 12, f 13, .slice (some ⟨ga14, 0, none⟩) 6 ca, .slice (some ⟨gb15, 0, none⟩) 6 cb, c16, .int .i64 (i4 : Int), c18, .int .i64 (i6 : Int), .tuple #[.pointer (some ⟨d, 0, none⟩), .int .i64 0], .int .i64 r, .tuple #[.pointer (some ⟨d, 0, none⟩), .int .i64 0], .pointer (some ⟨d, 0, none⟩), .int .i64 0, .pointer (some ⟨d, 0, none⟩), .bool false, .bool false, .int .i64 0, .bool false, .bool false, undef, undef, undef, undef, undef, undef, undef, undef, undef, undef, undef, undef, .int .i64 (t : Int), .slice sa S.length sc, .int .i64 (S.length : Int), .bool false, f 47, f 48, f 49, f 50, f 51, f 52, f 53, f 54, f 55, f 56, f 57, f 58, f 59, f 60, f 61, f 62, f 63, f 64, f 65, f 66, f 67, f 68, f 69, f 70, f 71, f 72, f 73, f 74, f 75, f 76, f 77, f 78, f 79, f 80, f 81, f 82, f 83, f 84, f 85, f 86, f 87, f 88, f 89, f 90, f 91, f 92, f 93, f 94, f 95, f 96, f 97, f 98, f 99, f 100, f 101, f 102, f 103, f 104, f 105, f 106, f 107, f 108, f 109, f 110, f 111, f 112, f 113, f 114, f 115, f 116, f 117, f 118, f 119, f 120, f 121, f 122, f 123, f 124, f 125, f 126, f 127, f 128, f 129, f 130, f 131, f 132, f 133, .pointer (some ⟨d, 0, none⟩), .agg (bytesA 32 x.f), .slice (some ⟨ga14, 0, none⟩) 6 ca, .pointer (some ⟨d, 0, none⟩), .agg (bytesA 32 x.f), .slice (some ⟨gb15, 0, none⟩) 6 cb, .slice (some ⟨ga14, 0, none⟩) 6 ca, c16, .slice (some ⟨gb15, 0, none⟩) 6 cb, c16, .bool true, .bool false, .int .i64 (i4 : Int), .slice (some ⟨ga14, 0, none⟩) 6 ca, .int .i64 6, .bool false, f4 150, f4 151, f4 152, f4 153, f4 154, f4 155, f4 156, .slice (some ⟨gb15, 0, none⟩) 6 cb, c16, .bool true, .bool false, .pointer (some ⟨d, 0, none⟩), .agg (bytesA 32 x.f), c18, f6 164, f6 165, f6 166, f6 167, f6 168, f6 169, f6 170, f6 171, f6 172, f6 173, f6 174, undef, undef, undef, undef, undef, undef, undef, undef, undef, undef, undef, undef, undef, undef, undef, undef, undef], defers := [] } ∧ i6 ≤ 6 ∧ (Grown x6 y6 fun k => ∃ i, i < 6 ∧ (Vb i).ownBlock = some k) ∧ (∀ i, i6 ≤ i → i < 6 → OwnX y6 (Vb i) (lsL gr x i).length)) (fun a _ => 6 - (intOf (a.tmps.getD 19 undef)).toNat) ⟨0, fun zi => [.int .i64 r, .slice sa S.length sc, .agg (bytesA 32 x.f), undef, undef, .pointer (some ⟨w.heap.size, 0, none⟩), f 6, .pointer (some ⟨d, 0, none⟩), .int .i64 0, .int .i64 (t : Int), f 10, f 11, f 12, f 13, .slice (some ⟨ga14, 0, none⟩) 6 ca, .slice (some ⟨gb15, 0, none⟩) 6 cb, c16, .int .i64 (i4 : Int), c18, .int .i64 0, .tuple #[.pointer (some ⟨d, 0, none⟩), .int .i64 0], .int .i64 r, .tuple #[.pointer (some ⟨d, 0, none⟩), .int .i64 0], .pointer (some ⟨d, 0, none⟩), .int .i64 0, .pointer (some ⟨d, 0, none⟩), .bool false, .bool false, .int .i64 0, .bool false, .bool false, undef, undef, undef, undef, undef, undef, undef, undef, undef, undef, undef, undef, .int .i64 (t : Int), .slice sa S.length sc, .int .i64 (S.length : Int), .bool false, f 47, f 48, f 49, f 50, f 51, f 52, f 53, f 54, f 55, f 56, f 57, f 58, f 59, f 60, f 61, f 62, f 63, f 64, f 65, f 66, f 67, f 68, f 69, f 70, f 71, f 72, f 73, f 74, f 75, f 76, f 77, f 78, f 79, f 80, f 81, f 82, f 83, f 84, f 85, f 86, f 87, f 88, f 89, f 90, f 91, f 92, f 93, f 94, f 95, f 96, f 97, f 98, f 99, f 100, f 101, f 102, f 103, f 104, f 105, f 106, f 107, f 108, f 109, f 110, f 111, f 112, f 113, f 114, f 115, f 116, f 117, f 118, f 119, f 120, f 121, f 122, f 123, f 124, f 125, f 126, f 127, f 128, f 129, f 130, f 131, f 132, f 133, .pointer (some ⟨d, 0, none⟩), .agg (bytesA 32 x.f), .slice (some ⟨ga14, 0, none⟩) 6 ca, .pointer (some ⟨d, 0, none⟩), .agg (bytesA 32 x.f), .slice (some ⟨gb15, 0, none⟩) 6 cb, .slice (some ⟨ga14, 0, none⟩) 6 ca, c16, .slice (some ⟨gb15, 0, none⟩) 6 cb, c16, .bool true, .bool false, .int .i64 (i4 : Int), .slice (some ⟨ga14, 0, none⟩) 6 ca, .int .i64 6, .bool false, f4 150, f4 151, f4 152, f4 153, f4 154, f4 155, f4 156, .slice (some ⟨gb15, 0, none⟩) 6 cb, c16, .bool true, .bool false, .pointer (some ⟨d, 0, none⟩), .agg (bytesA 32 x.f), c18, undef, undef, undef, undef, undef, undef, undef, undef, undef, undef, undef, undef, undef, undef, undef, undef, undef, undef, undef, undef, undef, undef, undef, undef, undef, undef, undef, undef].getD zi undef, rfl, by omega, Grown.refl _ _, (fun i _ hi => (Lb7.out.own i hi).x)⟩ ?_
        rintro ac y6 ⟨i6, f6, rfl, hi, hG, hl⟩
        have NB := Keep.mk hG
        have NBl := Keep.mk hl
        clear hG hl
        by_cases htli6 : i6 < 6
        · have htl' : (i6 : Int) < 6 := by omega
          have hwt : IntKind.i64.wrap ((i6 : Int) + 1) = ((i6 + 1 : Nat) : Int) := by rw [IntKind.wrap_i64]; omega
          obtain ⟨pa, pc, eV⟩ := (Lb7.out.own i6 htli6).sl
          have hoX : OwnX y6 (Vb i6) (lsL gr x i6).length := NBl.out i6 (Nat.le_refl _) htli6
          rw [eV] at hoX
          have cV : y6.cell? ⟨gb15, i6, none⟩ = some (.slice pa (lsL gr x i6).length pc) := by rw [← eV]; exact cell_grown (Lb7.out.cell i6 htli6) NB.out (fun ⟨i, hi, e⟩ => Lb7.out.ne i hi _ e rfl)
          have OX := Keep.mk hoX
          have EV := Keep.mk eV
          clear hoX eV
          refine wp_seq_k fun K48 hK48 => ?_
          refine wp_seq_k fun K49 hK49 => ?_
          refine wp_region_list (WL.out ?_)
          refine WL.val (by kernel_rfl) (.int .i64 (i6 : Int)) (by go_simp) ?_
          simp only [Act.put, List.setIfInBounds_toArray, List.set_cons_zero, List.set_cons_succ]
          refine WL.val (by kernel_rfl) (.slice (some ⟨gb15, 0, none⟩) 6 cb) (by go_simp) ?_
          simp only [Act.put, List.setIfInBounds_toArray, List.set_cons_zero, List.set_cons_succ]
          refine WL.val (by kernel_rfl) (.int .i64 6) (by go_simp) ?_
          simp only [Act.put, List.setIfInBounds_toArray, List.set_cons_zero, List.set_cons_succ]
          refine WL.val (by kernel_rfl) (.bool true) (by go_simp) ?_
          simp only [Act.put, List.setIfInBounds_toArray, List.set_cons_zero, List.set_cons_succ]
          refine WL.nil ?_
          refine hK49 _ _ ?_
          refine wp_cond_true rfl ?_
          refine wp_skip ?_
          refine hK48 _ _ ?_
          refine wp_seq_k fun K50 hK50 => ?_
          refine wp_block ?_
          refine wp_region_list (WL.out ?_)
          refine WL.val (by kernel_rfl) (.slice (some ⟨gb15, 0, none⟩) 6 cb) (by go_simp) ?_
          simp only [Act.put, List.setIfInBounds_toArray, List.set_cons_zero, List.set_cons_succ]
          refine WL.val (by kernel_rfl) (.int .i64 (i6 : Int)) (by go_simp) ?_
          simp only [Act.put, List.setIfInBounds_toArray, List.set_cons_zero, List.set_cons_succ]
          refine WL.val (by kernel_rfl) (.pointer (some ⟨gb15, i6, none⟩)) (by go_simp) ?_
          simp only [Act.put, List.setIfInBounds_toArray, List.set_cons_zero, List.set_cons_succ]
          refine WL.val (by kernel_rfl) (.slice pa (lsL gr x i6).length pc) (by go_simp) ?_
          simp only [Act.put, List.setIfInBounds_toArray, List.set_cons_zero, List.set_cons_succ]
          clear cV
          have hsp := spoil_any _ _ y6 OX.out (by have := HLn.out i6 htli6; omega)
          refine WL.callF (by kernel_rfl) 33 _ _ rfl Try.in33 #[.slice pa (lsL gr x i6).length pc] (by simp [Act.eval]) ?_
          refine (hsp).mono ?_
          rintro e ws ⟨⟨rs, rfl⟩, hg⟩
          refine ⟨_, rfl, ?_⟩
          clear hsp
          rw [← EV.out] at hg
          have NG : Keep (Grown x6 ws fun k => ∃ i, i < 6 ∧ (Vb i).ownBlock = some k) := ⟨NB.out.next hg fun k _ e => ⟨i6, htli6, e⟩⟩
          have NL : Keep (∀ i, i6 + 1 ≤ i → i < 6 → OwnX ws (Vb i) (lsL gr x i).length) := ⟨fun i h1 h2 => by obtain ⟨xs, hx⟩ := NBl.out i (by omega) h2; exact ⟨xs, ownX_grown hx hg fun k hk e => Ab.out i i6 h2 htli6 (by omega) k hk e⟩⟩
          clear hg
          simp only [Act.put, List.setIfInBounds_toArray, List.set_cons_zero, List.set_cons_succ]
          refine WL.nil ?_
          refine hK50 _ _ ?_
          refine wp_region_list (WL.out ?_)
          refine WL.val (by kernel_rfl) (.int .i64 (i6 : Int)) (by go_simp) ?_
          simp only [Act.put, List.setIfInBounds_toArray, List.set_cons_zero, List.set_cons_succ]
          refine WL.val (by kernel_rfl) (.int .i64 ((i6 + 1 : Nat) : Int)) (by go_simp) ?_
          simp only [Act.put, List.setIfInBounds_toArray, List.set_cons_zero, List.set_cons_succ]
          refine WL.val (by kernel_rfl) (.int .i64 ((i6 + 1 : Nat) : Int)) (by go_simp) ?_
          simp only [Act.put, List.setIfInBounds_toArray, List.set_cons_zero, List.set_cons_succ]
          refine WL.nil ?_
          refine ⟨⟨i6 + 1, fun zi => [.int .i64 r, .slice sa S.length sc, .agg (bytesA 32 x.f), undef, undef, .pointer (some ⟨w.heap.size, 0, none⟩), f 6, .pointer (some ⟨d, 0, none⟩), .int .i64 0, .int .i64 (t : Int), f 10, f 11, f 12, f 13, .slice (some ⟨ga14, 0, none⟩) 6 ca, .slice (some ⟨gb15, 0, none⟩) 6 cb, c16, .int .i64 (i4 : Int), c18, .int .i64 ((i6 + 1 : Nat) : Int), .tuple #[.pointer (some ⟨d, 0, none⟩), .int .i64 0], .int .i64 r, .tuple #[.pointer (some ⟨d, 0, none⟩), .int .i64 0], .pointer (some ⟨d, 0, none⟩), .int .i64 0, .pointer (some ⟨d, 0, none⟩), .bool false, .bool false, .int .i64 0, .bool false, .bool false, undef, undef, undef, undef, undef, undef, undef, undef, undef, undef, undef, undef, .int .i64 (t : Int), .slice sa S.length sc, .int .i64 (S.length : Int), .bool false, f 47, f 48, f 49, f 50, f 51, f 52, f 53, f 54, f 55, f 56, f 57, f 58, f 59, f 60, f 61, f 62, f 63, f 64, f 65, f 66, f 67, f 68, f 69, f 70, f 71, f 72, f 73, f 74, f 75, f 76, f 77, f 78, f 79, f 80, f 81, f 82, f 83, f 84, f 85, f 86, f 87, f 88, f 89, f 90, f 91, f 92, f 93, f 94, f 95, f 96, f 97, f 98, f 99, f 100, f 101, f 102, f 103, f 104, f 105, f 106, f 107, f 108, f 109, f 110, f 111, f 112, f 113, f 114, f 115, f 116, f 117, f 118, f 119, f 120, f 121, f 122, f 123, f 124, f 125, f 126, f 127, f 128, f 129, f 130, f 131, f 132, f 133, .pointer (some ⟨d, 0, none⟩), .agg (bytesA 32 x.f), .slice (some ⟨ga14, 0, none⟩) 6 ca, .pointer (some ⟨d, 0, none⟩), .agg (bytesA 32 x.f), .slice (some ⟨gb15, 0, none⟩) 6 cb, .slice (some ⟨ga14, 0, none⟩) 6 ca, c16, .slice (some ⟨gb15, 0, none⟩) 6 cb, c16, .bool true, .bool false, .int .i64 (i4 : Int), .slice (some ⟨ga14, 0, none⟩) 6 ca, .int .i64 6, .bool false, f4 150, f4 151, f4 152, f4 153, f4 154, f4 155, f4 156, .slice (some ⟨gb15, 0, none⟩) 6 cb, c16, .bool true, .bool false, .pointer (some ⟨d, 0, none⟩), .agg (bytesA 32 x.f), c18, .int .i64 (i6 : Int), .slice (some ⟨gb15, 0, none⟩) 6 cb, .int .i64 6, .bool true, .int .i64 (i6 : Int), .int .i64 ((i6 + 1 : Nat) : Int), .slice (some ⟨gb15, 0, none⟩) 6 cb, .int .i64 (i6 : Int), .pointer (some ⟨gb15, i6, none⟩), .slice pa (lsL gr x i6).length pc, rs, undef, undef, undef, undef, undef, undef, undef, undef, undef, undef, undef, undef, undef, undef, undef, undef, undef].getD zi undef, rfl, by omega, NG.out, NL.out⟩, ?_⟩
          simp only [intOf]; show 6 - (((i6 + 1 : Nat) : Int)).toNat < 6 - ((i6 : Int)).toNat; omega
        · have htl' : ¬ (i6 : Int) < 6 := by omega
          refine wp_seq_k fun K51 hK51 => ?_
          refine wp_seq_k fun K52 hK52 => ?_
          refine wp_region_list (WL.out ?_)
          refine WL.val (by kernel_rfl) (.int .i64 (i6 : Int)) (by go_simp) ?_
          simp only [Act.put, List.setIfInBounds_toArray, List.set_cons_zero, List.set_cons_succ]
          refine WL.val (by kernel_rfl) (.slice (some ⟨gb15, 0, none⟩) 6 cb) (by go_simp) ?_
          simp only [Act.put, List.setIfInBounds_toArray, List.set_cons_zero, List.set_cons_succ]
          refine WL.val (by kernel_rfl) (.int .i64 6) (by go_simp) ?_
          simp only [Act.put, List.setIfInBounds_toArray, List.set_cons_zero, List.set_cons_succ]
          refine WL.val (by kernel_rfl) (.bool false) (by go_simp) ?_
          simp only [Act.put, List.setIfInBounds_toArray, List.set_cons_zero, List.set_cons_succ]
          refine WL.nil ?_
          refine hK52 _ _ ?_
          refine wp_cond_false rfl ?_
          refine wp_exit ?_
          refine hK46 _ _ ?_
          refine wp_seq_k fun K53 hK53 => ?_
          refine wp_region_list (WL.out ?_)
          refine WL.val (by kernel_rfl) (c18) (by go_simp) ?_
          simp only [Act.put, List.setIfInBounds_toArray, List.set_cons_zero, List.set_cons_succ]
          refine WL.val (by kernel_rfl) (c16) (by go_simp) ?_
          simp only [Act.put, List.setIfInBounds_toArray, List.set_cons_zero, List.set_cons_succ]
          have QB : Keep (Below wr.heap.size wr y6) := ⟨Q6.out.trans (NB.out.to_below (fun k hk ⟨i, hi, e⟩ => by have h := Lb7.out.new i hi k e; have := Q1.out.size; omega) Q6.out.size)⟩
          have S4 : Keep (x2.heap.size ≤ x5.heap.size) := ⟨by have h1 := S23.out; have h2 := S34.out; have h3 := NA.out.size; have h4 := S45.out; omega⟩
          have Ld8 := Keep.mk (Ld.out.grown NB.out (fun ⟨i, hi, e⟩ => by have h1 := Ld.out.lo; have h2 := Lb.out.lt.2 i hi _ e; have := S4.out; omega) (fun j hj k hk ⟨i, hi, e⟩ => by have h1 := Ld.out.new j hj k hk; have h2 := Lb.out.lt.2 i hi k e; have := S4.out; omega))
          have Lc8 := Keep.mk (Lc7.out.grown NB.out (fun ⟨i, hi, e⟩ => by have h1 := Lc7.out.lo; have h2 := Lb.out.lt.2 i hi _ e; omega) (fun j hj k hk ⟨i, hi, e⟩ => by have h1 := Lc7.out.new j hj k hk; have h2 := Lb.out.lt.2 i hi k e; omega))
          have HX10 := Keep.mk (NB.out.blk HX9.out fun ⟨i, hi, e⟩ => by have h1 := Lb7.out.new i hi _ e; have := HX3.out.lt; omega)
          have hsl := sameLs_any _ _ c18 c16 _ _ _ _ (lsL gr x) (lsL gr x) y6 Ld8.out Lc8.out (fun _ _ => rfl) HLn.out
          refine WL.callF (by kernel_rfl) 32 _ _ rfl Try.in32 #[c18, c16] (by simp [Act.eval]) ?_
          refine (hsl).mono ?_
          rintro e x7 ⟨rfl, hb⟩
          refine ⟨_, rfl, ?_⟩
          clear hsl
          have Q7 := Keep.mk (belowT QB.out hb)
          have Ld9 := Keep.mk (Ld8.out.below hb)
          have Lc9 := Keep.mk (Lc8.out.below hb)
          have HX11 := Keep.mk (HX10.out.below hb HX10.out.lt)
          clear hb
          simp only [Act.put, List.setIfInBounds_toArray, List.set_cons_zero, List.set_cons_succ]
          refine WL.val (by kernel_rfl) (.bool true) (by go_simp) ?_
          simp only [Act.put, List.setIfInBounds_toArray, List.set_cons_zero, List.set_cons_succ]
          refine WL.val (by kernel_rfl) (c18) (by go_simp) ?_
          simp only [Act.put, List.setIfInBounds_toArray, List.set_cons_zero, List.set_cons_succ]
          have hap := apart_any _ c18 gc18 Vd (lsL gr x) x7 Ld9.out Ad.out HLn.out
          refine WL.callF (by kernel_rfl) 34 _ _ rfl Try.in34 #[c18] (by simp [Act.eval]) ?_
          refine (hap).mono ?_
          rintro e x8 ⟨rfl, hg⟩
          refine ⟨_, rfl, ?_⟩
          clear hap
          have Q8 : Keep (Below wr.heap.size wr x8) := ⟨Q7.out.trans (hg.to_below (fun k hk ⟨i, hi, e⟩ => by have h := Ld9.out.new i hi k e; have := Q5.out.size; omega) Q7.out.size)⟩
          have Lc10 := Keep.mk (Lc9.out.grown hg (fun ⟨i, hi, e⟩ => by have h1 := Ld9.out.new i hi _ e; have h2 := Lc6.out.lt.1; omega) (fun j hj k hk ⟨i, hi, e⟩ => by have h1 := Ld9.out.new i hi k e; have h2 := Lc6.out.lt.2 j hj k hk; omega))
          have HX12 := Keep.mk (hg.blk HX11.out fun ⟨i, hi, e⟩ => by have h1 := Ld9.out.new i hi _ e; have := HX8.out.lt; omega)
          clear hg
          simp only [Act.put, List.setIfInBounds_toArray, List.set_cons_zero, List.set_cons_succ]
          refine WL.val (by kernel_rfl) (.bool true) (by go_simp) ?_
          simp only [Act.put, List.setIfInBounds_toArray, List.set_cons_zero, List.set_cons_succ]
          refine WL.val (by kernel_rfl) (.bool true) (by go_simp) ?_
          simp only [Act.put, List.setIfInBounds_toArray, List.set_cons_zero, List.set_cons_succ]
          refine WL.val (by kernel_rfl) (.pointer (some ⟨d, 0, none⟩)) (by go_simp) ?_
          simp only [Act.put, List.setIfInBounds_toArray, List.set_cons_zero, List.set_cons_succ]
          refine WL.row (by kernel_rfl) 36 (.tmp 5) rfl w.heap.size rfl 36 (bytesA 32 x.f) _ HX12.out Try.underlying36 rfl (Try.size36B _) ?_
          simp only [Act.put, List.setIfInBounds_toArray, List.set_cons_zero, List.set_cons_succ]
          have hls := lists_any w1.heap.size d x gr x8 (JD.out.below Q8.out)
          refine WL.callF (by kernel_rfl) 30 _ _ rfl Try.in30 #[ptr d, .agg (bytesA 32 x.f)] (by simp [Act.eval]) ?_
          refine (hls).mono ?_
          rintro e x9 ⟨e185, ge185, Ve, rfl, hl, ha, hb⟩
          refine ⟨_, rfl, ?_⟩
          clear hls
          have Le := Keep.mk hl
          have Ae := Keep.mk ha
          have Q9 := Keep.mk (belowT Q8.out hb)
          have Lc11 := Keep.mk (Lc10.out.below hb)
          clear hl ha hb
          simp only [Act.put, List.setIfInBounds_toArray, List.set_cons_zero, List.set_cons_succ]
          refine WL.val (by kernel_rfl) (c16) (by go_simp) ?_
          simp only [Act.put, List.setIfInBounds_toArray, List.set_cons_zero, List.set_cons_succ]
          have hsl := sameLs_any _ _ e185 c16 _ _ _ _ (lsL gr x) (lsL gr x) x9 Le.out Lc11.out (fun _ _ => rfl) HLn.out
          refine WL.callF (by kernel_rfl) 32 _ _ rfl Try.in32 #[e185, c16] (by simp [Act.eval]) ?_
          refine (hsl).mono ?_
          rintro e x10 ⟨rfl, hb⟩
          refine ⟨_, rfl, ?_⟩
          clear hsl
          have Q10 := Keep.mk (belowT Q9.out hb)
          skip
          clear hb
          simp only [Act.put, List.setIfInBounds_toArray, List.set_cons_zero, List.set_cons_succ]
          refine WL.val (by kernel_rfl) (.bool true) (by go_simp) ?_
          simp only [Act.put, List.setIfInBounds_toArray, List.set_cons_zero, List.set_cons_succ]
          refine WL.val (by kernel_rfl) (.bool true) (by go_simp) ?_
          simp only [Act.put, List.setIfInBounds_toArray, List.set_cons_zero, List.set_cons_succ]
          refine WL.callF (by kernel_rfl) 9 _ _ rfl Try.in9 #[] (by simp) ?_
          refine (fixed_any x10).mono ?_
          rintro e x11 ⟨rfl, hz⟩
          refine ⟨_, rfl, ?_⟩
          have Q11 := Keep.mk (belowT Q10.out hz)
          clear hz
          simp only [Act.put, List.setIfInBounds_toArray, List.set_cons_zero, List.set_cons_succ]
          refine WL.val (by kernel_rfl) (.bool true) (by go_simp) ?_
          simp only [Act.put, List.setIfInBounds_toArray, List.set_cons_zero, List.set_cons_succ]
          refine WL.val (by kernel_rfl) (.bool true) (by go_simp) ?_
          simp only [Act.put, List.setIfInBounds_toArray, List.set_cons_zero, List.set_cons_succ]
          refine WL.nil ?_
          refine hK53 _ _ ?_
          refine wp_ret ?_
          go_ret
          exact ⟨rfl, belowT LB1.out (belowT JB.out Q11.out)⟩
end Go.Proofs.Ytogmdfhicbmplaa
namespace Go.Proofs.Ytogmdfhicbmplaa
open Go.RowKit
set_option linter.unusedSimpArgs false
set_option linter.unusedVariables false

/-! ### Lists of vertices that the statement owns. -/
theorem VRow.take {w : World} {a : Option Addr} {c : Nat} {L : List VP} (h : VRow w (.slice a L.length c) L) (n : Nat) (hn : n ≤ L.length) : VRow w (.slice a n c) (L.take n) ∧ n ≤ c := by
  have hl : (L.take n).length = n := by rw [List.length_take]; omega
  rcases h.1 with ⟨a', c', e, rfl⟩ | ⟨b, off, c', e, h1, h2⟩
  · have : n = 0 := by simpa using hn
    subst this
    exact ⟨⟨.inl ⟨a, c, rfl, rfl⟩, by simp⟩, Nat.zero_le _⟩
  · injection e with e1 e2 e3
    subst e1 e3
    refine ⟨⟨.inr ⟨b, off, c, by rw [hl], by omega, fun j v hv => ?_⟩, fun q hq => h.2 q (List.mem_of_mem_take hq)⟩, by omega⟩
    rw [← flat_take encV_len, List.getElem?_take] at hv
    split at hv
    · exact h2 j v hv
    · cases hv
def OwnV (w : World) (B : Nat) (v : Value) (L : List VP) : Prop := w.ownsRow B 39 34 v L.length (L.flatMap encV)
theorem OwnV.form {w : World} {B : Nat} {v : Value} {L : List VP} (h : OwnV w B v L) : ∃ a c, v = .slice a L.length c ∧ (L.length = 0 → c = 0 ∨ True) := by
  rcases h.2 with ⟨rfl, e⟩ | ⟨g, cap, cur, rfl, _⟩
  · exact ⟨none, 0, by rw [e], fun _ => .inr trivial⟩
  · exact ⟨_, cap, rfl, fun _ => .inr trivial⟩
theorem OwnV.at {w : World} {B : Nat} {a : Option Addr} {n c : Nat} {L : List VP} (h : OwnV w B (.slice a n c) L) (hL : 0 < L.length) : ∃ g cur, a = some ⟨g, 0, none⟩ ∧ n = L.length ∧ B ≤ g ∧ Blk w g 39 cur ∧ L.length ≤ c ∧ c ≤ maxLen ∧ cur.size = c * 34 ∧ cur.toList.take (L.length * 34) = L.flatMap encV := by
  rcases h.2 with ⟨e, h0⟩ | ⟨g, cap, cur, e, h1, h2, h3, h4, h5, h6⟩
  · omega
  · injection e with e1 e2 e3
    subst e1 e3
    exact ⟨g, cur, rfl, e2, h1, h2, h3, h4, h5, h6⟩
theorem ownV_rng {w : World} {g : Nat} {cur : Array Value} {L : List VP} (hb : Blk w g 39 cur) (ht : cur.toList.take (L.length * 34) = L.flatMap encV) : w.rangeAt g 0 (L.flatMap encV) := fun j v hj => by
  rw [← ht] at hj
  rw [Nat.zero_add, hb.cell, ← Array.getElem?_toList]
  rw [List.getElem?_take] at hj
  split at hj
  · exact hj
  · cases hj
theorem OwnV.row {w : World} {B : Nat} {v : Value} {L : List VP} (h : OwnV w B v L) (hq : ∀ q ∈ L, HRow w q.2 q.1.ps ∧ q.1.ps.length ≤ 4398046511104) : VRow w v L := by
  refine ⟨?_, hq⟩
  rcases h.2 with ⟨rfl, e⟩ | ⟨g, cap, cur, rfl, h1, h2, h3, h4, h5, h6⟩
  · exact .inl ⟨none, 0, rfl, List.eq_nil_of_length_eq_zero e⟩
  · exact .inr ⟨g, 0, cap, rfl, h3, ownV_rng h2 h6⟩
theorem OwnV.set {w : World} {B g c : Nat} {L : List VP} {cur : Array Value} {i : Nat} {q : VP} (hB : B ≤ g) (hb : Blk w g 39 cur) (h3 : L.length ≤ c) (h4 : c ≤ maxLen) (h5 : cur.size = c * 34) (h6 : cur.toList.take (L.length * 34) = L.flatMap encV) (hi : i < L.length) (vv : Array Value) (hvv : vv.toList = encV q) :
    OwnV (w.setRow g (cur.toList.take (i * 34) ++ vv.toList ++ cur.toList.drop (i * 34 + vv.size)).toArray) B (.slice (some ⟨g, 0, none⟩) L.length c) (L.set i q) := by
  have hvs : vv.size = 34 := by rw [← Array.length_toList, hvv, encV_len]
  refine ⟨by rw [flat_len encV_len, List.length_set], .inr ⟨g, c, _, by rw [List.length_set], hB, hb.setRow _, by rw [List.length_set]; exact h3, h4, ?_, ?_⟩⟩
  · simp only [List.size_toArray, List.length_append, List.length_take, List.length_drop, Array.length_toList, hvs]
    omega
  · rw [List.length_set, hvs, ← flat_set encV_len L i q hi, ← h6, hvv]
    have h7 : cur.toList.length = cur.size := Array.length_toList
    have := take_mid cur.toList (encV q) (i * 34) 34 (L.length * 34) (encV_len q) (by omega) (by omega)
    exact this
/-! ### Rows of ints. -/
def IRow (w : World) (v : Value) (S : List Int) : Prop := (∃ a c, v = .slice a 0 c ∧ S = []) ∨ ∃ b off c, v = .slice (some ⟨b, off, none⟩) S.length c ∧ ∀ i (hi : i < S.length), w.cell? ⟨b, off + i, none⟩ = some (.int .i64 S[i])
theorem IRow.form {w : World} {v : Value} {S : List Int} (h : IRow w v S) : ∃ a c, v = .slice a S.length c := by
  rcases h with ⟨a, c, rfl, rfl⟩ | ⟨b, off, c, rfl, _⟩
  · exact ⟨a, c, rfl⟩
  · exact ⟨_, c, rfl⟩
theorem IRow.at {w : World} {a : Option Addr} {n c : Nat} {S : List Int} (h : IRow w (.slice a n c) S) (hL : 0 < S.length) : ∃ b off, a = some ⟨b, off, none⟩ ∧ ∀ i (hi : i < S.length), w.cell? ⟨b, off + i, none⟩ = some (.int .i64 S[i]) := by
  rcases h with ⟨a, c, _, rfl⟩ | ⟨b, off, c, e, h1⟩
  · simp at hL
  · injection e with e1 e2 e3
    subst e1
    exact ⟨b, off, rfl, h1⟩
theorem IRow.below {w w' : World} {v : Value} {S : List Int} (h : IRow w v S) (hb : Below w.heap.size w w') : IRow w' v S := by
  rcases h with h | ⟨b, off, c, rfl, h1⟩
  · exact .inl h
  · exact .inr ⟨b, off, c, rfl, fun i hi => by rw [hb.cell (cell_lt (h1 i hi))]; exact h1 i hi⟩
/-! ### What is asked of two Dags that were fed alike. -/
end Go.Proofs.Ytogmdfhicbmplaa
