import Derived.Test.YtbkboebinhafhaaRdB
import Derived.Test.YtbkboebinhafhaaOne
namespace Go.Proofs.Ytbkboebinhafhaa
open Go.RowKit

theorem own_empty (w : World) (g : Nat) (h : Blk w g 5 #[]) : Own w (.slice (some ⟨g, 0, none⟩) 0 0) [] := Own.mk (l := []) h (Nat.le_refl _) (Nat.zero_le _) rfl (by simp [bv])
theorem wp_app {Q : Exit → Act → World → Prop} {o : Oper} {a : Act} {w : World} {K : Act → World → Prop} (s x : Operand)
    (ho : o.op = .call { callee := .builtin .append, args := #[s, x], argTypes := #[36, 36] }) (v vx : Value) (l m : List Int)
    (hs : a.eval s = v) (hx : a.eval x = vx) (hown : Own w v l) (hrow : RowAt w vx m) (hb : l.length + m.length ≤ 140737488355328)
    (h : ∀ v' w', AppPost w v (l ++ m) v' w' → K (a.put o.dst v') w') : o.wp Try.prog a w K Q := by
  obtain ⟨v', w', hr, h2⟩ := run_app_row w o.type v vx l m hown hrow (by omega)
  unfold Oper.wp execOp
  simp only [ho, resolve, invoke, builtin, Sem.run_bind, Sem.run_pure, Result.andThen_ok, List.map_toArray, List.map_cons, List.map_nil, hs, hx, hr]
  exact h v' w' h2
theorem yieldsIf_slice2 {P : Program} {ops : Array Oper} {S : World → Prop} {op : Oper} {a : Act} (hw : Region.wanted op (yielded ops a.tmps) = true) (t : TypeId) (x lo hi : Operand) (ho : op.op = .slice t x (some lo) (some hi) none)
    (vx vl vh vs : Value) (hx : a.eval x = vx) (hl : a.eval lo = vl) (hh : a.eval hi = vh) (hr : ∀ w : World, (Instr.sliceAt t vx (some vl) (some vh) none).run P w = .ok vs w) : YieldsIf P ops S op vs a :=
  .inl ⟨hw, fun w _ => by
    unfold execOp
    simp only [ho, hx, hl, hh, Option.map_some, Option.map_none, Sem.run_bind, hr w, Result.andThen_ok, Sem.run_pure]⟩
theorem sl_run2 (base : Option Addr) (n cap a b : Nat) (hab : a ≤ b) (hb : b ≤ cap) (wx : World) : (Instr.sliceAt 36 (.slice base n cap) (some (.int .i64 (a : Int))) (some (.int .i64 (b : Int))) none).run Try.prog wx = .ok (sliced base a b cap 1) wx := by
  have hu : Try.prog.underlying 36 = some (.slice (Try.prog.elem 36)) := by rw [Try.elem36]; exact Try.underlying36
  have h1 := run_slice_lh (P := Try.prog) (w := wx) 36 base n cap hu .i64 .i64 (a : Int) (b : Int) (by omega) (by omega) (by omega)
  have h2 := run_sliceAt_slice (P := Try.prog) (w := wx) 36 (.slice base n cap) (some (.int .i64 (a : Int))) (some (.int .i64 (b : Int))) none hu
  rw [Try.elem36] at h1
  rw [h2, h1]
  refine (congrArg (fun z => Result.andThen z fun s w => Result.ok (sliced base (a : Int).toNat (b : Int).toNat cap s) w) (Try.sizeOf5 wx)).trans ?_
  show Result.ok (sliced base (a : Int).toNat (b : Int).toNat cap 1) wx = _
  rw [Int.toNat_natCast, Int.toNat_natCast]
/-- A piece of a row. -/
theorem mid_any (vb : Value) (lb : List Int) (w : World) (hr : RowAt w vb lb) (a M : Nat) (ha : a + M ≤ lb.length) :
    ∃ vs, (∀ wx : World, (Instr.sliceAt 36 vb (some (.int .i64 (a : Int))) (some (.int .i64 ((a : Int) + (M : Int)))) none).run Try.prog wx = .ok vs wx) ∧ ∀ wx, RowAt wx vb lb → RowAt wx vs ((lb.drop a).take M) := by
  have e : ((a : Int) + (M : Int)) = ((a + M : Nat) : Int) := by omega
  rw [e]
  have hl : ((lb.drop a).take M).length = M := by rw [List.length_take, List.length_drop]; omega
  rcases hr with ⟨rfl, rfl⟩ | ⟨ad, c, rfl, rfl⟩ | ⟨h, off, cap, rfl, hc, _⟩
  · obtain rfl : a = 0 := by simp at ha; omega
    obtain rfl : M = 0 := by simp at ha; omega
    exact ⟨_, sl_run2 none 0 0 0 0 (by omega) (by omega), fun wx h => .inl ⟨rfl, by simp⟩⟩
  · obtain rfl : a = 0 := by simp at ha; omega
    obtain rfl : M = 0 := by simp at ha; omega
    refine ⟨_, sl_run2 (some ad) 0 c 0 0 (by omega) (by omega), fun wx h => .inr (.inl ?_)⟩
    unfold sliced
    split
    · exact ⟨_, _, rfl, by simp⟩
    · exact ⟨_, _, rfl, by simp⟩
  · refine ⟨_, sl_run2 (some ⟨h, off, none⟩) lb.length cap a (a + M) (by omega) (by omega), fun wx hx => ?_⟩
    unfold sliced
    by_cases hca : cap = a
    · obtain rfl : M = 0 := by omega
      rw [if_pos hca]
      exact .inr (.inl ⟨_, _, by rw [Nat.add_zero, Nat.sub_self], by simp⟩)
    · rw [if_neg hca]
      rcases hx with ⟨e, _⟩ | ⟨ad, c, e, h0⟩ | ⟨h', off', cap', e, _, h3⟩
      · cases e
      · injection e with e1 e2
        obtain rfl : M = 0 := by omega
        exact .inr (.inl ⟨_, _, by rw [Nat.add_zero, Nat.sub_self]; rfl, by simp⟩)
      · injection e with e1 e2 e3
        injection e1 with e1
        injection e1 with e1 e4
        subst e1 e3 e4
        refine .inr (.inr ⟨h, off + a, cap - a, ?_, by omega, fun i hi => ?_⟩)
        · rw [hl, show a + M - a = M by omega]
          show Value.slice (some (Addr.add ⟨h, off, none⟩ (a * 1))) M (cap - a) = _
          rw [Nat.mul_one]
          cases a <;> rfl
        · rw [hl] at hi
          rw [Nat.add_assoc, h3 (a + i) (by omega)]
          simp [List.getD_eq_getElem?_getD, hi]

/-- What a call of the document's reader leaves that tells bytes. -/
def RfPostB (x : Nat) (vB : Value) (why : Int) (a : Nat) (l : List Int) (w : World) (e : Ending) (w' : World) : Prop :=
  ∃ b res, ErrB why a b ∧ e = .returned (.tuple #[res, .agg #[.int .i64 why, .int .i64 b]]) ∧ RfAt w' x vB a why b ∧ (Grown w w' fun k => k = x) ∧ RowAt w' res l ∧ ∀ k, res.ownBlock = some k → w.heap.size ≤ k
theorem row_two {w : World} {g : Nat} {v : Value} {l : List Int} (h : RowAt w v l) (hg : v.ownBlock ≠ some g) (a b : Value) : RowAt ((w.setCell ⟨g, 0, none⟩ a).setCell ⟨g, 1, none⟩ b) v l :=
  (h.grown (Grown.setCell w g 0 a (S := fun k => k = g) fun _ => rfl) (fun k hk _ e => hg (by rw [hk, e]))).grown (Grown.setCell _ g 1 b (S := fun k => k = g) fun _ => rfl) (fun k hk _ e => hg (by rw [hk, e]))

set_option maxRecDepth 8000 in
set_option maxHeartbeats 1000000 in
theorem xraw_bad (x : Nat) (vB : Value) (a : Nat) (why b : Int) (v : Value) (w : World) (h : RfAt w x vB a why b) (hw : why ≠ 0) :
    Calls Try.prog 24 #[ptr x, v] w (RfStuck why b (.slice none 0 0) w) := by
  have HS := Keep.mk (RS.start h)
  have HB := Keep.mk (below_new w (.cells #[.int .i64 0, .int .i64 0] 49))
  have hy1 : (why == 0) = false := by simpa using hw
  clear h
  go_enter Try.func24, Try.ntmps24
  go_wp2_with (first | (refine wpList_new rfl 49 rfl _ Try.new49 ?_; refine Hid.out ?_))
  refine hid_in ?_
  generalize w.alloc (.cells #[.int .i64 0, .int .i64 0] 49) = w1 at *
  have c2 := RfAt.c2 HS.out.rf
  have c3 := RfAt.c3 HS.out.rf
  have d0 := HS.out.d0
  have d1 := HS.out.d1
  have e0 := HS.out.cell.frozen 0
  have e1 := HS.out.cell.frozen 1
  go_wp2_with fail
  go_region
  go_wp2
  exact bodyPost_ret (results_tmp_cell_row Try.results24 _ _ w.heap.size 49 _ (0, 0) _ _ rfl rfl (HS.out.fin (.int .i64 why) (.int .i64 b)).1.drew Try.underlying49 rfl Try.size49) rfl ⟨rfl, (below_two HB.out (Nat.le_refl _) _ _).drew⟩

set_option maxRecDepth 8000 in
set_option maxHeartbeats 4000000 in
theorem xraw_good (x : Nat) (vB : Value) (l : List Int) (a : Nat) (n : Int) (w : World) (h : RfAt w x vB a 0 0) (hR : ∀ wx, (Grown w wx fun k => k = x) → RowAt wx vB l) (ha : a ≤ l.length) (hb : l.length ≤ 140737488355328) (D : List Int) (hD : D = l.drop a) (W : Int) (hW : W = nextW D n) (N : Nat) (hN : N = nextN D n) :
    Calls Try.prog 24 #[ptr x, .int .i64 n] w (RfPostB x vB W (a + N) (D.take N) w) := by
  have HS := Keep.mk (RS.start h)
  have HR := Keep.mk hR
  have hlen : D.length = l.length - a := by rw [hD, List.length_drop]
  obtain ⟨va, vc, hvB⟩ := row_form (hR w (Grown.refl _ _))
  subst hvB
  have Hb := Keep.mk hb
  have Ha := Keep.mk ha
  have hbi : (l.length : Int) ≤ 140737488355328 := by omega
  have hai : (a : Int) ≤ (l.length : Int) := by omega
  by_cases hneg : n < 0
  · have HW : W = 1 := by rw [hW]; unfold nextW; rw [if_pos hneg]
    have HN : N = 0 := by rw [hN]; exact nextN_1 D n (by rw [← hW, HW]; decide)
    subst HN
    rw [HW]
    clear h hR hW hN hlen ha hb hD HW
    go_enter Try.func24, Try.ntmps24
    go_wp2_with (first | (refine wpList_new rfl 49 rfl _ Try.new49 ?_; refine Hid.out ?_))
    refine hid_in ?_
    generalize w.alloc (.cells #[.int .i64 0, .int .i64 0] 49) = w1 at *
    have c2 := RfAt.c2 HS.out.rf
    have k1 := RfAt.c1 HS.out.rf
    go_wp2_with fail
    refine (xwrong_any x _ a 1 w1 HS.out.rf).mono ?_
    rintro e w4 ⟨rfl, hr, hg⟩
    have HS4 := Keep.mk (HS.out.turned hr hg)
    clear hr hg k1
    have d0 := HS4.out.d0
    have d1 := HS4.out.d1
    have e0 := HS4.out.cell.frozen 0
    have e1 := HS4.out.cell.frozen 1
    go_wp2
    have hf := HS4.out.fin (.int .i64 1) (.int .i64 (a : Int))
    exact bodyPost_ret (results_tmp_cell_row Try.results24 _ _ w.heap.size 49 _ (0, 0) _ _ rfl rfl hf.1 Try.underlying49 rfl Try.size49) rfl ⟨_, _, .inr ⟨by decide, rfl⟩, rfl, hf.2.1, hf.2.2, .inl ⟨rfl, by simp⟩, fun k hk => by simp [Value.ownBlock] at hk⟩
  by_cases hbig : (D.length : Int) < n
  · have HW : W = 20 := by rw [hW]; unfold nextW; rw [if_neg hneg, if_pos hbig]
    have HN : N = 0 := by rw [hN]; exact nextN_1 D n (by rw [← hW, HW]; decide)
    subst HN
    rw [HW]
    have hbig' : (l.length : Int) - (a : Int) < n := by omega
    clear h hR hW hN hlen ha hb hD HW
    go_enter Try.func24, Try.ntmps24
    go_wp2_with (first | (refine wpList_new rfl 49 rfl _ Try.new49 ?_; refine Hid.out ?_))
    refine hid_in ?_
    generalize w.alloc (.cells #[.int .i64 0, .int .i64 0] 49) = w1 at *
    have c2 := RfAt.c2 HS.out.rf
    go_wp2_with fail
    refine (xleft_any x _ l.length vc a 0 0 w1 HS.out.rf Ha.out Hb.out).mono ?_
    rintro e w2 ⟨rfl, qd, hw2⟩
    have HS2 := Keep.mk (HS.out.later (w2 := w2) (by rw [hw2]; exact below_drewN _ _))
    clear hw2 c2 HS
    have k1 := RfAt.c1 HS2.out.rf
    go_wp2_with fail
    refine (xwrong_any x _ a 20 w2 HS2.out.rf).mono ?_
    rintro e w4 ⟨rfl, hr, hg⟩
    have HS4 := Keep.mk (HS2.out.turned hr hg)
    clear hr hg k1
    have d0 := HS4.out.d0
    have d1 := HS4.out.d1
    have e0 := HS4.out.cell.frozen 0
    have e1 := HS4.out.cell.frozen 1
    go_wp2
    have hf := HS4.out.fin (.int .i64 20) (.int .i64 (a : Int))
    exact bodyPost_ret (results_tmp_cell_row Try.results24 _ _ w.heap.size 49 _ (0, 0) _ _ rfl rfl hf.1 Try.underlying49 rfl Try.size49) rfl ⟨_, _, .inr ⟨by decide, rfl⟩, rfl, hf.2.1, hf.2.2, .inl ⟨rfl, by simp⟩, fun k hk => by simp [Value.ownBlock] at hk⟩
  · obtain ⟨M, rfl⟩ : ∃ M : Nat, n = (M : Int) := ⟨n.toNat, by omega⟩
    have HW : W = 0 := by rw [hW]; unfold nextW; rw [if_neg hneg, if_neg hbig]
    have HN : N = M := by rw [hN, (nextN_0 D (M : Int) (by rw [← hW, HW])).1]; rfl
    subst HN
    rw [HW, hD]
    have hbig' : ¬ ((l.length : Int) - (a : Int) < (N : Int)) := by omega
    have hMl : a + N ≤ l.length := by omega
    have HMl : Keep (a + N ≤ l.length) := ⟨hMl⟩
    have hMi : (a : Int) + (N : Int) ≤ (l.length : Int) := by omega
    obtain ⟨vs, hsl, hrs⟩ := mid_any _ l w (hR w (Grown.refl _ _)) a N hMl
    have HRs := Keep.mk hrs
    clear hrs hMl
    clear h hR hW hN hlen ha hb hD HW
    go_enter Try.func24, Try.ntmps24
    go_wp2_with (first | (refine wpList_new rfl 49 rfl _ Try.new49 ?_; refine Hid.out ?_))
    refine hid_in ?_
    generalize w.alloc (.cells #[.int .i64 0, .int .i64 0] 49) = w1 at *
    have c2 := RfAt.c2 HS.out.rf
    go_wp2_with fail
    refine (xleft_any x _ l.length vc a 0 0 w1 HS.out.rf Ha.out Hb.out).mono ?_
    rintro e w2 ⟨rfl, qd, hw2⟩
    have HS2 := Keep.mk (HS.out.later (w2 := w2) (by rw [hw2]; exact below_drewN _ _))
    clear hw2 c2 HS
    have c2 := RfAt.c2 HS2.out.rf
    go_wp2_with fail
    obtain ⟨wk, rfl⟩ : ∃ wk, wk = w2 := ⟨_, rfl⟩
    have HE := Keep.mk (Blk.new wk 5 #[])
    have HS4 := Keep.mk (HS2.out.later (below_new wk (.cells #[] 5)))
    have Hxk : Keep (x < wk.heap.size) := ⟨Blk.lt HS2.out.rf⟩
    have Hgk : Keep (w.heap.size < wk.heap.size) := ⟨HS2.out.cell.lt⟩
    generalize wk.alloc (.cells #[] 5) = w4 at *
    have HRv : Keep (RowAt w4.drew vs ((l.drop a).take N)) := ⟨HRs.out _ (HR.out _ HS4.out.gr.drew)⟩
    have g0 : w4.drew.cell? ⟨x, 0, none⟩ = some (Value.slice va l.length vc) := RfAt.c0 HS4.out.rf
    have g1 : w4.drew.cell? ⟨x, 1, none⟩ = some (.int .i64 (a : Int)) := RfAt.c1 HS4.out.rf
    have hwi : IntKind.i64.wrap ((a : Int) + (N : Int)) = (a : Int) + (N : Int) := by rw [IntKind.wrap_i64]; omega
    clear c2 HS2
    refine wp_region_held_drew (S := fun wx => wx.cell? ⟨x, 0, none⟩ = some (Value.slice va l.length vc) ∧ wx.cell? ⟨x, 1, none⟩ = some (.int .i64 (a : Int))) (by kernel_rfl) ⟨g0, g1⟩ (fun hHeld => ?_)
    refine wpAnyH_take (i := 0) (oi := ⟨some 36, Op.move (Operand.tmp 6), 36, _, _, none⟩) (v := .slice (some ⟨wk.heap.size, 0, none⟩) 0 0) rfl (by kernel_rfl) (by kernel_rfl) (by kernel_rfl) (fun _ _ _ h => h) (Or.inl ⟨by rfl, fun w hS => by go_simp⟩) hHeld ?_
    simp only [Act.put, List.setIfInBounds_toArray, List.set_cons_zero, List.set_cons_succ]
    refine wpAnyH_take (i := 1) (oi := ⟨some 37, Op.move (Operand.tmp 0), 47, _, _, none⟩) (v := ptr x) rfl (by kernel_rfl) (by kernel_rfl) (by kernel_rfl) (fun _ _ _ h => h) (Or.inl ⟨by rfl, fun w hS => by go_simp⟩) hHeld ?_
    simp only [Act.put, List.setIfInBounds_toArray, List.set_cons_zero, List.set_cons_succ]
    refine wpAnyH_take (i := 2) (oi := ⟨some 38, Op.nilCheck (Operand.tmp 37), 0, _, _, none⟩) (v := .pointer (some ⟨x, 0, none⟩)) rfl (by kernel_rfl) (by kernel_rfl) (by kernel_rfl) (fun _ _ _ h => h) (Or.inl ⟨by rfl, fun w hS => by go_simp⟩) hHeld ?_
    simp only [Act.put, List.setIfInBounds_toArray, List.set_cons_zero, List.set_cons_succ]
    refine wpAnyH_take (i := 3) (oi := ⟨some 39, Op.fieldAddr 51 (Operand.tmp 38) 0, 0, _, _, none⟩) (v := .pointer (some ⟨x, 0, none⟩)) rfl (by kernel_rfl) (by kernel_rfl) (by kernel_rfl) (fun _ _ _ h => h) (Or.inl ⟨by rfl, fun w hS => by go_simp⟩) hHeld ?_
    simp only [Act.put, List.setIfInBounds_toArray, List.set_cons_zero, List.set_cons_succ]
    refine wpAnyH_take (i := 4) (oi := ⟨some 40, Op.load 36 (Operand.tmp 39), 36, _, _, none⟩) (v := Value.slice va l.length vc) rfl (by kernel_rfl) (by kernel_rfl) (by kernel_rfl) (fun _ _ _ h => h) (Or.inl ⟨by rfl, fun w hS => by (obtain ⟨hS1, hS2⟩ := hS; clear hS2; go_simp)⟩) hHeld ?_
    simp only [Act.put, List.setIfInBounds_toArray, List.set_cons_zero, List.set_cons_succ]
    refine wpAnyH_take (i := 5) (oi := ⟨some 41, Op.move (Operand.tmp 0), 47, _, _, none⟩) (v := ptr x) rfl (by kernel_rfl) (by kernel_rfl) (by kernel_rfl) (fun _ _ _ h => h) (Or.inl ⟨by rfl, fun w hS => by go_simp⟩) hHeld ?_
    simp only [Act.put, List.setIfInBounds_toArray, List.set_cons_zero, List.set_cons_succ]
    refine wpAnyH_take (i := 6) (oi := ⟨some 42, Op.nilCheck (Operand.tmp 41), 0, _, _, none⟩) (v := .pointer (some ⟨x, 0, none⟩)) rfl (by kernel_rfl) (by kernel_rfl) (by kernel_rfl) (fun _ _ _ h => h) (Or.inl ⟨by rfl, fun w hS => by go_simp⟩) hHeld ?_
    simp only [Act.put, List.setIfInBounds_toArray, List.set_cons_zero, List.set_cons_succ]
    refine wpAnyH_take (i := 7) (oi := ⟨some 43, Op.fieldAddr 51 (Operand.tmp 42) 1, 0, _, _, none⟩) (v := .pointer (some ⟨x, 1, none⟩)) rfl (by kernel_rfl) (by kernel_rfl) (by kernel_rfl) (fun _ _ _ h => h) (Or.inl ⟨by rfl, fun w hS => by go_simp⟩) hHeld ?_
    simp only [Act.put, List.setIfInBounds_toArray, List.set_cons_zero, List.set_cons_succ]
    refine wpAnyH_take (i := 8) (oi := ⟨some 44, Op.load 3 (Operand.tmp 43), 3, _, _, none⟩) (v := .int .i64 (a : Int)) rfl (by kernel_rfl) (by kernel_rfl) (by kernel_rfl) (fun _ _ _ h => h) (Or.inl ⟨by rfl, fun w hS => by (obtain ⟨hS1, hS2⟩ := hS; clear hS1; go_simp)⟩) hHeld ?_
    simp only [Act.put, List.setIfInBounds_toArray, List.set_cons_zero, List.set_cons_succ]
    refine wpAnyH_take (i := 9) (oi := ⟨some 45, Op.move (Operand.tmp 0), 47, _, _, none⟩) (v := ptr x) rfl (by kernel_rfl) (by kernel_rfl) (by kernel_rfl) (fun _ _ _ h => h) (Or.inl ⟨by rfl, fun w hS => by go_simp⟩) hHeld ?_
    simp only [Act.put, List.setIfInBounds_toArray, List.set_cons_zero, List.set_cons_succ]
    refine wpAnyH_take (i := 10) (oi := ⟨some 46, Op.nilCheck (Operand.tmp 45), 0, _, _, none⟩) (v := .pointer (some ⟨x, 0, none⟩)) rfl (by kernel_rfl) (by kernel_rfl) (by kernel_rfl) (fun _ _ _ h => h) (Or.inl ⟨by rfl, fun w hS => by go_simp⟩) hHeld ?_
    simp only [Act.put, List.setIfInBounds_toArray, List.set_cons_zero, List.set_cons_succ]
    refine wpAnyH_take (i := 11) (oi := ⟨some 47, Op.fieldAddr 51 (Operand.tmp 46) 1, 0, _, _, none⟩) (v := .pointer (some ⟨x, 1, none⟩)) rfl (by kernel_rfl) (by kernel_rfl) (by kernel_rfl) (fun _ _ _ h => h) (Or.inl ⟨by rfl, fun w hS => by go_simp⟩) hHeld ?_
    simp only [Act.put, List.setIfInBounds_toArray, List.set_cons_zero, List.set_cons_succ]
    refine wpAnyH_take (i := 12) (oi := ⟨some 48, Op.load 3 (Operand.tmp 47), 3, _, _, none⟩) (v := .int .i64 (a : Int)) rfl (by kernel_rfl) (by kernel_rfl) (by kernel_rfl) (fun _ _ _ h => h) (Or.inl ⟨by rfl, fun w hS => by (obtain ⟨hS1, hS2⟩ := hS; clear hS1; go_simp)⟩) hHeld ?_
    simp only [Act.put, List.setIfInBounds_toArray, List.set_cons_zero, List.set_cons_succ]
    refine wpAnyH_take (i := 13) (oi := ⟨some 49, Op.move (Operand.tmp 1), 3, _, _, none⟩) (v := .int .i64 (N : Int)) rfl (by kernel_rfl) (by kernel_rfl) (by kernel_rfl) (fun _ _ _ h => h) (Or.inl ⟨by rfl, fun w hS => by go_simp⟩) hHeld ?_
    simp only [Act.put, List.setIfInBounds_toArray, List.set_cons_zero, List.set_cons_succ]
    refine wpAnyH_take (i := 14) (oi := ⟨some 50, Op.binOp BinOp.add 3 (Operand.tmp 48) (Operand.tmp 49) 3, 3, _, _, none⟩) (v := .int .i64 ((a : Int) + (N : Int))) rfl (by kernel_rfl) (by kernel_rfl) (by kernel_rfl) (fun _ _ _ h => h) (Or.inl ⟨by rfl, fun w hS => by go_simp⟩) hHeld ?_
    simp only [Act.put, List.setIfInBounds_toArray, List.set_cons_zero, List.set_cons_succ]
    refine wpAnyH_take (i := 15) (oi := ⟨some 51, Op.slice 36 (Operand.tmp 40) (some (Operand.tmp 44)) (some (Operand.tmp 50)) none, 36, _, _, none⟩) (v := vs) rfl (by kernel_rfl) (by kernel_rfl) (by kernel_rfl) (fun _ _ _ h => h) (yieldsIf_slice2 (by rfl) 36 (.tmp 40) (.tmp 44) (.tmp 50) rfl (Value.slice va l.length vc) (.int .i64 (a : Int)) (.int .i64 ((a : Int) + (N : Int))) vs rfl rfl rfl hsl) hHeld ?_
    simp only [Act.put, List.setIfInBounds_toArray, List.set_cons_zero, List.set_cons_succ]
    refine wpAnyH_ready (rs := [16]) (by kernel_rfl) (by simp) ?_
    refine AllReadyH.cons (o := ⟨some 52, Op.call { callee := Callee.builtin Builtin.append, args := #[Operand.tmp 36, Operand.tmp 51], argTypes := #[36, 36] }, 36, _, _, none⟩) rfl (fun K hK => ?_) AllReadyH.nil
    rw [if_pos (by rfl)]
    refine wp_app (.tmp 36) (.tmp 51) rfl (.slice (some ⟨wk.heap.size, 0, none⟩) 0 0) vs [] ((l.drop a).take N) rfl rfl (own_empty _ _ HE.out.drew) HRv.out (by rw [List.length_take, List.length_nil]; have := Hb.out; have := HMl.out; omega) ?_
    intro v' w5 hp
    have HP := Keep.mk hp
    have hrx : RfAt w5 x (Value.slice va l.length vc) a 0 0 := HP.out.grown.blk (Blk.drew HS4.out.rf) (by simp [Value.ownBlock]; have := Hxk.out; omega)
    refine hK.out _ _ ⟨hrx.c0, hrx.c1⟩ fun hHeld5 => ?_
    clear hK
    simp only [Act.put, List.setIfInBounds_toArray, List.set_cons_zero, List.set_cons_succ]
    refine wpAnyH_take (i := 17) (oi := ⟨some 6, Op.assign (Operand.tmp 52), 36, _, _, none⟩) (v := v') rfl (by kernel_rfl) (by kernel_rfl) (by kernel_rfl) (fun _ _ _ h => h) (Or.inl ⟨by rfl, fun w hS => by go_simp⟩) hHeld5 ?_
    simp only [Act.put, List.setIfInBounds_toArray, List.set_cons_zero, List.set_cons_succ]
    refine wpAnyH_done (by kernel_rfl) ?_ _
    have HS5 : Keep (RS w x (Value.slice va l.length vc) a 0 0 w5) := ⟨⟨hrx, HP.out.grown.blk (Blk.drew HS4.out.cell) (by simp [Value.ownBlock]; have := Hgk.out; omega), HS4.out.gr.drew.next HP.out.grown (fun k hk e => by simp [Value.ownBlock] at e; have := Hgk.out; omega), HS4.out.lt⟩⟩
    have hO := HP.out.1
    rw [List.nil_append] at hO
    have hnx : v'.ownBlock ≠ some x := fun e => absurd ((Blk.typ hrx).one (hO.typ e)) (by decide)
    have hng : v'.ownBlock ≠ some w.heap.size := fun e => absurd (HS5.out.cell.typ.one (hO.typ e)) (by decide)
    have HOk : Keep (∀ k, v'.ownBlock = some k → w.heap.size ≤ k) := ⟨fun k hk => by
      rcases HP.out.moved with e | ⟨k', e, hk'⟩
      · rw [e] at hk; simp [Value.ownBlock] at hk; have := Hgk.out; omega
      · rw [e] at hk
        injection hk with hk
        have : w4.heap.size ≤ k' := hk'
        have := HS4.out.gr.size
        omega⟩
    have HRo : Keep (RowAt (((w5.setCell ⟨x, 1, none⟩ (.int .i64 ((a : Int) + (N : Int)))).setCell ⟨w.heap.size, 0, none⟩ (.int .i64 0)).setCell ⟨w.heap.size, 1, none⟩ (.int .i64 0)) v' ((l.drop a).take N)) := ⟨row_two (hO.row.grown (Grown.setCell w5 x 1 _ (S := fun k => k = x) fun _ => rfl) (fun k hk _ e => hnx (by rw [hk, e]))) hng _ _⟩
    have hne : x ≠ w.heap.size := by have := HS5.out.lt; omega
    have hne' : w.heap.size ≠ x := fun e => hne e.symm
    have k1 := RfAt.c1 HS5.out.rf
    have f1 := Blk.frozen HS5.out.rf 1
    have d0 := HS5.out.d0
    have d1 := HS5.out.d1
    have e0 := HS5.out.cell.frozen 0
    have e1 := HS5.out.cell.frozen 1
    clear hO hnx hng hrx HP HS4 HE HRv g0 g1 hsl HR HRs hp
    go_wp2
    have hf := (HS5.out.step (a + N)).fin (.int .i64 0) (.int .i64 0)
    exact bodyPost_ret (results_tmp_cell_row Try.results24 _ _ w.heap.size 49 _ (0, 0) _ _ rfl rfl hf.1 Try.underlying49 rfl Try.size49) rfl ⟨_, _, .inl ⟨rfl, rfl⟩, rfl, hf.2.1, hf.2.2, HRo.out, HOk.out⟩
end Go.Proofs.Ytbkboebinhafhaa
