import Derived.Test.YthlohkgdmfkpeaaGreatB08
import Derived.Test.YthlohkgdmfkpeaaGreatB07
import Derived.Lib.AppendZerosOnto
import Derived.Lib.Overlaps
namespace Go.Proofs.YthlohkgdmfkpeaaGreat
open Go.RowKit
set_option linter.unusedSimpArgs false
set_option linter.unusedVariables false

theorem run_copyR (w : World) (ty : TypeId) (g k n cap b off m c : Nat) (D : List Hs) (cur : Array Value) (hg : Blk w g 36 cur) (hfit : k * 32 + D.length * 32 ≤ cur.size) (hn : D.length = Nat.min m n) (hr : w.rangeAt b off (flatH D)) :
  (Builtin.copy_ #[24, 24] ty #[.slice (some ⟨g, k * 32, none⟩) n cap, .slice (some ⟨b, off, none⟩) m c]).run Tryz.prog w = .ok (goInt D.length) (w.setRow g (cur.toList.take (k * 32) ++ flatH D ++ cur.toList.drop (k * 32 + D.length * 32)).toArray) := by
 have hst := run_storeCells_at Tryz.prog g (k * 32) 36 (flatH D) 0 cur w hg (by rw [flatH_len]; omega) (flatH_one D)
 simp only [Nat.add_zero, flatH_len] at hst
 obtain ⟨i, hi, hsz⟩ := Option.map_eq_some_iff.1 Tryz.size36
 have hl := run_loadCells_list (P := Tryz.prog) w ⟨b, off, none⟩ (flatH D) (fun j v hv => by rw [Addr.add_mid]; exact hr j v hv)
 rw [flatH_len] at hl
 simp only [Builtin.copy_, List.getElem?_toArray, List.getElem?_cons_zero, List.getElem?_cons_succ, run_underlying Tryz.underlying24, Builtin.lenOf, Builtin.firstCells, sizeOf, typeInfo, hi, hsz, ← hn, hl, hst, Sem.run_bind, Sem.run_pure, Result.andThen_ok]
 simp [hi, hsz, hl, hst]
theorem WL.copyR {ops : Array Oper} {rest : List Oper} {o : Oper} {a : Act} {w : World} {Q : Exit → Act → World → Prop} (hw : Region.wanted o (yielded ops a.tmps) = true) (x y : Operand)
  (ho : o.op = .call { callee := .builtin .copy, args := #[x, y], argTypes := #[24, 24] }) (g k n cap b off m c : Nat) (D : List Hs) (cur : Array Value) (hx : a.eval x = .slice (some ⟨g, k * 32, none⟩) n cap) (hy : a.eval y = .slice (some ⟨b, off, none⟩) m c)
  (hg : Blk w g 36 cur) (hfit : k * 32 + D.length * 32 ≤ cur.size) (hn : D.length = Nat.min m n) (hr : w.rangeAt b off (flatH D)) (new : Array Value) (hnew : (cur.toList.take (k * 32) ++ flatH D ++ cur.toList.drop (k * 32 + D.length * 32)).toArray = new)
  (h : WL Tryz.prog ops Q rest (a.put o.dst (goInt D.length)) (w.setRow g new)) : WL Tryz.prog ops Q (o :: rest) a w := by
 subst hnew
 exact ⟨wpList_wanted hw fun K hK => by
  unfold Oper.wp execOp
  simp only [ho, resolve, invoke, builtin, Sem.run_bind, Sem.run_pure, Result.andThen_ok, List.map_toArray, List.map_cons, List.map_nil, hx, hy, run_copyR w o.type g k n cap b off m c D cur hg hfit hn hr]
  exact hK _ _ h.out⟩
theorem wp_copyR {o : Oper} {a : Act} {w : World} {K : Act → World → Prop} {Q : Exit → Act → World → Prop} (x y : Operand)
  (ho : o.op = .call { callee := .builtin .copy, args := #[x, y], argTypes := #[24, 24] }) (g k n cap b off m c : Nat) (D : List Hs) (cur : Array Value) (hx : a.eval x = .slice (some ⟨g, k * 32, none⟩) n cap) (hy : a.eval y = .slice (some ⟨b, off, none⟩) m c)
  (hg : Blk w g 36 cur) (hfit : k * 32 + D.length * 32 ≤ cur.size) (hn : D.length = Nat.min m n) (hr : w.rangeAt b off (flatH D)) (new : Array Value) (hnew : (cur.toList.take (k * 32) ++ flatH D ++ cur.toList.drop (k * 32 + D.length * 32)).toArray = new)
  (h : K (a.put o.dst (goInt D.length)) (w.setRow g new)) : o.wp Tryz.prog a w K Q := by
 subst hnew
 unfold Oper.wp execOp
 simp only [ho, resolve, invoke, builtin, Sem.run_bind, Sem.run_pure, Result.andThen_ok, List.map_toArray, List.map_cons, List.map_nil, hx, hy, run_copyR w o.type g k n cap b off m c D cur hg hfit hn hr]
 exact h
theorem two_a {α : Type} (X A B D : List α) (a b d : Nat) (hA : X.take a = A) (ha : A.length = a) (hb : B.length = b) (hd : D.length = d) (hX : a + b + d ≤ X.length) :
  (((X.take a ++ B ++ X.drop (a + b)).take (a + b) ++ D ++ (X.take a ++ B ++ X.drop (a + b)).drop (a + b + d))).take (a + b + d) = A ++ B ++ D ∧ (((X.take a ++ B ++ X.drop (a + b)).take (a + b) ++ D ++ (X.take a ++ B ++ X.drop (a + b)).drop (a + b + d))).length = X.length := by
 rw [hA]
 have hAB : (A ++ B).length = a + b := by rw [List.length_append, ha, hb]
 have h1 : (A ++ B ++ X.drop (a + b)).take (a + b) = A ++ B := by rw [List.take_append_of_le_length (by omega), List.take_of_length_le (by omega)]
 rw [h1]
 refine ⟨?_, ?_⟩
 ·rw [List.take_append_of_le_length (by rw [List.length_append]; omega), List.take_of_length_le (by rw [List.length_append]; omega)]
 ·simp only [List.length_append, List.length_drop]; omega
theorem two_b {α : Type} (X A B D : List α) (a b d : Nat) (hA : X.take a = A) (ha : A.length = a) (hb : B.length = b) (hd : D.length = d) (hX : a + b + d ≤ X.length) :
  (((X.take (a + b) ++ D ++ X.drop (a + b + d)).take a ++ B ++ (X.take (a + b) ++ D ++ X.drop (a + b + d)).drop (a + b))).take (a + b + d) = A ++ B ++ D ∧ (((X.take (a + b) ++ D ++ X.drop (a + b + d)).take a ++ B ++ (X.take (a + b) ++ D ++ X.drop (a + b + d)).drop (a + b))).length = X.length := by
 have ht : (X.take (a + b)).length = a + b := by rw [List.length_take]; omega
 have h1 : (X.take (a + b) ++ D ++ X.drop (a + b + d)).take a = A := by
  rw [List.append_assoc, List.take_append_of_le_length (by omega), List.take_take, Nat.min_eq_left (by omega), hA]
 have h2 : (X.take (a + b) ++ D ++ X.drop (a + b + d)).drop (a + b) = D ++ X.drop (a + b + d) := by
  rw [List.append_assoc, List.drop_append_of_le_length (by omega), List.drop_of_length_le (by omega), List.nil_append]
 rw [h1, h2]
 refine ⟨?_, ?_⟩
 ·rw [← List.append_assoc, List.take_append_of_le_length (by simp only [List.length_append]; omega), List.take_of_length_le (by simp only [List.length_append]; omega)]
 ·simp only [List.length_append, List.length_drop]; omega
theorem flat_ins (l : List Hs) (i : Nat) (y : Hs) : flatH (insL l i y) = flatH (l.take i) ++ flatH [y] ++ flatH (l.drop i) := by
 unfold insL
 rw [flatH_app, flatH_cons, List.append_assoc]; simp [flatH]
theorem grow_zeros (w : World) (ty : TypeId) (g cap i : Nat) (l : List Hs) (hO : OwnH w (.slice (some ⟨g, 0, none⟩) l.length cap) l) (hi : i < l.length) (hc : cap < l.length + 1) (hL : l.length ≤ 1000000000000) : ∃ (cap2 : Nat) (w1 : World) (C : Array Value),
  (Builtin.append_ #[24, 3] ty #[.slice (some ⟨g, 0, none⟩) i cap, .int .i64 ((l.length + 1 - i : Nat) : Int)]).run Tryz.prog w = .ok (.slice (some ⟨w.heap.size, 0, none⟩) (l.length + 1) cap2) w1 ∧ Blk w1 w.heap.size 36 C ∧ C.size = cap2 * 32 ∧ l.length + 1 ≤ cap2 ∧ cap2 ≤ maxLen ∧ C.toList.take (i * 32) = flatH (l.take i) ∧ Below w.heap.size w w1 := by
 obtain ⟨ti, hti, hzz⟩ := Option.map_eq_some_iff.1 Tryz.info36
 simp only [Prod.mk.injEq] at hzz
 have hzs : (Value.agg (bytesA 32 fun _ => 0)).cells.size = 32 := by show (bytesA 32 fun _ => 0).size = 32; exact bytesA_size _ _
 have hfl : (flatH (l.take i)).length = i * 32 := by rw [flatH_len, List.length_take, Nat.min_eq_left (by omega)]
 have hold : (Builtin.firstCells ti.size i (.slice (some ⟨g, 0, none⟩) i cap)).run Tryz.prog w.drew = .ok (flatH (l.take i)).toArray w.drew := by
  rw [hzz.2.1]
  exact run_firstCells_some w.drew 32 i ⟨g, 0, none⟩ i cap (flatH (l.take i)) hfl (fun j v hj => by
   rw [Addr.add_mid]
   exact rangeAt_take (ownH_rng hO) i j v hj)
 have hr := Lib.run_append_grow_zeros (P := Tryz.prog) w 24 3 ty 36 ti (.agg (bytesA 32 fun _ => 0)) .i64 .i64 Tryz.underlying24 (by kernel_rfl) hti hzz.1 (some ⟨g, 0, none⟩) i cap (flatH (l.take i)) hold (l.length + 1 - i) (by omega) (by rw [hzz.2.1]; omega) (by omega) (by omega) (by rw [hzz.2.2]; omega)
  (growslice_fits (by omega) (by rw [hzz.2.2]; omega))
 rw [show i + (l.length + 1 - i) = l.length + 1 by omega] at hr
 have h1 := grownCap_ge w (l.length + 1) cap 36
 have h2 := grownCap_le_maxLen w (l.length + 1) cap 36 (by unfold maxLen; omega)
 refine ⟨_, _, _, hr, Blk.new _ _ _, ?_, h1, h2, ?_, ((Below.refl _ _).drew).trans (below_new w.drew _)⟩
 ·rw [Array.size_append, Array.size_append, List.size_toArray, hfl, size_zeroCells, size_zeroCells, hzs]
  generalize grownCap w (l.length + 1) cap 36 = q at *
  omega
 ·simp only [Array.toList_append, List.append_assoc]
  rw [List.take_append_of_le_length (by omega), List.take_of_length_le (by omega)]
theorem over_no (w : World) (g gx off lb cb : Nat) (y : Hs) (cur : Array Value) (hG : Blk w gx 36 (bytesA 32 y.f)) (hg : Blk w g 36 cur) (hz : cur.size ≠ 0) (hne : gx ≠ g) :
  (callFunc 169 #[.slice (some ⟨gx, 0, none⟩) 1 1, .slice (some ⟨g, off, none⟩) lb cb]).run Tryz.prog w = .ok (.value (.bool false)) w := by
 rw [run_callFunc_extern Tryz.func169 (by kernel_rfl) (by kernel_rfl) (by kernel_rfl) (e := Extern.SlicesOverlaps.overlaps #[24, 24] #[4]) (by kernel_rfl),
  Lib.run_overlaps_apart w 24 4 36 Tryz.underlying24 32 (fun w => Tryz.sizeOf36 w) ⟨gx, 0, none⟩ ⟨g, off, none⟩ 1 1 lb cb hne 36 36 (bytesA 32 y.f).size cur.size
   (by unfold World.shape?; rw [show w.heap[gx]? = _ from hG]) (by unfold World.shape?; rw [show w.heap[g]? = _ from hg]) hz (by unfold World.frozen?; rw [show w.heap[gx]? = _ from hG]; rfl) (by unfold World.frozen?; rw [show w.heap[gx]? = _ from hG]; simp)]
 rfl
set_option maxRecDepth 8000 in
set_option maxHeartbeats 1000000 in
theorem ins_grow (g cap i gx : Nat) (l : List Hs) (y : Hs) (w : World) (hO : OwnH w (.slice (some ⟨g, 0, none⟩) l.length cap) l) (hG : Blk w gx 36 (bytesA 32 y.f)) (hne : g ≠ gx) (hi : i < l.length) (hL : l.length ≤ 1000000000000) (hc : l.length ≤ cap ∧ cap < l.length + 1) : Calls Tryz.prog 125 #[.slice (some ⟨g, 0, none⟩) l.length cap, .int .i64 (i : Int), .slice (some ⟨gx, 0, none⟩) 1 1] w fun e w' => ∃ v', e = .returned v' ∧ NewL w w' (.slice (some ⟨g, 0, none⟩) l.length cap) v' (insL l i y) := by
 have HO := Keep.mk hO
 have HG := Keep.mk hG
 have Hne := Keep.mk hne
 have Hi := Keep.mk hi
 have HL := Keep.mk hL
 have Hc := Keep.mk hc
 have hni : ¬ (i : Int) = (l.length : Int) := by omega
 have hni2 : ¬ i = l.length := by omega
 have hw1 : IntKind.i64.wrap ((l.length : Int) + 1) = ((l.length + 1 : Nat) : Int) := by rw [IntKind.wrap_i64]; omega
 have hwi : IntKind.i64.wrap ((i : Int) + 1) = ((i + 1 : Nat) : Int) := by rw [IntKind.wrap_i64]; omega
 have hgt : (cap : Int) < (l.length : Int) + 1 := by omega
 have hw2 : IntKind.i64.wrap ((l.length : Int) + 1 - (i : Int)) = ((l.length + 1 - i : Nat) : Int) := by rw [IntKind.wrap_i64]; omega
 clear hO hG hne hi hL hc
 go_enter Tryz.func125, Tryz.ntmps125
 refine wp_seq_k fun K1 hK1 => rgn ?_
 refine VlS (.slice none 0 0) ?_
 refine WL.nil (hK1 _ _ ?_)
 refine wp_seq_k fun K2 hK2 => rgn ?_
 refine VlS (.slice (some ⟨g, 0, none⟩) l.length cap) ?_
 refine VlS (.int .i64 (i : Int)) ?_
 refine WL.slr (by kernel_rfl) 24 (.tmp 10) (some (.tmp 11)) (none) rfl _ (some (.int .i64 (i : Int))) (none) (sliced (some ⟨g, 0, none⟩) i l.length cap 32) rfl rfl rfl (slH_l _ _ _ i (by have := Hi.out; omega) w) ?_
 simp only [Act.put, pqA, pqB, pqC]
 refine WL.nil (hK2 _ _ ?_)
 refine wp_seq_k fun K3 hK3 => rgn ?_
 refine VlS (.slice (some ⟨gx, 0, none⟩) 1 1) ?_
 refine VlS (.int .i64 1) ?_
 refine VlS (.int .i64 1) ?_
 refine WL.nil (hK3 _ _ ?_)
 refine wp_seq_k fun K4 hK4 => ?_
 refine wp_seq_k fun K5 hK5 => rgn ?_
 refine VlS (.int .i64 1) ?_
 refine VbF ?_
 refine WL.nil (hK5 _ _ ?_)
 refine wp_cond_false rfl ?_
 refine wp_skip ?_
 refine hK4 _ _ ?_
 refine wp_seq_k fun K6 hK6 => rgn ?_
 refine VlS (.slice (some ⟨g, 0, none⟩) l.length cap) ?_
 refine VlS (.int .i64 (l.length : Int)) ?_
 refine VlS (.int .i64 (l.length : Int)) ?_
 refine WL.nil (hK6 _ _ ?_)
 refine wp_seq_k fun K7 hK7 => ?_
 refine wp_seq_k fun K8 hK8 => rgn ?_
 refine VlS (.int .i64 (i : Int)) ?_
 refine VlS (.int .i64 (l.length : Int)) ?_
 refine VbF ?_
 refine WL.nil (hK8 _ _ ?_)
 refine wp_cond_false rfl ?_
 refine wp_skip ?_
 refine hK7 _ _ ?_
 refine wp_seq_k fun K9 hK9 => ?_
 refine wp_seq_k fun K10 hK10 => rgn ?_
 refine VlS (.int .i64 (l.length : Int)) ?_
 refine VlS (.int .i64 1) ?_
 refine VlS (.int .i64 ((l.length + 1 : Nat) : Int)) ?_
 refine VlS (.slice (some ⟨g, 0, none⟩) l.length cap) ?_
 refine VlS (.int .i64 (cap : Int)) ?_
 refine VbT ?_
 refine WL.nil (hK10 _ _ ?_)
 refine wp_cond_true rfl ?_
 refine wp_seq_k fun K11 hK11 => rgn ?_
 refine VlS (.slice (some ⟨g, 0, none⟩) l.length cap) ?_
 refine VlS (.int .i64 (i : Int)) ?_
 refine WL.slr (by kernel_rfl) 24 (.tmp 32) (none) (some (.tmp 33)) rfl _ (none) (some (.int .i64 (i : Int))) (.slice (some ⟨g, 0, none⟩) i cap) rfl rfl rfl (slH_h _ _ _ i (by have := Hi.out; have := Hc.out.1; omega) w) ?_
 simp only [Act.put, pqA, pqB, pqC]
 refine VlS (.int .i64 (l.length : Int)) ?_
 refine VlS (.int .i64 1) ?_
 refine VlS (.int .i64 ((l.length + 1 : Nat) : Int)) ?_
 refine VlS (.int .i64 (i : Int)) ?_
 refine VlS (.int .i64 ((l.length + 1 - i : Nat) : Int)) ?_
 obtain ⟨cap2, w1, C, hr1, hC, hCs, hcl, hcm, hCt, hB1⟩ := grow_zeros w 24 g cap i l HO.out Hi.out (by have := Hc.out.2; omega) HL.out
 refine WL.call (by kernel_rfl) fun K hK => ?_
 refine Lib.wp_append_run w (.tmp 34) (.tmp 39) 24 3 rfl _ _ rfl rfl _ w1 hr1 ?_
 refine hK _ _ ?_
 clear hK hr1
 have HC := Keep.mk hC
 have HCs := Keep.mk hCs
 have Hcl := Keep.mk hcl
 have Hcm := Keep.mk hcm
 have HCt := Keep.mk hCt
 have HB1 := Keep.mk hB1
 have HG1 := Keep.mk (HG.out.below hB1 HG.out.lt)
 have HR1 : Keep (w1.rangeAt g 0 (flatH l)) := ⟨rangeAt_below (ownH_rng HO.out) hB1 (by obtain ⟨c, hb, _⟩ := ownH_blk HO.out; exact hb.lt)⟩
 have Hgz : Keep (g ≠ w.heap.size ∧ gx ≠ w.heap.size) := ⟨by obtain ⟨c, hb, _⟩ := ownH_blk HO.out; have := hb.lt; have := HG.out.lt; omega⟩
 clear hC hCs hcl hcm hCt hB1
 generalize hgz : w.heap.size = gz at *
 simp only [Act.put, pqA, pqB, pqC]
 refine VlS (.slice (some ⟨gz, 0, none⟩) (l.length + 1) cap2) ?_
 refine WL.nil (hK11 _ _ ?_)
 refine wp_seq_k fun K12 hK12 => rgn ?_
 refine VlS (.slice (some ⟨gz, 0, none⟩) (l.length + 1) cap2) ?_
 refine VlS (.int .i64 (i : Int)) ?_
 refine WL.slr (by kernel_rfl) 24 (.tmp 41) (some (.tmp 42)) (none) rfl _ (some (.int .i64 (i : Int))) (none) (.slice (some ⟨gz, i * 32, none⟩) (l.length + 1 - i) (cap2 - i)) rfl rfl rfl ((slH_l _ _ _ i (by have := Hi.out; omega) _).trans (by have := Hi.out; have := Hcl.out; unfold sliced; rw [if_neg (by omega), Option.map_some, Addr.add_mid, Nat.zero_add])) ?_
 simp only [Act.put, pqA, pqB, pqC]
 refine VlS (.slice (some ⟨gx, 0, none⟩) 1 1) ?_
 refine WL.copyR (by kernel_rfl) (.tmp 43) (.tmp 44) rfl gz i _ _ gx 0 _ _ [y] C rfl rfl HC.out (by rw [HCs.out]; have := Hi.out; have := Hcl.out; simp only [List.length_singleton]; omega) (by have := Hi.out; simp only [List.length_singleton]; exact (Nat.min_eq_left (by omega)).symm) (by have := blk_rng HG1.out; rw [show flatH [y] = (bytesA 32 y.f).toList from by simp [flatH, encH]]; exact this) _ rfl ?_
 have HC1 := Keep.mk (HC.out.setRow (C.toList.take (i * 32) ++ flatH [y] ++ C.toList.drop (i * 32 + [y].length * 32)).toArray)
 have HB2 := Keep.mk (below_setRow (B := gz) HB1.out (Nat.le_refl _) (C.toList.take (i * 32) ++ flatH [y] ++ C.toList.drop (i * 32 + [y].length * 32)).toArray)
 have HR2 : Keep ((w1.setRow gz (C.toList.take (i * 32) ++ flatH [y] ++ C.toList.drop (i * 32 + [y].length * 32)).toArray).rangeAt g 0 (flatH l)) := ⟨rangeAt_grown HR1.out (Grown.setRow w1 gz _ (S := fun k => k = gz) fun _ => rfl) Hgz.out.1⟩
 have HD1 : Keep ((C.toList.take (i * 32) ++ flatH [y] ++ C.toList.drop (i * 32 + [y].length * 32)).toArray.toList = C.toList.take (i * 32) ++ flatH [y] ++ C.toList.drop (i * 32 + 32)) := ⟨by simp⟩
 generalize (C.toList.take (i * 32) ++ flatH [y] ++ C.toList.drop (i * 32 + [y].length * 32)).toArray = C1 at *
 generalize w1.setRow gz C1 = w2 at *
 clear HR1 HG1 HB1
 simp only [Act.put, pqA, pqB, pqC]
 refine WL.nil (hK12 _ _ ?_)
 refine wp_seq_k fun K13 hK13 => ?_
 refine wp_region_held_drew (S := fun _ => True) (by kernel_rfl) (trivial) (fun hHeld => ?_)
 refine TkG (i := 0) (oi := ⟨some 46, Op.move (Operand.tmp 9), 24, _, _, none⟩) (v := .slice (some ⟨gz, 0, none⟩) (l.length + 1) cap2) rfl hHeld ?_
 refine TkG (i := 1) (oi := ⟨some 47, Op.move (Operand.tmp 1), 3, _, _, none⟩) (v := .int .i64 (i : Int)) rfl hHeld ?_
 refine TkG (i := 2) (oi := ⟨some 48, Op.move (Operand.tmp 7), 3, _, _, none⟩) (v := .int .i64 1) rfl hHeld ?_
 refine TkG (i := 3) (oi := ⟨some 49, Op.binOp BinOp.add 3 (Operand.tmp 47) (Operand.tmp 48) 3, 3, _, _, none⟩) (v := .int .i64 ((i + 1 : Nat) : Int)) rfl hHeld ?_
 refine tkS (i := 4) (oi := ⟨some 50, Op.slice 24 (Operand.tmp 46) (some (Operand.tmp 49)) none none, 24, _, _, none⟩) (v := .slice (some ⟨gz, (i + 1) * 32, none⟩) (l.length + 1 - (i + 1)) (cap2 - (i + 1))) rfl (yieldsIf_slr (by rfl) 24 (Operand.tmp 46) (some (Operand.tmp 49)) none rfl _ (some (.int .i64 ((i + 1 : Nat) : Int))) none _ rfl rfl rfl fun w => (slH_l _ _ _ (i + 1) (by have := Hi.out; omega) w).trans (by have := Hi.out; have := Hcl.out; unfold sliced; rw [if_neg (by omega), Option.map_some, Addr.add_mid, Nat.zero_add])) hHeld ?_
 refine TkG (i := 5) (oi := ⟨some 51, Op.move (Operand.tmp 0), 24, _, _, none⟩) (v := .slice (some ⟨g, 0, none⟩) l.length cap) rfl hHeld ?_
 refine TkG (i := 6) (oi := ⟨some 52, Op.move (Operand.tmp 1), 3, _, _, none⟩) (v := .int .i64 (i : Int)) rfl hHeld ?_
 refine tkS (i := 7) (oi := ⟨some 53, Op.slice 24 (Operand.tmp 51) (some (Operand.tmp 52)) none none, 24, _, _, none⟩) (v := .slice (some ⟨g, i * 32, none⟩) (l.length - i) (cap - i)) rfl (yieldsIf_slr (by rfl) 24 (Operand.tmp 51) (some (Operand.tmp 52)) none rfl _ (some (.int .i64 (i : Int))) none _ rfl rfl rfl fun w => (slH_l _ _ _ i (by have := Hi.out; omega) w).trans (by have := Hi.out; have := Hc.out.1; unfold sliced; rw [if_neg (by omega), Option.map_some, Addr.add_mid, Nat.zero_add])) hHeld ?_
 refine wpAnyH_ready (rs := [8]) (by kernel_rfl) (by simp) ?_
 refine AllReadyH.cons (o := ⟨some 54, Op.call { callee := Callee.builtin Builtin.copy, args := #[Operand.tmp 50, Operand.tmp 53], argTypes := #[24, 24] }, 3, _, _, none⟩) rfl (fun K hK => ?_) AllReadyH.nil
 rw [if_pos (by rfl)]
 refine wp_copyR (w := w2.drew) (Operand.tmp 50) (Operand.tmp 53) rfl gz (i + 1) _ _ g (i * 32) _ _ (l.drop i) C1 rfl rfl HC1.out (by have h := congrArg List.length HD1.out; simp only [List.length_append, List.length_take, List.length_drop, Array.length_toList, flatH_len, List.length_singleton] at h; rw [List.length_drop]; have := HCs.out; have := Hi.out; have := Hcl.out; omega) (by rw [List.length_drop]; have := Hi.out; exact (Nat.min_eq_left (by omega)).symm) (by have h := rangeAt_drop HR2.out i (by have := Hi.out; omega); rw [Nat.zero_add] at h; exact h) _ rfl ?_
 have HC2 := Keep.mk ((show Blk w2.drew gz 36 C1 from HC1.out).setRow (C1.toList.take ((i + 1) * 32) ++ flatH (l.drop i) ++ C1.toList.drop ((i + 1) * 32 + (l.drop i).length * 32)).toArray)
 have HB3 := Keep.mk (below_setRow (B := gz) HB2.out.drew (Nat.le_refl _) (C1.toList.take ((i + 1) * 32) ++ flatH (l.drop i) ++ C1.toList.drop ((i + 1) * 32 + (l.drop i).length * 32)).toArray)
 have HT := two_a C.toList (flatH (l.take i)) (flatH [y]) (flatH (l.drop i)) (i * 32) 32 ((l.length - i) * 32) HCt.out (by rw [flatH_len, List.length_take, Nat.min_eq_left (by have := Hi.out; omega)]) (by rw [flatH_len]; rfl) (by rw [flatH_len, List.length_drop]) (by rw [show C.toList.length = C.size from Array.length_toList, HCs.out]; have := Hi.out; have := Hcl.out; omega)
 rw [← flat_ins, ← HD1.out, show i * 32 + 32 = (i + 1) * 32 by omega] at HT
 have hkT := Keep.mk HT
 have hE : Keep ((C1.toList.take ((i + 1) * 32) ++ flatH (l.drop i) ++ C1.toList.drop ((i + 1) * 32 + (l.drop i).length * 32)).toArray.toList = C1.toList.take ((i + 1) * 32) ++ flatH (l.drop i) ++ C1.toList.drop ((i + 1) * 32 + (l.length - i) * 32)) := ⟨by simp⟩
 generalize (C1.toList.take ((i + 1) * 32) ++ flatH (l.drop i) ++ C1.toList.drop ((i + 1) * 32 + (l.drop i).length * 32)).toArray = C2 at *
 refine hK _ _ trivial fun hH1 => ?_
 clear hK HT
 generalize w2.drew.setRow gz C2 = w3 at *
 simp only [Act.put, pqA, pqB, pqC]
 refine wpAnyH_done (by kernel_rfl) ?_ _
 refine hK13 _ _ ?_
 refine wp_seq_k fun K14 hK14 => rgn ?_
 refine VlS (.slice (some ⟨gz, 0, none⟩) (l.length + 1) cap2) ?_
 refine VlS (.slice (some ⟨gz, 0, none⟩) (l.length + 1) cap2) ?_
 refine WL.nil (hK14 _ _ ?_)
 refine wp_ret ?_
 go_ret
 refine ⟨_, rfl, ?_, ?_, .inr ⟨gz, rfl, Nat.le_of_eq hgz⟩⟩
 ·refine ownH_mk HC2.out (by rw [insL_length]) (by rw [insL_length]; exact Hcl.out) Hcm.out ?_ ?_
  ·rw [← Array.length_toList, hE.out, hkT.out.2, Array.length_toList, HCs.out]
  ·rw [hE.out, insL_length, show (l.length + 1) * 32 = (i + 1) * 32 + (l.length - i) * 32 by have := Hi.out; omega]
   exact hkT.out.1
 ·exact Grown.below (by rw [hgz]; exact HB3.out)
set_option maxRecDepth 8000 in
set_option maxHeartbeats 1000000 in
theorem ins_room (g cap i gx : Nat) (l : List Hs) (y : Hs) (w : World) (hO : OwnH w (.slice (some ⟨g, 0, none⟩) l.length cap) l) (hG : Blk w gx 36 (bytesA 32 y.f)) (hne : g ≠ gx) (hi : i < l.length) (hL : l.length ≤ 1000000000000) (hc : l.length + 1 ≤ cap ∧ cap ≤ maxLen) : Calls Tryz.prog 125 #[.slice (some ⟨g, 0, none⟩) l.length cap, .int .i64 (i : Int), .slice (some ⟨gx, 0, none⟩) 1 1] w fun e w' => ∃ v', e = .returned v' ∧ NewL w w' (.slice (some ⟨g, 0, none⟩) l.length cap) v' (insL l i y) := by
 obtain ⟨cur, hcb, -, -, hcm, hcs, hct⟩ := ownH_blk hO
 have Hcb := Keep.mk hcb
 have Hcm := Keep.mk hcm
 have Hcs := Keep.mk hcs
 have Hct := Keep.mk hct
 have HO := Keep.mk hO
 have HG := Keep.mk hG
 have Hne := Keep.mk hne
 have Hi := Keep.mk hi
 have HL := Keep.mk hL
 have Hc := Keep.mk hc
 have hni : ¬ (i : Int) = (l.length : Int) := by omega
 have hni2 : ¬ i = l.length := by omega
 have hw1 : IntKind.i64.wrap ((l.length : Int) + 1) = ((l.length + 1 : Nat) : Int) := by rw [IntKind.wrap_i64]; omega
 have hwi : IntKind.i64.wrap ((i : Int) + 1) = ((i + 1 : Nat) : Int) := by rw [IntKind.wrap_i64]; omega
 have hgt : ¬ (cap : Int) < (l.length : Int) + 1 := by omega
 clear hO hG hne hi hL hc hcb hcm hcs hct
 go_enter Tryz.func125, Tryz.ntmps125
 refine wp_seq_k fun K1 hK1 => rgn ?_
 refine VlS (.slice none 0 0) ?_
 refine WL.nil (hK1 _ _ ?_)
 refine wp_seq_k fun K2 hK2 => rgn ?_
 refine VlS (.slice (some ⟨g, 0, none⟩) l.length cap) ?_
 refine VlS (.int .i64 (i : Int)) ?_
 refine WL.slr (by kernel_rfl) 24 (.tmp 10) (some (.tmp 11)) (none) rfl _ (some (.int .i64 (i : Int))) (none) (sliced (some ⟨g, 0, none⟩) i l.length cap 32) rfl rfl rfl (slH_l _ _ _ i (by have := Hi.out; omega) w) ?_
 simp only [Act.put, pqA, pqB, pqC]
 refine WL.nil (hK2 _ _ ?_)
 refine wp_seq_k fun K3 hK3 => rgn ?_
 refine VlS (.slice (some ⟨gx, 0, none⟩) 1 1) ?_
 refine VlS (.int .i64 1) ?_
 refine VlS (.int .i64 1) ?_
 refine WL.nil (hK3 _ _ ?_)
 refine wp_seq_k fun K4 hK4 => ?_
 refine wp_seq_k fun K5 hK5 => rgn ?_
 refine VlS (.int .i64 1) ?_
 refine VbF ?_
 refine WL.nil (hK5 _ _ ?_)
 refine wp_cond_false rfl ?_
 refine wp_skip ?_
 refine hK4 _ _ ?_
 refine wp_seq_k fun K6 hK6 => rgn ?_
 refine VlS (.slice (some ⟨g, 0, none⟩) l.length cap) ?_
 refine VlS (.int .i64 (l.length : Int)) ?_
 refine VlS (.int .i64 (l.length : Int)) ?_
 refine WL.nil (hK6 _ _ ?_)
 refine wp_seq_k fun K7 hK7 => ?_
 refine wp_seq_k fun K8 hK8 => rgn ?_
 refine VlS (.int .i64 (i : Int)) ?_
 refine VlS (.int .i64 (l.length : Int)) ?_
 refine VbF ?_
 refine WL.nil (hK8 _ _ ?_)
 refine wp_cond_false rfl ?_
 refine wp_skip ?_
 refine hK7 _ _ ?_
 refine wp_seq_k fun K9 hK9 => ?_
 refine wp_seq_k fun K10 hK10 => rgn ?_
 refine VlS (.int .i64 (l.length : Int)) ?_
 refine VlS (.int .i64 1) ?_
 refine VlS (.int .i64 ((l.length + 1 : Nat) : Int)) ?_
 refine VlS (.slice (some ⟨g, 0, none⟩) l.length cap) ?_
 refine VlS (.int .i64 (cap : Int)) ?_
 refine VbF ?_
 refine WL.nil (hK10 _ _ ?_)
 refine wp_cond_false rfl ?_
 refine wp_skip ?_
 refine hK9 _ _ ?_
 refine wp_seq_k fun K11 hK11 => rgn ?_
 refine VlS (.slice (some ⟨g, 0, none⟩) l.length cap) ?_
 refine VlS (.int .i64 (l.length : Int)) ?_
 refine VlS (.int .i64 1) ?_
 refine VlS (.int .i64 ((l.length + 1 : Nat) : Int)) ?_
 refine WL.slr (by kernel_rfl) 24 (.tmp 56) (none) (some (.tmp 59)) rfl _ (none) (some (.int .i64 ((l.length + 1 : Nat) : Int))) (.slice (some ⟨g, 0, none⟩) (l.length + 1) cap) rfl rfl rfl (slH_h _ _ _ (l.length + 1) (by have := Hc.out.1; omega) w) ?_
 simp only [Act.put, pqA, pqB, pqC]
 refine VlS (.slice (some ⟨g, 0, none⟩) (l.length + 1) cap) ?_
 refine WL.nil (hK11 _ _ ?_)
 refine wp_seq_k fun K12 hK12 => ?_
 refine wp_seq_k fun K13 hK13 => rgn ?_
 refine VlS (.slice (some ⟨gx, 0, none⟩) 1 1) ?_
 refine VlS (.slice (some ⟨g, 0, none⟩) (l.length + 1) cap) ?_
 refine VlS (.int .i64 (i : Int)) ?_
 refine VlS (.int .i64 1) ?_
 refine VlS (.int .i64 ((i + 1 : Nat) : Int)) ?_
 refine WL.slr (by kernel_rfl) 24 (.tmp 62) (some (.tmp 65)) (none) rfl _ (some (.int .i64 ((i + 1 : Nat) : Int))) (none) (.slice (some ⟨g, (i + 1) * 32, none⟩) (l.length + 1 - (i + 1)) (cap - (i + 1))) rfl rfl rfl ((slH_l _ _ _ (i + 1) (by have := Hi.out; omega) _).trans (by have := Hi.out; have := Hc.out.1; unfold sliced; rw [if_neg (by omega), Option.map_some, Addr.add_mid, Nat.zero_add])) ?_
 simp only [Act.put, pqA, pqB, pqC]
 have hov := fun lb => over_no w g gx ((i + 1) * 32) lb (cap - (i + 1)) y cur HG.out Hcb.out (by rw [Hcs.out]; have := Hi.out; have := Hc.out.1; omega) (fun e => Hne.out e.symm)
 refine WL.val (by kernel_rfl) (.bool false) (by unfold execOp; simp [resolve, Act.eval, go_sem]; exact hov _) ?_
 clear hov
 simp only [Act.put, pqA, pqB, pqC]
 refine VbT ?_
 refine WL.nil (hK13 _ _ ?_)
 refine wp_cond_true rfl ?_
 refine wp_seq_k fun K14 hK14 => ?_
 refine wp_region_held_drew (S := fun _ => True) (by kernel_rfl) (trivial) (fun hHeld => ?_)
 refine TkG (i := 0) (oi := ⟨some 69, Op.move (Operand.tmp 0), 24, _, _, none⟩) (v := .slice (some ⟨g, 0, none⟩) (l.length + 1) cap) rfl hHeld ?_
 refine TkG (i := 1) (oi := ⟨some 70, Op.move (Operand.tmp 1), 3, _, _, none⟩) (v := .int .i64 (i : Int)) rfl hHeld ?_
 refine TkG (i := 2) (oi := ⟨some 71, Op.move (Operand.tmp 7), 3, _, _, none⟩) (v := .int .i64 1) rfl hHeld ?_
 refine TkG (i := 3) (oi := ⟨some 72, Op.binOp BinOp.add 3 (Operand.tmp 70) (Operand.tmp 71) 3, 3, _, _, none⟩) (v := .int .i64 ((i + 1 : Nat) : Int)) rfl hHeld ?_
 refine tkS (i := 4) (oi := ⟨some 73, Op.slice 24 (Operand.tmp 69) (some (Operand.tmp 72)) none none, 24, _, _, none⟩) (v := .slice (some ⟨g, (i + 1) * 32, none⟩) (l.length + 1 - (i + 1)) (cap - (i + 1))) rfl (yieldsIf_slr (by rfl) 24 (Operand.tmp 69) (some (Operand.tmp 72)) none rfl _ (some (.int .i64 ((i + 1 : Nat) : Int))) none _ rfl rfl rfl fun w => (slH_l _ _ _ (i + 1) (by have := Hi.out; omega) w).trans (by have := Hi.out; have := Hc.out.1; unfold sliced; rw [if_neg (by omega), Option.map_some, Addr.add_mid, Nat.zero_add])) hHeld ?_
 refine TkG (i := 5) (oi := ⟨some 74, Op.move (Operand.tmp 0), 24, _, _, none⟩) (v := .slice (some ⟨g, 0, none⟩) (l.length + 1) cap) rfl hHeld ?_
 refine TkG (i := 6) (oi := ⟨some 75, Op.move (Operand.tmp 1), 3, _, _, none⟩) (v := .int .i64 (i : Int)) rfl hHeld ?_
 refine tkS (i := 7) (oi := ⟨some 76, Op.slice 24 (Operand.tmp 74) (some (Operand.tmp 75)) none none, 24, _, _, none⟩) (v := .slice (some ⟨g, i * 32, none⟩) (l.length + 1 - i) (cap - i)) rfl (yieldsIf_slr (by rfl) 24 (Operand.tmp 74) (some (Operand.tmp 75)) none rfl _ (some (.int .i64 (i : Int))) none _ rfl rfl rfl fun w => (slH_l _ _ _ i (by have := Hi.out; omega) w).trans (by have := Hi.out; have := Hc.out.1; unfold sliced; rw [if_neg (by omega), Option.map_some, Addr.add_mid, Nat.zero_add])) hHeld ?_
 refine wpAnyH_ready (rs := [8]) (by kernel_rfl) (by simp) ?_
 refine AllReadyH.cons (o := ⟨some 77, Op.call { callee := Callee.builtin Builtin.copy, args := #[Operand.tmp 73, Operand.tmp 76], argTypes := #[24, 24] }, 3, _, _, none⟩) rfl (fun K hK => ?_) AllReadyH.nil
 rw [if_pos (by rfl)]
 refine wp_copyR (w := w.drew) (Operand.tmp 73) (Operand.tmp 76) rfl g (i + 1) _ _ g (i * 32) _ _ (l.drop i) cur rfl rfl Hcb.out (by rw [List.length_drop, Hcs.out]; have := Hi.out; have := Hc.out.1; omega) (by rw [List.length_drop]; have := Hi.out; rw [show l.length - i = l.length + 1 - (i + 1) by omega]; exact (Nat.min_eq_right (by omega)).symm) (by have h := rangeAt_drop (ownH_rng HO.out) i (by have := Hi.out; omega); rw [Nat.zero_add] at h; exact h) _ rfl ?_
 have HC1 := Keep.mk ((show Blk w.drew g 36 cur from Hcb.out).setRow (cur.toList.take ((i + 1) * 32) ++ flatH (l.drop i) ++ cur.toList.drop ((i + 1) * 32 + (l.drop i).length * 32)).toArray)
 have HGr : Keep (Grown w (w.drew.setRow g (cur.toList.take ((i + 1) * 32) ++ flatH (l.drop i) ++ cur.toList.drop ((i + 1) * 32 + (l.drop i).length * 32)).toArray) fun k => k = g) := ⟨((Grown.refl w _).drew).trans (Grown.setRow w.drew g _ fun _ => rfl)⟩
 have HG2 := Keep.mk (HGr.out.blk HG.out fun e => Hne.out e.symm)
 have HD1 : Keep ((cur.toList.take ((i + 1) * 32) ++ flatH (l.drop i) ++ cur.toList.drop ((i + 1) * 32 + (l.drop i).length * 32)).toArray.toList = cur.toList.take ((i + 1) * 32) ++ flatH (l.drop i) ++ cur.toList.drop ((i + 1) * 32 + (l.length - i) * 32)) := ⟨by simp⟩
 generalize (cur.toList.take ((i + 1) * 32) ++ flatH (l.drop i) ++ cur.toList.drop ((i + 1) * 32 + (l.drop i).length * 32)).toArray = C1 at *
 refine hK _ _ trivial fun hH1 => ?_
 clear hK
 generalize w.drew.setRow g C1 = w2 at *
 simp only [Act.put, pqA, pqB, pqC]
 refine wpAnyH_done (by kernel_rfl) ?_ _
 refine hK14 _ _ ?_
 refine wp_seq_k fun K15 hK15 => rgn ?_
 refine VlS (.slice (some ⟨g, 0, none⟩) (l.length + 1) cap) ?_
 refine VlS (.int .i64 (i : Int)) ?_
 refine WL.slr (by kernel_rfl) 24 (.tmp 78) (some (.tmp 79)) (none) rfl _ (some (.int .i64 (i : Int))) (none) (.slice (some ⟨g, i * 32, none⟩) (l.length + 1 - i) (cap - i)) rfl rfl rfl ((slH_l _ _ _ i (by have := Hi.out; omega) _).trans (by have := Hi.out; have := Hc.out.1; unfold sliced; rw [if_neg (by omega), Option.map_some, Addr.add_mid, Nat.zero_add])) ?_
 simp only [Act.put, pqA, pqB, pqC]
 refine VlS (.slice (some ⟨gx, 0, none⟩) 1 1) ?_
 have hs1 : C1.size = cur.size := by have h := congrArg List.length HD1.out; simp only [List.length_append, List.length_take, List.length_drop, Array.length_toList, flatH_len] at h; have := Hi.out; have := Hc.out.1; have := Hcs.out; omega
 refine WL.copyR (by kernel_rfl) (.tmp 80) (.tmp 81) rfl g i _ _ gx 0 _ _ [y] C1 rfl rfl HC1.out (by rw [hs1, Hcs.out]; have := Hi.out; have := Hc.out.1; simp only [List.length_singleton]; omega) (by have := Hi.out; simp only [List.length_singleton]; exact (Nat.min_eq_left (by omega)).symm) (by have := blk_rng HG2.out; rw [show flatH [y] = (bytesA 32 y.f).toList from by simp [flatH, encH]]; exact this) _ rfl ?_
 have HC2 := Keep.mk (HC1.out.setRow (C1.toList.take (i * 32) ++ flatH [y] ++ C1.toList.drop (i * 32 + [y].length * 32)).toArray)
 have HGr2 : Keep (Grown w (w2.setRow g (C1.toList.take (i * 32) ++ flatH [y] ++ C1.toList.drop (i * 32 + [y].length * 32)).toArray) fun k => k = g) := ⟨HGr.out.trans (Grown.setRow w2 g _ fun _ => rfl)⟩
 have HT := two_b cur.toList (flatH (l.take i)) (flatH [y]) (flatH (l.drop i)) (i * 32) 32 ((l.length - i) * 32) (by rw [← flatH_take, ← Hct.out, List.take_take, Nat.min_eq_left (by have := Hi.out; omega)]) (by rw [flatH_len, List.length_take, Nat.min_eq_left (by have := Hi.out; omega)]) (by rw [flatH_len]; rfl) (by rw [flatH_len, List.length_drop]) (by rw [show cur.toList.length = cur.size from Array.length_toList, Hcs.out]; have := Hi.out; have := Hc.out.1; omega)
 rw [show i * 32 + 32 = (i + 1) * 32 by omega, ← flat_ins, ← HD1.out] at HT
 have hkT := Keep.mk HT
 have hE : Keep ((C1.toList.take (i * 32) ++ flatH [y] ++ C1.toList.drop (i * 32 + [y].length * 32)).toArray.toList = C1.toList.take (i * 32) ++ flatH [y] ++ C1.toList.drop ((i + 1) * 32)) := ⟨by simp [show i * 32 + 32 = (i + 1) * 32 by omega]⟩
 clear HT hs1
 generalize (C1.toList.take (i * 32) ++ flatH [y] ++ C1.toList.drop (i * 32 + [y].length * 32)).toArray = C2 at *
 generalize w2.setRow g C2 = w3 at *
 simp only [Act.put, pqA, pqB, pqC]
 refine WL.nil (hK15 _ _ ?_)
 refine wp_seq_k fun K16 hK16 => rgn ?_
 refine VlS (.slice (some ⟨g, 0, none⟩) (l.length + 1) cap) ?_
 refine VlS (.slice (some ⟨g, 0, none⟩) (l.length + 1) cap) ?_
 refine WL.nil (hK16 _ _ ?_)
 refine wp_ret ?_
 go_ret
 refine ⟨_, rfl, ?_, HGr2.out.mono (fun k _ e => by rw [e]; rfl), .inl rfl⟩
 refine ownH_mk HC2.out (by rw [insL_length]) (by rw [insL_length]; exact Hc.out.1) Hcm.out ?_ ?_
 ·rw [← Array.length_toList, hE.out, hkT.out.2, Array.length_toList, Hcs.out]
 ·rw [hE.out, insL_length, show (l.length + 1) * 32 = (i + 1) * 32 + (l.length - i) * 32 by have := Hi.out; omega]
  exact hkT.out.1

theorem insOk_end' (l : List Hs) (y : Hs) (hL : l.length ≤ 1000000000000) : InsOk l l.length y (l ++ [y]) := fun v gx w h1 h2 _ => ins_end v l gx y w h1 h2 hL
theorem insOk_any (l : List Hs) (i : Nat) (y : Hs) (hi : i ≤ l.length) (hL : l.length ≤ 1000000000000) : InsOk l i y (insL l i y) := fun v gx w hO hG hne => by
 rcases Nat.lt_or_eq_of_le hi with hlt | rfl
 ·rcases hO.form with ⟨rfl, rfl⟩ | ⟨g, cap, cur, rfl, hb, hc, _⟩
  ·simp at hlt
  ·obtain ⟨cur, _, _, _, hcm, _, _⟩ := ownH_blk hO
   by_cases hr : l.length + 1 ≤ cap
   ·exact ins_room g cap i gx l y w hO hG (fun e => hne (by rw [e]; rfl)) hlt hL ⟨hr, hcm⟩
   ·exact ins_grow g cap i gx l y w hO hG (fun e => hne (by rw [e]; rfl)) hlt hL ⟨hc, by omega⟩
 ·have := insOk_end' l y hL v gx w hO hG hne
  unfold insL
  rw [List.take_length, List.drop_length]
  exact this
def plc (v : VX) (l : List Hs) : Nat → Nat → Nat
 | 0, b => b
 | k + 1, b => if l.getD k default ∈ v.ps then b else plc v l k (if cf v.id (l.getD k default) < 0 then k else b)
set_option maxRecDepth 8000 in
set_option maxHeartbeats 1000000 in
theorem place_any (d : Nat) (v : VX) (p : Value) (Av : Nat → Prop) (g : DG) (w : World) (hD : DagAt w Av d g) (hr : HRow w p v.ps) (hI : Inc v.ps) (hL : v.ps.length ≤ 4398046511104) (hOl : g.order.length ≤ 4398046511104) : Calls Tryz.prog 126 #[ptr d, .agg (vtx v.id.f v.ck p)] w fun e w' => e = .returned (.int .i64 (plc v g.order g.order.length g.order.length : Int)) ∧ Below w.heap.size w w' := by
 obtain ⟨pa, pc, rfl⟩ := hr.form
 obtain ⟨vv, hvv⟩ : ∃ a : Array Value, Keep (a = vtx v.id.f v.ck (.slice pa v.ps.length pc)) := ⟨_, ⟨rfl⟩⟩
 rw [← hvv.out]
 obtain ⟨oa, oc, hov⟩ := hD.oo.sl
 have Hov := Keep.mk hov
 have HD := Keep.mk hD
 have HR := Keep.mk hr
 have HI := Keep.mk hI
 have HL := Keep.mk hL
 have HOl := Keep.mk hOl
 clear hD hr hI hL hOl hov
 go_enter Tryz.func126, Tryz.ntmps126
 refine wp_seq_k fun K1 hK1 => rgn ?_
 refine WL.box (by kernel_rfl) 139 (.tmp 1) rfl (vv) rfl ?_
 obtain ⟨w1, hwn⟩ : ∃ wx, Keep (wx = w.alloc (.cells (vv) 139)) := ⟨_, ⟨rfl⟩⟩
 rw [← hwn.out]
 have HX1 : Keep (Blk w1 w.heap.size 139 (vv)) := ⟨by rw [hwn.out]; exact Blk.new _ _ _⟩
 have LB1 : Keep (Below w.heap.size w w1) := ⟨by rw [hwn.out]; exact below_new _ _⟩
 clear hwn
 simp only [Act.put, pqA, pqB, pqC]
 refine VlS (.int .i64 0) ?_
 refine WL.nil (hK1 _ _ ?_)
 refine wp_seq_k fun K2 hK2 => ?_
 have HD1 := Keep.mk (HD.out.below LB1.out)
 have HR1 := Keep.mk (HR.out.below LB1.out)
 have c3 : w1.cell? ⟨d, 3, none⟩ = some (.slice oa g.order.length oc) := by have h := HD1.out.blk.c 3 (by rfl : (dgA g)[3]? = some g.ov); rw [Hov.out] at h; exact h
 have hwm : IntKind.i64.wrap ((g.order.length : Int) - 1) = (g.order.length : Int) - 1 := by rw [IntKind.wrap_i64]; have := HOl.out; omega
 refine rgn ?_
 refine VlS (.pointer (some ⟨d, 0, none⟩)) ?_
 refine VlS (.pointer (some ⟨d, 0, none⟩)) ?_
 refine VlS (.pointer (some ⟨d, 3, none⟩)) ?_
 refine VlS (.slice oa g.order.length oc) ?_
 refine VlS (.int .i64 (g.order.length : Int)) ?_
 refine VlS (.int .i64 (g.order.length : Int)) ?_
 refine WL.nil (hK2 _ _ ?_)
 refine wp_seq_k fun K3 hK3 => ?_
 refine wp_seq_k fun K4 hK4 => rgn ?_
 refine VlS (.pointer (some ⟨d, 0, none⟩)) ?_
 refine VlS (.pointer (some ⟨d, 0, none⟩)) ?_
 refine VlS (.pointer (some ⟨d, 3, none⟩)) ?_
 refine VlS (.slice oa g.order.length oc) ?_
 refine VlS (.int .i64 (g.order.length : Int)) ?_
 refine VlS (.int .i64 ((g.order.length : Int) - 1)) ?_
 refine VlS (.int .i64 ((g.order.length : Int) - 1)) ?_
 refine WL.nil (hK4 _ _ ?_)
 refine wp_block ?_
 refine wp_loop (fun ac wr => ∃ (t : Nat) (u18 u19 u20 u21 u22 u23 u24 u25 u26 u27 u28 u29 u30 u31 u32 u33 u34 u35 u36 u37 u38 u39 u40 u41 u42 u43 u44 u45 : Value) (k ak : Nat), ac = { tmps := #[.pointer (some ⟨d, 0, none⟩), .agg vv, undef, .pointer (some ⟨w.heap.size, 0, none⟩), .int .i64 0, .int .i64 (ak : Int), .int .i64 ((k : Int) - 1), .pointer (some ⟨d, 0, none⟩), .pointer (some ⟨d, 0, none⟩), .pointer (some ⟨d, 3, none⟩), .slice oa g.order.length oc, .int .i64 (g.order.length : Int), .pointer (some ⟨d, 0, none⟩), .pointer (some ⟨d, 0, none⟩), .pointer (some ⟨d, 3, none⟩), .slice oa g.order.length oc, .int .i64 (g.order.length : Int), .int .i64 ((g.order.length : Int) - 1), u18, u19, u20, u21, u22, u23, u24, u25, u26, u27, u28, u29, u30, u31, u32, u33, u34, u35, u36, u37, u38, u39, u40, u41, u42, u43, u44, u45, undef], defers := [] } ∧ k ≤ g.order.length ∧ plc v g.order g.order.length g.order.length = plc v g.order k ak ∧ Below w1.heap.size w1 wr) (fun a _ => (intOf (a.tmps.getD 6 undef) + 1).toNat) ⟨0, undef, undef, undef, undef, undef, undef, undef, undef, undef, undef, undef, undef, undef, undef, undef, undef, undef, undef, undef, undef, undef, undef, undef, undef, undef, undef, undef, undef, g.order.length, g.order.length, rfl, by omega, rfl, Below.refl _ _⟩ ?_
 rintro ac wr ⟨t, u18, u19, u20, u21, u22, u23, u24, u25, u26, u27, u28, u29, u30, u31, u32, u33, u34, u35, u36, u37, u38, u39, u40, u41, u42, u43, u44, u45, k, ak, rfl, hk, hP, hB⟩
 have JB := Keep.mk hB
 have JP := Keep.mk hP
 clear hB hP
 have HDr := Keep.mk (HD1.out.below JB.out)
 have HRr := Keep.mk (HR1.out.below JB.out)
 have HXr := Keep.mk (HX1.out.below JB.out HX1.out.lt)
 rcases k with _ | m
 ·have hk0 : (((0 : Nat) : Int) - 1) = -1 := by omega
  rw [hk0]
  have hge : ¬ (0 : Int) ≤ -1 := by omega
  refine wp_seq_k fun K5 hK5 => ?_
  refine wp_seq_k fun K6 hK6 => ?_
  refine wp_region_held_drew (S := fun _ => True) (by kernel_rfl) (trivial) (fun hHeld => ?_)
  refine TkG (i := 0) (oi := ⟨some 18, Op.move (Operand.tmp 6), 3, _, _, none⟩) (v := .int .i64 (-1)) rfl hHeld ?_
  refine TkG (i := 1) (oi := ⟨some 19, Op.binOp BinOp.geq 3 (Operand.tmp 18) (Operand.const (Value.int IntKind.i64 0)) 3, 4, _, _, none⟩) (v := .bool false) rfl hHeld ?_
  refine TkG (i := 2) (oi := ⟨some 20, Op.move (Operand.tmp 19), 4, _, _, none⟩) (v := .bool false) rfl hHeld ?_
  refine tkS (i := 3) (oi := ⟨some 21, Op.load 139 (Operand.tmp 3), 139, _, _, some (2, true)⟩) (v := undef) rfl (Or.inr ⟨by rfl, rfl⟩) hHeld ?_
  refine tkS (i := 4) (oi := ⟨some 22, Op.move (Operand.tmp 0), 133, _, _, some (2, true)⟩) (v := undef) rfl (Or.inr ⟨by rfl, rfl⟩) hHeld ?_
  refine tkS (i := 5) (oi := ⟨some 23, Op.nilCheck (Operand.tmp 22), 0, _, _, some (2, true)⟩) (v := undef) rfl (Or.inr ⟨by rfl, rfl⟩) hHeld ?_
  refine tkS (i := 6) (oi := ⟨some 24, Op.fieldAddr 152 (Operand.tmp 23) 3, 0, _, _, some (2, true)⟩) (v := undef) rfl (Or.inr ⟨by rfl, rfl⟩) hHeld ?_
  refine tkS (i := 7) (oi := ⟨some 25, Op.load 24 (Operand.tmp 24), 24, _, _, some (2, true)⟩) (v := undef) rfl (Or.inr ⟨by rfl, rfl⟩) hHeld ?_
  refine tkS (i := 8) (oi := ⟨some 26, Op.move (Operand.tmp 6), 3, _, _, some (2, true)⟩) (v := undef) rfl (Or.inr ⟨by rfl, rfl⟩) hHeld ?_
  refine tkS (i := 9) (oi := ⟨some 27, Op.indexAddr 24 (Operand.tmp 25) (Operand.tmp 26), 0, _, _, some (2, true)⟩) (v := undef) rfl (Or.inr ⟨by rfl, rfl⟩) hHeld ?_
  refine tkS (i := 10) (oi := ⟨some 28, Op.load 36 (Operand.tmp 27), 36, _, _, some (2, true)⟩) (v := undef) rfl (Or.inr ⟨by rfl, rfl⟩) hHeld ?_
  refine tkS (i := 11) (oi := ⟨some 29, Op.call { callee := Callee.value (Operand.func 129), args := #[Operand.tmp 21, Operand.tmp 28], argTypes := #[139, 36] }, 4, _, _, some (2, true)⟩) (v := undef) rfl (Or.inr ⟨by rfl, rfl⟩) hHeld ?_
  refine tkS (i := 12) (oi := ⟨some 30, Op.unOp UnOp.not 4 (Operand.tmp 29), 4, _, _, some (2, true)⟩) (v := undef) rfl (Or.inr ⟨by rfl, rfl⟩) hHeld ?_
  refine TkG (i := 13) (oi := ⟨some 31, Op.pick (Operand.tmp 20) (Operand.tmp 30) (Operand.const (Value.bool false)), 4, _, _, none⟩) (v := .bool false) rfl hHeld ?_
  refine wpAnyH_done (by kernel_rfl) ?_ _
  refine hK6 _ _ ?_
  refine wp_cond_false rfl ?_
  refine wp_exit ?_
  refine hK3 _ _ ?_
  refine wp_seq_k fun K7 hK7 => rgn ?_
  refine VlS (.int .i64 (ak : Int)) ?_
  refine VlS (.int .i64 (ak : Int)) ?_
  refine WL.nil (hK7 _ _ ?_)
  refine wp_ret ?_
  go_ret
  refine ⟨?_, belowT LB1.out (belowT JB.out (Below.refl _ _).drew)⟩
  rw [JP.out]; rfl
 ·have hkm : (((m + 1 : Nat) : Int) - 1) = (m : Int) := by omega
  rw [hkm]
  have hge : (0 : Int) ≤ (m : Int) := by omega
  have hml : m < g.order.length := by omega
  have hml' : (m : Int) < (g.order.length : Int) := by omega
  have hwm1 : IntKind.i64.wrap ((m : Int) - 1) = (m : Int) - 1 := by rw [IntKind.wrap_i64]; have := HOl.out; omega
  obtain ⟨gp, op, hpa, _, _, hrg⟩ := (Hov.out ▸ HDr.out.oo.row : HRow wr (.slice oa g.order.length oc) g.order).at (by omega)
  have hel := rangeAt_elem hrg m hml
  obtain ⟨hh, hhh⟩ : ∃ hh, hh = g.order[m] := ⟨_, rfl⟩
  rw [← hhh] at hel
  have Jhh : Keep (g.order.getD m default = hh) := ⟨by rw [hhh, List.getD_eq_getElem?_getD, List.getElem?_eq_getElem hml, Option.getD_some]⟩
  have Hel := Keep.mk hel
  subst hpa
  clear hrg hhh hel hkm
  refine wp_seq_k fun K8 hK8 => ?_
  refine wp_seq_k fun K9 hK9 => ?_
  have hSB : Keep (∀ wx, Below wr.heap.size wr wx → (fun wx => wx.cell? ⟨d, 3, none⟩ = some (.slice (some ⟨gp, op, none⟩) g.order.length oc) ∧ wx.rangeAt gp (op + m * 32) (encH hh) ∧ wx.rangeAt w.heap.size 0 (bytesA 32 v.id.f).toList ∧ wx.rangeAt w.heap.size 0 vv.toList) wx) := ⟨fun wx hb => ⟨by have h := (HDr.out.blk.below hb HDr.out.blk.lt).c 3 (by rfl : (dgA g)[3]? = some g.ov); rw [Hov.out] at h; exact h, rangeAt_below Hel.out hb (rangeAt_ltE Hel.out), vtx_rng (hvv.out ▸ HXr.out.below hb HXr.out.lt), blk_rng (HXr.out.below hb HXr.out.lt)⟩⟩
  have B3 : Keep (Below wr.heap.size wr wr.drew) := ⟨(Below.refl _ _).drew⟩
  obtain ⟨nn, hnn⟩ : ∃ b, (!decide (hh ∈ v.ps)) = b := ⟨_, rfl⟩
  have Hnn := Keep.mk hnn
  obtain ⟨nb, hnb⟩ : ∃ b, decide (hh ∈ v.ps) = b := ⟨_, rfl⟩
  rw [hnb] at hnn
  have Hnb := Keep.mk hnb
  clear hnb
  refine wp_region_held_drew (S := fun wx => wx.cell? ⟨d, 3, none⟩ = some (.slice (some ⟨gp, op, none⟩) g.order.length oc) ∧ wx.rangeAt gp (op + m * 32) (encH hh) ∧ wx.rangeAt w.heap.size 0 (bytesA 32 v.id.f).toList ∧ wx.rangeAt w.heap.size 0 vv.toList) (by kernel_rfl) (hSB.out _ B3.out) (fun hHeld => ?_)
  refine tkS (i := 0) (oi := ⟨some 18, Op.move (Operand.tmp 6), 3, _, _, none⟩) (v := .int .i64 (m : Int)) rfl (Or.inl ⟨by rfl, fun w hS => by obtain ⟨hS1, hS2, hS3, hS4⟩ := hS; go_simp⟩) hHeld ?_
  refine tkS (i := 1) (oi := ⟨some 19, Op.binOp BinOp.geq 3 (Operand.tmp 18) (Operand.const (Value.int IntKind.i64 0)) 3, 4, _, _, none⟩) (v := .bool true) rfl (Or.inl ⟨by rfl, fun w hS => by obtain ⟨hS1, hS2, hS3, hS4⟩ := hS; go_simp⟩) hHeld ?_
  refine tkS (i := 2) (oi := ⟨some 20, Op.move (Operand.tmp 19), 4, _, _, none⟩) (v := .bool true) rfl (Or.inl ⟨by rfl, fun w hS => by obtain ⟨hS1, hS2, hS3, hS4⟩ := hS; go_simp⟩) hHeld ?_
  refine tkS (i := 3) (oi := ⟨some 21, Op.load 139 (Operand.tmp 3), 139, _, _, some (2, true)⟩) (v := .agg vv) rfl (yieldsIf_ld (by rfl) (Operand.tmp 3) 139 rfl w.heap.size 0 rfl vv _ Tryz.underlying139 rfl (by rw [hvv.out]; exact Tryz.info139s _ _ _) fun w hS => hS.2.2.2) hHeld ?_
  refine tkS (i := 4) (oi := ⟨some 22, Op.move (Operand.tmp 0), 133, _, _, some (2, true)⟩) (v := .pointer (some ⟨d, 0, none⟩)) rfl (Or.inl ⟨by rfl, fun w hS => by obtain ⟨hS1, hS2, hS3, hS4⟩ := hS; go_simp⟩) hHeld ?_
  refine tkS (i := 5) (oi := ⟨some 23, Op.nilCheck (Operand.tmp 22), 0, _, _, some (2, true)⟩) (v := .pointer (some ⟨d, 0, none⟩)) rfl (Or.inl ⟨by rfl, fun w hS => by obtain ⟨hS1, hS2, hS3, hS4⟩ := hS; go_simp⟩) hHeld ?_
  refine tkS (i := 6) (oi := ⟨some 24, Op.fieldAddr 152 (Operand.tmp 23) 3, 0, _, _, some (2, true)⟩) (v := .pointer (some ⟨d, 3, none⟩)) rfl (Or.inl ⟨by rfl, fun w hS => by obtain ⟨hS1, hS2, hS3, hS4⟩ := hS; go_simp⟩) hHeld ?_
  refine tkS (i := 7) (oi := ⟨some 25, Op.load 24 (Operand.tmp 24), 24, _, _, some (2, true)⟩) (v := .slice (some ⟨gp, op, none⟩) g.order.length oc) rfl (Or.inl ⟨by rfl, fun w hS => by obtain ⟨hS1, hS2, hS3, hS4⟩ := hS; go_simp⟩) hHeld ?_
  refine tkS (i := 8) (oi := ⟨some 26, Op.move (Operand.tmp 6), 3, _, _, some (2, true)⟩) (v := .int .i64 (m : Int)) rfl (Or.inl ⟨by rfl, fun w hS => by obtain ⟨hS1, hS2, hS3, hS4⟩ := hS; go_simp⟩) hHeld ?_
  refine TkG (i := 9) (oi := ⟨some 27, Op.indexAddr 24 (Operand.tmp 25) (Operand.tmp 26), 0, _, _, some (2, true)⟩) (v := .pointer (some ⟨gp, op + m * 32, none⟩)) rfl hHeld ?_
  refine tkS (i := 10) (oi := ⟨some 28, Op.load 36 (Operand.tmp 27), 36, _, _, some (2, true)⟩) (v := .agg (bytesA 32 hh.f)) rfl (yieldsIf_ldE (by rfl) (Operand.tmp 27) rfl gp (op + m * 32) rfl hh fun w hS => hS.2.1) hHeld ?_
  refine wpAnyH_ready (rs := [11]) (by kernel_rfl) (by simp) ?_
  refine AllReadyH.cons (o := ⟨some 29, Op.call { callee := Callee.value (Operand.func 129), args := #[Operand.tmp 21, Operand.tmp 28], argTypes := #[139, 36] }, 4, _, _, some (2, true)⟩) rfl (fun K hK => ?_) AllReadyH.nil
  rw [if_pos (by rfl)]
  have hnm := names_any v hh _ wr.drew (HRr.out.below (Below.refl _ _).drew) HI.out HL.out
  rw [← hvv.out, Hnb.out] at hnm
  refine wp_callF 129 _ _ rfl Tryz.in129 #[.agg vv, .agg (bytesA 32 hh.f)] (by simp [Act.eval]) (fun u wx => u = .bool nb ∧ Below wr.drew.heap.size wr.drew wx) (hnm.mono fun e w' h => ⟨_, h.1, rfl, h.2⟩) ?_
  clear hnm
  rintro _ w3 ⟨rfl, hb3⟩
  have B4 : Keep (Below wr.heap.size wr w3) := ⟨belowT B3.out hb3⟩
  refine hK _ _ (hSB.out _ B4.out) fun hH1 => ?_
  clear hK hb3
  simp only [Act.put, pqA, pqB, pqC]
  refine tkS (i := 12) (oi := ⟨some 30, Op.unOp UnOp.not 4 (Operand.tmp 29), 4, _, _, some (2, true)⟩) (v := .bool nn) rfl (Or.inl ⟨by rfl, fun w hS => by obtain ⟨hS1, hS2, hS3, hS4⟩ := hS; go_simp⟩) hH1 ?_
  refine tkS (i := 13) (oi := ⟨some 31, Op.pick (Operand.tmp 20) (Operand.tmp 30) (Operand.const (Value.bool false)), 4, _, _, none⟩) (v := .bool nn) rfl (Or.inl ⟨by rfl, fun w hS => by obtain ⟨hS1, hS2, hS3, hS4⟩ := hS; go_simp⟩) hH1 ?_
  refine wpAnyH_done (by kernel_rfl) ?_ _
  refine hK9 _ _ ?_
  rcases Bool.eq_false_or_eq_true nn with hnq | hnq
  ·subst hnq
   refine wp_cond_true rfl ?_
   refine wp_skip ?_
   refine hK8 _ _ ?_
   refine wp_seq_k fun K10 hK10 => ?_
   refine wp_block ?_
   refine wp_seq_k fun K11 hK11 => ?_
   have B5 : Keep (Below wr.heap.size wr w3.drew) := ⟨B4.out.drew⟩
   obtain ⟨cb, hcb⟩ : ∃ b, decide (cf v.id hh < 0) = b := ⟨_, rfl⟩
   have Hcb := Keep.mk hcb
   refine wp_region_held_drew (S := fun wx => wx.cell? ⟨d, 3, none⟩ = some (.slice (some ⟨gp, op, none⟩) g.order.length oc) ∧ wx.rangeAt gp (op + m * 32) (encH hh) ∧ wx.rangeAt w.heap.size 0 (bytesA 32 v.id.f).toList ∧ wx.rangeAt w.heap.size 0 vv.toList) (by kernel_rfl) (hSB.out _ B5.out) (fun hHeld => ?_)
   refine tkS (i := 0) (oi := ⟨some 34, Op.fieldAddr 139 (Operand.tmp 3) 0, 0, _, _, none⟩) (v := .pointer (some ⟨w.heap.size, 0, none⟩)) rfl (Or.inl ⟨by rfl, fun w hS => by obtain ⟨hS1, hS2, hS3, hS4⟩ := hS; go_simp⟩) hHeld ?_
   refine tkS (i := 1) (oi := ⟨some 35, Op.load 36 (Operand.tmp 34), 36, _, _, none⟩) (v := .agg (bytesA 32 v.id.f)) rfl (yieldsIf_ld (by rfl) (Operand.tmp 34) 36 rfl w.heap.size 0 rfl (bytesA 32 v.id.f) _ Tryz.underlying36 rfl (size36A _) fun w hS => hS.2.2.1) hHeld ?_
   refine tkS (i := 2) (oi := ⟨some 36, Op.move (Operand.tmp 0), 133, _, _, none⟩) (v := .pointer (some ⟨d, 0, none⟩)) rfl (Or.inl ⟨by rfl, fun w hS => by obtain ⟨hS1, hS2, hS3, hS4⟩ := hS; go_simp⟩) hHeld ?_
   refine tkS (i := 3) (oi := ⟨some 37, Op.nilCheck (Operand.tmp 36), 0, _, _, none⟩) (v := .pointer (some ⟨d, 0, none⟩)) rfl (Or.inl ⟨by rfl, fun w hS => by obtain ⟨hS1, hS2, hS3, hS4⟩ := hS; go_simp⟩) hHeld ?_
   refine tkS (i := 4) (oi := ⟨some 38, Op.fieldAddr 152 (Operand.tmp 37) 3, 0, _, _, none⟩) (v := .pointer (some ⟨d, 3, none⟩)) rfl (Or.inl ⟨by rfl, fun w hS => by obtain ⟨hS1, hS2, hS3, hS4⟩ := hS; go_simp⟩) hHeld ?_
   refine tkS (i := 5) (oi := ⟨some 39, Op.load 24 (Operand.tmp 38), 24, _, _, none⟩) (v := .slice (some ⟨gp, op, none⟩) g.order.length oc) rfl (Or.inl ⟨by rfl, fun w hS => by obtain ⟨hS1, hS2, hS3, hS4⟩ := hS; go_simp⟩) hHeld ?_
   refine tkS (i := 6) (oi := ⟨some 40, Op.move (Operand.tmp 6), 3, _, _, none⟩) (v := .int .i64 (m : Int)) rfl (Or.inl ⟨by rfl, fun w hS => by obtain ⟨hS1, hS2, hS3, hS4⟩ := hS; go_simp⟩) hHeld ?_
   refine TkG (i := 7) (oi := ⟨some 41, Op.indexAddr 24 (Operand.tmp 39) (Operand.tmp 40), 0, _, _, none⟩) (v := .pointer (some ⟨gp, op + m * 32, none⟩)) rfl hHeld ?_
   refine tkS (i := 8) (oi := ⟨some 42, Op.load 36 (Operand.tmp 41), 36, _, _, none⟩) (v := .agg (bytesA 32 hh.f)) rfl (yieldsIf_ldE (by rfl) (Operand.tmp 41) rfl gp (op + m * 32) rfl hh fun w hS => hS.2.1) hHeld ?_
   refine wpAnyH_ready (rs := [9]) (by kernel_rfl) (by simp) ?_
   refine AllReadyH.cons (o := ⟨some 43, Op.call { callee := Callee.value (Operand.func 86), args := #[Operand.tmp 35, Operand.tmp 42], argTypes := #[36, 36] }, 3, _, _, none⟩) rfl (fun K hK => ?_) AllReadyH.nil
   rw [if_pos (by rfl)]
   refine wp_callF 86 _ _ rfl Tryz.in86 #[.agg (bytesA 32 v.id.f), .agg (bytesA 32 hh.f)] (by simp [Act.eval]) _ (cmp_any v.id hh _) ?_
   rintro _ w6 ⟨rfl, hb6⟩
   have B6 : Keep (Below wr.heap.size wr w6) := ⟨belowT B5.out hb6⟩
   refine hK _ _ (hSB.out _ B6.out) fun hH1 => ?_
   clear hK hb6
   simp only [Act.put, pqA, pqB, pqC]
   refine tkS (i := 10) (oi := ⟨some 44, Op.binOp BinOp.lss 3 (Operand.tmp 43) (Operand.const (Value.int IntKind.i64 0)) 3, 4, _, _, none⟩) (v := .bool cb) rfl (Or.inl ⟨by rfl, fun w hS => by obtain ⟨hS1, hS2, hS3, hS4⟩ := hS; go_simp⟩) hH1 ?_
   refine wpAnyH_done (by kernel_rfl) ?_ _
   refine hK11 _ _ ?_
   rcases Bool.eq_false_or_eq_true cb with hcq | hcq
   ·subst hcq
    refine wp_cond_true rfl ?_
    refine rgn ?_
    refine VlS (.int .i64 (m : Int)) ?_
    refine VlS (.int .i64 (m : Int)) ?_
    refine WL.nil (hK10 _ _ ?_)
    refine rgn ?_
    refine VlS (.int .i64 (m : Int)) ?_
    refine VlS (.int .i64 ((m : Int) - 1)) ?_
    refine VlS (.int .i64 ((m : Int) - 1)) ?_
    refine WL.nil ?_
    have hnp : ¬ hh ∈ v.ps := by have h := Hnn.out; simpa using h
    have hc : cf v.id hh < 0 := of_decide_eq_true Hcb.out
    refine ⟨⟨0, .int .i64 (m : Int), .bool true, .bool true, .agg vv, .pointer (some ⟨d, 0, none⟩), .pointer (some ⟨d, 0, none⟩), .pointer (some ⟨d, 3, none⟩), .slice (some ⟨gp, op, none⟩) g.order.length oc, .int .i64 (m : Int), .pointer (some ⟨gp, op + m * 32, none⟩), .agg (bytesA 32 hh.f), .bool nb, .bool true, .bool true, .int .i64 (m : Int), .int .i64 ((m : Int) - 1), .pointer (some ⟨w.heap.size, 0, none⟩), .agg (bytesA 32 v.id.f), .pointer (some ⟨d, 0, none⟩), .pointer (some ⟨d, 0, none⟩), .pointer (some ⟨d, 3, none⟩), .slice (some ⟨gp, op, none⟩) g.order.length oc, .int .i64 (m : Int), .pointer (some ⟨gp, op + m * 32, none⟩), .agg (bytesA 32 hh.f), .int .i64 (cf v.id hh), .bool true, .int .i64 (m : Int), m, m, rfl, by omega, ?_, belowT JB.out B6.out⟩, ?_⟩
    ·rw [JP.out, plc, Jhh.out, if_neg hnp, if_pos hc]
    ·simp only [intOf]; show ((m : Int) - 1 + 1).toNat < ((m : Int) + 1).toNat; omega
   ·subst hcq
    refine wp_cond_false rfl ?_
    refine wp_skip ?_
    refine hK10 _ _ ?_
    refine rgn ?_
    refine VlS (.int .i64 (m : Int)) ?_
    refine VlS (.int .i64 ((m : Int) - 1)) ?_
    refine VlS (.int .i64 ((m : Int) - 1)) ?_
    refine WL.nil ?_
    have hnp : ¬ hh ∈ v.ps := by have h := Hnn.out; simpa using h
    have hc : ¬ cf v.id hh < 0 := of_decide_eq_false Hcb.out
    refine ⟨⟨0, .int .i64 (m : Int), .bool true, .bool true, .agg vv, .pointer (some ⟨d, 0, none⟩), .pointer (some ⟨d, 0, none⟩), .pointer (some ⟨d, 3, none⟩), .slice (some ⟨gp, op, none⟩) g.order.length oc, .int .i64 (m : Int), .pointer (some ⟨gp, op + m * 32, none⟩), .agg (bytesA 32 hh.f), .bool nb, .bool true, .bool true, .int .i64 (m : Int), .int .i64 ((m : Int) - 1), .pointer (some ⟨w.heap.size, 0, none⟩), .agg (bytesA 32 v.id.f), .pointer (some ⟨d, 0, none⟩), .pointer (some ⟨d, 0, none⟩), .pointer (some ⟨d, 3, none⟩), .slice (some ⟨gp, op, none⟩) g.order.length oc, .int .i64 (m : Int), .pointer (some ⟨gp, op + m * 32, none⟩), .agg (bytesA 32 hh.f), .int .i64 (cf v.id hh), .bool false, u45, m, ak, rfl, by omega, ?_, belowT JB.out B6.out⟩, ?_⟩
    ·rw [JP.out, plc, Jhh.out, if_neg hnp, if_neg hc]
    ·simp only [intOf]; show ((m : Int) - 1 + 1).toNat < ((m : Int) + 1).toNat; omega
  ·subst hnq
   refine wp_cond_false rfl ?_
   refine wp_exit ?_
   refine hK3 _ _ ?_
   refine wp_seq_k fun K12 hK12 => rgn ?_
   refine VlS (.int .i64 (ak : Int)) ?_
   refine VlS (.int .i64 (ak : Int)) ?_
   refine WL.nil (hK12 _ _ ?_)
   refine wp_ret ?_
   go_ret
   have hnp : hh ∈ v.ps := by have h := Hnn.out; simpa using h
   refine ⟨?_, belowT LB1.out (belowT JB.out B4.out)⟩
   rw [JP.out, plc, Jhh.out, if_pos hnp]; rfl
set_option maxRecDepth 8000 in
theorem add_other (d : Nat) (v : VX) (p : Value) (Av : Nat → Prop) (g : DG) (w : World) (hw ee : Int) (hD : DagAt w Av d g) (hr : HRow w p v.ps) (hM : ∀ v ∈ g.held, 0 ≤ v.ck ∧ v.ck ≤ 4096) (hL : (v.ps.length : Int) ≤ 9223372036854775806) (hFt : fitV g.held g.wait v = (hw, ee)) (hN : ¬ hw = 2 ∧ ¬ hw = 3) :
  Calls Tryz.prog 79 #[ptr d, .agg (vtx v.id.f v.ck p)] w fun e w' => e = .returned (.tuple #[.int .i64 hw, .slice none 0 0, .int .i64 ee]) ∧ Below w.heap.size w w' := by
 obtain ⟨pa, pc, rfl⟩ := hr.form
 obtain ⟨vv, hvv⟩ : ∃ a : Array Value, Keep (a = vtx v.id.f v.ck (.slice pa v.ps.length pc)) := ⟨_, ⟨rfl⟩⟩
 rw [← hvv.out]
 have HD := Keep.mk hD
 have HR := Keep.mk hr
 have HM := Keep.mk hM
 have HL := Keep.mk hL
 have HFt := Keep.mk hFt
 have HN := Keep.mk hN
 clear hD hr hM hL hFt hN
 go_enter Tryz.func79, Tryz.ntmps79
 refine wp_seq_k fun K1 hK1 => rgn ?_
 refine WL.box (by kernel_rfl) 139 (.tmp 1) rfl (vv) rfl ?_
 obtain ⟨w1, hwn⟩ : ∃ wx, Keep (wx = w.alloc (.cells (vv) 139)) := ⟨_, ⟨rfl⟩⟩
 rw [← hwn.out]
 have HX1 : Keep (Blk w1 w.heap.size 139 (vv)) := ⟨by rw [hwn.out]; exact Blk.new _ _ _⟩
 have LB1 : Keep (Below w.heap.size w w1) := ⟨by rw [hwn.out]; exact below_new _ _⟩
 clear hwn
 have HD1 := Keep.mk (HD.out.below LB1.out)
 have HR1 := Keep.mk (HR.out.below LB1.out)
 simp only [Act.put, pqA, pqB, pqC]
 refine VlS (.int .i64 0) ?_
 refine VlS (.slice none 0 0) ?_
 refine VlS (.int .i64 0) ?_
 refine WL.nil (hK1 _ _ ?_)
 refine wp_seq_k fun K2 hK2 => rgn ?_
 refine VlS (.pointer (some ⟨d, 0, none⟩)) ?_
 refine WL.row (by kernel_rfl) 139 (.tmp 3) rfl w.heap.size rfl 139 vv _ HX1.out Tryz.underlying139 rfl (by rw [hvv.out]; exact Tryz.info139s _ _ _) ?_
 simp only [Act.put, pqA, pqB, pqC]
 have hft := fit_any d v _ Av g w1 HD1.out HR1.out HM.out HL.out
 rw [← hvv.out, HFt.out] at hft
 refine WL.callF (by kernel_rfl) 96 _ _ rfl Tryz.in96 #[ptr d, .agg vv] (by simp [Act.eval]) ?_
 refine (hft).mono ?_
 rintro e w2 ⟨rfl, hz⟩
 refine ⟨_, rfl, ?_⟩
 clear hft
 have LB2 := Keep.mk (belowT LB1.out hz)
 clear hz
 have hn2 := HN.out.1
 have hn3 := HN.out.2
 simp only [Act.put, pqA, pqB, pqC]
 refine VlS (.tuple #[.int .i64 hw, .int .i64 ee]) ?_
 refine VlS (.int .i64 hw) ?_
 refine VlS (.int .i64 ee) ?_
 refine VlS (.int .i64 hw) ?_
 refine VlS (.int .i64 ee) ?_
 refine WL.nil (hK2 _ _ ?_)
 refine wp_seq_k fun K3 hK3 => ?_
 refine wp_seq_k fun K4 hK4 => rgn ?_
 refine VlS (.int .i64 hw) ?_
 refine WL.nil (hK4 _ _ ?_)
 refine wp_block ?_
 refine wp_seq_k fun K5 hK5 => rgn ?_
 refine VbF ?_
 refine VbF ?_
 refine WL.nil (hK5 _ _ ?_)
 refine wp_cond_false rfl ?_
 refine wp_seq_k fun K6 hK6 => rgn ?_
 refine VbF ?_
 refine VbF ?_
 refine WL.nil (hK6 _ _ ?_)
 refine wp_cond_false rfl ?_
 refine wp_skip ?_
 refine hK3 _ _ ?_
 refine wp_seq_k fun K7 hK7 => rgn ?_
 refine VlS (.int .i64 hw) ?_
 refine VlS (.slice none 0 0) ?_
 refine VlS (.int .i64 ee) ?_
 refine VlS (.int .i64 hw) ?_
 refine VlS (.slice none 0 0) ?_
 refine VlS (.int .i64 ee) ?_
 refine WL.nil (hK7 _ _ ?_)
 refine wp_ret ?_
 go_ret3
 exact ⟨rfl, LB2.out⟩
theorem rises_pw {L : List Hs} (h : risesB L = true) : L.Pairwise Lt := by
 rw [risesB_iff] at h
 have key : ∀ n i : Nat, i + n + 1 < L.length → Lt (L.getD i default) (L.getD (i + n + 1) default) := by
  intro n
  induction n with
  | zero => intro i hi; exact h i hi
  | succ n ih =>
   intro i hi
   have h1 := ih i (by omega)
   have h2 := h (i + n + 1) (by omega)
   exact h1.trans h2
 rw [List.pairwise_iff_getElem]
 intro i j hi hj hij
 have := key (j - i - 1) i (by omega)
 rw [show i + (j - i - 1) + 1 = j by omega] at this
 simpa [List.getD_eq_getElem?_getD, hi, hj] using this
theorem pw_inc {L : List Hs} (h : L.Pairwise Lt) : Inc L := fun i j hij hj => by
 have := (List.pairwise_iff_getElem.1 h) i j (by omega) hj hij
 simpa [List.getD_eq_getElem?_getD, hj, show i < L.length by omega] using this
theorem pw_nodup {L : List Hs} (h : L.Pairwise Lt) : L.Nodup := h.imp fun h => h.ne
theorem getD_at {l : List Hs} {k : Nat} {z : Hs} (h : l[k]? = some z) : l.getD k default = z := by rw [List.getD_eq_getElem?_getD, h]; rfl
theorem at_getD {l : List Hs} {k : Nat} (h : k < l.length) : l[k]? = some (l.getD k default) := by rw [List.getD_eq_getElem?_getD, List.getElem?_eq_getElem h]; rfl
theorem plc_gen (v : VX) (l : List Hs) : ∀ k b, k ≤ b → b ≤ l.length → (∀ (j : Nat) z, k ≤ j → l[j]? = some z → z ∉ v.ps) → (∀ z, l[b]? = some z → Lt v.id z) → (∀ (j : Nat) z, k ≤ j → j < b → l[j]? = some z → ¬ Lt v.id z) →
  plc v l k b ≤ l.length ∧ (∀ (j : Nat) z, l[j]? = some z → z ∈ v.ps → j < plc v l k b) ∧ (∀ z, l[plc v l k b]? = some z → Lt v.id z) ∧ (∀ (i : Nat) z, i < plc v l k b → l[i]? = some z → Lt v.id z → ∃ (j : Nat) (y : Hs), i ≤ j ∧ l[j]? = some y ∧ y ∈ v.ps)
 | 0, b, h1, h2, h3, h4, h5 => by
  unfold plc
  exact ⟨h2, fun j z hj hz => absurd hz (h3 j z (Nat.zero_le _) hj), h4, fun i z hi hz hlt => absurd hlt (h5 i z (Nat.zero_le _) hi hz)⟩
 | k + 1, b, h1, h2, h3, h4, h5 => by
  have hk := at_getD (l := l) (k := k) (by omega)
  unfold plc
  by_cases hp : l.getD k default ∈ v.ps
  ·rw [if_pos hp]
   refine ⟨h2, fun j z hj hz => ?_, h4, fun i z hi hz hlt => ?_⟩
   ·exact Nat.lt_of_not_le fun hb => h3 j z (by omega) hj hz
   ·by_cases hik : i ≤ k
    ·exact ⟨k, _, hik, hk, hp⟩
    ·exact absurd hlt (h5 i z (by omega) hi hz)
  ·rw [if_neg hp]
   refine plc_gen v l k _ ?_ ?_ ?_ ?_ ?_
   ·split <;> omega
   ·split <;> omega
   ·intro j z hj hz
    rcases Nat.lt_or_eq_of_le hj with h | rfl
    ·exact h3 j z h hz
    ·rw [hk] at hz; cases hz; exact hp
   ·intro z hz
    by_cases hc : cf v.id (l.getD k default) < 0
    ·rw [if_pos hc, hk] at hz; cases hz; exact hc
    ·rw [if_neg hc] at hz; exact h4 z hz
   ·intro j z hj hb hz
    rcases Nat.lt_or_eq_of_le hj with h | rfl
    ·refine h5 j z h ?_ hz
     split at hb <;> omega
    ·rw [hk] at hz; cases hz
     intro hc
     have hc' : cf v.id (l.getD k default) < 0 := hc
     rw [if_pos hc'] at hb
     omega
theorem plc_spec (v : VX) (l : List Hs) :
  plc v l l.length l.length ≤ l.length ∧ (∀ (j : Nat) z, l[j]? = some z → z ∈ v.ps → j < plc v l l.length l.length) ∧ (∀ z, l[plc v l l.length l.length]? = some z → Lt v.id z) ∧ (∀ (i : Nat) z, i < plc v l l.length l.length → l[i]? = some z → Lt v.id z → ∃ (j : Nat) (y : Hs), i ≤ j ∧ l[j]? = some y ∧ y ∈ v.ps) :=
 plc_gen v l l.length l.length (Nat.le_refl _) (Nat.le_refl _) (fun j z hj hz => by rw [List.getElem?_eq_none hj] at hz; cases hz) (fun z hz => by rw [List.getElem?_eq_none (Nat.le_refl _)] at hz; cases hz) (fun j z h1 h2 => by omega)
theorem isV_iff {x : Hs} {v : VX} : isV x v = true ↔ v.id = x := by unfold isV; rw [decide_eq_true_iff]; exact eq_comm
theorem hasB_iff {l : List VX} {x : Hs} : hasB l x = true ↔ ∃ v ∈ l, v.id = x := by
 unfold hasB
 rw [List.find?_isSome]
 exact ⟨fun ⟨v, h1, h2⟩ => ⟨v, h1, isV_iff.1 h2⟩, fun ⟨v, h1, h2⟩ => ⟨v, h1, isV_iff.2 h2⟩⟩
theorem hasB_no {l : List VX} {x : Hs} : hasB l x = false ↔ ∀ v ∈ l, v.id ≠ x := by
 rw [Bool.eq_false_iff]
 constructor
 ·intro h v hv e; exact h (hasB_iff.2 ⟨v, hv, e⟩)
 ·intro h e; obtain ⟨v, hv, e⟩ := hasB_iff.1 e; exact h v hv e
theorem hasB_app {l m : List VX} {x : Hs} : hasB (l ++ m) x = (hasB l x || hasB m x) := by
 rw [Bool.eq_iff_iff, Bool.or_eq_true, hasB_iff, hasB_iff, hasB_iff]
 constructor
 ·rintro ⟨v, hv, e⟩
  rcases List.mem_append.1 hv with h | h
  ·exact .inl ⟨v, h, e⟩
  ·exact .inr ⟨v, h, e⟩
 ·rintro (⟨v, h, e⟩ | ⟨v, h, e⟩)
  ·exact ⟨v, List.mem_append.2 (.inl h), e⟩
  ·exact ⟨v, List.mem_append.2 (.inr h), e⟩
theorem hasB_one {v : VX} {x : Hs} : hasB [v] x = true ↔ x = v.id := by
 rw [hasB_iff]
 constructor
 ·rintro ⟨u, hu, e⟩; rw [List.mem_singleton] at hu; subst hu; exact e.symm
 ·rintro rfl; exact ⟨v, by simp, rfl⟩
theorem find_none {l : List VX} {x : Hs} (h : hasB l x = false) : l.find? (isV x) = none := by
 unfold hasB at h
 cases hf : l.find? (isV x) with
 | none => rfl
 | some v => rw [hf] at h; cases h
theorem find_has {l : List VX} {x : Hs} (h : hasB l x = true) : ∃ v, l.find? (isV x) = some v ∧ v ∈ l ∧ v.id = x := by
 unfold hasB at h
 obtain ⟨v, hv⟩ := Option.isSome_iff_exists.1 h
 exact ⟨v, hv, List.mem_of_find?_eq_some hv, isV_iff.1 (List.find?_some hv)⟩
theorem find_mem {l : List VX} (hn : (l.map (·.id)).Nodup) {v : VX} (hv : v ∈ l) : l.find? (isV v.id) = some v := by
 induction l with
 | nil => cases hv
 | cons u r ih =>
  rw [List.map_cons, List.nodup_cons] at hn
  rw [List.find?_cons]
  rcases List.mem_cons.1 hv with rfl | h
  ·rw [isV_iff.2 rfl]
  ·have hne : isV v.id u = false := by
    rw [Bool.eq_false_iff, Ne, isV_iff]
    intro e
    exact hn.1 (List.mem_map.2 ⟨v, h, e.symm⟩)
   rw [hne]
   exact ih hn.2 h
theorem find_app {l m : List VX} {x : Hs} (h : hasB l x = true) : (l ++ m).find? (isV x) = l.find? (isV x) := by
 obtain ⟨v, hv, _⟩ := find_has h
 rw [List.find?_append, hv]; rfl
theorem ckOf_app {l m : List VX} {x : Hs} (h : hasB l x = true) : ckOf (l ++ m) x = ckOf l x := by unfold ckOf; rw [find_app h]
theorem mxC_app {l m : List VX} {ps : List Hs} (h : ∀ p ∈ ps, hasB l p = true) : mxC (l ++ m) ps = mxC l ps := by
 unfold mxC
 suffices H : ∀ (ps : List Hs) (k : Int), (∀ p ∈ ps, hasB l p = true) → ps.foldl (fun m' h => if ckOf (l ++ m) h > m' then ckOf (l ++ m) h else m') k = ps.foldl (fun m h => if ckOf l h > m then ckOf l h else m) k from H ps 0 h
 intro ps
 induction ps with
 | nil => intros; rfl
 | cons x r ih =>
  intro k hk
  rw [List.foldl_cons, List.foldl_cons, ckOf_app (hk x (by simp))]
  exact ih _ fun p hp => hk p (by simp [hp])
def parH (l : List VX) (x : Hs) : List Hs := match l.find? (isV x) with
 | some v => v.ps
 | none => []
theorem parH_app {l m : List VX} {x : Hs} (h : hasB l x = true) : parH (l ++ m) x = parH l x := by unfold parH; rw [find_app h]
theorem parH_mem {l : List VX} (hn : (l.map (·.id)).Nodup) {v : VX} (hv : v ∈ l) : parH l v.id = v.ps := by unfold parH; rw [find_mem hn hv]
theorem chk_ok {v : VX} (h : chkV v = 0) : v.ps.length ≤ 64 ∧ v.ps.Pairwise Lt ∧ 1 ≤ v.ck ∧ v.ck ≤ 4096 ∧ (v.ck = 1 ↔ v.ps.length = 0) := by
 unfold chkV at h
 by_cases h1 : 64 < v.ps.length ∨ risesB v.ps = false
 ·rw [if_pos h1] at h; cases h
 ·rw [if_neg h1] at h
  by_cases h2 : v.ck < 1 ∨ 4096 < v.ck ∨ ¬ (v.ck = 1 ↔ v.ps.length = 0)
  ·rw [if_pos h2] at h; cases h
  ·rw [not_or] at h1
   rw [not_or, not_or, Classical.not_not] at h2
   exact ⟨by omega, rises_pw (by simpa using h1.2), by omega, by omega, h2.2.2⟩
theorem next_ok {l : List VX} {v : VX} (h : nextE l v = 0) : v.ck = mxC l v.ps + 1 ∧ l.length < 4096 := by
 unfold nextE at h
 by_cases h1 : v.ck ≠ mxC l v.ps + 1
 ·rw [if_pos h1] at h; cases h
 ·rw [if_neg h1] at h
  by_cases h2 : 4096 ≤ l.length
  ·rw [if_pos h2] at h; cases h
  ·exact ⟨Classical.not_not.1 h1, by omega⟩
def hdsOf (h : List Hs) (v : VX) : List Hs := insL (h.filter (outB v.ps)) ((h.filter (outB v.ps)).countP fun x => decide (cf x v.id < 0)) v.id
theorem cnt_at {l : List Hs} {x : Hs} {i : Nat} (hi : i ≤ l.length) (h1 : ∀ k, k < i → Lt (l.getD k default) x) (h2 : ∀ k, i ≤ k → k < l.length → ¬ Lt (l.getD k default) x) : l.countP (fun h => decide (cf h x < 0)) = i := by
 conv => lhs; rw [← List.take_append_drop i l]
 rw [List.countP_append]
 have e1 : (l.take i).countP (fun h => decide (cf h x < 0)) = i := by
  have : (l.take i).countP (fun h => decide (cf h x < 0)) = (l.take i).length := List.countP_eq_length.2 fun a ha => by
   obtain ⟨k, hk⟩ := mem_at ha
   have hk' := (List.getElem?_eq_some_iff.1 hk).1
   rw [List.length_take] at hk'
   rw [List.getElem?_take, if_pos (by omega)] at hk
   have := h1 k (by omega)
   rw [getD_at hk] at this
   exact decide_eq_true this
  rw [this, List.length_take]; omega
 have e2 : (l.drop i).countP (fun h => decide (cf h x < 0)) = 0 := List.countP_eq_zero.2 fun a ha => by
  obtain ⟨k, hk⟩ := mem_at ha
  rw [List.getElem?_drop] at hk
  have hk' := (List.getElem?_eq_some_iff.1 hk).1
  have := h2 (i + k) (by omega) hk'
  rw [getD_at hk] at this
  simpa [Lt] using this
 omega
theorem cnt_take {l : List Hs} (hl : l.Pairwise Lt) (x : Hs) : (∀ y ∈ l.take (l.countP fun h => decide (cf h x < 0)), Lt y x) ∧ (∀ y ∈ l.drop (l.countP fun h => decide (cf h x < 0)), ¬ Lt y x) := by
 induction l with
 | nil => simp
 | cons a r ih =>
  rw [List.pairwise_cons] at hl
  rw [List.countP_cons]
  by_cases ha : cf a x < 0
  ·rw [if_pos (by simpa using ha), List.take_succ_cons, List.drop_succ_cons]
   refine ⟨fun y hy => ?_, (ih hl.2).2⟩
   rcases List.mem_cons.1 hy with rfl | h
   ·exact ha
   ·exact (ih hl.2).1 y h
  ·have h0 : r.countP (fun h => decide (cf h x < 0)) = 0 := List.countP_eq_zero.2 fun y hy => by
    have := hl.1 y hy
    intro hc
    have hc2 : Lt y x := by simpa [Lt] using hc
    exact ha (this.trans hc2)
   rw [if_neg (by simpa using ha), h0]
   refine ⟨by simp, fun y hy => ?_⟩
   simp only [Nat.add_zero, List.drop_zero] at hy
   rcases List.mem_cons.1 hy with rfl | h
   ·exact ha
   ·intro hc; exact ha ((hl.1 y h).trans hc)
theorem hds_pw {h : List Hs} {v : VX} (hp : h.Pairwise Lt) (hv : v.id ∉ h) : (hdsOf h v).Pairwise Lt := by
 unfold hdsOf
 have h1 : (h.filter (outB v.ps)).Pairwise Lt := hp.filter _
 have h2 : v.id ∉ h.filter (outB v.ps) := fun hc => hv (List.mem_filter.1 hc).1
 generalize h.filter (outB v.ps) = l at *
 obtain ⟨t1, t2⟩ := cnt_take h1 v.id
 generalize l.countP (fun x => decide (cf x v.id < 0)) = i at *
 have gt : ∀ y ∈ l.drop i, Lt v.id y := fun y hy => by
  rcases Lt.tri v.id y with h | h | h
  ·exact h
  ·exact absurd (h ▸ List.mem_of_mem_drop hy) h2
  ·exact absurd h (t2 y hy)
 have h1' : (l.take i ++ l.drop i).Pairwise Lt := by rw [List.take_append_drop]; exact h1
 rw [List.pairwise_append] at h1'
 unfold insL
 rw [List.pairwise_append, List.pairwise_cons]
 refine ⟨h1'.1, ⟨gt, h1'.2.1⟩, fun a ha b hb => ?_⟩
 rcases List.mem_cons.1 hb with rfl | hb
 ·exact t1 a ha
 ·exact h1'.2.2 a ha b hb
theorem hds_mem {h : List Hs} {v : VX} {x : Hs} : x ∈ hdsOf h v ↔ x = v.id ∨ (x ∈ h ∧ x ∉ v.ps) := by
 unfold hdsOf
 rw [insL_mem, List.mem_filter]
 simp [outB]
structure DI (g : DG) : Prop where
 room : 0 ≤ g.room ∧ g.room ≤ 64
 hl : g.held.length ≤ 4096
 hn : (g.held.map (·.id)).Nodup
 wn : (g.wait.map (·.id)).Nodup
 dj : ∀ v ∈ g.wait, hasB g.held v.id = false
 hc : ∀ v ∈ g.held, chkV v = 0
 wc : ∀ v ∈ g.wait, chkV v = 0
 q : g.queue = g.wait.map (·.id)
 ql : (g.wait.length : Int) ≤ g.room
 ck : ∀ v ∈ g.held, v.ck = mxC g.held v.ps + 1
 cl : ∀ v ∈ g.held, ∀ p ∈ v.ps, hasB g.held p = true
 om : ∀ x, x ∈ g.order ↔ hasB g.held x = true
 oo : OneO (parH g.held) g.order
 hd : g.heads.Pairwise Lt
 hm : ∀ x, x ∈ g.heads ↔ hasB g.held x = true ∧ ∀ v ∈ g.held, x ∉ v.ps
def tookG (g : DG) (v : VX) (g' : DG) : Prop := g'.room = g.room ∧ g'.held = g.held ++ [v] ∧ g'.wait = g.wait ∧ g'.queue = g.queue ∧ g'.order = insL g.order (plc v g.order g.order.length g.order.length) v.id ∧ g'.heads = hdsOf g.heads v
theorem DI.took {g g' : DG} {v : VX} (h : DI g) (hc : chkV v = 0) (h1 : hasB g.held v.id = false) (h2 : hasB g.wait v.id = false) (ha : ∀ p ∈ v.ps, hasB g.held p = true) (hn : nextE g.held v = 0) (t : tookG g v g') : DI g' := by
 obtain ⟨e1, e2, e3, e4, e5, e6⟩ := t
 have hnx := next_ok hn
 have hvo : v.id ∉ g.order := fun hc => by rw [h.om, h1] at hc; cases hc
 have hps : v.id ∉ v.ps := fun hc => by have := ha _ hc; rw [h1] at this; cases this
 have hup : ∀ u ∈ g.held, v.id ∉ u.ps := fun u hu hc => by have := h.cl u hu _ hc; rw [h1] at this; cases this
 have hnd : ((g.held ++ [v]).map (·.id)).Nodup := by
  rw [List.map_append, List.nodup_append]
  refine ⟨h.hn, by simp, fun a ha b hb => ?_⟩
  simp only [List.map_cons, List.map_nil, List.mem_singleton] at hb
  subst hb
  obtain ⟨u, hu, rfl⟩ := List.mem_map.1 ha
  exact hasB_no.1 h1 u hu
 have hpv : parH (g.held ++ [v]) v.id = v.ps := parH_mem hnd (by simp)
 have hhas : ∀ x, hasB (g.held ++ [v]) x = true ↔ x = v.id ∨ hasB g.held x = true := fun x => by rw [hasB_app, Bool.or_eq_true, hasB_one]; exact Or.comm
 refine ⟨by rw [e1]; exact h.room, by rw [e2, List.length_append]; have := hnx.2; simp; omega, by rw [e2]; exact hnd, by rw [e3]; exact h.wn, ?_, ?_, by rw [e3]; exact h.wc, by rw [e4, e3]; exact h.q, by rw [e3, e1]; exact h.ql, ?_, ?_, ?_, ?_, ?_, ?_⟩
 ·rw [e3, e2]
  intro u hu
  rw [Bool.eq_false_iff, Ne, hhas]
  rintro (e | e)
  ·exact hasB_no.1 h2 u hu e
  ·rw [h.dj u hu] at e; cases e
 ·rw [e2]
  intro u hu
  rcases List.mem_append.1 hu with hu | hu
  ·exact h.hc u hu
  ·rw [List.mem_singleton] at hu; subst hu; exact hc
 ·rw [e2]
  intro u hu
  rcases List.mem_append.1 hu with hu | hu
  ·rw [mxC_app (h.cl u hu)]; exact h.ck u hu
  ·rw [List.mem_singleton] at hu; subst hu; rw [mxC_app ha]; exact hnx.1
 ·rw [e2]
  intro u hu p hp
  rw [hhas]
  rcases List.mem_append.1 hu with hu | hu
  ·exact .inr (h.cl u hu p hp)
  ·rw [List.mem_singleton] at hu; subst hu; exact .inr (ha p hp)
 ·intro x
  rw [e5, e2, insL_mem, hhas, h.om]
 ·rw [e5, e2]
  obtain ⟨p1, p2, p3, p4⟩ := plc_spec v g.order
  refine h.oo.ins (fun x hx => parH_app ((h.om x).1 hx)) p1 hvo ?_ ?_ ?_ p3 ?_
  ·intro x hx hcx
   obtain ⟨u, hu, hum, hue⟩ := find_has ((h.om x).1 hx)
   rw [← hue, parH_mem h.hn hum] at hcx
   exact hup u hum hcx
  ·rw [hpv]; exact fun p hp => (h.om p).2 (ha p hp)
  ·rw [hpv]; exact p2
  ·rw [hpv]; exact p4
 ·rw [e6]
  refine hds_pw h.hd fun hc => ?_
  have := ((h.hm _).1 hc).1
  rw [h1] at this; cases this
 ·intro x
  rw [e6, e2, hds_mem, hhas]
  constructor
  ·rintro (rfl | ⟨h3, h4⟩)
   ·refine ⟨.inl rfl, fun u hu => ?_⟩
    rcases List.mem_append.1 hu with hu | hu
    ·exact hup u hu
    ·rw [List.mem_singleton] at hu; subst hu; exact hps
   ·obtain ⟨h5, h6⟩ := (h.hm x).1 h3
    refine ⟨.inr h5, fun u hu => ?_⟩
    rcases List.mem_append.1 hu with hu | hu
    ·exact h6 u hu
    ·rw [List.mem_singleton] at hu; subst hu; exact h4
  ·rintro ⟨h3 | h3, h4⟩
   ·exact .inl h3
   ·exact .inr ⟨(h.hm x).2 ⟨h3, fun u hu => h4 u (by simp [hu])⟩, h4 v (by simp)⟩
theorem DI.waits {g g' : DG} {v : VX} (h : DI g) (hc : chkV v = 0) (h1 : hasB g.held v.id = false) (h2 : hasB g.wait v.id = false) (hr : (g.wait.length : Int) + 1 ≤ g.room)
  (t : g'.room = g.room ∧ g'.held = g.held ∧ g'.wait = g.wait ++ [v] ∧ g'.queue = g.queue ++ [v.id] ∧ g'.order = g.order ∧ g'.heads = g.heads) : DI g' := by
 obtain ⟨e1, e2, e3, e4, e5, e6⟩ := t
 refine ⟨by rw [e1]; exact h.room, by rw [e2]; exact h.hl, by rw [e2]; exact h.hn, ?_, ?_, by rw [e2]; exact h.hc, ?_, by rw [e4, e3, h.q, List.map_append]; rfl, by rw [e3, e1, List.length_append]; simp; omega, by rw [e2]; exact h.ck, by rw [e2]; exact h.cl, by rw [e5, e2]; exact h.om, by rw [e5, e2]; exact h.oo, by rw [e6]; exact h.hd, by rw [e6, e2]; exact h.hm⟩
 ·rw [e3, List.map_append, List.nodup_append]
  refine ⟨h.wn, by simp, fun a ha b hb => ?_⟩
  simp only [List.map_cons, List.map_nil, List.mem_singleton] at hb
  subst hb
  obtain ⟨u, hu, rfl⟩ := List.mem_map.1 ha
  exact hasB_no.1 h2 u hu
 ·rw [e3, e2]
  intro u hu
  rcases List.mem_append.1 hu with hu | hu
  ·exact h.dj u hu
  ·rw [List.mem_singleton] at hu; subst hu; exact h1
 ·rw [e3]
  intro u hu
  rcases List.mem_append.1 hu with hu | hu
  ·exact h.wc u hu
  ·rw [List.mem_singleton] at hu; subst hu; exact hc
end Go.Proofs.YthlohkgdmfkpeaaGreat
