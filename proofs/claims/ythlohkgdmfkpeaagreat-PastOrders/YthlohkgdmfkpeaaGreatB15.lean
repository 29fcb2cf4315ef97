import Derived.Test.YthlohkgdmfkpeaaGreatB14
namespace Go.Proofs.YthlohkgdmfkpeaaGreat
open Go.RowKit
set_option linter.unusedSimpArgs false
set_option linter.unusedVariables false

theorem Tryz.in22 (w : World) (vs : Array Value) : (callFunc 22 vs).run Tryz.prog w = .ok (.enter 22 vs) w := by kernel_rfl
theorem Tryz.in28 (w : World) (vs : Array Value) : (callFunc 28 vs).run Tryz.prog w = .ok (.enter 28 vs) w := by kernel_rfl
def seesW (S : List (Nat × List Nat)) (i j : Nat) : Bool := !decide (i = j) && hasW ((S.map (·.2)).getD j []) i
theorem seesW_get {S : List (Nat × List Nat)} {j : Nat} (hj : j < S.length) : (S.map (·.2)).getD j [] = S[j].2 := by
 rw [List.getD_eq_getElem?_getD, List.getElem?_map, List.getElem?_eq_getElem hj]; rfl
theorem sees_nat (H : List EP) (S : List (Nat × List Nat)) (v : Value) (p mb ub : Nat) (w : World) (hR : PastRd w p H S v mb ub) (i j : Nat) (hi : i < H.length) (hj : j < H.length) : Calls Tryz.prog 26 #[.pointer (some ⟨p, 0, none⟩), .int .i64 (i : Int), .int .i64 (j : Int)] w fun e w' => e = .returned (.bool (seesW S i j)) ∧ w' = w := by
 have hjs : j < S.length := by rw [hR.len]; exact hj
 by_cases hij : i = j
 ·refine (sees_eq H S v p mb ub w hR i j (by omega) (by omega) (by omega)).mono ?_
  rintro e w' ⟨rfl, rfl⟩
  exact ⟨by rw [seesW, decide_eq_true hij]; rfl, rfl⟩
 ·refine (sees_yes H S v p mb ub w hR i j (by omega) (by omega) hjs (by omega)).mono ?_
  rintro e w' ⟨rfl, rfl⟩
  exact ⟨by rw [seesW, decide_eq_false hij, seesW_get hjs]; rfl, rfl⟩
theorem lt_ext : ∀ (L M : List Hs), L.Pairwise Lt → M.Pairwise Lt → (∀ x, x ∈ L ↔ x ∈ M) → L = M
 | [], [], _, _, _ => rfl
 | [], y :: M, _, _, h => absurd ((h y).2 (by simp)) (by simp)
 | x :: L, [], _, _, h => absurd ((h x).1 (by simp)) (by simp)
 | x :: L, y :: M, hL, hM, h => by
  have h1 := (List.pairwise_cons.1 hL)
  have h2 := (List.pairwise_cons.1 hM)
  have hxy : x = y := by
   rcases List.mem_cons.1 ((h x).1 (by simp)) with e | hx
   ·exact e
   ·rcases List.mem_cons.1 ((h y).2 (by simp)) with e | hy
    ·exact e.symm
    ·exact absurd (h1.1 y hy) (h2.1 x hx).asymm
  subst hxy
  rw [lt_ext L M h1.2 h2.2 fun z => ?_]
  constructor
  ·intro hz
   rcases List.mem_cons.1 ((h z).1 (List.mem_cons_of_mem _ hz)) with rfl | h3
   ·exact absurd (h1.1 z hz) (Lt.irrefl z)
   ·exact h3
  ·intro hz
   rcases List.mem_cons.1 ((h z).2 (List.mem_cons_of_mem _ hz)) with rfl | h3
   ·exact absurd (h2.1 z hz) (Lt.irrefl z)
   ·exact h3
theorem stT_congr {S S' : List (Nat × List Nat)} (h : S.map (·.2) = S'.map (·.2)) (I : List Nat) (st : List Nat × List Nat) (i : Nat) : stT S I st i = stT S' I st i := by
 have e : ∀ S : List (Nat × List Nat), (S.getD i (0, [])).2 = (S.map (·.2)).getD i [] := fun S => by
  simp only [List.getD_eq_getElem?_getD, List.getElem?_map]
  cases S[i]? <;> rfl
 unfold stT
 rw [e S, e S', h]
theorem tops_congr {S S' : List (Nat × List Nat)} (h : S.map (·.2) = S'.map (·.2)) (n m : Nat) (hn : n = m) : (tpF S (wh n n) n (List.finRange n).reverse).1 = (tpF S' (wh m m) m (List.finRange m).reverse).1 := by
 subst hn
 unfold tpF
 rw [show (fun (st : List Nat × List Nat) (i : Fin n) => stT S (wh n n) st i.val) = fun st i => stT S' (wh n n) st i.val from funext fun st => funext fun i => stT_congr h _ _ _]
structure SameAt (w : World) (p q : Nat) (H K : List EP) (S U : List (Nat × List Nat)) (v x : Value) (mb ub mc uc : Nat) : Prop where
 p : PastRd w p H S v mb ub
 q : PastRd w q K U x mc uc
 ex : exs H = exs K
 wd : S.map (·.2) = U.map (·.2)
 bp : ∀ k, v.ownBlock = some k → k < w.heap.size
 bq : ∀ k, x.ownBlock = some k → k < w.heap.size
 lp : ∀ i (hi : i < S.length), S[i].2.length ≤ (H.length + 63) / 64
 lq : ∀ i (hi : i < U.length), U[i].2.length ≤ (K.length + 63) / 64
theorem SameAt.below {w w' : World} {p q : Nat} {H K : List EP} {S U : List (Nat × List Nat)} {v x : Value} {mb ub mc uc : Nat} (h : SameAt w p q H K S U v x mb ub mc uc) (hb : Below w.heap.size w w') : SameAt w' p q H K S U v x mb ub mc uc :=
 { h with p := h.p.below hb, q := h.q.below hb, bp := fun k hk => Nat.lt_of_lt_of_le (h.bp k hk) hb.size, bq := fun k hk => Nat.lt_of_lt_of_le (h.bq k hk) hb.size }
theorem SameAt.len {w : World} {p q : Nat} {H K : List EP} {S U : List (Nat × List Nat)} {v x : Value} {mb ub mc uc : Nat} (h : SameAt w p q H K S U v x mb ub mc uc) : H.length = K.length := by rw [← exs_len H, h.ex, exs_len]
theorem List.Nodup.length_le_of_subset' {α : Type} [DecidableEq α] {l m : List α} (h : l.Nodup) (hs : ∀ x ∈ l, x ∈ m) : l.length ≤ m.length := by
 induction l generalizing m with
 | nil => simp
 | cons a l ih =>
  have ha := hs a List.mem_cons_self
  have h2 := List.nodup_cons.1 h
  have h3 := ih (m := m.erase a) h2.2 fun x hx => by
   have hne : x ≠ a := fun e => by subst e; exact h2.1 hx
   exact (List.mem_erase_of_ne hne).2 (hs x (List.mem_cons_of_mem _ hx))
  rw [List.length_erase_of_mem ha] at h3
  have := List.length_pos_of_mem ha
  rw [List.length_cons]
  omega
theorem drewN_below (w : World) (q B : Nat) : Below B w (w.drewN q) := ⟨rfl, rfl, rfl, Nat.le_refl _, fun _ _ => rfl⟩
theorem sameH_any (v1 v2 : Value) (L : List Hs) (w : World) (h1 : HRow w v1 L) (h2 : HRow w v2 L) (hn : L.length ≤ 1000000) : Calls Tryz.prog 28 #[v1, v2] w fun e w' => e = .returned (.bool true) ∧ Below w.heap.size w w' := by
 refine (Nd.Sh.same_any v1 v2 L L w h1 h2 (by omega)).mono ?_
 rintro e w' ⟨rfl, q, rfl⟩
 exact ⟨by simp, drewN_below _ _ _⟩
set_option maxRecDepth 8000 in
set_option maxHeartbeats 4000000 in
theorem same_law (p q : Nat) (H K : List EP) (S U : List (Nat × List Nat)) (v x : Value) (mb ub mc uc : Nat) (w : World) (hS : SameAt w p q H K S U v x mb ub mc uc) : Calls Tryz.prog 22 #[.pointer (some ⟨p, 0, none⟩), .pointer (some ⟨q, 0, none⟩)] w fun e w' => e = .returned (.bool true) ∧ Below w.heap.size w w' := by
 have HS := Keep.mk hS
 have HSw : Keep (∀ i, Wds (S.getD i (0, [])).2) := ⟨fun i => by
  rw [List.getD_eq_getElem?_getD]
  by_cases hi : i < S.length
  ·rw [List.getElem?_eq_getElem hi]; exact (hS.p.s i hi).2.1
  ·rw [List.getElem?_eq_none (by omega)]; intro j; simp⟩
 clear hS
 go_enter Tryz.func22, Tryz.ntmps22
 refine wp_seq_k fun K1 hK1 => rgn ?_
 refine VlS (.bool false) ?_
 refine WL.nil (hK1 _ _ ?_)
 refine wp_seq_k fun K2 hK2 => ?_
 refine wp_seq_k fun K3 hK3 => rgn ?_
 refine VlS (.pointer (some ⟨p, 0, none⟩)) ?_
 refine VlS (.bool false) ?_
 refine VlS (.bool false) ?_
 refine VlS (.pointer (some ⟨q, 0, none⟩)) ?_
 refine VlS (.bool false) ?_
 refine VlS (.bool false) ?_
 refine VlS (.bool false) ?_
 refine VlS (.pointer (some ⟨p, 0, none⟩)) ?_
 refine WL.callF (by kernel_rfl) 18 _ _ rfl Tryz.in18 #[.pointer (some ⟨p, 0, none⟩)] (by simp [Act.eval]) ?_
 refine (plen_any H S v p mb ub w HS.out.p).mono ?_
 rintro e wq ⟨rfl, hwq⟩
 refine ⟨_, rfl, ?_⟩
 rw [hwq]
 clear hwq
 simp only [Act.put, pqA, pqB, pqC]
 refine VlS (.pointer (some ⟨q, 0, none⟩)) ?_
 refine WL.callF (by kernel_rfl) 18 _ _ rfl Tryz.in18 #[.pointer (some ⟨q, 0, none⟩)] (by simp [Act.eval]) ?_
 refine ((by have h := plen_any K U x q mc uc w HS.out.q; rw [← HS.out.len] at h; exact h : Calls Tryz.prog 18 #[.pointer (some ⟨q, 0, none⟩)] w _)).mono ?_
 rintro e wq ⟨rfl, hwq⟩
 refine ⟨_, rfl, ?_⟩
 rw [hwq]
 clear hwq
 simp only [Act.put, pqA, pqB, pqC]
 refine VlS (.bool false) ?_
 refine VlS (.bool false) ?_
 refine VlS (.bool false) ?_
 refine VlS (.pointer (some ⟨p, 0, none⟩)) ?_
 refine WL.callF (by kernel_rfl) 24 _ _ rfl Tryz.in24 #[.pointer (some ⟨p, 0, none⟩)] (by simp [Act.eval]) ?_
 refine (heads_past H S v p mb ub w HS.out.p HS.out.bp HS.out.lp).mono ?_
 rintro e w1 ⟨v1, L1, rfl, h1, -, h3, h4, h5⟩
 refine ⟨_, rfl, ?_⟩
 have HS1 := Keep.mk (HS.out.below h5)
 have O1 := Keep.mk h1
 have P1 := Keep.mk h3
 have M1 := Keep.mk h4
 have B1 := Keep.mk h5
 clear h1 h3 h4 h5
 simp only [Act.put, pqA, pqB, pqC]
 refine VlS (.pointer (some ⟨q, 0, none⟩)) ?_
 refine WL.callF (by kernel_rfl) 24 _ _ rfl Tryz.in24 #[.pointer (some ⟨q, 0, none⟩)] (by simp [Act.eval]) ?_
 refine (heads_past K U x q mc uc w1 HS1.out.q HS1.out.bq HS1.out.lq).mono ?_
 rintro e w2 ⟨v2, L2, rfl, h1, -, h3, h4, h5⟩
 refine ⟨_, rfl, ?_⟩
 have HS2 := Keep.mk (HS1.out.below h5)
 have O2 := Keep.mk (O1.out.below h5)
 have hLL : L1 = L2 := lt_ext L1 L2 P1.out h3 fun y => by
  rw [M1.out y, h4 y, tops_congr HS.out.wd H.length K.length HS.out.len]
  have hid : idAt H = idAt K := funext fun k => by unfold idAt; rw [HS.out.ex]
  unfold idsT
  rw [hid]
 subst hLL
 have hl1 : Keep (L1.length ≤ 1000000) := ⟨by
  have h6 : L1.Nodup := P1.out.imp fun {a b} h e => by subst e; exact Lt.irrefl _ h
  have h7 : ∀ y ∈ L1, y ∈ idsT H (tpF S (wh H.length H.length) H.length (List.finRange H.length).reverse).1 := fun y hy => (M1.out y).1 hy
  have h8 := (List.Nodup.length_le_of_subset' h6 h7)
  have h9 := (tpF_ok (S := S) (HSw.out) (wh H.length H.length) H.length (List.finRange H.length).reverse).2.2
  rw [List.length_reverse, List.length_finRange] at h9
  rw [idsT, List.length_map] at h8
  have := HS.out.p.n
  omega⟩
 have O3 := Keep.mk h1
 have B2 := Keep.mk (belowC B1.out h5)
 clear h1 h3 h4 h5
 simp only [Act.put, pqA, pqB, pqC]
 refine WL.callF (by kernel_rfl) 28 _ _ rfl Tryz.in28 #[v1, v2] (by simp [Act.eval]) ?_
 refine (sameH_any v1 v2 L1 w2 O2.out.row O3.out.row hl1.out).mono ?_
 rintro e w3 ⟨rfl, hb⟩
 refine ⟨_, rfl, ?_⟩
 have HS3 := Keep.mk (HS2.out.below hb)
 have B3 := Keep.mk (belowC B2.out hb)
 clear hb
 simp only [Act.put, pqA, pqB, pqC]
 refine VlS (.bool false) ?_
 refine VlS (.bool false) ?_
 refine WL.nil (hK3 _ _ ?_)
 refine wp_cond_false rfl ?_
 refine wp_skip ?_
 refine hK2 _ _ ?_
 refine wp_seq_k fun K4 hK4 => ?_
 refine wp_seq_k fun K5 hK5 => rgn ?_
 refine VlS (.pointer (some ⟨p, 0, none⟩)) ?_
 refine WL.callF (by kernel_rfl) 18 _ _ rfl Tryz.in18 #[.pointer (some ⟨p, 0, none⟩)] (by simp [Act.eval]) ?_
 refine (plen_any H S v p mb ub w3 HS3.out.p).mono ?_
 rintro e wq ⟨rfl, hwq⟩
 refine ⟨_, rfl, ?_⟩
 rw [hwq]
 clear hwq
 simp only [Act.put, pqA, pqB, pqC]
 refine VlS (.int .i64 0) ?_
 refine WL.nil (hK5 _ _ ?_)
 refine wp_block ?_
 refine wp_loop (fun ac wr => ∃ (t : Nat) (f : Nat → Value), ac = { tmps := #[.pointer (some ⟨p, 0, none⟩), .pointer (some ⟨q, 0, none⟩), undef, undef, .bool false, f 5, f 6, f 7, f 8, f 9, f 10, .pointer (some ⟨p, 0, none⟩), .bool false, .bool false, .pointer (some ⟨q, 0, none⟩), .bool false, .bool false, .bool false, .pointer (some ⟨p, 0, none⟩), .int .i64 (H.length : Int), .pointer (some ⟨q, 0, none⟩), .int .i64 (H.length : Int), .bool false, .bool false, .bool false, .pointer (some ⟨p, 0, none⟩), v1, .pointer (some ⟨q, 0, none⟩), v2, .bool true, .bool false, .bool false, .pointer (some ⟨p, 0, none⟩), .int .i64 (H.length : Int), .int .i64 (t : Int), f 35, f 36, f 37, f 38, f 39, f 40, f 41, f 42, f 43, f 44, f 45, f 46, f 47, f 48, f 49, f 50, f 51, f 52, f 53, f 54, f 55, f 56, f 57, f 58, f 59, f 60, f 61, f 62, f 63, f 64, f 65, f 66, f 67, f 68, f 69, f 70, f 71, f 72, f 73, f 74, f 75, f 76], defers := [] } ∧ t ≤ H.length ∧ SameAt wr p q H K S U v x mb ub mc uc ∧ Below w.heap.size w wr) (fun a _ => H.length - (intOf (a.tmps.getD 34 undef)).toNat) ⟨0, fun i => [.pointer (some ⟨p, 0, none⟩), .pointer (some ⟨q, 0, none⟩), undef, undef, .bool false, undef, undef, undef, undef, undef, undef, .pointer (some ⟨p, 0, none⟩), .bool false, .bool false, .pointer (some ⟨q, 0, none⟩), .bool false, .bool false, .bool false, .pointer (some ⟨p, 0, none⟩), .int .i64 (H.length : Int), .pointer (some ⟨q, 0, none⟩), .int .i64 (H.length : Int), .bool false, .bool false, .bool false, .pointer (some ⟨p, 0, none⟩), v1, .pointer (some ⟨q, 0, none⟩), v2, .bool true, .bool false, .bool false, .pointer (some ⟨p, 0, none⟩), .int .i64 (H.length : Int), .int .i64 0, undef, undef, undef, undef, undef, undef, undef, undef, undef, undef, undef, undef, undef, undef, undef, undef, undef, undef, undef, undef, undef, undef, undef, undef, undef, undef, undef, undef, undef, undef, undef, undef, undef, undef, undef, undef, undef, undef, undef, undef, undef, undef].getD i undef, rfl, by omega, HS3.out, B3.out⟩ ?_
 rintro ac wr ⟨t, f, rfl, ht, hS, hB⟩
 have JS := Keep.mk hS
 have JB := Keep.mk hB
 clear hS hB
 by_cases htl : t < H.length
 ·have htl' : (t : Int) < (H.length : Int) := by omega
  have hwt : IntKind.i64.wrap ((t : Int) + 1) = ((t + 1 : Nat) : Int) := by rw [IntKind.wrap_i64]; have := HS.out.p.n; omega
  have htk : t < K.length := by rw [← HS.out.len]; exact htl
  have hxy : Keep (H[t].1 = K[t].1) := ⟨by have h1 := exs_get? H t htl; have h2 := exs_get? K t htk; rw [HS.out.ex, h2] at h1; exact (Option.some.inj h1).symm⟩
  refine wp_seq_k fun K6 hK6 => rgn ?_
  refine VlS (.bool true) ?_
  refine WL.nil (hK6 _ _ ?_)
  refine wp_seq_k fun K7 hK7 => ?_
  refine wp_cond_true rfl ?_
  refine wp_skip ?_
  refine hK7 _ _ ?_
  refine wp_seq_k fun K8 hK8 => ?_
  refine wp_block ?_
  refine wp_seq_k fun K9 hK9 => rgn ?_
  refine VlS (.int .i64 (t : Int)) ?_
  refine VlS (.int .i64 (t : Int)) ?_
  refine WL.nil (hK9 _ _ ?_)
  refine wp_seq_k fun K10 hK10 => rgn ?_
  refine VlS (.pointer (some ⟨p, 0, none⟩)) ?_
  refine VlS (.int .i64 (t : Int)) ?_
  refine WL.callF (by kernel_rfl) 19 _ _ rfl Tryz.in19 #[.pointer (some ⟨p, 0, none⟩), .int .i64 (t : Int)] (by simp [Act.eval]) ?_
  refine (entry_yes H S v p mb ub wr JS.out.p t htl).mono ?_
  rintro e wa ⟨p1, q1, rfl, hF⟩
  refine ⟨_, rfl, ?_⟩
  have FA := Keep.mk hF
  have JSa := Keep.mk (JS.out.below hF.bel)
  have JBa := Keep.mk (belowC JB.out hF.bel)
  clear hF
  obtain ⟨ea, hea⟩ : ∃ a : Array Value, Keep (a = entA H[t].1.id.f H[t].1.N.au H[t].1.N.ck p1 q1) := ⟨_, ⟨rfl⟩⟩
  rw [← hea.out]
  simp only [Act.put, pqA, pqB, pqC]
  refine VlS (.tuple #[.agg ea, .int .i64 0]) ?_
  refine VlS (.agg ea) ?_
  refine VlS (.int .i64 0) ?_
  refine WL.new (by kernel_rfl) 52 rfl (entA (fun _ => 0) 0 0 (.slice none 0 0) (.slice none 0 0)) Tryz.new52 ?_
  obtain ⟨wb, hwn⟩ : ∃ wx, Keep (wx = wa.alloc (.cells (entA (fun _ => 0) 0 0 (.slice none 0 0) (.slice none 0 0)) 52)) := ⟨_, ⟨rfl⟩⟩
  rw [← hwn.out]
  have HZ6 : Keep (Blk wb wa.heap.size 52 (entA (fun _ => 0) 0 0 (.slice none 0 0) (.slice none 0 0))) := ⟨by rw [hwn.out]; exact Blk.new _ _ _⟩
  have LB6 : Keep (Below wa.heap.size wa wb) := ⟨by rw [hwn.out]; exact below_new _ _⟩
  clear hwn
  simp only [Act.put, pqA, pqB, pqC]
  refine WL.storeR (by kernel_rfl) 52 (.tmp 6) (.tmp 41) rfl wa.heap.size ea rfl rfl 52 _ HZ6.out (by rw [hea.out]; exact sizeE _ _ _ _ _) (by rw [hea.out, entA_size, entA_size]) (by rw [hea.out]; exact entA_one _ _ _ _ _ (by obtain ⟨a, c, e⟩ := FA.out.nd.ps.form; rw [e]; rfl) (by obtain ⟨a, c, e⟩ := FA.out.nd.ops.form; rw [e]; rfl)) ?_
  have HA := Keep.mk (HZ6.out.setRow ea)
  have LXga : Keep (Below wa.heap.size wa (wb.setRow wa.heap.size ea)) := ⟨below_setRow LB6.out (Nat.le_refl _) _⟩
  generalize wb.setRow wa.heap.size ea = wc at *
  have JSc := Keep.mk (JSa.out.below LXga.out)
  have JBc := Keep.mk (belowC JBa.out LXga.out)
  have NA := Keep.mk (FA.out.nd.below LXga.out)
  generalize wa.heap.size = ga at *
  clear LXga HZ6 LB6
  simp only [Act.put]
  refine VlS (.int .i64 0) ?_
  refine WL.nil (hK10 _ _ ?_)
  refine wp_seq_k fun K11 hK11 => rgn ?_
  refine VlS (.pointer (some ⟨q, 0, none⟩)) ?_
  refine VlS (.int .i64 (t : Int)) ?_
  refine WL.callF (by kernel_rfl) 19 _ _ rfl Tryz.in19 #[.pointer (some ⟨q, 0, none⟩), .int .i64 (t : Int)] (by simp [Act.eval]) ?_
  refine (entry_yes K U x q mc uc wc JSc.out.q t htk).mono ?_
  rintro e wd ⟨p2, q2, rfl, hF⟩
  refine ⟨_, rfl, ?_⟩
  have FB := Keep.mk hF
  have JSd := Keep.mk (JSc.out.below hF.bel)
  have JBd := Keep.mk (belowC JBc.out hF.bel)
  have NA2 := Keep.mk (NA.out.below hF.bel)
  have HAd := Keep.mk (HA.out.below hF.bel HA.out.lt)
  clear hF
  obtain ⟨eb, heb⟩ : ∃ a : Array Value, Keep (a = entA K[t].1.id.f K[t].1.N.au K[t].1.N.ck p2 q2) := ⟨_, ⟨rfl⟩⟩
  rw [← heb.out]
  simp only [Act.put, pqA, pqB, pqC]
  refine VlS (.tuple #[.agg eb, .int .i64 0]) ?_
  refine VlS (.agg eb) ?_
  refine VlS (.int .i64 0) ?_
  refine WL.new (by kernel_rfl) 52 rfl (entA (fun _ => 0) 0 0 (.slice none 0 0) (.slice none 0 0)) Tryz.new52 ?_
  obtain ⟨we, hwn⟩ : ∃ wx, Keep (wx = wd.alloc (.cells (entA (fun _ => 0) 0 0 (.slice none 0 0) (.slice none 0 0)) 52)) := ⟨_, ⟨rfl⟩⟩
  rw [← hwn.out]
  have HZ8 : Keep (Blk we wd.heap.size 52 (entA (fun _ => 0) 0 0 (.slice none 0 0) (.slice none 0 0))) := ⟨by rw [hwn.out]; exact Blk.new _ _ _⟩
  have LB8 : Keep (Below wd.heap.size wd we) := ⟨by rw [hwn.out]; exact below_new _ _⟩
  clear hwn
  simp only [Act.put, pqA, pqB, pqC]
  refine WL.storeR (by kernel_rfl) 52 (.tmp 8) (.tmp 47) rfl wd.heap.size eb rfl rfl 52 _ HZ8.out (by rw [heb.out]; exact sizeE _ _ _ _ _) (by rw [heb.out, entA_size, entA_size]) (by rw [heb.out]; exact entA_one _ _ _ _ _ (by obtain ⟨a, c, e⟩ := FB.out.nd.ps.form; rw [e]; rfl) (by obtain ⟨a, c, e⟩ := FB.out.nd.ops.form; rw [e]; rfl)) ?_
  have HB := Keep.mk (HZ8.out.setRow eb)
  have LXgb : Keep (Below wd.heap.size wd (we.setRow wd.heap.size eb)) := ⟨below_setRow LB8.out (Nat.le_refl _) _⟩
  generalize we.setRow wd.heap.size eb = wf at *
  have JSf := Keep.mk (JSd.out.below LXgb.out)
  have JBf := Keep.mk (belowC JBd.out LXgb.out)
  have NB := Keep.mk (FB.out.nd.below LXgb.out)
  have NA3 := Keep.mk (NA2.out.below LXgb.out)
  have HAf := Keep.mk (HAd.out.below LXgb.out HAd.out.lt)
  generalize wd.heap.size = gb at *
  clear LXgb HZ8 LB8
  simp only [Act.put]
  refine VlS (.int .i64 0) ?_
  refine WL.nil (hK11 _ _ ?_)
  refine wp_seq_k fun K12 hK12 => ?_
  refine wp_seq_k fun K13 hK13 => rgn ?_
  refine VlS (.int .i64 0) ?_
  refine VlS (.bool false) ?_
  refine VlS (.bool false) ?_
  refine VlS (.int .i64 0) ?_
  refine VlS (.bool false) ?_
  refine VlS (.bool false) ?_
  refine VlS (.bool false) ?_
  refine WL.row (by kernel_rfl) 52 (.tmp 6) rfl ga rfl 52 ea _ HAf.out Tryz.underlying52 rfl (by rw [hea.out]; exact sizeE _ _ _ _ _) ?_
  simp only [Act.put, pqA, pqB, pqC]
  refine WL.row (by kernel_rfl) 52 (.tmp 8) rfl gb rfl 52 eb _ HB.out Tryz.underlying52 rfl (by rw [heb.out]; exact sizeE _ _ _ _ _) ?_
  simp only [Act.put, pqA, pqB, pqC]
  refine WL.callF (by kernel_rfl) 42 _ _ rfl Tryz.in42 #[.agg ea, .agg eb] (by simp [Act.eval]) ?_
  refine ((by have h := same_ent H[t].1 K[t].1 p1 q1 p2 q2 wf NA3.out NB.out; rw [show sameX H[t].1 K[t].1 = true by rw [hxy.out]; exact sameX_self _, ← hea.out, ← heb.out] at h; exact h : Calls Tryz.prog 42 #[.agg ea, .agg eb] wf _)).mono ?_
  rintro e wg ⟨rfl, hb⟩
  refine ⟨_, rfl, ?_⟩
  have JSg := Keep.mk (JSf.out.below hb)
  have JBg := Keep.mk (belowC JBf.out hb)
  clear hb
  simp only [Act.put, pqA, pqB, pqC]
  refine VlS (.bool false) ?_
  refine VlS (.bool false) ?_
  refine WL.nil (hK13 _ _ ?_)
  refine wp_cond_false rfl ?_
  refine wp_skip ?_
  refine hK12 _ _ ?_
  refine wp_seq_k fun K14 hK14 => rgn ?_
  refine VlS (.pointer (some ⟨p, 0, none⟩)) ?_
  refine WL.callF (by kernel_rfl) 18 _ _ rfl Tryz.in18 #[.pointer (some ⟨p, 0, none⟩)] (by simp [Act.eval]) ?_
  refine (plen_any H S v p mb ub wg JSg.out.p).mono ?_
  rintro e wq ⟨rfl, hwq⟩
  refine ⟨_, rfl, ?_⟩
  rw [hwq]
  clear hwq
  simp only [Act.put, pqA, pqB, pqC]
  refine VlS (.int .i64 0) ?_
  refine WL.nil (hK14 _ _ ?_)
  refine wp_block ?_
  refine wp_loop (fun ac ws => ∃ (u : Nat) (fy : Nat → Value), ac = { tmps := #[.pointer (some ⟨p, 0, none⟩), .pointer (some ⟨q, 0, none⟩), undef, undef, .bool false, .int .i64 (t : Int), .pointer (some ⟨ga, 0, none⟩), .int .i64 0, .pointer (some ⟨gb, 0, none⟩), .int .i64 0, fy 10, .pointer (some ⟨p, 0, none⟩), .bool false, .bool false, .pointer (some ⟨q, 0, none⟩), .bool false, .bool false, .bool false, .pointer (some ⟨p, 0, none⟩), .int .i64 (H.length : Int), .pointer (some ⟨q, 0, none⟩), .int .i64 (H.length : Int), .bool false, .bool false, .bool false, .pointer (some ⟨p, 0, none⟩), v1, .pointer (some ⟨q, 0, none⟩), v2, .bool true, .bool false, .bool false, .pointer (some ⟨p, 0, none⟩), .int .i64 (H.length : Int), .int .i64 (t : Int), .bool true, .int .i64 (t : Int), .tuple #[.agg ea, .int .i64 0], .pointer (some ⟨p, 0, none⟩), .int .i64 (t : Int), .tuple #[.agg ea, .int .i64 0], .agg ea, .int .i64 0, .tuple #[.agg eb, .int .i64 0], .pointer (some ⟨q, 0, none⟩), .int .i64 (t : Int), .tuple #[.agg eb, .int .i64 0], .agg eb, .int .i64 0, .int .i64 0, .bool false, .bool false, .int .i64 0, .bool false, .bool false, .bool false, .agg ea, .agg eb, .bool true, .bool false, .bool false, .pointer (some ⟨p, 0, none⟩), .int .i64 (H.length : Int), .int .i64 (u : Int), fy 64, fy 65, fy 66, fy 67, fy 68, fy 69, fy 70, fy 71, fy 72, fy 73, fy 74, fy 75, f 76], defers := [] } ∧ u ≤ H.length ∧ SameAt ws p q H K S U v x mb ub mc uc ∧ Below w.heap.size w ws) (fun a _ => H.length - (intOf (a.tmps.getD 63 undef)).toNat) ⟨0, fun i => [.pointer (some ⟨p, 0, none⟩), .pointer (some ⟨q, 0, none⟩), undef, undef, .bool false, .int .i64 (t : Int), .pointer (some ⟨ga, 0, none⟩), .int .i64 0, .pointer (some ⟨gb, 0, none⟩), .int .i64 0, f 10, .pointer (some ⟨p, 0, none⟩), .bool false, .bool false, .pointer (some ⟨q, 0, none⟩), .bool false, .bool false, .bool false, .pointer (some ⟨p, 0, none⟩), .int .i64 (H.length : Int), .pointer (some ⟨q, 0, none⟩), .int .i64 (H.length : Int), .bool false, .bool false, .bool false, .pointer (some ⟨p, 0, none⟩), v1, .pointer (some ⟨q, 0, none⟩), v2, .bool true, .bool false, .bool false, .pointer (some ⟨p, 0, none⟩), .int .i64 (H.length : Int), .int .i64 (t : Int), .bool true, .int .i64 (t : Int), .tuple #[.agg ea, .int .i64 0], .pointer (some ⟨p, 0, none⟩), .int .i64 (t : Int), .tuple #[.agg ea, .int .i64 0], .agg ea, .int .i64 0, .tuple #[.agg eb, .int .i64 0], .pointer (some ⟨q, 0, none⟩), .int .i64 (t : Int), .tuple #[.agg eb, .int .i64 0], .agg eb, .int .i64 0, .int .i64 0, .bool false, .bool false, .int .i64 0, .bool false, .bool false, .bool false, .agg ea, .agg eb, .bool true, .bool false, .bool false, .pointer (some ⟨p, 0, none⟩), .int .i64 (H.length : Int), .int .i64 0, f 64, f 65, f 66, f 67, f 68, f 69, f 70, f 71, f 72, f 73, f 74, f 75, f 76].getD i undef, rfl, by omega, JSg.out, JBg.out⟩ ?_
  rintro ac ws ⟨u, fy, rfl, hu, hS2, hB2⟩
  have IS := Keep.mk hS2
  have IB := Keep.mk hB2
  clear hS2 hB2
  by_cases hul : u < H.length
  ·have hul' : (u : Int) < (H.length : Int) := by omega
   have hwu : IntKind.i64.wrap ((u : Int) + 1) = ((u + 1 : Nat) : Int) := by rw [IntKind.wrap_i64]; have := HS.out.p.n; omega
   have huk : u < K.length := by rw [← HS.out.len]; exact hul
   obtain ⟨b, hb⟩ : ∃ b, Keep (seesW S t u = b) := ⟨_, ⟨rfl⟩⟩
   have hb2 : Keep (seesW U t u = b) := ⟨by rw [← hb.out, seesW, seesW, HS.out.wd]⟩
   refine wp_seq_k fun K15 hK15 => rgn ?_
   refine VlS (.bool true) ?_
   refine WL.nil (hK15 _ _ ?_)
   refine wp_seq_k fun K16 hK16 => ?_
   refine wp_cond_true rfl ?_
   refine wp_skip ?_
   refine hK16 _ _ ?_
   refine wp_seq_k fun K17 hK17 => ?_
   refine wp_block ?_
   refine wp_seq_k fun K18 hK18 => rgn ?_
   refine VlS (.int .i64 (u : Int)) ?_
   refine VlS (.int .i64 (u : Int)) ?_
   refine WL.nil (hK18 _ _ ?_)
   refine wp_seq_k fun K19 hK19 => rgn ?_
   refine VlS (.pointer (some ⟨p, 0, none⟩)) ?_
   refine VlS (.int .i64 (t : Int)) ?_
   refine VlS (.int .i64 (u : Int)) ?_
   refine WL.callF (by kernel_rfl) 26 _ _ rfl Tryz.in26 #[.pointer (some ⟨p, 0, none⟩), .int .i64 (t : Int), .int .i64 (u : Int)] (by simp [Act.eval]) ?_
   refine ((by have h := sees_nat H S v p mb ub ws IS.out.p t u htl hul; rw [hb.out] at h; exact h : Calls Tryz.prog 26 #[.pointer (some ⟨p, 0, none⟩), .int .i64 (t : Int), .int .i64 (u : Int)] ws _)).mono ?_
   rintro e wq ⟨rfl, hwq⟩
   refine ⟨_, rfl, ?_⟩
   rw [hwq]
   clear hwq
   simp only [Act.put, pqA, pqB, pqC]
   refine VlS (.pointer (some ⟨q, 0, none⟩)) ?_
   refine VlS (.int .i64 (t : Int)) ?_
   refine VlS (.int .i64 (u : Int)) ?_
   refine WL.callF (by kernel_rfl) 26 _ _ rfl Tryz.in26 #[.pointer (some ⟨q, 0, none⟩), .int .i64 (t : Int), .int .i64 (u : Int)] (by simp [Act.eval]) ?_
   refine ((by have h := sees_nat K U x q mc uc ws IS.out.q t u htk huk; rw [hb2.out] at h; exact h : Calls Tryz.prog 26 #[.pointer (some ⟨q, 0, none⟩), .int .i64 (t : Int), .int .i64 (u : Int)] ws _)).mono ?_
   rintro e wq ⟨rfl, hwq⟩
   refine ⟨_, rfl, ?_⟩
   rw [hwq]
   clear hwq
   simp only [Act.put, pqA, pqB, pqC]
   refine WL.val (by kernel_rfl) (.bool false) (by cases b <;> go_simp) ?_
   simp only [Act.put, pqA, pqB, pqC]
   refine WL.nil (hK19 _ _ ?_)
   refine wp_cond_false rfl ?_
   refine wp_skip ?_
   refine hK17 _ _ ?_
   refine rgn ?_
   refine VlS (.int .i64 ((u + 1 : Nat) : Int)) ?_
   refine VlS (.int .i64 ((u + 1 : Nat) : Int)) ?_
   refine WL.nil ?_
   refine ⟨⟨u + 1, fun i => [.pointer (some ⟨p, 0, none⟩), .pointer (some ⟨q, 0, none⟩), undef, undef, .bool false, .int .i64 (t : Int), .pointer (some ⟨ga, 0, none⟩), .int .i64 0, .pointer (some ⟨gb, 0, none⟩), .int .i64 0, .int .i64 (u : Int), .pointer (some ⟨p, 0, none⟩), .bool false, .bool false, .pointer (some ⟨q, 0, none⟩), .bool false, .bool false, .bool false, .pointer (some ⟨p, 0, none⟩), .int .i64 (H.length : Int), .pointer (some ⟨q, 0, none⟩), .int .i64 (H.length : Int), .bool false, .bool false, .bool false, .pointer (some ⟨p, 0, none⟩), v1, .pointer (some ⟨q, 0, none⟩), v2, .bool true, .bool false, .bool false, .pointer (some ⟨p, 0, none⟩), .int .i64 (H.length : Int), .int .i64 (t : Int), .bool true, .int .i64 (t : Int), .tuple #[.agg ea, .int .i64 0], .pointer (some ⟨p, 0, none⟩), .int .i64 (t : Int), .tuple #[.agg ea, .int .i64 0], .agg ea, .int .i64 0, .tuple #[.agg eb, .int .i64 0], .pointer (some ⟨q, 0, none⟩), .int .i64 (t : Int), .tuple #[.agg eb, .int .i64 0], .agg eb, .int .i64 0, .int .i64 0, .bool false, .bool false, .int .i64 0, .bool false, .bool false, .bool false, .agg ea, .agg eb, .bool true, .bool false, .bool false, .pointer (some ⟨p, 0, none⟩), .int .i64 (H.length : Int), .int .i64 ((u + 1 : Nat) : Int), .bool true, .int .i64 (u : Int), .pointer (some ⟨p, 0, none⟩), .int .i64 (t : Int), .int .i64 (u : Int), .bool b, .pointer (some ⟨q, 0, none⟩), .int .i64 (t : Int), .int .i64 (u : Int), .bool b, .bool false, .int .i64 ((u + 1 : Nat) : Int), f 76].getD i undef, rfl, by omega, IS.out, IB.out⟩, by simp [intOf]; omega⟩
  ·refine wp_seq_k fun K20 hK20 => rgn ?_
   refine VlS (.bool false) ?_
   refine WL.nil (hK20 _ _ ?_)
   refine wp_seq_k fun K21 hK21 => ?_
   refine wp_cond_false rfl ?_
   refine wp_exit ?_
   refine hK8 _ _ ?_
   refine rgn ?_
   refine VlS (.int .i64 ((t + 1 : Nat) : Int)) ?_
   refine VlS (.int .i64 ((t + 1 : Nat) : Int)) ?_
   refine WL.nil ?_
   refine ⟨⟨t + 1, fun i => [.pointer (some ⟨p, 0, none⟩), .pointer (some ⟨q, 0, none⟩), undef, undef, .bool false, .int .i64 (t : Int), .pointer (some ⟨ga, 0, none⟩), .int .i64 0, .pointer (some ⟨gb, 0, none⟩), .int .i64 0, fy 10, .pointer (some ⟨p, 0, none⟩), .bool false, .bool false, .pointer (some ⟨q, 0, none⟩), .bool false, .bool false, .bool false, .pointer (some ⟨p, 0, none⟩), .int .i64 (H.length : Int), .pointer (some ⟨q, 0, none⟩), .int .i64 (H.length : Int), .bool false, .bool false, .bool false, .pointer (some ⟨p, 0, none⟩), v1, .pointer (some ⟨q, 0, none⟩), v2, .bool true, .bool false, .bool false, .pointer (some ⟨p, 0, none⟩), .int .i64 (H.length : Int), .int .i64 ((t + 1 : Nat) : Int), .bool true, .int .i64 (t : Int), .tuple #[.agg ea, .int .i64 0], .pointer (some ⟨p, 0, none⟩), .int .i64 (t : Int), .tuple #[.agg ea, .int .i64 0], .agg ea, .int .i64 0, .tuple #[.agg eb, .int .i64 0], .pointer (some ⟨q, 0, none⟩), .int .i64 (t : Int), .tuple #[.agg eb, .int .i64 0], .agg eb, .int .i64 0, .int .i64 0, .bool false, .bool false, .int .i64 0, .bool false, .bool false, .bool false, .agg ea, .agg eb, .bool true, .bool false, .bool false, .pointer (some ⟨p, 0, none⟩), .int .i64 (H.length : Int), .int .i64 (u : Int), .bool false, fy 65, fy 66, fy 67, fy 68, fy 69, fy 70, fy 71, fy 72, fy 73, fy 74, fy 75, .int .i64 ((t + 1 : Nat) : Int)].getD i undef, rfl, by omega, IS.out, IB.out⟩, by simp [intOf]; omega⟩
 ·refine wp_seq_k fun K22 hK22 => rgn ?_
  refine VlS (.bool false) ?_
  refine WL.nil (hK22 _ _ ?_)
  refine wp_seq_k fun K23 hK23 => ?_
  refine wp_cond_false rfl ?_
  refine wp_exit ?_
  refine hK4 _ _ ?_
  refine wp_seq_k fun K24 hK24 => rgn ?_
  refine VlS (.bool true) ?_
  refine WL.nil (hK24 _ _ ?_)
  refine wp_ret ?_
  go_ret
  exact ⟨rfl, JB.out⟩
theorem nodup_at {l : List Hs} (h : l.Nodup) {i j : Nat} {x : Hs} (hi : l[i]? = some x) (hj : l[j]? = some x) : i = j := by
 obtain ⟨h1, e1⟩ := List.getElem?_eq_some_iff.1 hi
 obtain ⟨h2, e2⟩ := List.getElem?_eq_some_iff.1 hj
 exact (List.getElem_inj (h₀ := h1) (h₁ := h2) h).1 (e1.trans e2.symm)
theorem OneO.unique {par : Hs → List Hs} {l m : List Hs} (h : OneO par l) (k : OneO par m) (hm : ∀ x, x ∈ l ↔ x ∈ m) : l = m := by
 have hp : l.Perm m := (List.perm_ext_iff_of_nodup h.nd k.nd).2 hm
 have hlen := hp.length_eq
 have key : ∀ i : Nat, ∀ j : Nat, j < i → l[j]? = m[j]? := by
  intro i
  induction i with
  | zero => intro j hj; omega
  | succ i ih =>
   intro j hj
   rcases Nat.lt_or_eq_of_le (Nat.le_of_lt_succ hj) with h1 | rfl
   ·exact ih j h1
   by_cases hl : j < l.length
   ·have hl2 : j < m.length := by omega
    obtain ⟨x, hx⟩ : ∃ x, l[j]? = some x := ⟨l[j], List.getElem?_eq_getElem hl⟩
    obtain ⟨y, hy⟩ : ∃ y, m[j]? = some y := ⟨m[j], List.getElem?_eq_getElem hl2⟩
    obtain ⟨a, ha⟩ := mem_at ((hm x).1 (at_mem hx))
    obtain ⟨b, hb⟩ := mem_at ((hm y).2 (at_mem hy))
    have haj : j ≤ a := Nat.le_of_not_lt fun hc => by
     have := ih a hc
     rw [ha] at this
     have := nodup_at h.nd this hx
     omega
    have hbj : j ≤ b := Nat.le_of_not_lt fun hc => by
     have := ih b hc
     rw [hb] at this
     have := nodup_at k.nd this.symm hy
     omega
    rcases Lt.tri x y with hlt | rfl | hlt
    ·exfalso
     rcases Nat.lt_or_eq_of_le haj with h1 | rfl
     ·obtain ⟨q, z, hq, hz, hzp⟩ := k.min j a y x h1 hy ha hlt
      obtain ⟨r, hr⟩ := mem_at (h.all x (at_mem hx) z hzp)
      have h2 := h.top j r x z hx hr hzp
      have h3 := ih r h2
      rw [hr] at h3
      have := nodup_at k.nd h3.symm hz
      omega
     ·rw [ha] at hy; cases hy; exact Lt.irrefl _ hlt
    ·rw [hx, hy]
    ·exfalso
     rcases Nat.lt_or_eq_of_le hbj with h1 | rfl
     ·obtain ⟨q, z, hq, hz, hzp⟩ := h.min j b x y h1 hx hb hlt
      obtain ⟨r, hr⟩ := mem_at (k.all y (at_mem hy) z hzp)
      have h2 := k.top j r y z hy hr hzp
      have h3 := ih r h2
      rw [hr] at h3
      have := nodup_at h.nd h3 hz
      omega
     ·rw [hb] at hx; cases hx; exact Lt.irrefl _ hlt
   ·rw [List.getElem?_eq_none (by omega), List.getElem?_eq_none (by omega)]
 exact List.ext_getElem? fun i => key (i + 1) i (Nat.lt_succ_self i)
theorem Good.perm {L L' : List EX} (h : Good L) (hp : L'.Perm L) : Good L' := by
 have hnd : (idsE L').Nodup := (hp.map (fun x : EX => x.id)).nodup_iff.2 h.nd
 have hnv : ((L.map vxE).map (·.id)).Nodup := by rw [idsE_vx]; exact h.nd
 have hnv' : ((L'.map vxE).map (·.id)).Nodup := by rw [idsE_vx]; exact hnd
 have hck : ∀ x, hasB (L.map vxE) x = true → ckOf (L'.map vxE) x = ckOf (L.map vxE) x := fun x hx => by
  obtain ⟨v, hv, rfl⟩ := hasB_iff.1 hx
  rw [ckOf_mem hnv hv, ckOf_mem hnv' ((hp.map vxE).symm.subset hv)]
 refine ⟨fun i hi => ?_, fun i hi => ?_⟩
 ·have hl := h.len
  have hpl := hp.length_eq
  have hx : L'[i] ∈ L := hp.subset (List.getElem_mem hi)
  unfold al1
  rw [if_neg (by omega), List.getElem?_eq_getElem hi]
  simp only
  rw [if_neg (fun hh => hh (h.chk hx)), if_neg]
  intro hm
  obtain ⟨y, hy, e⟩ := List.mem_map.1 hm
  obtain ⟨j, hj, ej⟩ := List.mem_take_iff_getElem.1 hy
  have e2 : (idsE L')[j]'(by rw [idsE_len]; omega) = (idsE L')[i]'(by rw [idsE_len]; omega) := by
   simp only [idsE, List.getElem_map]; rw [ej]; exact e
  have := (List.getElem_inj hnd).1 e2
  omega
 ·have hx : L'[i] ∈ L := hp.subset (List.getElem_mem hi)
  obtain ⟨h1, h2⟩ := h.par hx
  unfold tg1
  rw [List.getElem?_eq_getElem hi]
  simp only
  have hall : L'[i].N.ps.all (hasB (L'.map vxE)) = true := all_iff.2 fun p hpp => by
   obtain ⟨v, hv, e⟩ := hasB_iff.1 (h1 p hpp)
   exact hasB_iff.2 ⟨v, (hp.map vxE).symm.subset hv, e⟩
  rw [if_neg (by rw [hall]; decide), if_neg]
  rw [mxC_congr (m := L.map vxE) fun p hpp => hck p (h1 p hpp)]
  exact fun hh => hh h2
theorem ids_inj {L : List EX} (hn : (idsE L).Nodup) {x y : EX} (hx : x ∈ L) (hy : y ∈ L) (e : x.id = y.id) : x = y := by
 obtain ⟨i, hi, rfl⟩ := List.mem_iff_getElem.1 hx
 obtain ⟨j, hj, rfl⟩ := List.mem_iff_getElem.1 hy
 have e2 : (idsE L)[i]'(by rw [idsE_len]; exact hi) = (idsE L)[j]'(by rw [idsE_len]; exact hj) := by simp only [idsE, List.getElem_map]; exact e
 have := (List.getElem_inj hn).1 e2
 subst this
 rfl
theorem ex_unique {L L' H K : List EX} (hG : Good L) (hp : L'.Perm L) (h1 : OneO (parH (L.map vxE)) (idsE H)) (m1 : ∀ x, x ∈ idsE H ↔ x ∈ idsE L) (s1 : ∀ x ∈ H, x ∈ L) (h2 : OneO (parH (L'.map vxE)) (idsE K)) (m2 : ∀ x, x ∈ idsE K ↔ x ∈ idsE L') (s2 : ∀ x ∈ K, x ∈ L') : H = K := by
 have hnv : ((L.map vxE).map (·.id)).Nodup := by rw [idsE_vx]; exact hG.nd
 have hpar : parH (L'.map vxE) = parH (L.map vxE) := funext fun x => parH_perm hnv (hp.map vxE) x
 rw [hpar] at h2
 have hids : idsE H = idsE K := OneO.unique h1 h2 fun x => by
  rw [m1 x, m2 x]
  exact (hp.map (fun x : EX => x.id)).mem_iff.symm
 have hl : H.length = K.length := by rw [← idsE_len H, hids, idsE_len]
 refine List.ext_getElem hl fun i hi hk => ?_
 refine ids_inj hG.nd (s1 _ (List.getElem_mem hi)) (hp.subset (s2 _ (List.getElem_mem hk))) ?_
 have e1 : (idsE H)[i]'(by rw [idsE_len]; exact hi) = H[i].id := by simp [idsE]
 have e2 : (idsE K)[i]'(by rw [idsE_len]; exact hk) = K[i].id := by simp [idsE]
 rw [← e1, ← e2]
 simp only [hids]
def UndOk (X : List EX) (U : List (List Nat)) : Prop := ∀ i, i < U.length → U[i]? = some (undF U i (((X[i]?).getD dEX).N.ps.map (ixH (idsE X))))
theorem und_ok {H : List EP} {S : List (Nat × List Nat)} (h : ∀ i (hi : i < S.length), S[i].2 = undF (S.map (·.2)) i ((((exs H)[i]?).getD dEX).N.ps.map (ixH (idsE (exs H)))) ∧ i < H.length ∧ Wds S[i].2) : UndOk (exs H) (S.map (·.2)) := fun i hi => by
 have hi' : i < S.length := by simpa using hi
 rw [List.getElem?_map, List.getElem?_eq_getElem hi', Option.map_some, (h i hi').1]
theorem und_unique {X : List EX} {U V : List (List Nat)} (hT : Topo X) (hU : UndOk X U) (hV : UndOk X V) (hu : U.length = X.length) (hv : V.length = X.length) : U = V := by
 have key : ∀ n, ∀ i, i < n → U.getD i [] = V.getD i [] := by
  intro n
  induction n with
  | zero => intro i hi; omega
  | succ n ih =>
   intro i hi
   by_cases hx : i < X.length
   ·have h1 := hU i (by omega)
    have h2 := hV i (by omega)
    rw [List.getD_eq_getElem?_getD, List.getD_eq_getElem?_getD, h1, h2, Option.getD_some, Option.getD_some]
    refine undF_congr fun k hk => ih k ?_
    obtain ⟨h, hh, rfl⟩ := List.mem_map.1 hk
    rw [List.getElem?_eq_getElem hx, Option.getD_some] at hh
    have := hT i hx h hh
    omega
   ·rw [List.getD_eq_getElem?_getD, List.getD_eq_getElem?_getD, List.getElem?_eq_none (by omega), List.getElem?_eq_none (by omega)]
 refine List.ext_getElem (by omega) fun i h1 h2 => ?_
 have := key (i + 1) i (by omega)
 rw [List.getD_eq_getElem?_getD, List.getD_eq_getElem?_getD, List.getElem?_eq_getElem h1, List.getElem?_eq_getElem h2] at this
 exact this
theorem PastAt.topo {w w' : World} {p : Nat} {L : List EX} {H : List EP} {S : List (Nat × List Nat)} (h : PastAt w w' p L H S) : Topo (exs H) := topo_of h.good h.one h.mem h.sub
theorem same_of {wa wb w : World} {p q : Nat} {L L' : List EX} {H K : List EP} {S U : List (Nat × List Nat)} (h1 : PastAt wa w p L H S) (h2 : PastAt wb w q L' K U) (hp : L'.Perm L) : ∃ v x mb ub mc uc, SameAt w p q H K S U v x mb ub mc uc := by
 obtain ⟨v, mb, ub, a1, o1⟩ := h1.at'
 obtain ⟨x, mc, uc, a2, o2⟩ := h2.at'
 have hex : exs H = exs K := ex_unique h1.good hp h1.one h1.mem h1.sub h2.one h2.mem h2.sub
 obtain ⟨v', mb', ub', r1⟩ := h1.rd
 obtain ⟨x', mc', uc', r2⟩ := h2.rd
 have e1 : v' = v := Option.some.inj ((r1.p.c 0 rfl).symm.trans (a1.p.c 0 rfl))
 have e2 : x' = x := Option.some.inj ((r2.p.c 0 rfl).symm.trans (a2.p.c 0 rfl))
 have hw : S.map (·.2) = U.map (·.2) := und_unique h1.topo (und_ok h1.und) (by rw [hex]; exact und_ok h2.und) (by rw [List.length_map, h1.sl, exs_len]) (by rw [List.length_map, h2.sl, hex, exs_len])
 refine ⟨v', x', mb', ub', mc', uc', r1, r2, hex, hw, by rw [e1]; exact owns_lt o1.own, by rw [e2]; exact owns_lt o2.own, fun i hi => ?_, fun i hi => ?_⟩
 ·rw [(h1.und i hi).1, undF_len]
  have := (h1.und i hi).2.1
  omega
 ·rw [(h2.und i hi).1, undF_len]
  have := (h2.und i hi).2.1
  omega
theorem par_ok {H : List EX} (hT : Topo H) (hn : (idsE H).Nodup) {i : Nat} (hi : i < H.length) : parB (idsE H) H[i].N.ps (i : Int) = true := List.all_eq_true.2 fun h hh => by
 have h1 := hT i hi h hh
 have h2 : ixH (idsE H) h < (idsE H).length := by rw [idsE_len]; omega
 rw [numV, if_pos h2]
 exact decide_eq_true (by omega)
theorem par_no {L H : List EX} (hG : Good L) (h1 : OneO (parH (L.map vxE)) (idsE H)) (hs : ∀ x ∈ H, x ∈ L) {i k : Nat} (hik : i < k) (hk : k < H.length) (hc : cf H[k].id H[i].id ≤ 0) : parB (idsE H) H[k].N.ps (i : Int) = false := by
 have hnv : ((L.map vxE).map (·.id)).Nodup := by rw [idsE_vx]; exact hG.nd
 have hi : i < H.length := by omega
 have ei : (idsE H)[i]? = some H[i].id := by rw [List.getElem?_eq_getElem (by rw [idsE_len]; exact hi)]; simp [idsE]
 have ek : (idsE H)[k]? = some H[k].id := by rw [List.getElem?_eq_getElem (by rw [idsE_len]; exact hk)]; simp [idsE]
 have hlt : Lt H[k].id H[i].id := by
  rcases Lt.tri H[k].id H[i].id with h | h | h
  ·exact h
  ·have e2 : (idsE H)[k]'(by rw [idsE_len]; exact hk) = (idsE H)[i]'(by rw [idsE_len]; exact hi) := by simp only [idsE, List.getElem_map]; exact h
   have := (List.getElem_inj h1.nd).1 e2
   omega
  ·exfalso
   have h' : cf H[i].id H[k].id < 0 := h
   have h3 := h.asymm
   have h4 : ¬ cf H[k].id H[i].id < 0 := h3
   have h5 : cf H[k].id H[i].id = 0 := by omega
   have h6 := (cf_zero H[k].id H[i].id).1 h5
   rw [h6] at h
   exact Lt.irrefl _ h
 obtain ⟨j, z, hij, hj, hz⟩ := h1.min i k H[i].id H[k].id hik ei ek hlt
 have hp : parH (L.map vxE) H[k].id = H[k].N.ps := parH_mem hnv (List.mem_map.2 ⟨H[k], hs _ (List.getElem_mem hk), rfl⟩ : vxE H[k] ∈ L.map vxE)
 rw [hp] at hz
 rcases Bool.eq_false_or_eq_true (parB (idsE H) H[k].N.ps (i : Int)) with h | h
 ·exfalso
  have h2 := of_decide_eq_true (List.all_eq_true.1 h z hz)
  obtain ⟨hjl, ej⟩ := List.getElem?_eq_some_iff.1 hj
  have h3 := ixH_of h1.nd hjl
  rw [ej] at h3
  have h4 : ixH (idsE H) z < (idsE H).length := by rw [h3]; exact hjl
  rw [numV, if_pos h4, h3] at h2
  omega
 ·exact h
def IRow (w : World) (v : Value) (ns : List Int) : Prop := (∃ a c, v = .slice a 0 c ∧ ns = []) ∨ ∃ b off c, v = .slice (some ⟨b, off, none⟩) ns.length c ∧ ∀ i (hi : i < ns.length), w.cell? ⟨b, off + i, none⟩ = some (.int .i64 ns[i])
theorem IRow.form {w : World} {v : Value} {ns : List Int} (h : IRow w v ns) : ∃ a c, v = .slice a ns.length c := by
 rcases h with ⟨a, c, rfl, rfl⟩ | ⟨b, off, c, rfl, _⟩
 ·exact ⟨a, c, rfl⟩
 ·exact ⟨_, c, rfl⟩
theorem IRow.below {w w' : World} {v : Value} {ns : List Int} (h : IRow w v ns) (hb : Below w.heap.size w w') : IRow w' v ns := by
 rcases h with h | ⟨b, off, c, rfl, h⟩
 ·exact .inl h
 ·exact .inr ⟨b, off, c, rfl, fun i hi => (Grown.below (S := fun _ => False) hb).cell (h i hi) fun h => h⟩
theorem IRow.at {w : World} {a : Option Addr} {n c t : Nat} {ns : List Int} (h : IRow w (.slice a n c) ns) (ht : t < ns.length) : ∃ b off, a = some ⟨b, off, none⟩ ∧ w.cell? ⟨b, off + t, none⟩ = some (.int .i64 ns[t]) := by
 rcases h with ⟨_, _, _, rfl⟩ | ⟨b, off, c, e, h⟩
 ·simp at ht
 ·injection e with e1
  exact ⟨b, off, e1, h t ht⟩
def selA (n : Nat) (ms : List Nat) (k : Int) : List Nat := if 0 ≤ k ∧ k < (n : Int) ∧ k.toNat ∉ ms then ms ++ [k.toNat] else ms
def selP (n : Nat) (ns : List Int) : List Nat := ns.foldl (selA n) []
theorem selP_snoc (n : Nat) (ns : List Int) (k : Int) : selP n (ns ++ [k]) = selA n (selP n ns) k := by rw [selP, List.foldl_append]; rfl
theorem selA_ok {n : Nat} {ms : List Nat} (h : ms.Nodup ∧ ∀ i ∈ ms, i < n) (k : Int) : (selA n ms k).Nodup ∧ ∀ i ∈ selA n ms k, i < n := by
 unfold selA
 split
 ·rename_i hk
  refine ⟨List.nodup_append.2 ⟨h.1, by simp, fun a ha b hb => ?_⟩, fun i hi => ?_⟩
  ·rw [List.mem_singleton.1 hb]; exact fun e => hk.2.2 (e ▸ ha)
  ·rcases List.mem_append.1 hi with hi | hi
   ·exact h.2 i hi
   ·rw [List.mem_singleton.1 hi]; omega
 ·exact h
theorem selP_ok (n : Nat) (ns : List Int) : (selP n ns).Nodup ∧ ∀ i ∈ selP n ns, i < n := by
 unfold selP
 suffices h : ∀ (ns : List Int) (ms : List Nat), (ms.Nodup ∧ ∀ i ∈ ms, i < n) → (ns.foldl (selA n) ms).Nodup ∧ ∀ i ∈ ns.foldl (selA n) ms, i < n from h ns [] ⟨by simp, by simp⟩
 intro ns
 induction ns with
 | nil => exact fun ms h => h
 | cons k ns ih => exact fun ms h => ih _ (selA_ok h k)
theorem len_below {n : Nat} {ms : List Nat} (h : ms.Nodup) (hb : ∀ i ∈ ms, i < n) : ms.length ≤ n := by
 have := List.Nodup.length_le_of_subset' (m := List.range n) h fun x hx => List.mem_range.2 (hb x hx)
 rwa [List.length_range] at this
def selB (ms : List Nat) (t : Nat) : List Nat := ms ++ (List.range t).filter fun i => decide (i ∉ ms)
theorem selB_zero (ms : List Nat) : selB ms 0 = ms := by simp [selB]
theorem selB_succ (ms : List Nat) (t : Nat) : selB ms (t + 1) = if t ∈ ms then selB ms t else selB ms t ++ [t] := by
 unfold selB
 rw [List.range_succ, List.filter_append]
 by_cases h : t ∈ ms
 ·rw [if_pos h]; simp [h]
 ·rw [if_neg h]; simp [h]
theorem selB_ok {n t : Nat} {ms : List Nat} (h : ms.Nodup ∧ ∀ i ∈ ms, i < n) (ht : t ≤ n) : (selB ms t).Nodup ∧ ∀ i ∈ selB ms t, i < n := by
 unfold selB
 refine ⟨List.nodup_append.2 ⟨h.1, (List.nodup_range).filter _, fun a ha b hb e => ?_⟩, fun i hi => ?_⟩
 ·have := (List.mem_filter.1 hb).2
  rw [← e] at this
  exact (of_decide_eq_true this) ha
 ·rcases List.mem_append.1 hi with hi | hi
  ·exact h.2 i hi
  ·have := List.mem_range.1 (List.mem_filter.1 hi).1; omega
theorem selB_perm {n : Nat} {ms : List Nat} (h : ms.Nodup ∧ ∀ i ∈ ms, i < n) : (selB ms n).Perm (List.range n) := by
 refine (List.perm_ext_iff_of_nodup (selB_ok h (Nat.le_refl _)).1 List.nodup_range).2 fun x => ?_
 rw [List.mem_range]
 constructor
 ·exact fun hx => (selB_ok h (Nat.le_refl _)).2 x hx
 ·intro hx
  unfold selB
  by_cases hm : x ∈ ms
  ·exact List.mem_append_left _ hm
  ·exact List.mem_append_right _ (List.mem_filter.2 ⟨List.mem_range.2 hx, decide_eq_true hm⟩)
def q0 : EP := (dEX, .slice none 0 0, .slice none 0 0)
def gE (L : List EP) (i : Nat) : EP := L.getD i q0
theorem gE_get (L : List EP) (i : Nat) (h : i < L.length) : gE L i = L[i] := by simp [gE, List.getD_eq_getElem?_getD, h]
theorem gE_all (L : List EP) : (List.range L.length).map (gE L) = L := by
 refine List.ext_getElem (by simp) fun i h1 h2 => ?_
 rw [List.getElem_map, List.getElem_range, gE_get L i h2]
theorem sel_perm {L : List EP} {ms : List Nat} (h : ms.Nodup ∧ ∀ i ∈ ms, i < L.length) : (exs ((selB ms L.length).map (gE L))).Perm (exs L) := by
 have h1 := ((selB_perm h).map (gE L)).map (fun q : EP => q.1)
 rw [gE_all] at h1
 exact h1
theorem sel_in {w : World} {L : List EP} {ms : List Nat} (hi : EIn w L) (h : ∀ i ∈ ms, i < L.length) : EIn w (ms.map (gE L)) := fun q hq => by
 obtain ⟨i, him, rfl⟩ := List.mem_map.1 hq
 rw [gE_get L i (h i him)]
 exact hi _ (List.getElem_mem _)
def flg (n : Nat) (ms : List Nat) : List Value := (List.range n).map fun i => .bool (decide (i ∈ ms))
theorem flg_len (n : Nat) (ms : List Nat) : (flg n ms).length = n := by simp [flg]
theorem flg_get (n : Nat) (ms : List Nat) (i : Nat) (h : i < n) : (flg n ms)[i]? = some (.bool (decide (i ∈ ms))) := by simp [flg, h]
theorem flg_set (n : Nat) (ms : List Nat) (k : Nat) : (flg n ms).toArray.setIfInBounds k (.bool true) = (flg n (ms ++ [k])).toArray := by
 rw [List.setIfInBounds_toArray]
 congr 1
 refine List.ext_getElem? fun i => ?_
 rw [List.getElem?_set]
 by_cases hi : i < n
 ·rw [flg_get n _ i hi, flg_get n _ i hi, flg_len]
  by_cases e : k = i
  ·subst e; rw [if_pos rfl, if_pos hi]; simp
  ·rw [if_neg e]
   have : (i ∈ ms ++ [k]) ↔ i ∈ ms := by simp [Ne.symm e]
   rw [decide_eq_decide.2 this]
 ·rw [List.getElem?_eq_none (by rw [flg_len]; omega), List.getElem?_eq_none (by rw [flg_len]; omega), flg_len]
  by_cases e : k = i
  ·subst e; rw [if_pos rfl, if_neg hi]
  ·rw [if_neg e]
theorem Tryz.info4b : (Tryz.prog.info? 4).map (fun i => (i.zero, i.size, i.bytes)) = some (some (.bool false), 1, 1) := by kernel_rfl
set_option maxRecDepth 8000 in
theorem run_makeBs (n : Nat) (hn : n ≤ 1000000) (w : World) : (Instr.makeSlice 57 (.int .i64 (n : Int)) (.int .i64 (n : Int))).run Tryz.prog w = .ok (.slice (some ⟨w.heap.size, 0, none⟩) n n) (w.alloc (.cells (flg n []).toArray 4)) := by
 obtain ⟨i, hi, hzz⟩ := Option.map_eq_some_iff.1 Tryz.info4b
 simp only [Prod.mk.injEq] at hzz
 obtain ⟨hz, hs, hb⟩ := hzz
 have hr := run_make (P := Tryz.prog) w 57 4 i _ Tryz.underlying57 hi hz .i64 .i64 (n : Int) (n : Int) (by omega) (by omega) (by rw [hb]; omega) (by omega)
 simp only [Int.toNat_natCast, hs, Value.cells, Nat.mul_one] at hr
 rw [hr]
 congr 3
 apply Array.ext
 ·simp [size_madeCells, flg]
 ·intro i h1 h2
  simp [madeCells, flg, Nat.mod_one]
theorem grow_below (w : World) (q : Nat) (os : Array Obj) : Below w.heap.size w (Go.Sort.grow (w.drewN q) os) where
 os := rfl
 tape := rfl
 output := rfl
 size := by show w.heap.size ≤ (w.heap ++ os).size; simp
 block i hi := by show (w.heap ++ os)[i]? = _; rw [Array.getElem?_append_left hi]
end Go.Proofs.YthlohkgdmfkpeaaGreat
