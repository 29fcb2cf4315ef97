import Derived.Test.YtogmdfhicbmplaaB16
import Derived.Test.YtogmdfhicbmplaaB17
namespace Go.Proofs.Ytogmdfhicbmplaa
open Go.RowKit
set_option linter.unusedSimpArgs false
set_option linter.unusedVariables false

theorem Try.in79 (w : World) (vs : Array Value) : (callFunc 79 vs).run Try.prog w = .ok (.enter 79 vs) w := by kernel_rfl
/-! ### What the tables count. -/
structure Cnt (A : List Hs) (E : List (Hs × Hs)) (LK : List Int) (CL : Nat → List Int) : Prop where
 lk : ∀ a, a < A.length → LK.getD a 0 = ((E.countP fun q => decide (q.1 = A.getD a default) : Nat) : Int)
 cl : ∀ p a, p < A.length → a < A.length → (CL p).count (a : Int) = E.count (A.getD a default, A.getD p default)
 rg : ∀ p, p < A.length → ∀ i ∈ CL p, ∃ a : Nat, i = (a : Int) ∧ a < A.length
 ll : ∀ p, p < A.length → (CL p).length ≤ E.length
theorem Cnt.nil (A : List Hs) : Cnt A [] (List.replicate A.length 0) (fun _ => []) :=
 ⟨fun a ha => by simp [List.getD_eq_getElem?_getD, ha], fun p a _ _ => by simp, fun p _ i hi => by simp at hi, fun p _ => by simp⟩
theorem getD_inj {A : List Hs} (h : A.Pairwise Lt) {a b : Nat} (ha : a < A.length) (hb : b < A.length) (e : A.getD a default = A.getD b default) : a = b := by
 have h1 := at_getD ha
 rw [e] at h1
 exact nodup_at (pw_nodup h) h1 (at_getD hb)
theorem Cnt.snoc {A : List Hs} {E : List (Hs × Hs)} {LK : List Int} {CL : Nat → List Int} (h : Cnt A E LK CL) (hA : A.Pairwise Lt) (hl : LK.length = A.length) {a0 p0 : Nat} (ha : a0 < A.length) (hp : p0 < A.length) {x y : Hs} (hx : A.getD a0 default = x) (hy : A.getD p0 default = y) :
  Cnt A (E ++ [(x, y)]) (LK.set a0 (LK.getD a0 0 + 1)) (fun q => if q = p0 then CL p0 ++ [(a0 : Int)] else CL q) := by
 refine ⟨fun a h1 => ?_, fun p a h1 h2 => ?_, fun p h1 i hi => ?_, fun p h1 => ?_⟩
 ·rw [getD_setI _ _ _ _ (by rw [hl]; exact ha), List.countP_append, List.countP_singleton]
  by_cases e : a = a0
  ·subst e; rw [if_pos rfl, h.lk a h1, hx, if_pos (by rw [decide_eq_true_iff])]; omega
  ·rw [if_neg e, h.lk a h1, if_neg (by rw [decide_eq_true_iff]; exact fun e2 => e (getD_inj hA h1 ha (by rw [hx]; exact e2.symm)))]; rfl
 ·rw [List.count_append, List.count_singleton]
  have ia : A.getD a default = x ↔ a = a0 := ⟨fun e3 => getD_inj hA h2 ha (by rw [hx]; exact e3), fun e => by rw [e]; exact hx⟩
  have ip : A.getD p default = y ↔ p = p0 := ⟨fun e3 => getD_inj hA h1 hp (by rw [hy]; exact e3), fun e => by rw [e]; exact hy⟩
  have hc := h.cl p a h1 h2
  by_cases e : p = p0
  ·subst e
   simp only [if_true]
   rw [List.count_append, List.count_singleton, hc]
   congr 1
   by_cases e2 : a = a0
   ·rw [ia.2 e2, hy, e2]; simp
   ·rw [if_neg (by rw [beq_iff_eq]; omega), if_neg (by rw [beq_iff_eq]; exact fun e3 => e2 (ia.1 (Prod.mk.inj e3).1.symm))]
  ·simp only [if_neg e]
   rw [hc, if_neg (by rw [beq_iff_eq]; exact fun e3 => e (ip.1 (Prod.mk.inj e3).2.symm)), Nat.add_zero]
 ·by_cases e : p = p0
  ·subst e
   rw [if_pos rfl] at hi
   rcases List.mem_append.1 hi with hi | hi
   ·exact h.rg p h1 i hi
   ·exact ⟨a0, List.mem_singleton.1 hi, ha⟩
  ·rw [if_neg e] at hi; exact h.rg p h1 i hi
 ·rw [List.length_append, List.length_singleton]
  by_cases e : p = p0
  ·subst e; rw [if_pos rfl, List.length_append, List.length_singleton]; have := h.ll p h1; omega
  ·rw [if_neg e]; have := h.ll p h1; omega
theorem prs_len {L : List VX} (h : ∀ v ∈ L, v.ps.length ≤ 64) : (prs L).length ≤ L.length * 64 := by
 induction L with
 | nil => simp [prs]
 | cons v r ih =>
  have e : prs (v :: r) = (v.ps.map fun p => (v.id, p)) ++ prs r := by unfold prs; rw [List.flatMap_cons]
  rw [e, List.length_append, List.length_map, List.length_cons]
  have := h v (List.mem_cons_self ..)
  have := ih fun u hu => h u (List.mem_cons_of_mem _ hu)
  omega
/-- What the tables are when all vertices are counted. -/
structure Kid (A : List Hs) (par : Hs → List Hs) (CL : Nat → List Int) : Prop where
 cl : ∀ p a, p < A.length → a < A.length → (CL p).count (a : Int) = if A.getD p default ∈ par (A.getD a default) then 1 else 0
 rg : ∀ p, p < A.length → ∀ i ∈ CL p, ∃ a : Nat, i = (a : Int) ∧ a < A.length
 ll : ∀ p, p < A.length → (CL p).length ≤ 262144
theorem lkN_nil (ps : List Hs) : lkN [] ps = ps.length := by unfold lkN; rw [List.countP_eq_length]; intro a _; simp
theorem Cnt.kid {A : List Hs} {L : List VX} {LK : List Int} {CL : Nat → List Int} (h : Cnt A (prs L) LK CL) (hn : (L.map (·.id)).Nodup) (hm : ∀ x, x ∈ A ↔ x ∈ L.map (·.id)) (hp : ∀ v ∈ L, v.ps.Pairwise Lt) (h64 : ∀ v ∈ L, v.ps.length ≤ 64) (hL : L.length ≤ 4096) :
  Kid A (parH L) CL ∧ ∀ a, a < A.length → LK.getD a 0 = lkA (parH L) [] (A.getD a default) := by
 have key : ∀ a, a < A.length → ∃ v ∈ L, v.id = A.getD a default ∧ parH L (A.getD a default) = v.ps := fun a ha => by
  obtain ⟨v, hv, e⟩ := List.mem_map.1 ((hm _).1 (at_mem (at_getD ha)))
  exact ⟨v, hv, e, by rw [← e]; exact parH_mem hn hv⟩
 refine ⟨⟨fun p a h1 h2 => ?_, h.rg, fun p h1 => ?_⟩, fun a ha => ?_⟩
 ·obtain ⟨v, hv, e, e2⟩ := key a h2
  rw [h.cl p a h1 h2, e2, ← e]
  exact prs_pair hn (fun v hv => pw_nodup (hp v hv)) hv _
 ·have := h.ll p h1; have := prs_len h64; omega
 ·obtain ⟨v, hv, e, e2⟩ := key a ha
  rw [h.lk a ha, lkA, if_neg (by simp), lkN_nil, e2, ← e, prs_cnt hn v hv]
theorem lkA_bnd {par : Hs → List Hs} {O : List Hs} {x : Hs} (h : (par x).length ≤ 64) : -1 ≤ lkA par O x ∧ lkA par O x ≤ 64 := by
 unfold lkA
 by_cases e : x ∈ O
 ·rw [if_pos e]; omega
 ·rw [if_neg e]
  have : lkN O (par x) ≤ (par x).length := List.countP_le_length
  omega
theorem cnt_take1 {C : List Int} {u : Nat} (hu : u < C.length) (a : Int) : (C.take (u + 1)).count a = (C.take u).count a + if C[u] = a then 1 else 0 := by
 rw [List.take_add_one, List.getElem?_eq_getElem hu, List.count_append]
 simp [List.count_singleton]
theorem ix_in {A : List Hs} (hA : A.Pairwise Lt) {x : Hs} (hx : x ∈ A) : ∃ a : Nat, a < A.length ∧ ixF x A 0 = (a : Int) ∧ A.getD a default = x := by
 obtain ⟨a, ha⟩ := mem_at hx
 obtain ⟨h1, h2⟩ := List.getElem?_eq_some_iff.1 ha
 exact ⟨a, h1, ixF_inc (pw_inc hA) a h1 h2, getD_at ha⟩
theorem prs_take {L : List VP} {t : Nat} (ht : t < L.length) : prs ((L.take (t + 1)).map (·.1)) = prs ((L.take t).map (·.1)) ++ L[t].1.ps.map fun p => (L[t].1.id, p) := by
 rw [List.take_add_one, List.getElem?_eq_getElem ht, List.map_append]
 exact prs_app _ _
theorem WL.mkS {ops : Array Oper} {rest : List Oper} {o : Oper} {a : Act} {w : World} {Q : Exit → Act → World → Prop} (hw : Region.wanted o (yielded ops a.tmps) = true) (t : TypeId) (x y : Operand) (ho : o.op = .makeSlice t x y) (vx vy : Value) (hx : a.eval x = vx) (hy : a.eval y = vy) (v : Value) (w' : World)
  (hr : (Instr.makeSlice t vx vy).run Try.prog w = .ok v w') (h : WL Try.prog ops Q rest (a.put o.dst v) w') : WL Try.prog ops Q (o :: rest) a w :=
 ⟨wpList_wanted hw fun K hK => by
  unfold Oper.wp
  simp only [execOp, ho, hx, hy, Sem.run_bind, hr, Result.andThen_ok]
  exact hK _ _ h.out⟩
theorem WL.appJ {ops : Array Oper} {rest : List Oper} {o : Oper} {a : Act} {w : World} {Q : Exit → Act → World → Prop} (hw : Region.wanted o (yielded ops a.tmps) = true) (s x : Operand)
  (ho : o.op = .call { callee := .builtin .append, args := #[s, x], argTypes := #[23, 23] }) (v : Value) (l : List Int) (g1 : Nat) (m : Int)
  (hs : a.eval s = v) (hx : a.eval x = .slice (some ⟨g1, 0, none⟩) 1 1) (hown : OwnJ w v l) (hc : w.cell? ⟨g1, 0, none⟩ = some (.int .i64 m)) (hb : l.length + 1 ≤ 1000000)
  (h : ∀ v' w', AppPostJ w v (l ++ [m]) v' w' → WL Try.prog ops Q rest (a.put o.dst v') w') : WL Try.prog ops Q (o :: rest) a w :=
 ⟨wpList_wanted hw fun K hK => by
  obtain ⟨v', w', hr, h2⟩ := run_appJ w o.type v l hown g1 m hc hb
  unfold Oper.wp execOp
  simp only [ho, resolve, invoke, builtin, Sem.run_bind, Sem.run_pure, Result.andThen_ok, List.map_toArray, List.map_cons, List.map_nil, hs, hx, hr]
  exact hK _ _ (h v' w' h2).out⟩
theorem bsI (c : Int) (w : World) : (Instr.buildSlice 23 1 #[(0, .int .i64 c)]).run Try.prog w = .ok (.slice (some ⟨w.heap.size, 0, none⟩) 1 1) (w.alloc (.cells #[.int .i64 c] 3)) := by kernel_rfl
set_option maxRecDepth 8000 in
set_option maxHeartbeats 2000000 in
theorem rorder_any (vl : Value) (L : List VP) (G : List Hs) (w : World) (hr : VRow w vl L) (hL : L.length ≤ 4096) (hP : ∀ q ∈ L, q.1.ps.length ≤ 64) (hn : ((L.map (·.1)).map (·.id)).Nodup) (hps : ∀ q ∈ L, q.1.ps.Pairwise Lt) (hG : OneO (parH (L.map (·.1))) G) (hm : ∀ x, x ∈ G ↔ x ∈ (L.map (·.1)).map (·.id)) : Calls Try.prog 79 #[vl] w fun e w' => ∃ v', e = .returned v' ∧ Fresh w w' v' G := by
 obtain ⟨pa, pc, rfl⟩ := hr.form
 have HV := Keep.mk hr
 have HL := Keep.mk hL
 have HP := Keep.mk hP
 have Hn := Keep.mk hn
 have Hpw := Keep.mk hps
 have HG := Keep.mk hG
 have Hm := Keep.mk hm
 have Hpar : ∀ y ∈ G, ∃ q ∈ L, parH (L.map (·.1)) y = q.1.ps := fun y hy => by
  obtain ⟨u, hu, e⟩ := List.mem_map.1 ((hm y).1 hy)
  obtain ⟨q, hq, rfl⟩ := List.mem_map.1 hu
  exact ⟨q, hq, by rw [← e]; exact parH_mem hn hu⟩
 have HPn : Keep (∀ y ∈ G, (parH (L.map (·.1)) y).Nodup) := ⟨fun y hy => by obtain ⟨q, hq, e⟩ := Hpar y hy; rw [e]; exact pw_nodup (hps q hq)⟩
 have HPb : Keep (∀ y ∈ G, (parH (L.map (·.1)) y).length ≤ 64) := ⟨fun y hy => by obtain ⟨q, hq, e⟩ := Hpar y hy; rw [e]; exact hP q hq⟩
 clear hr hL hP hn hps hG hm Hpar
 go_enter Try.func79, Try.ntmps79
 refine wp_seq_k fun K1 hK1 => rgn ?_
 refine VlS (.slice none 0 0) ?_
 refine WL.nil (hK1 _ _ ?_)
 refine wp_seq_k fun K2 hK2 => rgn ?_
 refine VlS (.slice pa L.length pc) ?_
 refine WL.callF (by kernel_rfl) 78 _ _ rfl Try.in78 #[.slice pa L.length pc] (by simp [Act.eval]) ?_
 refine (ids_any _ L w HV.out HL.out).mono ?_
 rintro e w1 ⟨v1, rfl, hf⟩
 refine ⟨_, rfl, ?_⟩
 have F1 := Keep.mk hf
 have B1 := Keep.mk hf.bel
 clear hf
 have Hil : Keep ((L.map fun q => q.1.id).length ≤ 4096) := ⟨by rw [List.length_map]; exact HL.out⟩
 simp only [Act.put, pqA, pqB, pqC]
 refine VlS (v1) ?_
 refine WL.nil (hK2 _ _ ?_)
 refine wp_seq_k fun K3 hK3 => rgn ?_
 refine VlS (v1) ?_
 refine WL.callF (by kernel_rfl) 16 _ _ rfl Try.in16 #[v1] (by simp [Act.eval]) ?_
 refine (refSort_any _ v1 (L.map fun q => q.1.id) w1 rfl F1.out.own.row (Nat.le_trans Hil.out (by omega))).mono ?_
 rintro e w2 ⟨v2, A, rfl, hown, hpw, hmem, hlen, hb⟩
 refine ⟨_, rfl, ?_⟩
 have HA := Keep.mk hpw
 have HAm : Keep (∀ x, x ∈ A ↔ x ∈ G) := ⟨fun x => by rw [hmem, Hm.out, List.map_map]; rfl⟩
 have HAi : Keep (∀ x, x ∈ A ↔ x ∈ (L.map (·.1)).map (·.id)) := ⟨fun x => by rw [hmem, List.map_map]; rfl⟩
 have HAl : Keep (A.length ≤ 4096) := ⟨Nat.le_trans hlen Hil.out⟩
 have B2 := Keep.mk (belowT B1.out hb)
 have HAo := Keep.mk (OwnH.of hown)
 clear hpw hmem hlen hb hown F1 B1
 obtain ⟨aa, acp, rfl⟩ := HAo.out.sl
 simp only [Act.put, pqA, pqB, pqC]
 refine VlS (.slice aa A.length acp) ?_
 refine WL.nil (hK3 _ _ ?_)
 refine wp_seq_k fun K4 hK4 => rgn ?_
 refine VlS (.slice aa A.length acp) ?_
 refine VlS (.int .i64 (A.length : Int)) ?_
 refine WL.mkS (by kernel_rfl) 23 (.tmp 19) (.tmp 19) rfl _ _ rfl rfl _ _ (run_makeI A.length (Nat.le_trans HAl.out (by omega)) w2) ?_
 obtain ⟨w3, hw3⟩ : ∃ wx, Keep (wx = w2.alloc (.cells (madeCells #[.int .i64 0] A.length) 3)) := ⟨_, ⟨rfl⟩⟩
 rw [← hw3.out]
 simp only [Act.put, pqA, pqB, pqC]
 refine VlS (.slice (some ⟨w2.heap.size, 0, none⟩) A.length A.length) ?_
 refine WL.nil (hK4 _ _ ?_)
 refine wp_seq_k fun K5 hK5 => rgn ?_
 refine VlS (.slice aa A.length acp) ?_
 refine VlS (.int .i64 (A.length : Int)) ?_
 refine WL.mkS (by kernel_rfl) 102 (.tmp 22) (.tmp 22) rfl _ _ rfl rfl _ _ (run_makeC A.length (Nat.le_trans HAl.out (by omega)) w3) ?_
 have hO0 := OSt.new w2 A.length
 rw [← hw3.out] at hO0
 have B4 : Keep (Below w2.heap.size w2 (w3.alloc (.cells (madeCells #[.slice none 0 0] A.length) 23))) := ⟨by rw [hw3.out]; exact belowT (below_new _ _) (below_new _ _)⟩
 have O4 := Keep.mk hO0
 clear hO0 hw3
 generalize w3.alloc (.cells (madeCells #[.slice none 0 0] A.length) 23) = w4 at *
 simp only [Act.put, pqA, pqB, pqC]
 refine VlS (.slice (some ⟨w3.heap.size, 0, none⟩) A.length A.length) ?_
 refine WL.nil (hK5 _ _ ?_)
 refine wp_seq_k fun K6 hK6 => ?_
 refine wp_seq_k fun K7 hK7 => rgn ?_
 refine VlS (.int .i64 0) ?_
 refine WL.nil (hK7 _ _ ?_)
 refine wp_block ?_
 refine wp_loop (fun ac wr => ∃ (t : Nat) (f : Nat → Value), ac = { tmps := #[.slice pa L.length pc, undef, .slice none 0 0, .slice aa A.length acp, .slice (some ⟨w2.heap.size, 0, none⟩) A.length A.length, .slice (some ⟨w3.heap.size, 0, none⟩) A.length A.length, .int .i64 (t : Int), f 7, f 8, f 9, f 10, undef, undef, undef, .slice pa L.length pc, v1, v1, .slice aa A.length acp, .slice aa A.length acp, .int .i64 (A.length : Int), .slice (some ⟨w2.heap.size, 0, none⟩) A.length A.length, .slice aa A.length acp, .int .i64 (A.length : Int), .slice (some ⟨w3.heap.size, 0, none⟩) A.length A.length, f 24, f 25, f 26, f 27, f 28, f 29, f 30, f 31, f 32, f 33, f 34, f 35, f 36, f 37, f 38, f 39, f 40, f 41, f 42, f 43, f 44, f 45, f 46, f 47, f 48, f 49, f 50, f 51, f 52, f 53, f 54, f 55, f 56, f 57, f 58, f 59, f 60, f 61, f 62, f 63, f 64, f 65, f 66, f 67, f 68, f 69, f 70, f 71, f 72, undef, undef, undef, undef, undef, undef, undef, undef, undef, undef, undef, undef, undef, undef, undef, undef, undef, undef, undef, undef, undef, undef, undef, undef, undef, undef, undef, undef, undef, undef, undef, undef, undef, undef, undef, undef, undef, undef, undef, undef, undef, undef, undef, undef, undef, undef, undef, undef, undef, undef], defers := [] } ∧ t ≤ L.length ∧ ∃ LK CV CL, OSt w2.heap.size wr w2.heap.size w3.heap.size A.length LK CV CL ∧ Cnt A (prs ((L.take t).map (·.1))) LK CL ∧ Below w2.heap.size w2 wr) (fun a _ => L.length - (intOf (a.tmps.getD 6 undef)).toNat) ⟨0, fun i => [.slice pa L.length pc, undef, .slice none 0 0, .slice aa A.length acp, .slice (some ⟨w2.heap.size, 0, none⟩) A.length A.length, .slice (some ⟨w3.heap.size, 0, none⟩) A.length A.length, .int .i64 0, undef, undef, undef, undef, undef, undef, undef, .slice pa L.length pc, v1, v1, .slice aa A.length acp, .slice aa A.length acp, .int .i64 (A.length : Int), .slice (some ⟨w2.heap.size, 0, none⟩) A.length A.length, .slice aa A.length acp, .int .i64 (A.length : Int), .slice (some ⟨w3.heap.size, 0, none⟩) A.length A.length, undef, undef, undef, undef, undef, undef, undef, undef, undef, undef, undef, undef, undef, undef, undef, undef, undef, undef, undef, undef, undef, undef, undef, undef, undef, undef, undef, undef, undef, undef, undef, undef, undef, undef, undef, undef, undef, undef, undef, undef, undef, undef, undef, undef, undef, undef, undef, undef, undef, undef, undef, undef, undef, undef, undef, undef, undef, undef, undef, undef, undef, undef, undef, undef, undef, undef, undef, undef, undef, undef, undef, undef, undef, undef, undef, undef, undef, undef, undef, undef, undef, undef, undef, undef, undef, undef, undef, undef, undef, undef, undef, undef, undef, undef, undef, undef, undef, undef, undef].getD i undef, rfl, by omega, _, _, _, O4.out, Cnt.nil A, B4.out⟩ ?_
 rintro ac wr ⟨t, f, rfl, ht, hX⟩
 obtain ⟨LK, CV, CL, hO, hC, hB⟩ := hX
 have JO := Keep.mk hO
 have JC := Keep.mk hC
 have JB := Keep.mk hB
 clear hO hC hB
 have HVr := Keep.mk (HV.out.below (belowT B2.out JB.out))
 have HAr := Keep.mk (HAo.out.below JB.out)
 by_cases htl : t < L.length
 ·have htl' : (t : Int) < (L.length : Int) := by omega
  have hwt : IntKind.i64.wrap ((t : Int) + 1) = ((t + 1 : Nat) : Int) := by rw [IntKind.wrap_i64]; have := HL.out; omega
  obtain ⟨gp, op, hpa, -, hrg⟩ := HVr.out.at (by omega)
  subst hpa
  have Hgl := Keep.mk (flatV_lt hrg (by omega))
  obtain ⟨v, hv⟩ : ∃ v, Keep (v = L[t]) := ⟨_, ⟨rfl⟩⟩
  have Hel : Keep (wr.rangeAt gp (op + t * 34) (vtx v.1.id.f v.1.ck v.2).toList) := ⟨by have h := flat_elem encV_len hrg t htl; rw [← hv.out] at h; exact h⟩
  have Hvm : Keep (v ∈ L) := ⟨by rw [hv.out]; exact List.getElem_mem htl⟩
  have HVm : Keep (v.1 ∈ L.map (·.1)) := ⟨List.mem_map.2 ⟨v, Hvm.out, rfl⟩⟩
  obtain ⟨a0, ha0, hia, hga⟩ := ix_in HA.out ((HAi.out v.1.id).2 (List.mem_map.2 ⟨v.1, HVm.out, rfl⟩))
  have Hia := Keep.mk hia
  have Hga := Keep.mk hga
  have ha0' : (a0 : Int) < (A.length : Int) := by omega
  have Hps := Keep.mk (HVr.out.2 v Hvm.out)
  have HPl := Keep.mk (HP.out v Hvm.out)
  have HPw := Keep.mk (Hpw.out v Hvm.out)
  clear hrg hia hga
  refine wp_seq_k fun K8 hK8 => ?_
  refine wp_seq_k fun K9 hK9 => rgn ?_
  refine VlS (.int .i64 (t : Int)) ?_
  refine VlS (.slice (some ⟨gp, op, none⟩) L.length pc) ?_
  refine VlS (.int .i64 (L.length : Int)) ?_
  refine VlS (.bool true) ?_
  refine WL.nil (hK9 _ _ ?_)
  refine wp_cond_true rfl ?_
  refine wp_skip ?_
  refine hK8 _ _ ?_
  refine wp_seq_k fun K10 hK10 => ?_
  refine wp_block ?_
  refine wp_seq_k fun K11 hK11 => rgn ?_
  refine VlS (.slice aa A.length acp) ?_
  refine VlS (.slice (some ⟨gp, op, none⟩) L.length pc) ?_
  refine VlS (.int .i64 (t : Int)) ?_
  refine VlS (.pointer (some ⟨gp, op + t * 34, none⟩)) ?_
  refine VlS (.pointer (some ⟨gp, op + t * 34, none⟩)) ?_
  refine WL.mid (by kernel_rfl) 36 (.tmp 34) rfl gp (op + t * 34) rfl (encH v.1.id) _ (vtx_idR Hel.out) Try.underlying36 rfl (Try.size36L v.1.id) ?_
  rw [enc_load]
  simp only [Act.put, pqA, pqB, pqC]
  have hsk := seek_any (.slice aa A.length acp) A v.1.id wr HAr.out.row (pw_inc HA.out) (Nat.le_trans HAl.out (by omega))
  rw [Hia.out] at hsk
  refine WL.callF (by kernel_rfl) 75 _ _ rfl Try.in75 #[.slice aa A.length acp, .agg (bytesA 32 v.1.id.f)] (by simp [Act.eval]) ?_
  refine (hsk).mono ?_
  rintro e w5 ⟨rfl, hz⟩
  refine ⟨_, rfl, ?_⟩
  clear hsk
  have B5 := Keep.mk hz
  clear hz
  have hps5 : w5.cell? ⟨gp, op + t * 34 + 33, none⟩ = some v.2 := by have := rangeAt_below Hel.out B5.out (Hgl.out) 33 v.2 (by rw [Array.getElem?_toList]; exact vtx_ps _ _ _); exact this
  obtain ⟨qa, qc, hq⟩ := Hps.out.1.form
  rw [hq] at hps5
  have Hq := Keep.mk hq
  clear hq
  have HRp : Keep (HRow w5 (.slice qa v.1.ps.length qc) v.1.ps) := ⟨by rw [← Hq.out]; exact Hps.out.1.below B5.out⟩
  simp only [Act.put, pqA, pqB, pqC]
  refine VlS (.int .i64 (a0 : Int)) ?_
  refine WL.nil (hK11 _ _ ?_)
  refine wp_seq_k fun K12 hK12 => rgn ?_
  refine VlS (.slice (some ⟨gp, op, none⟩) L.length pc) ?_
  refine VlS (.int .i64 (t : Int)) ?_
  refine VlS (.pointer (some ⟨gp, op + t * 34, none⟩)) ?_
  refine VlS (.pointer (some ⟨gp, op + t * 34 + 33, none⟩)) ?_
  refine WL.val (by kernel_rfl) (.slice qa v.1.ps.length qc) (by go_simp) ?_
  clear hps5
  simp only [Act.put, pqA, pqB, pqC]
  refine WL.callF (by kernel_rfl) 16 _ _ rfl Try.in16 #[.slice qa v.1.ps.length qc] (by simp [Act.eval]) ?_
  refine (refSort_any _ (.slice qa v.1.ps.length qc) v.1.ps w5 rfl HRp.out (Nat.le_trans HPl.out (by omega))).mono ?_
  rintro e w6 ⟨v6, P6, rfl, hown, hpw, hmem, hlen, hb⟩
  refine ⟨_, rfl, ?_⟩
  obtain rfl : P6 = v.1.ps := rising_unique _ _ hpw HPw.out hmem
  have B6 := Keep.mk (belowT B5.out hb)
  have O6 := Keep.mk (OwnH.of hown)
  have N6 : Keep (∀ k, v6.ownBlock = some k → wr.heap.size ≤ k) := ⟨fun k hk => Nat.le_trans B5.out.size (World.ownsRow.lt hown k hk).1⟩
  clear hown hpw hmem hlen hb
  obtain ⟨sa, sc, rfl⟩ := O6.out.sl
  have JO6 := Keep.mk (JO.out.below B6.out)
  have JB6 := Keep.mk (JB.out.trans (B6.out.mono JB.out.size))
  have HS6 : Keep (∀ k, (Value.slice sa v.1.ps.length sc).ownBlock = some k → k ≠ w2.heap.size ∧ k ≠ w3.heap.size ∧ ∀ p, p < A.length → (CV.getD p undef).ownBlock ≠ some k) := ⟨fun k hk => ⟨fun e => by have := N6.out k hk; have := JO.out.lk.lt; omega, fun e => by have := N6.out k hk; have := JO.out.ch.lt; omega, fun p hp e => by have := N6.out k hk; have := (JO.out.cl p hp).lt k e; omega⟩⟩
  simp only [Act.put, pqA, pqB, pqC]
  refine VlS (.slice sa v.1.ps.length sc) ?_
  refine WL.nil (hK12 _ _ ?_)
  refine wp_seq_k fun K13 hK13 => rgn ?_
  refine VlS (.int .i64 0) ?_
  refine WL.nil (hK13 _ _ ?_)
  refine wp_block ?_
  refine wp_loop (fun ac ws => ∃ (s : Nat) (fb : Nat → Value), ac = { tmps := #[.slice (some ⟨gp, op, none⟩) L.length pc, undef, .slice none 0 0, .slice aa A.length acp, .slice (some ⟨w2.heap.size, 0, none⟩) A.length A.length, .slice (some ⟨w3.heap.size, 0, none⟩) A.length A.length, .int .i64 (t : Int), .int .i64 (a0 : Int), .slice sa v.1.ps.length sc, .int .i64 (s : Int), fb 10, undef, undef, undef, .slice (some ⟨gp, op, none⟩) L.length pc, v1, v1, .slice aa A.length acp, .slice aa A.length acp, .int .i64 (A.length : Int), .slice (some ⟨w2.heap.size, 0, none⟩) A.length A.length, .slice aa A.length acp, .int .i64 (A.length : Int), .slice (some ⟨w3.heap.size, 0, none⟩) A.length A.length, .int .i64 (t : Int), .slice (some ⟨gp, op, none⟩) L.length pc, .int .i64 (L.length : Int), .bool true, f 28, f 29, .slice aa A.length acp, .slice (some ⟨gp, op, none⟩) L.length pc, .int .i64 (t : Int), .pointer (some ⟨gp, op + t * 34, none⟩), .pointer (some ⟨gp, op + t * 34, none⟩), .agg (bytesA 32 v.1.id.f), .int .i64 (a0 : Int), .slice (some ⟨gp, op, none⟩) L.length pc, .int .i64 (t : Int), .pointer (some ⟨gp, op + t * 34, none⟩), .pointer (some ⟨gp, op + t * 34 + 33, none⟩), .slice qa v.1.ps.length qc, .slice sa v.1.ps.length sc, fb 43, fb 44, fb 45, fb 46, fb 47, fb 48, fb 49, fb 50, fb 51, fb 52, fb 53, fb 54, fb 55, fb 56, fb 57, fb 58, fb 59, fb 60, fb 61, fb 62, fb 63, fb 64, fb 65, fb 66, fb 67, fb 68, fb 69, fb 70, fb 71, fb 72, undef, undef, undef, undef, undef, undef, undef, undef, undef, undef, undef, undef, undef, undef, undef, undef, undef, undef, undef, undef, undef, undef, undef, undef, undef, undef, undef, undef, undef, undef, undef, undef, undef, undef, undef, undef, undef, undef, undef, undef, undef, undef, undef, undef, undef, undef, undef, undef, undef, undef], defers := [] } ∧ s ≤ v.1.ps.length ∧ ∃ LK CV CL, OSt w2.heap.size ws w2.heap.size w3.heap.size A.length LK CV CL ∧ Cnt A (prs ((L.take t).map (·.1)) ++ (v.1.ps.take s).map fun p => (v.1.id, p)) LK CL ∧ Below w2.heap.size w2 ws ∧ OwnH ws (.slice sa v.1.ps.length sc) v.1.ps ∧ ∀ k, (Value.slice sa v.1.ps.length sc).ownBlock = some k → k ≠ w2.heap.size ∧ k ≠ w3.heap.size ∧ ∀ p, p < A.length → (CV.getD p undef).ownBlock ≠ some k) (fun a _ => v.1.ps.length - (intOf (a.tmps.getD 9 undef)).toNat) ⟨0, fun i => [.slice (some ⟨gp, op, none⟩) L.length pc, undef, .slice none 0 0, .slice aa A.length acp, .slice (some ⟨w2.heap.size, 0, none⟩) A.length A.length, .slice (some ⟨w3.heap.size, 0, none⟩) A.length A.length, .int .i64 (t : Int), .int .i64 (a0 : Int), .slice sa v.1.ps.length sc, .int .i64 0, f 10, undef, undef, undef, .slice (some ⟨gp, op, none⟩) L.length pc, v1, v1, .slice aa A.length acp, .slice aa A.length acp, .int .i64 (A.length : Int), .slice (some ⟨w2.heap.size, 0, none⟩) A.length A.length, .slice aa A.length acp, .int .i64 (A.length : Int), .slice (some ⟨w3.heap.size, 0, none⟩) A.length A.length, .int .i64 (t : Int), .slice (some ⟨gp, op, none⟩) L.length pc, .int .i64 (L.length : Int), .bool true, f 28, f 29, .slice aa A.length acp, .slice (some ⟨gp, op, none⟩) L.length pc, .int .i64 (t : Int), .pointer (some ⟨gp, op + t * 34, none⟩), .pointer (some ⟨gp, op + t * 34, none⟩), .agg (bytesA 32 v.1.id.f), .int .i64 (a0 : Int), .slice (some ⟨gp, op, none⟩) L.length pc, .int .i64 (t : Int), .pointer (some ⟨gp, op + t * 34, none⟩), .pointer (some ⟨gp, op + t * 34 + 33, none⟩), .slice qa v.1.ps.length qc, .slice sa v.1.ps.length sc, f 43, f 44, f 45, f 46, f 47, f 48, f 49, f 50, f 51, f 52, f 53, f 54, f 55, f 56, f 57, f 58, f 59, f 60, f 61, f 62, f 63, f 64, f 65, f 66, f 67, f 68, f 69, f 70, f 71, f 72, undef, undef, undef, undef, undef, undef, undef, undef, undef, undef, undef, undef, undef, undef, undef, undef, undef, undef, undef, undef, undef, undef, undef, undef, undef, undef, undef, undef, undef, undef, undef, undef, undef, undef, undef, undef, undef, undef, undef, undef, undef, undef, undef, undef, undef, undef, undef, undef, undef, undef].getD i undef, rfl, by omega, LK, CV, CL, JO6.out, (by simpa using JC.out), JB6.out, O6.out, HS6.out⟩ ?_
  rintro ac ws ⟨s, fb, rfl, hs, hY⟩
  obtain ⟨LK1, CV1, CL1, hO, hC, hB, hS, hN⟩ := hY
  have KO := Keep.mk hO
  have KC := Keep.mk hC
  have KB := Keep.mk hB
  have KS := Keep.mk hS
  have KN := Keep.mk hN
  clear hO hC hB hS hN
  by_cases hsl : s < v.1.ps.length
  ·have hsl' : (s : Int) < (v.1.ps.length : Int) := by omega
   have hws : IntKind.i64.wrap ((s : Int) + 1) = ((s + 1 : Nat) : Int) := by rw [IntKind.wrap_i64]; have := HPl.out; omega
   obtain ⟨ph, hph⟩ : ∃ p, Keep (p = v.1.ps[s]) := ⟨_, ⟨rfl⟩⟩
   have hpm : ph ∈ parH (L.map (·.1)) v.1.id := by rw [parH_mem Hn.out HVm.out, hph.out]; exact List.getElem_mem hsl
   obtain ⟨p0, hp0, hip, hgp⟩ := ix_in HA.out ((HAm.out ph).2 (HG.out.all v.1.id ((HAm.out _).1 ((HAi.out _).2 (List.mem_map.2 ⟨v.1, HVm.out, rfl⟩))) ph hpm))
   have Hip := Keep.mk hip
   have Hgp := Keep.mk hgp
   clear hip hgp hpm
   have hp0' : (p0 : Int) < (A.length : Int) := by omega
   have hp00 : (0 : Int) ≤ (p0 : Int) := by omega
   have ha00 : (0 : Int) ≤ (a0 : Int) := by omega
   have cl0 := KO.out.cellL ha0
   obtain ⟨lx, hlx⟩ : ∃ x, Keep (LK1.getD a0 0 = x) := ⟨_, ⟨rfl⟩⟩
   rw [hlx.out] at cl0
   have hlb : 0 ≤ lx ∧ lx ≤ 300000 := by
    rw [← hlx.out, KC.out.lk a0 ha0]
    have h1 := List.countP_le_length (p := fun q : Hs × Hs => decide (q.1 = A.getD a0 default)) (l := prs ((L.take t).map (·.1)) ++ (v.1.ps.take s).map fun p => (v.1.id, p))
    rw [List.length_append, List.length_map, List.length_take] at h1
    have h2 := prs_len (L := (L.take t).map (·.1)) fun u hu => by obtain ⟨q, hq, rfl⟩ := List.mem_map.1 hu; exact HP.out q (List.mem_of_mem_take hq)
    rw [List.length_map, List.length_take] at h2
    have := HL.out; have := HPl.out
    omega
   have hwl : IntKind.i64.wrap (lx + 1) = lx + 1 := by rw [IntKind.wrap_i64]; omega
   have f_l := KO.out.lk.frozen a0
   obtain ⟨gs, os, hsa, -, -, hrg⟩ := KS.out.row.at (by omega)
   subst hsa
   have Hph := Keep.mk (rangeAt_elem hrg s hsl)
   rw [← hph.out] at Hph
   have Hgs := Keep.mk (rangeAt_lt hrg (by omega))
   clear hrg
   refine wp_seq_k fun K14 hK14 => ?_
   refine wp_seq_k fun K15 hK15 => rgn ?_
   refine VlS (.int .i64 (s : Int)) ?_
   refine VlS (.slice (some ⟨gs, os, none⟩) v.1.ps.length sc) ?_
   refine VlS (.int .i64 (v.1.ps.length : Int)) ?_
   refine VlS (.bool true) ?_
   refine WL.nil (hK15 _ _ ?_)
   refine wp_cond_true rfl ?_
   refine wp_skip ?_
   refine hK14 _ _ ?_
   refine wp_seq_k fun K16 hK16 => ?_
   refine wp_block ?_
   refine wp_seq_k fun K17 hK17 => rgn ?_
   refine VlS (.slice (some ⟨w2.heap.size, 0, none⟩) A.length A.length) ?_
   refine VlS (.int .i64 (a0 : Int)) ?_
   refine VlS (.pointer (some ⟨w2.heap.size, a0, none⟩)) ?_
   refine VlS (.int .i64 lx) ?_
   refine VlS (.int .i64 (lx + 1)) ?_
   refine VlS (.pointer (some ⟨w2.heap.size, a0, none⟩)) ?_
   refine WL.cell (by kernel_rfl) (ws.setCell ⟨w2.heap.size, a0, none⟩ (.int .i64 (lx + 1))) (by go_simp) ?_
   clear cl0 f_l
   have O7 := Keep.mk (KO.out.setL a0 (lx + 1))
   have hg7 : Grown ws (ws.setCell ⟨w2.heap.size, a0, none⟩ (.int .i64 (lx + 1))) (fun k => k = w2.heap.size) := Grown.setCell _ _ _ _ fun _ => rfl
   have B7 := Keep.mk (KB.out.trans (hg7.to_below (fun k hk e => by omega) KB.out.size))
   have S7 := Keep.mk (KS.out.grown hg7 fun k hk e => (KN.out k hk).1 e)
   have P7 : Keep ((ws.setCell ⟨w2.heap.size, a0, none⟩ (.int .i64 (lx + 1))).rangeAt gs (os + s * 32) (encH ph)) := ⟨rangeAt_grown Hph.out hg7 (KN.out gs rfl).1⟩
   clear hg7
   generalize ws.setCell ⟨w2.heap.size, a0, none⟩ (.int .i64 (lx + 1)) = w7 at *
   have HA7 := Keep.mk (HAo.out.below B7.out)
   simp only [Act.put]
   refine WL.nil (hK17 _ _ ?_)
   refine wp_seq_k fun K18 hK18 => rgn ?_
   refine VlS (.slice aa A.length acp) ?_
   refine VlS (.slice (some ⟨gs, os, none⟩) v.1.ps.length sc) ?_
   refine VlS (.int .i64 (s : Int)) ?_
   refine VlS (.pointer (some ⟨gs, os + s * 32, none⟩)) ?_
   refine WL.mid (by kernel_rfl) 36 (.tmp 58) rfl gs (os + s * 32) rfl (encH ph) _ P7.out Try.underlying36 rfl (Try.size36L ph) ?_
   rw [enc_load]
   simp only [Act.put, pqA, pqB, pqC]
   have hsk := seek_any (.slice aa A.length acp) A ph w7 HA7.out.row (pw_inc HA.out) (Nat.le_trans HAl.out (by omega))
   rw [Hip.out] at hsk
   refine WL.callF (by kernel_rfl) 75 _ _ rfl Try.in75 #[.slice aa A.length acp, .agg (bytesA 32 ph.f)] (by simp [Act.eval]) ?_
   refine (hsk).mono ?_
   rintro e w8 ⟨rfl, hz⟩
   refine ⟨_, rfl, ?_⟩
   clear hsk
   have O8 := Keep.mk (O7.out.below hz)
   have B8 := Keep.mk (B7.out.trans (hz.mono B7.out.size))
   have S8 := Keep.mk (S7.out.below hz)
   clear hz
   have hcc := O8.out.cellC hp0
   have hOwn := O8.out.cl p0 hp0
   obtain ⟨cv, hcv⟩ : ∃ c, Keep (CV1.getD p0 undef = c) := ⟨_, ⟨rfl⟩⟩
   rw [hcv.out] at hcc hOwn
   obtain ⟨ca, cc, hcs⟩ := hOwn.sl
   subst hcs
   have HOw := Keep.mk hOwn
   clear hOwn
   simp only [Act.put, pqA, pqB, pqC]
   refine VlS (.int .i64 (p0 : Int)) ?_
   refine WL.nil (hK18 _ _ ?_)
   refine wp_seq_k fun K19 hK19 => rgn ?_
   refine VlS (.int .i64 (p0 : Int)) ?_
   refine VlS (.bool true) ?_
   refine WL.nil (hK19 _ _ ?_)
   refine wp_cond_true rfl ?_
   refine rgn ?_
   refine VlS (.slice (some ⟨w3.heap.size, 0, none⟩) A.length A.length) ?_
   refine VlS (.int .i64 (p0 : Int)) ?_
   refine VlS (.slice (some ⟨w3.heap.size, 0, none⟩) A.length A.length) ?_
   refine VlS (.int .i64 (p0 : Int)) ?_
   refine VlS (.pointer (some ⟨w3.heap.size, p0, none⟩)) ?_
   refine WL.val (by kernel_rfl) (.slice ca (CL1 p0).length cc) (by go_simp) ?_
   clear hcc
   simp only [Act.put, pqA, pqB, pqC]
   refine VlS (.int .i64 (a0 : Int)) ?_
   refine WL.bs (by kernel_rfl) 23 1 _ rfl #[(0, .int .i64 (a0 : Int))] (by simp [Act.eval]) _ _ (bsI (a0 : Int) w8) ?_
   have HG9 := Keep.mk (Blk.new w8 3 #[.int .i64 (a0 : Int)])
   have hz := below_new w8 (.cells #[.int .i64 (a0 : Int)] 3)
   have O9 := Keep.mk (O8.out.below hz)
   have B9 := Keep.mk (B8.out.trans (hz.mono B8.out.size))
   have S9 := Keep.mk (S8.out.below hz)
   have HOw9 := Keep.mk (HOw.out.below hz)
   clear hz
   generalize w8.alloc (.cells #[.int .i64 (a0 : Int)] 3) = w9 at *
   generalize w8.heap.size = g9 at *
   simp only [Act.put, pqA, pqB, pqC]
   refine WL.appJ (by kernel_rfl) (.tmp 68) (.tmp 70) rfl (.slice ca (CL1 p0).length cc) (CL1 p0) g9 (a0 : Int) rfl rfl HOw9.out (HG9.out.c 0 rfl) (by have h1 := KC.out.ll p0 hp0; rw [List.length_append, List.length_map, List.length_take] at h1; have h2 := prs_len (L := (L.take t).map (·.1)) fun u hu => (by obtain ⟨q, hq, rfl⟩ := List.mem_map.1 hu; exact HP.out q (List.mem_of_mem_take hq)); rw [List.length_map, List.length_take] at h2; have := HL.out; have := HPl.out; omega) fun vA wA hAp => ?_
   obtain ⟨ja, jc, hj⟩ := hAp.1.sl
   subst hj
   have HAp : Keep (AppPostJ w9 (CV1.getD p0 undef) (CL1 p0 ++ [(a0 : Int)]) (.slice ja (CL1 p0 ++ [(a0 : Int)]).length jc) wA) := ⟨by rw [hcv.out]; exact hAp⟩
   clear hAp
   obtain ⟨jn, hjn⟩ : ∃ n, Keep ((CL1 p0 ++ [(a0 : Int)]).length = n) := ⟨_, ⟨rfl⟩⟩
   rw [hjn.out] at HAp ⊢
   simp only [Act.put, pqA, pqB, pqC]
   refine VlS (.pointer (some ⟨w3.heap.size, p0, none⟩)) ?_
   have hBc := HAp.out.grown.blk O9.out.ch fun e => (O9.out.ne p0 _ hp0 e).2.1 rfl
   have f_o := hBc.frozen p0
   have c_o : wA.cell? ⟨w3.heap.size, p0, none⟩ = some (.slice ca (CL1 p0).length cc) := by rw [hBc.cell, ← O9.out.ch.cell, O9.out.cellC hp0, hcv.out]
   refine WL.cell (by kernel_rfl) (wA.setCell ⟨w3.heap.size, p0, none⟩ (.slice ja jn jc)) (by go_simp) ?_
   clear f_o c_o hBc
   simp only [Act.put]
   refine WL.nil (hK16 _ _ ?_)
   refine rgn ?_
   refine VlS (.int .i64 (s : Int)) ?_
   refine VlS (.int .i64 ((s + 1 : Nat) : Int)) ?_
   refine VlS (.int .i64 ((s + 1 : Nat) : Int)) ?_
   refine WL.nil ?_
   have hEn := O9.out.app hp0 HAp.out B9.out.size
   have hBn := B9.out.trans (O9.out.appB hp0 HAp.out B9.out.size)
   refine ⟨⟨s + 1, fun i => [.slice (some ⟨gp, op, none⟩) L.length pc, undef, .slice none 0 0, .slice aa A.length acp, .slice (some ⟨w2.heap.size, 0, none⟩) A.length A.length, .slice (some ⟨w3.heap.size, 0, none⟩) A.length A.length, .int .i64 (t : Int), .int .i64 (a0 : Int), .slice (some ⟨gs, os, none⟩) v.1.ps.length sc, .int .i64 ((s + 1 : Nat) : Int), .int .i64 (p0 : Int), undef, undef, undef, .slice (some ⟨gp, op, none⟩) L.length pc, v1, v1, .slice aa A.length acp, .slice aa A.length acp, .int .i64 (A.length : Int), .slice (some ⟨w2.heap.size, 0, none⟩) A.length A.length, .slice aa A.length acp, .int .i64 (A.length : Int), .slice (some ⟨w3.heap.size, 0, none⟩) A.length A.length, .int .i64 (t : Int), .slice (some ⟨gp, op, none⟩) L.length pc, .int .i64 (L.length : Int), .bool true, f 28, f 29, .slice aa A.length acp, .slice (some ⟨gp, op, none⟩) L.length pc, .int .i64 (t : Int), .pointer (some ⟨gp, op + t * 34, none⟩), .pointer (some ⟨gp, op + t * 34, none⟩), .agg (bytesA 32 v.1.id.f), .int .i64 (a0 : Int), .slice (some ⟨gp, op, none⟩) L.length pc, .int .i64 (t : Int), .pointer (some ⟨gp, op + t * 34, none⟩), .pointer (some ⟨gp, op + t * 34 + 33, none⟩), .slice qa v.1.ps.length qc, .slice (some ⟨gs, os, none⟩) v.1.ps.length sc, .int .i64 (s : Int), .slice (some ⟨gs, os, none⟩) v.1.ps.length sc, .int .i64 (v.1.ps.length : Int), .bool true, .int .i64 (s : Int), .int .i64 ((s + 1 : Nat) : Int), .slice (some ⟨w2.heap.size, 0, none⟩) A.length A.length, .int .i64 (a0 : Int), .pointer (some ⟨w2.heap.size, a0, none⟩), .int .i64 lx, .int .i64 (lx + 1), .pointer (some ⟨w2.heap.size, a0, none⟩), .slice aa A.length acp, .slice (some ⟨gs, os, none⟩) v.1.ps.length sc, .int .i64 (s : Int), .pointer (some ⟨gs, os + s * 32, none⟩), .agg (bytesA 32 ph.f), .int .i64 (p0 : Int), .int .i64 (p0 : Int), .bool true, .slice (some ⟨w3.heap.size, 0, none⟩) A.length A.length, .int .i64 (p0 : Int), .slice (some ⟨w3.heap.size, 0, none⟩) A.length A.length, .int .i64 (p0 : Int), .pointer (some ⟨w3.heap.size, p0, none⟩), .slice ca (CL1 p0).length cc, .int .i64 (a0 : Int), .slice (some ⟨g9, 0, none⟩) 1 1, .slice ja jn jc, .pointer (some ⟨w3.heap.size, p0, none⟩), undef, undef, undef, undef, undef, undef, undef, undef, undef, undef, undef, undef, undef, undef, undef, undef, undef, undef, undef, undef, undef, undef, undef, undef, undef, undef, undef, undef, undef, undef, undef, undef, undef, undef, undef, undef, undef, undef, undef, undef, undef, undef, undef, undef, undef, undef, undef, undef, undef, undef].getD i undef, rfl, by omega, _, _, _, hEn, ?_, hBn, ?_, ?_⟩, ?_⟩
   ·have h := KC.out.snoc HA.out KO.out.ln ha0 hp0 Hga.out Hgp.out
    rw [hlx.out] at h
    rw [List.take_add_one, List.getElem?_eq_getElem hsl, ← hph.out, List.map_append, ← List.append_assoc]
    exact h
   ·exact (S9.out.grown HAp.out.grown fun k hk e => (KN.out k hk).2.2 p0 hp0 e).grown (Grown.setCell wA w3.heap.size p0 _ (S := fun k => k = w3.heap.size) fun _ => rfl) fun k hk e => (KN.out k hk).2.1 e
   ·intro k hk
    refine ⟨(KN.out k hk).1, (KN.out k hk).2.1, fun p hp => ?_⟩
    rw [getD_setV _ _ _ _ (by rw [KO.out.cn]; exact hp0)]
    by_cases e : p = p0
    ·rw [if_pos e]; intro e2; rcases HAp.out.2 with h1 | h1
     ·exact (KN.out k hk).2.2 p0 hp0 (by rw [← h1.1]; exact e2)
     ·rw [e2] at h1; have := Option.some.inj h1.1; have := S9.out.lt k hk; omega
    ·rw [if_neg e]; exact (KN.out k hk).2.2 p hp
   ·simp only [intOf]; show v.1.ps.length - ((s + 1 : Nat) : Int).toNat < v.1.ps.length - ((s : Int)).toNat; omega
  ·have hsl' : ¬ (s : Int) < (v.1.ps.length : Int) := by omega
   have hse : Keep (s = v.1.ps.length) := ⟨by omega⟩
   refine wp_seq_k fun K20 hK20 => ?_
   refine wp_seq_k fun K21 hK21 => rgn ?_
   refine VlS (.int .i64 (s : Int)) ?_
   refine VlS (.slice sa v.1.ps.length sc) ?_
   refine VlS (.int .i64 (v.1.ps.length : Int)) ?_
   refine VlS (.bool false) ?_
   refine WL.nil (hK21 _ _ ?_)
   refine wp_cond_false rfl ?_
   refine wp_exit ?_
   refine hK10 _ _ ?_
   refine rgn ?_
   refine VlS (.int .i64 (t : Int)) ?_
   refine VlS (.int .i64 ((t + 1 : Nat) : Int)) ?_
   refine VlS (.int .i64 ((t + 1 : Nat) : Int)) ?_
   refine WL.nil ?_
   refine ⟨⟨t + 1, fun i => [.slice (some ⟨gp, op, none⟩) L.length pc, undef, .slice none 0 0, .slice aa A.length acp, .slice (some ⟨w2.heap.size, 0, none⟩) A.length A.length, .slice (some ⟨w3.heap.size, 0, none⟩) A.length A.length, .int .i64 ((t + 1 : Nat) : Int), .int .i64 (a0 : Int), .slice sa v.1.ps.length sc, .int .i64 (s : Int), fb 10, undef, undef, undef, .slice (some ⟨gp, op, none⟩) L.length pc, v1, v1, .slice aa A.length acp, .slice aa A.length acp, .int .i64 (A.length : Int), .slice (some ⟨w2.heap.size, 0, none⟩) A.length A.length, .slice aa A.length acp, .int .i64 (A.length : Int), .slice (some ⟨w3.heap.size, 0, none⟩) A.length A.length, .int .i64 (t : Int), .slice (some ⟨gp, op, none⟩) L.length pc, .int .i64 (L.length : Int), .bool true, .int .i64 (t : Int), .int .i64 ((t + 1 : Nat) : Int), .slice aa A.length acp, .slice (some ⟨gp, op, none⟩) L.length pc, .int .i64 (t : Int), .pointer (some ⟨gp, op + t * 34, none⟩), .pointer (some ⟨gp, op + t * 34, none⟩), .agg (bytesA 32 v.1.id.f), .int .i64 (a0 : Int), .slice (some ⟨gp, op, none⟩) L.length pc, .int .i64 (t : Int), .pointer (some ⟨gp, op + t * 34, none⟩), .pointer (some ⟨gp, op + t * 34 + 33, none⟩), .slice qa v.1.ps.length qc, .slice sa v.1.ps.length sc, .int .i64 (s : Int), .slice sa v.1.ps.length sc, .int .i64 (v.1.ps.length : Int), .bool false, fb 47, fb 48, fb 49, fb 50, fb 51, fb 52, fb 53, fb 54, fb 55, fb 56, fb 57, fb 58, fb 59, fb 60, fb 61, fb 62, fb 63, fb 64, fb 65, fb 66, fb 67, fb 68, fb 69, fb 70, fb 71, fb 72, undef, undef, undef, undef, undef, undef, undef, undef, undef, undef, undef, undef, undef, undef, undef, undef, undef, undef, undef, undef, undef, undef, undef, undef, undef, undef, undef, undef, undef, undef, undef, undef, undef, undef, undef, undef, undef, undef, undef, undef, undef, undef, undef, undef, undef, undef, undef, undef, undef, undef].getD i undef, rfl, by omega, LK1, CV1, CL1, KO.out, ?_, KB.out⟩, ?_⟩
   ·rw [prs_take htl, ← hv.out]; have h := KC.out; rw [hse.out, List.take_length] at h; exact h
   ·simp only [intOf]; show L.length - ((t + 1 : Nat) : Int).toNat < L.length - ((t : Int)).toNat; omega
 ·have htl' : ¬ (t : Int) < (L.length : Int) := by omega
  have hte : t = L.length := by omega
  obtain ⟨HK, hlk0⟩ := Cnt.kid (L := L.map (·.1)) (by have h := JC.out; rw [hte, List.take_length] at h; exact h) Hn.out HAi.out (fun u hu => by obtain ⟨q, hq, rfl⟩ := List.mem_map.1 hu; exact Hpw.out q hq) (fun u hu => by obtain ⟨q, hq, rfl⟩ := List.mem_map.1 hu; exact HP.out q hq) (by rw [List.length_map]; exact HL.out)
  have HKd := Keep.mk HK
  have Hlk0 := Keep.mk hlk0
  clear HK hlk0
  refine wp_seq_k fun K22 hK22 => ?_
  refine wp_seq_k fun K23 hK23 => rgn ?_
  refine VlS (.int .i64 (t : Int)) ?_
  refine VlS (.slice pa L.length pc) ?_
  refine VlS (.int .i64 (L.length : Int)) ?_
  refine VlS (.bool false) ?_
  refine WL.nil (hK23 _ _ ?_)
  refine wp_cond_false rfl ?_
  refine wp_exit ?_
  refine hK6 _ _ ?_
  refine wp_seq_k fun K24 hK24 => rgn ?_
  refine WL.bs (by kernel_rfl) 37 0 _ rfl #[] (by simp) _ _ (bsHE wr) ?_
  have OE := Keep.mk (ownH_empty wr)
  have hz := below_new wr (.cells #[] 36)
  have OT := Keep.mk (JO.out.below hz)
  have BT := Keep.mk (JB.out.trans (hz.mono JB.out.size))
  have NT : Keep (∀ k, (Value.slice (some ⟨wr.heap.size, 0, none⟩) 0 0).ownBlock = some k → w2.heap.size ≤ k ∧ k ≠ w2.heap.size ∧ k ≠ w3.heap.size ∧ ∀ p, p < A.length → (CV.getD p undef).ownBlock ≠ some k) := ⟨fun k hk => by have e : wr.heap.size = k := Option.some.inj hk; subst e; exact ⟨JB.out.size, fun e => by have := JO.out.lk.lt; omega, fun e => by have := JO.out.ch.lt; omega, fun p hp e => by have := (JO.out.cl p hp).lt _ e; omega⟩⟩
  clear hz
  generalize wr.alloc (.cells #[] 36) = wT at *
  obtain ⟨v7, hv7⟩ : ∃ v, Keep (v = Value.slice (some ⟨wr.heap.size, 0, none⟩) 0 0) := ⟨_, ⟨rfl⟩⟩
  rw [← hv7.out] at OE NT ⊢
  clear hv7
  simp only [Act.put, pqA, pqB, pqC]
  refine VlS (v7) ?_
  refine WL.nil (hK24 _ _ ?_)
  refine wp_block ?_
  refine wp_loop (fun ac wq => ∃ (r : Nat) (f : Nat → Value), ac = { tmps := #[.slice pa L.length pc, undef, f 2, .slice aa A.length acp, .slice (some ⟨w2.heap.size, 0, none⟩) A.length A.length, .slice (some ⟨w3.heap.size, 0, none⟩) A.length A.length, .int .i64 (t : Int), f 7, f 8, f 9, f 10, f 11, f 12, f 13, .slice pa L.length pc, v1, v1, .slice aa A.length acp, .slice aa A.length acp, .int .i64 (A.length : Int), .slice (some ⟨w2.heap.size, 0, none⟩) A.length A.length, .slice aa A.length acp, .int .i64 (A.length : Int), .slice (some ⟨w3.heap.size, 0, none⟩) A.length A.length, .int .i64 (t : Int), .slice pa L.length pc, .int .i64 (L.length : Int), .bool false, f 28, f 29, f 30, f 31, f 32, f 33, f 34, f 35, f 36, f 37, f 38, f 39, f 40, f 41, f 42, f 43, f 44, f 45, f 46, f 47, f 48, f 49, f 50, f 51, f 52, f 53, f 54, f 55, f 56, f 57, f 58, f 59, f 60, f 61, f 62, f 63, f 64, f 65, f 66, f 67, f 68, f 69, f 70, f 71, f 72, v7, f 74, f 75, f 76, f 77, f 78, f 79, f 80, f 81, f 82, f 83, f 84, f 85, f 86, f 87, f 88, f 89, f 90, f 91, f 92, f 93, f 94, f 95, f 96, f 97, f 98, f 99, f 100, f 101, f 102, f 103, f 104, f 105, f 106, f 107, f 108, f 109, f 110, f 111, f 112, f 113, f 114, f 115, f 116, f 117, f 118, f 119, f 120, f 121, f 122], defers := [] } ∧ r ≤ G.length ∧ OwnH wq (f 11) (G.take r) ∧ (∀ k, (f 11).ownBlock = some k → w2.heap.size ≤ k ∧ k ≠ w2.heap.size ∧ k ≠ w3.heap.size ∧ ∀ p, p < A.length → (CV.getD p undef).ownBlock ≠ some k) ∧ ∃ LK, OSt w2.heap.size wq w2.heap.size w3.heap.size A.length LK CV CL ∧ (∀ a, a < A.length → LK.getD a 0 = lkA (parH (L.map (·.1))) (G.take r) (A.getD a default)) ∧ Below w2.heap.size w2 wq) (fun a _ => G.length - slN (a.tmps.getD 11 undef)) ⟨0, fun i => [.slice pa L.length pc, undef, .slice none 0 0, .slice aa A.length acp, .slice (some ⟨w2.heap.size, 0, none⟩) A.length A.length, .slice (some ⟨w3.heap.size, 0, none⟩) A.length A.length, .int .i64 (t : Int), f 7, f 8, f 9, f 10, v7, undef, undef, .slice pa L.length pc, v1, v1, .slice aa A.length acp, .slice aa A.length acp, .int .i64 (A.length : Int), .slice (some ⟨w2.heap.size, 0, none⟩) A.length A.length, .slice aa A.length acp, .int .i64 (A.length : Int), .slice (some ⟨w3.heap.size, 0, none⟩) A.length A.length, .int .i64 (t : Int), .slice pa L.length pc, .int .i64 (L.length : Int), .bool false, f 28, f 29, f 30, f 31, f 32, f 33, f 34, f 35, f 36, f 37, f 38, f 39, f 40, f 41, f 42, f 43, f 44, f 45, f 46, f 47, f 48, f 49, f 50, f 51, f 52, f 53, f 54, f 55, f 56, f 57, f 58, f 59, f 60, f 61, f 62, f 63, f 64, f 65, f 66, f 67, f 68, f 69, f 70, f 71, f 72, v7, undef, undef, undef, undef, undef, undef, undef, undef, undef, undef, undef, undef, undef, undef, undef, undef, undef, undef, undef, undef, undef, undef, undef, undef, undef, undef, undef, undef, undef, undef, undef, undef, undef, undef, undef, undef, undef, undef, undef, undef, undef, undef, undef, undef, undef, undef, undef, undef, undef].getD i undef, rfl, by omega, OE.out, NT.out, LK, OT.out, Hlk0.out, BT.out⟩ ?_
  rintro ac wq ⟨r, f, rfl, hr, hOo, hNo, hZ⟩
  obtain ⟨LK2, hO, hLk, hB⟩ := hZ
  have CO := Keep.mk hO
  have CL_ := Keep.mk hLk
  have CB := Keep.mk hB
  have COo := Keep.mk hOo
  have CNo := Keep.mk hNo
  clear hO hLk hB hOo hNo
  obtain ⟨ov, hov⟩ : ∃ v, f 11 = v := ⟨_, rfl⟩
  rw [hov] at COo CNo ⊢
  have Hov := Keep.mk hov
  clear hov
  refine wp_block ?_
  refine wp_seq_k fun K25 hK25 => rgn ?_
  refine VlS (.int .i64 0) ?_
  refine WL.nil (hK25 _ _ ?_)
  refine wp_seq_k fun K26 hK26 => ?_
  refine wp_block ?_
  refine wp_loop (fun ac ws => ∃ (s : Nat) (fd : Nat → Value), ac = { tmps := #[.slice pa L.length pc, undef, f 2, .slice aa A.length acp, .slice (some ⟨w2.heap.size, 0, none⟩) A.length A.length, .slice (some ⟨w3.heap.size, 0, none⟩) A.length A.length, .int .i64 (t : Int), f 7, f 8, f 9, f 10, ov, .int .i64 (s : Int), f 13, .slice pa L.length pc, v1, v1, .slice aa A.length acp, .slice aa A.length acp, .int .i64 (A.length : Int), .slice (some ⟨w2.heap.size, 0, none⟩) A.length A.length, .slice aa A.length acp, .int .i64 (A.length : Int), .slice (some ⟨w3.heap.size, 0, none⟩) A.length A.length, .int .i64 (t : Int), .slice pa L.length pc, .int .i64 (L.length : Int), .bool false, f 28, f 29, f 30, f 31, f 32, f 33, f 34, f 35, f 36, f 37, f 38, f 39, f 40, f 41, f 42, f 43, f 44, f 45, f 46, f 47, f 48, f 49, f 50, f 51, f 52, f 53, f 54, f 55, f 56, f 57, f 58, f 59, f 60, f 61, f 62, f 63, f 64, f 65, f 66, f 67, f 68, f 69, f 70, f 71, f 72, v7, fd 74, fd 75, fd 76, fd 77, fd 78, fd 79, fd 80, fd 81, fd 82, fd 83, fd 84, fd 85, fd 86, f 87, f 88, f 89, f 90, f 91, f 92, f 93, f 94, f 95, f 96, f 97, f 98, f 99, f 100, f 101, f 102, f 103, f 104, f 105, f 106, f 107, f 108, f 109, f 110, f 111, f 112, f 113, f 114, f 115, f 116, f 117, f 118, f 119, f 120, f 121, f 122], defers := [] } ∧ s ≤ A.length ∧ wq = ws ∧ ∀ a, a < s → LK2.getD a 0 ≠ 0) (fun a _ => A.length - (intOf (a.tmps.getD 12 undef)).toNat) ⟨0, fun i => [.slice pa L.length pc, undef, f 2, .slice aa A.length acp, .slice (some ⟨w2.heap.size, 0, none⟩) A.length A.length, .slice (some ⟨w3.heap.size, 0, none⟩) A.length A.length, .int .i64 (t : Int), f 7, f 8, f 9, f 10, ov, .int .i64 0, f 13, .slice pa L.length pc, v1, v1, .slice aa A.length acp, .slice aa A.length acp, .int .i64 (A.length : Int), .slice (some ⟨w2.heap.size, 0, none⟩) A.length A.length, .slice aa A.length acp, .int .i64 (A.length : Int), .slice (some ⟨w3.heap.size, 0, none⟩) A.length A.length, .int .i64 (t : Int), .slice pa L.length pc, .int .i64 (L.length : Int), .bool false, f 28, f 29, f 30, f 31, f 32, f 33, f 34, f 35, f 36, f 37, f 38, f 39, f 40, f 41, f 42, f 43, f 44, f 45, f 46, f 47, f 48, f 49, f 50, f 51, f 52, f 53, f 54, f 55, f 56, f 57, f 58, f 59, f 60, f 61, f 62, f 63, f 64, f 65, f 66, f 67, f 68, f 69, f 70, f 71, f 72, v7, f 74, f 75, f 76, f 77, f 78, f 79, f 80, f 81, f 82, f 83, f 84, f 85, f 86, f 87, f 88, f 89, f 90, f 91, f 92, f 93, f 94, f 95, f 96, f 97, f 98, f 99, f 100, f 101, f 102, f 103, f 104, f 105, f 106, f 107, f 108, f 109, f 110, f 111, f 112, f 113, f 114, f 115, f 116, f 117, f 118, f 119, f 120, f 121, f 122].getD i undef, rfl, by omega, rfl, fun a ha => by omega⟩ ?_
  rintro ac ws ⟨s, fd, rfl, hs, hE, hD⟩
  subst hE
  have DD := Keep.mk hD
  clear hD
  by_cases hsl : s < A.length
  ·have hsl' : (s : Int) < (A.length : Int) := by omega
   have hs0 : (0 : Int) ≤ (s : Int) := by omega
   have hws : IntKind.i64.wrap ((s : Int) + 1) = ((s + 1 : Nat) : Int) := by rw [IntKind.wrap_i64]; have := HAl.out; omega
   have cl0 := CO.out.cellL hsl
   obtain ⟨lx, hlx⟩ : ∃ x, Keep (LK2.getD s 0 = x) := ⟨_, ⟨rfl⟩⟩
   rw [hlx.out] at cl0
   by_cases hz0 : lx = 0
   ·have hs_ne : ¬ (s : Int) = (A.length : Int) := by omega
    have Hx : Keep (G[r]? = some (A.getD s default)) := ⟨one_next HG.out HA.out HAm.out (at_getD hsl) (by rw [← CL_.out s hsl, hlx.out, hz0]) fun a y ha hy => by
     have h1 := DD.out a ha
     rw [CL_.out a (by omega), getD_at hy] at h1
     exact h1⟩
    obtain ⟨x, hx⟩ : ∃ x, Keep (A.getD s default = x) := ⟨_, ⟨rfl⟩⟩
    rw [hx.out] at Hx
    have f_l := CO.out.lk.frozen s
    refine wp_seq_k fun K27 hK27 => ?_
    refine wp_seq_k fun K28 hK28 => rgn ?_
    refine VlS (.int .i64 (s : Int)) ?_
    refine VlS (.slice aa A.length acp) ?_
    refine VlS (.int .i64 (A.length : Int)) ?_
    refine VlS (.bool true) ?_
    refine VlS (.bool true) ?_
    refine VlS (.slice (some ⟨w2.heap.size, 0, none⟩) A.length A.length) ?_
    refine VlS (.int .i64 (s : Int)) ?_
    refine VlS (.pointer (some ⟨w2.heap.size, s, none⟩)) ?_
    refine VlS (.int .i64 lx) ?_
    refine VlS (.bool false) ?_
    refine VlS (.bool false) ?_
    refine WL.nil (hK28 _ _ ?_)
    refine wp_cond_false rfl ?_
    refine wp_exit ?_
    refine hK26 _ _ ?_
    refine wp_seq_k fun K29 hK29 => ?_
    refine wp_seq_k fun K30 hK30 => rgn ?_
    refine VlS (.int .i64 (s : Int)) ?_
    refine VlS (.slice aa A.length acp) ?_
    refine VlS (.int .i64 (A.length : Int)) ?_
    refine VlS (.bool false) ?_
    refine WL.nil (hK30 _ _ ?_)
    refine wp_cond_false rfl ?_
    refine wp_skip ?_
    refine hK29 _ _ ?_
    refine wp_seq_k fun K31 hK31 => rgn ?_
    refine VlS (.slice (some ⟨w2.heap.size, 0, none⟩) A.length A.length) ?_
    refine VlS (.int .i64 (s : Int)) ?_
    refine VlS (.pointer (some ⟨w2.heap.size, s, none⟩)) ?_
    refine WL.cell (by kernel_rfl) (wq.setCell ⟨w2.heap.size, s, none⟩ (.int .i64 (-1))) (by go_simp) ?_
    clear cl0 f_l
    have OA := Keep.mk (CO.out.setL s (-1))
    have hg7 : Grown wq (wq.setCell ⟨w2.heap.size, s, none⟩ (.int .i64 (-1))) (fun k => k = w2.heap.size) := Grown.setCell _ _ _ _ fun _ => rfl
    have BA := Keep.mk (CB.out.trans (hg7.to_below (fun k hk e => by omega) CB.out.size))
    have SA := Keep.mk (COo.out.grown hg7 fun k hk e => (CNo.out k hk).2.1 e)
    clear hg7
    generalize wq.setCell ⟨w2.heap.size, s, none⟩ (.int .i64 (-1)) = wA at *
    have HAA := Keep.mk (HAo.out.below BA.out)
    obtain ⟨ga, oa, haa, -, -, hrg⟩ := HAA.out.row.at (by omega)
    subst haa
    have Hel := Keep.mk (rangeAt_elem hrg s hsl)
    have hxs : A[s] = x := by rw [← hx.out, List.getD_eq_getElem?_getD, List.getElem?_eq_getElem hsl]; rfl
    rw [hxs] at Hel
    clear hrg hxs
    simp only [Act.put]
    refine WL.nil (hK31 _ _ ?_)
    refine wp_seq_k fun K32 hK32 => rgn ?_
    refine VlS (ov) ?_
    refine VlS (.slice (some ⟨ga, oa, none⟩) A.length acp) ?_
    refine VlS (.int .i64 (s : Int)) ?_
    refine VlS (.pointer (some ⟨ga, oa + s * 32, none⟩)) ?_
    refine WL.mid (by kernel_rfl) 36 (.tmp 98) rfl ga (oa + s * 32) rfl (encH x) _ Hel.out Try.underlying36 rfl (Try.size36L x) ?_
    rw [enc_load]
    simp only [Act.put, pqA, pqB, pqC]
    refine WL.bs (by kernel_rfl) 37 1 _ rfl #[(0, .agg (bytesA 32 x.f))] (by simp [Act.eval]) _ _ (bsH x wA) ?_
    have HGB := Keep.mk (Blk.new wA 36 (bytesA 32 x.f))
    have hz := below_new wA (.cells (bytesA 32 x.f) 36)
    have OB := Keep.mk (OA.out.below hz)
    have BB := Keep.mk (BA.out.trans (hz.mono BA.out.size))
    have SB := Keep.mk (SA.out.below hz)
    clear hz
    generalize wA.alloc (.cells (bytesA 32 x.f) 36) = wB at *
    generalize wA.heap.size = gB at *
    simp only [Act.put, pqA, pqB, pqC]
    refine WL.appH (by kernel_rfl) (.tmp 95) (.tmp 100) rfl ov (G.take r) gB x rfl rfl SB.out HGB.out (by have h1 := sub_len HG.out.nd fun y hy => (HAm.out y).2 hy; have := HAl.out; rw [List.length_take]; omega) fun vC wC h1 h2 h3 => ?_
    have SC := Keep.mk h1
    have OC : Keep (OSt w2.heap.size wC w2.heap.size w3.heap.size A.length (LK2.set s (-1)) CV CL) := ⟨{ OB.out with lk := h2.blk OB.out.lk fun e => (CNo.out _ e).2.1 rfl, ch := h2.blk OB.out.ch fun e => (CNo.out _ e).2.2.1 rfl, cl := fun p hp => (OB.out.cl p hp).grown h2 fun k hk e => (CNo.out k e).2.2.2 p hp hk }⟩
    have BC := Keep.mk (BB.out.trans (h2.to_below (fun k hk e => by have := (CNo.out k e).1; omega) BB.out.size))
    have NC : Keep (∀ k, vC.ownBlock = some k → w2.heap.size ≤ k ∧ k ≠ w2.heap.size ∧ k ≠ w3.heap.size ∧ ∀ p, p < A.length → (CV.getD p undef).ownBlock ≠ some k) := ⟨fun k hk => h3.elim (fun e => CNo.out k (e ▸ hk)) fun ⟨j, e, hj⟩ => by rw [hk] at e; have e := Option.some.inj e; subst e; exact ⟨Nat.le_trans BB.out.size hj, fun e => by have := OB.out.lk.lt; omega, fun e => by have := OB.out.ch.lt; omega, fun p hp e => by have := (OB.out.cl p hp).lt _ e; omega⟩⟩
    have ST : Keep (OwnH wC vC (G.take (r + 1))) := ⟨by rw [List.take_add_one, Hx.out]; exact SC.out⟩
    clear h1 h2 h3
    have hcc := OC.out.cellC hsl
    obtain ⟨cv, hcv⟩ : ∃ c, Keep (CV.getD s undef = c) := ⟨_, ⟨rfl⟩⟩
    have hOwn := OC.out.cl s hsl
    rw [hcv.out] at hOwn
    obtain ⟨ca, cc, hcs⟩ := hOwn.sl
    subst hcs
    clear hOwn hcc
    simp only [Act.put, pqA, pqB, pqC]
    refine VlS (vC) ?_
    refine WL.nil (hK32 _ _ ?_)
    refine wp_seq_k fun K33 hK33 => rgn ?_
    refine VlS (.int .i64 0) ?_
    refine WL.nil (hK33 _ _ ?_)
    refine wp_block ?_
    refine wp_loop (fun ac wu => ∃ (u : Nat) (fe : Nat → Value), ac = { tmps := #[.slice pa L.length pc, undef, f 2, .slice (some ⟨ga, oa, none⟩) A.length acp, .slice (some ⟨w2.heap.size, 0, none⟩) A.length A.length, .slice (some ⟨w3.heap.size, 0, none⟩) A.length A.length, .int .i64 (t : Int), f 7, f 8, f 9, f 10, vC, .int .i64 (s : Int), .int .i64 (u : Int), .slice pa L.length pc, v1, v1, .slice (some ⟨ga, oa, none⟩) A.length acp, .slice (some ⟨ga, oa, none⟩) A.length acp, .int .i64 (A.length : Int), .slice (some ⟨w2.heap.size, 0, none⟩) A.length A.length, .slice (some ⟨ga, oa, none⟩) A.length acp, .int .i64 (A.length : Int), .slice (some ⟨w3.heap.size, 0, none⟩) A.length A.length, .int .i64 (t : Int), .slice pa L.length pc, .int .i64 (L.length : Int), .bool false, f 28, f 29, f 30, f 31, f 32, f 33, f 34, f 35, f 36, f 37, f 38, f 39, f 40, f 41, f 42, f 43, f 44, f 45, f 46, f 47, f 48, f 49, f 50, f 51, f 52, f 53, f 54, f 55, f 56, f 57, f 58, f 59, f 60, f 61, f 62, f 63, f 64, f 65, f 66, f 67, f 68, f 69, f 70, f 71, f 72, v7, .int .i64 (s : Int), .slice (some ⟨ga, oa, none⟩) A.length acp, .int .i64 (A.length : Int), .bool true, .bool true, .slice (some ⟨w2.heap.size, 0, none⟩) A.length A.length, .int .i64 (s : Int), .pointer (some ⟨w2.heap.size, s, none⟩), .int .i64 lx, .bool false, .bool false, fd 85, fd 86, .int .i64 (s : Int), .slice (some ⟨ga, oa, none⟩) A.length acp, .int .i64 (A.length : Int), .bool false, f 91, .slice (some ⟨w2.heap.size, 0, none⟩) A.length A.length, .int .i64 (s : Int), .pointer (some ⟨w2.heap.size, s, none⟩), ov, .slice (some ⟨ga, oa, none⟩) A.length acp, .int .i64 (s : Int), .pointer (some ⟨ga, oa + s * 32, none⟩), .agg (bytesA 32 x.f), .slice (some ⟨gB, 0, none⟩) 1 1, vC, fe 102, fe 103, fe 104, fe 105, fe 106, fe 107, fe 108, fe 109, fe 110, fe 111, fe 112, fe 113, fe 114, fe 115, fe 116, fe 117, fe 118, fe 119, fe 120, fe 121, fe 122], defers := [] } ∧ u ≤ (CL s).length ∧ ∃ LK3, OSt w2.heap.size wu w2.heap.size w3.heap.size A.length LK3 CV CL ∧ (∀ a, a < A.length → LK3.getD a 0 = (LK2.set s (-1)).getD a 0 - (((CL s).take u).count (a : Int) : Int)) ∧ OwnH wu vC (G.take (r + 1)) ∧ Below w2.heap.size w2 wu) (fun a _ => (CL s).length - (intOf (a.tmps.getD 13 undef)).toNat) ⟨0, fun i => [.slice pa L.length pc, undef, f 2, .slice (some ⟨ga, oa, none⟩) A.length acp, .slice (some ⟨w2.heap.size, 0, none⟩) A.length A.length, .slice (some ⟨w3.heap.size, 0, none⟩) A.length A.length, .int .i64 (t : Int), f 7, f 8, f 9, f 10, vC, .int .i64 (s : Int), .int .i64 0, .slice pa L.length pc, v1, v1, .slice (some ⟨ga, oa, none⟩) A.length acp, .slice (some ⟨ga, oa, none⟩) A.length acp, .int .i64 (A.length : Int), .slice (some ⟨w2.heap.size, 0, none⟩) A.length A.length, .slice (some ⟨ga, oa, none⟩) A.length acp, .int .i64 (A.length : Int), .slice (some ⟨w3.heap.size, 0, none⟩) A.length A.length, .int .i64 (t : Int), .slice pa L.length pc, .int .i64 (L.length : Int), .bool false, f 28, f 29, f 30, f 31, f 32, f 33, f 34, f 35, f 36, f 37, f 38, f 39, f 40, f 41, f 42, f 43, f 44, f 45, f 46, f 47, f 48, f 49, f 50, f 51, f 52, f 53, f 54, f 55, f 56, f 57, f 58, f 59, f 60, f 61, f 62, f 63, f 64, f 65, f 66, f 67, f 68, f 69, f 70, f 71, f 72, v7, .int .i64 (s : Int), .slice (some ⟨ga, oa, none⟩) A.length acp, .int .i64 (A.length : Int), .bool true, .bool true, .slice (some ⟨w2.heap.size, 0, none⟩) A.length A.length, .int .i64 (s : Int), .pointer (some ⟨w2.heap.size, s, none⟩), .int .i64 lx, .bool false, .bool false, fd 85, fd 86, .int .i64 (s : Int), .slice (some ⟨ga, oa, none⟩) A.length acp, .int .i64 (A.length : Int), .bool false, f 91, .slice (some ⟨w2.heap.size, 0, none⟩) A.length A.length, .int .i64 (s : Int), .pointer (some ⟨w2.heap.size, s, none⟩), ov, .slice (some ⟨ga, oa, none⟩) A.length acp, .int .i64 (s : Int), .pointer (some ⟨ga, oa + s * 32, none⟩), .agg (bytesA 32 x.f), .slice (some ⟨gB, 0, none⟩) 1 1, vC, f 102, f 103, f 104, f 105, f 106, f 107, f 108, f 109, f 110, f 111, f 112, f 113, f 114, f 115, f 116, f 117, f 118, f 119, f 120, f 121, f 122].getD i undef, rfl, by omega, LK2.set s (-1), OC.out, (fun a _ => by simp), ST.out, BC.out⟩ ?_
    rintro ac wu ⟨u, fe, rfl, hu, hW⟩
    obtain ⟨LK4, hO, hLk, hS, hB⟩ := hW
    have EO := Keep.mk hO
    have EL := Keep.mk hLk
    have ES := Keep.mk hS
    have EB := Keep.mk hB
    clear hO hLk hS hB
    have hcc := EO.out.cellC hsl
    rw [hcv.out] at hcc
    have hOwn := EO.out.cl s hsl
    rw [hcv.out] at hOwn
    by_cases hul : u < (CL s).length
    ·have hul' : (u : Int) < ((CL s).length : Int) := by omega
     have hu0 : (0 : Int) ≤ (u : Int) := by omega
     have hwu : IntKind.i64.wrap ((u : Int) + 1) = ((u + 1 : Nat) : Int) := by rw [IntKind.wrap_i64]; have := HKd.out.ll s hsl; omega
     obtain ⟨gb, hca, hcb, -, -⟩ := hOwn.at hul
     subst hca
     obtain ⟨b0, hb0, hbl⟩ := HKd.out.rg s hsl ((CL s)[u]) (List.getElem_mem hul)
     have hgu : (CL s).getD u 0 = (b0 : Int) := by rw [List.getD_eq_getElem?_getD, List.getElem?_eq_getElem hul]; exact hb0
     rw [hgu] at hcb
     have Hb0 := Keep.mk hb0
     clear hOwn hgu hb0
     have hbl' : (b0 : Int) < (A.length : Int) := by omega
     have hb00 : (0 : Int) ≤ (b0 : Int) := by omega
     have cl0 := EO.out.cellL hbl
     obtain ⟨lx2, hlx2⟩ : ∃ x, Keep (LK4.getD b0 0 = x) := ⟨_, ⟨rfl⟩⟩
     rw [hlx2.out] at cl0
     have hlb : -300000 ≤ lx2 ∧ lx2 ≤ 300000 := by
      rw [← hlx2.out, EL.out b0 hbl, getD_setI _ _ _ _ (by rw [CO.out.ln]; exact hsl)]
      have h1 : (((CL s).take u).count (b0 : Int)) ≤ ((CL s).take u).length := List.count_le_length
      have h2 := HKd.out.ll s hsl
      rw [List.length_take] at h1
      have h3 := lkA_bnd (par := parH (L.map (·.1))) (O := G.take r) (x := A.getD b0 default) (HPb.out _ ((HAm.out _).1 (at_mem (at_getD hbl))))
      have h4 := CL_.out b0 hbl
      split <;> omega
     have hwl : IntKind.i64.wrap (lx2 - 1) = lx2 - 1 := by rw [IntKind.wrap_i64]; omega
     have f_l := EO.out.lk.frozen b0
     refine wp_seq_k fun K34 hK34 => ?_
     refine wp_seq_k fun K35 hK35 => rgn ?_
     refine VlS (.int .i64 (u : Int)) ?_
     refine VlS (.slice (some ⟨w3.heap.size, 0, none⟩) A.length A.length) ?_
     refine VlS (.int .i64 (s : Int)) ?_
     refine VlS (.pointer (some ⟨w3.heap.size, s, none⟩)) ?_
     refine VlS (.slice (some ⟨gb, 0, none⟩) (CL s).length cc) ?_
     refine VlS (.int .i64 ((CL s).length : Int)) ?_
     refine VlS (.bool true) ?_
     refine WL.nil (hK35 _ _ ?_)
     refine wp_cond_true rfl ?_
     refine wp_skip ?_
     refine hK34 _ _ ?_
     refine wp_seq_k fun K36 hK36 => ?_
     refine wp_block ?_
     refine rgn ?_
     refine VlS (.slice (some ⟨w2.heap.size, 0, none⟩) A.length A.length) ?_
     refine VlS (.slice (some ⟨w3.heap.size, 0, none⟩) A.length A.length) ?_
     refine VlS (.int .i64 (s : Int)) ?_
     refine VlS (.pointer (some ⟨w3.heap.size, s, none⟩)) ?_
     refine VlS (.slice (some ⟨gb, 0, none⟩) (CL s).length cc) ?_
     refine VlS (.int .i64 (u : Int)) ?_
     refine VlS (.pointer (some ⟨gb, u, none⟩)) ?_
     refine VlS (.int .i64 (b0 : Int)) ?_
     refine VlS (.pointer (some ⟨w2.heap.size, b0, none⟩)) ?_
     refine VlS (.int .i64 lx2) ?_
     refine VlS (.int .i64 (lx2 - 1)) ?_
     refine VlS (.pointer (some ⟨w2.heap.size, b0, none⟩)) ?_
     refine WL.cell (by kernel_rfl) (wu.setCell ⟨w2.heap.size, b0, none⟩ (.int .i64 (lx2 - 1))) (by go_simp) ?_
     clear cl0 f_l hcc hcb
     have hg7 : Grown wu (wu.setCell ⟨w2.heap.size, b0, none⟩ (.int .i64 (lx2 - 1))) (fun k => k = w2.heap.size) := Grown.setCell _ _ _ _ fun _ => rfl
     have Hg7 := Keep.mk hg7
     clear hg7
     simp only [Act.put]
     refine WL.nil (hK36 _ _ ?_)
     refine rgn ?_
     refine VlS (.int .i64 (u : Int)) ?_
     refine VlS (.int .i64 ((u + 1 : Nat) : Int)) ?_
     refine VlS (.int .i64 ((u + 1 : Nat) : Int)) ?_
     refine WL.nil ?_
     refine ⟨⟨u + 1, fun i => [.slice pa L.length pc, undef, f 2, .slice (some ⟨ga, oa, none⟩) A.length acp, .slice (some ⟨w2.heap.size, 0, none⟩) A.length A.length, .slice (some ⟨w3.heap.size, 0, none⟩) A.length A.length, .int .i64 (t : Int), f 7, f 8, f 9, f 10, vC, .int .i64 (s : Int), .int .i64 ((u + 1 : Nat) : Int), .slice pa L.length pc, v1, v1, .slice (some ⟨ga, oa, none⟩) A.length acp, .slice (some ⟨ga, oa, none⟩) A.length acp, .int .i64 (A.length : Int), .slice (some ⟨w2.heap.size, 0, none⟩) A.length A.length, .slice (some ⟨ga, oa, none⟩) A.length acp, .int .i64 (A.length : Int), .slice (some ⟨w3.heap.size, 0, none⟩) A.length A.length, .int .i64 (t : Int), .slice pa L.length pc, .int .i64 (L.length : Int), .bool false, f 28, f 29, f 30, f 31, f 32, f 33, f 34, f 35, f 36, f 37, f 38, f 39, f 40, f 41, f 42, f 43, f 44, f 45, f 46, f 47, f 48, f 49, f 50, f 51, f 52, f 53, f 54, f 55, f 56, f 57, f 58, f 59, f 60, f 61, f 62, f 63, f 64, f 65, f 66, f 67, f 68, f 69, f 70, f 71, f 72, v7, .int .i64 (s : Int), .slice (some ⟨ga, oa, none⟩) A.length acp, .int .i64 (A.length : Int), .bool true, .bool true, .slice (some ⟨w2.heap.size, 0, none⟩) A.length A.length, .int .i64 (s : Int), .pointer (some ⟨w2.heap.size, s, none⟩), .int .i64 lx, .bool false, .bool false, fd 85, fd 86, .int .i64 (s : Int), .slice (some ⟨ga, oa, none⟩) A.length acp, .int .i64 (A.length : Int), .bool false, f 91, .slice (some ⟨w2.heap.size, 0, none⟩) A.length A.length, .int .i64 (s : Int), .pointer (some ⟨w2.heap.size, s, none⟩), ov, .slice (some ⟨ga, oa, none⟩) A.length acp, .int .i64 (s : Int), .pointer (some ⟨ga, oa + s * 32, none⟩), .agg (bytesA 32 x.f), .slice (some ⟨gB, 0, none⟩) 1 1, vC, .int .i64 (u : Int), .slice (some ⟨w3.heap.size, 0, none⟩) A.length A.length, .int .i64 (s : Int), .pointer (some ⟨w3.heap.size, s, none⟩), .slice (some ⟨gb, 0, none⟩) (CL s).length cc, .int .i64 ((CL s).length : Int), .bool true, .int .i64 (u : Int), .int .i64 ((u + 1 : Nat) : Int), .slice (some ⟨w2.heap.size, 0, none⟩) A.length A.length, .slice (some ⟨w3.heap.size, 0, none⟩) A.length A.length, .int .i64 (s : Int), .pointer (some ⟨w3.heap.size, s, none⟩), .slice (some ⟨gb, 0, none⟩) (CL s).length cc, .int .i64 (u : Int), .pointer (some ⟨gb, u, none⟩), .int .i64 (b0 : Int), .pointer (some ⟨w2.heap.size, b0, none⟩), .int .i64 lx2, .int .i64 (lx2 - 1), .pointer (some ⟨w2.heap.size, b0, none⟩)].getD i undef, rfl, by omega, LK4.set b0 (lx2 - 1), EO.out.setL b0 (lx2 - 1), fun a ha => ?_, ES.out.grown Hg7.out fun k hk e => (NC.out k hk).2.1 e, EB.out.trans (Hg7.out.to_below (fun k hk e => by omega) EB.out.size)⟩, ?_⟩
     ·rw [getD_setI _ _ _ _ (by rw [EO.out.ln]; exact hbl), cnt_take1 hul, Hb0.out]
      by_cases e : a = b0
      ·subst e; rw [if_pos rfl, if_pos rfl, ← hlx2.out, EL.out a ha]; omega
      ·rw [if_neg e, if_neg (by omega), EL.out a ha]; omega
     ·simp only [intOf]; show (CL s).length - ((u + 1 : Nat) : Int).toNat < (CL s).length - ((u : Int)).toNat; omega
    ·have hul' : ¬ (u : Int) < ((CL s).length : Int) := by omega
     have hue : Keep (u = (CL s).length) := ⟨by omega⟩
     refine wp_seq_k fun K37 hK37 => ?_
     refine wp_seq_k fun K38 hK38 => rgn ?_
     refine VlS (.int .i64 (u : Int)) ?_
     refine VlS (.slice (some ⟨w3.heap.size, 0, none⟩) A.length A.length) ?_
     refine VlS (.int .i64 (s : Int)) ?_
     refine VlS (.pointer (some ⟨w3.heap.size, s, none⟩)) ?_
     refine VlS (.slice ca (CL s).length cc) ?_
     refine VlS (.int .i64 ((CL s).length : Int)) ?_
     refine VlS (.bool false) ?_
     refine WL.nil (hK38 _ _ ?_)
     refine wp_cond_false rfl ?_
     refine wp_exit ?_
     refine ⟨⟨r + 1, fun i => [.slice pa L.length pc, undef, f 2, .slice (some ⟨ga, oa, none⟩) A.length acp, .slice (some ⟨w2.heap.size, 0, none⟩) A.length A.length, .slice (some ⟨w3.heap.size, 0, none⟩) A.length A.length, .int .i64 (t : Int), f 7, f 8, f 9, f 10, vC, .int .i64 (s : Int), .int .i64 (u : Int), .slice pa L.length pc, v1, v1, .slice (some ⟨ga, oa, none⟩) A.length acp, .slice (some ⟨ga, oa, none⟩) A.length acp, .int .i64 (A.length : Int), .slice (some ⟨w2.heap.size, 0, none⟩) A.length A.length, .slice (some ⟨ga, oa, none⟩) A.length acp, .int .i64 (A.length : Int), .slice (some ⟨w3.heap.size, 0, none⟩) A.length A.length, .int .i64 (t : Int), .slice pa L.length pc, .int .i64 (L.length : Int), .bool false, f 28, f 29, f 30, f 31, f 32, f 33, f 34, f 35, f 36, f 37, f 38, f 39, f 40, f 41, f 42, f 43, f 44, f 45, f 46, f 47, f 48, f 49, f 50, f 51, f 52, f 53, f 54, f 55, f 56, f 57, f 58, f 59, f 60, f 61, f 62, f 63, f 64, f 65, f 66, f 67, f 68, f 69, f 70, f 71, f 72, v7, .int .i64 (s : Int), .slice (some ⟨ga, oa, none⟩) A.length acp, .int .i64 (A.length : Int), .bool true, .bool true, .slice (some ⟨w2.heap.size, 0, none⟩) A.length A.length, .int .i64 (s : Int), .pointer (some ⟨w2.heap.size, s, none⟩), .int .i64 lx, .bool false, .bool false, fd 85, fd 86, .int .i64 (s : Int), .slice (some ⟨ga, oa, none⟩) A.length acp, .int .i64 (A.length : Int), .bool false, f 91, .slice (some ⟨w2.heap.size, 0, none⟩) A.length A.length, .int .i64 (s : Int), .pointer (some ⟨w2.heap.size, s, none⟩), ov, .slice (some ⟨ga, oa, none⟩) A.length acp, .int .i64 (s : Int), .pointer (some ⟨ga, oa + s * 32, none⟩), .agg (bytesA 32 x.f), .slice (some ⟨gB, 0, none⟩) 1 1, vC, .int .i64 (u : Int), .slice (some ⟨w3.heap.size, 0, none⟩) A.length A.length, .int .i64 (s : Int), .pointer (some ⟨w3.heap.size, s, none⟩), .slice ca (CL s).length cc, .int .i64 ((CL s).length : Int), .bool false, fe 109, fe 110, fe 111, fe 112, fe 113, fe 114, fe 115, fe 116, fe 117, fe 118, fe 119, fe 120, fe 121, fe 122].getD i undef, rfl, ?_, ES.out, NC.out, LK4, EO.out, fun a ha => ?_, EB.out⟩, ?_⟩
     ·have := (List.getElem?_eq_some_iff.1 Hx.out).1; omega
     ·have hxG : x ∈ G := at_mem Hx.out
      have hyG : A.getD a default ∈ G := (HAm.out _).1 (at_mem (at_getD ha))
      rw [EL.out a ha, hue.out, List.take_length, HKd.out.cl s a hsl ha, hx.out, lkA_step HG.out (fun y hy => HPn.out y hy) Hx.out hyG, getD_setI _ _ _ _ (by rw [CO.out.ln]; exact hsl)]
      by_cases e : a = s
      ·subst e
       rw [if_pos rfl, if_pos hx.out, hx.out, if_neg (self_no HG.out hxG)]; rfl
      ·have hne : ¬ A.getD a default = x := fun e2 => e (getD_inj HA.out ha hsl (by rw [hx.out]; exact e2))
       rw [if_neg e, if_neg hne, CL_.out a ha]
       by_cases e3 : x ∈ parH (L.map (·.1)) (A.getD a default)
       ·rw [if_pos e3, if_pos e3]; rfl
       ·rw [if_neg e3, if_neg e3]; rfl
     ·show G.length - slN vC < G.length - slN ov
      rw [ST.out.slN, COo.out.slN, List.length_take, List.length_take]; have := (List.getElem?_eq_some_iff.1 Hx.out).1; omega
   ·refine wp_seq_k fun K39 hK39 => ?_
    refine wp_seq_k fun K40 hK40 => rgn ?_
    refine VlS (.int .i64 (s : Int)) ?_
    refine VlS (.slice aa A.length acp) ?_
    refine VlS (.int .i64 (A.length : Int)) ?_
    refine VlS (.bool true) ?_
    refine VlS (.bool true) ?_
    refine VlS (.slice (some ⟨w2.heap.size, 0, none⟩) A.length A.length) ?_
    refine VlS (.int .i64 (s : Int)) ?_
    refine VlS (.pointer (some ⟨w2.heap.size, s, none⟩)) ?_
    refine VlS (.int .i64 lx) ?_
    refine VlS (.bool true) ?_
    refine VlS (.bool true) ?_
    refine WL.nil (hK40 _ _ ?_)
    refine wp_cond_true rfl ?_
    refine wp_skip ?_
    refine hK39 _ _ ?_
    refine wp_block ?_
    refine rgn ?_
    refine VlS (.int .i64 (s : Int)) ?_
    refine VlS (.int .i64 ((s + 1 : Nat) : Int)) ?_
    refine VlS (.int .i64 ((s + 1 : Nat) : Int)) ?_
    refine WL.nil ?_
    refine ⟨⟨s + 1, fun i => [.slice pa L.length pc, undef, f 2, .slice aa A.length acp, .slice (some ⟨w2.heap.size, 0, none⟩) A.length A.length, .slice (some ⟨w3.heap.size, 0, none⟩) A.length A.length, .int .i64 (t : Int), f 7, f 8, f 9, f 10, ov, .int .i64 ((s + 1 : Nat) : Int), f 13, .slice pa L.length pc, v1, v1, .slice aa A.length acp, .slice aa A.length acp, .int .i64 (A.length : Int), .slice (some ⟨w2.heap.size, 0, none⟩) A.length A.length, .slice aa A.length acp, .int .i64 (A.length : Int), .slice (some ⟨w3.heap.size, 0, none⟩) A.length A.length, .int .i64 (t : Int), .slice pa L.length pc, .int .i64 (L.length : Int), .bool false, f 28, f 29, f 30, f 31, f 32, f 33, f 34, f 35, f 36, f 37, f 38, f 39, f 40, f 41, f 42, f 43, f 44, f 45, f 46, f 47, f 48, f 49, f 50, f 51, f 52, f 53, f 54, f 55, f 56, f 57, f 58, f 59, f 60, f 61, f 62, f 63, f 64, f 65, f 66, f 67, f 68, f 69, f 70, f 71, f 72, v7, .int .i64 (s : Int), .slice aa A.length acp, .int .i64 (A.length : Int), .bool true, .bool true, .slice (some ⟨w2.heap.size, 0, none⟩) A.length A.length, .int .i64 (s : Int), .pointer (some ⟨w2.heap.size, s, none⟩), .int .i64 lx, .bool true, .bool true, .int .i64 (s : Int), .int .i64 ((s + 1 : Nat) : Int), f 87, f 88, f 89, f 90, f 91, f 92, f 93, f 94, f 95, f 96, f 97, f 98, f 99, f 100, f 101, f 102, f 103, f 104, f 105, f 106, f 107, f 108, f 109, f 110, f 111, f 112, f 113, f 114, f 115, f 116, f 117, f 118, f 119, f 120, f 121, f 122].getD i undef, rfl, by omega, rfl, fun a ha => ?_⟩, ?_⟩
    ·rcases Nat.lt_or_eq_of_le (Nat.le_of_lt_succ ha) with h1 | rfl
     ·exact DD.out a h1
     ·rw [hlx.out]; exact hz0
    ·simp only [intOf]; show A.length - ((s + 1 : Nat) : Int).toNat < A.length - ((s : Int)).toNat; omega
  ·have hsl' : ¬ (s : Int) < (A.length : Int) := by omega
   have hse : s = A.length := by omega
   have hse' : (s : Int) = (A.length : Int) := by omega
   refine wp_seq_k fun K41 hK41 => ?_
   refine wp_seq_k fun K42 hK42 => rgn ?_
   refine VlS (.int .i64 (s : Int)) ?_
   refine VlS (.slice aa A.length acp) ?_
   refine VlS (.int .i64 (A.length : Int)) ?_
   refine VlS (.bool false) ?_
   refine VlS (.bool false) ?_
   refine SkS ?_
   refine SkS ?_
   refine SkS ?_
   refine SkS ?_
   refine SkS ?_
   refine VlS (.bool false) ?_
   refine WL.nil (hK42 _ _ ?_)
   refine wp_cond_false rfl ?_
   refine wp_exit ?_
   refine hK26 _ _ ?_
   refine wp_seq_k fun K43 hK43 => ?_
   refine wp_seq_k fun K44 hK44 => rgn ?_
   refine VlS (.int .i64 (s : Int)) ?_
   refine VlS (.slice aa A.length acp) ?_
   refine VlS (.int .i64 (A.length : Int)) ?_
   refine VlS (.bool true) ?_
   refine WL.nil (hK44 _ _ ?_)
   refine wp_cond_true rfl ?_
   refine wp_seq_k fun K45 hK45 => rgn ?_
   refine VlS (ov) ?_
   refine VlS (ov) ?_
   refine WL.nil (hK45 _ _ ?_)
   refine wp_ret ?_
   go_ret
   have hrl : r = G.length := by
    rcases Nat.lt_or_eq_of_le hr with h1 | h1
    ·obtain ⟨m, hm, y, hy, h0⟩ := one_at HG.out HAm.out h1
     have h2 := DD.out m (by omega)
     rw [CL_.out m hm, getD_at hy, h0] at h2
     exact absurd rfl h2
    ·exact h1
   refine ⟨_, rfl, ⟨by have h := COo.out; rw [hrl, List.take_length] at h; exact h, fun k hk => Nat.le_trans B2.out.size (CNo.out k hk).1, belowT B2.out (CB.out)⟩⟩
end Go.Proofs.Ytogmdfhicbmplaa
namespace Go.Proofs.Ytogmdfhicbmplaa
open Go.RowKit
set_option linter.unusedSimpArgs false
set_option linter.unusedVariables false

theorem Try.in54 (w : World) (vs : Array Value) : (callFunc 54 vs).run Try.prog w = .ok (.enter 54 vs) w := by kernel_rfl
theorem Try.in14 (w : World) (vs : Array Value) : (callFunc 14 vs).run Try.prog w = .ok (.enter 14 vs) w := by kernel_rfl
/-! ### Both dags beside one another. -/
structure PM (B : Nat) (w : World) (d x : Nat) (g : DG) (hv wv sv : Value) (R : RG) : Prop where
 dg : DagAt w (fun k => DgS d g k ∨ RgS x hv wv sv k) d g
 rg : RAt w x hv wv sv R
 dj : ∀ k, DgS d g k → ¬ RgS x hv wv sv k
 rp : ∀ q, q ∈ R.held ∨ q ∈ R.wait → ∀ k, q.2.ownBlock = some k → ¬ DgS d g k
 lo : ∀ k, DgS d g k ∨ RgS x hv wv sv k → B ≤ k
set_option maxRecDepth 8000 in
set_option maxHeartbeats 1000000 in
theorem rOrd_any (d : Nat) (R : RG) (G : List Hs) (w : World) (hD : RRd w d R) (hI : RI R) (hn : (R.hs.map (·.id)).Nodup) (hps : ∀ v ∈ R.hs, v.ps.Pairwise Lt) (hG : OneO (parH R.hs) G) (hm : ∀ x, x ∈ G ↔ x ∈ R.hs.map (·.id)) : Calls Try.prog 54 #[ptr d] w fun e w' => ∃ v', e = .returned v' ∧ Fresh w w' v' G := by
 obtain ⟨hv, wv, sv, g1, g2, -, -⟩ := hD
 obtain ⟨ha, hc, rfl⟩ := g2.form
 have G1 := Keep.mk g1
 have G2 := Keep.mk g2
 have HI := Keep.mk hI
 have H1 : Keep (∀ q ∈ R.held, q.1.ps.length ≤ 64) := ⟨fun q hq => hI.hp q.1 (List.mem_map.2 ⟨q, hq, rfl⟩)⟩
 have H2 : Keep (((R.held.map (·.1)).map (·.id)).Nodup) := ⟨hn⟩
 have H3 : Keep (∀ q ∈ R.held, q.1.ps.Pairwise Lt) := ⟨fun q hq => hps q.1 (List.mem_map.2 ⟨q, hq, rfl⟩)⟩
 have H4 : Keep (OneO (parH (R.held.map (·.1))) G) := ⟨hG⟩
 have H5 : Keep (∀ x, x ∈ G ↔ x ∈ (R.held.map (·.1)).map (·.id)) := ⟨hm⟩
 clear g1 g2 hI hn hps hG hm
 go_enter Try.func54, Try.ntmps54
 refine wp_seq_k fun K1 hK1 => rgn ?_
 refine VlS (.slice none 0 0) ?_
 refine WL.nil (hK1 _ _ ?_)
 refine wp_seq_k fun K2 hK2 => rgn ?_
 refine VlS (.pointer (some ⟨d, 0, none⟩)) ?_
 refine VlS (.pointer (some ⟨d, 0, none⟩)) ?_
 refine VlS (.pointer (some ⟨d, 1, none⟩)) ?_
 have c1 : w.cell? ⟨d, 1, none⟩ = some (.slice ha R.held.length hc) := G1.out.c 1 rfl
 refine WL.val (by kernel_rfl) (.slice ha R.held.length hc) (by go_simp) ?_
 clear c1
 simp only [Act.put, pqA, pqB, pqC]
 refine WL.callF (by kernel_rfl) 79 _ _ rfl Try.in79 #[.slice ha R.held.length hc] (by simp [Act.eval]) ?_
 refine (rorder_any _ R.held G w G2.out HI.out.hl H1.out H2.out H3.out H4.out H5.out).mono ?_
 rintro e w1 ⟨v1, rfl, hf⟩
 refine ⟨_, rfl, ?_⟩
 have HF := Keep.mk hf
 clear hf
 simp only [Act.put, pqA, pqB, pqC]
 refine VlS (v1) ?_
 refine WL.nil (hK2 _ _ ?_)
 refine wp_ret ?_
 go_ret
 exact ⟨_, rfl, HF.out⟩
set_option maxRecDepth 8000 in
set_option maxHeartbeats 2000000 in
theorem whole_any (d x : Nat) (g : DG) (R : RG) (Av : Nat → Prop) (w : World) (hD : DagAt w Av d g) (hI : DI g) (hR : RRd w x R) (hRI : RI R) (hS : Sm g R) : Calls Try.prog 14 #[ptr d, ptr x] w fun e w' => e = .returned (.bool true) ∧ Below w.heap.size w w' := by
 have hD := hD.avInto (Av' := DgS d g) (fun k hk => hD.av k hk) fun k hk => hk
 have DG := Keep.mk (show DagAt w (fun k => DgS d g k ∨ False) d g from hD.avInto (fun k hk => hk.elim id False.elim) fun k hk => .inl hk)
 have HI := Keep.mk hI
 have RD := Keep.mk hR
 have RI_ := Keep.mk hRI
 have SM := Keep.mk hS
 have HLn : Keep ((g.held.length : Int) = (R.held.length : Int)) := ⟨by have := congrArg List.length hS.hs; rw [RG.hs, List.length_map] at this; omega⟩
 obtain ⟨hv, wv, sv, g1, g2, -, -⟩ := hR
 obtain ⟨ha, hc, rfl⟩ := g2.form
 have G1 := Keep.mk g1
 clear g1 g2 hD hI hRI hS
 go_enter Try.func14, Try.ntmps14
 refine wp_seq_k fun K1 hK1 => rgn ?_
 refine VlS (.bool false) ?_
 refine WL.nil (hK1 _ _ ?_)
 refine wp_seq_k fun K2 hK2 => ?_
 have hS0 : Keep (∀ wx, Below w.heap.size w wx → (fun wx : World => wx.cell? ⟨x, 1, none⟩ = some (.slice ha R.held.length hc)) wx) := ⟨fun wx hb => (G1.out.below hb G1.out.lt).c 1 rfl⟩
 have U0 : Keep (Below w.heap.size w w.drew) := ⟨(Below.refl _ _).drew⟩
 refine wp_region_held_drew (S := fun wx : World => wx.cell? ⟨x, 1, none⟩ = some (.slice ha R.held.length hc)) (by kernel_rfl) (hS0.out _ U0.out) (fun hHeld => ?_)
 refine tkS (i := 0) (oi := ⟨some 5, Op.move (Operand.tmp 0), 27, _, _, none⟩) (v := .pointer (some ⟨d, 0, none⟩)) rfl (Or.inl ⟨by rfl, fun w hS => by clear hS; go_simp⟩) hHeld ?_
 refine tkS (i := 2) (oi := ⟨some 7, Op.move (Operand.tmp 1), 31, _, _, none⟩) (v := .pointer (some ⟨x, 0, none⟩)) rfl (Or.inl ⟨by rfl, fun w hS => by clear hS; go_simp⟩) hHeld ?_
 refine wpAnyH_ready (rs := [1]) (by kernel_rfl) (by simp) ?_
 refine AllReadyH.cons (o := ⟨some 6, Op.call { callee := Callee.value (Operand.func 21), args := #[Operand.tmp 5], argTypes := #[27] }, 37, _, _, none⟩) rfl (fun K hK => ?_) AllReadyH.nil
 rw [if_pos (by rfl)]
 have hcon := order_any d _ g w.drew (DG.out.below U0.out) (by have := HI.out.ol; have := HI.out.hl; omega)
 refine wp_callF 21 _ _ rfl Try.in21 #[ptr d] (by simp [Act.eval]) (fun u wx => Fresh w.drew wx u g.order) (hcon.mono fun e w' ⟨v', h1, h2⟩ => ⟨_, h1, h2⟩) ?_
 clear hcon
 rintro u1 w1 hf
 have F1 := Keep.mk hf
 have U1 := Keep.mk (belowT U0.out hf.bel)
 clear hf
 have LB1 : Keep ((g.order.length : Int) ≤ 9223372036854775807) := ⟨by have := HI.out.ol; have := HI.out.hl; omega⟩
 refine hK _ _ (hS0.out _ U1.out) fun hH1 => ?_
 clear hK
 simp only [Act.put, pqA, pqB, pqC]
 refine wpAnyH_ready (rs := [3]) (by kernel_rfl) (by simp) ?_
 refine AllReadyH.cons (o := ⟨some 8, Op.call { callee := Callee.value (Operand.func 54), args := #[Operand.tmp 7], argTypes := #[31] }, 37, _, _, none⟩) rfl (fun K hK => ?_) AllReadyH.nil
 rw [if_pos (by rfl)]
 have hcon := rOrd_any x R g.order w1 (RD.out.below U1.out) RI_.out (by rw [SM.out.hs]; exact HI.out.hn) (fun v hv => by rw [SM.out.hs] at hv; exact (chk_ok (HI.out.hc v hv)).2.1) (by rw [SM.out.hs]; exact HI.out.oo) (fun z => by rw [SM.out.hs, HI.out.om, hasB_mem])
 refine wp_callF 54 _ _ rfl Try.in54 #[ptr x] (by simp [Act.eval]) (fun u wx => Fresh w1 wx u g.order) (hcon.mono fun e w' ⟨v', h1, h2⟩ => ⟨_, h1, h2⟩) ?_
 clear hcon
 rintro u2 w2 hf
 have F2 := Keep.mk hf
 have U2 := Keep.mk (belowT U1.out hf.bel)
 have U12 : Keep (Below w1.heap.size w1 w2) := ⟨hf.bel⟩
 clear hf
 have E2 : Keep (g.order = g.order) := ⟨rfl⟩
 refine hK _ _ (hS0.out _ U2.out) fun hH2 => ?_
 clear hK
 simp only [Act.put, pqA, pqB, pqC]
 refine wpAnyH_ready (rs := [4]) (by kernel_rfl) (by simp) ?_
 refine AllReadyH.cons (o := ⟨some 9, Op.call { callee := Callee.value (Operand.func 19), args := #[Operand.tmp 6, Operand.tmp 8], argTypes := #[37, 37] }, 4, _, _, none⟩) rfl (fun K hK => ?_) AllReadyH.nil
 rw [if_pos (by rfl)]
 have hcon := smH_any u1 u2 _ _ w2 (F1.out.own.row.below (U12.out)) F2.out.own.row (by have := LB1.out; omega)
 refine wp_callF 19 _ _ rfl Try.in19 #[u1, u2] (by simp [Act.eval]) (fun u wx => u = .bool true ∧ Below w2.heap.size w2 wx) (hcon.mono fun e w' ⟨h1, h2⟩ => ⟨_, h1, by rw [decide_eq_true E2.out], h2⟩) ?_
 clear hcon
 rintro u3 w3 ⟨rfl, hb⟩
 have U3 := Keep.mk (belowT U2.out hb)
 clear hb
 refine hK _ _ (hS0.out _ U3.out) fun hH3 => ?_
 clear hK
 simp only [Act.put, pqA, pqB, pqC]
 refine tkS (i := 5) (oi := ⟨some 10, Op.move (Operand.tmp 9), 4, _, _, none⟩) (v := .bool true) rfl (Or.inl ⟨by rfl, fun w hS => by clear hS; go_simp⟩) hH3 ?_
 refine tkS (i := 6) (oi := ⟨some 11, Op.move (Operand.tmp 0), 27, _, _, some (5, true)⟩) (v := .pointer (some ⟨d, 0, none⟩)) rfl (Or.inl ⟨by rfl, fun w hS => by clear hS; go_simp⟩) hH3 ?_
 refine tkS (i := 8) (oi := ⟨some 13, Op.move (Operand.tmp 1), 31, _, _, some (5, true)⟩) (v := .pointer (some ⟨x, 0, none⟩)) rfl (Or.inl ⟨by rfl, fun w hS => by clear hS; go_simp⟩) hH3 ?_
 refine wpAnyH_ready (rs := [7]) (by kernel_rfl) (by simp) ?_
 refine AllReadyH.cons (o := ⟨some 12, Op.call { callee := Callee.value (Operand.func 25), args := #[Operand.tmp 11], argTypes := #[27] }, 37, _, _, some (5, true)⟩) rfl (fun K hK => ?_) AllReadyH.nil
 rw [if_pos (by rfl)]
 have hcon := heads_any d _ g w3 (DG.out.below U3.out) (by have := HI.out.hdl; have := HI.out.hl; omega)
 refine wp_callF 25 _ _ rfl Try.in25 #[ptr d] (by simp [Act.eval]) (fun u wx => Fresh w3 wx u g.heads) (hcon.mono fun e w' ⟨v', h1, h2⟩ => ⟨_, h1, h2⟩) ?_
 clear hcon
 rintro u4 w4 hf
 have F4 := Keep.mk hf
 have U4 := Keep.mk (belowT U3.out hf.bel)
 clear hf
 have LB4 : Keep ((g.heads.length : Int) ≤ 9223372036854775807) := ⟨by have := HI.out.hdl; have := HI.out.hl; omega⟩
 refine hK _ _ (hS0.out _ U4.out) fun hH4 => ?_
 clear hK
 simp only [Act.put, pqA, pqB, pqC]
 refine wpAnyH_ready (rs := [9]) (by kernel_rfl) (by simp) ?_
 refine AllReadyH.cons (o := ⟨some 14, Op.call { callee := Callee.value (Operand.func 49), args := #[Operand.tmp 13], argTypes := #[31] }, 37, _, _, some (5, true)⟩) rfl (fun K hK => ?_) AllReadyH.nil
 rw [if_pos (by rfl)]
 have hcon := rheads_any x R w4 (RD.out.below U4.out) RI_.out
 refine wp_callF 49 _ _ rfl Try.in49 #[ptr x] (by simp [Act.eval]) (fun u wx => Fresh w4 wx u g.heads) (hcon.mono fun e w' ⟨v', L', h1, h2, h3, h4, _⟩ => ⟨_, h1, by rw [← rising_unique L' g.heads h3 HI.out.hd fun z => by rw [h4, SM.out.hd HI.out]]; exact h2⟩) ?_
 clear hcon
 rintro u5 w5 hf
 have F5 := Keep.mk hf
 have U5 := Keep.mk (belowT U4.out hf.bel)
 have U45 : Keep (Below w4.heap.size w4 w5) := ⟨hf.bel⟩
 clear hf
 have E5 : Keep (g.heads = g.heads) := ⟨rfl⟩
 refine hK _ _ (hS0.out _ U5.out) fun hH5 => ?_
 clear hK
 simp only [Act.put, pqA, pqB, pqC]
 refine wpAnyH_ready (rs := [10]) (by kernel_rfl) (by simp) ?_
 refine AllReadyH.cons (o := ⟨some 15, Op.call { callee := Callee.value (Operand.func 19), args := #[Operand.tmp 12, Operand.tmp 14], argTypes := #[37, 37] }, 4, _, _, some (5, true)⟩) rfl (fun K hK => ?_) AllReadyH.nil
 rw [if_pos (by rfl)]
 have hcon := smH_any u4 u5 _ _ w5 (F4.out.own.row.below (U45.out)) F5.out.own.row (by have := LB4.out; omega)
 refine wp_callF 19 _ _ rfl Try.in19 #[u4, u5] (by simp [Act.eval]) (fun u wx => u = .bool true ∧ Below w5.heap.size w5 wx) (hcon.mono fun e w' ⟨h1, h2⟩ => ⟨_, h1, by rw [decide_eq_true E5.out], h2⟩) ?_
 clear hcon
 rintro u6 w6 ⟨rfl, hb⟩
 have U6 := Keep.mk (belowT U5.out hb)
 clear hb
 refine hK _ _ (hS0.out _ U6.out) fun hH6 => ?_
 clear hK
 simp only [Act.put, pqA, pqB, pqC]
 refine tkS (i := 11) (oi := ⟨some 16, Op.pick (Operand.tmp 10) (Operand.tmp 15) (Operand.const (Value.bool false)), 4, _, _, none⟩) (v := .bool true) rfl (Or.inl ⟨by rfl, fun w hS => by clear hS; go_simp⟩) hH6 ?_
 refine tkS (i := 12) (oi := ⟨some 17, Op.move (Operand.tmp 16), 4, _, _, none⟩) (v := .bool true) rfl (Or.inl ⟨by rfl, fun w hS => by clear hS; go_simp⟩) hH6 ?_
 refine tkS (i := 13) (oi := ⟨some 18, Op.move (Operand.tmp 0), 27, _, _, some (12, true)⟩) (v := .pointer (some ⟨d, 0, none⟩)) rfl (Or.inl ⟨by rfl, fun w hS => by clear hS; go_simp⟩) hH6 ?_
 refine tkS (i := 15) (oi := ⟨some 20, Op.move (Operand.tmp 1), 31, _, _, some (12, true)⟩) (v := .pointer (some ⟨x, 0, none⟩)) rfl (Or.inl ⟨by rfl, fun w hS => by clear hS; go_simp⟩) hH6 ?_
 refine wpAnyH_ready (rs := [14]) (by kernel_rfl) (by simp) ?_
 refine AllReadyH.cons (o := ⟨some 19, Op.call { callee := Callee.value (Operand.func 50), args := #[Operand.tmp 18], argTypes := #[27] }, 37, _, _, some (12, true)⟩) rfl (fun K hK => ?_) AllReadyH.nil
 rw [if_pos (by rfl)]
 have hcon := missing_any 0 d g w6 ⟨(DG.out.below U6.out).avInto (fun k hk => .inl hk) (fun k hk => hk), HI.out, fun _ _ => Nat.zero_le _⟩
 refine wp_callF 50 _ _ rfl Try.in50 #[ptr d] (by simp [Act.eval]) (fun u wx => ∃ L', Fresh w6 wx u L' ∧ L'.Pairwise Lt ∧ (∀ z, z ∈ L' ↔ z ∈ misL g g.wait) ∧ L'.length ≤ 4096) (hcon.mono fun e w' ⟨v', L', h1, h2⟩ => ⟨_, h1, L', h2⟩) ?_
 clear hcon
 rintro u7 w7 ⟨LM, hf, hp, hm, hl⟩
 have F7 := Keep.mk hf
 have U7 := Keep.mk (belowT U6.out hf.bel)
 clear hf
 have PM1 := Keep.mk hp
 have MM1 := Keep.mk hm
 have LB7 : Keep ((LM.length : Int) ≤ 9223372036854775807) := ⟨by omega⟩
 clear hp hm
 refine hK _ _ (hS0.out _ U7.out) fun hH7 => ?_
 clear hK
 simp only [Act.put, pqA, pqB, pqC]
 refine wpAnyH_ready (rs := [16]) (by kernel_rfl) (by simp) ?_
 refine AllReadyH.cons (o := ⟨some 21, Op.call { callee := Callee.value (Operand.func 51), args := #[Operand.tmp 20], argTypes := #[31] }, 37, _, _, some (12, true)⟩) rfl (fun K hK => ?_) AllReadyH.nil
 rw [if_pos (by rfl)]
 have hcon := rmissing_any x R w7 (RD.out.below U7.out) RI_.out
 refine wp_callF 51 _ _ rfl Try.in51 #[ptr x] (by simp [Act.eval]) (fun u wx => Fresh w7 wx u LM) (hcon.mono fun e w' ⟨v', L', h1, h2, h3, h4, _⟩ => ⟨_, h1, by rw [← rising_unique L' LM h3 PM1.out fun z => by rw [h4, SM.out.mis, MM1.out]]; exact h2⟩) ?_
 clear hcon
 rintro u8 w8 hf
 have F8 := Keep.mk hf
 have U8 := Keep.mk (belowT U7.out hf.bel)
 have U78 : Keep (Below w7.heap.size w7 w8) := ⟨hf.bel⟩
 clear hf
 have E8 : Keep (LM = LM) := ⟨rfl⟩
 refine hK _ _ (hS0.out _ U8.out) fun hH8 => ?_
 clear hK
 simp only [Act.put, pqA, pqB, pqC]
 refine wpAnyH_ready (rs := [17]) (by kernel_rfl) (by simp) ?_
 refine AllReadyH.cons (o := ⟨some 22, Op.call { callee := Callee.value (Operand.func 19), args := #[Operand.tmp 19, Operand.tmp 21], argTypes := #[37, 37] }, 4, _, _, some (12, true)⟩) rfl (fun K hK => ?_) AllReadyH.nil
 rw [if_pos (by rfl)]
 have hcon := smH_any u7 u8 _ _ w8 (F7.out.own.row.below (U78.out)) F8.out.own.row (by have := LB7.out; omega)
 refine wp_callF 19 _ _ rfl Try.in19 #[u7, u8] (by simp [Act.eval]) (fun u wx => u = .bool true ∧ Below w8.heap.size w8 wx) (hcon.mono fun e w' ⟨h1, h2⟩ => ⟨_, h1, by rw [decide_eq_true E8.out], h2⟩) ?_
 clear hcon
 rintro u9 w9 ⟨rfl, hb⟩
 have U9 := Keep.mk (belowT U8.out hb)
 clear hb
 refine hK _ _ (hS0.out _ U9.out) fun hH9 => ?_
 clear hK
 simp only [Act.put, pqA, pqB, pqC]
 refine tkS (i := 18) (oi := ⟨some 23, Op.pick (Operand.tmp 17) (Operand.tmp 22) (Operand.const (Value.bool false)), 4, _, _, none⟩) (v := .bool true) rfl (Or.inl ⟨by rfl, fun w hS => by clear hS; go_simp⟩) hH9 ?_
 refine tkS (i := 19) (oi := ⟨some 24, Op.move (Operand.tmp 23), 4, _, _, none⟩) (v := .bool true) rfl (Or.inl ⟨by rfl, fun w hS => by clear hS; go_simp⟩) hH9 ?_
 refine tkS (i := 20) (oi := ⟨some 25, Op.move (Operand.tmp 0), 27, _, _, some (19, true)⟩) (v := .pointer (some ⟨d, 0, none⟩)) rfl (Or.inl ⟨by rfl, fun w hS => by clear hS; go_simp⟩) hH9 ?_
 refine tkS (i := 22) (oi := ⟨some 27, Op.move (Operand.tmp 1), 31, _, _, some (19, true)⟩) (v := .pointer (some ⟨x, 0, none⟩)) rfl (Or.inl ⟨by rfl, fun w hS => by clear hS; go_simp⟩) hH9 ?_
 refine wpAnyH_ready (rs := [21]) (by kernel_rfl) (by simp) ?_
 refine AllReadyH.cons (o := ⟨some 26, Op.call { callee := Callee.value (Operand.func 52), args := #[Operand.tmp 25], argTypes := #[27] }, 37, _, _, some (19, true)⟩) rfl (fun K hK => ?_) AllReadyH.nil
 rw [if_pos (by rfl)]
 have hcon := waiting_any d _ g w9 (DG.out.below U9.out) (by have := HI.out.qlen; have := HI.out.wl; omega)
 refine wp_callF 52 _ _ rfl Try.in52 #[ptr d] (by simp [Act.eval]) (fun u wx => Fresh w9 wx u g.queue) (hcon.mono fun e w' ⟨v', h1, h2⟩ => ⟨_, h1, h2⟩) ?_
 clear hcon
 rintro u10 w10 hf
 have F10 := Keep.mk hf
 have U10 := Keep.mk (belowT U9.out hf.bel)
 clear hf
 have LB10 : Keep ((g.queue.length : Int) ≤ 9223372036854775807) := ⟨by have := HI.out.qlen; have := HI.out.wl; omega⟩
 refine hK _ _ (hS0.out _ U10.out) fun hH10 => ?_
 clear hK
 simp only [Act.put, pqA, pqB, pqC]
 refine wpAnyH_ready (rs := [23]) (by kernel_rfl) (by simp) ?_
 refine AllReadyH.cons (o := ⟨some 28, Op.call { callee := Callee.value (Operand.func 53), args := #[Operand.tmp 27], argTypes := #[31] }, 37, _, _, some (19, true)⟩) rfl (fun K hK => ?_) AllReadyH.nil
 rw [if_pos (by rfl)]
 have hcon := rwaiting_any x R w10 (RD.out.below U10.out) RI_.out
 refine wp_callF 53 _ _ rfl Try.in53 #[ptr x] (by simp [Act.eval]) (fun u wx => Fresh w10 wx u g.queue) (hcon.mono fun e w' ⟨v', h1, h2⟩ => ⟨_, h1, by rw [← SM.out.wq HI.out]; exact h2⟩) ?_
 clear hcon
 rintro u11 w11 hf
 have F11 := Keep.mk hf
 have U11 := Keep.mk (belowT U10.out hf.bel)
 have U1011 : Keep (Below w10.heap.size w10 w11) := ⟨hf.bel⟩
 clear hf
 have E11 : Keep (g.queue = g.queue) := ⟨rfl⟩
 refine hK _ _ (hS0.out _ U11.out) fun hH11 => ?_
 clear hK
 simp only [Act.put, pqA, pqB, pqC]
 refine wpAnyH_ready (rs := [24]) (by kernel_rfl) (by simp) ?_
 refine AllReadyH.cons (o := ⟨some 29, Op.call { callee := Callee.value (Operand.func 19), args := #[Operand.tmp 26, Operand.tmp 28], argTypes := #[37, 37] }, 4, _, _, some (19, true)⟩) rfl (fun K hK => ?_) AllReadyH.nil
 rw [if_pos (by rfl)]
 have hcon := smH_any u10 u11 _ _ w11 (F10.out.own.row.below (U1011.out)) F11.out.own.row (by have := LB10.out; omega)
 refine wp_callF 19 _ _ rfl Try.in19 #[u10, u11] (by simp [Act.eval]) (fun u wx => u = .bool true ∧ Below w11.heap.size w11 wx) (hcon.mono fun e w' ⟨h1, h2⟩ => ⟨_, h1, by rw [decide_eq_true E11.out], h2⟩) ?_
 clear hcon
 rintro u12 w12 ⟨rfl, hb⟩
 have U12 := Keep.mk (belowT U11.out hb)
 clear hb
 refine hK _ _ (hS0.out _ U12.out) fun hH12 => ?_
 clear hK
 simp only [Act.put, pqA, pqB, pqC]
 refine tkS (i := 25) (oi := ⟨some 30, Op.pick (Operand.tmp 24) (Operand.tmp 29) (Operand.const (Value.bool false)), 4, _, _, none⟩) (v := .bool true) rfl (Or.inl ⟨by rfl, fun w hS => by clear hS; go_simp⟩) hH12 ?_
 refine tkS (i := 26) (oi := ⟨some 31, Op.move (Operand.tmp 30), 4, _, _, none⟩) (v := .bool true) rfl (Or.inl ⟨by rfl, fun w hS => by clear hS; go_simp⟩) hH12 ?_
 refine tkS (i := 27) (oi := ⟨some 32, Op.move (Operand.tmp 0), 27, _, _, some (26, true)⟩) (v := .pointer (some ⟨d, 0, none⟩)) rfl (Or.inl ⟨by rfl, fun w hS => by clear hS; go_simp⟩) hH12 ?_
 refine tkS (i := 29) (oi := ⟨some 34, Op.move (Operand.tmp 1), 31, _, _, some (26, true)⟩) (v := .pointer (some ⟨x, 0, none⟩)) rfl (Or.inl ⟨by rfl, fun w hS => by clear hS; go_simp⟩) hH12 ?_
 refine tkS (i := 30) (oi := ⟨some 35, Op.nilCheck (Operand.tmp 34), 0, _, _, some (26, true)⟩) (v := .pointer (some ⟨x, 0, none⟩)) rfl (Or.inl ⟨by rfl, fun w hS => by clear hS; go_simp⟩) hH12 ?_
 refine tkS (i := 31) (oi := ⟨some 36, Op.fieldAddr 79 (Operand.tmp 35) 1, 0, _, _, some (26, true)⟩) (v := .pointer (some ⟨x, 1, none⟩)) rfl (Or.inl ⟨by rfl, fun w hS => by clear hS; go_simp⟩) hH12 ?_
 refine tkS (i := 32) (oi := ⟨some 37, Op.load 55 (Operand.tmp 36), 55, _, _, some (26, true)⟩) (v := .slice ha R.held.length hc) rfl (Or.inl ⟨by rfl, fun w hS => by go_simp⟩) hH12 ?_
 refine tkS (i := 33) (oi := ⟨some 38, Op.call { callee := Callee.builtin Builtin.len, args := #[Operand.tmp 37], argTypes := #[55] }, 3, _, _, some (26, true)⟩) (v := .int .i64 (R.held.length : Int)) rfl (Or.inl ⟨by rfl, fun w hS => by clear hS; go_simp⟩) hH12 ?_
 refine wpAnyH_ready (rs := [28]) (by kernel_rfl) (by simp) ?_
 refine AllReadyH.cons (o := ⟨some 33, Op.call { callee := Callee.value (Operand.func 36), args := #[Operand.tmp 32], argTypes := #[27] }, 3, _, _, some (26, true)⟩) rfl (fun K hK => ?_) AllReadyH.nil
 rw [if_pos (by rfl)]
 have hcon := dlen_any d _ g w12 (DG.out.below U12.out)
 refine wp_callF 36 _ _ rfl Try.in36 #[ptr d] (by simp [Act.eval]) (fun u wx => u = .int .i64 (R.held.length : Int) ∧ wx = w12) (hcon.mono fun e w' ⟨h1, h2⟩ => ⟨_, h1, by rw [HLn.out], h2⟩) ?_
 clear hcon
 rintro u13 w13 ⟨rfl, hwe⟩
 have hwe := hwe.symm
 subst hwe
 have U13 := Keep.mk U12.out
 refine hK _ _ (hS0.out _ U13.out) fun hH13 => ?_
 clear hK
 simp only [Act.put, pqA, pqB, pqC]
 refine tkS (i := 34) (oi := ⟨some 39, Op.binOp BinOp.eql 3 (Operand.tmp 33) (Operand.tmp 38) 3, 4, _, _, some (26, true)⟩) (v := .bool true) rfl (Or.inl ⟨by rfl, fun w hS => by clear hS; go_simp⟩) hH13 ?_
 refine tkS (i := 35) (oi := ⟨some 40, Op.pick (Operand.tmp 31) (Operand.tmp 39) (Operand.const (Value.bool false)), 4, _, _, none⟩) (v := .bool true) rfl (Or.inl ⟨by rfl, fun w hS => by clear hS; go_simp⟩) hH13 ?_
 refine tkS (i := 36) (oi := ⟨some 4, Op.assign (Operand.tmp 40), 4, _, _, none⟩) (v := .bool true) rfl (Or.inl ⟨by rfl, fun w hS => by clear hS; go_simp⟩) hH13 ?_
 refine wpAnyH_done (by kernel_rfl) ?_ _
 refine hK2 _ _ ?_
 refine wp_ret ?_
 go_ret
 exact ⟨rfl, U13.out⟩
end Go.Proofs.Ytogmdfhicbmplaa
