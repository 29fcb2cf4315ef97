import Derived.Test.YteijjfeainamdaaGreatDoorA08
import Derived.Test.YteijjfeainamdaaGreatDoorA06
import Derived.Deep.RegionHeld3
import Derived.Deep.MidRow
import Derived.Lib.Small
namespace Go.Proofs.YteijjfeainamdaaGreatDoor
open Go.RowKit
set_option linter.unusedSimpArgs false
set_option linter.unusedVariables false

theorem Tryz.in13 (w : World) (vs : Array Value) : (callFunc 13 vs).run Tryz.prog w = .ok (.enter 13 vs) w := by kernel_rfl
set_option maxRecDepth 8000 in
theorem jsync_ok (g d p i k : Nat) (hk : k < 10000) (vf vp : Value) (cs : List FC) (D : DV) (sz : Int) (w : World) (hT : Tab w) (hJ : Blk w g 92 (jA d vp (k : Int) sz true false)) (hDk : Blk w d 67 #[ptr p]) (hD : DskAt w p vf cs D) (hO : D.out = false) (hF : fnd (nmS k) D.fs 0 = (i, true)) (hC : cs.length ≤ 256) (hA : 0 ≤ D.acts ∧ D.acts ≤ 4611686018427387904) (hFu : -9223372036854775808 < D.fuse ∧ D.fuse ≤ 9223372036854775807 ∧ ¬ D.fuse = 0) :
  Calls Tryz.prog 19 #[ptr g] w fun e w' => e = .returned (.int .i64 0) ∧ ∃ cs', Blk w' g 92 (jA d vp (k : Int) sz false false) ∧ DskAt w' p vf cs' (D.act.sync i) ∧ (Grown w w' fun k => k = g ∨ k = p ∨ vf.ownBlock = some k) ∧ ∀ k, DskS p vf cs' k → DskS p vf cs k := by
 have HK := Keep.mk hk
 have HT := Keep.mk hT
 have HJ := Keep.mk hJ
 have HDk := Keep.mk hDk
 have HD := Keep.mk hD
 have HO := Keep.mk hO
 have HF := Keep.mk hF
 have HC := Keep.mk hC
 have HA := Keep.mk hA
 have HFu := Keep.mk hFu
 clear hT hJ hDk hD hO hF hC hA hFu hk
 go_enter Tryz.func19, Tryz.ntmps19
 have c5 := HJ.out.c 5 (by rfl : (jA d vp (k : Int) sz true false)[5]? = some (.bool false))
 have c4 := HJ.out.c 4 (by rfl : (jA d vp (k : Int) sz true false)[4]? = some (.bool true))
 refine wp_seq_k fun K1 hK1 => rgn ?_
 refine VlS (.int .i64 0) ?_
 refine WL.nil (hK1 _ _ ?_)
 refine wp_seq_k fun K2 hK2 => ?_
 refine wp_seq_k fun K3 hK3 => rgn ?_
 refine VlS (.pointer (some ⟨g, 0, none⟩)) ?_
 refine VlS (.pointer (some ⟨g, 0, none⟩)) ?_
 refine VlS (.pointer (some ⟨g, 5, none⟩)) ?_
 refine VbF ?_
 refine WL.nil (hK3 _ _ ?_)
 refine wp_cond_false rfl ?_
 refine wp_skip ?_
 refine hK2 _ _ ?_
 refine wp_seq_k fun K4 hK4 => ?_
 refine wp_seq_k fun K5 hK5 => rgn ?_
 refine VlS (.pointer (some ⟨g, 0, none⟩)) ?_
 refine VlS (.pointer (some ⟨g, 0, none⟩)) ?_
 refine VlS (.pointer (some ⟨g, 4, none⟩)) ?_
 refine VbT ?_
 refine VbF ?_
 refine WL.nil (hK5 _ _ ?_)
 refine wp_cond_false rfl ?_
 refine wp_skip ?_
 refine hK4 _ _ ?_
 refine wp_seq_k fun K6 hK6 => ?_
 refine wp_seq_k fun K7 hK7 => ?_
 clear c5 c4
 have D4 : Keep (Below w.heap.size w w.drew) := ⟨(Below.refl _ _).drew⟩
 have HS4 : Keep (∀ wx, Below w.heap.size w wx → wx.cell? ⟨g, 0, none⟩ = some (ptr d) ∧ wx.cell? ⟨g, 2, none⟩ = some (.int .i64 (k : Int))) := ⟨fun wx hx => ⟨(HJ.out.below hx HJ.out.lt).c 0 rfl, (HJ.out.below hx HJ.out.lt).c 2 rfl⟩⟩
 refine wp_region_held_drew (S := fun wx => wx.cell? ⟨g, 0, none⟩ = some (ptr d) ∧ wx.cell? ⟨g, 2, none⟩ = some (.int .i64 (k : Int))) (by kernel_rfl) (HS4.out _ D4.out) (fun hHeld => ?_)
 refine TkJ (i := 0) (oi := ⟨some 13, Op.move (Operand.tmp 0), 55, _, _, none⟩) (v := .pointer (some ⟨g, 0, none⟩)) rfl hHeld ?_
 refine TkJ (i := 1) (oi := ⟨some 14, Op.move (Operand.tmp 0), 55, _, _, none⟩) (v := .pointer (some ⟨g, 0, none⟩)) rfl hHeld ?_
 refine TkJ (i := 2) (oi := ⟨some 15, Op.nilCheck (Operand.tmp 14), 0, _, _, none⟩) (v := .pointer (some ⟨g, 0, none⟩)) rfl hHeld ?_
 refine TkJ (i := 3) (oi := ⟨some 16, Op.fieldAddr 92 (Operand.tmp 15) 0, 0, _, _, none⟩) (v := .pointer (some ⟨g, 0, none⟩)) rfl hHeld ?_
 refine TkJ (i := 4) (oi := ⟨some 17, Op.load 29 (Operand.tmp 16), 29, _, _, none⟩) (v := .pointer (some ⟨d, 0, none⟩)) rfl hHeld ?_
 refine TkJ (i := 5) (oi := ⟨some 18, Op.move (Operand.tmp 0), 55, _, _, none⟩) (v := .pointer (some ⟨g, 0, none⟩)) rfl hHeld ?_
 refine TkJ (i := 6) (oi := ⟨some 19, Op.nilCheck (Operand.tmp 18), 0, _, _, none⟩) (v := .pointer (some ⟨g, 0, none⟩)) rfl hHeld ?_
 refine TkJ (i := 7) (oi := ⟨some 20, Op.fieldAddr 92 (Operand.tmp 19) 2, 0, _, _, none⟩) (v := .pointer (some ⟨g, 2, none⟩)) rfl hHeld ?_
 refine TkJ (i := 8) (oi := ⟨some 21, Op.load 3 (Operand.tmp 20), 3, _, _, none⟩) (v := .int .i64 (k : Int)) rfl hHeld ?_
 refine wpAnyH_ready (rs := [9]) (by kernel_rfl) (by simp) ?_
 refine AllReadyH.cons (o := ⟨some 22, Op.call { callee := Callee.value (Operand.func 55), args := #[Operand.tmp 21], argTypes := #[3] }, 9, _, _, none⟩) rfl (fun K hK => ?_) AllReadyH.nil
 rw [if_pos (by rfl)]
 refine wp_callF 55 _ _ rfl Tryz.in55 #[.int .i64 (k : Int)] (by simp [Act.eval]) (fun vz wz => vz = .string (nmS k) ∧ Below w.heap.size w wz) ?_ ?_
 ·refine (name_any k HK.out w.drew (HT.out.below D4.out (Nat.lt_of_le_of_lt (Nat.zero_le _) HJ.out.lt))).mono ?_
  rintro e wz ⟨rfl, h⟩
  exact ⟨_, rfl, rfl, D4.out.trans (h.mono D4.out.size)⟩
 rintro vz w5 ⟨rfl, h5⟩
 have B5 := Keep.mk h5
 clear h5
 obtain ⟨nn, hnn⟩ : ∃ s, Keep (s = nmS k) := ⟨_, ⟨rfl⟩⟩
 rw [← hnn.out]
 refine hK _ _ (HS4.out _ B5.out) fun hH5 => ?_
 clear hK
 simp only [Act.put, pqA, pqB, pqC]
 refine wpAnyH_ready (rs := [10]) (by kernel_rfl) (by simp) ?_
 refine AllReadyH.cons (o := ⟨some 23, Op.call { callee := Callee.value (Operand.func 30), args := #[Operand.tmp 17, Operand.tmp 22], argTypes := #[29, 9] }, 51, _, _, none⟩) rfl (fun K hK => ?_) AllReadyH.nil
 rw [if_pos (by rfl)]
 refine wp_callF 30 _ _ rfl Tryz.in30 #[ptr d, .string nn] (by simp [Act.eval]) (fun vz wz => vz = .int .i64 0 ∧ ∃ cs', DskAt wz p vf cs' (D.act.sync i) ∧ (Grown w5 wz fun k => k = p ∨ vf.ownBlock = some k) ∧ ∀ k, DskS p vf cs' k → DskS p vf cs k) ?_ ?_
 ·refine (sync_is d p i nn vf cs D w5 (HDk.out.below B5.out HDk.out.lt) (HD.out.below B5.out) HO.out (by rw [hnn.out]; exact HF.out) HC.out HA.out HFu.out).mono ?_
  rintro e wz ⟨rfl, cs1, h1, h2, h3⟩
  exact ⟨_, rfl, rfl, cs1, h1, h2, h3⟩
 rintro vz w7 ⟨rfl, cs', h1, h2, h3⟩
 have HD7 := Keep.mk h1
 have N7 := Keep.mk h3
 have HJ7 : Keep (Blk w7 g 92 (jA d vp (k : Int) sz true false)) := ⟨h2.blk (HJ.out.below B5.out HJ.out.lt) (fun e => by rcases e with e | e; subst e; have := HJ.out.typ.one HD.out.blk.typ; revert this; decide; have := HJ.out.typ.one (HD.out.own.typ e); revert this; decide)⟩
 have GW7 : Keep (Grown w w7 fun k => k = p ∨ vf.ownBlock = some k) := ⟨(Grown.below B5.out).trans h2⟩
 clear h1 h2 h3
 refine hK _ _ (⟨HJ7.out.c 0 rfl, HJ7.out.c 2 rfl⟩) fun hH7 => ?_
 clear hK
 simp only [Act.put, pqA, pqB, pqC]
 refine wpAnyH_ready (rs := [11]) (by kernel_rfl) (by simp) ?_
 refine AllReadyH.cons (o := ⟨some 24, Op.call { callee := Callee.value (Operand.func 54), args := #[Operand.tmp 13, Operand.tmp 23], argTypes := #[55, 51] }, 51, _, _, none⟩) rfl (fun K hK => ?_) AllReadyH.nil
 rw [if_pos (by rfl)]
 refine wp_callF 54 _ _ rfl Tryz.in54 #[ptr g, .int .i64 0] (by simp [Act.eval]) (fun vz wz => vz = .int .i64 0 ∧ w7 = wz) ?_ ?_
 ·refine (told_ok g 0 (by omega) w7).mono ?_
  rintro e wz ⟨rfl, h⟩
  exact ⟨_, rfl, rfl, h.symm⟩
 rintro vz wy ⟨rfl, hy⟩
 subst hy
 refine hK _ _ (⟨HJ7.out.c 0 rfl, HJ7.out.c 2 rfl⟩) fun hH8 => ?_
 clear hK
 simp only [Act.put, pqA, pqB, pqC]
 refine TkJ (i := 12) (oi := ⟨some 3, Op.assign (Operand.tmp 24), 51, _, _, none⟩) (v := .int .i64 0) rfl hH8 ?_
 refine wpAnyH_done (by kernel_rfl) ?_ _
 refine hK7 _ _ ?_
 refine wp_seq_k fun K8 hK8 => rgn ?_
 refine VlS (.int .i64 0) ?_
 refine VbF ?_
 refine WL.nil (hK8 _ _ ?_)
 refine wp_cond_false rfl ?_
 refine wp_skip ?_
 refine hK6 _ _ ?_
 refine wp_seq_k fun K9 hK9 => rgn ?_
 have f_o := HJ7.out.frozen 4
 have c4 := HJ7.out.c 4 (by rfl : (jA d vp (k : Int) sz true false)[4]? = some (.bool true))
 refine VlS (.pointer (some ⟨g, 0, none⟩)) ?_
 refine VlS (.pointer (some ⟨g, 0, none⟩)) ?_
 refine VlS (.pointer (some ⟨g, 4, none⟩)) ?_
 refine WL.cell (by kernel_rfl) (w7.setCell ⟨g, 4, none⟩ (.bool false)) (by go_simp) ?_
 clear f_o c4
 have HJ8 := Keep.mk (HJ7.out.set 4 (.bool false))
 have hgs : Grown w7 (w7.setCell ⟨g, 4, none⟩ (.bool false)) fun k => k = g := Grown.setCell w7 g 4 _ fun _ => rfl
 have HD8 := Keep.mk (HD7.out.grown hgs fun j hk e => by subst e; have hj := HJ7.out.typ; rcases hk with h | h | h <;> (have := h.one hj; revert this; decide))
 have GW8 : Keep (Grown w (w7.setCell ⟨g, 4, none⟩ (.bool false)) fun k => k = g ∨ k = p ∨ vf.ownBlock = some k) := ⟨(GW7.out.mono fun k _ h => .inr h).next hgs fun k _ e => .inl e⟩
 clear hgs
 generalize w7.setCell ⟨g, 4, none⟩ (.bool false) = w8 at *
 simp only [Act.put]
 refine WL.nil (hK9 _ _ ?_)
 refine wp_seq_k fun K10 hK10 => rgn ?_
 refine VlS (.int .i64 0) ?_
 refine WL.nil (hK10 _ _ ?_)
 refine wp_ret ?_
 go_ret
 exact ⟨rfl, cs', HJ8.out, HD8.out, GW8.out, N7.out⟩
set_option maxRecDepth 8000 in
theorem jsync_idle (g : Nat) (w : World) (c5 : w.cell? ⟨g, 5, none⟩ = some (.bool false)) (c4 : w.cell? ⟨g, 4, none⟩ = some (.bool false)) : Calls Tryz.prog 19 #[ptr g] w fun e w' => e = .returned (.int .i64 0) ∧ w' = w := by
 go_enter Tryz.func19, Tryz.ntmps19
 refine wp_seq_k fun K1 hK1 => rgn ?_
 refine VlS (.int .i64 0) ?_
 refine WL.nil (hK1 _ _ ?_)
 refine wp_seq_k fun K2 hK2 => ?_
 refine wp_seq_k fun K3 hK3 => rgn ?_
 refine VlS (.pointer (some ⟨g, 0, none⟩)) ?_
 refine VlS (.pointer (some ⟨g, 0, none⟩)) ?_
 refine VlS (.pointer (some ⟨g, 5, none⟩)) ?_
 refine VbF ?_
 refine WL.nil (hK3 _ _ ?_)
 refine wp_cond_false rfl ?_
 refine wp_skip ?_
 refine hK2 _ _ ?_
 refine wp_seq_k fun K4 hK4 => ?_
 refine wp_seq_k fun K5 hK5 => rgn ?_
 refine VlS (.pointer (some ⟨g, 0, none⟩)) ?_
 refine VlS (.pointer (some ⟨g, 0, none⟩)) ?_
 refine VlS (.pointer (some ⟨g, 4, none⟩)) ?_
 refine VbF ?_
 refine VbT ?_
 refine WL.nil (hK5 _ _ ?_)
 refine wp_cond_true rfl ?_
 refine wp_seq_k fun K6 hK6 => rgn ?_
 refine VlS (.int .i64 0) ?_
 refine WL.nil (hK6 _ _ ?_)
 refine wp_ret ?_
 go_ret
 exact ⟨rfl, rfl⟩
theorem yieldsIf_bld {P : Program} {ops : Array Oper} {S : World → Prop} {op : Oper} {a : Act} (hw : Region.wanted op (yielded ops a.tmps) = true) (t : TypeId) (parts : Array (Nat × Operand)) (ho : op.op = .build t parts)
  (vs : Array (Nat × Value)) (hv : (parts.map fun (i, x) => (i, a.eval x)) = vs) (v : Value) (hr : ∀ w : World, (Next.value <$> Instr.build t vs).run P w = .ok (.value v) w) : YieldsIf P ops S op v a :=
 .inl ⟨hw, fun w _ => by unfold execOp; simp only [ho, hv]; exact hr w⟩
theorem run_bldF (s : ByteArray) (a : Option Addr) (n c : Nat) (k : Int) (w : World) : (Next.value <$> Instr.build 49 #[(0, .string s), (1, .slice a n c), (2, .int .i64 k)]).run Tryz.prog w = .ok (.value (.agg (fA ⟨s, .slice a n c, k⟩))) w := by kernel_rfl
theorem snoc_get {α : Type} {l : List α} {x y : α} {j : Nat} (h : (l ++ [x])[j]? = some y) : l[j]? = some y ∨ (j = l.length ∧ x = y) := by
 rcases Nat.lt_or_ge j l.length with hj | hj
 ·rw [List.getElem?_append_left hj] at h; exact .inl h
 ·rw [List.getElem?_append_right hj] at h
  rcases hq : j - l.length with _ | m
  ·rw [hq] at h; simp at h; exact .inr ⟨by omega, h⟩
  ·rw [hq] at h; simp at h
theorem news_more {B : Nat} {ct : List FC} {x : FC} (h : ∀ (j : Nat) (y : FC) (k : Nat), ct[j]? = some y → y.b.ownBlock = some k → B ≤ k) (hx : ∀ k, x.b.ownBlock = some k → B ≤ k) : ∀ (j : Nat) (y : FC) (k : Nat), (ct ++ [x])[j]? = some y → y.b.ownBlock = some k → B ≤ k := fun j y k hj hk => by
 rcases snoc_get hj with hj | ⟨_, rfl⟩
 ·exact h j y k hj hk
 ·exact hx k hk
theorem fcs_lt {w : World} {cs : List FC} {fs : List PF} (h : FcsAt w cs fs) {j : Nat} {y : FC} {k : Nat} (hj : cs[j]? = some y) (hk : y.b.ownBlock = some k) : k < w.heap.size := by
 have hl := (List.getElem?_eq_some_iff.1 hj).1
 rw [h.len] at hl
 exact (h.each j y _ hj (List.getElem?_eq_getElem hl)).2.2.lt k hk
theorem fcs_more {w wf : World} {ct : List FC} {fs : List PF} {t : Nat} {f : PF} {y : FC} {S : Nat → Prop} (h : FcsAt w ct (fs.take t)) (hf : fs[t]? = some f) (hy : FcAt w y f) (hap : ∀ (j : Nat) (z : FC) (k : Nat), ct[j]? = some z → z.b.ownBlock = some k → y.b.ownBlock ≠ some k) (hg : Grown w wf S) (hS : ∀ k, Typ w k 5 → ¬ S k) : FcsAt wf (ct ++ [y]) (fs.take (t + 1)) := by
 have ht := (List.getElem?_eq_some_iff.1 hf).1
 have hl := h.len
 rw [List.length_take, Nat.min_eq_left (by omega)] at hl
 have e : fs.take (t + 1) = fs.take t ++ [f] := by rw [List.take_add_one, hf]; rfl
 rw [e]
 refine ⟨by simp; have := h.len; simp at this; omega, fun i x g hx hgi => ?_, fun i j x z hx hz hne k hk hzk => ?_⟩
 ·refine FcAt.grown ?_ hg hS
  rcases snoc_get hx with hx | ⟨e1, rfl⟩
  ·have hi := (List.getElem?_eq_some_iff.1 hx).1
   rw [List.getElem?_append_left (by simp; omega)] at hgi
   exact h.each i x g hx hgi
  ·rw [List.getElem?_append_right (by simp; omega)] at hgi
   rw [show i - (fs.take t).length = 0 by simp; omega] at hgi
   injection hgi with hgi
   subst hgi
   exact hy
 ·rcases snoc_get hx with hx | ⟨e1, rfl⟩
  ·rcases snoc_get hz with hz | ⟨e2, rfl⟩
   ·exact h.apart i j x z hx hz hne k hk hzk
   ·exact hap i x k hx hk hzk
  ·rcases snoc_get hz with hz | ⟨e2, rfl⟩
   ·exact hap j z k hz hzk hk
   ·omega
theorem wp_appS {Q : Exit → Act → World → Prop} {o : Oper} {a : Act} {w : World} {K : Act → World → Prop} (s x : Operand)
  (ho : o.op = .call { callee := .builtin .append, args := #[s, x], argTypes := #[22, 22] }) (v vs : Value) (l m : List FC) (hm : ∀ x ∈ m, SlF x)
  (hs : a.eval s = v) (hx : a.eval x = vs) (hown : OwnF w v l) (hsrc : SrcF w vs m) (hb : l.length + m.length ≤ 1000000000000)
  (h : ∀ v' w', OwnF w' v' (l ++ m) → (Grown w w' fun k => v.ownBlock = some k) → Moved w v v' → K (a.put o.dst v') w') : o.wp Tryz.prog a w K Q := by
 obtain ⟨v', w', hr, h1, h2, h3⟩ := run_appS w o.type v vs l m hown hm hsrc hb
 unfold Oper.wp execOp
 simp only [ho, resolve, invoke, builtin, Sem.run_bind, Sem.run_pure, Result.andThen_ok, List.map_toArray, List.map_cons, List.map_nil, hs, hx, hr]
 exact h v' w' h1 h2 h3
set_option maxRecDepth 8000 in
set_option maxHeartbeats 2000000 in
theorem files_any (h p : Nat) (vf : Value) (cs : List FC) (D : DV) (w : World) (hH : Blk w h 73 #[ptr p]) (hD : DskAt w p vf cs D) (hL : cs.length ≤ 1000000) (hS : ∀ f ∈ D.fs, f.bs.length ≤ 70368744177664) :
  Calls Tryz.prog 13 #[ptr h] w fun e w' => ∃ v ct, e = .returned v ∧ OwnF w' v ct ∧ FcsAt w' ct D.fs ∧ NewF w.heap.size v ∧ (∀ (j : Nat) (y : FC) (k : Nat), ct[j]? = some y → y.b.ownBlock = some k → w.heap.size ≤ k) ∧ Below w.heap.size w w' := by
 obtain ⟨va, vc, rfl⟩ := hD.own.sl
 have HH := Keep.mk hH
 have HD := Keep.mk hD
 have HL := Keep.mk hL
 have HS := Keep.mk hS
 clear hH hD hL hS
 go_enter Tryz.func13, Tryz.ntmps13
 have c0 := HH.out.c 0 (by rfl : (#[ptr p] : Array Value)[0]? = some (ptr p))
 refine wp_seq_k fun K1 hK1 => rgn ?_
 refine VlS (.slice none 0 0) ?_
 refine WL.nil (hK1 _ _ ?_)
 refine wp_seq_k fun K2 hK2 => rgn ?_
 refine WL.bs (by kernel_rfl) 22 0 _ rfl #[] (by simp) _ _ (bsFE w) ?_
 have HN1 := Keep.mk (ownF_empty w)
 have B1 := Keep.mk (below_new w (.cells #[] 49))
 clear c0
 generalize w.alloc (.cells #[] 49) = w1 at *
 obtain ⟨g1, hg1⟩ : ∃ g, Keep (g = w.heap.size) := ⟨_, ⟨rfl⟩⟩
 rw [← hg1.out] at HN1 ⊢
 have N1 : Keep (NewF w.heap.size (.slice (some ⟨g1, 0, none⟩) 0 0)) := ⟨NewF.at (by rw [hg1.out]; exact Nat.le_refl _)⟩
 have c0 := (HH.out.below B1.out HH.out.lt).c 0 (by rfl : (#[ptr p] : Array Value)[0]? = some (ptr p))
 have p0 := (HD.out.blk.below B1.out HD.out.blk.lt).c 0 (by rfl : (stA (.slice va cs.length vc) D)[0]? = some (.slice va cs.length vc))
 simp only [Act.put, pqA, pqB, pqC]
 refine VlS (.slice (some ⟨g1, 0, none⟩) 0 0) ?_
 refine WL.nil (hK2 _ _ ?_)
 refine wp_seq_k fun K3 hK3 => ?_
 refine wp_seq_k fun K4 hK4 => rgn ?_
 refine VlS (.pointer (some ⟨h, 0, none⟩)) ?_
 refine VlS (.pointer (some ⟨h, 0, none⟩)) ?_
 refine VlS (.pointer (some ⟨h, 0, none⟩)) ?_
 refine VlS (.pointer (some ⟨p, 0, none⟩)) ?_
 refine VlS (.pointer (some ⟨p, 0, none⟩)) ?_
 refine VlS (.pointer (some ⟨p, 0, none⟩)) ?_
 refine VlS (.slice va cs.length vc) ?_
 refine VlS (.int .i64 (cs.length : Int)) ?_
 refine VlS (.int .i64 0) ?_
 refine WL.nil (hK4 _ _ ?_)
 refine wp_block ?_
 refine wp_loop (fun ac wr => ∃ (t : Nat) (f : Nat → Value) (xa : Option Addr) (xl xc : Nat) (ct : List FC), ac = { tmps := #[.pointer (some ⟨h, 0, none⟩), undef, .slice none 0 0, .slice xa xl xc, undef, f 5, .slice (some ⟨g1, 0, none⟩) 0 0, .pointer (some ⟨h, 0, none⟩), .pointer (some ⟨h, 0, none⟩), .pointer (some ⟨h, 0, none⟩), .pointer (some ⟨p, 0, none⟩), .pointer (some ⟨p, 0, none⟩), .pointer (some ⟨p, 0, none⟩), .slice va cs.length vc, .int .i64 (cs.length : Int), .int .i64 (t : Int), f 16, f 17, f 18, f 19, f 20, f 21, f 22, f 23, f 24, f 25, f 26, f 27, f 28, f 29, f 30, f 31, undef], defers := [] } ∧ t ≤ cs.length ∧ OwnF wr (.slice xa xl xc) ct ∧ FcsAt wr ct (D.fs.take t) ∧ (NewF w.heap.size (.slice xa xl xc) ∧ ∀ (j : Nat) (y : FC) (k : Nat), ct[j]? = some y → y.b.ownBlock = some k → w.heap.size ≤ k) ∧ Below w.heap.size w wr) (fun a _ => cs.length - (intOf (a.tmps.getD 15 undef)).toNat) ⟨0, fun i => [.pointer (some ⟨h, 0, none⟩), undef, .slice none 0 0, .slice (some ⟨g1, 0, none⟩) 0 0, undef, undef, .slice (some ⟨g1, 0, none⟩) 0 0, .pointer (some ⟨h, 0, none⟩), .pointer (some ⟨h, 0, none⟩), .pointer (some ⟨h, 0, none⟩), .pointer (some ⟨p, 0, none⟩), .pointer (some ⟨p, 0, none⟩), .pointer (some ⟨p, 0, none⟩), .slice va cs.length vc, .int .i64 (cs.length : Int), .int .i64 0, undef, undef, undef, undef, undef, undef, undef, undef, undef, undef, undef, undef, undef, undef, undef, undef, undef].getD i undef, some ⟨g1, 0, none⟩, 0, 0, [], rfl, Nat.zero_le _, HN1.out, FcsAt.nil _, ⟨N1.out, fun j y k h => by simp at h⟩, B1.out⟩ ?_
 clear c0 p0
 rintro ac wr ⟨t, f, xa, xl, xc, ct, rfl, ht, hO1, hO2, hO3, hO4⟩
 have JO := Keep.mk hO1
 have JF := Keep.mk hO2
 have JN := Keep.mk hO3
 have JB := Keep.mk hO4
 clear hO1 hO2 hO3 hO4
 by_cases hlt : t < cs.length
 ·have hlt' : (t : Int) < (cs.length : Int) := by omega
  have hwt : IntKind.i64.wrap ((t : Int) + 1) = (t : Int) + 1 := by rw [IntKind.wrap_i64]; have := HL.out; omega
  obtain ⟨x, hx⟩ : ∃ x, cs[t]? = some x := ⟨cs[t], List.getElem?_eq_getElem hlt⟩
  obtain ⟨f_, hf_⟩ : ∃ f, D.fs[t]? = some f := ⟨D.fs[t]'(by have := HD.out.fcs.len; omega), List.getElem?_eq_getElem _⟩
  have JD : Keep (DskAt wr p (.slice va cs.length vc) cs D) := ⟨HD.out.below JB.out⟩
  obtain ⟨g, ha, hrg⟩ := JD.out.own.at hx
  subst ha
  have HRg := Keep.mk hrg
  have HXF : Keep (FcAt wr x f_) := ⟨JD.out.fcs.each t x f_ hx hf_⟩
  have HFf := Keep.mk hf_
  obtain ⟨xn, xb, xs⟩ := x
  obtain ⟨xba, xbc, hxb⟩ := row_form HXF.out.2.2.row
  change xb = _ at hxb
  subst hxb
  clear hrg hx hf_
  refine wp_seq_k fun K5 hK5 => rgn ?_
  refine VbT ?_
  refine WL.nil (hK5 _ _ ?_)
  refine wp_seq_k fun K6 hK6 => ?_
  refine wp_cond_true rfl ?_
  refine wp_skip ?_
  refine hK6 _ _ ?_
  refine wp_seq_k fun K7 hK7 => ?_
  refine wp_block ?_
  refine wp_seq_k fun K8 hK8 => rgn ?_
  refine VlS (.pointer (some ⟨g, t * 3, none⟩)) ?_
  refine WL.mid (by kernel_rfl) 49 (.tmp 17) rfl g (t * 3) rfl (fA (⟨xn, .slice xba f_.bs.length xbc, xs⟩ : FC)).toList _ HRg.out Tryz.underlying49 rfl (Tryz.sizeFL (⟨xn, .slice xba f_.bs.length xbc, xs⟩ : FC)) ?_
  rw [fA_back]
  simp only [Act.put, pqA, pqB, pqC]
  refine WL.new (by kernel_rfl) 49 rfl _ Tryz.newF ?_
  have HN := Keep.mk (Blk.new wr 49 (fA zeroF))
  have BN := Keep.mk (below_new wr (.cells (fA zeroF) 49))
  generalize wr.alloc (.cells (fA zeroF) 49) = wa at *
  obtain ⟨g7, hg7⟩ : ∃ g, Keep (g = wr.heap.size) := ⟨_, ⟨rfl⟩⟩
  rw [← hg7.out] at HN ⊢
  simp only [Act.put, pqA, pqB, pqC]
  refine WL.storeR (by kernel_rfl) 49 (.tmp 5) (.tmp 18) rfl g7 (fA (⟨xn, .slice xba f_.bs.length xbc, xs⟩ : FC)) rfl rfl 49 (fA zeroF) HN.out (Tryz.sizeFB _) rfl (SlF.one ⟨_, _, _, rfl⟩) ?_
  have H7 := Keep.mk (HN.out.setRow (fA (⟨xn, .slice xba f_.bs.length xbc, xs⟩ : FC)))
  have B7 := Keep.mk (below_setRow BN.out (b := g7) (by rw [hg7.out]; exact Nat.le_refl _) (fA (⟨xn, .slice xba f_.bs.length xbc, xs⟩ : FC)))
  have L7 : Keep (wr.heap.size ≤ g7) := ⟨by rw [hg7.out]; exact Nat.le_refl _⟩
  generalize wa.setRow g7 (fA (⟨xn, .slice xba f_.bs.length xbc, xs⟩ : FC)) = wb at *
  have HXb : Keep (FcAt wb (⟨xn, .slice xba f_.bs.length xbc, xs⟩ : FC) f_) := ⟨HXF.out.grown (Grown.below (S := fun _ => False) B7.out) fun _ _ h => h⟩
  have JBb : Keep (Below w.heap.size w wb) := ⟨JB.out.trans (B7.out.mono JB.out.size)⟩
  have LO : Keep (∀ k, (Value.slice xa xl xc).ownBlock = some k → k < g7) := ⟨fun k hk => by have := JO.out.lt k hk; have := L7.out; omega⟩
  have JOb := Keep.mk (JO.out.below B7.out)
  have JFb : Keep (FcsAt wb ct (D.fs.take t)) := ⟨JF.out.grown (Grown.below (S := fun _ => False) B7.out) fun _ _ h => h⟩
  clear HN BN hg7 HRg JB B7 HXF JO JF JD
  simp only [Act.put]
  refine WL.nil (hK8 _ _ ?_)
  refine wp_region_held_drew (S := fun wx => Blk wx g7 49 (fA (⟨xn, .slice xba f_.bs.length xbc, xs⟩ : FC))) (by kernel_rfl) (H7.out.drew) (fun hHeld => ?_)
  refine tkS (i := 0) (oi := ⟨some 19, Op.move (Operand.tmp 3), 22, _, _, none⟩) (v := .slice xa xl xc) rfl (Or.inl ⟨by rfl, fun w hS => by have s0 := hS.c 0 (by rfl : (fA (⟨xn, .slice xba f_.bs.length xbc, xs⟩ : FC))[0]? = some (.string xn)); have s1 := hS.c 1 (by rfl : (fA (⟨xn, .slice xba f_.bs.length xbc, xs⟩ : FC))[1]? = some (.slice xba f_.bs.length xbc)); have s2 := hS.c 2 (by rfl : (fA (⟨xn, .slice xba f_.bs.length xbc, xs⟩ : FC))[2]? = some (.int .i64 xs)); go_simp⟩) hHeld ?_
  refine tkS (i := 1) (oi := ⟨some 20, Op.fieldAddr 49 (Operand.tmp 5) 0, 0, _, _, none⟩) (v := .pointer (some ⟨g7, 0, none⟩)) rfl (Or.inl ⟨by rfl, fun w hS => by have s0 := hS.c 0 (by rfl : (fA (⟨xn, .slice xba f_.bs.length xbc, xs⟩ : FC))[0]? = some (.string xn)); have s1 := hS.c 1 (by rfl : (fA (⟨xn, .slice xba f_.bs.length xbc, xs⟩ : FC))[1]? = some (.slice xba f_.bs.length xbc)); have s2 := hS.c 2 (by rfl : (fA (⟨xn, .slice xba f_.bs.length xbc, xs⟩ : FC))[2]? = some (.int .i64 xs)); go_simp⟩) hHeld ?_
  refine tkS (i := 2) (oi := ⟨some 21, Op.load 9 (Operand.tmp 20), 9, _, _, none⟩) (v := .string xn) rfl (Or.inl ⟨by rfl, fun w hS => by have s0 := hS.c 0 (by rfl : (fA (⟨xn, .slice xba f_.bs.length xbc, xs⟩ : FC))[0]? = some (.string xn)); have s1 := hS.c 1 (by rfl : (fA (⟨xn, .slice xba f_.bs.length xbc, xs⟩ : FC))[1]? = some (.slice xba f_.bs.length xbc)); have s2 := hS.c 2 (by rfl : (fA (⟨xn, .slice xba f_.bs.length xbc, xs⟩ : FC))[2]? = some (.int .i64 xs)); go_simp⟩) hHeld ?_
  refine tkS (i := 4) (oi := ⟨some 23, Op.fieldAddr 49 (Operand.tmp 5) 1, 0, _, _, none⟩) (v := .pointer (some ⟨g7, 1, none⟩)) rfl (Or.inl ⟨by rfl, fun w hS => by have s0 := hS.c 0 (by rfl : (fA (⟨xn, .slice xba f_.bs.length xbc, xs⟩ : FC))[0]? = some (.string xn)); have s1 := hS.c 1 (by rfl : (fA (⟨xn, .slice xba f_.bs.length xbc, xs⟩ : FC))[1]? = some (.slice xba f_.bs.length xbc)); have s2 := hS.c 2 (by rfl : (fA (⟨xn, .slice xba f_.bs.length xbc, xs⟩ : FC))[2]? = some (.int .i64 xs)); go_simp⟩) hHeld ?_
  refine tkS (i := 5) (oi := ⟨some 24, Op.load 40 (Operand.tmp 23), 40, _, _, none⟩) (v := .slice xba f_.bs.length xbc) rfl (Or.inl ⟨by rfl, fun w hS => by have s0 := hS.c 0 (by rfl : (fA (⟨xn, .slice xba f_.bs.length xbc, xs⟩ : FC))[0]? = some (.string xn)); have s1 := hS.c 1 (by rfl : (fA (⟨xn, .slice xba f_.bs.length xbc, xs⟩ : FC))[1]? = some (.slice xba f_.bs.length xbc)); have s2 := hS.c 2 (by rfl : (fA (⟨xn, .slice xba f_.bs.length xbc, xs⟩ : FC))[2]? = some (.int .i64 xs)); go_simp⟩) hHeld ?_
  refine tkS (i := 7) (oi := ⟨some 26, Op.fieldAddr 49 (Operand.tmp 5) 2, 0, _, _, none⟩) (v := .pointer (some ⟨g7, 2, none⟩)) rfl (Or.inl ⟨by rfl, fun w hS => by have s0 := hS.c 0 (by rfl : (fA (⟨xn, .slice xba f_.bs.length xbc, xs⟩ : FC))[0]? = some (.string xn)); have s1 := hS.c 1 (by rfl : (fA (⟨xn, .slice xba f_.bs.length xbc, xs⟩ : FC))[1]? = some (.slice xba f_.bs.length xbc)); have s2 := hS.c 2 (by rfl : (fA (⟨xn, .slice xba f_.bs.length xbc, xs⟩ : FC))[2]? = some (.int .i64 xs)); go_simp⟩) hHeld ?_
  refine tkS (i := 8) (oi := ⟨some 27, Op.load 3 (Operand.tmp 26), 3, _, _, none⟩) (v := .int .i64 xs) rfl (Or.inl ⟨by rfl, fun w hS => by have s0 := hS.c 0 (by rfl : (fA (⟨xn, .slice xba f_.bs.length xbc, xs⟩ : FC))[0]? = some (.string xn)); have s1 := hS.c 1 (by rfl : (fA (⟨xn, .slice xba f_.bs.length xbc, xs⟩ : FC))[1]? = some (.slice xba f_.bs.length xbc)); have s2 := hS.c 2 (by rfl : (fA (⟨xn, .slice xba f_.bs.length xbc, xs⟩ : FC))[2]? = some (.int .i64 xs)); go_simp⟩) hHeld ?_
  refine wpAnyH_ready (rs := [3]) (by kernel_rfl) (by simp) ?_
  refine AllReadyH.cons (o := ⟨some 22, Op.buildSlice 40 0 #[], 40, _, _, none⟩) rfl (fun K hK => ?_) AllReadyH.nil
  rw [if_pos (by rfl)]
  refine wp_bs 40 0 _ rfl #[] (by simp) _ _ (bsBE wb.drew) ?_
  have hbx : Below wb.heap.size wb (wb.drew.alloc (.cells #[] 5)) := (Below.refl wb.heap.size wb).drew.trans (below_new wb.drew _)
  have HE : Keep (Own (wb.drew.alloc (.cells #[] 5)) (.slice (some ⟨wb.drew.heap.size, 0, none⟩) 0 0) []) := ⟨own_empty _ _ (Blk.new wb.drew 5 #[])⟩
  have LE : Keep (wb.heap.size ≤ wb.drew.heap.size) := ⟨Nat.le_refl _⟩
  have BC := Keep.mk hbx
  clear hbx
  generalize wb.drew.alloc (.cells #[] 5) = wc at *
  generalize wb.drew.heap.size = ge at *
  refine hK _ _ (H7.out.below BC.out H7.out.lt) fun hH1 => ?_
  clear hK
  simp only [Act.put, pqA, pqB, pqC]
  refine wpAnyH_ready (rs := [6]) (by kernel_rfl) (by simp) ?_
  refine AllReadyH.cons (o := ⟨some 25, Op.call { callee := Callee.builtin Builtin.append, args := #[Operand.tmp 22, Operand.tmp 24], argTypes := #[40, 40] }, 40, _, _, none⟩) rfl (fun K hK => ?_) AllReadyH.nil
  rw [if_pos (by rfl)]
  refine wp_app (.tmp 22) (.tmp 24) rfl (.slice (some ⟨ge, 0, none⟩) 0 0) (.slice xba f_.bs.length xbc) [] f_.bs rfl rfl HE.out (HXb.out.2.2.row.below BC.out) (by have := HS.out f_ (List.mem_of_getElem? HFf.out); simp; omega) fun v9 wd hp => ?_
  have BD : Keep (Below wb.heap.size wb wd) := ⟨BC.out.trans (hp.grown.to_below (B := wb.heap.size) (fun k hk e => by have e : ge = k := Option.some.inj e; have := LE.out; omega) BC.out.size)⟩
  have HV9 : Keep (Own wd v9 f_.bs) := ⟨by have h := hp.1; rw [List.nil_append] at h; exact h⟩
  have N9 : Keep (∀ k, v9.ownBlock = some k → wb.heap.size ≤ k) := ⟨own_new hp BC.out.size fun k hk => by have e : ge = k := Option.some.inj hk; have := LE.out; omega⟩
  clear hp HE
  obtain ⟨a9, n9, k9, e9⟩ := HV9.out.sl
  subst e9
  refine hK _ _ (H7.out.below BD.out H7.out.lt) fun hH2 => ?_
  clear hK
  simp only [Act.put, pqA, pqB, pqC]
  refine tkS (i := 9) (oi := ⟨some 28, Op.build 49 #[(0, Operand.tmp 21), (1, Operand.tmp 25), (2, Operand.tmp 27)], 49, _, _, none⟩) (v := .agg (fA (⟨xn, .slice a9 n9 k9, xs⟩ : FC))) rfl (yieldsIf_bld (by rfl) 49 _ rfl #[(0, .string xn), (1, .slice a9 n9 k9), (2, .int .i64 xs)] (by simp [Act.eval]) (.agg (fA (⟨xn, .slice a9 n9 k9, xs⟩ : FC))) (fun w => run_bldF _ _ _ _ _ w)) hH2 ?_
  refine wpAnyH_ready (rs := [10]) (by kernel_rfl) (by simp) ?_
  refine AllReadyH.cons (o := ⟨some 29, Op.buildSlice 22 1 #[(0, Operand.tmp 28)], 22, _, _, none⟩) rfl (fun K hK => ?_) AllReadyH.nil
  rw [if_pos (by rfl)]
  refine wp_bs 22 1 _ rfl #[(0, .agg (fA (⟨xn, .slice a9 n9 k9, xs⟩ : FC)))] (by simp [Act.eval]) _ _ (bsF xn a9 n9 k9 xs wd) ?_
  have hbx := below_new wd (.cells (fA (⟨xn, .slice a9 n9 k9, xs⟩ : FC)) 49)
  have HB := Keep.mk (Blk.new wd 49 (fA (⟨xn, .slice a9 n9 k9, xs⟩ : FC)))
  have HV10 : Keep (Own (wd.alloc (.cells (fA (⟨xn, .slice a9 n9 k9, xs⟩ : FC)) 49)) (.slice a9 n9 k9) f_.bs) := ⟨HV9.out.grown (Grown.below (S := fun _ => False) hbx) fun _ _ h => h⟩
  have BE : Keep (Below wb.heap.size wb (wd.alloc (.cells (fA (⟨xn, .slice a9 n9 k9, xs⟩ : FC)) 49))) := ⟨BD.out.trans (hbx.mono BD.out.size)⟩
  clear hbx HV9
  generalize wd.alloc (.cells (fA (⟨xn, .slice a9 n9 k9, xs⟩ : FC)) 49) = we at *
  obtain ⟨gz, hgz⟩ : ∃ q, Keep (q = wd.heap.size) := ⟨_, ⟨rfl⟩⟩
  rw [← hgz.out] at HB ⊢
  refine hK _ _ (H7.out.below BE.out H7.out.lt) fun hH3 => ?_
  clear hK
  simp only [Act.put, pqA, pqB, pqC]
  refine wpAnyH_ready (rs := [11]) (by kernel_rfl) (by simp) ?_
  refine AllReadyH.cons (o := ⟨some 30, Op.call { callee := Callee.builtin Builtin.append, args := #[Operand.tmp 19, Operand.tmp 29], argTypes := #[22, 22] }, 22, _, _, none⟩) rfl (fun K hK => ?_) AllReadyH.nil
  rw [if_pos (by rfl)]
  refine wp_appS (.tmp 19) (.tmp 29) rfl (.slice xa xl xc) (.slice (some ⟨gz, 0, none⟩) 1 1) ct [(⟨xn, .slice a9 n9 k9, xs⟩ : FC)] (fun x hx => by simp at hx; subst hx; exact ⟨_, _, _, rfl⟩) rfl rfl (JOb.out.below BE.out) (srcF_one HB.out) (by have := HL.out; have h := JFb.out.len; simp at h; simp; omega) fun v11 wf ho hg hm => ?_
  have HO11 := Keep.mk ho
  have N11 : Keep (NewF w.heap.size v11) := ⟨NewF.moved JN.out.1 (Nat.le_trans JBb.out.size BE.out.size) hm⟩
  have HF11 : Keep (FcsAt wf (ct ++ [(⟨xn, .slice a9 n9 k9, xs⟩ : FC)]) (D.fs.take (t + 1))) := ⟨fcs_more (JFb.out.grown (Grown.below (S := fun _ => False) BE.out) fun _ _ h => h) HFf.out ⟨HXb.out.1, HXb.out.2.1, HV10.out⟩ (fun j y k hj hk e => by have h1 := fcs_lt JFb.out hj hk; have h2 := N9.out k e; omega) hg (fun k hk e => by have := ((JOb.out.below BE.out).typ e).one hk; revert this; decide)⟩
  have B11 : Keep (Below w.heap.size w wf) := ⟨(JBb.out.trans (BE.out.mono JBb.out.size)).trans (hg.to_below (B := w.heap.size) (fun k hk e => by have := JN.out.1 k e; omega) (Nat.le_trans JBb.out.size BE.out.size))⟩
  have M11 : Keep (∀ (j : Nat) (y : FC) (k : Nat), (ct ++ [(⟨xn, .slice a9 n9 k9, xs⟩ : FC)])[j]? = some y → y.b.ownBlock = some k → w.heap.size ≤ k) := ⟨news_more JN.out.2 fun k hk => by have := N9.out k hk; have := JBb.out.size; omega⟩
  have HG : Keep (Blk wf g7 49 (fA (⟨xn, .slice xba f_.bs.length xbc, xs⟩ : FC))) := ⟨hg.blk (H7.out.below BE.out H7.out.lt) fun e => by have := LO.out g7 e; omega⟩
  clear ho hg hm
  obtain ⟨a11, k11, e11⟩ := HO11.out.sl
  subst e11
  obtain ⟨n11, hn11⟩ : ∃ q, Keep (q = (ct ++ [(⟨xn, .slice a9 n9 k9, xs⟩ : FC)]).length) := ⟨_, ⟨rfl⟩⟩
  rw [← hn11.out] at HO11 N11 ⊢
  refine hK _ _ HG.out fun hH4 => ?_
  clear hK
  simp only [Act.put, pqA, pqB, pqC]
  refine tkS (i := 12) (oi := ⟨some 3, Op.assign (Operand.tmp 30), 22, _, _, none⟩) (v := .slice a11 n11 k11) rfl (Or.inl ⟨by rfl, fun w hS => by have s0 := hS.c 0 (by rfl : (fA (⟨xn, .slice xba f_.bs.length xbc, xs⟩ : FC))[0]? = some (.string xn)); have s1 := hS.c 1 (by rfl : (fA (⟨xn, .slice xba f_.bs.length xbc, xs⟩ : FC))[1]? = some (.slice xba f_.bs.length xbc)); have s2 := hS.c 2 (by rfl : (fA (⟨xn, .slice xba f_.bs.length xbc, xs⟩ : FC))[2]? = some (.int .i64 xs)); go_simp⟩) hH4 ?_
  refine wpAnyH_done (by kernel_rfl) ?_ _
  refine hK7 _ _ ?_
  refine rgn ?_
  refine VlS (.int .i64 ((t : Int) + 1)) ?_
  refine VlS (.int .i64 ((t : Int) + 1)) ?_
  refine WL.nil ?_
  refine ⟨⟨t + 1, fun i => [.pointer (some ⟨h, 0, none⟩), undef, .slice none 0 0, .slice a11 n11 k11, undef, .pointer (some ⟨g7, 0, none⟩), .slice (some ⟨g1, 0, none⟩) 0 0, .pointer (some ⟨h, 0, none⟩), .pointer (some ⟨h, 0, none⟩), .pointer (some ⟨h, 0, none⟩), .pointer (some ⟨p, 0, none⟩), .pointer (some ⟨p, 0, none⟩), .pointer (some ⟨p, 0, none⟩), .slice (some ⟨g, 0, none⟩) cs.length vc, .int .i64 (cs.length : Int), .int .i64 ((t : Int) + 1), .bool true, .pointer (some ⟨g, t * 3, none⟩), .agg (fA (⟨xn, .slice xba f_.bs.length xbc, xs⟩ : FC)), .slice xa xl xc, .pointer (some ⟨g7, 0, none⟩), .string xn, .slice (some ⟨ge, 0, none⟩) 0 0, .pointer (some ⟨g7, 1, none⟩), .slice xba f_.bs.length xbc, .slice a9 n9 k9, .pointer (some ⟨g7, 2, none⟩), .int .i64 xs, .agg (fA (⟨xn, .slice a9 n9 k9, xs⟩ : FC)), .slice (some ⟨gz, 0, none⟩) 1 1, .slice a11 n11 k11, .int .i64 ((t : Int) + 1), undef].getD i undef, a11, n11, k11, ct ++ [⟨xn, .slice a9 n9 k9, xs⟩], rfl, by omega, HO11.out, HF11.out, ⟨N11.out, M11.out⟩, B11.out⟩, ?_⟩
  simp only [intOf]; show cs.length - ((t : Int) + 1).toNat < cs.length - ((t : Int)).toNat; omega
 ·have hlt' : ¬ (t : Int) < (cs.length : Int) := by omega
  have hte : Keep (t = cs.length) := ⟨by omega⟩
  refine wp_seq_k fun K9 hK9 => rgn ?_
  refine VbF ?_
  refine WL.nil (hK9 _ _ ?_)
  refine wp_seq_k fun K10 hK10 => ?_
  refine wp_cond_false rfl ?_
  refine wp_exit ?_
  refine hK3 _ _ ?_
  refine wp_seq_k fun K11 hK11 => rgn ?_
  refine VlS (.slice xa xl xc) ?_
  refine VlS (.slice xa xl xc) ?_
  refine WL.nil (hK11 _ _ ?_)
  refine wp_ret ?_
  go_ret
  refine ⟨_, ct, rfl, JO.out, ?_, JN.out.1, JN.out.2, JB.out⟩
  have h := JF.out
  rw [List.take_of_length_le (by have := HD.out.fcs.len; have := hte.out; omega)] at h
  exact h
theorem Tryz.in7 (w : World) (vs : Array Value) : (callFunc 7 vs).run Tryz.prog w = .ok (.enter 7 vs) w := by kernel_rfl
set_option maxRecDepth 8000 in
set_option maxHeartbeats 4000000 in
theorem dlay_any (r : Int) (v : Value) (ks : List PF) (w : World) (hX : FilesAt w v ks) (hL : ks.length ≤ 1000000000000) (hU : usd ks ≤ 1000000000000) :
  Calls Tryz.prog 7 #[.int .i64 r, v] w fun e w' => ∃ ps pd ph vf cs, e = .returned (.tuple #[ptr pd, ptr ph]) ∧ DskAt w' ps vf cs (layD r ks) ∧ Blk w' pd 67 #[ptr ps] ∧ Blk w' ph 73 #[ptr ps] ∧ (w.heap.size ≤ ps ∧ w.heap.size ≤ pd ∧ w.heap.size ≤ ph) ∧ (∀ k, DskS ps vf cs k → w.heap.size ≤ k) ∧ Below w.heap.size w w' := by
 obtain ⟨ka, kc, rfl⟩ := hX.form
 have HX := Keep.mk hX
 have HL := Keep.mk hL
 have HU := Keep.mk hU
 clear hX hL hU
 go_enter Tryz.func7, Tryz.ntmps7
 refine wp_seq_k fun K1 hK1 => rgn ?_
 refine VlS (.pointer none) ?_
 refine VlS (.pointer none) ?_
 refine WL.nil (hK1 _ _ ?_)
 refine wp_seq_k fun K2 hK2 => rgn ?_
 refine VlS (.int .i64 r) ?_
 refine WL.callF (by kernel_rfl) 14 _ _ rfl Tryz.in14 #[.int .i64 r] (by simp [Act.eval]) ?_
 refine (dnew_any r w).mono ?_
 rintro e w1 ⟨ps, pd, ph, rfl, h1, h2, h3, h4, h5, h6, h7⟩
 refine ⟨_, rfl, ?_⟩
 have D1 := Keep.mk h1
 have P1 := Keep.mk h2
 have Q1 := Keep.mk h3
 have L1 : Keep (w.heap.size ≤ ps ∧ w.heap.size ≤ pd ∧ w.heap.size ≤ ph) := ⟨h4, h5, h6⟩
 have B1 := Keep.mk h7
 clear h1 h2 h3 h4 h5 h6 h7
 have c0 := P1.out.c 0 (by rfl : (#[ptr ps] : Array Value)[0]? = some (ptr ps))
 simp only [Act.put, pqA, pqB, pqC]
 refine VlS (.tuple #[.pointer (some ⟨pd, 0, none⟩), .pointer (some ⟨ph, 0, none⟩)]) ?_
 refine VlS (.pointer (some ⟨pd, 0, none⟩)) ?_
 refine VlS (.pointer (some ⟨ph, 0, none⟩)) ?_
 refine VlS (.pointer (some ⟨pd, 0, none⟩)) ?_
 refine VlS (.pointer (some ⟨ph, 0, none⟩)) ?_
 refine WL.nil (hK2 _ _ ?_)
 refine wp_seq_k fun K3 hK3 => rgn ?_
 refine VlS (.pointer (some ⟨pd, 0, none⟩)) ?_
 refine VlS (.pointer (some ⟨pd, 0, none⟩)) ?_
 refine VlS (.pointer (some ⟨pd, 0, none⟩)) ?_
 refine VlS (.pointer (some ⟨ps, 0, none⟩)) ?_
 refine VlS (.pointer (some ⟨ps, 0, none⟩)) ?_
 refine WL.nil (hK3 _ _ ?_)
 refine wp_seq_k fun K4 hK4 => ?_
 refine wp_seq_k fun K5 hK5 => rgn ?_
 refine VlS (.slice ka ks.length kc) ?_
 refine VlS (.int .i64 (ks.length : Int)) ?_
 refine VlS (.int .i64 0) ?_
 refine WL.nil (hK5 _ _ ?_)
 refine wp_block ?_
 have S0 : ∀ k, DskS ps (.slice none 0 0) [] k → w.heap.size ≤ k := fun k h => by
  rcases h with h | h | ⟨_, _, h, _⟩
  ·rw [h]; exact L1.out.1
  ·simp [Value.ownBlock] at h
  ·simp at h
 refine wp_loop (fun ac wr => ∃ (t : Nat) (vf : Value) (cs : List FC) (Dt : DV), ac = apF (fun fz => { tmps := #[.int .i64 r, .slice ka ks.length kc, undef, undef, .pointer none, .pointer none, .pointer (some ⟨pd, 0, none⟩), .pointer (some ⟨ph, 0, none⟩), .pointer (some ⟨ps, 0, none⟩), undef, fz 10, fz 11, fz 12, fz 13, .tuple #[.pointer (some ⟨pd, 0, none⟩), .pointer (some ⟨ph, 0, none⟩)], .int .i64 r, .tuple #[.pointer (some ⟨pd, 0, none⟩), .pointer (some ⟨ph, 0, none⟩)], .pointer (some ⟨pd, 0, none⟩), .pointer (some ⟨ph, 0, none⟩), .pointer (some ⟨pd, 0, none⟩), .pointer (some ⟨pd, 0, none⟩), .pointer (some ⟨pd, 0, none⟩), .pointer (some ⟨ps, 0, none⟩), .slice ka ks.length kc, .int .i64 (ks.length : Int), .int .i64 (t : Int), fz 26, fz 27, fz 28, fz 29, fz 30, fz 31, fz 32, fz 33, fz 34, fz 35, fz 36, fz 37, fz 38, fz 39, fz 40, fz 41, fz 42, fz 43, fz 44, fz 45, fz 46, fz 47, fz 48, fz 49, fz 50, fz 51, fz 52, fz 53, fz 54, fz 55, fz 56, fz 57, fz 58, fz 59, fz 60, fz 61, fz 62, fz 63, fz 64, fz 65, fz 66, fz 67, fz 68, fz 69, fz 70, fz 71, fz 72, fz 73, fz 74, fz 75, fz 76, fz 77, fz 78, fz 79, fz 80, fz 81, fz 82, fz 83, fz 84, fz 85, fz 86, fz 87, fz 88, fz 89, fz 90, fz 91, fz 92, fz 93, fz 94, fz 95, fz 96, fz 97, undef, undef, undef, undef, undef, undef, undef, undef, undef, undef, undef, undef, undef, undef], defers := [] }) ac ∧ t ≤ ks.length ∧ Dt = ⟨layT (ks.take t), max 0 r, usd (layT (ks.take t)), -1, false, 0⟩ ∧ DskAt wr ps vf cs Dt ∧ (∀ k, DskS ps vf cs k → w.heap.size ≤ k) ∧ Blk wr pd 67 #[ptr ps] ∧ Blk wr ph 73 #[ptr ps] ∧ Below w.heap.size w wr) (fun a _ => ks.length - (intOf (a.tmps.getD 25 undef)).toNat) ⟨0, .slice none 0 0, [], _, rfl, Nat.zero_le _, rfl, D1.out, S0, P1.out, Q1.out, B1.out⟩ ?_
 clear S0 D1 P1 Q1 B1 c0
 rintro ac wr ⟨t, vf, cs, Dt, hac, ht, hJ1, hJ2, hJ3, hJ4, hJ5, hJ6⟩
 obtain ⟨fz, rfl⟩ := unF hac
 obtain ⟨va, vc, rfl⟩ := hJ2.own.sl
 have JE := Keep.mk hJ1
 have JD := Keep.mk hJ2
 have JS := Keep.mk hJ3
 have JP := Keep.mk hJ4
 have JQ := Keep.mk hJ5
 have JB := Keep.mk hJ6
 clear hJ1 hJ2 hJ3 hJ4 hJ5 hJ6
 by_cases hlt : t < ks.length
 ·have hlt' : (t : Int) < (ks.length : Int) := by omega
  have hwt : IntKind.i64.wrap ((t : Int) + 1) = (t : Int) + 1 := by rw [IntKind.wrap_i64]; have := HL.out; omega
  obtain ⟨x, hx⟩ : ∃ x, ks[t]? = some x := ⟨ks[t], List.getElem?_eq_getElem hlt⟩
  obtain ⟨q, ko, y, hq, hrg, hy1, hy2, hy3⟩ := (HX.out.below (JB.out.mono (Nat.le_refl _))).at hx
  subst hq
  obtain ⟨xn, xb, xs⟩ := y
  obtain ⟨xa, xc, hxb⟩ := row_form hy3
  change xb = _ at hxb
  subst hxb
  have HKx := Keep.mk hx
  have HRg := Keep.mk hrg
  have HXn : Keep (xn = x.nm) := ⟨hy1⟩
  have HXs : Keep (xs = x.sf) := ⟨hy2⟩
  have HXr := Keep.mk hy3
  have LOk : Keep (LayOk Dt.fs) := ⟨by rw [JE.out]; exact layT_ok ks t⟩
  have HUx : Keep ((x.bs.length : Int) ≤ 1000000000000 ∧ 0 ≤ Dt.used ∧ Dt.used + (x.bs.length : Int) ≤ 1000000000000) := ⟨by
   have h1 := usd_mem hx
   have h2 := layT_usd ks t
   have h3 := HU.out
   have h4 := usd_nonneg (layT (ks.take t))
   have h5 := usd_at hx
   have h6 : Dt.used = usd (layT (ks.take t)) := by rw [JE.out]
   omega⟩
  clear hx hrg hy1 hy2 hy3
  refine wp_seq_k fun K6 hK6 => rgn ?_
  refine VbT ?_
  refine WL.nil (hK6 _ _ ?_)
  refine wp_seq_k fun K7 hK7 => ?_
  refine wp_cond_true rfl ?_
  refine wp_skip ?_
  refine hK7 _ _ ?_
  refine wp_seq_k fun K8 hK8 => ?_
  refine wp_block ?_
  refine wp_seq_k fun K9 hK9 => rgn ?_
  refine VlS (.pointer (some ⟨q, ko + t * 3, none⟩)) ?_
  refine WL.mid (by kernel_rfl) 49 (.tmp 27) rfl q (ko + t * 3) rfl (fA (⟨xn, .slice xa x.bs.length xc, xs⟩ : FC)).toList _ HRg.out Tryz.underlying49 rfl (Tryz.sizeFL (⟨xn, .slice xa x.bs.length xc, xs⟩ : FC)) ?_
  rw [fA_back]
  simp only [Act.put, pqA, pqB, pqC]
  refine WL.new (by kernel_rfl) 49 rfl _ Tryz.newF ?_
  have HN := Keep.mk (Blk.new wr 49 (fA zeroF))
  have BN := Keep.mk (below_new wr (.cells (fA zeroF) 49))
  generalize wr.alloc (.cells (fA zeroF) 49) = wa at *
  obtain ⟨g7, hg7⟩ : ∃ g, Keep (g = wr.heap.size) := ⟨_, ⟨rfl⟩⟩
  rw [← hg7.out] at HN ⊢
  simp only [Act.put, pqA, pqB, pqC]
  refine WL.storeR (by kernel_rfl) 49 (.tmp 10) (.tmp 28) rfl g7 (fA (⟨xn, .slice xa x.bs.length xc, xs⟩ : FC)) rfl rfl 49 (fA zeroF) HN.out (Tryz.sizeFB _) rfl (SlF.one ⟨_, _, _, rfl⟩) ?_
  have H7 := Keep.mk (HN.out.setRow (fA (⟨xn, .slice xa x.bs.length xc, xs⟩ : FC)))
  have B7 := Keep.mk (below_setRow BN.out (b := g7) (by rw [hg7.out]; exact Nat.le_refl _) (fA (⟨xn, .slice xa x.bs.length xc, xs⟩ : FC)))
  have L7 : Keep (wr.heap.size ≤ g7) := ⟨by rw [hg7.out]; exact Nat.le_refl _⟩
  generalize wa.setRow g7 (fA (⟨xn, .slice xa x.bs.length xc, xs⟩ : FC)) = wb at *
  have KD := Keep.mk (JD.out.below B7.out)
  have KP := Keep.mk (JP.out.below B7.out JP.out.lt)
  have KQ := Keep.mk (JQ.out.below B7.out JQ.out.lt)
  have KB : Keep (Below w.heap.size w wb) := ⟨JB.out.trans (B7.out.mono JB.out.size)⟩
  have KR := Keep.mk (HXr.out.below B7.out)
  have L8 : Keep (w.heap.size ≤ g7 ∧ ∀ k, DskS ps (.slice va cs.length vc) cs k → k < g7) := ⟨Nat.le_trans JB.out.size L7.out, fun k hk => by have h := L7.out; rcases JD.out.sTyp hk with h1 | h1 | h1 <;> (have := h1.lt; omega)⟩
  clear HN BN hg7 HRg JB B7 JD JP JQ HXr
  have c7 := H7.out.c 0 (by rfl : (fA (⟨xn, .slice xa x.bs.length xc, xs⟩ : FC))[0]? = some (.string xn))
  simp only [Act.put]
  refine WL.nil (hK9 _ _ ?_)
  refine wp_seq_k fun K10 hK10 => ?_
  rcases hfd : fnd xn Dt.fs 0 with ⟨i, _ | _⟩
  ·refine rgn ?_
   refine VlS (.pointer (some ⟨ps, 0, none⟩)) ?_
   refine VlS (.pointer (some ⟨g7, 0, none⟩)) ?_
   refine VlS (.string xn) ?_
   have hfa := find_any ps xn _ cs Dt wb KD.out (by rw [KD.out.fcs.len]; have := LOk.out.len; omega)
   rw [hfd] at hfa
   refine WL.callF (by kernel_rfl) 25 _ _ rfl Tryz.in25 #[ptr ps, .string xn] (by simp [Act.eval]) ?_
   refine (hfa).mono ?_
   rintro e w2 ⟨rfl, hb2⟩
   refine ⟨_, rfl, ?_⟩
   have E7 := Keep.mk (H7.out.below hb2 H7.out.lt)
   have ED := Keep.mk (KD.out.below hb2)
   have EP := Keep.mk (KP.out.below hb2 KP.out.lt)
   have EQ := Keep.mk (KQ.out.below hb2 KQ.out.lt)
   have EB : Keep (Below w.heap.size w w2) := ⟨KB.out.trans (hb2.mono KB.out.size)⟩
   have ER := Keep.mk (KR.out.below hb2)
   clear hb2 hfa c7 H7 KD KP KQ KB KR
   have HFd := Keep.mk hfd
   clear hfd
   have c7 := E7.out.c 0 (by rfl : (fA (⟨xn, .slice xa x.bs.length xc, xs⟩ : FC))[0]? = some (.string xn))
   have p0 := ED.out.blk.c 0 (by rfl : (stA (.slice va cs.length vc) Dt)[0]? = some (.slice va cs.length vc))
   simp only [Act.put, pqA, pqB, pqC]
   refine VlS (.tuple #[.int .i64 (i : Int), .bool false]) ?_
   refine VlS (.int .i64 (i : Int)) ?_
   refine VbF ?_
   refine VlS (.int .i64 (i : Int)) ?_
   refine VbF ?_
   refine WL.nil (hK10 _ _ ?_)
   refine wp_seq_k fun K11 hK11 => ?_
   refine wp_seq_k fun K12 hK12 => rgn ?_
   refine VbF ?_
   refine VbF ?_
   refine VlS (.pointer (some ⟨g7, 0, none⟩)) ?_
   refine VlS (.string xn) ?_
   clear c7
   refine WL.callF (by kernel_rfl) 26 _ _ rfl Tryz.in26 #[.string xn] (by simp [Act.eval]) ?_
   refine (right_any xn w2).mono ?_
   rintro e w3 ⟨rfl, hw⟩
   refine ⟨_, rfl, ?_⟩
   obtain rfl : w2 = w3 := hw.symm
   clear hw
   have c7 := E7.out.c 0 (by rfl : (fA (⟨xn, .slice xa x.bs.length xc, xs⟩ : FC))[0]? = some (.string xn))
   obtain ⟨rg, hrg⟩ : ∃ z, Keep (z = rgt xn) := ⟨_, ⟨rfl⟩⟩
   rw [← hrg.out]
   simp only [Act.put, pqA, pqB, pqC]
   by_cases h7_5 : rg = true
   ·have HRt : Keep (rgt xn = true) := ⟨by rw [← hrg.out]; exact h7_5⟩
    clear hrg
    refine VbF ?_
    refine VbF ?_
    refine VbF ?_
    refine VlS (.pointer (some ⟨ps, 0, none⟩)) ?_
    refine VlS (.pointer (some ⟨ps, 0, none⟩)) ?_
    refine VlS (.pointer (some ⟨ps, 0, none⟩)) ?_
    refine VlS (.slice va cs.length vc) ?_
    refine VlS (.int .i64 (cs.length : Int)) ?_
    by_cases h7_13 : (256 : Int) ≤ (cs.length : Int)
    ·skip
     refine VbT ?_
     refine VbT ?_
     refine WL.nil (hK12 _ _ ?_)
     refine wp_cond_true rfl ?_
     refine wp_exit ?_
     refine hK8 _ _ ?_
     refine rgn ?_
     refine VlS (.int .i64 ((t : Int) + 1)) ?_
     refine VlS (.int .i64 ((t : Int) + 1)) ?_
     refine WL.nil ?_
     refine ⟨⟨t + 1, .slice va cs.length vc, cs, Dt, rfl, by omega, ?_, ED.out, JS.out, EP.out, EQ.out, EB.out⟩, ?_⟩
     ·have h1 : layStep (layT (ks.take t)) x = layT (ks.take t) := by
       have e : Dt.fs = layT (ks.take t) := by rw [JE.out]
       have h := HFd.out
       rw [HXn.out, e] at h
       unfold layStep
       rw [h, if_pos]
       exact .inr (.inr (by have h3 := ED.out.fcs.len; rw [e] at h3; omega))
      rw [layT_snoc HKx.out, h1]
      exact JE.out
     ·simp only [intOf]; show ks.length - ((t : Int) + 1).toNat < ks.length - ((t : Int)).toNat; omega
    ·skip
     refine VbF ?_
     refine VbF ?_
     refine WL.nil (hK12 _ _ ?_)
     refine wp_cond_false rfl ?_
     refine wp_skip ?_
     refine hK11 _ _ ?_
     refine wp_seq_k fun K13 hK13 => rgn ?_
     refine WL.bs (by kernel_rfl) 22 0 _ rfl #[] (by simp) _ _ (bsFE w2) ?_
     have HN3 := Keep.mk (ownF_empty w2)
     have B3 := Keep.mk (below_new w2 (.cells #[] 49))
     clear p0 c7
     generalize w2.alloc (.cells #[] 49) = w3 at *
     obtain ⟨g3, hg3⟩ : ∃ g, Keep (g = w2.heap.size) := ⟨_, ⟨rfl⟩⟩
     rw [← hg3.out] at HN3 ⊢
     have hB3 : Keep (w2.heap.size ≤ g3) := ⟨by rw [hg3.out]; exact Nat.le_refl _⟩
     have D3 := Keep.mk (ED.out.below B3.out)
     have hil : Keep (i ≤ cs.length) := ⟨by rw [ED.out.fcs.len]; have h := (fnd_le xn Dt.fs 0).2; rw [HFd.out] at h; simp only at h; omega⟩
     have hil' : ¬ (cs.length : Int) < (i : Int) := by have := hil.out; omega
     have p0 := D3.out.blk.c 0 (by rfl : (stA (.slice va cs.length vc) Dt)[0]? = some (.slice va cs.length vc))
     obtain ⟨vs1, hs1, hs2⟩ := slF_hi D3.out.own i hil.out
     have HS1 := Keep.mk (hs1 w3)
     have HS2 := Keep.mk (hs2 w3 D3.out.own)
     clear hs1 hs2
     simp only [Act.put, pqA, pqB, pqC]
     refine VlS (.pointer (some ⟨ps, 0, none⟩)) ?_
     refine VlS (.pointer (some ⟨ps, 0, none⟩)) ?_
     refine VlS (.pointer (some ⟨ps, 0, none⟩)) ?_
     refine VlS (.slice va cs.length vc) ?_
     refine VlS (.int .i64 (i : Int)) ?_
     refine WL.slHi (by kernel_rfl) (.tmp 55) (.tmp 56) rfl (.slice va cs.length vc) (.int .i64 (i : Int)) vs1 rfl rfl HS1.out ?_
     simp only [Act.put, pqA, pqB, pqC]
     refine WL.appS (by kernel_rfl) (.tmp 51) (.tmp 57) rfl (.slice (some ⟨g3, 0, none⟩) 0 0) vs1 [] (cs.take i) (fun x hx => D3.out.fcs.sl x (List.mem_of_mem_take hx)) rfl rfl HN3.out HS2.out (by have := ED.out.fcs.len; have := LOk.out.len; simp; omega) fun v4 w4 ho hg hm => ?_
     have HO4 : Keep (OwnF w4 v4 (cs.take i)) := ⟨by rw [List.nil_append] at ho; exact ho⟩
     have N4 : Keep (NewF w2.heap.size v4) := ⟨NewF.moved (NewF.at hB3.out) B3.out.size hm⟩
     have B4 : Keep (Below w2.heap.size w2 w4) := ⟨newF_below (NewF.at hB3.out) B3.out hg⟩
     have D4 : Keep (DskAt w4 ps (.slice va cs.length vc) cs Dt) := ⟨ED.out.below B4.out⟩
     clear ho hg hm D3 HS1 HS2 p0 HN3 B3 hg3 hB3
     obtain ⟨a4, k4, e4⟩ := HO4.out.sl
     subst e4
     obtain ⟨n4, hn4⟩ : ∃ q, Keep (q = (cs.take i).length) := ⟨_, ⟨rfl⟩⟩
     rw [← hn4.out] at HO4 N4 ⊢
     simp only [Act.put, pqA, pqB, pqC]
     refine VlS (.slice a4 n4 k4) ?_
     refine WL.nil (hK13 _ _ ?_)
     refine wp_seq_k fun K14 hK14 => ?_
     have F7 : Keep (Blk w4.drew g7 49 (fA (⟨xn, .slice xa x.bs.length xc, xs⟩ : FC))) := ⟨(E7.out.below B4.out E7.out.lt).drew⟩
     have FB : Keep (Below w2.heap.size w2 w4.drew) := ⟨B4.out.drew⟩
     have FO : Keep (OwnF w4.drew (.slice a4 n4 k4) (cs.take i)) := ⟨HO4.out⟩
     have FR : Keep (RowAt w4.drew (.slice xa x.bs.length xc) x.bs) := ⟨ER.out.below FB.out⟩
     clear D4 B4 HO4
     refine wp_region_held_drew (S := fun wx => Blk wx g7 49 (fA (⟨xn, .slice xa x.bs.length xc, xs⟩ : FC))) (by kernel_rfl) F7.out (fun hHeld => ?_)
     generalize w4.drew = w5 at *
     have L5 : Keep (g7 < w2.heap.size) := ⟨E7.out.lt⟩
     refine tkS (i := 0) (oi := ⟨some 59, Op.move (Operand.tmp 13), 22, _, _, none⟩) (v := .slice a4 n4 k4) rfl (Or.inl ⟨by rfl, fun w hS => by have s0 := hS.c 0 (by rfl : (fA (⟨xn, .slice xa x.bs.length xc, xs⟩ : FC))[0]? = some (.string xn)); have s1 := hS.c 1 (by rfl : (fA (⟨xn, .slice xa x.bs.length xc, xs⟩ : FC))[1]? = some (.slice xa x.bs.length xc)); have s2 := hS.c 2 (by rfl : (fA (⟨xn, .slice xa x.bs.length xc, xs⟩ : FC))[2]? = some (.int .i64 xs)); go_simp⟩) hHeld ?_
     refine tkS (i := 1) (oi := ⟨some 60, Op.fieldAddr 49 (Operand.tmp 10) 0, 0, _, _, none⟩) (v := .pointer (some ⟨g7, 0, none⟩)) rfl (Or.inl ⟨by rfl, fun w hS => by have s0 := hS.c 0 (by rfl : (fA (⟨xn, .slice xa x.bs.length xc, xs⟩ : FC))[0]? = some (.string xn)); have s1 := hS.c 1 (by rfl : (fA (⟨xn, .slice xa x.bs.length xc, xs⟩ : FC))[1]? = some (.slice xa x.bs.length xc)); have s2 := hS.c 2 (by rfl : (fA (⟨xn, .slice xa x.bs.length xc, xs⟩ : FC))[2]? = some (.int .i64 xs)); go_simp⟩) hHeld ?_
     refine tkS (i := 2) (oi := ⟨some 61, Op.load 9 (Operand.tmp 60), 9, _, _, none⟩) (v := .string xn) rfl (Or.inl ⟨by rfl, fun w hS => by have s0 := hS.c 0 (by rfl : (fA (⟨xn, .slice xa x.bs.length xc, xs⟩ : FC))[0]? = some (.string xn)); have s1 := hS.c 1 (by rfl : (fA (⟨xn, .slice xa x.bs.length xc, xs⟩ : FC))[1]? = some (.slice xa x.bs.length xc)); have s2 := hS.c 2 (by rfl : (fA (⟨xn, .slice xa x.bs.length xc, xs⟩ : FC))[2]? = some (.int .i64 xs)); go_simp⟩) hHeld ?_
     refine tkS (i := 4) (oi := ⟨some 63, Op.fieldAddr 49 (Operand.tmp 10) 1, 0, _, _, none⟩) (v := .pointer (some ⟨g7, 1, none⟩)) rfl (Or.inl ⟨by rfl, fun w hS => by have s0 := hS.c 0 (by rfl : (fA (⟨xn, .slice xa x.bs.length xc, xs⟩ : FC))[0]? = some (.string xn)); have s1 := hS.c 1 (by rfl : (fA (⟨xn, .slice xa x.bs.length xc, xs⟩ : FC))[1]? = some (.slice xa x.bs.length xc)); have s2 := hS.c 2 (by rfl : (fA (⟨xn, .slice xa x.bs.length xc, xs⟩ : FC))[2]? = some (.int .i64 xs)); go_simp⟩) hHeld ?_
     refine tkS (i := 5) (oi := ⟨some 64, Op.load 40 (Operand.tmp 63), 40, _, _, none⟩) (v := .slice xa x.bs.length xc) rfl (Or.inl ⟨by rfl, fun w hS => by have s0 := hS.c 0 (by rfl : (fA (⟨xn, .slice xa x.bs.length xc, xs⟩ : FC))[0]? = some (.string xn)); have s1 := hS.c 1 (by rfl : (fA (⟨xn, .slice xa x.bs.length xc, xs⟩ : FC))[1]? = some (.slice xa x.bs.length xc)); have s2 := hS.c 2 (by rfl : (fA (⟨xn, .slice xa x.bs.length xc, xs⟩ : FC))[2]? = some (.int .i64 xs)); go_simp⟩) hHeld ?_
     refine tkS (i := 7) (oi := ⟨some 66, Op.fieldAddr 49 (Operand.tmp 10) 2, 0, _, _, none⟩) (v := .pointer (some ⟨g7, 2, none⟩)) rfl (Or.inl ⟨by rfl, fun w hS => by have s0 := hS.c 0 (by rfl : (fA (⟨xn, .slice xa x.bs.length xc, xs⟩ : FC))[0]? = some (.string xn)); have s1 := hS.c 1 (by rfl : (fA (⟨xn, .slice xa x.bs.length xc, xs⟩ : FC))[1]? = some (.slice xa x.bs.length xc)); have s2 := hS.c 2 (by rfl : (fA (⟨xn, .slice xa x.bs.length xc, xs⟩ : FC))[2]? = some (.int .i64 xs)); go_simp⟩) hHeld ?_
     refine tkS (i := 8) (oi := ⟨some 67, Op.load 3 (Operand.tmp 66), 3, _, _, none⟩) (v := .int .i64 xs) rfl (Or.inl ⟨by rfl, fun w hS => by have s0 := hS.c 0 (by rfl : (fA (⟨xn, .slice xa x.bs.length xc, xs⟩ : FC))[0]? = some (.string xn)); have s1 := hS.c 1 (by rfl : (fA (⟨xn, .slice xa x.bs.length xc, xs⟩ : FC))[1]? = some (.slice xa x.bs.length xc)); have s2 := hS.c 2 (by rfl : (fA (⟨xn, .slice xa x.bs.length xc, xs⟩ : FC))[2]? = some (.int .i64 xs)); go_simp⟩) hHeld ?_
     refine tkS (i := 9) (oi := ⟨some 68, Op.call { callee := Callee.builtin Builtin.max, args := #[Operand.const (Value.int IntKind.i64 0), Operand.tmp 67], argTypes := #[3, 3] }, 3, _, _, none⟩) (v := .int .i64 (max 0 xs)) rfl (Or.inl ⟨by rfl, fun w hS => by have s0 := hS.c 0 (by rfl : (fA (⟨xn, .slice xa x.bs.length xc, xs⟩ : FC))[0]? = some (.string xn)); have s1 := hS.c 1 (by rfl : (fA (⟨xn, .slice xa x.bs.length xc, xs⟩ : FC))[1]? = some (.slice xa x.bs.length xc)); have s2 := hS.c 2 (by rfl : (fA (⟨xn, .slice xa x.bs.length xc, xs⟩ : FC))[2]? = some (.int .i64 xs)); go_simp⟩) hHeld ?_
     refine tkS (i := 10) (oi := ⟨some 69, Op.fieldAddr 49 (Operand.tmp 10) 1, 0, _, _, none⟩) (v := .pointer (some ⟨g7, 1, none⟩)) rfl (Or.inl ⟨by rfl, fun w hS => by have s0 := hS.c 0 (by rfl : (fA (⟨xn, .slice xa x.bs.length xc, xs⟩ : FC))[0]? = some (.string xn)); have s1 := hS.c 1 (by rfl : (fA (⟨xn, .slice xa x.bs.length xc, xs⟩ : FC))[1]? = some (.slice xa x.bs.length xc)); have s2 := hS.c 2 (by rfl : (fA (⟨xn, .slice xa x.bs.length xc, xs⟩ : FC))[2]? = some (.int .i64 xs)); go_simp⟩) hHeld ?_
     refine tkS (i := 11) (oi := ⟨some 70, Op.load 40 (Operand.tmp 69), 40, _, _, none⟩) (v := .slice xa x.bs.length xc) rfl (Or.inl ⟨by rfl, fun w hS => by have s0 := hS.c 0 (by rfl : (fA (⟨xn, .slice xa x.bs.length xc, xs⟩ : FC))[0]? = some (.string xn)); have s1 := hS.c 1 (by rfl : (fA (⟨xn, .slice xa x.bs.length xc, xs⟩ : FC))[1]? = some (.slice xa x.bs.length xc)); have s2 := hS.c 2 (by rfl : (fA (⟨xn, .slice xa x.bs.length xc, xs⟩ : FC))[2]? = some (.int .i64 xs)); go_simp⟩) hHeld ?_
     refine tkS (i := 12) (oi := ⟨some 71, Op.call { callee := Callee.builtin Builtin.len, args := #[Operand.tmp 70], argTypes := #[40] }, 3, _, _, none⟩) (v := .int .i64 (x.bs.length : Int)) rfl (Or.inl ⟨by rfl, fun w hS => by have s0 := hS.c 0 (by rfl : (fA (⟨xn, .slice xa x.bs.length xc, xs⟩ : FC))[0]? = some (.string xn)); have s1 := hS.c 1 (by rfl : (fA (⟨xn, .slice xa x.bs.length xc, xs⟩ : FC))[1]? = some (.slice xa x.bs.length xc)); have s2 := hS.c 2 (by rfl : (fA (⟨xn, .slice xa x.bs.length xc, xs⟩ : FC))[2]? = some (.int .i64 xs)); go_simp⟩) hHeld ?_
     refine tkS (i := 13) (oi := ⟨some 72, Op.call { callee := Callee.builtin Builtin.min, args := #[Operand.tmp 68, Operand.tmp 71], argTypes := #[3, 3] }, 3, _, _, none⟩) (v := .int .i64 (min (max 0 xs) (x.bs.length : Int))) rfl (Or.inl ⟨by rfl, fun w hS => by have s0 := hS.c 0 (by rfl : (fA (⟨xn, .slice xa x.bs.length xc, xs⟩ : FC))[0]? = some (.string xn)); have s1 := hS.c 1 (by rfl : (fA (⟨xn, .slice xa x.bs.length xc, xs⟩ : FC))[1]? = some (.slice xa x.bs.length xc)); have s2 := hS.c 2 (by rfl : (fA (⟨xn, .slice xa x.bs.length xc, xs⟩ : FC))[2]? = some (.int .i64 xs)); go_simp⟩) hHeld ?_
     refine wpAnyH_ready (rs := [3]) (by kernel_rfl) (by simp) ?_
     refine AllReadyH.cons (o := ⟨some 62, Op.buildSlice 40 0 #[], 40, _, _, none⟩) rfl (fun K hK => ?_) AllReadyH.nil
     rw [if_pos (by rfl)]
     refine wp_bs 40 0 _ rfl #[] (by simp) _ _ (bsBE w5) ?_
     have hbx := below_new w5 (.cells #[] 5)
     have HE : Keep (Own (w5.alloc (.cells #[] 5)) (.slice (some ⟨w5.heap.size, 0, none⟩) 0 0) []) := ⟨own_empty _ _ (Blk.new w5 5 #[])⟩
     have BC := Keep.mk hbx
     clear hbx
     generalize w5.alloc (.cells #[] 5) = wc at *
     obtain ⟨ge, hge⟩ : ∃ q, Keep (q = w5.heap.size) := ⟨_, ⟨rfl⟩⟩
     rw [← hge.out] at HE ⊢
     have LE : Keep (w5.heap.size ≤ ge) := ⟨by rw [hge.out]; exact Nat.le_refl _⟩
     refine hK _ _ (F7.out.below BC.out F7.out.lt) fun hH1 => ?_
     clear hK
     simp only [Act.put, pqA, pqB, pqC]
     refine wpAnyH_ready (rs := [6]) (by kernel_rfl) (by simp) ?_
     refine AllReadyH.cons (o := ⟨some 65, Op.call { callee := Callee.builtin Builtin.append, args := #[Operand.tmp 62, Operand.tmp 64], argTypes := #[40, 40] }, 40, _, _, none⟩) rfl (fun K hK => ?_) AllReadyH.nil
     rw [if_pos (by rfl)]
     refine wp_app (.tmp 62) (.tmp 64) rfl (.slice (some ⟨ge, 0, none⟩) 0 0) (.slice xa x.bs.length xc) [] x.bs rfl rfl HE.out (FR.out.below BC.out) (by have := HUx.out; simp; omega) fun v9 wd hp => ?_
     have BD : Keep (Below w5.heap.size w5 wd) := ⟨BC.out.trans (hp.grown.to_below (B := w5.heap.size) (fun k hk e => by have e : ge = k := Option.some.inj e; have := LE.out; omega) BC.out.size)⟩
     have HV9 : Keep (Own wd v9 x.bs) := ⟨by have h := hp.1; rw [List.nil_append] at h; exact h⟩
     have N9 : Keep (∀ k, v9.ownBlock = some k → w5.heap.size ≤ k) := ⟨own_new hp BC.out.size fun k hk => by have e : ge = k := Option.some.inj hk; have := LE.out; omega⟩
     clear hp HE
     obtain ⟨a9, n9, k9, e9⟩ := HV9.out.sl
     subst e9
     refine hK _ _ (F7.out.below BD.out F7.out.lt) fun hH2 => ?_
     clear hK
     simp only [Act.put, pqA, pqB, pqC]
     refine tkS (i := 14) (oi := ⟨some 73, Op.build 49 #[(0, Operand.tmp 61), (1, Operand.tmp 65), (2, Operand.tmp 72)], 49, _, _, none⟩) (v := .agg (fA (⟨xn, .slice a9 n9 k9, min (max 0 xs) (x.bs.length : Int)⟩ : FC))) rfl (yieldsIf_bld (by rfl) 49 _ rfl #[(0, .string xn), (1, .slice a9 n9 k9), (2, .int .i64 (min (max 0 xs) (x.bs.length : Int)))] (by simp [Act.eval]) (.agg (fA (⟨xn, .slice a9 n9 k9, min (max 0 xs) (x.bs.length : Int)⟩ : FC))) (fun w => run_bldF _ _ _ _ _ w)) hH2 ?_
     refine wpAnyH_ready (rs := [15]) (by kernel_rfl) (by simp) ?_
     refine AllReadyH.cons (o := ⟨some 74, Op.buildSlice 22 1 #[(0, Operand.tmp 73)], 22, _, _, none⟩) rfl (fun K hK => ?_) AllReadyH.nil
     rw [if_pos (by rfl)]
     refine wp_bs 22 1 _ rfl #[(0, .agg (fA (⟨xn, .slice a9 n9 k9, min (max 0 xs) (x.bs.length : Int)⟩ : FC)))] (by simp [Act.eval]) _ _ (bsF xn a9 n9 k9 _ wd) ?_
     have hbx := below_new wd (.cells (fA (⟨xn, .slice a9 n9 k9, min (max 0 xs) (x.bs.length : Int)⟩ : FC)) 49)
     have HB := Keep.mk (Blk.new wd 49 (fA (⟨xn, .slice a9 n9 k9, min (max 0 xs) (x.bs.length : Int)⟩ : FC)))
     have HV10 : Keep (Own (wd.alloc (.cells (fA (⟨xn, .slice a9 n9 k9, min (max 0 xs) (x.bs.length : Int)⟩ : FC)) 49)) (.slice a9 n9 k9) x.bs) := ⟨HV9.out.grown (Grown.below (S := fun _ => False) hbx) fun _ _ h => h⟩
     have BE : Keep (Below w5.heap.size w5 (wd.alloc (.cells (fA (⟨xn, .slice a9 n9 k9, min (max 0 xs) (x.bs.length : Int)⟩ : FC)) 49))) := ⟨BD.out.trans (hbx.mono BD.out.size)⟩
     clear hbx HV9
     generalize wd.alloc (.cells (fA (⟨xn, .slice a9 n9 k9, min (max 0 xs) (x.bs.length : Int)⟩ : FC)) 49) = we at *
     obtain ⟨gz, hgz⟩ : ∃ q, Keep (q = wd.heap.size) := ⟨_, ⟨rfl⟩⟩
     rw [← hgz.out] at HB ⊢
     refine hK _ _ (F7.out.below BE.out F7.out.lt) fun hH3 => ?_
     clear hK
     simp only [Act.put, pqA, pqB, pqC]
     refine wpAnyH_ready (rs := [16]) (by kernel_rfl) (by simp) ?_
     refine AllReadyH.cons (o := ⟨some 75, Op.call { callee := Callee.builtin Builtin.append, args := #[Operand.tmp 59, Operand.tmp 74], argTypes := #[22, 22] }, 22, _, _, none⟩) rfl (fun K hK => ?_) AllReadyH.nil
     rw [if_pos (by rfl)]
     refine wp_appS (.tmp 59) (.tmp 74) rfl (.slice a4 n4 k4) (.slice (some ⟨gz, 0, none⟩) 1 1) (cs.take i) [(⟨xn, .slice a9 n9 k9, min (max 0 xs) (x.bs.length : Int)⟩ : FC)] (fun x hx => by simp at hx; subst hx; exact ⟨_, _, _, rfl⟩) rfl rfl (FO.out.below BE.out) (srcF_one HB.out) (by have := ED.out.fcs.len; have := LOk.out.len; simp; omega) fun v6 w6 ho hg hm => ?_
     have HO6 := Keep.mk ho
     have N6 : Keep (NewF w2.heap.size v6) := ⟨NewF.moved N4.out (Nat.le_trans FB.out.size BE.out.size) hm⟩
     have B6 : Keep (Below w2.heap.size w2 w6) := ⟨newF_below N4.out (FB.out.trans (BE.out.mono FB.out.size)) hg⟩
     have HV6 : Keep (Own w6 (.slice a9 n9 k9) x.bs) := ⟨HV10.out.grown hg fun k hk e => by have := ((FO.out.below BE.out).typ e).one (HV10.out.typ hk); revert this; decide⟩
     have N96 : Keep (∀ k, (Value.slice a9 n9 k9).ownBlock = some k → w2.heap.size ≤ k) := ⟨fun k hk => Nat.le_trans FB.out.size (N9.out k hk)⟩
     have F76 : Keep (Blk w6 g7 49 (fA (⟨xn, .slice xa x.bs.length xc, xs⟩ : FC))) := ⟨E7.out.below B6.out E7.out.lt⟩
     clear ho hg hm HV10 FO FR HB BE BD BC N9 F7 FB hgz hge LE
     obtain ⟨a6, k6, e6⟩ := HO6.out.sl
     subst e6
     obtain ⟨n6, hn6⟩ : ∃ q, Keep (q = (cs.take i ++ [(⟨xn, .slice a9 n9 k9, min (max 0 xs) (x.bs.length : Int)⟩ : FC)]).length) := ⟨_, ⟨rfl⟩⟩
     rw [← hn6.out] at HO6 N6 ⊢
     refine hK _ _ F76.out fun hH4 => ?_
     clear hK
     simp only [Act.put, pqA, pqB, pqC]
     refine tkS (i := 17) (oi := ⟨some 13, Op.assign (Operand.tmp 75), 22, _, _, none⟩) (v := .slice a6 n6 k6) rfl (Or.inl ⟨by rfl, fun w hS => by have s0 := hS.c 0 (by rfl : (fA (⟨xn, .slice xa x.bs.length xc, xs⟩ : FC))[0]? = some (.string xn)); have s1 := hS.c 1 (by rfl : (fA (⟨xn, .slice xa x.bs.length xc, xs⟩ : FC))[1]? = some (.slice xa x.bs.length xc)); have s2 := hS.c 2 (by rfl : (fA (⟨xn, .slice xa x.bs.length xc, xs⟩ : FC))[2]? = some (.int .i64 xs)); go_simp⟩) hH4 ?_
     refine wpAnyH_done (by kernel_rfl) ?_ _
     refine hK14 _ _ ?_
     refine wp_seq_k fun K15 hK15 => ?_
     have D6 : Keep (DskAt w6 ps (.slice va cs.length vc) cs Dt) := ⟨ED.out.below B6.out⟩
     have p0 := D6.out.blk.c 0 (by rfl : (stA (.slice va cs.length vc) Dt)[0]? = some (.slice va cs.length vc))
     obtain ⟨vs2, hs1, hs2⟩ := slF_lo D6.out.own i hil.out
     have HS1 := Keep.mk (hs1 w6)
     have HS2 := Keep.mk (hs2 w6 D6.out.own)
     clear hs1 hs2
     refine rgn ?_
     refine VlS (.pointer (some ⟨ps, 0, none⟩)) ?_
     refine VlS (.slice a6 n6 k6) ?_
     refine VlS (.pointer (some ⟨ps, 0, none⟩)) ?_
     refine VlS (.pointer (some ⟨ps, 0, none⟩)) ?_
     refine VlS (.pointer (some ⟨ps, 0, none⟩)) ?_
     refine VlS (.slice va cs.length vc) ?_
     refine VlS (.int .i64 (i : Int)) ?_
     refine WL.slLo (by kernel_rfl) (.tmp 81) (.tmp 82) rfl (.slice va cs.length vc) (.int .i64 (i : Int)) vs2 rfl rfl HS1.out ?_
     simp only [Act.put, pqA, pqB, pqC]
     refine WL.appS (by kernel_rfl) (.tmp 77) (.tmp 83) rfl (.slice a6 n6 k6) vs2 (cs.take i ++ [(⟨xn, .slice a9 n9 k9, min (max 0 xs) (x.bs.length : Int)⟩ : FC)]) (cs.drop i) (fun x hx => D6.out.fcs.sl x (List.mem_of_mem_drop hx)) rfl rfl HO6.out HS2.out (by have := ED.out.fcs.len; have := LOk.out.len; simp; omega) fun v7 w7 ho hg hm => ?_
     have HO7 : Keep (OwnF w7 v7 (cs.take i ++ [(⟨xn, .slice a9 n9 k9, min (max 0 xs) (x.bs.length : Int)⟩ : FC)] ++ cs.drop i)) := ⟨ho⟩
     have N7 : Keep (NewF w2.heap.size v7) := ⟨NewF.moved N6.out B6.out.size hm⟩
     have B7 : Keep (Below w2.heap.size w2 w7) := ⟨newF_below N6.out B6.out hg⟩
     have HV7 : Keep (Own w7 (.slice a9 n9 k9) x.bs) := ⟨HV6.out.grown hg fun k hk e => by have := (HO6.out.typ e).one (HV6.out.typ hk); revert this; decide⟩
     have D7 : Keep (DskAt w7 ps (.slice va cs.length vc) cs Dt) := ⟨ED.out.below B7.out⟩
     clear ho hg hm D6 HS1 HS2 p0 HO6 N6 B6 HV6 F76
     obtain ⟨a7, k7, e7⟩ := HO7.out.sl
     subst e7
     obtain ⟨n7, hn7⟩ : ∃ q, Keep (q = (cs.take i ++ [(⟨xn, .slice a9 n9 k9, min (max 0 xs) (x.bs.length : Int)⟩ : FC)] ++ cs.drop i).length) := ⟨_, ⟨rfl⟩⟩
     rw [← hn7.out] at HO7 N7 ⊢
     have f_o := D7.out.blk.frozen 0
     have p0 := D7.out.blk.c 0 (by rfl : (stA (.slice va cs.length vc) Dt)[0]? = some (.slice va cs.length vc))
     simp only [Act.put, pqA, pqB, pqC]
     refine VlS (.pointer (some ⟨ps, 0, none⟩)) ?_
     refine VlS (.pointer (some ⟨ps, 0, none⟩)) ?_
     refine WL.cell (by kernel_rfl) (w7.setCell ⟨ps, 0, none⟩ (.slice a7 n7 k7)) (by go_simp) ?_
     clear f_o p0
     have hg8 : Grown w7 (w7.setCell ⟨ps, 0, none⟩ (.slice a7 n7 k7)) fun k => k = ps := Grown.setCell w7 ps 0 _ fun _ => rfl
     have E8 : Keep (DskAt (w7.setCell ⟨ps, 0, none⟩ (.slice a7 n7 k7)) ps (.slice a7 n7 k7) (cs.take i ++ [(⟨xn, .slice a9 n9 k9, min (max 0 xs) (x.bs.length : Int)⟩ : FC)] ++ cs.drop i) { Dt with fs := Dt.fs.take i ++ [layX x] ++ Dt.fs.drop i }) := ⟨⟨D7.out.blk.set 0 (.slice a7 n7 k7), HO7.out.grown hg8 fun k hk e => by subst e; have := (HO7.out.typ hk).one D7.out.blk.typ; revert this; decide, (D7.out.fcs.insx (y := (⟨xn, .slice a9 n9 k9, min (max 0 xs) (x.bs.length : Int)⟩ : FC)) (f := layX x) i hil.out ⟨HXn.out, by show min (max 0 xs) (x.bs.length : Int) = (layX x).sf; rw [HXs.out]; rfl, HV7.out⟩ (fun j z k hj hk e => by have h1 := N96.out k e; have h2 := fcs_lt ED.out.fcs hj hk; omega)).grown hg8 fun k hk e => by subst e; have := hk.one D7.out.blk.typ; revert this; decide⟩⟩
     have G8 : Keep (Grown w2 (w7.setCell ⟨ps, 0, none⟩ (.slice a7 n7 k7)) fun k => k = ps) := ⟨(Grown.below B7.out).trans hg8⟩
     have S8 : Keep (∀ k, DskS ps (.slice a7 n7 k7) (cs.take i ++ [(⟨xn, .slice a9 n9 k9, min (max 0 xs) (x.bs.length : Int)⟩ : FC)] ++ cs.drop i) k → w.heap.size ≤ k) := ⟨fun k hk => by
      have hw := EB.out.size
      rcases hk with h | h | ⟨j, z, hz, hk⟩
      ·exact JS.out k (.inl h)
      ·have := N7.out k h; omega
      ·rw [ins_get _ _ _ _ hil.out] at hz
       split at hz
       ·exact JS.out k (.inr (.inr ⟨j, z, hz, hk⟩))
       ·split at hz
        ·injection hz with hz
         subst hz
         have := N96.out k hk
         omega
        ·exact JS.out k (.inr (.inr ⟨_, z, hz, hk⟩))⟩
     clear hg8 D7 HO7 N7 B7 HV7
     generalize (w7.setCell ⟨ps, 0, none⟩ (.slice a7 n7 k7)) = w8 at *
     have P8 : Keep (Blk w8 pd 67 #[ptr ps]) := ⟨G8.out.blk EP.out fun e => by rw [e] at EP; have := EP.out.typ.one ED.out.blk.typ; revert this; decide⟩
     have Q8 : Keep (Blk w8 ph 73 #[ptr ps]) := ⟨G8.out.blk EQ.out fun e => by rw [e] at EQ; have := EQ.out.typ.one ED.out.blk.typ; revert this; decide⟩
     have F8 : Keep (Blk w8 g7 49 (fA (⟨xn, .slice xa x.bs.length xc, xs⟩ : FC))) := ⟨G8.out.blk E7.out fun e => by rw [e] at E7; have := E7.out.typ.one ED.out.blk.typ; revert this; decide⟩
     have B8 : Keep (Below w.heap.size w w8) := ⟨EB.out.trans ((G8.out.to_below (B := w.heap.size) (fun k hk e => by have := JS.out k (.inl e); omega) EB.out.size))⟩
     clear G8
     simp only [Act.put]
     refine WL.nil (hK15 _ _ ?_)
     have E9 : Keep (DskAt w8.drew ps (.slice a7 n7 k7) (cs.take i ++ [(⟨xn, .slice a9 n9 k9, min (max 0 xs) (x.bs.length : Int)⟩ : FC)] ++ cs.drop i) { Dt with fs := Dt.fs.take i ++ [layX x] ++ Dt.fs.drop i }) := ⟨E8.out.grown (Grown.refl w8 (fun _ => False)).drew fun _ _ h => h⟩
     have P9 : Keep (Blk w8.drew pd 67 #[ptr ps]) := ⟨P8.out.drew⟩
     have Q9 : Keep (Blk w8.drew ph 73 #[ptr ps]) := ⟨Q8.out.drew⟩
     have F9 : Keep (Blk w8.drew g7 49 (fA (⟨xn, .slice xa x.bs.length xc, xs⟩ : FC))) := ⟨F8.out.drew⟩
     have B9 : Keep (Below w.heap.size w w8.drew) := ⟨B8.out.drew⟩
     have hwu : IntKind.i64.wrap (Dt.used + (x.bs.length : Int)) = Dt.used + (x.bs.length : Int) := by rw [IntKind.wrap_i64]; have := HUx.out; omega
     clear E8 P8 Q8 F8 B8
     refine wp_region_held_drew (S := fun wx => Blk wx g7 49 (fA (⟨xn, .slice xa x.bs.length xc, xs⟩ : FC))) (by kernel_rfl) F9.out (fun hHeld => ?_)
     generalize w8.drew = w9 at *
     refine tkS (i := 0) (oi := ⟨some 87, Op.move (Operand.tmp 8), 65, _, _, none⟩) (v := .pointer (some ⟨ps, 0, none⟩)) rfl (Or.inl ⟨by rfl, fun w hS => by have s1 := hS.c 1 (by rfl : (fA (⟨xn, .slice xa x.bs.length xc, xs⟩ : FC))[1]? = some (.slice xa x.bs.length xc)); go_simp⟩) hHeld ?_
     refine tkS (i := 1) (oi := ⟨some 88, Op.nilCheck (Operand.tmp 87), 0, _, _, none⟩) (v := .pointer (some ⟨ps, 0, none⟩)) rfl (Or.inl ⟨by rfl, fun w hS => by have s1 := hS.c 1 (by rfl : (fA (⟨xn, .slice xa x.bs.length xc, xs⟩ : FC))[1]? = some (.slice xa x.bs.length xc)); go_simp⟩) hHeld ?_
     refine tkS (i := 2) (oi := ⟨some 89, Op.fieldAddr 71 (Operand.tmp 88) 2, 0, _, _, none⟩) (v := .pointer (some ⟨ps, 2, none⟩)) rfl (Or.inl ⟨by rfl, fun w hS => by have s1 := hS.c 1 (by rfl : (fA (⟨xn, .slice xa x.bs.length xc, xs⟩ : FC))[1]? = some (.slice xa x.bs.length xc)); go_simp⟩) hHeld ?_
     refine tkS (i := 4) (oi := ⟨some 91, Op.fieldAddr 49 (Operand.tmp 10) 1, 0, _, _, none⟩) (v := .pointer (some ⟨g7, 1, none⟩)) rfl (Or.inl ⟨by rfl, fun w hS => by have s1 := hS.c 1 (by rfl : (fA (⟨xn, .slice xa x.bs.length xc, xs⟩ : FC))[1]? = some (.slice xa x.bs.length xc)); go_simp⟩) hHeld ?_
     refine tkS (i := 5) (oi := ⟨some 92, Op.load 40 (Operand.tmp 91), 40, _, _, none⟩) (v := .slice xa x.bs.length xc) rfl (Or.inl ⟨by rfl, fun w hS => by have s1 := hS.c 1 (by rfl : (fA (⟨xn, .slice xa x.bs.length xc, xs⟩ : FC))[1]? = some (.slice xa x.bs.length xc)); go_simp⟩) hHeld ?_
     refine tkS (i := 6) (oi := ⟨some 93, Op.call { callee := Callee.builtin Builtin.len, args := #[Operand.tmp 92], argTypes := #[40] }, 3, _, _, none⟩) (v := .int .i64 (x.bs.length : Int)) rfl (Or.inl ⟨by rfl, fun w hS => by have s1 := hS.c 1 (by rfl : (fA (⟨xn, .slice xa x.bs.length xc, xs⟩ : FC))[1]? = some (.slice xa x.bs.length xc)); go_simp⟩) hHeld ?_
     refine wpAnyH_ready (rs := [3]) (by kernel_rfl) (by simp) ?_
     refine AllReadyH.cons (o := ⟨some 90, Op.load 3 (Operand.tmp 89), 3, _, _, none⟩) rfl (fun K hK => ?_) AllReadyH.nil
     rw [if_pos (by rfl)]
     have cl : w9.cell? ⟨ps, 2, none⟩ = some (.int .i64 Dt.used) := E9.out.blk.c 2 rfl
     refine wp_val (.int .i64 Dt.used) (by go_simp) ?_
     clear cl
     refine hK _ _ F9.out fun hH1 => ?_
     clear hK
     simp only [Act.put, pqA, pqB, pqC]
     refine tkS (i := 7) (oi := ⟨some 94, Op.binOp BinOp.add 3 (Operand.tmp 90) (Operand.tmp 93) 3, 3, _, _, none⟩) (v := .int .i64 (Dt.used + (x.bs.length : Int))) rfl (Or.inl ⟨by rfl, fun w hS => by have s1 := hS.c 1 (by rfl : (fA (⟨xn, .slice xa x.bs.length xc, xs⟩ : FC))[1]? = some (.slice xa x.bs.length xc)); go_simp⟩) hH1 ?_
     refine tkS (i := 8) (oi := ⟨some 95, Op.nilCheck (Operand.tmp 87), 0, _, _, none⟩) (v := .pointer (some ⟨ps, 0, none⟩)) rfl (Or.inl ⟨by rfl, fun w hS => by have s1 := hS.c 1 (by rfl : (fA (⟨xn, .slice xa x.bs.length xc, xs⟩ : FC))[1]? = some (.slice xa x.bs.length xc)); go_simp⟩) hH1 ?_
     refine tkS (i := 9) (oi := ⟨some 96, Op.fieldAddr 71 (Operand.tmp 95) 2, 0, _, _, none⟩) (v := .pointer (some ⟨ps, 2, none⟩)) rfl (Or.inl ⟨by rfl, fun w hS => by have s1 := hS.c 1 (by rfl : (fA (⟨xn, .slice xa x.bs.length xc, xs⟩ : FC))[1]? = some (.slice xa x.bs.length xc)); go_simp⟩) hH1 ?_
     refine wpAnyH_ready (rs := [10]) (by kernel_rfl) (by simp) ?_
     refine AllReadyH.cons (o := ⟨none, Op.store 3 (Operand.tmp 96) (Operand.tmp 94), 0, _, _, none⟩) rfl (fun K hK => ?_) AllReadyH.nil
     rw [if_pos (by rfl)]
     have f_o := E9.out.blk.frozen 2
     have cl : w9.cell? ⟨ps, 2, none⟩ = some (.int .i64 Dt.used) := E9.out.blk.c 2 rfl
     refine wp_cellS (w9.setCell ⟨ps, 2, none⟩ (.int .i64 (Dt.used + (x.bs.length : Int)))) (by go_simp) ?_
     clear f_o cl
     have hg9 : Grown w9 (w9.setCell ⟨ps, 2, none⟩ (.int .i64 (Dt.used + (x.bs.length : Int)))) fun k => k = ps := Grown.setCell w9 ps 2 _ fun _ => rfl
     have E12 : Keep (DskAt (w9.setCell ⟨ps, 2, none⟩ (.int .i64 (Dt.used + (x.bs.length : Int)))) ps (.slice a7 n7 k7) (cs.take i ++ [(⟨xn, .slice a9 n9 k9, min (max 0 xs) (x.bs.length : Int)⟩ : FC)] ++ cs.drop i) { Dt with fs := Dt.fs.take i ++ [layX x] ++ Dt.fs.drop i, used := Dt.used + (x.bs.length : Int) }) := ⟨E9.out.put rfl rfl⟩
     have P12 : Keep (Blk (w9.setCell ⟨ps, 2, none⟩ (.int .i64 (Dt.used + (x.bs.length : Int)))) pd 67 #[ptr ps]) := ⟨hg9.blk P9.out fun e => by rw [e] at P9; have := P9.out.typ.one E9.out.blk.typ; revert this; decide⟩
     have Q12 : Keep (Blk (w9.setCell ⟨ps, 2, none⟩ (.int .i64 (Dt.used + (x.bs.length : Int)))) ph 73 #[ptr ps]) := ⟨hg9.blk Q9.out fun e => by rw [e] at Q9; have := Q9.out.typ.one E9.out.blk.typ; revert this; decide⟩
     have F12 : Keep (Blk (w9.setCell ⟨ps, 2, none⟩ (.int .i64 (Dt.used + (x.bs.length : Int)))) g7 49 (fA (⟨xn, .slice xa x.bs.length xc, xs⟩ : FC))) := ⟨hg9.blk F9.out fun e => by rw [e] at F9; have := F9.out.typ.one E9.out.blk.typ; revert this; decide⟩
     have B12 : Keep (Below w.heap.size w (w9.setCell ⟨ps, 2, none⟩ (.int .i64 (Dt.used + (x.bs.length : Int))))) := ⟨B9.out.trans ((hg9.to_below (B := w.heap.size) (fun k hk e => by have := JS.out k (.inl e); omega) B9.out.size))⟩
     clear hg9 E9 P9 Q9 F9 B9 hwu
     generalize (w9.setCell ⟨ps, 2, none⟩ (.int .i64 (Dt.used + (x.bs.length : Int)))) = w12 at *
     refine hK _ _ F12.out fun hS12 => ?_
     clear hK
     simp only [Act.put, pqA, pqB, pqC]
     refine wpAnyH_done (by kernel_rfl) ?_ _
     refine hK8 _ _ ?_
     refine rgn ?_
     refine VlS (.int .i64 ((t : Int) + 1)) ?_
     refine VlS (.int .i64 ((t : Int) + 1)) ?_
     refine WL.nil ?_
     refine ⟨⟨t + 1, .slice a7 n7 k7, (cs.take i ++ [(⟨xn, .slice a9 n9 k9, min (max 0 xs) (x.bs.length : Int)⟩ : FC)] ++ cs.drop i), { Dt with fs := Dt.fs.take i ++ [layX x] ++ Dt.fs.drop i, used := Dt.used + (x.bs.length : Int) }, rfl, by omega, ?_, E12.out, S8.out, P12.out, Q12.out, B12.out⟩, ?_⟩
     ·have h1 : layStep (layT (ks.take t)) x = Dt.fs.take i ++ [layX x] ++ Dt.fs.drop i := by
       have e : Dt.fs = layT (ks.take t) := by rw [JE.out]
       have h := HFd.out
       rw [HXn.out, e] at h
       unfold layStep
       rw [h, if_neg, e]
       rintro (h2 | h2 | h2)
       ·cases h2
       ·have := HRt.out; rw [HXn.out, h2] at this; cases this
       ·have h3 := ED.out.fcs.len; rw [e] at h3; omega
      rw [layT_snoc HKx.out, h1, usd_ins]
      have e2 : Dt.used = usd Dt.fs := by rw [JE.out]
      rw [← e2]
      show _ = _
      rw [JE.out]
      rfl
     ·simp only [intOf]; show ks.length - ((t : Int) + 1).toNat < ks.length - ((t : Int)).toNat; omega
   ·have HRt : Keep (rgt xn = false) := ⟨by rw [← hrg.out]; simpa using h7_5⟩
    clear hrg
    refine VbT ?_
    refine VbT ?_
    refine VbT ?_
    refine SkS ?_
    refine SkS ?_
    refine SkS ?_
    refine SkS ?_
    refine SkS ?_
    refine SkS ?_
    refine VbT ?_
    refine WL.nil (hK12 _ _ ?_)
    refine wp_cond_true rfl ?_
    refine wp_exit ?_
    refine hK8 _ _ ?_
    refine rgn ?_
    refine VlS (.int .i64 ((t : Int) + 1)) ?_
    refine VlS (.int .i64 ((t : Int) + 1)) ?_
    refine WL.nil ?_
    refine ⟨⟨t + 1, .slice va cs.length vc, cs, Dt, rfl, by omega, ?_, ED.out, JS.out, EP.out, EQ.out, EB.out⟩, ?_⟩
    ·have h1 : layStep (layT (ks.take t)) x = layT (ks.take t) := by
      have e : Dt.fs = layT (ks.take t) := by rw [JE.out]
      have h := HFd.out
      rw [HXn.out, e] at h
      unfold layStep
      rw [h, if_pos]
      exact .inr (.inl (by rw [← HXn.out]; exact HRt.out))
     rw [layT_snoc HKx.out, h1]
     exact JE.out
    ·simp only [intOf]; show ks.length - ((t : Int) + 1).toNat < ks.length - ((t : Int)).toNat; omega
  ·refine rgn ?_
   refine VlS (.pointer (some ⟨ps, 0, none⟩)) ?_
   refine VlS (.pointer (some ⟨g7, 0, none⟩)) ?_
   refine VlS (.string xn) ?_
   have hfa := find_any ps xn _ cs Dt wb KD.out (by rw [KD.out.fcs.len]; have := LOk.out.len; omega)
   rw [hfd] at hfa
   refine WL.callF (by kernel_rfl) 25 _ _ rfl Tryz.in25 #[ptr ps, .string xn] (by simp [Act.eval]) ?_
   refine (hfa).mono ?_
   rintro e w2 ⟨rfl, hb2⟩
   refine ⟨_, rfl, ?_⟩
   have E7 := Keep.mk (H7.out.below hb2 H7.out.lt)
   have ED := Keep.mk (KD.out.below hb2)
   have EP := Keep.mk (KP.out.below hb2 KP.out.lt)
   have EQ := Keep.mk (KQ.out.below hb2 KQ.out.lt)
   have EB : Keep (Below w.heap.size w w2) := ⟨KB.out.trans (hb2.mono KB.out.size)⟩
   have ER := Keep.mk (KR.out.below hb2)
   clear hb2 hfa c7 H7 KD KP KQ KB KR
   have HFd := Keep.mk hfd
   clear hfd
   have c7 := E7.out.c 0 (by rfl : (fA (⟨xn, .slice xa x.bs.length xc, xs⟩ : FC))[0]? = some (.string xn))
   have p0 := ED.out.blk.c 0 (by rfl : (stA (.slice va cs.length vc) Dt)[0]? = some (.slice va cs.length vc))
   simp only [Act.put, pqA, pqB, pqC]
   refine VlS (.tuple #[.int .i64 (i : Int), .bool true]) ?_
   refine VlS (.int .i64 (i : Int)) ?_
   refine VbT ?_
   refine VlS (.int .i64 (i : Int)) ?_
   refine VbT ?_
   refine WL.nil (hK10 _ _ ?_)
   refine wp_seq_k fun K16 hK16 => ?_
   refine wp_seq_k fun K17 hK17 => rgn ?_
   refine VbT ?_
   refine VbT ?_
   refine SkS ?_
   refine SkS ?_
   refine SkS ?_
   refine SkS ?_
   refine VbT ?_
   refine VbT ?_
   refine SkS ?_
   refine SkS ?_
   refine SkS ?_
   refine SkS ?_
   refine SkS ?_
   refine SkS ?_
   refine VbT ?_
   refine WL.nil (hK17 _ _ ?_)
   refine wp_cond_true rfl ?_
   refine wp_exit ?_
   refine hK8 _ _ ?_
   refine rgn ?_
   refine VlS (.int .i64 ((t : Int) + 1)) ?_
   refine VlS (.int .i64 ((t : Int) + 1)) ?_
   refine WL.nil ?_
   refine ⟨⟨t + 1, .slice va cs.length vc, cs, Dt, rfl, by omega, ?_, ED.out, JS.out, EP.out, EQ.out, EB.out⟩, ?_⟩
   ·have h1 : layStep (layT (ks.take t)) x = layT (ks.take t) := by
     have e : Dt.fs = layT (ks.take t) := by rw [JE.out]
     have h := HFd.out
     rw [HXn.out, e] at h
     unfold layStep
     rw [h, if_pos]
     exact .inl rfl
    rw [layT_snoc HKx.out, h1]
    exact JE.out
   ·simp only [intOf]; show ks.length - ((t : Int) + 1).toNat < ks.length - ((t : Int)).toNat; omega
 ·have hlt' : ¬ (t : Int) < (ks.length : Int) := by omega
  have JE2 : Keep (Dt = ⟨layT ks, max 0 r, usd (layT ks), -1, false, 0⟩) := ⟨by rw [JE.out, List.take_of_length_le (by omega)]⟩
  refine wp_seq_k fun K18 hK18 => rgn ?_
  refine VbF ?_
  refine WL.nil (hK18 _ _ ?_)
  refine wp_seq_k fun K19 hK19 => ?_
  refine wp_cond_false rfl ?_
  refine wp_exit ?_
  refine hK4 _ _ ?_
  refine wp_seq_k fun K20 hK20 => ?_
  have E9 : Keep (DskAt wr.drew ps (.slice va cs.length vc) cs Dt) := ⟨JD.out.grown (Grown.refl wr (fun _ => False)).drew fun _ _ h => h⟩
  have P9 : Keep (Blk wr.drew pd 67 #[ptr ps]) := ⟨JP.out.drew⟩
  have Q9 : Keep (Blk wr.drew ph 73 #[ptr ps]) := ⟨JQ.out.drew⟩
  have B9 : Keep (Below w.heap.size w wr.drew) := ⟨JB.out.drew⟩
  clear JD JP JQ JB
  refine wp_region_held_drew (S := fun wx => wx.cell? ⟨ps, 2, none⟩ = some (.int .i64 Dt.used)) (by kernel_rfl) (E9.out.blk.c 2 rfl) (fun hHeld => ?_)
  generalize wr.drew = w9 at *
  refine TkG (i := 0) (oi := ⟨some 98, Op.move (Operand.tmp 8), 65, _, _, none⟩) (v := .pointer (some ⟨ps, 0, none⟩)) rfl hHeld ?_
  refine TkG (i := 1) (oi := ⟨some 99, Op.move (Operand.tmp 8), 65, _, _, none⟩) (v := .pointer (some ⟨ps, 0, none⟩)) rfl hHeld ?_
  refine TkG (i := 2) (oi := ⟨some 100, Op.nilCheck (Operand.tmp 99), 0, _, _, none⟩) (v := .pointer (some ⟨ps, 0, none⟩)) rfl hHeld ?_
  refine TkG (i := 3) (oi := ⟨some 101, Op.fieldAddr 71 (Operand.tmp 100) 1, 0, _, _, none⟩) (v := .pointer (some ⟨ps, 1, none⟩)) rfl hHeld ?_
  refine TkG (i := 5) (oi := ⟨some 103, Op.move (Operand.tmp 8), 65, _, _, none⟩) (v := .pointer (some ⟨ps, 0, none⟩)) rfl hHeld ?_
  refine TkG (i := 6) (oi := ⟨some 104, Op.nilCheck (Operand.tmp 103), 0, _, _, none⟩) (v := .pointer (some ⟨ps, 0, none⟩)) rfl hHeld ?_
  refine TkG (i := 7) (oi := ⟨some 105, Op.fieldAddr 71 (Operand.tmp 104) 2, 0, _, _, none⟩) (v := .pointer (some ⟨ps, 2, none⟩)) rfl hHeld ?_
  refine TkG (i := 8) (oi := ⟨some 106, Op.load 3 (Operand.tmp 105), 3, _, _, none⟩) (v := .int .i64 Dt.used) rfl hHeld ?_
  refine wpAnyH_ready (rs := [4]) (by kernel_rfl) (by simp) ?_
  refine AllReadyH.cons (o := ⟨some 102, Op.load 3 (Operand.tmp 101), 3, _, _, none⟩) rfl (fun K hK => ?_) AllReadyH.nil
  rw [if_pos (by rfl)]
  have cl : w9.cell? ⟨ps, 1, none⟩ = some (.int .i64 Dt.room) := E9.out.blk.c 1 rfl
  refine wp_val (.int .i64 Dt.room) (by go_simp) ?_
  clear cl
  refine hK _ _ (E9.out.blk.c 2 rfl) fun hH1 => ?_
  clear hK
  simp only [Act.put, pqA, pqB, pqC]
  refine TkG (i := 9) (oi := ⟨some 107, Op.call { callee := Callee.builtin Builtin.max, args := #[Operand.tmp 102, Operand.tmp 106], argTypes := #[3, 3] }, 3, _, _, none⟩) (v := .int .i64 (max Dt.room Dt.used)) rfl hH1 ?_
  refine TkG (i := 10) (oi := ⟨some 108, Op.nilCheck (Operand.tmp 98), 0, _, _, none⟩) (v := .pointer (some ⟨ps, 0, none⟩)) rfl hH1 ?_
  refine TkG (i := 11) (oi := ⟨some 109, Op.fieldAddr 71 (Operand.tmp 108) 1, 0, _, _, none⟩) (v := .pointer (some ⟨ps, 1, none⟩)) rfl hH1 ?_
  refine wpAnyH_ready (rs := [12]) (by kernel_rfl) (by simp) ?_
  refine AllReadyH.cons (o := ⟨none, Op.store 3 (Operand.tmp 109) (Operand.tmp 107), 0, _, _, none⟩) rfl (fun K hK => ?_) AllReadyH.nil
  rw [if_pos (by rfl)]
  have f_o := E9.out.blk.frozen 1
  have cl : w9.cell? ⟨ps, 1, none⟩ = some (.int .i64 Dt.room) := E9.out.blk.c 1 rfl
  refine wp_cellS (w9.setCell ⟨ps, 1, none⟩ (.int .i64 (max Dt.room Dt.used))) (by go_simp) ?_
  clear f_o cl
  have hg9 : Grown w9 (w9.setCell ⟨ps, 1, none⟩ (.int .i64 (max Dt.room Dt.used))) fun k => k = ps := Grown.setCell w9 ps 1 _ fun _ => rfl
  have E12 : Keep (DskAt (w9.setCell ⟨ps, 1, none⟩ (.int .i64 (max Dt.room Dt.used))) ps (.slice va cs.length vc) cs { Dt with room := max Dt.room Dt.used }) := ⟨E9.out.put rfl rfl⟩
  have P12 : Keep (Blk (w9.setCell ⟨ps, 1, none⟩ (.int .i64 (max Dt.room Dt.used))) pd 67 #[ptr ps]) := ⟨hg9.blk P9.out fun e => by rw [e] at P9; have := P9.out.typ.one E9.out.blk.typ; revert this; decide⟩
  have Q12 : Keep (Blk (w9.setCell ⟨ps, 1, none⟩ (.int .i64 (max Dt.room Dt.used))) ph 73 #[ptr ps]) := ⟨hg9.blk Q9.out fun e => by rw [e] at Q9; have := Q9.out.typ.one E9.out.blk.typ; revert this; decide⟩
  have B12 : Keep (Below w.heap.size w (w9.setCell ⟨ps, 1, none⟩ (.int .i64 (max Dt.room Dt.used)))) := ⟨B9.out.trans ((hg9.to_below (B := w.heap.size) (fun k hk e => by have := JS.out k (.inl e); omega) B9.out.size))⟩
  clear hg9 E9 P9 Q9 B9
  generalize (w9.setCell ⟨ps, 1, none⟩ (.int .i64 (max Dt.room Dt.used))) = w12 at *
  refine hK _ _ (E12.out.blk.c 2 rfl) fun hS12 => ?_
  clear hK
  simp only [Act.put, pqA, pqB, pqC]
  refine wpAnyH_done (by kernel_rfl) ?_ _
  refine hK20 _ _ ?_
  refine wp_seq_k fun K21 hK21 => rgn ?_
  refine VlS (.pointer (some ⟨pd, 0, none⟩)) ?_
  refine VlS (.pointer (some ⟨ph, 0, none⟩)) ?_
  refine VlS (.pointer (some ⟨pd, 0, none⟩)) ?_
  refine VlS (.pointer (some ⟨ph, 0, none⟩)) ?_
  refine WL.nil (hK21 _ _ ?_)
  refine wp_ret ?_
  go_ret2
  have h := E12.out
  rw [JE2.out] at h
  exact ⟨ps, pd, ph, _, cs, rfl, h, P12.out, Q12.out, L1.out, JS.out, B12.out⟩
end Go.Proofs.YteijjfeainamdaaGreatDoor
