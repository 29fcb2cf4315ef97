import Derived.Test.YteijjfeainamdaaGreatDoorA09
import Derived.Deep.RegionHeld3
import Derived.Lib.Small
namespace Go.Proofs.YteijjfeainamdaaGreatDoor
open Go.RowKit
set_option linter.unusedSimpArgs false
set_option linter.unusedVariables false

theorem Tryz.in29 (w : World) (vs : Array Value) : (callFunc 29 vs).run Tryz.prog w = .ok (.enter 29 vs) w := by kernel_rfl
theorem RowAt.gr {w w' : World} {v : Value} {l : List Int} {S : Nat → Prop} (h : RowAt w v l) (hg : Grown w w' S) (hs : l ≠ [] → ∀ b, v.ownBlock = some b → b < w.heap.size → ¬ S b) : RowAt w' v l := by
 by_cases e : l = []
 ·subst e
  rcases h with h | h | ⟨b, off, cap, h1, h2, _⟩
  ·exact .inl h
  ·exact .inr (.inl h)
  ·exact .inr (.inr ⟨b, off, cap, h1, h2, fun i hi => by simp at hi⟩)
 ·exact h.grown hg (hs e)
theorem RcsAt.set {w w' : World} {cs : List FC} {fs : List PF} {i : Nat} {y : FC} {f : PF} (h : RcsAt w cs fs) (hy : RcAt w' y f) (hk : ∀ (j : Nat) (z : FC) (g : PF), j ≠ i → cs[j]? = some z → fs[j]? = some g → RcAt w z g → RcAt w' z g) : RcsAt w' (cs.set i y) (fs.set i f) := by
 refine ⟨by rw [List.length_set, List.length_set]; exact h.len, fun j z g hz hg => ?_⟩
 by_cases hij : i = j
 ·subst hij
  have h1 : i < cs.length := by have := (List.getElem?_eq_some_iff.1 hz).1; rwa [List.length_set] at this
  rw [List.getElem?_set_self h1] at hz
  rw [List.getElem?_set_self (by rw [← h.len]; exact h1)] at hg
  injection hz with hz
  injection hg with hg
  subst hz hg
  exact hy
 ·rw [List.getElem?_set_ne hij] at hz hg
  exact hk j z g (fun e => hij e.symm) hz hg (h.each j z g hz hg)
theorem RDAt.bytes {w : World} {x g n7 k7 i : Nat} {va v : Value} {cs : List FC} {ms : List AC} {D : DV} {c : FC} {f : PF} {l : List Int} (h : RDAt w x (.slice (some ⟨g, 0, none⟩) n7 k7) va cs ms D) (hc : cs[i]? = some c) (hf : D.fs[i]? = some f) (hr : RowAt w v l) (ht : ∀ k, v.ownBlock = some k → Typ w k 5) : RDAt (w.setCell ⟨g, i * 3 + 1, none⟩ v) x (.slice (some ⟨g, 0, none⟩) n7 k7) va (cs.set i ⟨c.nm, v, c.sf⟩) ms { D with fs := D.fs.set i { f with bs := l } } := by
 have hs : Grown w (w.setCell ⟨g, i * 3 + 1, none⟩ v) fun k => k = g := Grown.setCell w g (i * 3 + 1) v fun _ => rfl
 have hg : Typ w g 49 := h.own.typ rfl
 have hcf := h.rcs.each i c f hc hf
 refine ⟨hs.blk h.blk fun e => ?_, h.own.set hc (by omega) rfl, h.rcs.set (f := { f with bs := l }) ⟨hcf.1, hcf.2.1, hr.grown hs fun k hk _ e => ?_, fun k hk => hs.typ (ht k hk) fun e => ?_⟩ fun j z u _ hz _ hzu => hzu.grown hs fun k hk e => ?_, h.acs.grown hs fun k hk e => ?_, h.num⟩
 ·subst e; have := hg.one h.blk.typ; revert this; decide
 ·subst e; have := hg.one (ht _ hk); revert this; decide
 ·subst e; have := hg.one (ht _ hk); revert this; decide
 ·subst e; have := hg.one (h.rcs.typ hz hk); revert this; decide
 ·subst e; have := hg.one (h.acs.typ hk); revert this; decide
def apC (D : DV) (n : ByteArray) (l : List Int) : Int := if D.out = true then 7 else if rgt n = false then 1 else if (fnd n D.fs 0).2 = false ∧ 256 ≤ D.fs.length then 3 else if D.room - usd D.fs < (l.length : Int) then 8 else pw D
def apD (D : DV) (n : ByteArray) (l : List Int) : DV := if D.out = true then D else if rgt n = false then D else if (fnd n D.fs 0).2 = false ∧ 256 ≤ D.fs.length then D else if D.room - usd D.fs < (l.length : Int) then D else match D.fs[(fnd n D.fs 0).1]?, (fnd n D.fs 0).2 with | some f, true => D.appIs (fnd n D.fs 0).1 f l | _, _ => D.appNew (fnd n D.fs 0).1 n l
theorem RDAt.sLt {w : World} {x : Nat} {vf va : Value} {cs : List FC} {ms : List AC} {D : DV} (h : RDAt w x vf va cs ms D) {k : Nat} (hk : RdS x vf va cs k) : k < w.heap.size := by
 rcases h.sTyp hk with h | h | h | h <;> exact h.lt
theorem WL.appB {ops : Array Oper} {rest : List Oper} {o : Oper} {a : Act} {w : World} {Q : Exit → Act → World → Prop} (hw : Region.wanted o (yielded ops a.tmps) = true) (s x : Operand)
  (ho : o.op = .call { callee := .builtin .append, args := #[s, x], argTypes := #[40, 40] }) (v vx : Value) (l m : List Int)
  (hs : a.eval s = v) (hx : a.eval x = vx) (hown : Own w v l) (hrow : RowAt w vx m) (hb : l.length + m.length ≤ 140737488355328)
  (h : ∀ v' w', AppPost w v (l ++ m) v' w' → WL Tryz.prog ops Q rest (a.put o.dst v') w') : WL Tryz.prog ops Q (o :: rest) a w :=
 ⟨wpList_wanted hw fun K hK => by
  obtain ⟨v', w', hr, h2⟩ := run_app_row w o.type v vx l m hown hrow hb
  unfold Oper.wp execOp
  simp only [ho, resolve, invoke, builtin, Sem.run_bind, Sem.run_pure, Result.andThen_ok, List.map_toArray, List.map_cons, List.map_nil, hs, hx, hr]
  exact hK _ _ (h v' w' h2).out⟩
theorem ac_built1 (n : ByteArray) (a : Option Addr) (m c : Nat) : Tryz.prog.built 103 [(0, .int .i64 1), (1, .string n), (3, .slice a m c)] = some (acA ⟨1, n, 0, .slice a m c⟩) := by kernel_rfl
theorem RDAt.used {w : World} {x : Nat} {vf va : Value} {cs : List FC} {ms : List AC} {D : DV} (h : RDAt w x vf va cs ms D) (u : Int) : RDAt w x vf va cs ms { D with used := u } := ⟨h.blk, h.own, h.rcs, h.acs, h.num⟩
theorem pw_lt (D : DV) : pw D = if decide (D.fuse = 0) = true then 7 else 0 := by unfold pw; by_cases h : D.fuse = 0 <;> simp [h]
set_option maxRecDepth 8000 in
set_option maxHeartbeats 4000000 in
theorem rappend_any (x : Nat) (n : ByteArray) (v vf va : Value) (l : List Int) (cs : List FC) (ms : List AC) (D : DV) (w : World) (hD : RDAt w x vf va cs ms D) (hSr : Srt D.fs) (hNs : n.size ≤ 1000000000000000) (hL : cs.length ≤ 256) (hU : usd D.fs ≤ 1000000000000 ∧ 0 ≤ D.room ∧ D.room ≤ 9223372036854775807) (hLl : l.length ≤ 1000000000000) (hMs : ms.length ≤ 100000000000) (hFu : -9223372036854775808 < D.fuse ∧ D.fuse ≤ 9223372036854775807) (hR : RowAt w v l) (hVx : l ≠ [] → ∀ k, v.ownBlock = some k → k ≠ x) :
  Calls Tryz.prog 29 #[ptr x, .string n, v] w fun e w' => e = .returned (.int .i64 (apC D n l)) ∧ ∃ vf' va' cs' ms', RDAt w' x vf' va' cs' ms' (apD D n l) ∧ Grown w w' (RdW x vf va) ∧ ∀ k, RdS x vf' va' cs' k → RdS x vf va cs k ∨ w.heap.size ≤ k := by
 obtain ⟨ba, bc, rfl⟩ := row_form hR
 obtain ⟨vfa, vfc, rfl⟩ := hD.own.sl
 have HLn : Keep (cs.length = D.fs.length) := ⟨hD.rcs.len⟩
 have HD := Keep.mk hD
 have HSr := Keep.mk hSr
 have HNs := Keep.mk hNs
 have HL := Keep.mk hL
 have HU := Keep.mk hU
 have HLl := Keep.mk hLl
 have HMs := Keep.mk hMs
 have HFu := Keep.mk hFu
 have HR := Keep.mk hR
 have HVx := Keep.mk hVx
 clear hD hSr hNs hL hU hLl hMs hFu hR hVx
 go_enter Tryz.func29, Tryz.ntmps29
 obtain ⟨ou, hou⟩ : ∃ z, Keep (z = D.out) := ⟨_, ⟨rfl⟩⟩
 have c3 : w.cell? ⟨x, 3, none⟩ = some (.bool ou) := by rw [hou.out]; exact HD.out.blk.c 3 rfl
 obtain ⟨rg, hrg⟩ : ∃ z, Keep (z = rgt n) := ⟨_, ⟨rfl⟩⟩
 obtain ⟨i, is, hF⟩ : ∃ i b, Keep (fnd n D.fs 0 = (i, b)) := ⟨_, _, ⟨rfl⟩⟩
 refine wp_seq_k fun K1 hK1 => rgn ?_
 refine VlS (.int .i64 0) ?_
 refine WL.nil (hK1 _ _ ?_)
 refine wp_seq_k fun K2 hK2 => ?_
 refine wp_seq_k fun K3 hK3 => ?_
 cases ou
 ·skip
  refine rgn ?_
  refine VlS (.pointer (some ⟨x, 0, none⟩)) ?_
  refine VlS (.pointer (some ⟨x, 0, none⟩)) ?_
  refine VlS (.pointer (some ⟨x, 3, none⟩)) ?_
  refine VbF ?_
  refine WL.nil (hK3 _ _ ?_)
  refine wp_cond_false rfl ?_
  refine wp_skip ?_
  refine hK2 _ _ ?_
  refine wp_seq_k fun K4 hK4 => ?_
  refine wp_seq_k fun K5 hK5 => ?_
  cases rg
  ·skip
   refine rgn ?_
   refine VlS (.string n) ?_
   clear c3
   refine WL.callF (by kernel_rfl) 21 _ _ rfl Tryz.in21 #[.string n] (by simp [Act.eval]) ?_
   refine (named_any n w HNs.out).mono ?_
   rintro e w1 ⟨rfl, hw_⟩
   refine ⟨_, rfl, ?_⟩
   have hw_ := hw_.symm
   subst hw_
   rw [← hrg.out]
   simp only [Act.put, pqA, pqB, pqC]
   refine VbT ?_
   refine WL.nil (hK5 _ _ ?_)
   refine wp_cond_true rfl ?_
   refine wp_seq_k fun K6 hK6 => rgn ?_
   refine VlS (.int .i64 1) ?_
   refine WL.nil (hK6 _ _ ?_)
   refine wp_ret ?_
   go_ret
   have h : ¬ D.out = true := by rw [← hou.out]; simp
   unfold apC apD
   rw [if_neg h, if_neg h, if_pos hrg.out.symm, if_pos hrg.out.symm]
   exact ⟨rfl, _, _, _, _, HD.out, Grown.refl _ _, fun k hk => .inl hk⟩
  ·skip
   refine rgn ?_
   refine VlS (.string n) ?_
   clear c3
   refine WL.callF (by kernel_rfl) 21 _ _ rfl Tryz.in21 #[.string n] (by simp [Act.eval]) ?_
   refine (named_any n w HNs.out).mono ?_
   rintro e w1 ⟨rfl, hw_⟩
   refine ⟨_, rfl, ?_⟩
   have hw_ := hw_.symm
   subst hw_
   rw [← hrg.out]
   simp only [Act.put, pqA, pqB, pqC]
   refine VbF ?_
   refine WL.nil (hK5 _ _ ?_)
   refine wp_cond_false rfl ?_
   refine wp_skip ?_
   refine hK4 _ _ ?_
   refine wp_seq_k fun K7 hK7 => ?_
   cases is
   ·have hfd : Keep (fdI n D.fs = -1) := ⟨by unfold fdI; rw [hF.out]; simp⟩
    refine rgn ?_
    refine VlS (.pointer (some ⟨x, 0, none⟩)) ?_
    refine VlS (.string n) ?_
    refine WL.callF (by kernel_rfl) 22 _ _ rfl Tryz.in22 #[ptr x, .string n] (by simp [Act.eval]) ?_
    refine (rfind_any x n (.slice vfa cs.length vfc) va cs ms D w HD.out HSr.out (by have := HL.out; omega)).mono ?_
    rintro e w1 ⟨rfl, hw_⟩
    refine ⟨_, rfl, ?_⟩
    have hw_ := hw_.symm
    subst hw_
    rw [hfd.out]
    have c0 := HD.out.blk.c 0 (by rfl : (rdA (.slice vfa cs.length vfc) va D)[0]? = some (.slice vfa cs.length vfc))
    simp only [Act.put, pqA, pqB, pqC]
    refine VlS (.int .i64 (-1)) ?_
    refine WL.nil (hK7 _ _ ?_)
    refine wp_seq_k fun K8 hK8 => ?_
    refine wp_seq_k fun K9 hK9 => rgn ?_
    refine VlS (.int .i64 (-1)) ?_
    refine VbT ?_
    refine VbT ?_
    refine VlS (.pointer (some ⟨x, 0, none⟩)) ?_
    refine VlS (.pointer (some ⟨x, 0, none⟩)) ?_
    refine VlS (.pointer (some ⟨x, 0, none⟩)) ?_
    refine VlS (.slice vfa cs.length vfc) ?_
    refine VlS (.int .i64 (cs.length : Int)) ?_
    by_cases h6_8 : (256 : Int) ≤ (cs.length : Int)
    ·skip
     refine VbT ?_
     refine VbT ?_
     refine WL.nil (hK9 _ _ ?_)
     refine wp_cond_true rfl ?_
     refine wp_seq_k fun K10 hK10 => rgn ?_
     refine VlS (.int .i64 3) ?_
     refine WL.nil (hK10 _ _ ?_)
     refine wp_ret ?_
     go_ret
     have h : ¬ D.out = true := by rw [← hou.out]; simp
     have h2 : ¬ rgt n = false := by rw [← hrg.out]; simp
     have h3 : (fnd n D.fs 0).2 = false ∧ 256 ≤ D.fs.length := ⟨by rw [hF.out], by have := HD.out.rcs.len; omega⟩
     unfold apC apD
     rw [if_neg h, if_neg h, if_neg h2, if_neg h2, if_pos h3, if_pos h3]
     exact ⟨rfl, _, _, _, _, HD.out, Grown.refl _ _, fun k hk => .inl hk⟩
    ·skip
     refine VbF ?_
     refine VbF ?_
     refine WL.nil (hK9 _ _ ?_)
     refine wp_cond_false rfl ?_
     refine wp_skip ?_
     refine hK8 _ _ ?_
     refine wp_seq_k fun K11 hK11 => ?_
     refine wp_seq_k fun K12 hK12 => ?_
     clear c0
     have h3 : Keep (¬ ((fnd n D.fs 0).2 = false ∧ 256 ≤ D.fs.length)) := ⟨by rw [hF.out]; have := HD.out.rcs.len; simp; omega⟩
     have HD1 := Keep.mk HD.out.drew
     have G1 : Keep (Grown w w.drew fun k => k = x) := ⟨(Grown.refl w _).drew⟩
     have HR1 := Keep.mk (HR.out.gr G1.out fun hn b hb _ => HVx.out hn b hb)
     obtain ⟨us, hus⟩ : ∃ z, Keep (z = usd D.fs) := ⟨_, ⟨rfl⟩⟩
     obtain ⟨ro, hro⟩ : ∃ z, Keep (z = D.room) := ⟨_, ⟨rfl⟩⟩
     have hws : IntKind.i64.wrap (ro - us) = ro - us := by rw [IntKind.wrap_i64]; have h1 := HU.out; have h2 := usd_nonneg D.fs; rw [← hus.out] at h1 h2; rw [← hro.out] at h1; omega
     have hS0 : Keep (w.drew.cell? ⟨x, 1, none⟩ = some (.int .i64 ro)) := ⟨by rw [hro.out]; exact HD1.out.blk.c 1 rfl⟩
     refine wp_region_held_drew (S := fun wx => wx.cell? ⟨x, 1, none⟩ = some (.int .i64 ro)) (by kernel_rfl) (hS0.out) (fun hHeld => ?_)
     generalize w.drew = wx at *
     by_cases hroom : ro - us < (l.length : Int)
     ·skip
      refine TkG (i := 0) (oi := ⟨some 29, Op.move (Operand.tmp 2), 40, _, _, none⟩) (v := .slice ba l.length bc) rfl hHeld ?_
      refine TkG (i := 1) (oi := ⟨some 30, Op.call { callee := Callee.builtin Builtin.len, args := #[Operand.tmp 29], argTypes := #[40] }, 3, _, _, none⟩) (v := .int .i64 (l.length : Int)) rfl hHeld ?_
      refine TkG (i := 2) (oi := ⟨some 31, Op.move (Operand.tmp 0), 27, _, _, none⟩) (v := .pointer (some ⟨x, 0, none⟩)) rfl hHeld ?_
      refine TkG (i := 3) (oi := ⟨some 32, Op.nilCheck (Operand.tmp 31), 0, _, _, none⟩) (v := .pointer (some ⟨x, 0, none⟩)) rfl hHeld ?_
      refine TkG (i := 4) (oi := ⟨some 33, Op.fieldAddr 62 (Operand.tmp 32) 1, 0, _, _, none⟩) (v := .pointer (some ⟨x, 1, none⟩)) rfl hHeld ?_
      refine TkG (i := 5) (oi := ⟨some 34, Op.load 3 (Operand.tmp 33), 3, _, _, none⟩) (v := .int .i64 ro) rfl hHeld ?_
      refine TkG (i := 6) (oi := ⟨some 35, Op.move (Operand.tmp 0), 27, _, _, none⟩) (v := .pointer (some ⟨x, 0, none⟩)) rfl hHeld ?_
      refine wpAnyH_ready (rs := [7]) (by kernel_rfl) (by simp) ?_
      refine AllReadyH.cons (o := ⟨some 36, Op.call { callee := Callee.value (Operand.func 24), args := #[Operand.tmp 35], argTypes := #[27] }, 3, _, _, none⟩) rfl (fun K hK => ?_) AllReadyH.nil
      rw [if_pos (by rfl)]
      refine wp_callF 24 _ _ rfl Tryz.in24 #[ptr x] (by simp [Act.eval]) (fun vz wz => vz = .int .i64 us ∧ wx = wz) ?_ ?_
      ·refine (rused_any x (.slice vfa cs.length vfc) va cs ms D wx HD1.out (by have := HU.out; omega) (by have := HL.out; omega)).mono ?_
       rintro e wz ⟨rfl, h⟩
       exact ⟨_, rfl, by rw [hus.out], h.symm⟩
      rintro vz wy ⟨rfl, hy⟩
      subst hy
      refine hK _ _ (hS0.out) fun hH1 => ?_
      clear hK
      simp only [Act.put, pqA, pqB, pqC]
      refine TkG (i := 8) (oi := ⟨some 37, Op.binOp BinOp.sub 3 (Operand.tmp 34) (Operand.tmp 36) 3, 3, _, _, none⟩) (v := .int .i64 (ro - us)) rfl hH1 ?_
      refine TkG (i := 9) (oi := ⟨some 38, Op.binOp BinOp.gtr 3 (Operand.tmp 30) (Operand.tmp 37) 3, 4, _, _, none⟩) (v := .bool true) rfl hH1 ?_
      refine wpAnyH_done (by kernel_rfl) ?_ _
      refine hK12 _ _ ?_
      refine wp_cond_true rfl ?_
      refine wp_seq_k fun K13 hK13 => rgn ?_
      refine VlS (.int .i64 8) ?_
      refine WL.nil (hK13 _ _ ?_)
      refine wp_ret ?_
      go_ret
      have h : ¬ D.out = true := by rw [← hou.out]; simp
      have h2 : ¬ rgt n = false := by rw [← hrg.out]; simp
      have h4 : D.room - usd D.fs < (l.length : Int) := by rw [← hus.out, ← hro.out]; exact hroom
      unfold apC apD
      rw [if_neg h, if_neg h, if_neg h2, if_neg h2, if_neg h3.out, if_neg h3.out, if_pos h4, if_pos h4]
      exact ⟨rfl, _, _, _, _, HD1.out, G1.out.mono fun k _ e => .inl e, fun k hk => .inl hk⟩
     ·skip
      refine TkG (i := 0) (oi := ⟨some 29, Op.move (Operand.tmp 2), 40, _, _, none⟩) (v := .slice ba l.length bc) rfl hHeld ?_
      refine TkG (i := 1) (oi := ⟨some 30, Op.call { callee := Callee.builtin Builtin.len, args := #[Operand.tmp 29], argTypes := #[40] }, 3, _, _, none⟩) (v := .int .i64 (l.length : Int)) rfl hHeld ?_
      refine TkG (i := 2) (oi := ⟨some 31, Op.move (Operand.tmp 0), 27, _, _, none⟩) (v := .pointer (some ⟨x, 0, none⟩)) rfl hHeld ?_
      refine TkG (i := 3) (oi := ⟨some 32, Op.nilCheck (Operand.tmp 31), 0, _, _, none⟩) (v := .pointer (some ⟨x, 0, none⟩)) rfl hHeld ?_
      refine TkG (i := 4) (oi := ⟨some 33, Op.fieldAddr 62 (Operand.tmp 32) 1, 0, _, _, none⟩) (v := .pointer (some ⟨x, 1, none⟩)) rfl hHeld ?_
      refine TkG (i := 5) (oi := ⟨some 34, Op.load 3 (Operand.tmp 33), 3, _, _, none⟩) (v := .int .i64 ro) rfl hHeld ?_
      refine TkG (i := 6) (oi := ⟨some 35, Op.move (Operand.tmp 0), 27, _, _, none⟩) (v := .pointer (some ⟨x, 0, none⟩)) rfl hHeld ?_
      refine wpAnyH_ready (rs := [7]) (by kernel_rfl) (by simp) ?_
      refine AllReadyH.cons (o := ⟨some 36, Op.call { callee := Callee.value (Operand.func 24), args := #[Operand.tmp 35], argTypes := #[27] }, 3, _, _, none⟩) rfl (fun K hK => ?_) AllReadyH.nil
      rw [if_pos (by rfl)]
      refine wp_callF 24 _ _ rfl Tryz.in24 #[ptr x] (by simp [Act.eval]) (fun vz wz => vz = .int .i64 us ∧ wx = wz) ?_ ?_
      ·refine (rused_any x (.slice vfa cs.length vfc) va cs ms D wx HD1.out (by have := HU.out; omega) (by have := HL.out; omega)).mono ?_
       rintro e wz ⟨rfl, h⟩
       exact ⟨_, rfl, by rw [hus.out], h.symm⟩
      rintro vz wy ⟨rfl, hy⟩
      subst hy
      refine hK _ _ (hS0.out) fun hH1 => ?_
      clear hK
      simp only [Act.put, pqA, pqB, pqC]
      refine TkG (i := 8) (oi := ⟨some 37, Op.binOp BinOp.sub 3 (Operand.tmp 34) (Operand.tmp 36) 3, 3, _, _, none⟩) (v := .int .i64 (ro - us)) rfl hH1 ?_
      refine TkG (i := 9) (oi := ⟨some 38, Op.binOp BinOp.gtr 3 (Operand.tmp 30) (Operand.tmp 37) 3, 4, _, _, none⟩) (v := .bool false) rfl hH1 ?_
      refine wpAnyH_done (by kernel_rfl) ?_ _
      refine hK12 _ _ ?_
      refine wp_cond_false rfl ?_
      refine wp_skip ?_
      refine hK11 _ _ ?_
      refine wp_seq_k fun K14 hK14 => ?_
      refine wp_seq_k fun K15 hK15 => ?_
      clear hS0 hws HD
      refine rgn ?_
      refine VlS (.int .i64 (-1)) ?_
      refine VbT ?_
      refine WL.nil (hK15 _ _ ?_)
      refine wp_cond_true rfl ?_
      refine rgn ?_
      refine VlS (.pointer (some ⟨x, 0, none⟩)) ?_
      refine VlS (.string n) ?_
      refine WL.callF (by kernel_rfl) 23 _ _ rfl Tryz.in23 #[ptr x, .string n] (by simp [Act.eval]) ?_
      refine (make_any x i n (.slice vfa cs.length vfc) va cs ms D wx HD1.out HSr.out hF.out (by have := HL.out; omega)).mono ?_
      rintro e w2 ⟨rfl, vf2, hd2, hg2, hn2⟩
      refine ⟨_, rfl, ?_⟩
      have HD2 := Keep.mk hd2
      have G2 : Keep (Grown w w2 fun k => k = x) := ⟨G1.out.trans hg2⟩
      have HR2 := Keep.mk (HR1.out.gr hg2 fun hn b hb _ => HVx.out hn b hb)
      have N2 : Keep (∀ k, vf2.ownBlock = some k → w.heap.size ≤ k) := ⟨fun k hk => by have := hn2 k hk; have := G1.out.size; omega⟩
      clear hd2 hg2 hn2 HD1
      have hil : Keep (i ≤ cs.length) := ⟨by have h := fnd_le n D.fs 0; rw [hF.out] at h; have := HLn.out; simp at h; omega⟩
      obtain ⟨csi, hcsi⟩ : ∃ z, Keep (z = (cs.take i ++ [(⟨n, .slice none 0 0, 0⟩ : FC)] ++ cs.drop i)) := ⟨_, ⟨rfl⟩⟩
      rw [← hcsi.out] at HD2
      have Hc : Keep (csi[i]? = some (⟨n, .slice none 0 0, 0⟩ : FC)) := ⟨by rw [hcsi.out, ins_get _ _ _ _ hil.out, if_neg (Nat.lt_irrefl i), if_pos rfl]⟩
      obtain ⟨Di, hDi⟩ : ∃ z, Keep (z = ({ D with fs := D.fs.take i ++ [(⟨n, [], 0⟩ : PF)] ++ D.fs.drop i } : DV)) := ⟨_, ⟨rfl⟩⟩
      rw [← hDi.out] at HD2
      have Hf : Keep (Di.fs[i]? = some (⟨n, [], 0⟩ : PF)) := ⟨by rw [hDi.out]; show (D.fs.take i ++ [(⟨n, [], 0⟩ : PF)] ++ D.fs.drop i)[i]? = _; rw [ins_get _ _ _ _ (by have := HLn.out; have := hil.out; omega), if_neg (Nat.lt_irrefl i), if_pos rfl]⟩
      obtain ⟨b2, k2, e2⟩ := HD2.out.own.sl
      subst e2
      obtain ⟨g, hva, _⟩ := HD2.out.own.at Hc.out
      subst hva
      obtain ⟨ca, hca⟩ : ∃ z, Keep (z = (⟨n, .slice none 0 0, 0⟩ : FC)) := ⟨_, ⟨rfl⟩⟩
      rw [← hca.out] at Hc
      obtain ⟨fa, hfa⟩ : ∃ z, Keep (z = (⟨n, [], 0⟩ : PF)) := ⟨_, ⟨rfl⟩⟩
      rw [← hfa.out] at Hf
      have Na : Keep (∀ k, (Value.slice (some ⟨g, 0, none⟩) csi.length k2).ownBlock = some k → (Value.slice vfa cs.length vfc).ownBlock = some k ∨ w.heap.size ≤ k) := ⟨fun k hk => .inr (N2.out k hk)⟩
      have HB : Keep (fa.bs.length ≤ 1000000000000) := ⟨by rw [hfa.out]; simp⟩
      have Hgw : Keep (∀ k, k < w.heap.size → k = g → RdW x (.slice vfa cs.length vfc) va k) := ⟨fun k hk e => by have := N2.out g rfl; omega⟩
      have Ncs : Keep (∀ (j : Nat) (y : FC) (k : Nat), csi[j]? = some y → y.b.ownBlock = some k → RdS x (.slice vfa cs.length vfc) va cs k ∨ w.heap.size ≤ k) := ⟨fun j y k hj hk => by
       rw [hcsi.out, ins_get _ _ _ _ hil.out] at hj
       split at hj
       ·exact .inl (.inr ⟨_, y, hj, hk⟩)
       ·split at hj
        ·injection hj with hj; subst hj; cases hk
        ·exact .inl (.inr ⟨_, y, hj, hk⟩)⟩
      have hfuD : Keep (Di.fuse = D.fuse) := ⟨by rw [hDi.out]⟩
      simp only [Act.put, pqA, pqB, pqC]
      refine VlS (.int .i64 (i : Int)) ?_
      refine WL.nil (hK14 _ _ ?_)
      refine wp_seq_k fun K16 hK16 => rgn ?_
      refine WL.bs (by kernel_rfl) 40 0 _ rfl #[] (by simp) _ _ (bsBE w2) ?_
      have B3 := Keep.mk (below_new w2 (.cells #[] 5))
      have O3 : Keep (Own (w2.alloc (.cells #[] 5)) (.slice (some ⟨w2.heap.size, 0, none⟩) 0 0) []) := ⟨own_empty _ _ (Blk.new _ _ _)⟩
      have HD3 := Keep.mk (HD2.out.below B3.out)
      generalize w2.alloc (.cells #[] 5) = w3 at *
      obtain ⟨g3, hg3⟩ : ∃ p, Keep (p = w2.heap.size) := ⟨_, ⟨rfl⟩⟩
      rw [← hg3.out] at O3 ⊢
      have N3 : Keep (NewF w2.heap.size (.slice (some ⟨g3, 0, none⟩) 0 0)) := ⟨NewF.at (by rw [hg3.out]; exact Nat.le_refl _)⟩
      obtain ⟨ya, yc, hyb⟩ := row_form (HD3.out.rcs.each i ca fa Hc.out Hf.out).2.2.1
      have HRc : Keep (RowAt w3 (.slice ya fa.bs.length yc) fa.bs) := ⟨by rw [← hyb]; exact (HD3.out.rcs.each i ca fa Hc.out Hf.out).2.2.1⟩
      have hil2 : (i : Int) < (csi.length : Int) := by have := (List.getElem?_eq_some_iff.1 Hc.out).1; omega
      obtain ⟨g_, hg_, hr3⟩ := HD3.out.own.at Hc.out
      obtain rfl : g = g_ := by injection hg_ with h; injection h
      have cb : w3.cell? ⟨g, i * 3 + 1, none⟩ = some (.slice ya fa.bs.length yc) := by rw [← hyb]; exact hr3 1 _ rfl
      have c0 := HD3.out.blk.c 0 (by rfl : (rdA (.slice (some ⟨g, 0, none⟩) csi.length k2) va Di)[0]? = some (.slice (some ⟨g, 0, none⟩) csi.length k2))
      clear hr3 hg_ hyb HD3 hg3
      simp only [Act.put, pqA, pqB, pqC]
      refine VlS (.slice (some ⟨g3, 0, none⟩) 0 0) ?_
      refine WL.nil (hK16 _ _ ?_)
      refine wp_seq_k fun K17 hK17 => rgn ?_
      refine VlS (.slice (some ⟨g3, 0, none⟩) 0 0) ?_
      refine VlS (.pointer (some ⟨x, 0, none⟩)) ?_
      refine VlS (.pointer (some ⟨x, 0, none⟩)) ?_
      refine VlS (.pointer (some ⟨x, 0, none⟩)) ?_
      refine VlS (.slice (some ⟨g, 0, none⟩) csi.length k2) ?_
      refine VlS (.int .i64 (i : Int)) ?_
      refine VlS (.pointer (some ⟨g, i * 3, none⟩)) ?_
      refine VlS (.pointer (some ⟨g, i * 3 + 1, none⟩)) ?_
      refine VlS (.slice ya fa.bs.length yc) ?_
      refine WL.appB (by kernel_rfl) (.tmp 45) (.tmp 53) rfl (.slice (some ⟨g3, 0, none⟩) 0 0) (.slice ya fa.bs.length yc) [] fa.bs rfl rfl O3.out HRc.out (by have := HB.out; simp; omega) fun v4 w4 ha => ?_
      have O4 : Keep (Own w4 v4 fa.bs) := ⟨ha.1⟩
      have N4 : Keep (NewF w2.heap.size v4) := ⟨NewF.moved N3.out B3.out.size ha.moved⟩
      have B4 : Keep (Below w2.heap.size w2 w4) := ⟨newF_below N3.out B3.out ha.grown⟩
      clear ha O3 c0 cb HRc B3 N3
      obtain ⟨a4, n4, k4, e4⟩ := O4.out.sl
      subst e4
      simp only [Act.put, pqA, pqB, pqC]
      refine VlS (.slice a4 n4 k4) ?_
      refine WL.nil (hK17 _ _ ?_)
      refine wp_seq_k fun K18 hK18 => ?_
      have O5 : Keep (Own w4.drew (.slice a4 n4 k4) fa.bs) := ⟨O4.out⟩
      have B5 : Keep (Below w2.heap.size w2 w4.drew) := ⟨B4.out.drew⟩
      have HD5 := Keep.mk (HD2.out.below B5.out)
      have HR5 := Keep.mk (HR2.out.below B5.out)
      clear O4 B4
      refine wp_region_held_drew (S := fun wx => wx.cell? ⟨x, 0, none⟩ = some (.slice (some ⟨g, 0, none⟩) csi.length k2)) (by kernel_rfl) (HD5.out.blk.c 0 rfl) (fun hHeld => ?_)
      generalize w4.drew = w5 at *
      refine TkG (i := 0) (oi := ⟨some 55, Op.move (Operand.tmp 0), 27, _, _, none⟩) (v := .pointer (some ⟨x, 0, none⟩)) rfl hHeld ?_
      refine TkG (i := 1) (oi := ⟨some 56, Op.nilCheck (Operand.tmp 55), 0, _, _, none⟩) (v := .pointer (some ⟨x, 0, none⟩)) rfl hHeld ?_
      refine TkG (i := 2) (oi := ⟨some 57, Op.fieldAddr 62 (Operand.tmp 56) 0, 0, _, _, none⟩) (v := .pointer (some ⟨x, 0, none⟩)) rfl hHeld ?_
      refine TkG (i := 3) (oi := ⟨some 58, Op.load 22 (Operand.tmp 57), 22, _, _, none⟩) (v := .slice (some ⟨g, 0, none⟩) csi.length k2) rfl hHeld ?_
      refine TkG (i := 4) (oi := ⟨some 59, Op.move (Operand.tmp 7), 3, _, _, none⟩) (v := .int .i64 (i : Int)) rfl hHeld ?_
      refine TkG (i := 5) (oi := ⟨some 60, Op.move (Operand.tmp 8), 40, _, _, none⟩) (v := .slice a4 n4 k4) rfl hHeld ?_
      refine TkG (i := 6) (oi := ⟨some 61, Op.move (Operand.tmp 2), 40, _, _, none⟩) (v := .slice ba l.length bc) rfl hHeld ?_
      refine wpAnyH_ready (rs := [7]) (by kernel_rfl) (by simp) ?_
      refine AllReadyH.cons (o := ⟨some 62, Op.call { callee := Callee.builtin Builtin.append, args := #[Operand.tmp 60, Operand.tmp 61], argTypes := #[40, 40] }, 40, _, _, none⟩) rfl (fun K hK => ?_) AllReadyH.nil
      rw [if_pos (by rfl)]
      refine wp_app (.tmp 60) (.tmp 61) rfl (.slice a4 n4 k4) (.slice ba l.length bc) fa.bs l rfl rfl O5.out HR5.out (by have := HB.out; have := HLl.out; omega) fun v6 w6 ha => ?_
      have O6 : Keep (Own w6 v6 (fa.bs ++ l)) := ⟨ha.1⟩
      have N6 : Keep (NewF w2.heap.size v6) := ⟨NewF.moved N4.out B5.out.size ha.moved⟩
      have B6 : Keep (Below w2.heap.size w2 w6) := ⟨newF_below N4.out B5.out ha.grown⟩
      have HD6 := Keep.mk (HD2.out.below B6.out)
      clear ha O5 B5 N4 HD5 HR5
      obtain ⟨a6, n6, k6, e6⟩ := O6.out.sl
      subst e6
      refine hK _ _ (HD6.out.blk.c 0 rfl) fun hH6 => ?_
      clear hK
      simp only [Act.put, pqA, pqB, pqC]
      refine TkG (i := 8) (oi := ⟨some 63, Op.indexAddr 22 (Operand.tmp 58) (Operand.tmp 59), 0, _, _, none⟩) (v := .pointer (some ⟨g, i * 3, none⟩)) rfl hH6 ?_
      refine TkG (i := 9) (oi := ⟨some 64, Op.fieldAddr 49 (Operand.tmp 63) 1, 0, _, _, none⟩) (v := .pointer (some ⟨g, i * 3 + 1, none⟩)) rfl hH6 ?_
      refine wpAnyH_ready (rs := [10]) (by kernel_rfl) (by simp) ?_
      refine AllReadyH.cons (o := ⟨none, Op.store 40 (Operand.tmp 64) (Operand.tmp 62), 0, _, _, none⟩) rfl (fun K hK => ?_) AllReadyH.nil
      rw [if_pos (by rfl)]
      have f_o := ownF_frozen HD6.out.own (i * 3 + 1)
      have cl := (own_fc HD6.out.own Hc.out).1
      obtain ⟨yb, yn, yc, hyb⟩ := (HD6.out.rcs.each i ca fa Hc.out Hf.out).sl
      rw [hyb] at cl
      refine wp_cellS (w6.setCell ⟨g, i * 3 + 1, none⟩ (.slice a6 n6 k6)) (by go_simp) ?_
      clear f_o cl hyb
      have HD7 := Keep.mk (HD6.out.bytes Hc.out Hf.out O6.out.row (fun k hk => O6.out.typ hk))
      have G7 : Keep (Grown w (w6.setCell ⟨g, i * 3 + 1, none⟩ (.slice a6 n6 k6)) (RdW x (.slice vfa cs.length vfc) va)) := ⟨((G2.out.trans (Grown.below B6.out)).mono fun k _ e => .inl e).next (Grown.setCell w6 g (i * 3 + 1) (.slice a6 n6 k6) (S := fun k => k = g) fun _ => rfl) fun k hk e => Hgw.out k hk e⟩
      clear HD6 O6
      generalize w6.setCell ⟨g, i * 3 + 1, none⟩ (.slice a6 n6 k6) = w7 at *
      obtain ⟨cs7, hcs7⟩ : ∃ z, Keep (z = (csi.set i ⟨ca.nm, .slice a6 n6 k6, ca.sf⟩)) := ⟨_, ⟨rfl⟩⟩
      rw [← hcs7.out] at HD7
      obtain ⟨D7, hD7⟩ : ∃ z, Keep (z = ({ Di with fs := Di.fs.set i { fa with bs := fa.bs ++ l } } : DV)) := ⟨_, ⟨rfl⟩⟩
      rw [← hD7.out] at HD7
      have hfu7 : Keep (D7.fuse = D.fuse) := ⟨by rw [hD7.out]; exact hfuD.out⟩
      refine hK _ _ (HD7.out.blk.c 0 rfl) fun hH7 => ?_
      clear hK
      simp only [Act.put, pqA, pqB, pqC]
      refine wpAnyH_done (by kernel_rfl) ?_ _
      refine hK18 _ _ ?_
      refine wp_seq_k fun K19 hK19 => ?_
      refine wp_seq_k fun K20 hK20 => ?_
      obtain ⟨fz, hfz⟩ : ∃ z, Keep (z = decide (D.fuse = 0)) := ⟨_, ⟨rfl⟩⟩
      have Hpw := Keep.mk (pw_lt D)
      rw [← hfz.out] at Hpw
      cases fz
      ·skip
       refine rgn ?_
       refine VlS (.pointer (some ⟨x, 0, none⟩)) ?_
       refine VlS (.string n) ?_
       refine VlS (.slice ba l.length bc) ?_
       refine WL.bld (by kernel_rfl) 103 _ rfl [(0, .int .i64 1), (1, .string n), (3, .slice ba l.length bc)] (by simp [Act.eval]) _ (ac_built1 n ba l.length bc) ?_
       simp only [Act.put, pqA, pqB, pqC]
       refine WL.callF (by kernel_rfl) 57 _ _ rfl Tryz.in57 #[ptr x, .agg (acA (⟨1, n, 0, .slice ba l.length bc⟩ : AC))] (by simp [Act.eval]) ?_
       refine (goes_any x (.slice (some ⟨g, 0, none⟩) csi.length k2) va cs7 ms D7 (⟨1, n, 0, .slice ba l.length bc⟩ : AC) ⟨ba, _, bc, rfl⟩ w7 HD7.out HMs.out (by rw [hfu7.out]; exact HFu.out)).mono ?_
       rintro e w8 ⟨rfl, va8, hd8, hg8, hn8⟩
       refine ⟨_, rfl, ?_⟩
       have HD8 := Keep.mk hd8
       have G8 : Keep (Grown w w8 (RdW x (.slice vfa cs.length vfc) va)) := ⟨G7.out.next hg8 fun k _ e => e.elim .inl fun e => .inr (.inr e)⟩
       have N8 : Keep (∀ k, va8.ownBlock = some k → va.ownBlock = some k ∨ w.heap.size ≤ k) := ⟨fun k hk => (hn8 k hk).imp id fun h => by have := G7.out.size; omega⟩
       clear hd8 hg8 hn8 HD7 G7
       rw [hfu7.out, ← hfz.out]
       simp only [Act.put, pqA, pqB, pqC]
       refine WL.nil (hK20 _ _ ?_)
       refine wp_cond_false rfl ?_
       refine wp_skip ?_
       refine hK19 _ _ ?_
       refine wp_seq_k fun K21 hK21 => rgn ?_
       refine VlS (.int .i64 0) ?_
       refine WL.nil (hK21 _ _ ?_)
       refine wp_ret ?_
       go_ret
       have h : ¬ D.out = true := by rw [← hou.out]; simp
       have h2 : ¬ rgt n = false := by rw [← hrg.out]; simp
       have h4 : ¬ D.room - usd D.fs < (l.length : Int) := by rw [← hus.out, ← hro.out]; exact hroom
       have ha : apD D n l = D.appNew i n l := by unfold apD; rw [if_neg h, if_neg h2, if_neg h3.out, if_neg h4, hF.out]; show (match D.fs[i]?, false with | some f, true => D.appIs i f l | _, _ => D.appNew i n l) = _; cases D.fs[i]? <;> rfl
       have e8 : D.appNew i n l = { D7.act with used := D.used + (l.length : Int) } := by
        rw [hD7.out, hDi.out, hfa.out]
        show DV.act { D with fs := D.fs.take i ++ [(⟨n, l, 0⟩ : PF)] ++ D.fs.drop i, used := D.used + (l.length : Int) } = { DV.act { D with fs := (D.fs.take i ++ [(⟨n, [], 0⟩ : PF)] ++ D.fs.drop i).set i (⟨n, [] ++ l, 0⟩ : PF) } with used := D.used + (l.length : Int) }
        rw [ins_set _ _ _ _ (by have := HLn.out; have := hil.out; omega), List.nil_append]
        rfl
       unfold apC
       rw [if_neg h, if_neg h2, if_neg h3.out, if_neg h4, ha, e8, Hpw.out]
       refine ⟨by simp, _, _, _, _, HD8.out.used _, G8.out, fun k hk => ?_⟩
       rcases hk with (rfl | hk | hk) | ⟨j, y, hj, hk⟩
       ·exact .inl (.inl (.inl rfl))
       ·exact (Na.out k hk).imp (fun h => .inl (.inr (.inl h))) id
       ·exact (N8.out k hk).imp (fun h => .inl (.inr (.inr h))) id
       ·rw [hcs7.out, List.getElem?_set] at hj
        split at hj
        ·split at hj
         ·injection hj with hj
          subst hj
          exact .inr (Nat.le_trans G2.out.size (N6.out k hk))
         ·cases hj
        ·exact Ncs.out j y k hj hk
      ·skip
       refine rgn ?_
       refine VlS (.pointer (some ⟨x, 0, none⟩)) ?_
       refine VlS (.string n) ?_
       refine VlS (.slice ba l.length bc) ?_
       refine WL.bld (by kernel_rfl) 103 _ rfl [(0, .int .i64 1), (1, .string n), (3, .slice ba l.length bc)] (by simp [Act.eval]) _ (ac_built1 n ba l.length bc) ?_
       simp only [Act.put, pqA, pqB, pqC]
       refine WL.callF (by kernel_rfl) 57 _ _ rfl Tryz.in57 #[ptr x, .agg (acA (⟨1, n, 0, .slice ba l.length bc⟩ : AC))] (by simp [Act.eval]) ?_
       refine (goes_any x (.slice (some ⟨g, 0, none⟩) csi.length k2) va cs7 ms D7 (⟨1, n, 0, .slice ba l.length bc⟩ : AC) ⟨ba, _, bc, rfl⟩ w7 HD7.out HMs.out (by rw [hfu7.out]; exact HFu.out)).mono ?_
       rintro e w8 ⟨rfl, va8, hd8, hg8, hn8⟩
       refine ⟨_, rfl, ?_⟩
       have HD8 := Keep.mk hd8
       have G8 : Keep (Grown w w8 (RdW x (.slice vfa cs.length vfc) va)) := ⟨G7.out.next hg8 fun k _ e => e.elim .inl fun e => .inr (.inr e)⟩
       have N8 : Keep (∀ k, va8.ownBlock = some k → va.ownBlock = some k ∨ w.heap.size ≤ k) := ⟨fun k hk => (hn8 k hk).imp id fun h => by have := G7.out.size; omega⟩
       clear hd8 hg8 hn8 HD7 G7
       rw [hfu7.out, ← hfz.out]
       simp only [Act.put, pqA, pqB, pqC]
       refine WL.nil (hK20 _ _ ?_)
       refine wp_cond_true rfl ?_
       refine wp_seq_k fun K22 hK22 => rgn ?_
       refine VlS (.int .i64 7) ?_
       refine WL.nil (hK22 _ _ ?_)
       refine wp_ret ?_
       go_ret
       have h : ¬ D.out = true := by rw [← hou.out]; simp
       have h2 : ¬ rgt n = false := by rw [← hrg.out]; simp
       have h4 : ¬ D.room - usd D.fs < (l.length : Int) := by rw [← hus.out, ← hro.out]; exact hroom
       have ha : apD D n l = D.appNew i n l := by unfold apD; rw [if_neg h, if_neg h2, if_neg h3.out, if_neg h4, hF.out]; show (match D.fs[i]?, false with | some f, true => D.appIs i f l | _, _ => D.appNew i n l) = _; cases D.fs[i]? <;> rfl
       have e8 : D.appNew i n l = { D7.act with used := D.used + (l.length : Int) } := by
        rw [hD7.out, hDi.out, hfa.out]
        show DV.act { D with fs := D.fs.take i ++ [(⟨n, l, 0⟩ : PF)] ++ D.fs.drop i, used := D.used + (l.length : Int) } = { DV.act { D with fs := (D.fs.take i ++ [(⟨n, [], 0⟩ : PF)] ++ D.fs.drop i).set i (⟨n, [] ++ l, 0⟩ : PF) } with used := D.used + (l.length : Int) }
        rw [ins_set _ _ _ _ (by have := HLn.out; have := hil.out; omega), List.nil_append]
        rfl
       unfold apC
       rw [if_neg h, if_neg h2, if_neg h3.out, if_neg h4, ha, e8, Hpw.out]
       refine ⟨by simp, _, _, _, _, HD8.out.used _, G8.out, fun k hk => ?_⟩
       rcases hk with (rfl | hk | hk) | ⟨j, y, hj, hk⟩
       ·exact .inl (.inl (.inl rfl))
       ·exact (Na.out k hk).imp (fun h => .inl (.inr (.inl h))) id
       ·exact (N8.out k hk).imp (fun h => .inl (.inr (.inr h))) id
       ·rw [hcs7.out, List.getElem?_set] at hj
        split at hj
        ·split at hj
         ·injection hj with hj
          subst hj
          exact .inr (Nat.le_trans G2.out.size (N6.out k hk))
         ·cases hj
        ·exact Ncs.out j y k hj hk
   ·have hfd : Keep (fdI n D.fs = (i : Int)) := ⟨by unfold fdI; rw [hF.out]; simp⟩
    have hi0 : ¬ (i : Int) < 0 := by omega
    refine rgn ?_
    refine VlS (.pointer (some ⟨x, 0, none⟩)) ?_
    refine VlS (.string n) ?_
    refine WL.callF (by kernel_rfl) 22 _ _ rfl Tryz.in22 #[ptr x, .string n] (by simp [Act.eval]) ?_
    refine (rfind_any x n (.slice vfa cs.length vfc) va cs ms D w HD.out HSr.out (by have := HL.out; omega)).mono ?_
    rintro e w1 ⟨rfl, hw_⟩
    refine ⟨_, rfl, ?_⟩
    have hw_ := hw_.symm
    subst hw_
    rw [hfd.out]
    simp only [Act.put, pqA, pqB, pqC]
    refine VlS (.int .i64 (i : Int)) ?_
    refine WL.nil (hK7 _ _ ?_)
    refine wp_seq_k fun K23 hK23 => ?_
    refine wp_seq_k fun K24 hK24 => rgn ?_
    refine VlS (.int .i64 (i : Int)) ?_
    refine VbF ?_
    refine VbF ?_
    refine SkS ?_
    refine SkS ?_
    refine SkS ?_
    refine SkS ?_
    refine SkS ?_
    refine SkS ?_
    refine VbF ?_
    refine WL.nil (hK24 _ _ ?_)
    refine wp_cond_false rfl ?_
    refine wp_skip ?_
    refine hK23 _ _ ?_
    refine wp_seq_k fun K25 hK25 => ?_
    refine wp_seq_k fun K26 hK26 => ?_
    have h3 : Keep (¬ ((fnd n D.fs 0).2 = false ∧ 256 ≤ D.fs.length)) := ⟨by rw [hF.out]; simp⟩
    have HD1 := Keep.mk HD.out.drew
    have G1 : Keep (Grown w w.drew fun k => k = x) := ⟨(Grown.refl w _).drew⟩
    have HR1 := Keep.mk (HR.out.gr G1.out fun hn b hb _ => HVx.out hn b hb)
    obtain ⟨us, hus⟩ : ∃ z, Keep (z = usd D.fs) := ⟨_, ⟨rfl⟩⟩
    obtain ⟨ro, hro⟩ : ∃ z, Keep (z = D.room) := ⟨_, ⟨rfl⟩⟩
    have hws : IntKind.i64.wrap (ro - us) = ro - us := by rw [IntKind.wrap_i64]; have h1 := HU.out; have h2 := usd_nonneg D.fs; rw [← hus.out] at h1 h2; rw [← hro.out] at h1; omega
    have hS0 : Keep (w.drew.cell? ⟨x, 1, none⟩ = some (.int .i64 ro)) := ⟨by rw [hro.out]; exact HD1.out.blk.c 1 rfl⟩
    refine wp_region_held_drew (S := fun wx => wx.cell? ⟨x, 1, none⟩ = some (.int .i64 ro)) (by kernel_rfl) (hS0.out) (fun hHeld => ?_)
    generalize w.drew = wx at *
    by_cases hroom : ro - us < (l.length : Int)
    ·skip
     refine TkG (i := 0) (oi := ⟨some 29, Op.move (Operand.tmp 2), 40, _, _, none⟩) (v := .slice ba l.length bc) rfl hHeld ?_
     refine TkG (i := 1) (oi := ⟨some 30, Op.call { callee := Callee.builtin Builtin.len, args := #[Operand.tmp 29], argTypes := #[40] }, 3, _, _, none⟩) (v := .int .i64 (l.length : Int)) rfl hHeld ?_
     refine TkG (i := 2) (oi := ⟨some 31, Op.move (Operand.tmp 0), 27, _, _, none⟩) (v := .pointer (some ⟨x, 0, none⟩)) rfl hHeld ?_
     refine TkG (i := 3) (oi := ⟨some 32, Op.nilCheck (Operand.tmp 31), 0, _, _, none⟩) (v := .pointer (some ⟨x, 0, none⟩)) rfl hHeld ?_
     refine TkG (i := 4) (oi := ⟨some 33, Op.fieldAddr 62 (Operand.tmp 32) 1, 0, _, _, none⟩) (v := .pointer (some ⟨x, 1, none⟩)) rfl hHeld ?_
     refine TkG (i := 5) (oi := ⟨some 34, Op.load 3 (Operand.tmp 33), 3, _, _, none⟩) (v := .int .i64 ro) rfl hHeld ?_
     refine TkG (i := 6) (oi := ⟨some 35, Op.move (Operand.tmp 0), 27, _, _, none⟩) (v := .pointer (some ⟨x, 0, none⟩)) rfl hHeld ?_
     refine wpAnyH_ready (rs := [7]) (by kernel_rfl) (by simp) ?_
     refine AllReadyH.cons (o := ⟨some 36, Op.call { callee := Callee.value (Operand.func 24), args := #[Operand.tmp 35], argTypes := #[27] }, 3, _, _, none⟩) rfl (fun K hK => ?_) AllReadyH.nil
     rw [if_pos (by rfl)]
     refine wp_callF 24 _ _ rfl Tryz.in24 #[ptr x] (by simp [Act.eval]) (fun vz wz => vz = .int .i64 us ∧ wx = wz) ?_ ?_
     ·refine (rused_any x (.slice vfa cs.length vfc) va cs ms D wx HD1.out (by have := HU.out; omega) (by have := HL.out; omega)).mono ?_
      rintro e wz ⟨rfl, h⟩
      exact ⟨_, rfl, by rw [hus.out], h.symm⟩
     rintro vz wy ⟨rfl, hy⟩
     subst hy
     refine hK _ _ (hS0.out) fun hH1 => ?_
     clear hK
     simp only [Act.put, pqA, pqB, pqC]
     refine TkG (i := 8) (oi := ⟨some 37, Op.binOp BinOp.sub 3 (Operand.tmp 34) (Operand.tmp 36) 3, 3, _, _, none⟩) (v := .int .i64 (ro - us)) rfl hH1 ?_
     refine TkG (i := 9) (oi := ⟨some 38, Op.binOp BinOp.gtr 3 (Operand.tmp 30) (Operand.tmp 37) 3, 4, _, _, none⟩) (v := .bool true) rfl hH1 ?_
     refine wpAnyH_done (by kernel_rfl) ?_ _
     refine hK26 _ _ ?_
     refine wp_cond_true rfl ?_
     refine wp_seq_k fun K27 hK27 => rgn ?_
     refine VlS (.int .i64 8) ?_
     refine WL.nil (hK27 _ _ ?_)
     refine wp_ret ?_
     go_ret
     have h : ¬ D.out = true := by rw [← hou.out]; simp
     have h2 : ¬ rgt n = false := by rw [← hrg.out]; simp
     have h4 : D.room - usd D.fs < (l.length : Int) := by rw [← hus.out, ← hro.out]; exact hroom
     unfold apC apD
     rw [if_neg h, if_neg h, if_neg h2, if_neg h2, if_neg h3.out, if_neg h3.out, if_pos h4, if_pos h4]
     exact ⟨rfl, _, _, _, _, HD1.out, G1.out.mono fun k _ e => .inl e, fun k hk => .inl hk⟩
    ·skip
     refine TkG (i := 0) (oi := ⟨some 29, Op.move (Operand.tmp 2), 40, _, _, none⟩) (v := .slice ba l.length bc) rfl hHeld ?_
     refine TkG (i := 1) (oi := ⟨some 30, Op.call { callee := Callee.builtin Builtin.len, args := #[Operand.tmp 29], argTypes := #[40] }, 3, _, _, none⟩) (v := .int .i64 (l.length : Int)) rfl hHeld ?_
     refine TkG (i := 2) (oi := ⟨some 31, Op.move (Operand.tmp 0), 27, _, _, none⟩) (v := .pointer (some ⟨x, 0, none⟩)) rfl hHeld ?_
     refine TkG (i := 3) (oi := ⟨some 32, Op.nilCheck (Operand.tmp 31), 0, _, _, none⟩) (v := .pointer (some ⟨x, 0, none⟩)) rfl hHeld ?_
     refine TkG (i := 4) (oi := ⟨some 33, Op.fieldAddr 62 (Operand.tmp 32) 1, 0, _, _, none⟩) (v := .pointer (some ⟨x, 1, none⟩)) rfl hHeld ?_
     refine TkG (i := 5) (oi := ⟨some 34, Op.load 3 (Operand.tmp 33), 3, _, _, none⟩) (v := .int .i64 ro) rfl hHeld ?_
     refine TkG (i := 6) (oi := ⟨some 35, Op.move (Operand.tmp 0), 27, _, _, none⟩) (v := .pointer (some ⟨x, 0, none⟩)) rfl hHeld ?_
     refine wpAnyH_ready (rs := [7]) (by kernel_rfl) (by simp) ?_
     refine AllReadyH.cons (o := ⟨some 36, Op.call { callee := Callee.value (Operand.func 24), args := #[Operand.tmp 35], argTypes := #[27] }, 3, _, _, none⟩) rfl (fun K hK => ?_) AllReadyH.nil
     rw [if_pos (by rfl)]
     refine wp_callF 24 _ _ rfl Tryz.in24 #[ptr x] (by simp [Act.eval]) (fun vz wz => vz = .int .i64 us ∧ wx = wz) ?_ ?_
     ·refine (rused_any x (.slice vfa cs.length vfc) va cs ms D wx HD1.out (by have := HU.out; omega) (by have := HL.out; omega)).mono ?_
      rintro e wz ⟨rfl, h⟩
      exact ⟨_, rfl, by rw [hus.out], h.symm⟩
     rintro vz wy ⟨rfl, hy⟩
     subst hy
     refine hK _ _ (hS0.out) fun hH1 => ?_
     clear hK
     simp only [Act.put, pqA, pqB, pqC]
     refine TkG (i := 8) (oi := ⟨some 37, Op.binOp BinOp.sub 3 (Operand.tmp 34) (Operand.tmp 36) 3, 3, _, _, none⟩) (v := .int .i64 (ro - us)) rfl hH1 ?_
     refine TkG (i := 9) (oi := ⟨some 38, Op.binOp BinOp.gtr 3 (Operand.tmp 30) (Operand.tmp 37) 3, 4, _, _, none⟩) (v := .bool false) rfl hH1 ?_
     refine wpAnyH_done (by kernel_rfl) ?_ _
     refine hK26 _ _ ?_
     refine wp_cond_false rfl ?_
     refine wp_skip ?_
     refine hK25 _ _ ?_
     refine wp_seq_k fun K28 hK28 => ?_
     refine wp_seq_k fun K29 hK29 => ?_
     clear hS0 hws HD
     obtain ⟨fa, Hf⟩ : ∃ f, Keep (D.fs[i]? = some f) := by
      obtain ⟨j, f, h1, h2⟩ := fnd_at n D.fs 0 (by rw [hF.out])
      rw [hF.out] at h1
      simp at h1
      subst h1
      exact ⟨f, ⟨h2⟩⟩
     have hil : Keep (i < cs.length) := ⟨by have := (List.getElem?_eq_some_iff.1 Hf.out).1; have := HD1.out.rcs.len; omega⟩
     obtain ⟨ca, Hc⟩ : ∃ z, Keep (cs[i]? = some z) := ⟨cs[i]'hil.out, ⟨List.getElem?_eq_getElem _⟩⟩
     obtain ⟨g, hva, _⟩ := HD1.out.own.at Hc.out
     subst hva
     have Na : Keep (∀ k, (Value.slice (some ⟨g, 0, none⟩) cs.length vfc).ownBlock = some k → (Value.slice (some ⟨g, 0, none⟩) cs.length vfc).ownBlock = some k ∨ w.heap.size ≤ k) := ⟨fun k hk => .inl hk⟩
     have HB : Keep (fa.bs.length ≤ 1000000000000) := ⟨by have := usd_at Hf.out; have := HU.out; omega⟩
     have Hgw : Keep (∀ k, k < w.heap.size → k = g → RdW x (.slice (some ⟨g, 0, none⟩) cs.length vfc) va k) := ⟨fun k _ e => .inr (.inl (by rw [e]; rfl))⟩
     have Ncs : Keep (∀ (j : Nat) (y : FC) (k : Nat), cs[j]? = some y → y.b.ownBlock = some k → RdS x (.slice (some ⟨g, 0, none⟩) cs.length vfc) va cs k ∨ w.heap.size ≤ k) := ⟨fun j y k hj hk => .inl (.inr ⟨j, y, hj, hk⟩)⟩
     refine rgn ?_
     refine VlS (.int .i64 (i : Int)) ?_
     refine VbF ?_
     refine WL.nil (hK29 _ _ ?_)
     refine wp_cond_false rfl ?_
     refine wp_skip ?_
     refine hK28 _ _ ?_
     refine wp_seq_k fun K30 hK30 => rgn ?_
     refine WL.bs (by kernel_rfl) 40 0 _ rfl #[] (by simp) _ _ (bsBE wx) ?_
     have B3 := Keep.mk (below_new wx (.cells #[] 5))
     have O3 : Keep (Own (wx.alloc (.cells #[] 5)) (.slice (some ⟨wx.heap.size, 0, none⟩) 0 0) []) := ⟨own_empty _ _ (Blk.new _ _ _)⟩
     have HD3 := Keep.mk (HD1.out.below B3.out)
     generalize wx.alloc (.cells #[] 5) = w3 at *
     obtain ⟨g3, hg3⟩ : ∃ p, Keep (p = wx.heap.size) := ⟨_, ⟨rfl⟩⟩
     rw [← hg3.out] at O3 ⊢
     have N3 : Keep (NewF wx.heap.size (.slice (some ⟨g3, 0, none⟩) 0 0)) := ⟨NewF.at (by rw [hg3.out]; exact Nat.le_refl _)⟩
     obtain ⟨ya, yc, hyb⟩ := row_form (HD3.out.rcs.each i ca fa Hc.out Hf.out).2.2.1
     have HRc : Keep (RowAt w3 (.slice ya fa.bs.length yc) fa.bs) := ⟨by rw [← hyb]; exact (HD3.out.rcs.each i ca fa Hc.out Hf.out).2.2.1⟩
     have hil2 : (i : Int) < (cs.length : Int) := by have := (List.getElem?_eq_some_iff.1 Hc.out).1; omega
     obtain ⟨g_, hg_, hr3⟩ := HD3.out.own.at Hc.out
     obtain rfl : g = g_ := by injection hg_ with h; injection h
     have cb : w3.cell? ⟨g, i * 3 + 1, none⟩ = some (.slice ya fa.bs.length yc) := by rw [← hyb]; exact hr3 1 _ rfl
     have c0 := HD3.out.blk.c 0 (by rfl : (rdA (.slice (some ⟨g, 0, none⟩) cs.length vfc) va D)[0]? = some (.slice (some ⟨g, 0, none⟩) cs.length vfc))
     clear hr3 hg_ hyb HD3 hg3
     simp only [Act.put, pqA, pqB, pqC]
     refine VlS (.slice (some ⟨g3, 0, none⟩) 0 0) ?_
     refine WL.nil (hK30 _ _ ?_)
     refine wp_seq_k fun K31 hK31 => rgn ?_
     refine VlS (.slice (some ⟨g3, 0, none⟩) 0 0) ?_
     refine VlS (.pointer (some ⟨x, 0, none⟩)) ?_
     refine VlS (.pointer (some ⟨x, 0, none⟩)) ?_
     refine VlS (.pointer (some ⟨x, 0, none⟩)) ?_
     refine VlS (.slice (some ⟨g, 0, none⟩) cs.length vfc) ?_
     refine VlS (.int .i64 (i : Int)) ?_
     refine VlS (.pointer (some ⟨g, i * 3, none⟩)) ?_
     refine VlS (.pointer (some ⟨g, i * 3 + 1, none⟩)) ?_
     refine VlS (.slice ya fa.bs.length yc) ?_
     refine WL.appB (by kernel_rfl) (.tmp 45) (.tmp 53) rfl (.slice (some ⟨g3, 0, none⟩) 0 0) (.slice ya fa.bs.length yc) [] fa.bs rfl rfl O3.out HRc.out (by have := HB.out; simp; omega) fun v4 w4 ha => ?_
     have O4 : Keep (Own w4 v4 fa.bs) := ⟨ha.1⟩
     have N4 : Keep (NewF wx.heap.size v4) := ⟨NewF.moved N3.out B3.out.size ha.moved⟩
     have B4 : Keep (Below wx.heap.size wx w4) := ⟨newF_below N3.out B3.out ha.grown⟩
     clear ha O3 c0 cb HRc B3 N3
     obtain ⟨a4, n4, k4, e4⟩ := O4.out.sl
     subst e4
     simp only [Act.put, pqA, pqB, pqC]
     refine VlS (.slice a4 n4 k4) ?_
     refine WL.nil (hK31 _ _ ?_)
     refine wp_seq_k fun K32 hK32 => ?_
     have O5 : Keep (Own w4.drew (.slice a4 n4 k4) fa.bs) := ⟨O4.out⟩
     have B5 : Keep (Below wx.heap.size wx w4.drew) := ⟨B4.out.drew⟩
     have HD5 := Keep.mk (HD1.out.below B5.out)
     have HR5 := Keep.mk (HR1.out.below B5.out)
     clear O4 B4
     refine wp_region_held_drew (S := fun wx => wx.cell? ⟨x, 0, none⟩ = some (.slice (some ⟨g, 0, none⟩) cs.length vfc)) (by kernel_rfl) (HD5.out.blk.c 0 rfl) (fun hHeld => ?_)
     generalize w4.drew = w5 at *
     refine TkG (i := 0) (oi := ⟨some 55, Op.move (Operand.tmp 0), 27, _, _, none⟩) (v := .pointer (some ⟨x, 0, none⟩)) rfl hHeld ?_
     refine TkG (i := 1) (oi := ⟨some 56, Op.nilCheck (Operand.tmp 55), 0, _, _, none⟩) (v := .pointer (some ⟨x, 0, none⟩)) rfl hHeld ?_
     refine TkG (i := 2) (oi := ⟨some 57, Op.fieldAddr 62 (Operand.tmp 56) 0, 0, _, _, none⟩) (v := .pointer (some ⟨x, 0, none⟩)) rfl hHeld ?_
     refine TkG (i := 3) (oi := ⟨some 58, Op.load 22 (Operand.tmp 57), 22, _, _, none⟩) (v := .slice (some ⟨g, 0, none⟩) cs.length vfc) rfl hHeld ?_
     refine TkG (i := 4) (oi := ⟨some 59, Op.move (Operand.tmp 7), 3, _, _, none⟩) (v := .int .i64 (i : Int)) rfl hHeld ?_
     refine TkG (i := 5) (oi := ⟨some 60, Op.move (Operand.tmp 8), 40, _, _, none⟩) (v := .slice a4 n4 k4) rfl hHeld ?_
     refine TkG (i := 6) (oi := ⟨some 61, Op.move (Operand.tmp 2), 40, _, _, none⟩) (v := .slice ba l.length bc) rfl hHeld ?_
     refine wpAnyH_ready (rs := [7]) (by kernel_rfl) (by simp) ?_
     refine AllReadyH.cons (o := ⟨some 62, Op.call { callee := Callee.builtin Builtin.append, args := #[Operand.tmp 60, Operand.tmp 61], argTypes := #[40, 40] }, 40, _, _, none⟩) rfl (fun K hK => ?_) AllReadyH.nil
     rw [if_pos (by rfl)]
     refine wp_app (.tmp 60) (.tmp 61) rfl (.slice a4 n4 k4) (.slice ba l.length bc) fa.bs l rfl rfl O5.out HR5.out (by have := HB.out; have := HLl.out; omega) fun v6 w6 ha => ?_
     have O6 : Keep (Own w6 v6 (fa.bs ++ l)) := ⟨ha.1⟩
     have N6 : Keep (NewF wx.heap.size v6) := ⟨NewF.moved N4.out B5.out.size ha.moved⟩
     have B6 : Keep (Below wx.heap.size wx w6) := ⟨newF_below N4.out B5.out ha.grown⟩
     have HD6 := Keep.mk (HD1.out.below B6.out)
     clear ha O5 B5 N4 HD5 HR5
     obtain ⟨a6, n6, k6, e6⟩ := O6.out.sl
     subst e6
     refine hK _ _ (HD6.out.blk.c 0 rfl) fun hH6 => ?_
     clear hK
     simp only [Act.put, pqA, pqB, pqC]
     refine TkG (i := 8) (oi := ⟨some 63, Op.indexAddr 22 (Operand.tmp 58) (Operand.tmp 59), 0, _, _, none⟩) (v := .pointer (some ⟨g, i * 3, none⟩)) rfl hH6 ?_
     refine TkG (i := 9) (oi := ⟨some 64, Op.fieldAddr 49 (Operand.tmp 63) 1, 0, _, _, none⟩) (v := .pointer (some ⟨g, i * 3 + 1, none⟩)) rfl hH6 ?_
     refine wpAnyH_ready (rs := [10]) (by kernel_rfl) (by simp) ?_
     refine AllReadyH.cons (o := ⟨none, Op.store 40 (Operand.tmp 64) (Operand.tmp 62), 0, _, _, none⟩) rfl (fun K hK => ?_) AllReadyH.nil
     rw [if_pos (by rfl)]
     have f_o := ownF_frozen HD6.out.own (i * 3 + 1)
     have cl := (own_fc HD6.out.own Hc.out).1
     obtain ⟨yb, yn, yc, hyb⟩ := (HD6.out.rcs.each i ca fa Hc.out Hf.out).sl
     rw [hyb] at cl
     refine wp_cellS (w6.setCell ⟨g, i * 3 + 1, none⟩ (.slice a6 n6 k6)) (by go_simp) ?_
     clear f_o cl hyb
     have HD7 := Keep.mk (HD6.out.bytes Hc.out Hf.out O6.out.row (fun k hk => O6.out.typ hk))
     have G7 : Keep (Grown w (w6.setCell ⟨g, i * 3 + 1, none⟩ (.slice a6 n6 k6)) (RdW x (.slice (some ⟨g, 0, none⟩) cs.length vfc) va)) := ⟨((G1.out.trans (Grown.below B6.out)).mono fun k _ e => .inl e).next (Grown.setCell w6 g (i * 3 + 1) (.slice a6 n6 k6) (S := fun k => k = g) fun _ => rfl) fun k hk e => Hgw.out k hk e⟩
     clear HD6 O6
     generalize w6.setCell ⟨g, i * 3 + 1, none⟩ (.slice a6 n6 k6) = w7 at *
     obtain ⟨cs7, hcs7⟩ : ∃ z, Keep (z = (cs.set i ⟨ca.nm, .slice a6 n6 k6, ca.sf⟩)) := ⟨_, ⟨rfl⟩⟩
     rw [← hcs7.out] at HD7
     obtain ⟨D7, hD7⟩ : ∃ z, Keep (z = ({ D with fs := D.fs.set i { fa with bs := fa.bs ++ l } } : DV)) := ⟨_, ⟨rfl⟩⟩
     rw [← hD7.out] at HD7
     have hfu7 : Keep (D7.fuse = D.fuse) := ⟨by rw [hD7.out]⟩
     refine hK _ _ (HD7.out.blk.c 0 rfl) fun hH7 => ?_
     clear hK
     simp only [Act.put, pqA, pqB, pqC]
     refine wpAnyH_done (by kernel_rfl) ?_ _
     refine hK32 _ _ ?_
     refine wp_seq_k fun K33 hK33 => ?_
     refine wp_seq_k fun K34 hK34 => ?_
     obtain ⟨fz, hfz⟩ : ∃ z, Keep (z = decide (D.fuse = 0)) := ⟨_, ⟨rfl⟩⟩
     have Hpw := Keep.mk (pw_lt D)
     rw [← hfz.out] at Hpw
     cases fz
     ·skip
      refine rgn ?_
      refine VlS (.pointer (some ⟨x, 0, none⟩)) ?_
      refine VlS (.string n) ?_
      refine VlS (.slice ba l.length bc) ?_
      refine WL.bld (by kernel_rfl) 103 _ rfl [(0, .int .i64 1), (1, .string n), (3, .slice ba l.length bc)] (by simp [Act.eval]) _ (ac_built1 n ba l.length bc) ?_
      simp only [Act.put, pqA, pqB, pqC]
      refine WL.callF (by kernel_rfl) 57 _ _ rfl Tryz.in57 #[ptr x, .agg (acA (⟨1, n, 0, .slice ba l.length bc⟩ : AC))] (by simp [Act.eval]) ?_
      refine (goes_any x (.slice (some ⟨g, 0, none⟩) cs.length vfc) va cs7 ms D7 (⟨1, n, 0, .slice ba l.length bc⟩ : AC) ⟨ba, _, bc, rfl⟩ w7 HD7.out HMs.out (by rw [hfu7.out]; exact HFu.out)).mono ?_
      rintro e w8 ⟨rfl, va8, hd8, hg8, hn8⟩
      refine ⟨_, rfl, ?_⟩
      have HD8 := Keep.mk hd8
      have G8 : Keep (Grown w w8 (RdW x (.slice (some ⟨g, 0, none⟩) cs.length vfc) va)) := ⟨G7.out.next hg8 fun k _ e => e.elim .inl fun e => .inr (.inr e)⟩
      have N8 : Keep (∀ k, va8.ownBlock = some k → va.ownBlock = some k ∨ w.heap.size ≤ k) := ⟨fun k hk => (hn8 k hk).imp id fun h => by have := G7.out.size; omega⟩
      clear hd8 hg8 hn8 HD7 G7
      rw [hfu7.out, ← hfz.out]
      simp only [Act.put, pqA, pqB, pqC]
      refine WL.nil (hK34 _ _ ?_)
      refine wp_cond_false rfl ?_
      refine wp_skip ?_
      refine hK33 _ _ ?_
      refine wp_seq_k fun K35 hK35 => rgn ?_
      refine VlS (.int .i64 0) ?_
      refine WL.nil (hK35 _ _ ?_)
      refine wp_ret ?_
      go_ret
      have h : ¬ D.out = true := by rw [← hou.out]; simp
      have h2 : ¬ rgt n = false := by rw [← hrg.out]; simp
      have h4 : ¬ D.room - usd D.fs < (l.length : Int) := by rw [← hus.out, ← hro.out]; exact hroom
      have ha : apD D n l = D.appIs i fa l := by unfold apD; rw [if_neg h, if_neg h2, if_neg h3.out, if_neg h4, hF.out]; show (match D.fs[i]?, true with | some f, true => D.appIs i f l | _, _ => D.appNew i n l) = _; rw [Hf.out]
      have e8 : D.appIs i fa l = { D7.act with used := D.used + (l.length : Int) } := by rw [hD7.out]; rfl
      unfold apC
      rw [if_neg h, if_neg h2, if_neg h3.out, if_neg h4, ha, e8, Hpw.out]
      refine ⟨by simp, _, _, _, _, HD8.out.used _, G8.out, fun k hk => ?_⟩
      rcases hk with (rfl | hk | hk) | ⟨j, y, hj, hk⟩
      ·exact .inl (.inl (.inl rfl))
      ·exact (Na.out k hk).imp (fun h => .inl (.inr (.inl h))) id
      ·exact (N8.out k hk).imp (fun h => .inl (.inr (.inr h))) id
      ·rw [hcs7.out, List.getElem?_set] at hj
       split at hj
       ·split at hj
        ·injection hj with hj
         subst hj
         exact .inr (Nat.le_trans G1.out.size (N6.out k hk))
        ·cases hj
       ·exact Ncs.out j y k hj hk
     ·skip
      refine rgn ?_
      refine VlS (.pointer (some ⟨x, 0, none⟩)) ?_
      refine VlS (.string n) ?_
      refine VlS (.slice ba l.length bc) ?_
      refine WL.bld (by kernel_rfl) 103 _ rfl [(0, .int .i64 1), (1, .string n), (3, .slice ba l.length bc)] (by simp [Act.eval]) _ (ac_built1 n ba l.length bc) ?_
      simp only [Act.put, pqA, pqB, pqC]
      refine WL.callF (by kernel_rfl) 57 _ _ rfl Tryz.in57 #[ptr x, .agg (acA (⟨1, n, 0, .slice ba l.length bc⟩ : AC))] (by simp [Act.eval]) ?_
      refine (goes_any x (.slice (some ⟨g, 0, none⟩) cs.length vfc) va cs7 ms D7 (⟨1, n, 0, .slice ba l.length bc⟩ : AC) ⟨ba, _, bc, rfl⟩ w7 HD7.out HMs.out (by rw [hfu7.out]; exact HFu.out)).mono ?_
      rintro e w8 ⟨rfl, va8, hd8, hg8, hn8⟩
      refine ⟨_, rfl, ?_⟩
      have HD8 := Keep.mk hd8
      have G8 : Keep (Grown w w8 (RdW x (.slice (some ⟨g, 0, none⟩) cs.length vfc) va)) := ⟨G7.out.next hg8 fun k _ e => e.elim .inl fun e => .inr (.inr e)⟩
      have N8 : Keep (∀ k, va8.ownBlock = some k → va.ownBlock = some k ∨ w.heap.size ≤ k) := ⟨fun k hk => (hn8 k hk).imp id fun h => by have := G7.out.size; omega⟩
      clear hd8 hg8 hn8 HD7 G7
      rw [hfu7.out, ← hfz.out]
      simp only [Act.put, pqA, pqB, pqC]
      refine WL.nil (hK34 _ _ ?_)
      refine wp_cond_true rfl ?_
      refine wp_seq_k fun K36 hK36 => rgn ?_
      refine VlS (.int .i64 7) ?_
      refine WL.nil (hK36 _ _ ?_)
      refine wp_ret ?_
      go_ret
      have h : ¬ D.out = true := by rw [← hou.out]; simp
      have h2 : ¬ rgt n = false := by rw [← hrg.out]; simp
      have h4 : ¬ D.room - usd D.fs < (l.length : Int) := by rw [← hus.out, ← hro.out]; exact hroom
      have ha : apD D n l = D.appIs i fa l := by unfold apD; rw [if_neg h, if_neg h2, if_neg h3.out, if_neg h4, hF.out]; show (match D.fs[i]?, true with | some f, true => D.appIs i f l | _, _ => D.appNew i n l) = _; rw [Hf.out]
      have e8 : D.appIs i fa l = { D7.act with used := D.used + (l.length : Int) } := by rw [hD7.out]; rfl
      unfold apC
      rw [if_neg h, if_neg h2, if_neg h3.out, if_neg h4, ha, e8, Hpw.out]
      refine ⟨by simp, _, _, _, _, HD8.out.used _, G8.out, fun k hk => ?_⟩
      rcases hk with (rfl | hk | hk) | ⟨j, y, hj, hk⟩
      ·exact .inl (.inl (.inl rfl))
      ·exact (Na.out k hk).imp (fun h => .inl (.inr (.inl h))) id
      ·exact (N8.out k hk).imp (fun h => .inl (.inr (.inr h))) id
      ·rw [hcs7.out, List.getElem?_set] at hj
       split at hj
       ·split at hj
        ·injection hj with hj
         subst hj
         exact .inr (Nat.le_trans G1.out.size (N6.out k hk))
        ·cases hj
       ·exact Ncs.out j y k hj hk
 ·skip
  refine rgn ?_
  refine VlS (.pointer (some ⟨x, 0, none⟩)) ?_
  refine VlS (.pointer (some ⟨x, 0, none⟩)) ?_
  refine VlS (.pointer (some ⟨x, 3, none⟩)) ?_
  refine VbT ?_
  refine WL.nil (hK3 _ _ ?_)
  refine wp_cond_true rfl ?_
  refine wp_seq_k fun K37 hK37 => rgn ?_
  refine VlS (.int .i64 7) ?_
  refine WL.nil (hK37 _ _ ?_)
  refine wp_ret ?_
  go_ret
  have h := hou.out.symm
  unfold apC apD
  rw [if_pos h, if_pos h]
  exact ⟨rfl, _, _, _, _, HD.out, Grown.refl _ _, fun k hk => .inl hk⟩
theorem Tryz.in31 (w : World) (vs : Array Value) : (callFunc 31 vs).run Tryz.prog w = .ok (.enter 31 vs) w := by kernel_rfl
theorem Tryz.in35 (w : World) (vs : Array Value) : (callFunc 35 vs).run Tryz.prog w = .ok (.enter 35 vs) w := by kernel_rfl
theorem mod_set {α : Type} {l : List α} {i : Nat} {f : α → α} {a : α} (h : l[i]? = some a) : l.modify i f = l.set i (f a) := by
 refine List.ext_getElem? fun j => ?_
 rw [List.getElem?_modify, List.getElem?_set]
 by_cases hij : i = j
 ·subst hij
  rw [if_pos rfl, h, if_pos (List.getElem?_eq_some_iff.1 h).1]
  simp
 ·rw [if_neg hij]
  simp [hij]
theorem RcsAt.del {w : World} {cs : List FC} {fs : List PF} (h : RcsAt w cs fs) (i : Nat) (hi : i < cs.length) : RcsAt w (cs.take i ++ cs.drop (i + 1)) (fs.take i ++ fs.drop (i + 1)) := by
 have hf : i < fs.length := by rw [← h.len]; exact hi
 refine ⟨by simp; have := h.len; omega, fun j z g hz hg => ?_⟩
 rw [del_get _ _ _ hi] at hz
 rw [del_get _ _ _ hf] at hg
 split at hz
 ·rw [if_pos (by assumption)] at hg; exact h.each j z g hz hg
 ·rw [if_neg (by assumption)] at hg; exact h.each _ z g hz hg
theorem RDAt.safe {w : World} {x g n7 k7 i : Nat} {va : Value} {cs : List FC} {ms : List AC} {D : DV} {c : FC} {f : PF} {z : Int} (h : RDAt w x (.slice (some ⟨g, 0, none⟩) n7 k7) va cs ms D) (hc : cs[i]? = some c) (hf : D.fs[i]? = some f) : RDAt (w.setCell ⟨g, i * 3 + 2, none⟩ (.int .i64 z)) x (.slice (some ⟨g, 0, none⟩) n7 k7) va (cs.set i ⟨c.nm, c.b, z⟩) ms { D with fs := D.fs.set i { f with sf := z } } := by
 have hs : Grown w (w.setCell ⟨g, i * 3 + 2, none⟩ (.int .i64 z)) fun k => k = g := Grown.setCell w g (i * 3 + 2) _ fun _ => rfl
 have hg : Typ w g 49 := h.own.typ rfl
 have hcf := h.rcs.each i c f hc hf
 have h5 : ∀ (j : Nat) (y : FC) (k : Nat), cs[j]? = some y → y.b.ownBlock = some k → k ≠ g := fun j y k hy hk e => by subst e; have := hg.one (h.rcs.typ hy hk); revert this; decide
 refine ⟨hs.blk h.blk fun e => ?_, h.own.set hc (by omega) rfl, h.rcs.set (f := { f with sf := z }) ⟨hcf.1, rfl, hcf.2.2.1.grown hs fun k hk _ e => h5 i c k hc hk e, fun k hk => hs.typ (hcf.2.2.2 k hk) fun e => h5 i c k hc hk e⟩ fun j y u _ hy _ hyu => hyu.grown hs fun k hk e => h5 j y k hy hk e, h.acs.grown hs fun k hk e => ?_, h.num⟩
 ·subst e; have := hg.one h.blk.typ; revert this; decide
 ·subst e; have := hg.one (h.acs.typ hk); revert this; decide
theorem ac_builtN (z : Int) (n : ByteArray) : Tryz.prog.built 103 [(0, .int .i64 z), (1, .string n)] = some (acA ⟨z, n, 0, .slice none 0 0⟩) := by kernel_rfl
def syC (D : DV) (n : ByteArray) : Int := if D.out = true then 7 else if (fnd n D.fs 0).2 = false then 6 else pw D
def syD (D : DV) (n : ByteArray) : DV := if D.out = true then D else if (fnd n D.fs 0).2 = false then D else if D.fuse = 0 then D.act else D.act.sync (fnd n D.fs 0).1
def drD (D : DV) (n : ByteArray) : DV := if D.out = true then D else if (fnd n D.fs 0).2 = false then D else if D.fuse = 0 then D.act else match D.fs[(fnd n D.fs 0).1]? with | some f => D.act.del (fnd n D.fs 0).1 f | none => D
set_option maxRecDepth 8000 in
set_option maxHeartbeats 4000000 in
theorem rsync_any (x : Nat) (n : ByteArray) (vf va : Value) (cs : List FC) (ms : List AC) (D : DV) (w : World) (hD : RDAt w x vf va cs ms D) (hSr : Srt D.fs) (hL : cs.length ≤ 256) (hMs : ms.length ≤ 100000000000) (hFu : -9223372036854775808 < D.fuse ∧ D.fuse ≤ 9223372036854775807) :
  Calls Tryz.prog 31 #[ptr x, .string n] w fun e w' => e = .returned (.int .i64 (syC D n)) ∧ ∃ vf' va' cs' ms', RDAt w' x vf' va' cs' ms' (syD D n) ∧ Grown w w' (RdW x vf va) ∧ ∀ k, RdS x vf' va' cs' k → RdS x vf va cs k ∨ w.heap.size ≤ k := by
 obtain ⟨vfa, vfc, rfl⟩ := hD.own.sl
 have HD := Keep.mk hD
 have HSr := Keep.mk hSr
 have HL := Keep.mk hL
 have HMs := Keep.mk hMs
 have HFu := Keep.mk hFu
 clear hD hSr hL hMs hFu
 go_enter Tryz.func31, Tryz.ntmps31
 obtain ⟨ou, hou⟩ : ∃ z, Keep (z = D.out) := ⟨_, ⟨rfl⟩⟩
 have c3 : w.cell? ⟨x, 3, none⟩ = some (.bool ou) := by rw [hou.out]; exact HD.out.blk.c 3 rfl
 obtain ⟨i, is, hF⟩ : ∃ i b, Keep (fnd n D.fs 0 = (i, b)) := ⟨_, _, ⟨rfl⟩⟩
 refine wp_seq_k fun K1 hK1 => rgn ?_
 refine VlS (.int .i64 0) ?_
 refine WL.nil (hK1 _ _ ?_)
 refine wp_seq_k fun K2 hK2 => ?_
 refine wp_seq_k fun K3 hK3 => ?_
 cases ou
 ·skip
  refine rgn ?_
  refine VlS (.pointer (some ⟨x, 0, none⟩)) ?_
  refine VlS (.pointer (some ⟨x, 0, none⟩)) ?_
  refine VlS (.pointer (some ⟨x, 3, none⟩)) ?_
  refine VbF ?_
  refine WL.nil (hK3 _ _ ?_)
  refine wp_cond_false rfl ?_
  refine wp_skip ?_
  refine hK2 _ _ ?_
  refine wp_seq_k fun K4 hK4 => ?_
  clear c3
  cases is
  ·have hfd : Keep (fdI n D.fs = -1) := ⟨by unfold fdI; rw [hF.out]; simp⟩
   refine rgn ?_
   refine VlS (.pointer (some ⟨x, 0, none⟩)) ?_
   refine VlS (.string n) ?_
   refine WL.callF (by kernel_rfl) 22 _ _ rfl Tryz.in22 #[ptr x, .string n] (by simp [Act.eval]) ?_
   refine (rfind_any x n (.slice vfa cs.length vfc) va cs ms D w HD.out HSr.out (by have := HL.out; omega)).mono ?_
   rintro e w1 ⟨rfl, hw_⟩
   refine ⟨_, rfl, ?_⟩
   have hw_ := hw_.symm
   subst hw_
   rw [hfd.out]
   simp only [Act.put, pqA, pqB, pqC]
   refine VlS (.int .i64 (-1)) ?_
   refine WL.nil (hK4 _ _ ?_)
   refine wp_seq_k fun K5 hK5 => ?_
   refine wp_seq_k fun K6 hK6 => rgn ?_
   refine VlS (.int .i64 (-1)) ?_
   refine VbT ?_
   refine WL.nil (hK6 _ _ ?_)
   refine wp_cond_true rfl ?_
   refine wp_seq_k fun K7 hK7 => rgn ?_
   refine VlS (.int .i64 6) ?_
   refine WL.nil (hK7 _ _ ?_)
   refine wp_ret ?_
   go_ret
   have h : ¬ D.out = true := by rw [← hou.out]; simp
   have h2 : (fnd n D.fs 0).2 = false := by rw [hF.out]
   unfold syC syD
   rw [if_neg h, if_neg h, if_pos h2, if_pos h2]
   exact ⟨rfl, _, _, _, _, HD.out, Grown.refl _ _, fun k hk => .inl hk⟩
  ·have hfd : Keep (fdI n D.fs = (i : Int)) := ⟨by unfold fdI; rw [hF.out]; simp⟩
   have hi0 : ¬ (i : Int) < 0 := by omega
   refine rgn ?_
   refine VlS (.pointer (some ⟨x, 0, none⟩)) ?_
   refine VlS (.string n) ?_
   refine WL.callF (by kernel_rfl) 22 _ _ rfl Tryz.in22 #[ptr x, .string n] (by simp [Act.eval]) ?_
   refine (rfind_any x n (.slice vfa cs.length vfc) va cs ms D w HD.out HSr.out (by have := HL.out; omega)).mono ?_
   rintro e w1 ⟨rfl, hw_⟩
   refine ⟨_, rfl, ?_⟩
   have hw_ := hw_.symm
   subst hw_
   rw [hfd.out]
   obtain ⟨fa, Hf⟩ : ∃ f, Keep (D.fs[i]? = some f) := by
    obtain ⟨j, f, h1, h2⟩ := fnd_at n D.fs 0 (by rw [hF.out])
    rw [hF.out] at h1
    simp at h1
    subst h1
    exact ⟨f, ⟨h2⟩⟩
   have hil : Keep (i < cs.length) := ⟨by have := (List.getElem?_eq_some_iff.1 Hf.out).1; have := HD.out.rcs.len; omega⟩
   obtain ⟨ca, Hc⟩ : ∃ z, Keep (cs[i]? = some z) := ⟨cs[i]'hil.out, ⟨List.getElem?_eq_getElem _⟩⟩
   obtain ⟨g, hva, _⟩ := HD.out.own.at Hc.out
   subst hva
   simp only [Act.put, pqA, pqB, pqC]
   refine VlS (.int .i64 (i : Int)) ?_
   refine WL.nil (hK4 _ _ ?_)
   refine wp_seq_k fun K8 hK8 => ?_
   refine wp_seq_k fun K9 hK9 => rgn ?_
   refine VlS (.int .i64 (i : Int)) ?_
   refine VbF ?_
   refine WL.nil (hK9 _ _ ?_)
   refine wp_cond_false rfl ?_
   refine wp_skip ?_
   refine hK8 _ _ ?_
   refine wp_seq_k fun K10 hK10 => ?_
   refine wp_seq_k fun K11 hK11 => ?_
   obtain ⟨fz, hfz⟩ : ∃ z, Keep (z = decide (D.fuse = 0)) := ⟨_, ⟨rfl⟩⟩
   have Hpw := Keep.mk (pw_lt D)
   rw [← hfz.out] at Hpw
   cases fz
   ·have hf0 : Keep (¬ D.fuse = 0) := ⟨by have h := hfz.out; simp at h; exact h⟩
    refine rgn ?_
    refine VlS (.pointer (some ⟨x, 0, none⟩)) ?_
    refine VlS (.string n) ?_
    refine WL.bld (by kernel_rfl) 103 _ rfl [(0, .int .i64 2), (1, .string n)] (by simp [Act.eval]) _ (ac_builtN 2 n) ?_
    simp only [Act.put, pqA, pqB, pqC]
    refine WL.callF (by kernel_rfl) 57 _ _ rfl Tryz.in57 #[ptr x, .agg (acA (⟨2, n, 0, .slice none 0 0⟩ : AC))] (by simp [Act.eval]) ?_
    refine (goes_any x (.slice (some ⟨g, 0, none⟩) cs.length vfc) va cs ms D (⟨2, n, 0, .slice none 0 0⟩ : AC) ⟨_, _, _, rfl⟩ w HD.out HMs.out HFu.out).mono ?_
    rintro e w8 ⟨rfl, va8, hd8, hg8, hn8⟩
    refine ⟨_, rfl, ?_⟩
    have HD8 := Keep.mk hd8
    have G8 : Keep (Grown w w8 (RdW x (.slice (some ⟨g, 0, none⟩) cs.length vfc) va)) := ⟨hg8.mono fun k _ e => e.elim .inl fun e => .inr (.inr e)⟩
    have N8 := Keep.mk hn8
    clear hd8 hg8 hn8
    rw [← hfz.out]
    simp only [Act.put, pqA, pqB, pqC]
    refine WL.nil (hK11 _ _ ?_)
    refine wp_cond_false rfl ?_
    refine wp_skip ?_
    refine hK10 _ _ ?_
    refine wp_seq_k fun K12 hK12 => ?_
    have HD9 := Keep.mk HD8.out.drew
    have G9 : Keep (Grown w w8.drew (RdW x (.slice (some ⟨g, 0, none⟩) cs.length vfc) va)) := ⟨G8.out.drew⟩
    obtain ⟨ya, yc, hyb⟩ := row_form (HD9.out.rcs.each i ca fa Hc.out Hf.out).2.2.1
    have hS9 : Keep (w8.drew.cell? ⟨x, 0, none⟩ = some (.slice (some ⟨g, 0, none⟩) cs.length vfc) ∧ w8.drew.cell? ⟨g, i * 3 + 1, none⟩ = some (.slice ya fa.bs.length yc)) := ⟨HD9.out.blk.c 0 rfl, by rw [← hyb]; exact (own_fc HD9.out.own Hc.out).1⟩
    have hil2 : (i : Int) < (cs.length : Int) := by have := hil.out; omega
    clear HD8 G8
    refine wp_region_held_drew (S := fun wx => wx.cell? ⟨x, 0, none⟩ = some (.slice (some ⟨g, 0, none⟩) cs.length vfc) ∧ wx.cell? ⟨g, i * 3 + 1, none⟩ = some (.slice ya fa.bs.length yc)) (by kernel_rfl) (hS9.out) (fun hHeld => ?_)
    generalize w8.drew = w9 at *
    refine TkJ (i := 0) (oi := ⟨some 19, Op.move (Operand.tmp 0), 27, _, _, none⟩) (v := .pointer (some ⟨x, 0, none⟩)) rfl hHeld ?_
    refine TkJ (i := 1) (oi := ⟨some 20, Op.nilCheck (Operand.tmp 19), 0, _, _, none⟩) (v := .pointer (some ⟨x, 0, none⟩)) rfl hHeld ?_
    refine TkJ (i := 2) (oi := ⟨some 21, Op.fieldAddr 62 (Operand.tmp 20) 0, 0, _, _, none⟩) (v := .pointer (some ⟨x, 0, none⟩)) rfl hHeld ?_
    refine TkJ (i := 3) (oi := ⟨some 22, Op.load 22 (Operand.tmp 21), 22, _, _, none⟩) (v := .slice (some ⟨g, 0, none⟩) cs.length vfc) rfl hHeld ?_
    refine TkJ (i := 4) (oi := ⟨some 23, Op.move (Operand.tmp 5), 3, _, _, none⟩) (v := .int .i64 (i : Int)) rfl hHeld ?_
    refine TkJ (i := 5) (oi := ⟨some 24, Op.move (Operand.tmp 0), 27, _, _, none⟩) (v := .pointer (some ⟨x, 0, none⟩)) rfl hHeld ?_
    refine TkJ (i := 6) (oi := ⟨some 25, Op.nilCheck (Operand.tmp 24), 0, _, _, none⟩) (v := .pointer (some ⟨x, 0, none⟩)) rfl hHeld ?_
    refine TkJ (i := 7) (oi := ⟨some 26, Op.fieldAddr 62 (Operand.tmp 25) 0, 0, _, _, none⟩) (v := .pointer (some ⟨x, 0, none⟩)) rfl hHeld ?_
    refine TkJ (i := 8) (oi := ⟨some 27, Op.load 22 (Operand.tmp 26), 22, _, _, none⟩) (v := .slice (some ⟨g, 0, none⟩) cs.length vfc) rfl hHeld ?_
    refine TkJ (i := 9) (oi := ⟨some 28, Op.move (Operand.tmp 5), 3, _, _, none⟩) (v := .int .i64 (i : Int)) rfl hHeld ?_
    refine TkJ (i := 10) (oi := ⟨some 29, Op.indexAddr 22 (Operand.tmp 27) (Operand.tmp 28), 0, _, _, none⟩) (v := .pointer (some ⟨g, i * 3, none⟩)) rfl hHeld ?_
    refine TkJ (i := 11) (oi := ⟨some 30, Op.fieldAddr 49 (Operand.tmp 29) 1, 0, _, _, none⟩) (v := .pointer (some ⟨g, i * 3 + 1, none⟩)) rfl hHeld ?_
    refine TkJ (i := 12) (oi := ⟨some 31, Op.load 40 (Operand.tmp 30), 40, _, _, none⟩) (v := .slice ya fa.bs.length yc) rfl hHeld ?_
    refine TkJ (i := 13) (oi := ⟨some 32, Op.call { callee := Callee.builtin Builtin.len, args := #[Operand.tmp 31], argTypes := #[40] }, 3, _, _, none⟩) (v := .int .i64 (fa.bs.length : Int)) rfl hHeld ?_
    refine TkJ (i := 14) (oi := ⟨some 33, Op.indexAddr 22 (Operand.tmp 22) (Operand.tmp 23), 0, _, _, none⟩) (v := .pointer (some ⟨g, i * 3, none⟩)) rfl hHeld ?_
    refine TkJ (i := 15) (oi := ⟨some 34, Op.fieldAddr 49 (Operand.tmp 33) 2, 0, _, _, none⟩) (v := .pointer (some ⟨g, i * 3 + 2, none⟩)) rfl hHeld ?_
    refine wpAnyH_ready (rs := [16]) (by kernel_rfl) (by simp) ?_
    refine AllReadyH.cons (o := ⟨none, Op.store 3 (Operand.tmp 34) (Operand.tmp 32), 0, _, _, none⟩) rfl (fun K hK => ?_) AllReadyH.nil
    rw [if_pos (by rfl)]
    have f_o := ownF_frozen HD9.out.own (i * 3 + 2)
    have cl := (own_fc HD9.out.own Hc.out).2
    refine wp_cellS (w9.setCell ⟨g, i * 3 + 2, none⟩ (.int .i64 (fa.bs.length : Int))) (by go_simp) ?_
    clear f_o cl
    have HDa := Keep.mk (HD9.out.safe (z := (fa.bs.length : Int)) Hc.out Hf.out)
    have Ga : Keep (Grown w (w9.setCell ⟨g, i * 3 + 2, none⟩ (.int .i64 (fa.bs.length : Int))) (RdW x (.slice (some ⟨g, 0, none⟩) cs.length vfc) va)) := ⟨G9.out.next (Grown.setCell w9 g (i * 3 + 2) _ (S := fun k => k = g) fun _ => rfl) fun k _ e => .inr (.inl (by rw [e]; rfl))⟩
    have hSa : Keep ((w9.setCell ⟨g, i * 3 + 2, none⟩ (.int .i64 (fa.bs.length : Int))).cell? ⟨x, 0, none⟩ = some (.slice (some ⟨g, 0, none⟩) cs.length vfc) ∧ (w9.setCell ⟨g, i * 3 + 2, none⟩ (.int .i64 (fa.bs.length : Int))).cell? ⟨g, i * 3 + 1, none⟩ = some (.slice ya fa.bs.length yc)) := ⟨HDa.out.blk.c 0 rfl, by rw [← hyb]; exact (own_fc HDa.out.own (x := ⟨ca.nm, ca.b, (fa.bs.length : Int)⟩) (List.getElem?_set_self hil.out)).1⟩
    clear HD9 hS9
    generalize w9.setCell ⟨g, i * 3 + 2, none⟩ (.int .i64 (fa.bs.length : Int)) = wa at *
    refine hK _ _ hSa.out fun hHa => ?_
    clear hK
    simp only [Act.put, pqA, pqB, pqC]
    refine wpAnyH_done (by kernel_rfl) ?_ _
    refine hK12 _ _ ?_
    refine wp_seq_k fun K13 hK13 => rgn ?_
    refine VlS (.int .i64 0) ?_
    refine WL.nil (hK13 _ _ ?_)
    refine wp_ret ?_
    go_ret
    have h : ¬ D.out = true := by rw [← hou.out]; simp
    have h2 : ¬ (fnd n D.fs 0).2 = false := by rw [hF.out]; simp
    have e8 : D.act.sync i = { D.act with fs := D.act.fs.set i { fa with sf := (fa.bs.length : Int) } } := by unfold DV.sync; rw [mod_set (l := D.act.fs) (a := fa) Hf.out]; rfl
    unfold syC syD
    rw [if_neg h, if_neg h, if_neg h2, if_neg h2, Hpw.out, if_neg hf0.out, hF.out]
    show _ ∧ ∃ vf' va' cs' ms', RDAt wa x vf' va' cs' ms' (D.act.sync i) ∧ _
    rw [e8]
    refine ⟨by simp, _, _, _, _, HDa.out, Ga.out, fun k hk => ?_⟩
    rcases hk with (rfl | hk | hk) | ⟨j, y, hj, hk⟩
    ·exact .inl (.inl (.inl rfl))
    ·exact .inl (.inl (.inr (.inl hk)))
    ·exact (N8.out k hk).imp (fun h => .inl (.inr (.inr h))) id
    ·rw [List.getElem?_set] at hj
     split at hj
     ·split at hj
      ·injection hj with hj
       subst hj
       exact .inl (.inr ⟨i, ca, Hc.out, hk⟩)
      ·cases hj
     ·exact .inl (.inr ⟨j, y, hj, hk⟩)
   ·have hf0 : Keep (D.fuse = 0) := ⟨by have h := hfz.out; simp at h; exact h⟩
    refine rgn ?_
    refine VlS (.pointer (some ⟨x, 0, none⟩)) ?_
    refine VlS (.string n) ?_
    refine WL.bld (by kernel_rfl) 103 _ rfl [(0, .int .i64 2), (1, .string n)] (by simp [Act.eval]) _ (ac_builtN 2 n) ?_
    simp only [Act.put, pqA, pqB, pqC]
    refine WL.callF (by kernel_rfl) 57 _ _ rfl Tryz.in57 #[ptr x, .agg (acA (⟨2, n, 0, .slice none 0 0⟩ : AC))] (by simp [Act.eval]) ?_
    refine (goes_any x (.slice (some ⟨g, 0, none⟩) cs.length vfc) va cs ms D (⟨2, n, 0, .slice none 0 0⟩ : AC) ⟨_, _, _, rfl⟩ w HD.out HMs.out HFu.out).mono ?_
    rintro e w8 ⟨rfl, va8, hd8, hg8, hn8⟩
    refine ⟨_, rfl, ?_⟩
    have HD8 := Keep.mk hd8
    have G8 : Keep (Grown w w8 (RdW x (.slice (some ⟨g, 0, none⟩) cs.length vfc) va)) := ⟨hg8.mono fun k _ e => e.elim .inl fun e => .inr (.inr e)⟩
    have N8 := Keep.mk hn8
    clear hd8 hg8 hn8
    rw [← hfz.out]
    simp only [Act.put, pqA, pqB, pqC]
    refine WL.nil (hK11 _ _ ?_)
    refine wp_cond_true rfl ?_
    refine wp_seq_k fun K14 hK14 => rgn ?_
    refine VlS (.int .i64 7) ?_
    refine WL.nil (hK14 _ _ ?_)
    refine wp_ret ?_
    go_ret
    have h : ¬ D.out = true := by rw [← hou.out]; simp
    have h2 : ¬ (fnd n D.fs 0).2 = false := by rw [hF.out]; simp
    unfold syC syD
    rw [if_neg h, if_neg h, if_neg h2, if_neg h2, Hpw.out, if_pos hf0.out]
    refine ⟨by simp, _, _, _, _, HD8.out, G8.out, fun k hk => ?_⟩
    rcases hk with (rfl | hk | hk) | ⟨j, y, hj, hk⟩
    ·exact .inl (.inl (.inl rfl))
    ·exact .inl (.inl (.inr (.inl hk)))
    ·exact (N8.out k hk).imp (fun h => .inl (.inr (.inr h))) id
    ·exact .inl (.inr ⟨j, y, hj, hk⟩)
 ·skip
  refine rgn ?_
  refine VlS (.pointer (some ⟨x, 0, none⟩)) ?_
  refine VlS (.pointer (some ⟨x, 0, none⟩)) ?_
  refine VlS (.pointer (some ⟨x, 3, none⟩)) ?_
  refine VbT ?_
  refine WL.nil (hK3 _ _ ?_)
  refine wp_cond_true rfl ?_
  refine wp_seq_k fun K15 hK15 => rgn ?_
  refine VlS (.int .i64 7) ?_
  refine WL.nil (hK15 _ _ ?_)
  refine wp_ret ?_
  go_ret
  have h := hou.out.symm
  unfold syC syD
  rw [if_pos h, if_pos h]
  exact ⟨rfl, _, _, _, _, HD.out, Grown.refl _ _, fun k hk => .inl hk⟩
set_option maxRecDepth 8000 in
set_option maxHeartbeats 4000000 in
theorem rdrop_any (x : Nat) (n : ByteArray) (vf va : Value) (cs : List FC) (ms : List AC) (D : DV) (w : World) (hD : RDAt w x vf va cs ms D) (hSr : Srt D.fs) (hL : cs.length ≤ 256) (hMs : ms.length ≤ 100000000000) (hFu : -9223372036854775808 < D.fuse ∧ D.fuse ≤ 9223372036854775807) :
  Calls Tryz.prog 35 #[ptr x, .string n] w fun e w' => e = .returned (.int .i64 (syC D n)) ∧ ∃ vf' va' cs' ms', RDAt w' x vf' va' cs' ms' (drD D n) ∧ Grown w w' (RdW x vf va) ∧ ∀ k, RdS x vf' va' cs' k → RdS x vf va cs k ∨ w.heap.size ≤ k := by
 obtain ⟨vfa, vfc, rfl⟩ := hD.own.sl
 have HD := Keep.mk hD
 have HSr := Keep.mk hSr
 have HL := Keep.mk hL
 have HMs := Keep.mk hMs
 have HFu := Keep.mk hFu
 clear hD hSr hL hMs hFu
 go_enter Tryz.func35, Tryz.ntmps35
 obtain ⟨ou, hou⟩ : ∃ z, Keep (z = D.out) := ⟨_, ⟨rfl⟩⟩
 have c3 : w.cell? ⟨x, 3, none⟩ = some (.bool ou) := by rw [hou.out]; exact HD.out.blk.c 3 rfl
 obtain ⟨i, is, hF⟩ : ∃ i b, Keep (fnd n D.fs 0 = (i, b)) := ⟨_, _, ⟨rfl⟩⟩
 refine wp_seq_k fun K1 hK1 => rgn ?_
 refine VlS (.int .i64 0) ?_
 refine WL.nil (hK1 _ _ ?_)
 refine wp_seq_k fun K2 hK2 => ?_
 refine wp_seq_k fun K3 hK3 => ?_
 cases ou
 ·skip
  refine rgn ?_
  refine VlS (.pointer (some ⟨x, 0, none⟩)) ?_
  refine VlS (.pointer (some ⟨x, 0, none⟩)) ?_
  refine VlS (.pointer (some ⟨x, 3, none⟩)) ?_
  refine VbF ?_
  refine WL.nil (hK3 _ _ ?_)
  refine wp_cond_false rfl ?_
  refine wp_skip ?_
  refine hK2 _ _ ?_
  refine wp_seq_k fun K4 hK4 => ?_
  clear c3
  cases is
  ·have hfd : Keep (fdI n D.fs = -1) := ⟨by unfold fdI; rw [hF.out]; simp⟩
   refine rgn ?_
   refine VlS (.pointer (some ⟨x, 0, none⟩)) ?_
   refine VlS (.string n) ?_
   refine WL.callF (by kernel_rfl) 22 _ _ rfl Tryz.in22 #[ptr x, .string n] (by simp [Act.eval]) ?_
   refine (rfind_any x n (.slice vfa cs.length vfc) va cs ms D w HD.out HSr.out (by have := HL.out; omega)).mono ?_
   rintro e w1 ⟨rfl, hw_⟩
   refine ⟨_, rfl, ?_⟩
   have hw_ := hw_.symm
   subst hw_
   rw [hfd.out]
   simp only [Act.put, pqA, pqB, pqC]
   refine VlS (.int .i64 (-1)) ?_
   refine WL.nil (hK4 _ _ ?_)
   refine wp_seq_k fun K5 hK5 => ?_
   refine wp_seq_k fun K6 hK6 => rgn ?_
   refine VlS (.int .i64 (-1)) ?_
   refine VbT ?_
   refine WL.nil (hK6 _ _ ?_)
   refine wp_cond_true rfl ?_
   refine wp_seq_k fun K7 hK7 => rgn ?_
   refine VlS (.int .i64 6) ?_
   refine WL.nil (hK7 _ _ ?_)
   refine wp_ret ?_
   go_ret
   have h : ¬ D.out = true := by rw [← hou.out]; simp
   have h2 : (fnd n D.fs 0).2 = false := by rw [hF.out]
   unfold syC drD
   rw [if_neg h, if_neg h, if_pos h2, if_pos h2]
   exact ⟨rfl, _, _, _, _, HD.out, Grown.refl _ _, fun k hk => .inl hk⟩
  ·have hfd : Keep (fdI n D.fs = (i : Int)) := ⟨by unfold fdI; rw [hF.out]; simp⟩
   have hi0 : ¬ (i : Int) < 0 := by omega
   refine rgn ?_
   refine VlS (.pointer (some ⟨x, 0, none⟩)) ?_
   refine VlS (.string n) ?_
   refine WL.callF (by kernel_rfl) 22 _ _ rfl Tryz.in22 #[ptr x, .string n] (by simp [Act.eval]) ?_
   refine (rfind_any x n (.slice vfa cs.length vfc) va cs ms D w HD.out HSr.out (by have := HL.out; omega)).mono ?_
   rintro e w1 ⟨rfl, hw_⟩
   refine ⟨_, rfl, ?_⟩
   have hw_ := hw_.symm
   subst hw_
   rw [hfd.out]
   obtain ⟨fa, Hf⟩ : ∃ f, Keep (D.fs[i]? = some f) := by
    obtain ⟨j, f, h1, h2⟩ := fnd_at n D.fs 0 (by rw [hF.out])
    rw [hF.out] at h1
    simp at h1
    subst h1
    exact ⟨f, ⟨h2⟩⟩
   have hil : Keep (i < cs.length) := ⟨by have := (List.getElem?_eq_some_iff.1 Hf.out).1; have := HD.out.rcs.len; omega⟩
   obtain ⟨ca, Hc⟩ : ∃ z, Keep (cs[i]? = some z) := ⟨cs[i]'hil.out, ⟨List.getElem?_eq_getElem _⟩⟩
   obtain ⟨g, hva, _⟩ := HD.out.own.at Hc.out
   subst hva
   simp only [Act.put, pqA, pqB, pqC]
   refine VlS (.int .i64 (i : Int)) ?_
   refine WL.nil (hK4 _ _ ?_)
   refine wp_seq_k fun K8 hK8 => ?_
   refine wp_seq_k fun K9 hK9 => rgn ?_
   refine VlS (.int .i64 (i : Int)) ?_
   refine VbF ?_
   refine WL.nil (hK9 _ _ ?_)
   refine wp_cond_false rfl ?_
   refine wp_skip ?_
   refine hK8 _ _ ?_
   refine wp_seq_k fun K10 hK10 => ?_
   refine wp_seq_k fun K11 hK11 => ?_
   obtain ⟨fz, hfz⟩ : ∃ z, Keep (z = decide (D.fuse = 0)) := ⟨_, ⟨rfl⟩⟩
   have Hpw := Keep.mk (pw_lt D)
   rw [← hfz.out] at Hpw
   cases fz
   ·have hf0 : Keep (¬ D.fuse = 0) := ⟨by have h := hfz.out; simp at h; exact h⟩
    refine rgn ?_
    refine VlS (.pointer (some ⟨x, 0, none⟩)) ?_
    refine VlS (.string n) ?_
    refine WL.bld (by kernel_rfl) 103 _ rfl [(0, .int .i64 4), (1, .string n)] (by simp [Act.eval]) _ (ac_builtN 4 n) ?_
    simp only [Act.put, pqA, pqB, pqC]
    refine WL.callF (by kernel_rfl) 57 _ _ rfl Tryz.in57 #[ptr x, .agg (acA (⟨4, n, 0, .slice none 0 0⟩ : AC))] (by simp [Act.eval]) ?_
    refine (goes_any x (.slice (some ⟨g, 0, none⟩) cs.length vfc) va cs ms D (⟨4, n, 0, .slice none 0 0⟩ : AC) ⟨_, _, _, rfl⟩ w HD.out HMs.out HFu.out).mono ?_
    rintro e w8 ⟨rfl, va8, hd8, hg8, hn8⟩
    refine ⟨_, rfl, ?_⟩
    have HD8 := Keep.mk hd8
    have G8 : Keep (Grown w w8 (RdW x (.slice (some ⟨g, 0, none⟩) cs.length vfc) va)) := ⟨hg8.mono fun k _ e => e.elim .inl fun e => .inr (.inr e)⟩
    have N8 := Keep.mk hn8
    clear hd8 hg8 hn8
    rw [← hfz.out]
    simp only [Act.put, pqA, pqB, pqC]
    refine WL.nil (hK11 _ _ ?_)
    refine wp_cond_false rfl ?_
    refine wp_skip ?_
    refine hK10 _ _ ?_
    refine wp_seq_k fun K12 hK12 => rgn ?_
    refine WL.bs (by kernel_rfl) 22 0 _ rfl #[] (by simp) _ _ (bsFE w8) ?_
    have HN3 := Keep.mk (ownF_empty w8)
    have B3 := Keep.mk (below_new w8 (.cells #[] 49))
    have HD3 := Keep.mk (HD8.out.below B3.out)
    generalize w8.alloc (.cells #[] 49) = w3 at *
    obtain ⟨g3, hg3⟩ : ∃ g, Keep (g = w8.heap.size) := ⟨_, ⟨rfl⟩⟩
    rw [← hg3.out] at HN3 ⊢
    have hB3 : Keep (w8.heap.size ≤ g3) := ⟨by rw [hg3.out]; exact Nat.le_refl _⟩
    have c0 := HD3.out.blk.c 0 (by rfl : (rdA (.slice (some ⟨g, 0, none⟩) cs.length vfc) va8 D.act)[0]? = some (.slice (some ⟨g, 0, none⟩) cs.length vfc))
    obtain ⟨vs1, hs1, hs2⟩ := slF_hi HD3.out.own i (Nat.le_of_lt hil.out)
    have HS1 := Keep.mk (hs1 w3)
    have HS2 := Keep.mk (hs2 w3 HD3.out.own)
    clear hs1 hs2
    have hwi : IntKind.i64.wrap ((i : Int) + 1) = ((i + 1 : Nat) : Int) := by rw [IntKind.wrap_i64]; have := HL.out; have := hil.out; omega
    simp only [Act.put, pqA, pqB, pqC]
    refine VlS (.slice (some ⟨g3, 0, none⟩) 0 0) ?_
    refine WL.nil (hK12 _ _ ?_)
    refine wp_seq_k fun K13 hK13 => rgn ?_
    refine VlS (.slice (some ⟨g3, 0, none⟩) 0 0) ?_
    refine VlS (.pointer (some ⟨x, 0, none⟩)) ?_
    refine VlS (.pointer (some ⟨x, 0, none⟩)) ?_
    refine VlS (.pointer (some ⟨x, 0, none⟩)) ?_
    refine VlS (.slice (some ⟨g, 0, none⟩) cs.length vfc) ?_
    refine VlS (.int .i64 (i : Int)) ?_
    refine WL.slHi (by kernel_rfl) (.tmp 25) (.tmp 26) rfl (.slice (some ⟨g, 0, none⟩) cs.length vfc) (.int .i64 (i : Int)) vs1 rfl rfl HS1.out ?_
    simp only [Act.put, pqA, pqB, pqC]
    refine WL.appS (by kernel_rfl) (.tmp 21) (.tmp 27) rfl (.slice (some ⟨g3, 0, none⟩) 0 0) vs1 [] (cs.take i) (fun x hx => HD3.out.rcs.sl x (List.mem_of_mem_take hx)) rfl rfl HN3.out HS2.out (by simp; have := HL.out; omega) fun v4 w4 ho hg hm => ?_
    have HO4 := Keep.mk ho
    have N4 : Keep (NewF w8.heap.size v4) := ⟨NewF.moved (NewF.at hB3.out) B3.out.size hm⟩
    have B4 : Keep (Below w8.heap.size w8 w4) := ⟨newF_below (NewF.at hB3.out) B3.out hg⟩
    have HD4 : Keep (RDAt w4 x (.slice (some ⟨g, 0, none⟩) cs.length vfc) va8 cs (ms ++ [(⟨4, n, 0, .slice none 0 0⟩ : AC)]) D.act) := ⟨HD8.out.below B4.out⟩
    clear ho hg hm HD3 HS1 HS2 c0
    obtain ⟨a4, k4, e4⟩ := HO4.out.sl
    subst e4
    obtain ⟨n4, hn4⟩ : ∃ q, Keep (q = (([] : List FC) ++ cs.take i).length) := ⟨_, ⟨rfl⟩⟩
    rw [← hn4.out] at HO4 N4 ⊢
    have c0 := HD4.out.blk.c 0 (by rfl : (rdA (.slice (some ⟨g, 0, none⟩) cs.length vfc) va8 D.act)[0]? = some (.slice (some ⟨g, 0, none⟩) cs.length vfc))
    obtain ⟨vs2, hs1, hs2⟩ := slF_lo HD4.out.own (i + 1) hil.out
    have HS1 := Keep.mk (hs1 w4)
    have HS2 := Keep.mk (hs2 w4 HD4.out.own)
    clear hs1 hs2
    simp only [Act.put, pqA, pqB, pqC]
    refine VlS (.slice a4 n4 k4) ?_
    refine WL.nil (hK13 _ _ ?_)
    refine wp_seq_k fun K14 hK14 => rgn ?_
    refine VlS (.pointer (some ⟨x, 0, none⟩)) ?_
    refine VlS (.slice a4 n4 k4) ?_
    refine VlS (.pointer (some ⟨x, 0, none⟩)) ?_
    refine VlS (.pointer (some ⟨x, 0, none⟩)) ?_
    refine VlS (.pointer (some ⟨x, 0, none⟩)) ?_
    refine VlS (.slice (some ⟨g, 0, none⟩) cs.length vfc) ?_
    refine VlS (.int .i64 (i : Int)) ?_
    refine VlS (.int .i64 ((i + 1 : Nat) : Int)) ?_
    refine WL.slLo (by kernel_rfl) (.tmp 34) (.tmp 36) rfl (.slice (some ⟨g, 0, none⟩) cs.length vfc) (.int .i64 ((i + 1 : Nat) : Int)) vs2 rfl rfl HS1.out ?_
    simp only [Act.put, pqA, pqB, pqC]
    refine WL.appS (by kernel_rfl) (.tmp 30) (.tmp 37) rfl (.slice a4 n4 k4) vs2 ([] ++ cs.take i) (cs.drop (i + 1)) (fun x hx => HD4.out.rcs.sl x (List.mem_of_mem_drop hx)) rfl rfl HO4.out HS2.out (by simp; have := HL.out; omega) fun v7 w7 ho hg hm => ?_
    have HO7 : Keep (OwnF w7 v7 (cs.take i ++ cs.drop (i + 1))) := ⟨by rw [List.nil_append] at ho; exact ho⟩
    have N7 : Keep (NewF w8.heap.size v7) := ⟨NewF.moved N4.out B4.out.size hm⟩
    have B7 : Keep (Below w8.heap.size w8 w7) := ⟨newF_below N4.out B4.out hg⟩
    have HD7 : Keep (RDAt w7 x (.slice (some ⟨g, 0, none⟩) cs.length vfc) va8 cs (ms ++ [(⟨4, n, 0, .slice none 0 0⟩ : AC)]) D.act) := ⟨HD8.out.below B7.out⟩
    clear ho hg hm HD4 HS1 HS2 c0
    obtain ⟨a7, k7, e7⟩ := HO7.out.sl
    subst e7
    obtain ⟨n7, hn7⟩ : ∃ q, Keep (q = (cs.take i ++ cs.drop (i + 1)).length) := ⟨_, ⟨rfl⟩⟩
    rw [← hn7.out] at HO7 N7 ⊢
    have f_o := HD7.out.blk.frozen 0
    have c0 := HD7.out.blk.c 0 (by rfl : (rdA (.slice (some ⟨g, 0, none⟩) cs.length vfc) va8 D.act)[0]? = some (.slice (some ⟨g, 0, none⟩) cs.length vfc))
    simp only [Act.put, pqA, pqB, pqC]
    refine VlS (.pointer (some ⟨x, 0, none⟩)) ?_
    refine VlS (.pointer (some ⟨x, 0, none⟩)) ?_
    refine WL.cell (by kernel_rfl) (w7.setCell ⟨x, 0, none⟩ (.slice a7 n7 k7)) (by go_simp) ?_
    clear f_o c0
    have HDa := Keep.mk (HD7.out.list HO7.out (HD7.out.rcs.del i hil.out))
    have Ga : Keep (Grown w (w7.setCell ⟨x, 0, none⟩ (.slice a7 n7 k7)) (RdW x (.slice (some ⟨g, 0, none⟩) cs.length vfc) va)) := ⟨(G8.out.trans (Grown.below B7.out)).next (Grown.setCell w7 x 0 _ (S := fun k => k = x) fun _ => rfl) fun k _ e => .inl e⟩
    clear HD7 HO7
    generalize w7.setCell ⟨x, 0, none⟩ (.slice a7 n7 k7) = wa at *
    simp only [Act.put]
    refine WL.nil (hK14 _ _ ?_)
    refine wp_seq_k fun K15 hK15 => rgn ?_
    refine VlS (.int .i64 0) ?_
    refine WL.nil (hK15 _ _ ?_)
    refine wp_ret ?_
    go_ret
    have h : ¬ D.out = true := by rw [← hou.out]; simp
    have h2 : ¬ (fnd n D.fs 0).2 = false := by rw [hF.out]; simp
    have hd : drD D n = { ({ D.act with fs := D.act.fs.take i ++ D.act.fs.drop (i + 1) } : DV) with used := D.act.used - (fa.bs.length : Int) } := by
     unfold drD
     rw [if_neg h, if_neg h2, if_neg hf0.out, hF.out]
     show (match D.fs[i]? with | some f => D.act.del i f | none => D) = _
     rw [Hf.out]
     rfl
    unfold syC
    rw [if_neg h, if_neg h2, Hpw.out, hd]
    refine ⟨by simp, _, _, _, _, HDa.out.used _, Ga.out, fun k hk => ?_⟩
    rcases hk with (rfl | hk | hk) | ⟨j, y, hj, hk⟩
    ·exact .inl (.inl (.inl rfl))
    ·exact (.inr (Nat.le_trans G8.out.size (N7.out k hk)))
    ·exact (N8.out k hk).imp (fun h => .inl (.inr (.inr h))) id
    ·rw [del_get _ _ _ hil.out] at hj
     split at hj
     ·exact .inl (.inr ⟨_, y, hj, hk⟩)
     ·exact .inl (.inr ⟨_, y, hj, hk⟩)
   ·have hf0 : Keep (D.fuse = 0) := ⟨by have h := hfz.out; simp at h; exact h⟩
    refine rgn ?_
    refine VlS (.pointer (some ⟨x, 0, none⟩)) ?_
    refine VlS (.string n) ?_
    refine WL.bld (by kernel_rfl) 103 _ rfl [(0, .int .i64 4), (1, .string n)] (by simp [Act.eval]) _ (ac_builtN 4 n) ?_
    simp only [Act.put, pqA, pqB, pqC]
    refine WL.callF (by kernel_rfl) 57 _ _ rfl Tryz.in57 #[ptr x, .agg (acA (⟨4, n, 0, .slice none 0 0⟩ : AC))] (by simp [Act.eval]) ?_
    refine (goes_any x (.slice (some ⟨g, 0, none⟩) cs.length vfc) va cs ms D (⟨4, n, 0, .slice none 0 0⟩ : AC) ⟨_, _, _, rfl⟩ w HD.out HMs.out HFu.out).mono ?_
    rintro e w8 ⟨rfl, va8, hd8, hg8, hn8⟩
    refine ⟨_, rfl, ?_⟩
    have HD8 := Keep.mk hd8
    have G8 : Keep (Grown w w8 (RdW x (.slice (some ⟨g, 0, none⟩) cs.length vfc) va)) := ⟨hg8.mono fun k _ e => e.elim .inl fun e => .inr (.inr e)⟩
    have N8 := Keep.mk hn8
    clear hd8 hg8 hn8
    rw [← hfz.out]
    simp only [Act.put, pqA, pqB, pqC]
    refine WL.nil (hK11 _ _ ?_)
    refine wp_cond_true rfl ?_
    refine wp_seq_k fun K16 hK16 => rgn ?_
    refine VlS (.int .i64 7) ?_
    refine WL.nil (hK16 _ _ ?_)
    refine wp_ret ?_
    go_ret
    have h : ¬ D.out = true := by rw [← hou.out]; simp
    have h2 : ¬ (fnd n D.fs 0).2 = false := by rw [hF.out]; simp
    unfold syC drD
    rw [if_neg h, if_neg h, if_neg h2, if_neg h2, Hpw.out, if_pos hf0.out]
    refine ⟨by simp, _, _, _, _, HD8.out, G8.out, fun k hk => ?_⟩
    rcases hk with (rfl | hk | hk) | ⟨j, y, hj, hk⟩
    ·exact .inl (.inl (.inl rfl))
    ·exact .inl (.inl (.inr (.inl hk)))
    ·exact (N8.out k hk).imp (fun h => .inl (.inr (.inr h))) id
    ·exact .inl (.inr ⟨j, y, hj, hk⟩)
 ·skip
  refine rgn ?_
  refine VlS (.pointer (some ⟨x, 0, none⟩)) ?_
  refine VlS (.pointer (some ⟨x, 0, none⟩)) ?_
  refine VlS (.pointer (some ⟨x, 3, none⟩)) ?_
  refine VbT ?_
  refine WL.nil (hK3 _ _ ?_)
  refine wp_cond_true rfl ?_
  refine wp_seq_k fun K17 hK17 => rgn ?_
  refine VlS (.int .i64 7) ?_
  refine WL.nil (hK17 _ _ ?_)
  refine wp_ret ?_
  go_ret
  have h := hou.out.symm
  unfold syC drD
  rw [if_pos h, if_pos h]
  exact ⟨rfl, _, _, _, _, HD.out, Grown.refl _ _, fun k hk => .inl hk⟩
end Go.Proofs.YteijjfeainamdaaGreatDoor
