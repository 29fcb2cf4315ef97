import Derived.Test.YteijjfeainamdaaGreatDoorA10
import Derived.Deep.RegionHeld3
import Derived.Lib.Small
namespace Go.Proofs.YteijjfeainamdaaGreatDoor
open Go.RowKit
set_option linter.unusedSimpArgs false
set_option linter.unusedVariables false

theorem Tryz.in33 (w : World) (vs : Array Value) : (callFunc 33 vs).run Tryz.prog w = .ok (.enter 33 vs) w := by kernel_rfl
theorem sl_run3b (base : Option Addr) (n cap a : Nat) (ha : a ≤ cap) (wx : World) : (Instr.sliceAt 40 (.slice base n cap) none (some (.int .i64 (a : Int))) (some (.int .i64 (a : Int)))).run Tryz.prog wx = .ok (.slice base a a) wx := by
 have hu : Tryz.prog.underlying 40 = some (.slice (Tryz.prog.elem 40)) := by rw [Tryz.elemBy]; exact Tryz.underlying40
 rw [run_sliceAt_slice (P := Tryz.prog) (w := wx) 40 _ none (some (.int .i64 (a : Int))) (some (.int .i64 (a : Int))) hu, run_slice_any (P := Tryz.prog) (w := wx) (t := 40) (a := base) (len := n) (cap := cap) hu, Tryz.elemBy]
 have hb : (Instr.sliceBounds true n cap none (some (.int .i64 (a : Int))) (some (.int .i64 (a : Int)))).run Tryz.prog wx = .ok (0, a, a) wx := by
  have h1 : ¬ (cap : Int) < (a : Int) := by omega
  simp [Instr.sliceBounds, run_sliceBound, h1, ha]
 rw [hb, Result.andThen_ok, Tryz.sizeOf5, Result.andThen_ok]
 have h4 : (if a = 0 then base else base.map (·.add (0 * 1))) = base := by
  split
  ·rfl
  ·cases base <;> rfl
 simp only [sliced, Nat.sub_zero, h4]
theorem yieldsIf_slice3 {P : Program} {ops : Array Oper} {S : World → Prop} {op : Oper} {a : Act} (hw : Region.wanted op (yielded ops a.tmps) = true) (t : TypeId) (x hi mx : Operand) (ho : op.op = .slice t x none (some hi) (some mx))
  (vx vh vm vs : Value) (hx : a.eval x = vx) (hh : a.eval hi = vh) (hm : a.eval mx = vm) (hr : ∀ w : World, (Instr.sliceAt t vx none (some vh) (some vm)).run P w = .ok vs w) : YieldsIf P ops S op vs a :=
 .inl ⟨hw, fun w _ => by
  unfold execOp
  simp only [ho, hx, hh, hm, Option.map_some, Option.map_none, Sem.run_bind, hr w, Result.andThen_ok, Sem.run_pure]⟩
theorem row_cap {w : World} {b : Option Addr} {n c : Nat} {l : List Int} (h : RowAt w (.slice b n c) l) : l.length ≤ c := by
 rcases h with ⟨e, rfl⟩ | ⟨_, _, e, rfl⟩ | ⟨_, _, _, e, h, _⟩
 ·exact Nat.zero_le _
 ·exact Nat.zero_le _
 ·injection e with _ _ e; omega
theorem row_cut {w : World} {b : Option Addr} {n c : Nat} {l : List Int} (h : RowAt w (.slice b n c) l) {a : Nat} (ha : a ≤ l.length) : RowAt w (.slice b a a) (l.take a) := by
 rcases h with ⟨e, rfl⟩ | ⟨ad, _, e, rfl⟩ | ⟨g, off, cp, e, h1, h2⟩
 ·injection e with e1
  obtain rfl : a = 0 := by simpa using ha
  exact .inl ⟨by rw [e1], rfl⟩
 ·injection e with e1
  obtain rfl : a = 0 := by simpa using ha
  exact .inr (.inl ⟨ad, 0, by rw [e1], rfl⟩)
 ·injection e with e1
  have hl : (l.take a).length = a := by rw [List.length_take]; omega
  refine .inr (.inr ⟨g, off, a, by rw [e1, hl], by rw [hl]; exact Nat.le_refl _, fun i hi => ?_⟩)
  rw [hl] at hi
  rw [h2 i (by omega)]
  simp [List.getD_eq_getElem?_getD, hi]
theorem own_sl (b : Option Addr) (n c n2 c2 : Nat) : (Value.slice b n c).ownBlock = (Value.slice b n2 c2).ownBlock := by cases b <;> rfl
theorem ac_built3 (n : ByteArray) (m : Int) : Tryz.prog.built 103 [(0, .int .i64 3), (1, .string n), (2, .int .i64 m)] = some (acA ⟨3, n, m, .slice none 0 0⟩) := by kernel_rfl
def cuR (D : DV) (n : ByteArray) (m : Int) : Bool := match D.fs[(fnd n D.fs 0).1]? with | some f => decide (0 ≤ m ∧ m ≤ (f.bs.length : Int)) | none => false
def cuC (D : DV) (n : ByteArray) (m : Int) : Int := if D.out = true then 7 else if (fnd n D.fs 0).2 = false then 6 else if cuR D n m = false then 2 else pw D
def cuD (D : DV) (n : ByteArray) (m : Int) : DV := if D.out = true then D else if (fnd n D.fs 0).2 = false then D else if cuR D n m = false then D else if D.fuse = 0 then D.act else match D.fs[(fnd n D.fs 0).1]? with | some f => D.act.cut (fnd n D.fs 0).1 f m.toNat | none => D
set_option maxRecDepth 8000 in
set_option maxHeartbeats 4000000 in
theorem rcut_any (x : Nat) (n : ByteArray) (m : Int) (vf va : Value) (cs : List FC) (ms : List AC) (D : DV) (w : World) (hD : RDAt w x vf va cs ms D) (hSr : Srt D.fs) (hL : cs.length ≤ 256) (hMs : ms.length ≤ 100000000000) (hFu : -9223372036854775808 < D.fuse ∧ D.fuse ≤ 9223372036854775807) :
  Calls Tryz.prog 33 #[ptr x, .string n, .int .i64 m] w fun e w' => e = .returned (.int .i64 (cuC D n m)) ∧ ∃ vf' va' cs' ms', RDAt w' x vf' va' cs' ms' (cuD D n m) ∧ Grown w w' (RdW x vf va) ∧ ∀ k, RdS x vf' va' cs' k → RdS x vf va cs k ∨ w.heap.size ≤ k := by
 obtain ⟨vfa, vfc, rfl⟩ := hD.own.sl
 have HD := Keep.mk hD
 have HSr := Keep.mk hSr
 have HL := Keep.mk hL
 have HMs := Keep.mk hMs
 have HFu := Keep.mk hFu
 clear hD hSr hL hMs hFu
 go_enter Tryz.func33, Tryz.ntmps33
 obtain ⟨ou, hou⟩ : ∃ z, Keep (z = D.out) := ⟨_, ⟨rfl⟩⟩
 have c3 : w.cell? ⟨x, 3, none⟩ = some (.bool ou) := by rw [hou.out]; exact HD.out.blk.c 3 rfl
 obtain ⟨i, is, hF⟩ : ∃ i b, Keep (fnd n D.fs 0 = (i, b)) := ⟨_, _, ⟨rfl⟩⟩
 refine wp_seq_k fun K1 hK1 => rgn ?_
 refine VlS (.int .i64 0) ?_
 refine WL.nil (hK1 _ _ ?_)
 refine wp_seq_k fun K2 hK2 => ?_
 refine wp_seq_k fun K3 hK3 => ?_
 cases ou
 ·skip
  refine rgn ?_
  refine VlS (.pointer (some ⟨x, 0, none⟩)) ?_
  refine VlS (.pointer (some ⟨x, 0, none⟩)) ?_
  refine VlS (.pointer (some ⟨x, 3, none⟩)) ?_
  refine VbF ?_
  refine WL.nil (hK3 _ _ ?_)
  refine wp_cond_false rfl ?_
  refine wp_skip ?_
  refine hK2 _ _ ?_
  refine wp_seq_k fun K4 hK4 => ?_
  clear c3
  cases is
  ·have hfd : Keep (fdI n D.fs = -1) := ⟨by unfold fdI; rw [hF.out]; simp⟩
   refine rgn ?_
   refine VlS (.pointer (some ⟨x, 0, none⟩)) ?_
   refine VlS (.string n) ?_
   refine WL.callF (by kernel_rfl) 22 _ _ rfl Tryz.in22 #[ptr x, .string n] (by simp [Act.eval]) ?_
   refine (rfind_any x n (.slice vfa cs.length vfc) va cs ms D w HD.out HSr.out (by have := HL.out; omega)).mono ?_
   rintro e w1 ⟨rfl, hw_⟩
   refine ⟨_, rfl, ?_⟩
   have hw_ := hw_.symm
   subst hw_
   rw [hfd.out]
   simp only [Act.put, pqA, pqB, pqC]
   refine VlS (.int .i64 (-1)) ?_
   refine WL.nil (hK4 _ _ ?_)
   refine wp_seq_k fun K5 hK5 => ?_
   refine wp_seq_k fun K6 hK6 => rgn ?_
   refine VlS (.int .i64 (-1)) ?_
   refine VbT ?_
   refine WL.nil (hK6 _ _ ?_)
   refine wp_cond_true rfl ?_
   refine wp_seq_k fun K7 hK7 => rgn ?_
   refine VlS (.int .i64 6) ?_
   refine WL.nil (hK7 _ _ ?_)
   refine wp_ret ?_
   go_ret
   have h : ¬ D.out = true := by rw [← hou.out]; simp
   have h2 : (fnd n D.fs 0).2 = false := by rw [hF.out]
   unfold cuC cuD
   rw [if_neg h, if_neg h, if_pos h2, if_pos h2]
   exact ⟨rfl, _, _, _, _, HD.out, Grown.refl _ _, fun k hk => .inl hk⟩
  ·have hfd : Keep (fdI n D.fs = (i : Int)) := ⟨by unfold fdI; rw [hF.out]; simp⟩
   have hi0 : ¬ (i : Int) < 0 := by omega
   refine rgn ?_
   refine VlS (.pointer (some ⟨x, 0, none⟩)) ?_
   refine VlS (.string n) ?_
   refine WL.callF (by kernel_rfl) 22 _ _ rfl Tryz.in22 #[ptr x, .string n] (by simp [Act.eval]) ?_
   refine (rfind_any x n (.slice vfa cs.length vfc) va cs ms D w HD.out HSr.out (by have := HL.out; omega)).mono ?_
   rintro e w1 ⟨rfl, hw_⟩
   refine ⟨_, rfl, ?_⟩
   have hw_ := hw_.symm
   subst hw_
   rw [hfd.out]
   obtain ⟨fa, Hf⟩ : ∃ f, Keep (D.fs[i]? = some f) := by
    obtain ⟨j, f, h1, h2⟩ := fnd_at n D.fs 0 (by rw [hF.out])
    rw [hF.out] at h1
    simp at h1
    subst h1
    exact ⟨f, ⟨h2⟩⟩
   have hil : Keep (i < cs.length) := ⟨by have := (List.getElem?_eq_some_iff.1 Hf.out).1; have := HD.out.rcs.len; omega⟩
   obtain ⟨ca, Hc⟩ : ∃ z, Keep (cs[i]? = some z) := ⟨cs[i]'hil.out, ⟨List.getElem?_eq_getElem _⟩⟩
   obtain ⟨g, hva, _⟩ := HD.out.own.at Hc.out
   subst hva
   simp only [Act.put, pqA, pqB, pqC]
   refine VlS (.int .i64 (i : Int)) ?_
   refine WL.nil (hK4 _ _ ?_)
   refine wp_seq_k fun K8 hK8 => ?_
   refine wp_seq_k fun K9 hK9 => rgn ?_
   refine VlS (.int .i64 (i : Int)) ?_
   refine VbF ?_
   refine WL.nil (hK9 _ _ ?_)
   refine wp_cond_false rfl ?_
   refine wp_skip ?_
   refine hK8 _ _ ?_
   refine wp_seq_k fun K10 hK10 => ?_
   refine wp_seq_k fun K11 hK11 => ?_
   have c0 := HD.out.blk.c 0 (by rfl : (rdA (.slice (some ⟨g, 0, none⟩) cs.length vfc) va D)[0]? = some (.slice (some ⟨g, 0, none⟩) cs.length vfc))
   obtain ⟨ya, yc, hyb⟩ := row_form (HD.out.rcs.each i ca fa Hc.out Hf.out).2.2.1
   have cb : w.cell? ⟨g, i * 3 + 1, none⟩ = some (.slice ya fa.bs.length yc) := by rw [← hyb]; exact (own_fc HD.out.own Hc.out).1
   have hil2 : (i : Int) < (cs.length : Int) := by have := hil.out; omega
   refine rgn ?_
   refine VlS (.int .i64 m) ?_
   by_cases h6_1 : m < 0
   ·skip
    refine VbT ?_
    refine VbT ?_
    refine SkS ?_
    refine SkS ?_
    refine SkS ?_
    refine SkS ?_
    refine SkS ?_
    refine SkS ?_
    refine SkS ?_
    refine SkS ?_
    refine SkS ?_
    refine SkS ?_
    refine SkS ?_
    refine VbT ?_
    refine WL.nil (hK11 _ _ ?_)
    refine wp_cond_true rfl ?_
    refine wp_seq_k fun K12 hK12 => rgn ?_
    refine VlS (.int .i64 2) ?_
    refine WL.nil (hK12 _ _ ?_)
    refine wp_ret ?_
    go_ret
    have h : ¬ D.out = true := by rw [← hou.out]; simp
    have h2 : ¬ (fnd n D.fs 0).2 = false := by rw [hF.out]; simp
    have h3 : cuR D n m = false := by unfold cuR; rw [hF.out]; show (match D.fs[i]? with | some f => decide (0 ≤ m ∧ m ≤ (f.bs.length : Int)) | none => false) = false; rw [Hf.out]; exact decide_eq_false (by omega)
    unfold cuC cuD
    rw [if_neg h, if_neg h, if_neg h2, if_neg h2, if_pos h3, if_pos h3]
    exact ⟨rfl, _, _, _, _, HD.out, Grown.refl _ _, fun k hk => .inl hk⟩
   ·skip
    refine VbF ?_
    refine VbF ?_
    refine VlS (.int .i64 m) ?_
    refine VlS (.pointer (some ⟨x, 0, none⟩)) ?_
    refine VlS (.pointer (some ⟨x, 0, none⟩)) ?_
    refine VlS (.pointer (some ⟨x, 0, none⟩)) ?_
    refine VlS (.slice (some ⟨g, 0, none⟩) cs.length vfc) ?_
    refine VlS (.int .i64 (i : Int)) ?_
    refine VlS (.pointer (some ⟨g, i * 3, none⟩)) ?_
    refine VlS (.pointer (some ⟨g, i * 3 + 1, none⟩)) ?_
    refine VlS (.slice ya fa.bs.length yc) ?_
    refine VlS (.int .i64 (fa.bs.length : Int)) ?_
    by_cases h6_13 : (fa.bs.length : Int) < m
    ·skip
     refine VbT ?_
     refine VbT ?_
     refine WL.nil (hK11 _ _ ?_)
     refine wp_cond_true rfl ?_
     refine wp_seq_k fun K13 hK13 => rgn ?_
     refine VlS (.int .i64 2) ?_
     refine WL.nil (hK13 _ _ ?_)
     refine wp_ret ?_
     go_ret
     have h : ¬ D.out = true := by rw [← hou.out]; simp
     have h2 : ¬ (fnd n D.fs 0).2 = false := by rw [hF.out]; simp
     have h3 : cuR D n m = false := by unfold cuR; rw [hF.out]; show (match D.fs[i]? with | some f => decide (0 ≤ m ∧ m ≤ (f.bs.length : Int)) | none => false) = false; rw [Hf.out]; exact decide_eq_false (by omega)
     unfold cuC cuD
     rw [if_neg h, if_neg h, if_neg h2, if_neg h2, if_pos h3, if_pos h3]
     exact ⟨rfl, _, _, _, _, HD.out, Grown.refl _ _, fun k hk => .inl hk⟩
    ·skip
     refine VbF ?_
     refine VbF ?_
     refine WL.nil (hK11 _ _ ?_)
     refine wp_cond_false rfl ?_
     refine wp_skip ?_
     refine hK10 _ _ ?_
     refine wp_seq_k fun K14 hK14 => ?_
     refine wp_seq_k fun K15 hK15 => ?_
     clear c0 cb
     obtain ⟨mn, hmn0⟩ : ∃ k : Nat, m = (k : Int) := ⟨m.toNat, by omega⟩
     subst hmn0
     have hmn : Keep (mn ≤ fa.bs.length) := ⟨by omega⟩
     obtain ⟨fz, hfz⟩ : ∃ z, Keep (z = decide (D.fuse = 0)) := ⟨_, ⟨rfl⟩⟩
     have Hpw := Keep.mk (pw_lt D)
     rw [← hfz.out] at Hpw
     cases fz
     ·have hf0 : Keep (¬ D.fuse = 0) := ⟨by have h := hfz.out; simp at h; exact h⟩
      refine rgn ?_
      refine VlS (.pointer (some ⟨x, 0, none⟩)) ?_
      refine VlS (.string n) ?_
      refine VlS (.int .i64 (mn : Int)) ?_
      refine WL.bld (by kernel_rfl) 103 _ rfl [(0, .int .i64 3), (1, .string n), (2, .int .i64 (mn : Int))] (by simp [Act.eval]) _ (ac_built3 n (mn : Int)) ?_
      simp only [Act.put, pqA, pqB, pqC]
      refine WL.callF (by kernel_rfl) 57 _ _ rfl Tryz.in57 #[ptr x, .agg (acA (⟨3, n, (mn : Int), .slice none 0 0⟩ : AC))] (by simp [Act.eval]) ?_
      refine (goes_any x (.slice (some ⟨g, 0, none⟩) cs.length vfc) va cs ms D (⟨3, n, (mn : Int), .slice none 0 0⟩ : AC) ⟨_, _, _, rfl⟩ w HD.out HMs.out HFu.out).mono ?_
      rintro e w8 ⟨rfl, va8, hd8, hg8, hn8⟩
      refine ⟨_, rfl, ?_⟩
      have HD8 := Keep.mk hd8
      have G8 : Keep (Grown w w8 (RdW x (.slice (some ⟨g, 0, none⟩) cs.length vfc) va)) := ⟨hg8.mono fun k _ e => e.elim .inl fun e => .inr (.inr e)⟩
      have N8 := Keep.mk hn8
      clear hd8 hg8 hn8
      rw [← hfz.out]
      simp only [Act.put, pqA, pqB, pqC]
      refine WL.nil (hK15 _ _ ?_)
      refine wp_cond_false rfl ?_
      refine wp_skip ?_
      refine hK14 _ _ ?_
      refine wp_seq_k fun K16 hK16 => ?_
      have HD9 := Keep.mk HD8.out.drew
      have G9 : Keep (Grown w w8.drew (RdW x (.slice (some ⟨g, 0, none⟩) cs.length vfc) va)) := ⟨G8.out.drew⟩
      have HR9 : Keep (RowAt w8.drew (.slice ya fa.bs.length yc) fa.bs) := ⟨by rw [← hyb]; exact (HD9.out.rcs.each i ca fa Hc.out Hf.out).2.2.1⟩
      have HT9 : Keep (∀ k, (.slice ya mn mn : Value).ownBlock = some k → Typ w8.drew k 5) := ⟨fun k hk => (HD9.out.rcs.each i ca fa Hc.out Hf.out).2.2.2 k (by rw [hyb, own_sl ya _ _ mn mn]; exact hk)⟩
      have HS3 := Keep.mk (sl_run3b ya fa.bs.length yc mn (Nat.le_trans hmn.out (row_cap HR9.out)))
      have hil2 : (i : Int) < (cs.length : Int) := by have := hil.out; omega
      clear HD8 G8
      refine wp_region_held_drew (S := fun wx => wx.cell? ⟨x, 0, none⟩ = some (.slice (some ⟨g, 0, none⟩) cs.length vfc)) (by kernel_rfl) (HD9.out.blk.c 0 rfl) (fun hHeld => ?_)
      generalize w8.drew = w9 at *
      refine TkG (i := 0) (oi := ⟨some 37, Op.move (Operand.tmp 0), 27, _, _, none⟩) (v := .pointer (some ⟨x, 0, none⟩)) rfl hHeld ?_
      refine TkG (i := 1) (oi := ⟨some 38, Op.nilCheck (Operand.tmp 37), 0, _, _, none⟩) (v := .pointer (some ⟨x, 0, none⟩)) rfl hHeld ?_
      refine TkG (i := 2) (oi := ⟨some 39, Op.fieldAddr 62 (Operand.tmp 38) 0, 0, _, _, none⟩) (v := .pointer (some ⟨x, 0, none⟩)) rfl hHeld ?_
      refine TkG (i := 3) (oi := ⟨some 40, Op.load 22 (Operand.tmp 39), 22, _, _, none⟩) (v := .slice (some ⟨g, 0, none⟩) cs.length vfc) rfl hHeld ?_
      refine TkG (i := 4) (oi := ⟨some 41, Op.move (Operand.tmp 7), 3, _, _, none⟩) (v := .int .i64 (i : Int)) rfl hHeld ?_
      refine TkG (i := 5) (oi := ⟨some 42, Op.move (Operand.tmp 0), 27, _, _, none⟩) (v := .pointer (some ⟨x, 0, none⟩)) rfl hHeld ?_
      refine TkG (i := 6) (oi := ⟨some 43, Op.nilCheck (Operand.tmp 42), 0, _, _, none⟩) (v := .pointer (some ⟨x, 0, none⟩)) rfl hHeld ?_
      refine TkG (i := 7) (oi := ⟨some 44, Op.fieldAddr 62 (Operand.tmp 43) 0, 0, _, _, none⟩) (v := .pointer (some ⟨x, 0, none⟩)) rfl hHeld ?_
      refine TkG (i := 8) (oi := ⟨some 45, Op.load 22 (Operand.tmp 44), 22, _, _, none⟩) (v := .slice (some ⟨g, 0, none⟩) cs.length vfc) rfl hHeld ?_
      refine TkG (i := 9) (oi := ⟨some 46, Op.move (Operand.tmp 7), 3, _, _, none⟩) (v := .int .i64 (i : Int)) rfl hHeld ?_
      refine TkG (i := 10) (oi := ⟨some 47, Op.indexAddr 22 (Operand.tmp 45) (Operand.tmp 46), 0, _, _, none⟩) (v := .pointer (some ⟨g, i * 3, none⟩)) rfl hHeld ?_
      refine TkG (i := 11) (oi := ⟨some 48, Op.fieldAddr 49 (Operand.tmp 47) 1, 0, _, _, none⟩) (v := .pointer (some ⟨g, i * 3 + 1, none⟩)) rfl hHeld ?_
      refine TkG (i := 13) (oi := ⟨some 50, Op.move (Operand.tmp 2), 3, _, _, none⟩) (v := .int .i64 (mn : Int)) rfl hHeld ?_
      refine TkG (i := 14) (oi := ⟨some 51, Op.move (Operand.tmp 2), 3, _, _, none⟩) (v := .int .i64 (mn : Int)) rfl hHeld ?_
      refine wpAnyH_ready (rs := [12]) (by kernel_rfl) (by simp) ?_
      refine AllReadyH.cons (o := ⟨some 49, Op.load 40 (Operand.tmp 48), 40, _, _, none⟩) rfl (fun K hK => ?_) AllReadyH.nil
      rw [if_pos (by rfl)]
      have cl : w9.cell? ⟨g, i * 3 + 1, none⟩ = some (.slice ya fa.bs.length yc) := by rw [← hyb]; exact (own_fc HD9.out.own Hc.out).1
      refine wp_val (.slice ya fa.bs.length yc) (by go_simp) ?_
      clear cl
      refine hK _ _ (HD9.out.blk.c 0 rfl) fun hL9 => ?_
      clear hK
      simp only [Act.put, pqA, pqB, pqC]
      refine tkS (i := 15) (oi := ⟨some 52, Op.slice 40 (Operand.tmp 49) none (some (Operand.tmp 50)) (some (Operand.tmp 51)), 40, _, _, none⟩) (v := .slice ya mn mn) rfl (yieldsIf_slice3 (by rfl) 40 (.tmp 49) (.tmp 50) (.tmp 51) rfl (.slice ya fa.bs.length yc) (.int .i64 (mn : Int)) (.int .i64 (mn : Int)) (.slice ya mn mn) rfl rfl rfl HS3.out) hL9 ?_
      refine TkG (i := 16) (oi := ⟨some 53, Op.indexAddr 22 (Operand.tmp 40) (Operand.tmp 41), 0, _, _, none⟩) (v := .pointer (some ⟨g, i * 3, none⟩)) rfl hL9 ?_
      refine TkG (i := 17) (oi := ⟨some 54, Op.fieldAddr 49 (Operand.tmp 53) 1, 0, _, _, none⟩) (v := .pointer (some ⟨g, i * 3 + 1, none⟩)) rfl hL9 ?_
      refine wpAnyH_ready (rs := [18]) (by kernel_rfl) (by simp) ?_
      refine AllReadyH.cons (o := ⟨none, Op.store 40 (Operand.tmp 54) (Operand.tmp 52), 0, _, _, none⟩) rfl (fun K hK => ?_) AllReadyH.nil
      rw [if_pos (by rfl)]
      have f_o := ownF_frozen HD9.out.own (i * 3 + 1)
      have cl : w9.cell? ⟨g, i * 3 + 1, none⟩ = some (.slice ya fa.bs.length yc) := by rw [← hyb]; exact (own_fc HD9.out.own Hc.out).1
      refine wp_cellS (w9.setCell ⟨g, i * 3 + 1, none⟩ (.slice ya mn mn)) (by go_simp) ?_
      clear f_o cl
      have HDa := Keep.mk (HD9.out.bytes (v := .slice ya mn mn) (l := fa.bs.take mn) Hc.out Hf.out (row_cut HR9.out hmn.out) HT9.out)
      have Ga : Keep (Grown w (w9.setCell ⟨g, i * 3 + 1, none⟩ (.slice ya mn mn)) (RdW x (.slice (some ⟨g, 0, none⟩) cs.length vfc) va)) := ⟨G9.out.next (Grown.setCell w9 g (i * 3 + 1) _ (S := fun k => k = g) fun _ => rfl) fun k _ e => .inr (.inl (by rw [e]; rfl))⟩
      have hsfe : ca.sf = fa.sf := (HD9.out.rcs.each i ca fa Hc.out Hf.out).2.1
      clear HD9 HR9 HT9 G9
      generalize w9.setCell ⟨g, i * 3 + 1, none⟩ (.slice ya mn mn) = wa at *
      obtain ⟨sf, hsf⟩ : ∃ z, Keep (z = fa.sf) := ⟨_, ⟨rfl⟩⟩
      have hca2 : Keep ((cs.set i ⟨ca.nm, .slice ya mn mn, ca.sf⟩)[i]? = some (⟨ca.nm, .slice ya mn mn, ca.sf⟩ : FC)) := ⟨List.getElem?_set_self hil.out⟩
      have hfa2 : Keep ((D.act.fs.set i { fa with bs := fa.bs.take mn })[i]? = some { fa with bs := fa.bs.take mn }) := ⟨List.getElem?_set_self (List.getElem?_eq_some_iff.1 Hf.out).1⟩
      have c2 : wa.cell? ⟨g, i * 3 + 2, none⟩ = some (.int .i64 sf) := by rw [hsf.out, ← hsfe]; exact (own_fc HDa.out.own hca2.out).2
      have c0 := HDa.out.blk.c 0 (by rfl : (rdA (.slice (some ⟨g, 0, none⟩) cs.length vfc) va8 ({ D.act with fs := D.act.fs.set i { fa with bs := fa.bs.take mn } }))[0]? = some (.slice (some ⟨g, 0, none⟩) cs.length vfc))
      clear hsfe
      refine hK _ _ (HDa.out.blk.c 0 rfl) fun hHa => ?_
      clear hK
      simp only [Act.put, pqA, pqB, pqC]
      refine wpAnyH_done (by kernel_rfl) ?_ _
      refine hK16 _ _ ?_
      refine wp_seq_k fun K17 hK17 => ?_
      refine wp_seq_k fun K18 hK18 => rgn ?_
      refine VlS (.pointer (some ⟨x, 0, none⟩)) ?_
      refine VlS (.pointer (some ⟨x, 0, none⟩)) ?_
      refine VlS (.pointer (some ⟨x, 0, none⟩)) ?_
      refine VlS (.slice (some ⟨g, 0, none⟩) cs.length vfc) ?_
      refine VlS (.int .i64 (i : Int)) ?_
      refine VlS (.pointer (some ⟨g, i * 3, none⟩)) ?_
      refine VlS (.pointer (some ⟨g, i * 3 + 2, none⟩)) ?_
      refine VlS (.int .i64 sf) ?_
      refine VlS (.int .i64 (mn : Int)) ?_
      by_cases h11_9 : (mn : Int) < sf
      ·skip
       refine VbT ?_
       refine WL.nil (hK18 _ _ ?_)
       refine wp_cond_true rfl ?_
       refine rgn ?_
       refine VlS (.pointer (some ⟨x, 0, none⟩)) ?_
       refine VlS (.pointer (some ⟨x, 0, none⟩)) ?_
       refine VlS (.pointer (some ⟨x, 0, none⟩)) ?_
       refine VlS (.slice (some ⟨g, 0, none⟩) cs.length vfc) ?_
       refine VlS (.int .i64 (i : Int)) ?_
       refine VlS (.int .i64 (mn : Int)) ?_
       refine VlS (.pointer (some ⟨g, i * 3, none⟩)) ?_
       refine VlS (.pointer (some ⟨g, i * 3 + 2, none⟩)) ?_
       have f_o := ownF_frozen HDa.out.own (i * 3 + 2)
       refine WL.cell (by kernel_rfl) (wa.setCell ⟨g, i * 3 + 2, none⟩ (.int .i64 (mn : Int))) (by go_simp) ?_
       clear f_o c0 c2
       have HDb := Keep.mk (HDa.out.safe (z := (mn : Int)) hca2.out hfa2.out)
       have Gb : Keep (Grown w (wa.setCell ⟨g, i * 3 + 2, none⟩ (.int .i64 (mn : Int))) (RdW x (.slice (some ⟨g, 0, none⟩) cs.length vfc) va)) := ⟨Ga.out.next (Grown.setCell wa g (i * 3 + 2) _ (S := fun k => k = g) fun _ => rfl) fun k _ e => .inr (.inl (by rw [e]; rfl))⟩
       clear HDa Ga
       generalize wa.setCell ⟨g, i * 3 + 2, none⟩ (.int .i64 (mn : Int)) = wb at *
       simp only [Act.put]
       refine WL.nil (hK17 _ _ ?_)
       refine wp_seq_k fun K19 hK19 => rgn ?_
       refine VlS (.int .i64 0) ?_
       refine WL.nil (hK19 _ _ ?_)
       refine wp_ret ?_
       go_ret
       have h : ¬ D.out = true := by rw [← hou.out]; simp
       have h2 : ¬ (fnd n D.fs 0).2 = false := by rw [hF.out]; simp
       have h3 : ¬ cuR D n (mn : Int) = false := by unfold cuR; rw [hF.out]; show ¬ (match D.fs[i]? with | some f => decide (0 ≤ (mn : Int) ∧ (mn : Int) ≤ (f.bs.length : Int)) | none => false) = false; rw [Hf.out]; simp; have := hmn.out; omega
       have hd : cuD D n (mn : Int) = { ({ D.act with fs := D.act.fs.set i { fa with bs := fa.bs.take mn, sf := min fa.sf (mn : Int) } } : DV) with used := D.act.used - ((fa.bs.length : Int) - (mn : Int)) } := by
        unfold cuD
        rw [if_neg h, if_neg h2, if_neg h3, if_neg hf0.out, hF.out]
        show (match D.fs[i]? with | some f => D.act.cut i f (mn : Int).toNat | none => D) = _
        rw [Hf.out, Int.toNat_natCast]
        rfl
       have hm : min fa.sf (mn : Int) = (mn : Int) := by have := hsf.out; omega
       rw [hm] at hd
       unfold cuC
       rw [if_neg h, if_neg h2, if_neg h3, Hpw.out, hd]
       have e9 := HDb.out
       simp only [List.set_set] at e9
       refine ⟨by simp, _, _, _, _, e9.used _, Gb.out, fun k hk => ?_⟩
       rcases hk with (rfl | hk | hk) | ⟨j, y, hj, hk⟩
       ·exact .inl (.inl (.inl rfl))
       ·exact .inl (.inl (.inr (.inl hk)))
       ·exact (N8.out k hk).imp (fun h => .inl (.inr (.inr h))) id
       ·rw [List.getElem?_set] at hj
        split at hj
        ·split at hj
         ·injection hj with hj
          subst hj
          exact .inl (.inr ⟨i, ca, Hc.out, by rw [hyb, own_sl ya _ _ mn mn]; exact hk⟩)
         ·cases hj
        ·exact .inl (.inr ⟨j, y, hj, hk⟩)
      ·skip
       refine VbF ?_
       refine WL.nil (hK18 _ _ ?_)
       refine wp_cond_false rfl ?_
       refine wp_skip ?_
       refine hK17 _ _ ?_
       refine wp_seq_k fun K20 hK20 => rgn ?_
       refine VlS (.int .i64 0) ?_
       refine WL.nil (hK20 _ _ ?_)
       refine wp_ret ?_
       go_ret
       have h : ¬ D.out = true := by rw [← hou.out]; simp
       have h2 : ¬ (fnd n D.fs 0).2 = false := by rw [hF.out]; simp
       have h3 : ¬ cuR D n (mn : Int) = false := by unfold cuR; rw [hF.out]; show ¬ (match D.fs[i]? with | some f => decide (0 ≤ (mn : Int) ∧ (mn : Int) ≤ (f.bs.length : Int)) | none => false) = false; rw [Hf.out]; simp; have := hmn.out; omega
       have hd : cuD D n (mn : Int) = { ({ D.act with fs := D.act.fs.set i { fa with bs := fa.bs.take mn, sf := min fa.sf (mn : Int) } } : DV) with used := D.act.used - ((fa.bs.length : Int) - (mn : Int)) } := by
        unfold cuD
        rw [if_neg h, if_neg h2, if_neg h3, if_neg hf0.out, hF.out]
        show (match D.fs[i]? with | some f => D.act.cut i f (mn : Int).toNat | none => D) = _
        rw [Hf.out, Int.toNat_natCast]
        rfl
       have hm : min fa.sf (mn : Int) = fa.sf := by have := hsf.out; omega
       rw [hm] at hd
       unfold cuC
       rw [if_neg h, if_neg h2, if_neg h3, Hpw.out, hd]
       refine ⟨by simp, _, _, _, _, HDa.out.used _, Ga.out, fun k hk => ?_⟩
       rcases hk with (rfl | hk | hk) | ⟨j, y, hj, hk⟩
       ·exact .inl (.inl (.inl rfl))
       ·exact .inl (.inl (.inr (.inl hk)))
       ·exact (N8.out k hk).imp (fun h => .inl (.inr (.inr h))) id
       ·rw [List.getElem?_set] at hj
        split at hj
        ·split at hj
         ·injection hj with hj
          subst hj
          exact .inl (.inr ⟨i, ca, Hc.out, by rw [hyb, own_sl ya _ _ mn mn]; exact hk⟩)
         ·cases hj
        ·exact .inl (.inr ⟨j, y, hj, hk⟩)
     ·have hf0 : Keep (D.fuse = 0) := ⟨by have h := hfz.out; simp at h; exact h⟩
      refine rgn ?_
      refine VlS (.pointer (some ⟨x, 0, none⟩)) ?_
      refine VlS (.string n) ?_
      refine VlS (.int .i64 (mn : Int)) ?_
      refine WL.bld (by kernel_rfl) 103 _ rfl [(0, .int .i64 3), (1, .string n), (2, .int .i64 (mn : Int))] (by simp [Act.eval]) _ (ac_built3 n (mn : Int)) ?_
      simp only [Act.put, pqA, pqB, pqC]
      refine WL.callF (by kernel_rfl) 57 _ _ rfl Tryz.in57 #[ptr x, .agg (acA (⟨3, n, (mn : Int), .slice none 0 0⟩ : AC))] (by simp [Act.eval]) ?_
      refine (goes_any x (.slice (some ⟨g, 0, none⟩) cs.length vfc) va cs ms D (⟨3, n, (mn : Int), .slice none 0 0⟩ : AC) ⟨_, _, _, rfl⟩ w HD.out HMs.out HFu.out).mono ?_
      rintro e w8 ⟨rfl, va8, hd8, hg8, hn8⟩
      refine ⟨_, rfl, ?_⟩
      have HD8 := Keep.mk hd8
      have G8 : Keep (Grown w w8 (RdW x (.slice (some ⟨g, 0, none⟩) cs.length vfc) va)) := ⟨hg8.mono fun k _ e => e.elim .inl fun e => .inr (.inr e)⟩
      have N8 := Keep.mk hn8
      clear hd8 hg8 hn8
      rw [← hfz.out]
      simp only [Act.put, pqA, pqB, pqC]
      refine WL.nil (hK15 _ _ ?_)
      refine wp_cond_true rfl ?_
      refine wp_seq_k fun K21 hK21 => rgn ?_
      refine VlS (.int .i64 7) ?_
      refine WL.nil (hK21 _ _ ?_)
      refine wp_ret ?_
      go_ret
      have h : ¬ D.out = true := by rw [← hou.out]; simp
      have h2 : ¬ (fnd n D.fs 0).2 = false := by rw [hF.out]; simp
      have h3 : ¬ cuR D n (mn : Int) = false := by unfold cuR; rw [hF.out]; show ¬ (match D.fs[i]? with | some f => decide (0 ≤ (mn : Int) ∧ (mn : Int) ≤ (f.bs.length : Int)) | none => false) = false; rw [Hf.out]; simp; have := hmn.out; omega
      unfold cuC cuD
      rw [if_neg h, if_neg h, if_neg h2, if_neg h2, if_neg h3, if_neg h3, Hpw.out, if_pos hf0.out]
      refine ⟨by simp, _, _, _, _, HD8.out, G8.out, fun k hk => ?_⟩
      rcases hk with (rfl | hk | hk) | ⟨j, y, hj, hk⟩
      ·exact .inl (.inl (.inl rfl))
      ·exact .inl (.inl (.inr (.inl hk)))
      ·exact (N8.out k hk).imp (fun h => .inl (.inr (.inr h))) id
      ·exact .inl (.inr ⟨j, y, hj, hk⟩)
 ·skip
  refine rgn ?_
  refine VlS (.pointer (some ⟨x, 0, none⟩)) ?_
  refine VlS (.pointer (some ⟨x, 0, none⟩)) ?_
  refine VlS (.pointer (some ⟨x, 3, none⟩)) ?_
  refine VbT ?_
  refine WL.nil (hK3 _ _ ?_)
  refine wp_cond_true rfl ?_
  refine wp_seq_k fun K22 hK22 => rgn ?_
  refine VlS (.int .i64 7) ?_
  refine WL.nil (hK22 _ _ ?_)
  refine wp_ret ?_
  go_ret
  have h := hou.out.symm
  unfold cuC cuD
  rw [if_pos h, if_pos h]
  exact ⟨rfl, _, _, _, _, HD.out, Grown.refl _ _, fun k hk => .inl hk⟩
theorem Tryz.in58 (w : World) (vs : Array Value) : (callFunc 58 vs).run Tryz.prog w = .ok (.enter 58 vs) w := by kernel_rfl
theorem Tryz.in40 (w : World) (vs : Array Value) : (callFunc 40 vs).run Tryz.prog w = .ok (.enter 40 vs) w := by kernel_rfl
theorem Tryz.in37 (w : World) (vs : Array Value) : (callFunc 37 vs).run Tryz.prog w = .ok (.enter 37 vs) w := by kernel_rfl
set_option maxRecDepth 8000 in
theorem file_no (x : Nat) (n : ByteArray) (vf va : Value) (cs : List FC) (ms : List AC) (D : DV) (w : World) (hD : RDAt w x vf va cs ms D) (hSr : Srt D.fs) (hL : cs.length ≤ 256) (hF : (fnd n D.fs 0).2 = false) : Calls Tryz.prog 58 #[ptr x, .string n] w fun e w' => e = .returned (.tuple #[.slice none 0 0, .bool false]) ∧ w' = w := by
 obtain ⟨vfa, vfc, rfl⟩ := hD.own.sl
 have HD := Keep.mk hD
 have HSr := Keep.mk hSr
 have HL := Keep.mk hL
 clear hD hSr hL
 have HF := Keep.mk hF
 clear hF
 go_enter Tryz.func58, Tryz.ntmps58
 refine wp_seq_k fun K1 hK1 => rgn ?_
 refine VlS (.slice none 0 0) ?_
 refine VbF ?_
 refine WL.nil (hK1 _ _ ?_)
 refine wp_seq_k fun K2 hK2 => rgn ?_
 refine VlS (.pointer (some ⟨x, 0, none⟩)) ?_
 refine VlS (.string n) ?_
 have hfd : Keep (fdI n D.fs = -1) := ⟨by unfold fdI; rw [HF.out]; simp⟩
 refine WL.callF (by kernel_rfl) 22 _ _ rfl Tryz.in22 #[ptr x, .string n] (by simp [Act.eval]) ?_
 refine (rfind_any x n (.slice vfa cs.length vfc) va cs ms D w HD.out HSr.out (by have := HL.out; omega)).mono ?_
 rintro e w1 ⟨rfl, hw_⟩
 refine ⟨_, rfl, ?_⟩
 have hw_ := hw_.symm
 subst hw_
 rw [hfd.out]
 simp only [Act.put, pqA, pqB, pqC]
 refine VlS (.int .i64 (-1)) ?_
 refine WL.nil (hK2 _ _ ?_)
 refine wp_seq_k fun K3 hK3 => ?_
 refine wp_seq_k fun K4 hK4 => rgn ?_
 refine VlS (.int .i64 (-1)) ?_
 refine VbT ?_
 refine WL.nil (hK4 _ _ ?_)
 refine wp_cond_true rfl ?_
 refine wp_seq_k fun K5 hK5 => rgn ?_
 refine VlS (.slice none 0 0) ?_
 refine VbF ?_
 refine WL.nil (hK5 _ _ ?_)
 refine wp_ret ?_
 go_ret2
 exact ⟨rfl, rfl⟩
set_option maxRecDepth 8000 in
theorem file_is (x i : Nat) (n : ByteArray) (vf va : Value) (cs : List FC) (ms : List AC) (D : DV) (f : PF) (w : World) (hD : RDAt w x vf va cs ms D) (hSr : Srt D.fs) (hL : cs.length ≤ 256) (hF : fnd n D.fs 0 = (i, true)) (hf : D.fs[i]? = some f) : Calls Tryz.prog 58 #[ptr x, .string n] w fun e w' => ∃ a c, e = .returned (.tuple #[.slice a f.bs.length c, .bool true]) ∧ RowAt w (.slice a f.bs.length c) f.bs ∧ w' = w := by
 obtain ⟨vfa, vfc, rfl⟩ := hD.own.sl
 have HD := Keep.mk hD
 have HSr := Keep.mk hSr
 have HL := Keep.mk hL
 clear hD hSr hL
 have HF := Keep.mk hF
 have Hf := Keep.mk hf
 clear hF hf
 go_enter Tryz.func58, Tryz.ntmps58
 refine wp_seq_k fun K1 hK1 => rgn ?_
 refine VlS (.slice none 0 0) ?_
 refine VbF ?_
 refine WL.nil (hK1 _ _ ?_)
 refine wp_seq_k fun K2 hK2 => rgn ?_
 refine VlS (.pointer (some ⟨x, 0, none⟩)) ?_
 refine VlS (.string n) ?_
 have hfd : Keep (fdI n D.fs = (i : Int)) := ⟨by unfold fdI; rw [HF.out]; simp⟩
 have hi0 : ¬ (i : Int) < 0 := by omega
 refine WL.callF (by kernel_rfl) 22 _ _ rfl Tryz.in22 #[ptr x, .string n] (by simp [Act.eval]) ?_
 refine (rfind_any x n (.slice vfa cs.length vfc) va cs ms D w HD.out HSr.out (by have := HL.out; omega)).mono ?_
 rintro e w1 ⟨rfl, hw_⟩
 refine ⟨_, rfl, ?_⟩
 have hw_ := hw_.symm
 subst hw_
 rw [hfd.out]
 have hil : Keep (i < cs.length) := ⟨by have := (List.getElem?_eq_some_iff.1 Hf.out).1; have := HD.out.rcs.len; omega⟩
 obtain ⟨ca, Hc⟩ : ∃ z, Keep (cs[i]? = some z) := ⟨cs[i]'hil.out, ⟨List.getElem?_eq_getElem _⟩⟩
 obtain ⟨g, hva, _⟩ := HD.out.own.at Hc.out
 subst hva
 have c0 := HD.out.blk.c 0 (by rfl : (rdA (.slice (some ⟨g, 0, none⟩) cs.length vfc) va D)[0]? = some (.slice (some ⟨g, 0, none⟩) cs.length vfc))
 obtain ⟨ya, yc, hyb⟩ := row_form (HD.out.rcs.each i ca f Hc.out Hf.out).2.2.1
 have HR : Keep (RowAt w (.slice ya f.bs.length yc) f.bs) := ⟨by rw [← hyb]; exact (HD.out.rcs.each i ca f Hc.out Hf.out).2.2.1⟩
 have cb : w.cell? ⟨g, i * 3 + 1, none⟩ = some (.slice ya f.bs.length yc) := by rw [← hyb]; exact (own_fc HD.out.own Hc.out).1
 have hil2 : (i : Int) < (cs.length : Int) := by have := hil.out; omega
 simp only [Act.put, pqA, pqB, pqC]
 refine VlS (.int .i64 (i : Int)) ?_
 refine WL.nil (hK2 _ _ ?_)
 refine wp_seq_k fun K3 hK3 => ?_
 refine wp_seq_k fun K4 hK4 => rgn ?_
 refine VlS (.int .i64 (i : Int)) ?_
 refine VbF ?_
 refine WL.nil (hK4 _ _ ?_)
 refine wp_cond_false rfl ?_
 refine wp_skip ?_
 refine hK3 _ _ ?_
 refine wp_seq_k fun K5 hK5 => rgn ?_
 refine VlS (.pointer (some ⟨x, 0, none⟩)) ?_
 refine VlS (.pointer (some ⟨x, 0, none⟩)) ?_
 refine VlS (.pointer (some ⟨x, 0, none⟩)) ?_
 refine VlS (.slice (some ⟨g, 0, none⟩) cs.length vfc) ?_
 refine VlS (.int .i64 (i : Int)) ?_
 refine VlS (.pointer (some ⟨g, i * 3, none⟩)) ?_
 refine VlS (.pointer (some ⟨g, i * 3 + 1, none⟩)) ?_
 refine VlS (.slice ya f.bs.length yc) ?_
 refine VlS (.slice ya f.bs.length yc) ?_
 refine VbT ?_
 refine WL.nil (hK5 _ _ ?_)
 refine wp_ret ?_
 go_ret2
 exact ⟨ya, yc, rfl, HR.out, rfl⟩
def flB (D : DV) (n : ByteArray) : List Int := match D.fs[(fnd n D.fs 0).1]? with | some f => f.bs | none => []
def szC (D : DV) (n : ByteArray) : Int := if D.out = true then 7 else if (fnd n D.fs 0).2 = false then 6 else 0
def szV (D : DV) (n : ByteArray) : Int := if D.out = true then 0 else if (fnd n D.fs 0).2 = false then 0 else ((flB D n).length : Int)
abbrev rdR (D : DV) (n : ByteArray) (a m : Int) : Prop := 0 ≤ a ∧ 0 ≤ m ∧ a ≤ ((flB D n).length : Int) ∧ m ≤ ((flB D n).length : Int) - a
def reC (D : DV) (n : ByteArray) (a m : Int) : Int := if D.out = true then 7 else if (fnd n D.fs 0).2 = false then 6 else if rdR D n a m then 0 else 2
def reV (D : DV) (n : ByteArray) (a m : Int) : List Int := if D.out = true then [] else if (fnd n D.fs 0).2 = false then [] else if rdR D n a m then ((flB D n).drop a.toNat).take m.toNat else []
theorem WL.slMid {ops : Array Oper} {rest : List Oper} {o : Oper} {a : Act} {w : World} {Q : Exit → Act → World → Prop} (hw : Region.wanted o (yielded ops a.tmps) = true) (x lo hi : Operand) (ho : o.op = .slice 40 x (some lo) (some hi) none)
  (vx vl vh vs : Value) (hx : a.eval x = vx) (hl : a.eval lo = vl) (hh : a.eval hi = vh) (hr : (Instr.sliceAt 40 vx (some vl) (some vh) none).run Tryz.prog w = .ok vs w) (h : WL Tryz.prog ops Q rest (a.put o.dst vs) w) : WL Tryz.prog ops Q (o :: rest) a w :=
 WL.val hw vs (by unfold execOp; simp only [ho, hx, hl, hh, Option.map_some, Option.map_none, Sem.run_bind, hr, Result.andThen_ok, Sem.run_pure]) h
set_option maxRecDepth 8000 in
set_option maxHeartbeats 2000000 in
theorem rsize_any (x : Nat) (n : ByteArray) (vf va : Value) (cs : List FC) (ms : List AC) (D : DV) (w : World) (hD : RDAt w x vf va cs ms D) (hSr : Srt D.fs) (hL : cs.length ≤ 256) : Calls Tryz.prog 40 #[ptr x, .string n] w fun e w' => e = .returned (.tuple #[.int .i64 (szV D n), .int .i64 (szC D n)]) ∧ w' = w := by
 obtain ⟨vfa, vfc, rfl⟩ := hD.own.sl
 have HD := Keep.mk hD
 have HSr := Keep.mk hSr
 have HL := Keep.mk hL
 clear hD hSr hL
 go_enter Tryz.func40, Tryz.ntmps40
 obtain ⟨ou, hou⟩ : ∃ z, Keep (z = D.out) := ⟨_, ⟨rfl⟩⟩
 have c3 : w.cell? ⟨x, 3, none⟩ = some (.bool ou) := by rw [hou.out]; exact HD.out.blk.c 3 rfl
 obtain ⟨i, is, hF⟩ : ∃ i b, Keep (fnd n D.fs 0 = (i, b)) := ⟨_, _, ⟨rfl⟩⟩
 refine wp_seq_k fun K1 hK1 => rgn ?_
 refine VlS (.int .i64 0) ?_
 refine VlS (.int .i64 0) ?_
 refine WL.nil (hK1 _ _ ?_)
 refine wp_seq_k fun K2 hK2 => ?_
 refine wp_seq_k fun K3 hK3 => ?_
 cases ou
 ·skip
  refine rgn ?_
  refine VlS (.pointer (some ⟨x, 0, none⟩)) ?_
  refine VlS (.pointer (some ⟨x, 0, none⟩)) ?_
  refine VlS (.pointer (some ⟨x, 3, none⟩)) ?_
  refine VbF ?_
  refine WL.nil (hK3 _ _ ?_)
  refine wp_cond_false rfl ?_
  refine wp_skip ?_
  refine hK2 _ _ ?_
  refine wp_seq_k fun K4 hK4 => ?_
  clear c3
  cases is
  ·skip
   refine rgn ?_
   refine VlS (.pointer (some ⟨x, 0, none⟩)) ?_
   refine VlS (.string n) ?_
   refine WL.callF (by kernel_rfl) 58 _ _ rfl Tryz.in58 #[ptr x, .string n] (by simp [Act.eval]) ?_
   refine (file_no x n (.slice vfa cs.length vfc) va cs ms D w HD.out HSr.out HL.out (by rw [hF.out])).mono ?_
   rintro e w1 ⟨rfl, hw_⟩
   refine ⟨_, rfl, ?_⟩
   have hw_ := hw_.symm
   subst hw_
   simp only [Act.put, pqA, pqB, pqC]
   refine VlS (.tuple #[.slice none 0 0, .bool false]) ?_
   refine VlS (.slice none 0 0) ?_
   refine VbF ?_
   refine VlS (.slice none 0 0) ?_
   refine VbF ?_
   refine WL.nil (hK4 _ _ ?_)
   refine wp_seq_k fun K5 hK5 => ?_
   refine wp_seq_k fun K6 hK6 => rgn ?_
   refine VbF ?_
   refine VbT ?_
   refine WL.nil (hK6 _ _ ?_)
   refine wp_cond_true rfl ?_
   refine wp_seq_k fun K7 hK7 => rgn ?_
   refine VlS (.int .i64 0) ?_
   refine VlS (.int .i64 6) ?_
   refine WL.nil (hK7 _ _ ?_)
   refine wp_ret ?_
   go_ret2
   have h : ¬ D.out = true := by rw [← hou.out]; simp
   have h2 : (fnd n D.fs 0).2 = false := by rw [hF.out]
   unfold szC szV
   rw [if_neg h, if_neg h, if_pos h2, if_pos h2]
   exact ⟨rfl, rfl⟩
  ·obtain ⟨f, Hf⟩ : ∃ f, Keep (D.fs[i]? = some f) := by
    obtain ⟨j, f, h1, h2⟩ := fnd_at n D.fs 0 (by rw [hF.out])
    rw [hF.out] at h1
    simp at h1
    subst h1
    exact ⟨f, ⟨h2⟩⟩
   have hfl : Keep (flB D n = f.bs) := ⟨by unfold flB; rw [hF.out]; show (match D.fs[i]? with | some f => f.bs | none => []) = _; rw [Hf.out]⟩
   refine rgn ?_
   refine VlS (.pointer (some ⟨x, 0, none⟩)) ?_
   refine VlS (.string n) ?_
   refine WL.callF (by kernel_rfl) 58 _ _ rfl Tryz.in58 #[ptr x, .string n] (by simp [Act.eval]) ?_
   refine (file_is x i n (.slice vfa cs.length vfc) va cs ms D f w HD.out HSr.out HL.out hF.out Hf.out).mono ?_
   rintro e w1 ⟨ya, yc, rfl, hr_, hw_⟩
   refine ⟨_, rfl, ?_⟩
   have hw_ := hw_.symm
   subst hw_
   have HR := Keep.mk hr_
   clear hr_
   simp only [Act.put, pqA, pqB, pqC]
   refine VlS (.tuple #[.slice ya f.bs.length yc, .bool true]) ?_
   refine VlS (.slice ya f.bs.length yc) ?_
   refine VbT ?_
   refine VlS (.slice ya f.bs.length yc) ?_
   refine VbT ?_
   refine WL.nil (hK4 _ _ ?_)
   refine wp_seq_k fun K8 hK8 => ?_
   refine wp_seq_k fun K9 hK9 => rgn ?_
   refine VbT ?_
   refine VbF ?_
   refine WL.nil (hK9 _ _ ?_)
   refine wp_cond_false rfl ?_
   refine wp_skip ?_
   refine hK8 _ _ ?_
   refine wp_seq_k fun K10 hK10 => rgn ?_
   refine VlS (.slice ya f.bs.length yc) ?_
   refine VlS (.int .i64 (f.bs.length : Int)) ?_
   refine VlS (.int .i64 (f.bs.length : Int)) ?_
   refine VlS (.int .i64 0) ?_
   refine WL.nil (hK10 _ _ ?_)
   refine wp_ret ?_
   go_ret2
   have h : ¬ D.out = true := by rw [← hou.out]; simp
   have h2 : ¬ (fnd n D.fs 0).2 = false := by rw [hF.out]; simp
   unfold szC szV
   rw [if_neg h, if_neg h, if_neg h2, if_neg h2, hfl.out]
   exact ⟨rfl, rfl⟩
 ·skip
  refine rgn ?_
  refine VlS (.pointer (some ⟨x, 0, none⟩)) ?_
  refine VlS (.pointer (some ⟨x, 0, none⟩)) ?_
  refine VlS (.pointer (some ⟨x, 3, none⟩)) ?_
  refine VbT ?_
  refine WL.nil (hK3 _ _ ?_)
  refine wp_cond_true rfl ?_
  refine wp_seq_k fun K11 hK11 => rgn ?_
  refine VlS (.int .i64 0) ?_
  refine VlS (.int .i64 7) ?_
  refine WL.nil (hK11 _ _ ?_)
  refine wp_ret ?_
  go_ret2
  have h := hou.out.symm
  unfold szC szV
  rw [if_pos h, if_pos h]
  exact ⟨rfl, rfl⟩
set_option maxRecDepth 8000 in
set_option maxHeartbeats 4000000 in
theorem rread_any (x : Nat) (n : ByteArray) (a m : Int) (vf va : Value) (cs : List FC) (ms : List AC) (D : DV) (w : World) (hD : RDAt w x vf va cs ms D) (hSr : Srt D.fs) (hL : cs.length ≤ 256) (hB : ∀ f ∈ D.fs, f.bs.length ≤ 1000000000000) : Calls Tryz.prog 37 #[ptr x, .string n, .int .i64 a, .int .i64 m] w fun e w' => ∃ vb, e = .returned (.tuple #[vb, .int .i64 (reC D n a m)]) ∧ RowAt w vb (reV D n a m) ∧ w' = w := by
 obtain ⟨vfa, vfc, rfl⟩ := hD.own.sl
 have HD := Keep.mk hD
 have HSr := Keep.mk hSr
 have HL := Keep.mk hL
 clear hD hSr hL
 have HB := Keep.mk hB
 clear hB
 go_enter Tryz.func37, Tryz.ntmps37
 obtain ⟨ou, hou⟩ : ∃ z, Keep (z = D.out) := ⟨_, ⟨rfl⟩⟩
 have c3 : w.cell? ⟨x, 3, none⟩ = some (.bool ou) := by rw [hou.out]; exact HD.out.blk.c 3 rfl
 obtain ⟨i, is, hF⟩ : ∃ i b, Keep (fnd n D.fs 0 = (i, b)) := ⟨_, _, ⟨rfl⟩⟩
 refine wp_seq_k fun K1 hK1 => rgn ?_
 refine VlS (.slice none 0 0) ?_
 refine VlS (.int .i64 0) ?_
 refine WL.nil (hK1 _ _ ?_)
 refine wp_seq_k fun K2 hK2 => ?_
 refine wp_seq_k fun K3 hK3 => ?_
 cases ou
 ·skip
  refine rgn ?_
  refine VlS (.pointer (some ⟨x, 0, none⟩)) ?_
  refine VlS (.pointer (some ⟨x, 0, none⟩)) ?_
  refine VlS (.pointer (some ⟨x, 3, none⟩)) ?_
  refine VbF ?_
  refine WL.nil (hK3 _ _ ?_)
  refine wp_cond_false rfl ?_
  refine wp_skip ?_
  refine hK2 _ _ ?_
  refine wp_seq_k fun K4 hK4 => ?_
  clear c3
  cases is
  ·skip
   refine rgn ?_
   refine VlS (.pointer (some ⟨x, 0, none⟩)) ?_
   refine VlS (.string n) ?_
   refine WL.callF (by kernel_rfl) 58 _ _ rfl Tryz.in58 #[ptr x, .string n] (by simp [Act.eval]) ?_
   refine (file_no x n (.slice vfa cs.length vfc) va cs ms D w HD.out HSr.out HL.out (by rw [hF.out])).mono ?_
   rintro e w1 ⟨rfl, hw_⟩
   refine ⟨_, rfl, ?_⟩
   have hw_ := hw_.symm
   subst hw_
   simp only [Act.put, pqA, pqB, pqC]
   refine VlS (.tuple #[.slice none 0 0, .bool false]) ?_
   refine VlS (.slice none 0 0) ?_
   refine VbF ?_
   refine VlS (.slice none 0 0) ?_
   refine VbF ?_
   refine WL.nil (hK4 _ _ ?_)
   refine wp_seq_k fun K5 hK5 => ?_
   refine wp_seq_k fun K6 hK6 => rgn ?_
   refine VbF ?_
   refine VbT ?_
   refine WL.nil (hK6 _ _ ?_)
   refine wp_cond_true rfl ?_
   refine wp_seq_k fun K7 hK7 => rgn ?_
   refine VlS (.slice none 0 0) ?_
   refine VlS (.int .i64 6) ?_
   refine WL.nil (hK7 _ _ ?_)
   refine wp_ret ?_
   go_ret2
   have h : ¬ D.out = true := by rw [← hou.out]; simp
   have h2 : (fnd n D.fs 0).2 = false := by rw [hF.out]
   unfold reC reV
   rw [if_neg h, if_neg h, if_pos h2, if_pos h2]
   exact ⟨_, rfl, .inl ⟨rfl, rfl⟩, rfl⟩
  ·obtain ⟨f, Hf⟩ : ∃ f, Keep (D.fs[i]? = some f) := by
    obtain ⟨j, f, h1, h2⟩ := fnd_at n D.fs 0 (by rw [hF.out])
    rw [hF.out] at h1
    simp at h1
    subst h1
    exact ⟨f, ⟨h2⟩⟩
   have hfl : Keep (flB D n = f.bs) := ⟨by unfold flB; rw [hF.out]; show (match D.fs[i]? with | some f => f.bs | none => []) = _; rw [Hf.out]⟩
   refine rgn ?_
   refine VlS (.pointer (some ⟨x, 0, none⟩)) ?_
   refine VlS (.string n) ?_
   refine WL.callF (by kernel_rfl) 58 _ _ rfl Tryz.in58 #[ptr x, .string n] (by simp [Act.eval]) ?_
   refine (file_is x i n (.slice vfa cs.length vfc) va cs ms D f w HD.out HSr.out HL.out hF.out Hf.out).mono ?_
   rintro e w1 ⟨ya, yc, rfl, hr_, hw_⟩
   refine ⟨_, rfl, ?_⟩
   have hw_ := hw_.symm
   subst hw_
   have HR := Keep.mk hr_
   clear hr_
   simp only [Act.put, pqA, pqB, pqC]
   refine VlS (.tuple #[.slice ya f.bs.length yc, .bool true]) ?_
   refine VlS (.slice ya f.bs.length yc) ?_
   refine VbT ?_
   refine VlS (.slice ya f.bs.length yc) ?_
   refine VbT ?_
   refine WL.nil (hK4 _ _ ?_)
   refine wp_seq_k fun K8 hK8 => ?_
   refine wp_seq_k fun K9 hK9 => rgn ?_
   refine VbT ?_
   refine VbF ?_
   refine WL.nil (hK9 _ _ ?_)
   refine wp_cond_false rfl ?_
   refine wp_skip ?_
   refine hK8 _ _ ?_
   refine wp_seq_k fun K10 hK10 => ?_
   refine wp_seq_k fun K11 hK11 => rgn ?_
   refine VlS (.int .i64 a) ?_
   by_cases h6_1 : a < 0
   ·skip
    refine VbT ?_
    refine VbT ?_
    refine SkS ?_
    refine SkS ?_
    refine VbT ?_
    refine VbT ?_
    refine SkS ?_
    refine SkS ?_
    refine SkS ?_
    refine SkS ?_
    refine VbT ?_
    refine VbT ?_
    refine SkS ?_
    refine SkS ?_
    refine SkS ?_
    refine SkS ?_
    refine SkS ?_
    refine SkS ?_
    refine VbT ?_
    refine WL.nil (hK11 _ _ ?_)
    refine wp_cond_true rfl ?_
    refine wp_seq_k fun K12 hK12 => rgn ?_
    refine VlS (.slice none 0 0) ?_
    refine VlS (.int .i64 2) ?_
    refine WL.nil (hK12 _ _ ?_)
    refine wp_ret ?_
    go_ret2
    have h : ¬ D.out = true := by rw [← hou.out]; simp
    have h2 : ¬ (fnd n D.fs 0).2 = false := by rw [hF.out]; simp
    have h3 : ¬ rdR D n a m := by unfold rdR; rw [hfl.out]; omega
    unfold reC reV
    rw [if_neg h, if_neg h, if_neg h2, if_neg h2, if_neg h3, if_neg h3]
    exact ⟨_, rfl, .inl ⟨rfl, rfl⟩, rfl⟩
   ·skip
    refine VbF ?_
    refine VbF ?_
    refine VlS (.int .i64 m) ?_
    by_cases h6_4 : m < 0
    ·skip
     refine VbT ?_
     refine VbT ?_
     refine VbT ?_
     refine SkS ?_
     refine SkS ?_
     refine SkS ?_
     refine SkS ?_
     refine VbT ?_
     refine VbT ?_
     refine SkS ?_
     refine SkS ?_
     refine SkS ?_
     refine SkS ?_
     refine SkS ?_
     refine SkS ?_
     refine VbT ?_
     refine WL.nil (hK11 _ _ ?_)
     refine wp_cond_true rfl ?_
     refine wp_seq_k fun K13 hK13 => rgn ?_
     refine VlS (.slice none 0 0) ?_
     refine VlS (.int .i64 2) ?_
     refine WL.nil (hK13 _ _ ?_)
     refine wp_ret ?_
     go_ret2
     have h : ¬ D.out = true := by rw [← hou.out]; simp
     have h2 : ¬ (fnd n D.fs 0).2 = false := by rw [hF.out]; simp
     have h3 : ¬ rdR D n a m := by unfold rdR; rw [hfl.out]; omega
     unfold reC reV
     rw [if_neg h, if_neg h, if_neg h2, if_neg h2, if_neg h3, if_neg h3]
     exact ⟨_, rfl, .inl ⟨rfl, rfl⟩, rfl⟩
    ·skip
     refine VbF ?_
     refine VbF ?_
     refine VbF ?_
     refine VlS (.int .i64 a) ?_
     refine VlS (.slice ya f.bs.length yc) ?_
     refine VlS (.int .i64 (f.bs.length : Int)) ?_
     by_cases h6_10 : (f.bs.length : Int) < a
     ·skip
      refine VbT ?_
      refine VbT ?_
      refine VbT ?_
      refine SkS ?_
      refine SkS ?_
      refine SkS ?_
      refine SkS ?_
      refine SkS ?_
      refine SkS ?_
      refine VbT ?_
      refine WL.nil (hK11 _ _ ?_)
      refine wp_cond_true rfl ?_
      refine wp_seq_k fun K14 hK14 => rgn ?_
      refine VlS (.slice none 0 0) ?_
      refine VlS (.int .i64 2) ?_
      refine WL.nil (hK14 _ _ ?_)
      refine wp_ret ?_
      go_ret2
      have h : ¬ D.out = true := by rw [← hou.out]; simp
      have h2 : ¬ (fnd n D.fs 0).2 = false := by rw [hF.out]; simp
      have h3 : ¬ rdR D n a m := by unfold rdR; rw [hfl.out]; omega
      unfold reC reV
      rw [if_neg h, if_neg h, if_neg h2, if_neg h2, if_neg h3, if_neg h3]
      exact ⟨_, rfl, .inl ⟨rfl, rfl⟩, rfl⟩
     ·skip
      refine VbF ?_
      refine VbF ?_
      refine VbF ?_
      refine VlS (.int .i64 m) ?_
      refine VlS (.slice ya f.bs.length yc) ?_
      refine VlS (.int .i64 (f.bs.length : Int)) ?_
      refine VlS (.int .i64 a) ?_
      have hwa : IntKind.i64.wrap ((f.bs.length : Int) - a) = (f.bs.length : Int) - a := by rw [IntKind.wrap_i64]; have := HB.out f (List.mem_of_getElem? Hf.out); omega
      refine VlS (.int .i64 ((f.bs.length : Int) - a)) ?_
      by_cases h6_18 : (f.bs.length : Int) - a < m
      ·skip
       refine VbT ?_
       refine VbT ?_
       refine WL.nil (hK11 _ _ ?_)
       refine wp_cond_true rfl ?_
       refine wp_seq_k fun K15 hK15 => rgn ?_
       refine VlS (.slice none 0 0) ?_
       refine VlS (.int .i64 2) ?_
       refine WL.nil (hK15 _ _ ?_)
       refine wp_ret ?_
       go_ret2
       have h : ¬ D.out = true := by rw [← hou.out]; simp
       have h2 : ¬ (fnd n D.fs 0).2 = false := by rw [hF.out]; simp
       have h3 : ¬ rdR D n a m := by unfold rdR; rw [hfl.out]; omega
       unfold reC reV
       rw [if_neg h, if_neg h, if_neg h2, if_neg h2, if_neg h3, if_neg h3]
       exact ⟨_, rfl, .inl ⟨rfl, rfl⟩, rfl⟩
      ·skip
       refine VbF ?_
       refine VbF ?_
       refine WL.nil (hK11 _ _ ?_)
       refine wp_cond_false rfl ?_
       refine wp_skip ?_
       refine hK10 _ _ ?_
       refine wp_seq_k fun K16 hK16 => ?_
       obtain ⟨an, han⟩ : ∃ k : Nat, a = (k : Int) := ⟨a.toNat, by omega⟩
       obtain ⟨mn, hmn⟩ : ∃ k : Nat, m = (k : Int) := ⟨m.toNat, by omega⟩
       subst han hmn
       have hws : IntKind.i64.wrap ((an : Int) + (mn : Int)) = (an : Int) + (mn : Int) := by rw [IntKind.wrap_i64]; have := HB.out f (List.mem_of_getElem? Hf.out); omega
       obtain ⟨vs, hs1, hs2⟩ := mid_any (.slice ya f.bs.length yc) f.bs w HR.out an mn (by omega)
       have HS1 := Keep.mk (hs1 w)
       have HS2 := Keep.mk (hs2 w HR.out)
       clear hs1 hs2
       refine rgn ?_
       refine VlS (.slice ya f.bs.length yc) ?_
       refine VlS (.int .i64 (an : Int)) ?_
       refine VlS (.int .i64 (an : Int)) ?_
       refine VlS (.int .i64 (mn : Int)) ?_
       refine VlS (.int .i64 ((an : Int) + (mn : Int))) ?_
       refine WL.slMid (by kernel_rfl) (.tmp 44) (.tmp 45) (.tmp 48) rfl (.slice ya f.bs.length yc) (.int .i64 (an : Int)) (.int .i64 ((an : Int) + (mn : Int))) vs rfl rfl rfl HS1.out ?_
       simp only [Act.put, pqA, pqB, pqC]
       refine VlS (vs) ?_
       refine VlS (.int .i64 0) ?_
       refine WL.nil (hK16 _ _ ?_)
       refine wp_ret ?_
       go_ret2
       have h : ¬ D.out = true := by rw [← hou.out]; simp
       have h2 : ¬ (fnd n D.fs 0).2 = false := by rw [hF.out]; simp
       have h3 : rdR D n (an : Int) (mn : Int) := by unfold rdR; rw [hfl.out]; omega
       unfold reC reV
       rw [if_neg h, if_neg h, if_neg h2, if_neg h2, if_pos h3, if_pos h3, hfl.out, Int.toNat_natCast, Int.toNat_natCast]
       exact ⟨vs, rfl, HS2.out, rfl⟩
 ·skip
  refine rgn ?_
  refine VlS (.pointer (some ⟨x, 0, none⟩)) ?_
  refine VlS (.pointer (some ⟨x, 0, none⟩)) ?_
  refine VlS (.pointer (some ⟨x, 3, none⟩)) ?_
  refine VbT ?_
  refine WL.nil (hK3 _ _ ?_)
  refine wp_cond_true rfl ?_
  refine wp_seq_k fun K17 hK17 => rgn ?_
  refine VlS (.slice none 0 0) ?_
  refine VlS (.int .i64 7) ?_
  refine WL.nil (hK17 _ _ ?_)
  refine wp_ret ?_
  go_ret2
  have h := hou.out.symm
  unfold reC reV
  rw [if_pos h, if_pos h]
  exact ⟨_, rfl, .inl ⟨rfl, rfl⟩, rfl⟩
theorem Tryz.in45 (w : World) (vs : Array Value) : (callFunc 45 vs).run Tryz.prog w = .ok (.enter 45 vs) w := by kernel_rfl
theorem newF_nil (B : Nat) : NewF B (.slice none 0 0) := fun k hk => by cases hk
theorem ownS_nil (w : World) : OwnS w (.slice none 0 0) [] := ⟨rfl, .inl ⟨rfl, rfl⟩⟩
set_option maxRecDepth 8000 in
set_option maxHeartbeats 2000000 in
theorem rnames_any (x : Nat) (vf va : Value) (cs : List FC) (ms : List AC) (D : DV) (w : World) (hD : RDAt w x vf va cs ms D) (hL : cs.length ≤ 256) : Calls Tryz.prog 45 #[ptr x] w fun e w' => ∃ v, e = .returned (.tuple #[v, .int .i64 (if D.out = true then 7 else 0)]) ∧ OwnS w' v (if D.out = true then [] else D.fs.map PF.nm) ∧ NewF w.heap.size v ∧ Below w.heap.size w w' := by
 obtain ⟨vfa, vfc, rfl⟩ := hD.own.sl
 have HD := Keep.mk hD
 have HL := Keep.mk hL
 clear hD hL
 go_enter Tryz.func45, Tryz.ntmps45
 obtain ⟨ou, hou⟩ : ∃ z, Keep (z = D.out) := ⟨_, ⟨rfl⟩⟩
 have c3 : w.cell? ⟨x, 3, none⟩ = some (.bool ou) := by rw [hou.out]; exact HD.out.blk.c 3 rfl
 refine wp_seq_k fun K1 hK1 => rgn ?_
 refine VlS (.slice none 0 0) ?_
 refine VlS (.int .i64 0) ?_
 refine WL.nil (hK1 _ _ ?_)
 refine wp_seq_k fun K2 hK2 => ?_
 refine wp_seq_k fun K3 hK3 => ?_
 cases ou
 ·skip
  refine rgn ?_
  refine VlS (.pointer (some ⟨x, 0, none⟩)) ?_
  refine VlS (.pointer (some ⟨x, 0, none⟩)) ?_
  refine VlS (.pointer (some ⟨x, 3, none⟩)) ?_
  refine VbF ?_
  refine WL.nil (hK3 _ _ ?_)
  refine wp_cond_false rfl ?_
  refine wp_skip ?_
  refine hK2 _ _ ?_
  refine wp_seq_k fun K4 hK4 => rgn ?_
  refine WL.bs (by kernel_rfl) 85 0 _ rfl #[] (by simp) _ _ (bsTE w) ?_
  have HN1 := Keep.mk (ownS_empty w)
  have B1 := Keep.mk (below_new w (.cells #[] 9))
  clear c3
  generalize w.alloc (.cells #[] 9) = w1 at *
  obtain ⟨g1, hg1⟩ : ∃ g, Keep (g = w.heap.size) := ⟨_, ⟨rfl⟩⟩
  rw [← hg1.out] at HN1 ⊢
  have N1 : Keep (NewF w.heap.size (.slice (some ⟨g1, 0, none⟩) 0 0)) := ⟨NewF.at (by rw [hg1.out]; exact Nat.le_refl _)⟩
  simp only [Act.put, pqA, pqB, pqC]
  refine VlS (.slice (some ⟨g1, 0, none⟩) 0 0) ?_
  refine WL.nil (hK4 _ _ ?_)
  refine wp_seq_k fun K5 hK5 => ?_
  refine wp_seq_k fun K6 hK6 => rgn ?_
  refine VlS (.int .i64 0) ?_
  refine WL.nil (hK6 _ _ ?_)
  refine wp_block ?_
  refine wp_loop (fun ac wr => ∃ (t : Nat) (f : Nat → Value) (xa : Option Addr) (xl xc : Nat), ac = { tmps := #[.pointer (some ⟨x, 0, none⟩), undef, .slice none 0 0, .int .i64 0, .slice xa xl xc, .int .i64 (t : Int), .pointer (some ⟨x, 0, none⟩), .pointer (some ⟨x, 0, none⟩), .pointer (some ⟨x, 3, none⟩), .bool false, .slice (some ⟨g1, 0, none⟩) 0 0, f 11, f 12, f 13, f 14, f 15, f 16, f 17, f 18, f 19, f 20, f 21, f 22, f 23, f 24, f 25, f 26, f 27, f 28, f 29, f 30, undef], defers := [] } ∧ t ≤ cs.length ∧ OwnS wr (.slice xa xl xc) ((D.fs.take t).map PF.nm) ∧ NewF w.heap.size (.slice xa xl xc) ∧ Below w.heap.size w wr) (fun a _ => cs.length - (intOf (a.tmps.getD 5 undef)).toNat) ⟨0, fun i => [.pointer (some ⟨x, 0, none⟩), undef, .slice none 0 0, .int .i64 0, .slice (some ⟨g1, 0, none⟩) 0 0, .int .i64 0, .pointer (some ⟨x, 0, none⟩), .pointer (some ⟨x, 0, none⟩), .pointer (some ⟨x, 3, none⟩), .bool false, .slice (some ⟨g1, 0, none⟩) 0 0, undef, undef, undef, undef, undef, undef, undef, undef, undef, undef, undef, undef, undef, undef, undef, undef, undef, undef, undef, undef, undef].getD i undef, some ⟨g1, 0, none⟩, 0, 0, rfl, Nat.zero_le _, HN1.out, N1.out, B1.out⟩ ?_
  rintro ac wr ⟨t, f, xa, xl, xc, rfl, ht, hO1, hO3, hO4⟩
  have JO := Keep.mk hO1
  have JN := Keep.mk hO3
  have JB := Keep.mk hO4
  clear hO1 hO3 hO4
  have JD := Keep.mk (HD.out.below JB.out)
  have c0 := JD.out.blk.c 0 (by rfl : (rdA (.slice vfa cs.length vfc) va D)[0]? = some (.slice vfa cs.length vfc))
  by_cases hlt : t < cs.length
  ·have hlt' : (t : Int) < (cs.length : Int) := by omega
   have hwt : IntKind.i64.wrap ((t : Int) + 1) = (t : Int) + 1 := by rw [IntKind.wrap_i64]; have := HL.out; omega
   obtain ⟨y, hy⟩ : ∃ x, cs[t]? = some x := ⟨cs[t], List.getElem?_eq_getElem hlt⟩
   obtain ⟨f_, hf_, hrc⟩ := JD.out.rcs.at hy
   obtain ⟨g, ha, hrg⟩ := JD.out.own.at hy
   obtain ⟨nx, hnx⟩ : ∃ nx, nx = y.nm := ⟨_, rfl⟩
   have c1 : wr.cell? ⟨g, t * 3, none⟩ = some (.string nx) := by have h := hrg 0 (.string y.nm) rfl; rw [hnx]; exact h
   have Hnm : Keep (nx = f_.nm) := ⟨by rw [hnx]; exact hrc.1⟩
   have HTk : Keep ((D.fs.take (t + 1)).map PF.nm = (D.fs.take t).map PF.nm ++ [f_.nm]) := ⟨by rw [List.take_add_one, hf_]; simp⟩
   clear hrg hy hf_ hrc hnx
   subst ha
   have cx := c0
   refine wp_seq_k fun K7 hK7 => ?_
   refine wp_seq_k fun K8 hK8 => rgn ?_
   refine VlS (.int .i64 (t : Int)) ?_
   refine VlS (.pointer (some ⟨x, 0, none⟩)) ?_
   refine VlS (.pointer (some ⟨x, 0, none⟩)) ?_
   refine VlS (.pointer (some ⟨x, 0, none⟩)) ?_
   refine VlS (.slice (some ⟨g, 0, none⟩) cs.length vfc) ?_
   refine VlS (.int .i64 (cs.length : Int)) ?_
   refine VbT ?_
   refine WL.nil (hK8 _ _ ?_)
   refine wp_cond_true rfl ?_
   refine wp_skip ?_
   refine hK7 _ _ ?_
   refine wp_seq_k fun K9 hK9 => ?_
   refine wp_block ?_
   refine rgn ?_
   refine VlS (.slice xa xl xc) ?_
   refine VlS (.pointer (some ⟨x, 0, none⟩)) ?_
   refine VlS (.pointer (some ⟨x, 0, none⟩)) ?_
   refine VlS (.pointer (some ⟨x, 0, none⟩)) ?_
   refine VlS (.slice (some ⟨g, 0, none⟩) cs.length vfc) ?_
   refine VlS (.int .i64 (t : Int)) ?_
   refine VlS (.pointer (some ⟨g, t * 3, none⟩)) ?_
   refine VlS (.pointer (some ⟨g, t * 3, none⟩)) ?_
   refine VlS (.string nx) ?_
   refine WL.bs (by kernel_rfl) 85 1 _ rfl #[(0, .string nx)] (by simp [Act.eval]) _ _ (bsT nx wr) ?_
   have hbx := below_new wr (.cells #[.string nx] 9)
   have HB := Keep.mk (Blk.new wr 9 #[.string nx])
   have JOc := Keep.mk (JO.out.below hbx)
   have JBc : Keep (Below w.heap.size w (wr.alloc (.cells #[.string nx] 9))) := ⟨JB.out.trans (hbx.mono JB.out.size)⟩
   clear hbx c0 c1 cx
   generalize wr.alloc (.cells #[.string nx] 9) = wc at *
   obtain ⟨gc, hgc⟩ : ∃ q, Keep (q = wr.heap.size) := ⟨_, ⟨rfl⟩⟩
   rw [← hgc.out] at HB ⊢
   simp only [Act.put, pqA, pqB, pqC]
   refine WL.appT (by kernel_rfl) (.tmp 20) (.tmp 29) rfl (.slice xa xl xc) ((D.fs.take t).map PF.nm) gc 1 nx rfl rfl JOc.out HB.out (by have := HL.out; have := HD.out.rcs.len; simp; omega) fun v6 wd ho hg hm => ?_
   have HO6 : Keep (OwnS wd v6 ((D.fs.take (t + 1)).map PF.nm)) := ⟨by rw [HTk.out, ← Hnm.out]; exact ho⟩
   have N6 : Keep (NewF w.heap.size v6) := ⟨NewF.moved JN.out JBc.out.size hm⟩
   have B6 : Keep (Below w.heap.size w wd) := ⟨newF_below JN.out JBc.out hg⟩
   clear ho hg hm
   obtain ⟨a6, k6, e6⟩ := HO6.out.sl
   subst e6
   obtain ⟨n6, hn6⟩ : ∃ q, Keep (q = ((D.fs.take (t + 1)).map PF.nm).length) := ⟨_, ⟨rfl⟩⟩
   rw [← hn6.out] at HO6 N6 ⊢
   simp only [Act.put, pqA, pqB, pqC]
   refine VlS (.slice a6 n6 k6) ?_
   refine WL.nil (hK9 _ _ ?_)
   refine rgn ?_
   refine VlS (.int .i64 (t : Int)) ?_
   refine VlS (.int .i64 ((t : Int) + 1)) ?_
   refine VlS (.int .i64 ((t : Int) + 1)) ?_
   refine WL.nil ?_
   refine ⟨⟨t + 1, fun i => [.pointer (some ⟨x, 0, none⟩), undef, .slice none 0 0, .int .i64 0, .slice a6 n6 k6, .int .i64 ((t : Int) + 1), .pointer (some ⟨x, 0, none⟩), .pointer (some ⟨x, 0, none⟩), .pointer (some ⟨x, 3, none⟩), .bool false, .slice (some ⟨g1, 0, none⟩) 0 0, .int .i64 (t : Int), .pointer (some ⟨x, 0, none⟩), .pointer (some ⟨x, 0, none⟩), .pointer (some ⟨x, 0, none⟩), .slice (some ⟨g, 0, none⟩) cs.length vfc, .int .i64 (cs.length : Int), .bool true, .int .i64 (t : Int), .int .i64 ((t : Int) + 1), .slice xa xl xc, .pointer (some ⟨x, 0, none⟩), .pointer (some ⟨x, 0, none⟩), .pointer (some ⟨x, 0, none⟩), .slice (some ⟨g, 0, none⟩) cs.length vfc, .int .i64 (t : Int), .pointer (some ⟨g, t * 3, none⟩), .pointer (some ⟨g, t * 3, none⟩), .string nx, .slice (some ⟨gc, 0, none⟩) 1 1, .slice a6 n6 k6, undef].getD i undef, a6, n6, k6, rfl, by omega, HO6.out, N6.out, B6.out⟩, ?_⟩
   simp only [intOf]; show cs.length - ((t : Int) + 1).toNat < cs.length - ((t : Int)).toNat; omega
  ·have hlt' : ¬ (t : Int) < (cs.length : Int) := by omega
   have hte : Keep (t = cs.length) := ⟨by omega⟩
   refine wp_seq_k fun K10 hK10 => ?_
   refine wp_seq_k fun K11 hK11 => rgn ?_
   refine VlS (.int .i64 (t : Int)) ?_
   refine VlS (.pointer (some ⟨x, 0, none⟩)) ?_
   refine VlS (.pointer (some ⟨x, 0, none⟩)) ?_
   refine VlS (.pointer (some ⟨x, 0, none⟩)) ?_
   refine VlS (.slice vfa cs.length vfc) ?_
   refine VlS (.int .i64 (cs.length : Int)) ?_
   refine VbF ?_
   refine WL.nil (hK11 _ _ ?_)
   refine wp_cond_false rfl ?_
   refine wp_exit ?_
   refine hK5 _ _ ?_
   refine wp_seq_k fun K12 hK12 => rgn ?_
   refine VlS (.slice xa xl xc) ?_
   refine VlS (.slice xa xl xc) ?_
   refine VlS (.int .i64 0) ?_
   refine WL.nil (hK12 _ _ ?_)
   refine wp_ret ?_
   go_ret2
   have h1 : ¬ D.out = true := by rw [← hou.out]; simp
   rw [if_neg h1, if_neg h1]
   refine ⟨_, rfl, ?_, JN.out, JB.out⟩
   have h := JO.out
   rw [List.take_of_length_le (by have := HD.out.rcs.len; have := hte.out; omega)] at h
   exact h
 ·skip
  refine rgn ?_
  refine VlS (.pointer (some ⟨x, 0, none⟩)) ?_
  refine VlS (.pointer (some ⟨x, 0, none⟩)) ?_
  refine VlS (.pointer (some ⟨x, 3, none⟩)) ?_
  refine VbT ?_
  refine WL.nil (hK3 _ _ ?_)
  refine wp_cond_true rfl ?_
  refine wp_seq_k fun K13 hK13 => rgn ?_
  refine VlS (.slice none 0 0) ?_
  refine VlS (.int .i64 7) ?_
  refine WL.nil (hK13 _ _ ?_)
  refine wp_ret ?_
  go_ret2
  have h := hou.out.symm
  rw [if_pos h, if_pos h]
  exact ⟨_, rfl, ownS_nil _, newF_nil _, Below.refl _ _⟩
theorem Tryz.in46 (w : World) (vs : Array Value) : (callFunc 46 vs).run Tryz.prog w = .ok (.enter 46 vs) w := by kernel_rfl
theorem Tryz.in47 (w : World) (vs : Array Value) : (callFunc 47 vs).run Tryz.prog w = .ok (.enter 47 vs) w := by kernel_rfl
theorem bs_refl (a : ByteArray) : (a == a) = true := by rw [beq_toListBytes]; simp
theorem OwnS.at {w : World} {a : Option Addr} {n c : Nat} {l : List ByteArray} (h : OwnS w (.slice a n c) l) {t : Nat} {s : ByteArray} (ht : l[t]? = some s) : ∃ g, a = some ⟨g, 0, none⟩ ∧ w.cell? ⟨g, t, none⟩ = some (.string s) := by
 rcases h.2 with ⟨e, h0⟩ | ⟨g, cap, cur, e, _, h3, h4, h5, h6, h7⟩
 ·have : l = [] := List.eq_nil_of_length_eq_zero h0
  subst this
  simp at ht
 ·injection e with e1 _ _
  refine ⟨g, e1, ?_⟩
  have hs : (sL l)[t]? = some (.string s) := by simp [sL, ht]
  have htl := (List.getElem?_eq_some_iff.1 ht).1
  have h8 : cur.toList.take (l.length * 1) = sL l := h7
  have h9 : Blk w g 9 cur := h3
  rw [h9.cell, ← hs, ← h8, List.getElem?_take, if_pos (by omega), Array.getElem?_toList]
set_option maxRecDepth 8000 in
set_option maxHeartbeats 4000000 in
theorem eqTexts_refl (v1 v2 : Value) (ls : List ByteArray) (w : World) (h1 : OwnS w v1 ls) (h2 : OwnS w v2 ls) (hn : ls.length ≤ 1000000000000) :
  Calls Tryz.prog 46 #[v1, v2] w fun e w' => e = .returned (.bool true) ∧ Below w.heap.size w w' := by
 obtain ⟨pa, pc, rfl⟩ := h1.sl
 obtain ⟨qa, qc, rfl⟩ := h2.sl
 have H1 := Keep.mk h1
 have H2 := Keep.mk h2
 have HN := Keep.mk hn
 clear h1 h2 hn
 go_enter Tryz.func46, Tryz.ntmps46
 refine wp_seq_k fun K1 hK1 => rgn ?_
 refine VbF ?_
 refine WL.nil (hK1 _ _ ?_)
 refine wp_seq_k fun K2 hK2 => ?_
 refine wp_seq_k fun K3 hK3 => rgn ?_
 refine VlS (.slice pa ls.length pc) ?_
 refine VlS (.int .i64 (ls.length : Int)) ?_
 refine VlS (.slice qa ls.length qc) ?_
 refine VlS (.int .i64 (ls.length : Int)) ?_
 refine VbF ?_
 refine WL.nil (hK3 _ _ ?_)
 refine wp_cond_false rfl ?_
 refine wp_skip ?_
 refine hK2 _ _ ?_
 refine wp_seq_k fun K4 hK4 => ?_
 refine wp_seq_k fun K5 hK5 => rgn ?_
 refine VlS (.int .i64 0) ?_
 refine WL.nil (hK5 _ _ ?_)
 refine wp_block ?_
 refine wp_loop (fun ac wr => ∃ (t : Nat), ac = apF (fun fz => { tmps := #[.slice pa ls.length pc, .slice qa ls.length qc, undef, undef, fz 4, .int .i64 (t : Int), .slice pa ls.length pc, .int .i64 (ls.length : Int), .slice qa ls.length qc, .int .i64 (ls.length : Int), .bool false, fz 11, fz 12, fz 13, fz 14, fz 15, fz 16, fz 17, fz 18, fz 19, fz 20, fz 21, fz 22, fz 23, fz 24, fz 25], defers := [] }) ac ∧ t ≤ ls.length ∧ Below w.heap.size w wr) (fun a _ => ls.length - (intOf (a.tmps.getD 5 undef)).toNat) ⟨0, rfl, Nat.zero_le _, Below.refl _ _⟩ ?_
 rintro ac wr ⟨t, hac, ht, hB⟩
 obtain ⟨fz, rfl⟩ := unF hac
 have JB := Keep.mk hB
 clear hB
 by_cases hlt : t < ls.length
 ·have hlt' : (t : Int) < (ls.length : Int) := by omega
  have hwt : IntKind.i64.wrap ((t : Int) + 1) = (t : Int) + 1 := by rw [IntKind.wrap_i64]; have := HN.out; omega
  obtain ⟨e_, he_⟩ : ∃ z, ls[t]? = some z := ⟨ls[t], List.getElem?_eq_getElem hlt⟩
  obtain ⟨b, hq, x1⟩ := (H1.out.below JB.out).at he_
  subst hq
  obtain ⟨d, hq, y1⟩ := (H2.out.below JB.out).at he_
  subst hq
  have HS0 : Keep ((wr.drew).cell? ⟨b, t, none⟩ = some (.string e_) ∧ (wr.drew).cell? ⟨d, t, none⟩ = some (.string e_)) := ⟨⟨x1, y1⟩⟩
  clear x1 y1 he_
  refine wp_seq_k fun K6 hK6 => ?_
  refine wp_seq_k fun K7 hK7 => rgn ?_
  refine VlS (.int .i64 (t : Int)) ?_
  refine VlS (.slice (some ⟨b, 0, none⟩) ls.length pc) ?_
  refine VlS (.int .i64 (ls.length : Int)) ?_
  refine VbT ?_
  refine WL.nil (hK7 _ _ ?_)
  refine wp_cond_true rfl ?_
  refine wp_skip ?_
  refine hK6 _ _ ?_
  refine wp_seq_k fun K8 hK8 => ?_
  refine wp_block ?_
  refine wp_seq_k fun K9 hK9 => ?_
  refine wp_region_held_drew (S := fun wx => wx.cell? ⟨b, t, none⟩ = some (.string e_) ∧ wx.cell? ⟨d, t, none⟩ = some (.string e_)) (by kernel_rfl) (HS0.out) (fun hHeld => ?_)
  refine TkG (i := 0) (oi := ⟨some 17, Op.move (Operand.tmp 0), 85, _, _, none⟩) (v := .slice (some ⟨b, 0, none⟩) ls.length pc) rfl hHeld ?_
  refine TkG (i := 1) (oi := ⟨some 18, Op.move (Operand.tmp 5), 3, _, _, none⟩) (v := .int .i64 (t : Int)) rfl hHeld ?_
  refine TkG (i := 2) (oi := ⟨some 19, Op.indexAddr 85 (Operand.tmp 17) (Operand.tmp 18), 0, _, _, none⟩) (v := .pointer (some ⟨b, t, none⟩)) rfl hHeld ?_
  refine tkS (i := 3) (oi := ⟨some 20, Op.load 9 (Operand.tmp 19), 9, _, _, none⟩) (v := .string e_) rfl (Or.inl ⟨by rfl, fun w hS => by have h := hS.1; clear hS; go_simp⟩) hHeld ?_
  refine TkG (i := 4) (oi := ⟨some 21, Op.move (Operand.tmp 1), 85, _, _, none⟩) (v := .slice (some ⟨d, 0, none⟩) ls.length qc) rfl hHeld ?_
  refine TkG (i := 5) (oi := ⟨some 22, Op.move (Operand.tmp 5), 3, _, _, none⟩) (v := .int .i64 (t : Int)) rfl hHeld ?_
  refine TkG (i := 6) (oi := ⟨some 23, Op.indexAddr 85 (Operand.tmp 21) (Operand.tmp 22), 0, _, _, none⟩) (v := .pointer (some ⟨d, t, none⟩)) rfl hHeld ?_
  refine tkS (i := 7) (oi := ⟨some 24, Op.load 9 (Operand.tmp 23), 9, _, _, none⟩) (v := .string e_) rfl (Or.inl ⟨by rfl, fun w hS => by have h := hS.2; clear hS; go_simp⟩) hHeld ?_
  refine tkS (i := 8) (oi := ⟨some 25, Op.binOp BinOp.neq 9 (Operand.tmp 20) (Operand.tmp 24) 9, 4, _, _, none⟩) (v := .bool false) rfl (Or.inl ⟨by rfl, fun w hS => by have h1 := bs_refl e_; clear hS; go_simp⟩) hHeld ?_
  refine wpAnyH_done (by kernel_rfl) ?_ _
  refine hK9 _ _ ?_
  refine wp_cond_false rfl ?_
  refine wp_skip ?_
  refine hK8 _ _ ?_
  refine rgn ?_
  refine VlS (.int .i64 (t : Int)) ?_
  refine VlS (.int .i64 ((t : Int) + 1)) ?_
  refine VlS (.int .i64 ((t : Int) + 1)) ?_
  refine WL.nil ?_
  refine ⟨⟨t + 1, rfl, by omega, JB.out.drew⟩, by simp only [intOf]; show ls.length - ((t : Int) + 1).toNat < ls.length - ((t : Int)).toNat; omega⟩
 ·have htl' : ¬ (t : Int) < (ls.length : Int) := by omega
  refine wp_seq_k fun K10 hK10 => ?_
  refine wp_seq_k fun K11 hK11 => rgn ?_
  refine VlS (.int .i64 (t : Int)) ?_
  refine VlS (.slice pa ls.length pc) ?_
  refine VlS (.int .i64 (ls.length : Int)) ?_
  refine VbF ?_
  refine WL.nil (hK11 _ _ ?_)
  refine wp_cond_false rfl ?_
  refine wp_exit ?_
  refine hK4 _ _ ?_
  refine wp_seq_k fun K12 hK12 => rgn ?_
  refine VbT ?_
  refine WL.nil (hK12 _ _ ?_)
  refine wp_ret ?_
  go_ret
  exact ⟨rfl, JB.out⟩
set_option maxRecDepth 8000 in
set_option maxHeartbeats 4000000 in
theorem eqFiles_refl (v1 v2 : Value) (ls : List PF) (w : World) (h1 : FilesAt w v1 ls) (h2 : FilesAt w v2 ls) (hn : ls.length ≤ 1000000000000) :
  Calls Tryz.prog 47 #[v1, v2] w fun e w' => e = .returned (.bool true) ∧ Below w.heap.size w w' := by
 obtain ⟨pa, pc, rfl⟩ := h1.form
 obtain ⟨qa, qc, rfl⟩ := h2.form
 have H1 := Keep.mk h1
 have H2 := Keep.mk h2
 have HN := Keep.mk hn
 clear h1 h2 hn
 go_enter Tryz.func47, Tryz.ntmps47
 refine wp_seq_k fun K1 hK1 => rgn ?_
 refine VbF ?_
 refine WL.nil (hK1 _ _ ?_)
 refine wp_seq_k fun K2 hK2 => ?_
 refine wp_seq_k fun K3 hK3 => rgn ?_
 refine VlS (.slice pa ls.length pc) ?_
 refine VlS (.int .i64 (ls.length : Int)) ?_
 refine VlS (.slice qa ls.length qc) ?_
 refine VlS (.int .i64 (ls.length : Int)) ?_
 refine VbF ?_
 refine WL.nil (hK3 _ _ ?_)
 refine wp_cond_false rfl ?_
 refine wp_skip ?_
 refine hK2 _ _ ?_
 refine wp_seq_k fun K4 hK4 => ?_
 refine wp_seq_k fun K5 hK5 => rgn ?_
 refine VlS (.int .i64 0) ?_
 refine WL.nil (hK5 _ _ ?_)
 refine wp_block ?_
 refine wp_loop (fun ac wr => ∃ (t : Nat), ac = apF (fun fz => { tmps := #[.slice pa ls.length pc, .slice qa ls.length qc, undef, undef, fz 4, .int .i64 (t : Int), .slice pa ls.length pc, .int .i64 (ls.length : Int), .slice qa ls.length qc, .int .i64 (ls.length : Int), .bool false, fz 11, fz 12, fz 13, fz 14, fz 15, fz 16, fz 17, fz 18, fz 19, fz 20, fz 21, fz 22, fz 23, fz 24, fz 25, fz 26, fz 27, fz 28, fz 29, fz 30, fz 31, fz 32, fz 33, fz 34, fz 35, fz 36, fz 37, fz 38, fz 39, fz 40, fz 41, fz 42, fz 43, fz 44, fz 45, fz 46, fz 47, fz 48, fz 49, fz 50, fz 51, fz 52, fz 53, fz 54, fz 55], defers := [] }) ac ∧ t ≤ ls.length ∧ Below w.heap.size w wr) (fun a _ => ls.length - (intOf (a.tmps.getD 5 undef)).toNat) ⟨0, rfl, Nat.zero_le _, Below.refl _ _⟩ ?_
 rintro ac wr ⟨t, hac, ht, hB⟩
 obtain ⟨fz, rfl⟩ := unF hac
 have JB := Keep.mk hB
 clear hB
 by_cases hlt : t < ls.length
 ·have hlt' : (t : Int) < (ls.length : Int) := by omega
  have hwt : IntKind.i64.wrap ((t : Int) + 1) = (t : Int) + 1 := by rw [IntKind.wrap_i64]; have := HN.out; omega
  obtain ⟨e_, he_⟩ : ∃ z, ls[t]? = some z := ⟨ls[t], List.getElem?_eq_getElem hlt⟩
  obtain ⟨b, ob, zx, hq, x0, x1, x2, x3⟩ := (H1.out.below JB.out).at he_
  subst hq
  obtain ⟨xa, xc, x4⟩ := row_form x3
  have x5 : wr.cell? ⟨b, ob + t * 3, none⟩ = some (.string e_.nm) := by rw [← x1]; exact x0 0 _ rfl
  have x6 : wr.cell? ⟨b, ob + t * 3 + 1, none⟩ = some (.slice xa e_.bs.length xc) := by rw [← x4]; exact x0 1 _ rfl
  have x7 : wr.cell? ⟨b, ob + t * 3 + 2, none⟩ = some (.int .i64 e_.sf) := by rw [← x2]; exact x0 2 _ rfl
  rw [x4] at x3
  obtain ⟨d, od, zy, hq, y0, y1, y2, y3⟩ := (H2.out.below JB.out).at he_
  subst hq
  obtain ⟨ya, yc, y4⟩ := row_form y3
  have y5 : wr.cell? ⟨d, od + t * 3, none⟩ = some (.string e_.nm) := by rw [← y1]; exact y0 0 _ rfl
  have y6 : wr.cell? ⟨d, od + t * 3 + 1, none⟩ = some (.slice ya e_.bs.length yc) := by rw [← y4]; exact y0 1 _ rfl
  have y7 : wr.cell? ⟨d, od + t * 3 + 2, none⟩ = some (.int .i64 e_.sf) := by rw [← y2]; exact y0 2 _ rfl
  rw [y4] at y3
  obtain ⟨st, hst⟩ : ∃ st, strOfNums e_.bs = st := ⟨_, rfl⟩
  have Hst := Keep.mk hst
  clear hst
  have HS0 : Keep ((wr.drew).cell? ⟨b, ob + t * 3, none⟩ = some (.string e_.nm) ∧ (wr.drew).cell? ⟨d, od + t * 3, none⟩ = some (.string e_.nm) ∧ (wr.drew).cell? ⟨b, ob + t * 3 + 2, none⟩ = some (.int .i64 e_.sf) ∧ (wr.drew).cell? ⟨d, od + t * 3 + 2, none⟩ = some (.int .i64 e_.sf) ∧ (wr.drew).cell? ⟨b, ob + t * 3 + 1, none⟩ = some (.slice xa e_.bs.length xc) ∧ (wr.drew).cell? ⟨d, od + t * 3 + 1, none⟩ = some (.slice ya e_.bs.length yc) ∧ RowAt wr.drew (.slice xa e_.bs.length xc) e_.bs ∧ RowAt wr.drew (.slice ya e_.bs.length yc) e_.bs) := ⟨⟨x5, y5, x7, y7, x6, y6, x3, y3⟩⟩
  clear x0 y0 x1 y1 x2 y2 x3 y3 x4 y4 x5 y5 x6 y6 x7 y7 he_
  refine wp_seq_k fun K6 hK6 => ?_
  refine wp_seq_k fun K7 hK7 => rgn ?_
  refine VlS (.int .i64 (t : Int)) ?_
  refine VlS (.slice (some ⟨b, ob, none⟩) ls.length pc) ?_
  refine VlS (.int .i64 (ls.length : Int)) ?_
  refine VbT ?_
  refine WL.nil (hK7 _ _ ?_)
  refine wp_cond_true rfl ?_
  refine wp_skip ?_
  refine hK6 _ _ ?_
  refine wp_seq_k fun K8 hK8 => ?_
  refine wp_block ?_
  refine wp_seq_k fun K9 hK9 => ?_
  refine wp_region_held_drew (S := fun wx => wx.cell? ⟨b, ob + t * 3, none⟩ = some (.string e_.nm) ∧ wx.cell? ⟨d, od + t * 3, none⟩ = some (.string e_.nm) ∧ wx.cell? ⟨b, ob + t * 3 + 2, none⟩ = some (.int .i64 e_.sf) ∧ wx.cell? ⟨d, od + t * 3 + 2, none⟩ = some (.int .i64 e_.sf) ∧ wx.cell? ⟨b, ob + t * 3 + 1, none⟩ = some (.slice xa e_.bs.length xc) ∧ wx.cell? ⟨d, od + t * 3 + 1, none⟩ = some (.slice ya e_.bs.length yc) ∧ RowAt wx (.slice xa e_.bs.length xc) e_.bs ∧ RowAt wx (.slice ya e_.bs.length yc) e_.bs) (by kernel_rfl) (HS0.out) (fun hHeld => ?_)
  refine TkC (i := 0) (oi := ⟨some 17, Op.move (Operand.tmp 0), 22, _, _, none⟩) (v := .slice (some ⟨b, ob, none⟩) ls.length pc) rfl hHeld ?_
  refine TkC (i := 1) (oi := ⟨some 18, Op.move (Operand.tmp 5), 3, _, _, none⟩) (v := .int .i64 (t : Int)) rfl hHeld ?_
  refine TkC (i := 2) (oi := ⟨some 19, Op.indexAddr 22 (Operand.tmp 17) (Operand.tmp 18), 0, _, _, none⟩) (v := .pointer (some ⟨b, ob + t * 3, none⟩)) rfl hHeld ?_
  refine TkC (i := 3) (oi := ⟨some 20, Op.fieldAddr 49 (Operand.tmp 19) 0, 0, _, _, none⟩) (v := .pointer (some ⟨b, ob + t * 3, none⟩)) rfl hHeld ?_
  refine tkS (i := 4) (oi := ⟨some 21, Op.load 9 (Operand.tmp 20), 9, _, _, none⟩) (v := .string e_.nm) rfl (Or.inl ⟨by rfl, fun w hS => by have h := hS.1; clear hS; go_simp⟩) hHeld ?_
  refine TkC (i := 5) (oi := ⟨some 22, Op.move (Operand.tmp 1), 22, _, _, none⟩) (v := .slice (some ⟨d, od, none⟩) ls.length qc) rfl hHeld ?_
  refine TkC (i := 6) (oi := ⟨some 23, Op.move (Operand.tmp 5), 3, _, _, none⟩) (v := .int .i64 (t : Int)) rfl hHeld ?_
  refine TkC (i := 7) (oi := ⟨some 24, Op.indexAddr 22 (Operand.tmp 22) (Operand.tmp 23), 0, _, _, none⟩) (v := .pointer (some ⟨d, od + t * 3, none⟩)) rfl hHeld ?_
  refine TkC (i := 8) (oi := ⟨some 25, Op.fieldAddr 49 (Operand.tmp 24) 0, 0, _, _, none⟩) (v := .pointer (some ⟨d, od + t * 3, none⟩)) rfl hHeld ?_
  refine tkS (i := 9) (oi := ⟨some 26, Op.load 9 (Operand.tmp 25), 9, _, _, none⟩) (v := .string e_.nm) rfl (Or.inl ⟨by rfl, fun w hS => by have h := hS.2.1; clear hS; go_simp⟩) hHeld ?_
  refine tkS (i := 10) (oi := ⟨some 27, Op.binOp BinOp.neq 9 (Operand.tmp 21) (Operand.tmp 26) 9, 4, _, _, none⟩) (v := .bool false) rfl (Or.inl ⟨by rfl, fun w hS => by have h1 := bs_refl e_.nm; clear hS; go_simp⟩) hHeld ?_
  refine TkC (i := 11) (oi := ⟨some 28, Op.move (Operand.tmp 27), 4, _, _, none⟩) (v := .bool false) rfl hHeld ?_
  refine TkC (i := 12) (oi := ⟨some 29, Op.move (Operand.tmp 0), 22, _, _, some (11, false)⟩) (v := .slice (some ⟨b, ob, none⟩) ls.length pc) rfl hHeld ?_
  refine TkC (i := 13) (oi := ⟨some 30, Op.move (Operand.tmp 5), 3, _, _, some (11, false)⟩) (v := .int .i64 (t : Int)) rfl hHeld ?_
  refine TkC (i := 14) (oi := ⟨some 31, Op.indexAddr 22 (Operand.tmp 29) (Operand.tmp 30), 0, _, _, some (11, false)⟩) (v := .pointer (some ⟨b, ob + t * 3, none⟩)) rfl hHeld ?_
  refine TkC (i := 15) (oi := ⟨some 32, Op.fieldAddr 49 (Operand.tmp 31) 2, 0, _, _, some (11, false)⟩) (v := .pointer (some ⟨b, ob + t * 3 + 2, none⟩)) rfl hHeld ?_
  refine tkS (i := 16) (oi := ⟨some 33, Op.load 3 (Operand.tmp 32), 3, _, _, some (11, false)⟩) (v := .int .i64 e_.sf) rfl (Or.inl ⟨by rfl, fun w hS => by have h := hS.2.2.1; clear hS; go_simp⟩) hHeld ?_
  refine TkC (i := 17) (oi := ⟨some 34, Op.move (Operand.tmp 1), 22, _, _, some (11, false)⟩) (v := .slice (some ⟨d, od, none⟩) ls.length qc) rfl hHeld ?_
  refine TkC (i := 18) (oi := ⟨some 35, Op.move (Operand.tmp 5), 3, _, _, some (11, false)⟩) (v := .int .i64 (t : Int)) rfl hHeld ?_
  refine TkC (i := 19) (oi := ⟨some 36, Op.indexAddr 22 (Operand.tmp 34) (Operand.tmp 35), 0, _, _, some (11, false)⟩) (v := .pointer (some ⟨d, od + t * 3, none⟩)) rfl hHeld ?_
  refine TkC (i := 20) (oi := ⟨some 37, Op.fieldAddr 49 (Operand.tmp 36) 2, 0, _, _, some (11, false)⟩) (v := .pointer (some ⟨d, od + t * 3 + 2, none⟩)) rfl hHeld ?_
  refine tkS (i := 21) (oi := ⟨some 38, Op.load 3 (Operand.tmp 37), 3, _, _, some (11, false)⟩) (v := .int .i64 e_.sf) rfl (Or.inl ⟨by rfl, fun w hS => by have h := hS.2.2.2.1; clear hS; go_simp⟩) hHeld ?_
  refine TkC (i := 22) (oi := ⟨some 39, Op.binOp BinOp.neq 3 (Operand.tmp 33) (Operand.tmp 38) 3, 4, _, _, some (11, false)⟩) (v := .bool false) rfl hHeld ?_
  refine TkC (i := 23) (oi := ⟨some 40, Op.pick (Operand.tmp 28) (Operand.const (Value.bool true)) (Operand.tmp 39), 4, _, _, none⟩) (v := .bool false) rfl hHeld ?_
  refine TkC (i := 24) (oi := ⟨some 41, Op.move (Operand.tmp 40), 4, _, _, none⟩) (v := .bool false) rfl hHeld ?_
  refine TkC (i := 25) (oi := ⟨some 42, Op.move (Operand.tmp 0), 22, _, _, some (24, false)⟩) (v := .slice (some ⟨b, ob, none⟩) ls.length pc) rfl hHeld ?_
  refine TkC (i := 26) (oi := ⟨some 43, Op.move (Operand.tmp 5), 3, _, _, some (24, false)⟩) (v := .int .i64 (t : Int)) rfl hHeld ?_
  refine TkC (i := 27) (oi := ⟨some 44, Op.indexAddr 22 (Operand.tmp 42) (Operand.tmp 43), 0, _, _, some (24, false)⟩) (v := .pointer (some ⟨b, ob + t * 3, none⟩)) rfl hHeld ?_
  refine TkC (i := 28) (oi := ⟨some 45, Op.fieldAddr 49 (Operand.tmp 44) 1, 0, _, _, some (24, false)⟩) (v := .pointer (some ⟨b, ob + t * 3 + 1, none⟩)) rfl hHeld ?_
  refine tkS (i := 29) (oi := ⟨some 46, Op.load 40 (Operand.tmp 45), 40, _, _, some (24, false)⟩) (v := .slice xa e_.bs.length xc) rfl (Or.inl ⟨by rfl, fun w hS => by have h := hS.2.2.2.2.1; clear hS; go_simp⟩) hHeld ?_
  refine tkS (i := 30) (oi := ⟨some 47, Op.convert 40 9 (Operand.tmp 46), 9, _, _, some (24, false)⟩) (v := .string st) rfl (Or.inl ⟨by rfl, fun w hS => by have h1 := conv_row _ _ w hS.2.2.2.2.2.2.1; rw [Hst.out] at h1; clear hS; go_simp⟩) hHeld ?_
  refine TkC (i := 31) (oi := ⟨some 48, Op.move (Operand.tmp 1), 22, _, _, some (24, false)⟩) (v := .slice (some ⟨d, od, none⟩) ls.length qc) rfl hHeld ?_
  refine TkC (i := 32) (oi := ⟨some 49, Op.move (Operand.tmp 5), 3, _, _, some (24, false)⟩) (v := .int .i64 (t : Int)) rfl hHeld ?_
  refine TkC (i := 33) (oi := ⟨some 50, Op.indexAddr 22 (Operand.tmp 48) (Operand.tmp 49), 0, _, _, some (24, false)⟩) (v := .pointer (some ⟨d, od + t * 3, none⟩)) rfl hHeld ?_
  refine TkC (i := 34) (oi := ⟨some 51, Op.fieldAddr 49 (Operand.tmp 50) 1, 0, _, _, some (24, false)⟩) (v := .pointer (some ⟨d, od + t * 3 + 1, none⟩)) rfl hHeld ?_
  refine tkS (i := 35) (oi := ⟨some 52, Op.load 40 (Operand.tmp 51), 40, _, _, some (24, false)⟩) (v := .slice ya e_.bs.length yc) rfl (Or.inl ⟨by rfl, fun w hS => by have h := hS.2.2.2.2.2.1; clear hS; go_simp⟩) hHeld ?_
  refine tkS (i := 36) (oi := ⟨some 53, Op.convert 40 9 (Operand.tmp 52), 9, _, _, some (24, false)⟩) (v := .string st) rfl (Or.inl ⟨by rfl, fun w hS => by have h1 := conv_row _ _ w hS.2.2.2.2.2.2.2; rw [Hst.out] at h1; clear hS; go_simp⟩) hHeld ?_
  refine tkS (i := 37) (oi := ⟨some 54, Op.binOp BinOp.neq 9 (Operand.tmp 47) (Operand.tmp 53) 9, 4, _, _, some (24, false)⟩) (v := .bool false) rfl (Or.inl ⟨by rfl, fun w hS => by have h1 := bs_refl st; clear hS; go_simp⟩) hHeld ?_
  refine TkC (i := 38) (oi := ⟨some 55, Op.pick (Operand.tmp 41) (Operand.const (Value.bool true)) (Operand.tmp 54), 4, _, _, none⟩) (v := .bool false) rfl hHeld ?_
  refine wpAnyH_done (by kernel_rfl) ?_ _
  refine hK9 _ _ ?_
  refine wp_cond_false rfl ?_
  refine wp_skip ?_
  refine hK8 _ _ ?_
  refine rgn ?_
  refine VlS (.int .i64 (t : Int)) ?_
  refine VlS (.int .i64 ((t : Int) + 1)) ?_
  refine VlS (.int .i64 ((t : Int) + 1)) ?_
  refine WL.nil ?_
  refine ⟨⟨t + 1, rfl, by omega, JB.out.drew⟩, by simp only [intOf]; show ls.length - ((t : Int) + 1).toNat < ls.length - ((t : Int)).toNat; omega⟩
 ·have htl' : ¬ (t : Int) < (ls.length : Int) := by omega
  refine wp_seq_k fun K10 hK10 => ?_
  refine wp_seq_k fun K11 hK11 => rgn ?_
  refine VlS (.int .i64 (t : Int)) ?_
  refine VlS (.slice pa ls.length pc) ?_
  refine VlS (.int .i64 (ls.length : Int)) ?_
  refine VbF ?_
  refine WL.nil (hK11 _ _ ?_)
  refine wp_cond_false rfl ?_
  refine wp_exit ?_
  refine hK4 _ _ ?_
  refine wp_seq_k fun K12 hK12 => rgn ?_
  refine VbT ?_
  refine WL.nil (hK12 _ _ ?_)
  refine wp_ret ?_
  go_ret
  exact ⟨rfl, JB.out⟩
end Go.Proofs.YteijjfeainamdaaGreatDoor
