import Derived.Test.YtennogmeeefopaaDoorA09
import Derived.Deep.RegionHeld3
import Derived.Lib.Small
import Derived.Lib.SlicesS
namespace Go.Proofs.YtennogmeeefopaaDoor
open Go.RowKit
set_option linter.unusedSimpArgs false
set_option linter.unusedVariables false

theorem Tab.grown {w w' : World} {S : Nat → Prop} (h : Tab w) (hg : Grown w w' S) (h0 : ¬ S 0) : Tab w' := by
 unfold Tab Lib.TabIs at h ⊢
 unfold World.var? at h ⊢
 simp only [Tryd.gPow, Option.bind_some] at h ⊢
 by_cases hz : 0 < w.heap.size
 ·rw [hg.block 0 hz h0]
  exact h
 ·rw [Array.getElem?_eq_none (by omega)] at h
  cases h
theorem OwnS.cell {w : World} {g c : Nat} {l : List ByteArray} (h : OwnS w (.slice (some ⟨g, 0, none⟩) l.length c) l) {j : Nat} (hj : j < l.length) : w.cell? ⟨g, 0 + j, none⟩ = some (.string (l.getD j ByteArray.empty)) := by
 unfold OwnS at h
 rw [Nat.zero_add, World.ownsRow.cellAt h j (by simpa [sL] using hj)]
 simp [sL, List.getD_eq_getElem?_getD, hj]
theorem contains_any (v : Value) (l : List ByteArray) (x : ByteArray) (w : World) (h : OwnS w v l) (hL : l.length ≤ 1000000) : Calls Tryd.prog 39 #[v, .string x] w fun e w' => e = .returned (.bool (Lib.containsS l x)) ∧ w' = w := by
 rcases h.2 with ⟨rfl, h0⟩ | ⟨g, cap, cur, rfl, _⟩
 ·obtain rfl := List.eq_nil_of_length_eq_zero h0
  exact Tryd.slices_Contains_string_empty _ _ _ w
 ·have := Tryd.slices_Contains_string g 0 l.length cap l x w (Nat.le_refl _) (by omega) fun j hj => h.cell hj
  rwa [List.take_of_length_le (Nat.le_refl _)] at this
theorem cont_lk (fs : List PF) (x : ByteArray) : (Lib.containsS (fs.map PF.nm) x = true → ∃ f, lk fs x = some f) ∧ (¬ Lib.containsS (fs.map PF.nm) x = true → lk fs x = none) := by
 rw [Lib.containsS_iff]
 refine ⟨fun h => ?_, fun h => lk_absent fun f hf e => h (List.mem_map.2 ⟨f, hf, e⟩)⟩
 cases hl : lk fs x with
 | none =>
  obtain ⟨f, hf, e⟩ := List.mem_map.1 h
  exact absurd e (lk_none hl f hf)
 | some f => exact ⟨f, rfl⟩
theorem openV_none {F : Nat → Option (List Int)} (h : (openV F).pr = -1) : F 0 = none := by
 unfold openV at h
 rw [rdJ] at h
 cases hF : F 0 with
 | none => rfl
 | some b =>
  rw [hF] at h
  simp only at h
  split at h
  ·simp only [JV.more] at h; omega
  ·have h2 := rdJ_pr F 255 1 (JV.nil.more 0 b) rfl
   have h3 : (JV.nil.more 0 b).pr = 0 := rfl
   change (rdJ F 255 1 (JV.nil.more 0 b)).pr = -1 at h
   omega
theorem openV_bnd (F : Nat → Option (List Int)) : -1 ≤ (openV F).pr ∧ (openV F).pr ≤ 255 := by
 have := rdJ_pr F 256 0 JV.nil rfl
 unfold openV
 simp only [JV.nil] at this ⊢
 omega
set_option maxRecDepth 8000 in
set_option maxHeartbeats 4000000 in
theorem mend_any (g d p : Nat) (vn vf vp : Value) (cs : List FC) (D : DV) (V : JV) (tn la de : Bool) (N : Nat → Prop) (w : World) (hT : Tab w) (hJ : Blk w g 61 (jA d vp V.pr V.sz la de)) (hDk : Blk w d 75 #[ptr p]) (hD : DskAt w p vf cs D) (hN : ∀ k, DskS p vf cs k → N k) (hNn : ¬ N 0 ∧ ¬ N g ∧ ¬ N d ∧ ∀ k, vn.ownBlock = some k → ¬ N k) (hOk : DOk D) (hO : D.out = false) (hA : D.acts ≤ 4611686018427380000) (hVn : OwnS w vn (D.fs.map PF.nm)) (hV : V = openV (Fk D.fs)) (htn : V.torn = tn) :
  Calls Tryd.prog 23 #[ptr g, vn, .bool tn] w fun e w' => ∃ (ee : Int) (D' : DV) (vf' : Value) (cs' : List FC), e = .returned (.int .i64 ee) ∧ MPost D D' ee V ∧ DskAt w' p vf' cs' D' ∧ (∀ k, DskS p vf' cs' k → N k ∨ w.heap.size ≤ k) ∧ Grown w w' N := by
 have HT := Keep.mk hT
 have HJ := Keep.mk hJ
 have HDk := Keep.mk hDk
 have HD := Keep.mk hD
 have HN := Keep.mk hN
 have HNn := Keep.mk hNn
 have HOk := Keep.mk hOk
 have HO := Keep.mk hO
 have HA := Keep.mk hA
 have HVn := Keep.mk hVn
 have HV := Keep.mk hV
 have Htn := Keep.mk htn
 have HVb : Keep (-1 ≤ V.pr ∧ V.pr ≤ 255) := ⟨by rw [hV]; exact openV_bnd _⟩
 clear hT hJ hDk hD hN hNn hOk hO hA hVn hV htn
 go_enter Tryd.func23, Tryd.ntmps23
 refine wp_seq_k fun K1 hK1 => rgn ?_
 refine VlS (.int .i64 0) ?_
 refine WL.nil (hK1 _ _ ?_)
 refine wp_seq_k fun K2 hK2 => ?_
 refine wp_seq_k fun K3 hK3 => rgn ?_
 refine VlS (.int .i64 255) ?_
 refine WL.nil (hK3 _ _ ?_)
 refine wp_block ?_
 refine wp_loop (fun ac wr => ∃ (t : Nat) (fz : Nat → Value) (vf : Value) (cs : List FC) (Dt : DV), ac = { tmps := #[.pointer (some ⟨g, 0, none⟩), vn, .bool tn, undef, undef, undef, fz 6, .int .i64 (255 - (t : Int)), fz 8, undef, fz 10, fz 11, fz 12, fz 13, fz 14, fz 15, fz 16, fz 17, fz 18, fz 19, fz 20, fz 21, fz 22, fz 23, fz 24, fz 25, fz 26, fz 27, fz 28, fz 29, fz 30, fz 31, fz 32, undef, undef, undef, undef, undef, undef, undef, undef, undef, undef, undef, undef, undef, undef, undef, undef, undef, undef, undef, undef, undef, undef, undef, undef, undef, undef, undef, undef, undef, undef, undef, undef, undef], defers := [] } ∧ t ≤ 256 ∧ V.pr ≤ 255 - (t : Int) ∧ MI D Dt (255 - (t : Int)) t ∧ DskAt wr p vf cs Dt ∧ (∀ k, DskS p vf cs k → N k ∨ w.heap.size ≤ k) ∧ Grown w wr N) (fun a _ => (intOf (a.tmps.getD 7 undef) + 1).toNat) ⟨0, fun zz => [.pointer (some ⟨g, 0, none⟩), vn, .bool tn, undef, undef, undef, .int .i64 0, .int .i64 255, undef, undef, undef, undef, undef, undef, undef, undef, undef, undef, undef, undef, undef, undef, undef, undef, undef, undef, undef, undef, undef, undef, undef, undef, undef, undef, undef, undef, undef, undef, undef, undef, undef, undef, undef, undef, undef, undef, undef, undef, undef, undef, undef, undef, undef, undef, undef, undef, undef, undef, undef, undef, undef, undef, undef, undef, undef, undef].getD zz undef, vf, cs, D, rfl, by omega, by have := HVb.out; omega, MI.start HOk.out HO.out, HD.out, fun k h => .inl (HN.out k h), Grown.refl _ _⟩ ?_
 clear HD HN
 rintro ac wr ⟨t, fz, vf, cs, Dt, rfl, ht, hpt, hJ1, hJ2, hJ3, hJ4⟩
 have JM := Keep.mk hJ1
 have JD := Keep.mk hJ2
 have JS := Keep.mk hJ3
 have JG := Keep.mk hJ4
 clear hJ1 hJ2 hJ3 hJ4
 have T_wr : Keep (Tab wr) := ⟨HT.out.grown JG.out HNn.out.1⟩
 have J_wr : Keep (Blk wr g 61 (jA d vp V.pr V.sz la de)) := ⟨JG.out.blk HJ.out HNn.out.2.1⟩
 have K_wr : Keep (Blk wr d 75 #[ptr p]) := ⟨JG.out.blk HDk.out HNn.out.2.2.1⟩
 have c2 := J_wr.out.c 2 (by rfl : (jA d vp V.pr V.sz la de)[2]? = some (.int .i64 V.pr))
 by_cases hlt : V.pr < 255 - (t : Int)
 ·obtain ⟨k, hk⟩ : ∃ k : Nat, Keep (255 - (t : Int) = (k : Int) ∧ k < 10000 ∧ k < 256) := ⟨255 - t, ⟨by have := HVb.out; omega, by omega, by have := HVb.out; omega⟩⟩
  rw [hk.out.1]
  rw [hk.out.1] at JM
  have hgt : V.pr < (k : Int) := by have := hk.out.1; omega
  have hwk : IntKind.i64.wrap ((k : Int) - 1) = (k : Int) - 1 := by rw [IntKind.wrap_i64]; have := hk.out; omega
  have N_wr : Keep (OwnS wr vn (D.fs.map PF.nm)) := ⟨HVn.out.grown JG.out HNn.out.2.2.2⟩
  refine wp_seq_k fun K4 hK4 => ?_
  refine wp_seq_k fun K5 hK5 => rgn ?_
  refine VlS (.int .i64 (k : Int)) ?_
  refine VlS (.pointer (some ⟨g, 0, none⟩)) ?_
  refine VlS (.pointer (some ⟨g, 0, none⟩)) ?_
  refine VlS (.pointer (some ⟨g, 2, none⟩)) ?_
  refine VlS (.int .i64 V.pr) ?_
  refine VlS (.bool true) ?_
  refine WL.nil (hK5 _ _ ?_)
  refine wp_cond_true rfl ?_
  refine wp_skip ?_
  refine hK4 _ _ ?_
  refine wp_seq_k fun K6 hK6 => ?_
  refine wp_block ?_
  refine wp_seq_k fun K7 hK7 => ?_
  refine wp_seq_k fun K8 hK8 => rgn ?_
  refine VlS (vn) ?_
  refine VlS (.int .i64 (k : Int)) ?_
  refine WL.callF (by kernel_rfl) 31 _ _ rfl Tryd.in31 #[.int .i64 (k : Int)] (by simp [Act.eval]) ?_
  refine (name_any k hk.out.2.1 wr T_wr.out).mono ?_
  rintro e w1 ⟨rfl, hb1⟩
  refine ⟨_, rfl, ?_⟩
  have B1 := Keep.mk hb1
  have GW : Keep (Grown w w1 N) := ⟨JG.out.trans (Grown.below B1.out)⟩
  have D1 := Keep.mk (JD.out.below hb1)
  have N_w1 := Keep.mk (N_wr.out.below hb1)
  clear hb1 c2 T_wr J_wr K_wr N_wr JD
  have T_w1 : Keep (Tab w1) := ⟨HT.out.grown GW.out HNn.out.1⟩
  have J_w1 : Keep (Blk w1 g 61 (jA d vp V.pr V.sz la de)) := ⟨GW.out.blk HJ.out HNn.out.2.1⟩
  have K_w1 : Keep (Blk w1 d 75 #[ptr p]) := ⟨GW.out.blk HDk.out HNn.out.2.2.1⟩
  have NS := JS
  obtain ⟨nn, hnn⟩ : ∃ s, Keep (s = nmS k) := ⟨_, ⟨rfl⟩⟩
  rw [← hnn.out]
  simp only [Act.put, pqA, pqB, pqC]
  refine WL.callF (by kernel_rfl) 39 _ _ rfl Tryd.in39 #[vn, .string nn] (by simp [Act.eval]) ?_
  refine (contains_any vn _ nn w1 N_w1.out (by rw [List.length_map]; have := HOk.out.len; omega)).mono ?_
  rintro e w2 ⟨rfl, hw⟩
  refine ⟨_, rfl, ?_⟩
  obtain rfl : w1 = w2 := hw.symm
  clear hw
  obtain ⟨bb, hbb⟩ : ∃ s, Keep (s = Lib.containsS (D.fs.map PF.nm) nn) := ⟨_, ⟨rfl⟩⟩
  rw [← hbb.out]
  simp only [Act.put, pqA, pqB, pqC]
  by_cases h4_4 : bb = true
  ·obtain ⟨f, hf⟩ := (cont_lk D.fs nn).1 (by rw [← hbb.out]; exact h4_4)
   have hft : lk Dt.fs nn = some f := by rw [hnn.out]; rw [hnn.out] at hf; rw [JM.out.low k hk.out.2.2 (Int.le_refl _)]; exact hf
   obtain ⟨i, hfi, hfn, hfd⟩ := fnd_is JM.out.ok.srt hft
   have HFi := Keep.mk hfi
   have HFn := Keep.mk hfn
   have HFd := Keep.mk hfd
   clear hf hft hfi hfn hfd hbb
   refine VlS (.bool false) ?_
   refine WL.nil (hK8 _ _ ?_)
   refine wp_cond_false rfl ?_
   refine wp_skip ?_
   refine hK7 _ _ ?_
   refine wp_seq_k fun K9 hK9 => ?_
   have D4 : Keep (Below w1.heap.size w1 w1.drew) := ⟨(Below.refl _ _).drew⟩
   refine wp_region_held_drew (S := fun wx => wx.cell? ⟨g, 0, none⟩ = some (ptr d)) (by kernel_rfl) (J_w1.out.drew.c 0 rfl) (fun hHeld => ?_)
   refine tkS (i := 0) (oi := ⟨some 23, Op.move (Operand.tmp 0), 22, _, _, none⟩) (v := .pointer (some ⟨g, 0, none⟩)) rfl (Or.inl ⟨by rfl, fun w hS => by go_simp⟩) hHeld ?_
   refine tkS (i := 1) (oi := ⟨some 24, Op.nilCheck (Operand.tmp 23), 0, _, _, none⟩) (v := .pointer (some ⟨g, 0, none⟩)) rfl (Or.inl ⟨by rfl, fun w hS => by go_simp⟩) hHeld ?_
   refine tkS (i := 2) (oi := ⟨some 25, Op.fieldAddr 61 (Operand.tmp 24) 0, 0, _, _, none⟩) (v := .pointer (some ⟨g, 0, none⟩)) rfl (Or.inl ⟨by rfl, fun w hS => by go_simp⟩) hHeld ?_
   refine tkS (i := 3) (oi := ⟨some 26, Op.load 30 (Operand.tmp 25), 30, _, _, none⟩) (v := .pointer (some ⟨d, 0, none⟩)) rfl (Or.inl ⟨by rfl, fun w hS => by go_simp⟩) hHeld ?_
   refine tkS (i := 4) (oi := ⟨some 27, Op.move (Operand.tmp 7), 3, _, _, none⟩) (v := .int .i64 (k : Int)) rfl (Or.inl ⟨by rfl, fun w hS => by go_simp⟩) hHeld ?_
   refine wpAnyH_ready (rs := [5]) (by kernel_rfl) (by simp) ?_
   refine AllReadyH.cons (o := ⟨some 28, Op.call { callee := Callee.value (Operand.func 31), args := #[Operand.tmp 27], argTypes := #[3] }, 9, _, _, none⟩) rfl (fun K hK => ?_) AllReadyH.nil
   rw [if_pos (by rfl)]
   refine wp_callF 31 _ _ rfl Tryd.in31 #[.int .i64 (k : Int)] (by simp [Act.eval]) (fun vz wz => vz = .string (nmS k) ∧ Below w1.heap.size w1 wz) ?_ ?_
   ·refine (name_any k hk.out.2.1 w1.drew (T_w1.out.below D4.out (Nat.lt_of_le_of_lt (Nat.zero_le _) J_w1.out.lt))).mono ?_
    rintro e wz ⟨rfl, h⟩
    exact ⟨_, rfl, rfl, D4.out.trans (h.mono D4.out.size)⟩
   rintro vz w5 ⟨rfl, h5⟩
   have B5 := Keep.mk h5
   clear h5
   rw [← hnn.out]
   refine hK _ _ ((J_w1.out.below B5.out J_w1.out.lt).c 0 rfl) fun hH5 => ?_
   clear hK
   simp only [Act.put, pqA, pqB, pqC]
   refine wpAnyH_ready (rs := [6]) (by kernel_rfl) (by simp) ?_
   refine AllReadyH.cons (o := ⟨some 29, Op.call { callee := Callee.value (Operand.func 30), args := #[Operand.tmp 26, Operand.tmp 28], argTypes := #[30, 9] }, 24, _, _, none⟩) rfl (fun K hK => ?_) AllReadyH.nil
   rw [if_pos (by rfl)]
   refine wp_callF 30 _ _ rfl Tryd.in30 #[ptr d, .string nn] (by simp [Act.eval]) (fun vz wz => vz = .int .i64 (pw Dt) ∧ ∃ vf' cs', DskAt wz p vf' cs' (if Dt.fuse = 0 then Dt.act else Dt.act.del i f) ∧ (Grown w5 wz fun k => k = p) ∧ ∀ k, DskS p vf' cs' k → DskS p vf cs k ∨ w5.heap.size ≤ k) ?_ ?_
   ·refine (drop_is d p i nn vf cs Dt f w5 (K_w1.out.below B5.out K_w1.out.lt) (D1.out.below B5.out) JM.out.out HFd.out HFi.out (by rw [D1.out.fcs.len]; exact JM.out.ok.len) (JM.out.ok.at HFi.out) ⟨JM.out.ok.acts, by have := JM.out.acts; have := HA.out; omega⟩ ⟨by have := JM.out.ok.fuse; omega, JM.out.ok.fuse.2⟩).mono ?_
    rintro e wz ⟨rfl, vf', cs', h1, h2, h3⟩
    exact ⟨_, rfl, rfl, vf', cs', h1, h2, h3⟩
   rintro vz w7 ⟨rfl, vf7, cs7, h1, h2, h3⟩
   have D7 := Keep.mk h1
   have N7 : Keep (∀ k, DskS p vf7 cs7 k → N k ∨ w.heap.size ≤ k) := ⟨fun k hk => by rcases h3 k hk with h | h; exact NS.out k h; exact .inr (by have := B5.out.size; have := GW.out.size; omega)⟩
   have G7 : Keep (Grown w w7 N) := ⟨(GW.out.trans (Grown.below B5.out)).next h2 fun k hk e => by exact (NS.out k (.inl e)).elim id fun h => by omega⟩
   clear h1 h2 h3
   have T_w7 : Keep (Tab w7) := ⟨HT.out.grown G7.out HNn.out.1⟩
   have J_w7 : Keep (Blk w7 g 61 (jA d vp V.pr V.sz la de)) := ⟨G7.out.blk HJ.out HNn.out.2.1⟩
   have K_w7 : Keep (Blk w7 d 75 #[ptr p]) := ⟨G7.out.blk HDk.out HNn.out.2.2.1⟩
   obtain ⟨ee, hee⟩ : ∃ z, Keep (z = pw Dt) := ⟨_, ⟨rfl⟩⟩
   rw [← hee.out]
   refine hK _ _ (J_w7.out.c 0 rfl) fun hH7 => ?_
   clear hK
   simp only [Act.put, pqA, pqB, pqC]
   refine tkS (i := 7) (oi := ⟨some 8, Op.assign (Operand.tmp 29), 24, _, _, none⟩) (v := .int .i64 ee) rfl (Or.inl ⟨by rfl, fun w hS => by go_simp⟩) hH7 ?_
   refine wpAnyH_done (by kernel_rfl) ?_ _
   refine hK9 _ _ ?_
   refine wp_seq_k fun K10 hK10 => ?_
   rcases Decidable.em (Dt.fuse = 0) with hfu | hfu
   ·have he : ee = 7 := by rw [hee.out]; unfold pw; rw [if_pos hfu]
    subst he
    have D8 := D7.out
    rw [if_pos hfu] at D8
    refine rgn ?_
    refine VlS (.int .i64 7) ?_
    refine VlS (.bool true) ?_
    refine WL.nil (hK10 _ _ ?_)
    refine wp_cond_true rfl ?_
    refine wp_seq_k fun K11 hK11 => rgn ?_
    refine VlS (.int .i64 7) ?_
    refine VlS (.int .i64 7) ?_
    refine WL.nil (hK11 _ _ ?_)
    refine wp_ret ?_
    go_ret
    exact ⟨7, _, vf7, cs7, rfl, JM.out.dead hgt hk.out.2.2 ht hfu, D8, N7.out, G7.out⟩
   ·have he : ee = 0 := by rw [hee.out]; unfold pw; rw [if_neg hfu]
    subst he
    have D8 := Keep.mk D7.out
    rw [if_neg hfu] at D8
    have JM8 : Keep (MI D (Dt.act.del i f) ((k : Int) - 1) (t + 1)) := ⟨JM.out.drop hk.out.2.2 HFi.out (by rw [HFn.out, hnn.out]) hfu⟩
    refine rgn ?_
    refine VlS (.int .i64 0) ?_
    refine VlS (.bool false) ?_
    refine WL.nil (hK10 _ _ ?_)
    refine wp_cond_false rfl ?_
    refine wp_skip ?_
    refine hK6 _ _ ?_
    refine rgn ?_
    refine VlS (.int .i64 (k : Int)) ?_
    refine VlS (.int .i64 ((k : Int) - 1)) ?_
    refine VlS (.int .i64 ((k : Int) - 1)) ?_
    refine WL.nil ?_
    refine ⟨⟨t + 1, fun zz => [.pointer (some ⟨g, 0, none⟩), vn, .bool tn, undef, undef, undef, fz 6, .int .i64 ((k : Int) - 1), .int .i64 0, undef, .int .i64 (k : Int), .pointer (some ⟨g, 0, none⟩), .pointer (some ⟨g, 0, none⟩), .pointer (some ⟨g, 2, none⟩), .int .i64 V.pr, .bool true, .int .i64 (k : Int), .int .i64 ((k : Int) - 1), vn, .int .i64 (k : Int), .string nn, .bool bb, .bool false, .pointer (some ⟨g, 0, none⟩), .pointer (some ⟨g, 0, none⟩), .pointer (some ⟨g, 0, none⟩), .pointer (some ⟨d, 0, none⟩), .int .i64 (k : Int), .string nn, .int .i64 0, .int .i64 0, .bool false, fz 32, undef, undef, undef, undef, undef, undef, undef, undef, undef, undef, undef, undef, undef, undef, undef, undef, undef, undef, undef, undef, undef, undef, undef, undef, undef, undef, undef, undef, undef, undef, undef, undef, undef].getD zz undef, vf7, cs7, Dt.act.del i f, ?_, by have := hk.out.1; omega, ?_, ?_⟩, ?_⟩
    ·have e : (255 : Int) - ((t + 1 : Nat) : Int) = (k : Int) - 1 := by have := hk.out.1; omega
     rw [e]; rfl
    ·have := hk.out.1; omega
    ·have e : (255 : Int) - ((t + 1 : Nat) : Int) = (k : Int) - 1 := by have := hk.out.1; omega
     rw [e]
     exact ⟨JM8.out, D8.out, N7.out, G7.out⟩
    ·simp only [intOf]; show ((k : Int) - 1 + 1).toNat < ((k : Int) + 1).toNat; omega
  ·have HNo : Keep (lk D.fs (nmS k) = none) := ⟨by have h := (cont_lk D.fs nn).2 (by rw [← hbb.out]; exact h4_4); rw [hnn.out] at h; exact h⟩
   clear hbb
   refine VlS (.bool true) ?_
   refine WL.nil (hK8 _ _ ?_)
   refine wp_cond_true rfl ?_
   refine wp_exit ?_
   refine hK6 _ _ ?_
   refine rgn ?_
   refine VlS (.int .i64 (k : Int)) ?_
   refine VlS (.int .i64 ((k : Int) - 1)) ?_
   refine VlS (.int .i64 ((k : Int) - 1)) ?_
   refine WL.nil ?_
   refine ⟨⟨t + 1, fun zz => [.pointer (some ⟨g, 0, none⟩), vn, .bool tn, undef, undef, undef, fz 6, .int .i64 ((k : Int) - 1), fz 8, undef, .int .i64 (k : Int), .pointer (some ⟨g, 0, none⟩), .pointer (some ⟨g, 0, none⟩), .pointer (some ⟨g, 2, none⟩), .int .i64 V.pr, .bool true, .int .i64 (k : Int), .int .i64 ((k : Int) - 1), vn, .int .i64 (k : Int), .string nn, .bool bb, .bool true, fz 23, fz 24, fz 25, fz 26, fz 27, fz 28, fz 29, fz 30, fz 31, fz 32, undef, undef, undef, undef, undef, undef, undef, undef, undef, undef, undef, undef, undef, undef, undef, undef, undef, undef, undef, undef, undef, undef, undef, undef, undef, undef, undef, undef, undef, undef, undef, undef, undef].getD zz undef, vf, cs, Dt, ?_, by have := hk.out.1; omega, ?_, ?_⟩, ?_⟩
   ·have e : (255 : Int) - ((t + 1 : Nat) : Int) = (k : Int) - 1 := by have := hk.out.1; omega
    rw [e]; rfl
   ·have := hk.out.1; omega
   ·have e : (255 : Int) - ((t + 1 : Nat) : Int) = (k : Int) - 1 := by have := hk.out.1; omega
    rw [e]
    exact ⟨JM.out.skip HNo.out, D1.out, JS.out, GW.out⟩
   ·simp only [intOf]; show ((k : Int) - 1 + 1).toNat < ((k : Int) + 1).toNat; omega
 ·have hte : Keep (255 - (t : Int) = V.pr) := ⟨by omega⟩
  rw [hte.out]
  rw [hte.out] at JM
  have hgt : ¬ V.pr < V.pr := by omega
  have NS := JS
  have GW := JG
  refine wp_seq_k fun K12 hK12 => ?_
  refine wp_seq_k fun K13 hK13 => rgn ?_
  refine VlS (.int .i64 V.pr) ?_
  refine VlS (.pointer (some ⟨g, 0, none⟩)) ?_
  refine VlS (.pointer (some ⟨g, 0, none⟩)) ?_
  refine VlS (.pointer (some ⟨g, 2, none⟩)) ?_
  refine VlS (.int .i64 V.pr) ?_
  refine VlS (.bool false) ?_
  refine WL.nil (hK13 _ _ ?_)
  refine wp_cond_false rfl ?_
  refine wp_exit ?_
  refine hK2 _ _ ?_
  refine wp_seq_k fun K14 hK14 => ?_
  refine wp_seq_k fun K15 hK15 => ?_
  rcases Bool.eq_false_or_eq_true tn with htt | htt
  ·subst htt
   obtain ⟨k, hk⟩ : ∃ k : Nat, Keep (V.pr = (k : Int) ∧ k < 10000 ∧ k < 256) := by
    have h := openV_at (Fk D.fs)
    rw [← HV.out] at h
    rcases h with ⟨_, h⟩ | ⟨m, b, h1, h2, h3, h4⟩
    ·rw [Htn.out] at h; cases h
    ·exact ⟨m, ⟨h3, by omega, h1⟩⟩
   obtain ⟨m, hm⟩ : ∃ m : Nat, Keep (V.sz = (m : Int)) := by
    have h := openV_at (Fk D.fs)
    rw [← HV.out] at h
    rcases h with ⟨_, h⟩ | ⟨_, b, h1, h2, h3, h4, h5⟩
    ·rw [Htn.out] at h; cases h
    ·exact ⟨_, ⟨h4⟩⟩
   refine rgn ?_
   refine VlS (.bool true) ?_
   refine WL.nil (hK15 _ _ ?_)
   refine wp_cond_true rfl ?_
   refine wp_seq_k fun K16 hK16 => ?_
   have c3 := J_wr.out.c 3 (by rfl : (jA d vp V.pr V.sz la de)[3]? = some (.int .i64 V.sz))
   clear c2 c3
   have D4 : Keep (Below wr.heap.size wr wr.drew) := ⟨(Below.refl _ _).drew⟩
   obtain ⟨f, hf⟩ : ∃ f, lk Dt.fs (nmS k) = some f := by
    have h := openV_at (Fk D.fs)
    rw [← HV.out] at h
    rcases h with ⟨h, _⟩ | ⟨m2, b, h1, h2, h3, h4⟩
    ·have := hk.out; omega
    ·obtain rfl : m2 = k := by have := hk.out; omega
     obtain ⟨f, hf, _⟩ := Option.map_eq_some_iff.1 h2
     exact ⟨f, by rw [JM.out.low m2 h1 (by omega)]; exact hf⟩
   obtain ⟨nn, hnn⟩ : ∃ s, Keep (s = nmS k) := ⟨_, ⟨rfl⟩⟩
   rw [← hnn.out] at hf
   obtain ⟨i, hfi, hfn, hfd⟩ := fnd_is JM.out.ok.srt hf
   have HFi := Keep.mk hfi
   have HFn := Keep.mk hfn
   have HFd := Keep.mk hfd
   clear hf hfi hfn hfd
   have HSx : Keep (∀ wx, Blk wx g 61 (jA d vp V.pr V.sz la de) → wx.cell? ⟨g, 0, none⟩ = some (ptr d) ∧ wx.cell? ⟨g, 2, none⟩ = some (.int .i64 (k : Int)) ∧ wx.cell? ⟨g, 3, none⟩ = some (.int .i64 (m : Int))) := ⟨fun wx h => ⟨h.c 0 rfl, by rw [← hk.out.1]; exact h.c 2 rfl, by rw [← hm.out]; exact h.c 3 rfl⟩⟩
   refine wp_region_held_drew (S := fun wx => wx.cell? ⟨g, 0, none⟩ = some (ptr d) ∧ wx.cell? ⟨g, 2, none⟩ = some (.int .i64 (k : Int)) ∧ wx.cell? ⟨g, 3, none⟩ = some (.int .i64 (m : Int))) (by kernel_rfl) (HSx.out _ J_wr.out.drew) (fun hHeld => ?_)
   have HM2 : Keep (m ≤ f.bs.length) := ⟨by
    have h := openV_at (Fk D.fs)
    rw [← HV.out] at h
    rcases h with ⟨h, _⟩ | ⟨m2, b, h1, h2, h3, h4, h5⟩
    ·have := hk.out; omega
    ·obtain rfl : m2 = k := by have := hk.out; omega
     obtain ⟨f2, hf2, hb2⟩ := Option.map_eq_some_iff.1 h2
     have e1 := lk_at JM.out.ok.srt HFi.out
     rw [HFn.out, hnn.out, JM.out.low m2 h1 (by omega), hf2] at e1
     injection e1 with e1
     have := enB_le b
     have := hm.out
     rw [← e1, hb2]
     omega⟩
   refine tkS (i := 0) (oi := ⟨some 34, Op.move (Operand.tmp 0), 22, _, _, none⟩) (v := .pointer (some ⟨g, 0, none⟩)) rfl (Or.inl ⟨by rfl, fun w hS => by obtain ⟨hS1, hS2, hS3⟩ := hS; go_simp⟩) hHeld ?_
   refine tkS (i := 1) (oi := ⟨some 35, Op.nilCheck (Operand.tmp 34), 0, _, _, none⟩) (v := .pointer (some ⟨g, 0, none⟩)) rfl (Or.inl ⟨by rfl, fun w hS => by obtain ⟨hS1, hS2, hS3⟩ := hS; go_simp⟩) hHeld ?_
   refine tkS (i := 2) (oi := ⟨some 36, Op.fieldAddr 61 (Operand.tmp 35) 0, 0, _, _, none⟩) (v := .pointer (some ⟨g, 0, none⟩)) rfl (Or.inl ⟨by rfl, fun w hS => by obtain ⟨hS1, hS2, hS3⟩ := hS; go_simp⟩) hHeld ?_
   refine tkS (i := 3) (oi := ⟨some 37, Op.load 30 (Operand.tmp 36), 30, _, _, none⟩) (v := .pointer (some ⟨d, 0, none⟩)) rfl (Or.inl ⟨by rfl, fun w hS => by obtain ⟨hS1, hS2, hS3⟩ := hS; go_simp⟩) hHeld ?_
   refine tkS (i := 4) (oi := ⟨some 38, Op.move (Operand.tmp 0), 22, _, _, none⟩) (v := .pointer (some ⟨g, 0, none⟩)) rfl (Or.inl ⟨by rfl, fun w hS => by obtain ⟨hS1, hS2, hS3⟩ := hS; go_simp⟩) hHeld ?_
   refine tkS (i := 5) (oi := ⟨some 39, Op.nilCheck (Operand.tmp 38), 0, _, _, none⟩) (v := .pointer (some ⟨g, 0, none⟩)) rfl (Or.inl ⟨by rfl, fun w hS => by obtain ⟨hS1, hS2, hS3⟩ := hS; go_simp⟩) hHeld ?_
   refine tkS (i := 6) (oi := ⟨some 40, Op.fieldAddr 61 (Operand.tmp 39) 2, 0, _, _, none⟩) (v := .pointer (some ⟨g, 2, none⟩)) rfl (Or.inl ⟨by rfl, fun w hS => by obtain ⟨hS1, hS2, hS3⟩ := hS; go_simp⟩) hHeld ?_
   refine tkS (i := 7) (oi := ⟨some 41, Op.load 3 (Operand.tmp 40), 3, _, _, none⟩) (v := .int .i64 (k : Int)) rfl (Or.inl ⟨by rfl, fun w hS => by obtain ⟨hS1, hS2, hS3⟩ := hS; go_simp⟩) hHeld ?_
   refine tkS (i := 9) (oi := ⟨some 43, Op.move (Operand.tmp 0), 22, _, _, none⟩) (v := .pointer (some ⟨g, 0, none⟩)) rfl (Or.inl ⟨by rfl, fun w hS => by obtain ⟨hS1, hS2, hS3⟩ := hS; go_simp⟩) hHeld ?_
   refine tkS (i := 10) (oi := ⟨some 44, Op.nilCheck (Operand.tmp 43), 0, _, _, none⟩) (v := .pointer (some ⟨g, 0, none⟩)) rfl (Or.inl ⟨by rfl, fun w hS => by obtain ⟨hS1, hS2, hS3⟩ := hS; go_simp⟩) hHeld ?_
   refine tkS (i := 11) (oi := ⟨some 45, Op.fieldAddr 61 (Operand.tmp 44) 3, 0, _, _, none⟩) (v := .pointer (some ⟨g, 3, none⟩)) rfl (Or.inl ⟨by rfl, fun w hS => by obtain ⟨hS1, hS2, hS3⟩ := hS; go_simp⟩) hHeld ?_
   refine tkS (i := 12) (oi := ⟨some 46, Op.load 3 (Operand.tmp 45), 3, _, _, none⟩) (v := .int .i64 (m : Int)) rfl (Or.inl ⟨by rfl, fun w hS => by obtain ⟨hS1, hS2, hS3⟩ := hS; go_simp⟩) hHeld ?_
   refine wpAnyH_ready (rs := [8]) (by kernel_rfl) (by simp) ?_
   refine AllReadyH.cons (o := ⟨some 42, Op.call { callee := Callee.value (Operand.func 31), args := #[Operand.tmp 41], argTypes := #[3] }, 9, _, _, none⟩) rfl (fun K hK => ?_) AllReadyH.nil
   rw [if_pos (by rfl)]
   refine wp_callF 31 _ _ rfl Tryd.in31 #[.int .i64 (k : Int)] (by simp [Act.eval]) (fun vz wz => vz = .string (nmS k) ∧ Below wr.heap.size wr wz) ?_ ?_
   ·refine (name_any k hk.out.2.1 wr.drew (T_wr.out.below D4.out (Nat.lt_of_le_of_lt (Nat.zero_le _) J_wr.out.lt))).mono ?_
    rintro e wz ⟨rfl, h⟩
    exact ⟨_, rfl, rfl, D4.out.trans (h.mono D4.out.size)⟩
   rintro vz w5 ⟨rfl, h5⟩
   have B5 := Keep.mk h5
   clear h5
   rw [← hnn.out]
   refine hK _ _ (HSx.out _ (J_wr.out.below B5.out J_wr.out.lt)) fun hH5 => ?_
   clear hK
   simp only [Act.put, pqA, pqB, pqC]
   refine wpAnyH_ready (rs := [13]) (by kernel_rfl) (by simp) ?_
   refine AllReadyH.cons (o := ⟨some 47, Op.call { callee := Callee.value (Operand.func 32), args := #[Operand.tmp 37, Operand.tmp 42, Operand.tmp 46], argTypes := #[30, 9, 3] }, 24, _, _, none⟩) rfl (fun K hK => ?_) AllReadyH.nil
   rw [if_pos (by rfl)]
   refine wp_callF 32 _ _ rfl Tryd.in32 #[ptr d, .string nn, .int .i64 (m : Int)] (by simp [Act.eval]) (fun vz wz => vz = .int .i64 (pw Dt) ∧ ∃ vf' cs', DskAt wz p vf' cs' (if Dt.fuse = 0 then Dt.act else Dt.act.cut i f m) ∧ (Grown w5 wz fun k => k = p ∨ vf.ownBlock = some k) ∧ ∀ k, DskS p vf' cs' k → DskS p vf cs k ∨ w5.heap.size ≤ k) ?_ ?_
   ·refine (cut_is d p i m nn vf cs Dt f w5 (K_wr.out.below B5.out K_wr.out.lt) (JD.out.below B5.out) JM.out.out HFd.out HFi.out (by rw [JD.out.fcs.len]; exact JM.out.ok.len) HM2.out (JM.out.ok.at HFi.out) ⟨JM.out.ok.acts, by have := JM.out.acts; have := HA.out; omega⟩ ⟨by have := JM.out.ok.fuse; omega, JM.out.ok.fuse.2⟩).mono ?_
    rintro e wz ⟨rfl, vf', cs', h1, h2, h3⟩
    exact ⟨_, rfl, rfl, vf', cs', h1, h2, h3⟩
   rintro vz w7 ⟨rfl, vf7, cs7, h1, h2, h3⟩
   have D7 := Keep.mk h1
   have N7 : Keep (∀ k, DskS p vf7 cs7 k → N k ∨ w.heap.size ≤ k) := ⟨fun k hk => by rcases h3 k hk with h | h; exact NS.out k h; exact .inr (by have := B5.out.size; have := GW.out.size; omega)⟩
   have G7 : Keep (Grown w w7 N) := ⟨(GW.out.trans (Grown.below B5.out)).next h2 fun k hk e => by rcases e with e | e; exact (NS.out k (.inl e)).elim id (fun h => by omega); exact (NS.out k (.inr (.inl e))).elim id (fun h => by omega)⟩
   clear h1 h2 h3
   have T_w7 : Keep (Tab w7) := ⟨HT.out.grown G7.out HNn.out.1⟩
   have J_w7 : Keep (Blk w7 g 61 (jA d vp V.pr V.sz la de)) := ⟨G7.out.blk HJ.out HNn.out.2.1⟩
   have K_w7 : Keep (Blk w7 d 75 #[ptr p]) := ⟨G7.out.blk HDk.out HNn.out.2.2.1⟩
   obtain ⟨ee, hee⟩ : ∃ z, Keep (z = pw Dt) := ⟨_, ⟨rfl⟩⟩
   rw [← hee.out]
   refine hK _ _ (HSx.out _ J_w7.out) fun hH7 => ?_
   clear hK
   simp only [Act.put, pqA, pqB, pqC]
   refine tkS (i := 14) (oi := ⟨some 9, Op.assign (Operand.tmp 47), 24, _, _, none⟩) (v := .int .i64 ee) rfl (Or.inl ⟨by rfl, fun w hS => by obtain ⟨hS1, hS2, hS3⟩ := hS; go_simp⟩) hH7 ?_
   refine wpAnyH_done (by kernel_rfl) ?_ _
   refine hK16 _ _ ?_
   refine wp_seq_k fun K17 hK17 => ?_
   rcases Decidable.em (Dt.fuse = 0) with hfu | hfu
   ·have he : ee = 7 := by rw [hee.out]; unfold pw; rw [if_pos hfu]
    subst he
    have D8 := D7.out
    rw [if_pos hfu] at D8
    refine rgn ?_
    refine VlS (.int .i64 7) ?_
    refine VlS (.bool true) ?_
    refine WL.nil (hK17 _ _ ?_)
    refine wp_cond_true rfl ?_
    refine wp_seq_k fun K18 hK18 => rgn ?_
    refine VlS (.int .i64 7) ?_
    refine VlS (.int .i64 7) ?_
    refine WL.nil (hK18 _ _ ?_)
    refine wp_ret ?_
    go_ret
    refine ⟨7, _, vf7, cs7, rfl, ?_, D8, N7.out, G7.out⟩
    have h := hk.out.1
    rw [HV.out] at h ⊢
    have hm := JM.out
    rw [HV.out, h] at hm
    exact hm.cutDead h hk.out.2.2 ht hfu
   ·have he : ee = 0 := by rw [hee.out]; unfold pw; rw [if_neg hfu]
    subst he
    have D8 := Keep.mk D7.out
    rw [if_neg hfu] at D8
    have JC : Keep (MC D (Dt.act.cut i f m) k V (t + 1)) := ⟨by
     have h := hk.out.1
     have h2 := Htn.out
     have h3 := hm.out
     have hj := JM.out
     rw [HV.out] at h h2 h3 hj
     rw [h] at hj
     have h4 := (hj.cut hk.out.2.2 h h2 HFi.out (by rw [HFn.out, hnn.out]) hfu).1
     rw [h3, Int.toNat_natCast, ← HV.out] at h4
     exact h4⟩
    have ht2 : t + 1 ≤ 257 := by omega
    have c2 := J_w7.out.c 2 (by rfl : (jA d vp V.pr V.sz la de)[2]? = some (.int .i64 V.pr))
    have GW := G7
    have NS := N7
    clear D4 B5 HSx HFi HFn HFd hnn hee HM2 D7 G7 N7
    obtain ⟨D2, hD2⟩ : ∃ z, Keep (z = Dt.act.cut i f m) := ⟨_, ⟨rfl⟩⟩
    rw [← hD2.out] at D8 JC
    refine rgn ?_
    refine VlS (.int .i64 0) ?_
    refine VlS (.bool false) ?_
    refine WL.nil (hK17 _ _ ?_)
    refine wp_cond_false rfl ?_
    refine wp_skip ?_
    refine hK14 _ _ ?_
    refine wp_seq_k fun K19 hK19 => ?_
    refine wp_seq_k fun K20 hK20 => ?_
    rw [hk.out.1] at c2
    have hn1 : ¬ ((k : Nat) : Int) = -1 := by omega
    refine rgn ?_
    refine VlS (.pointer (some ⟨g, 0, none⟩)) ?_
    refine VlS (.pointer (some ⟨g, 0, none⟩)) ?_
    refine VlS (.pointer (some ⟨g, 2, none⟩)) ?_
    refine VlS (.int .i64 (k : Int)) ?_
    refine VlS (.bool false) ?_
    refine WL.nil (hK20 _ _ ?_)
    refine wp_cond_false rfl ?_
    refine wp_skip ?_
    refine hK19 _ _ ?_
    refine wp_seq_k fun K21 hK21 => ?_
    clear c2
    have D4 : Keep (Below w7.heap.size w7 w7.drew) := ⟨(Below.refl _ _).drew⟩
    obtain ⟨f, hf⟩ : ∃ f, lk D2.fs (nmS k) = some f := by obtain ⟨f, g, _, h, _⟩ := JC.out.at'; exact ⟨f, h⟩
    obtain ⟨nn, hnn⟩ : ∃ s, Keep (s = nmS k) := ⟨_, ⟨rfl⟩⟩
    rw [← hnn.out] at hf
    obtain ⟨i, hfi, hfn, hfd⟩ := fnd_is JC.out.ok.srt hf
    have HFi := Keep.mk hfi
    have HFn := Keep.mk hfn
    have HFd := Keep.mk hfd
    clear hf hfi hfn hfd
    have HSx : Keep (∀ wx, Blk wx g 61 (jA d vp V.pr V.sz la de) → wx.cell? ⟨g, 0, none⟩ = some (ptr d) ∧ wx.cell? ⟨g, 2, none⟩ = some (.int .i64 (k : Int))) := ⟨fun wx h => ⟨h.c 0 rfl, by rw [← hk.out.1]; exact h.c 2 rfl⟩⟩
    refine wp_region_held_drew (S := fun wx => wx.cell? ⟨g, 0, none⟩ = some (ptr d) ∧ wx.cell? ⟨g, 2, none⟩ = some (.int .i64 (k : Int))) (by kernel_rfl) (HSx.out _ J_w7.out.drew) (fun hHeld => ?_)
    refine tkS (i := 0) (oi := ⟨some 56, Op.move (Operand.tmp 0), 22, _, _, none⟩) (v := .pointer (some ⟨g, 0, none⟩)) rfl (Or.inl ⟨by rfl, fun w hS => by obtain ⟨hS1, hS2⟩ := hS; go_simp⟩) hHeld ?_
    refine tkS (i := 1) (oi := ⟨some 57, Op.nilCheck (Operand.tmp 56), 0, _, _, none⟩) (v := .pointer (some ⟨g, 0, none⟩)) rfl (Or.inl ⟨by rfl, fun w hS => by obtain ⟨hS1, hS2⟩ := hS; go_simp⟩) hHeld ?_
    refine tkS (i := 2) (oi := ⟨some 58, Op.fieldAddr 61 (Operand.tmp 57) 0, 0, _, _, none⟩) (v := .pointer (some ⟨g, 0, none⟩)) rfl (Or.inl ⟨by rfl, fun w hS => by obtain ⟨hS1, hS2⟩ := hS; go_simp⟩) hHeld ?_
    refine tkS (i := 3) (oi := ⟨some 59, Op.load 30 (Operand.tmp 58), 30, _, _, none⟩) (v := .pointer (some ⟨d, 0, none⟩)) rfl (Or.inl ⟨by rfl, fun w hS => by obtain ⟨hS1, hS2⟩ := hS; go_simp⟩) hHeld ?_
    refine tkS (i := 4) (oi := ⟨some 60, Op.move (Operand.tmp 0), 22, _, _, none⟩) (v := .pointer (some ⟨g, 0, none⟩)) rfl (Or.inl ⟨by rfl, fun w hS => by obtain ⟨hS1, hS2⟩ := hS; go_simp⟩) hHeld ?_
    refine tkS (i := 5) (oi := ⟨some 61, Op.nilCheck (Operand.tmp 60), 0, _, _, none⟩) (v := .pointer (some ⟨g, 0, none⟩)) rfl (Or.inl ⟨by rfl, fun w hS => by obtain ⟨hS1, hS2⟩ := hS; go_simp⟩) hHeld ?_
    refine tkS (i := 6) (oi := ⟨some 62, Op.fieldAddr 61 (Operand.tmp 61) 2, 0, _, _, none⟩) (v := .pointer (some ⟨g, 2, none⟩)) rfl (Or.inl ⟨by rfl, fun w hS => by obtain ⟨hS1, hS2⟩ := hS; go_simp⟩) hHeld ?_
    refine tkS (i := 7) (oi := ⟨some 63, Op.load 3 (Operand.tmp 62), 3, _, _, none⟩) (v := .int .i64 (k : Int)) rfl (Or.inl ⟨by rfl, fun w hS => by obtain ⟨hS1, hS2⟩ := hS; go_simp⟩) hHeld ?_
    refine wpAnyH_ready (rs := [8]) (by kernel_rfl) (by simp) ?_
    refine AllReadyH.cons (o := ⟨some 64, Op.call { callee := Callee.value (Operand.func 31), args := #[Operand.tmp 63], argTypes := #[3] }, 9, _, _, none⟩) rfl (fun K hK => ?_) AllReadyH.nil
    rw [if_pos (by rfl)]
    refine wp_callF 31 _ _ rfl Tryd.in31 #[.int .i64 (k : Int)] (by simp [Act.eval]) (fun vz wz => vz = .string (nmS k) ∧ Below w7.heap.size w7 wz) ?_ ?_
    ·refine (name_any k hk.out.2.1 w7.drew (T_w7.out.below D4.out (Nat.lt_of_le_of_lt (Nat.zero_le _) J_w7.out.lt))).mono ?_
     rintro e wz ⟨rfl, h⟩
     exact ⟨_, rfl, rfl, D4.out.trans (h.mono D4.out.size)⟩
    rintro vz w5 ⟨rfl, h5⟩
    have B5 := Keep.mk h5
    clear h5
    rw [← hnn.out]
    refine hK _ _ (HSx.out _ (J_w7.out.below B5.out J_w7.out.lt)) fun hH5 => ?_
    clear hK
    simp only [Act.put, pqA, pqB, pqC]
    refine wpAnyH_ready (rs := [9]) (by kernel_rfl) (by simp) ?_
    refine AllReadyH.cons (o := ⟨some 65, Op.call { callee := Callee.value (Operand.func 43), args := #[Operand.tmp 59, Operand.tmp 64], argTypes := #[30, 9] }, 24, _, _, none⟩) rfl (fun K hK => ?_) AllReadyH.nil
    rw [if_pos (by rfl)]
    refine wp_callF 43 _ _ rfl Tryd.in43 #[ptr d, .string nn] (by simp [Act.eval]) (fun vz wz => vz = .int .i64 (pw D2) ∧ ∃ vf' cs', DskAt wz p vf' cs' (if D2.fuse = 0 then D2.act else D2.act.sync i) ∧ (Grown w5 wz fun k => k = p ∨ vf7.ownBlock = some k) ∧ ∀ k, DskS p vf' cs' k → DskS p vf7 cs7 k ∨ w5.heap.size ≤ k) ?_ ?_
    ·refine (syn_is d p i nn vf7 cs7 D2 w5 (K_w7.out.below B5.out K_w7.out.lt) (D8.out.below B5.out) JC.out.out HFd.out (by rw [D8.out.fcs.len]; exact JC.out.ok.len) ⟨JC.out.ok.acts, by have := JC.out.acts; have := HA.out; omega⟩ ⟨by have := JC.out.ok.fuse; omega, JC.out.ok.fuse.2⟩).mono ?_
     rintro e wz ⟨rfl, cs', h1, h2, h3⟩
     exact ⟨_, rfl, rfl, vf7, cs', h1, h2, fun k hk => .inl (h3 k hk)⟩
    rintro vz w9 ⟨rfl, vf9, cs9, h1, h2, h3⟩
    have D9 := Keep.mk h1
    have N9 : Keep (∀ k, DskS p vf9 cs9 k → N k ∨ w.heap.size ≤ k) := ⟨fun k hk => by rcases h3 k hk with h | h; exact NS.out k h; exact .inr (by have := B5.out.size; have := GW.out.size; omega)⟩
    have G9 : Keep (Grown w w9 N) := ⟨(GW.out.trans (Grown.below B5.out)).next h2 fun k hk e => by rcases e with e | e; exact (NS.out k (.inl e)).elim id (fun h => by omega); exact (NS.out k (.inr (.inl e))).elim id (fun h => by omega)⟩
    clear h1 h2 h3
    have T_w9 : Keep (Tab w9) := ⟨HT.out.grown G9.out HNn.out.1⟩
    have J_w9 : Keep (Blk w9 g 61 (jA d vp V.pr V.sz la de)) := ⟨G9.out.blk HJ.out HNn.out.2.1⟩
    have K_w9 : Keep (Blk w9 d 75 #[ptr p]) := ⟨G9.out.blk HDk.out HNn.out.2.2.1⟩
    obtain ⟨ee, hee⟩ : ∃ z, Keep (z = pw D2) := ⟨_, ⟨rfl⟩⟩
    rw [← hee.out]
    refine hK _ _ (HSx.out _ J_w9.out) fun hH7 => ?_
    clear hK
    simp only [Act.put, pqA, pqB, pqC]
    refine tkS (i := 10) (oi := ⟨some 6, Op.assign (Operand.tmp 65), 24, _, _, none⟩) (v := .int .i64 ee) rfl (Or.inl ⟨by rfl, fun w hS => by obtain ⟨hS1, hS2⟩ := hS; go_simp⟩) hH7 ?_
    refine wpAnyH_done (by kernel_rfl) ?_ _
    refine hK21 _ _ ?_
    refine wp_ret ?_
    go_ret
    rcases Decidable.em (D2.fuse = 0) with hfu | hfu
    ·have he : ee = 7 := by rw [hee.out]; unfold pw; rw [if_pos hfu]
     subst he
     have D8 := D9.out
     rw [if_pos hfu] at D8
     exact ⟨7, _, vf9, cs9, rfl, JC.out.dead hk.out.1 hk.out.2.2 ht2 hfu, D8, N9.out, G9.out⟩
    ·have he : ee = 0 := by rw [hee.out]; unfold pw; rw [if_neg hfu]
     subst he
     have D8 := D9.out
     rw [if_neg hfu] at D8
     exact ⟨0, _, vf9, cs9, rfl, JC.out.done hk.out.1 hk.out.2.2 ht2 HFi.out (by rw [HFn.out, hnn.out]) hfu, D8, N9.out, G9.out⟩
  ·subst htt
   refine rgn ?_
   refine VlS (.bool false) ?_
   refine WL.nil (hK15 _ _ ?_)
   refine wp_cond_false rfl ?_
   refine wp_skip ?_
   refine hK14 _ _ ?_
   refine wp_seq_k fun K22 hK22 => ?_
   refine wp_seq_k fun K23 hK23 => ?_
   by_cases hn1 : V.pr = -1
   ·refine rgn ?_
    refine VlS (.pointer (some ⟨g, 0, none⟩)) ?_
    refine VlS (.pointer (some ⟨g, 0, none⟩)) ?_
    refine VlS (.pointer (some ⟨g, 2, none⟩)) ?_
    refine VlS (.int .i64 V.pr) ?_
    refine VlS (.bool true) ?_
    refine WL.nil (hK23 _ _ ?_)
    refine wp_cond_true rfl ?_
    refine wp_seq_k fun K24 hK24 => rgn ?_
    refine VlS (.int .i64 0) ?_
    refine WL.nil (hK24 _ _ ?_)
    refine wp_ret ?_
    go_ret
    refine ⟨0, Dt, vf, cs, rfl, ?_, JD.out, JS.out, JG.out⟩
    have hj := JM.out
    rw [hn1] at hj
    refine hj.none hn1 ht ?_
    have h := openV_none (F := Fk D.fs) (by rw [← HV.out]; exact hn1)
    cases hl : lk D.fs (nmS 0) with
    | none => rfl
    | some f => unfold Fk at h; rw [hl] at h; cases h
   ·obtain ⟨k, hk⟩ : ∃ k : Nat, Keep (V.pr = (k : Int) ∧ k < 10000 ∧ k < 256) := by
     have h := openV_at (Fk D.fs)
     rw [← HV.out] at h
     rcases h with ⟨h, _⟩ | ⟨m, b, h1, h2, h3, h4⟩
     ·exact absurd h hn1
     ·exact ⟨m, ⟨h3, by omega, h1⟩⟩
    have JC : Keep (MC D Dt k V t) := ⟨by
     have h := hk.out.1
     have h2 := Htn.out
     have hj := JM.out
     rw [HV.out] at h h2 hj
     rw [h] at hj
     rw [HV.out]
     exact hj.noCut hk.out.2.2 h h2⟩
    have ht2 : t ≤ 257 := by omega
    refine rgn ?_
    refine VlS (.pointer (some ⟨g, 0, none⟩)) ?_
    refine VlS (.pointer (some ⟨g, 0, none⟩)) ?_
    refine VlS (.pointer (some ⟨g, 2, none⟩)) ?_
    refine VlS (.int .i64 V.pr) ?_
    refine VlS (.bool false) ?_
    refine WL.nil (hK23 _ _ ?_)
    refine wp_cond_false rfl ?_
    refine wp_skip ?_
    refine hK22 _ _ ?_
    refine wp_seq_k fun K25 hK25 => ?_
    clear c2
    have D4 : Keep (Below wr.heap.size wr wr.drew) := ⟨(Below.refl _ _).drew⟩
    obtain ⟨f, hf⟩ : ∃ f, lk Dt.fs (nmS k) = some f := by obtain ⟨f, g, _, h, _⟩ := JC.out.at'; exact ⟨f, h⟩
    obtain ⟨nn, hnn⟩ : ∃ s, Keep (s = nmS k) := ⟨_, ⟨rfl⟩⟩
    rw [← hnn.out] at hf
    obtain ⟨i, hfi, hfn, hfd⟩ := fnd_is JC.out.ok.srt hf
    have HFi := Keep.mk hfi
    have HFn := Keep.mk hfn
    have HFd := Keep.mk hfd
    clear hf hfi hfn hfd
    have HSx : Keep (∀ wx, Blk wx g 61 (jA d vp V.pr V.sz la de) → wx.cell? ⟨g, 0, none⟩ = some (ptr d) ∧ wx.cell? ⟨g, 2, none⟩ = some (.int .i64 (k : Int))) := ⟨fun wx h => ⟨h.c 0 rfl, by rw [← hk.out.1]; exact h.c 2 rfl⟩⟩
    refine wp_region_held_drew (S := fun wx => wx.cell? ⟨g, 0, none⟩ = some (ptr d) ∧ wx.cell? ⟨g, 2, none⟩ = some (.int .i64 (k : Int))) (by kernel_rfl) (HSx.out _ J_wr.out.drew) (fun hHeld => ?_)
    refine tkS (i := 0) (oi := ⟨some 56, Op.move (Operand.tmp 0), 22, _, _, none⟩) (v := .pointer (some ⟨g, 0, none⟩)) rfl (Or.inl ⟨by rfl, fun w hS => by obtain ⟨hS1, hS2⟩ := hS; go_simp⟩) hHeld ?_
    refine tkS (i := 1) (oi := ⟨some 57, Op.nilCheck (Operand.tmp 56), 0, _, _, none⟩) (v := .pointer (some ⟨g, 0, none⟩)) rfl (Or.inl ⟨by rfl, fun w hS => by obtain ⟨hS1, hS2⟩ := hS; go_simp⟩) hHeld ?_
    refine tkS (i := 2) (oi := ⟨some 58, Op.fieldAddr 61 (Operand.tmp 57) 0, 0, _, _, none⟩) (v := .pointer (some ⟨g, 0, none⟩)) rfl (Or.inl ⟨by rfl, fun w hS => by obtain ⟨hS1, hS2⟩ := hS; go_simp⟩) hHeld ?_
    refine tkS (i := 3) (oi := ⟨some 59, Op.load 30 (Operand.tmp 58), 30, _, _, none⟩) (v := .pointer (some ⟨d, 0, none⟩)) rfl (Or.inl ⟨by rfl, fun w hS => by obtain ⟨hS1, hS2⟩ := hS; go_simp⟩) hHeld ?_
    refine tkS (i := 4) (oi := ⟨some 60, Op.move (Operand.tmp 0), 22, _, _, none⟩) (v := .pointer (some ⟨g, 0, none⟩)) rfl (Or.inl ⟨by rfl, fun w hS => by obtain ⟨hS1, hS2⟩ := hS; go_simp⟩) hHeld ?_
    refine tkS (i := 5) (oi := ⟨some 61, Op.nilCheck (Operand.tmp 60), 0, _, _, none⟩) (v := .pointer (some ⟨g, 0, none⟩)) rfl (Or.inl ⟨by rfl, fun w hS => by obtain ⟨hS1, hS2⟩ := hS; go_simp⟩) hHeld ?_
    refine tkS (i := 6) (oi := ⟨some 62, Op.fieldAddr 61 (Operand.tmp 61) 2, 0, _, _, none⟩) (v := .pointer (some ⟨g, 2, none⟩)) rfl (Or.inl ⟨by rfl, fun w hS => by obtain ⟨hS1, hS2⟩ := hS; go_simp⟩) hHeld ?_
    refine tkS (i := 7) (oi := ⟨some 63, Op.load 3 (Operand.tmp 62), 3, _, _, none⟩) (v := .int .i64 (k : Int)) rfl (Or.inl ⟨by rfl, fun w hS => by obtain ⟨hS1, hS2⟩ := hS; go_simp⟩) hHeld ?_
    refine wpAnyH_ready (rs := [8]) (by kernel_rfl) (by simp) ?_
    refine AllReadyH.cons (o := ⟨some 64, Op.call { callee := Callee.value (Operand.func 31), args := #[Operand.tmp 63], argTypes := #[3] }, 9, _, _, none⟩) rfl (fun K hK => ?_) AllReadyH.nil
    rw [if_pos (by rfl)]
    refine wp_callF 31 _ _ rfl Tryd.in31 #[.int .i64 (k : Int)] (by simp [Act.eval]) (fun vz wz => vz = .string (nmS k) ∧ Below wr.heap.size wr wz) ?_ ?_
    ·refine (name_any k hk.out.2.1 wr.drew (T_wr.out.below D4.out (Nat.lt_of_le_of_lt (Nat.zero_le _) J_wr.out.lt))).mono ?_
     rintro e wz ⟨rfl, h⟩
     exact ⟨_, rfl, rfl, D4.out.trans (h.mono D4.out.size)⟩
    rintro vz w5 ⟨rfl, h5⟩
    have B5 := Keep.mk h5
    clear h5
    rw [← hnn.out]
    refine hK _ _ (HSx.out _ (J_wr.out.below B5.out J_wr.out.lt)) fun hH5 => ?_
    clear hK
    simp only [Act.put, pqA, pqB, pqC]
    refine wpAnyH_ready (rs := [9]) (by kernel_rfl) (by simp) ?_
    refine AllReadyH.cons (o := ⟨some 65, Op.call { callee := Callee.value (Operand.func 43), args := #[Operand.tmp 59, Operand.tmp 64], argTypes := #[30, 9] }, 24, _, _, none⟩) rfl (fun K hK => ?_) AllReadyH.nil
    rw [if_pos (by rfl)]
    refine wp_callF 43 _ _ rfl Tryd.in43 #[ptr d, .string nn] (by simp [Act.eval]) (fun vz wz => vz = .int .i64 (pw Dt) ∧ ∃ vf' cs', DskAt wz p vf' cs' (if Dt.fuse = 0 then Dt.act else Dt.act.sync i) ∧ (Grown w5 wz fun k => k = p ∨ vf.ownBlock = some k) ∧ ∀ k, DskS p vf' cs' k → DskS p vf cs k ∨ w5.heap.size ≤ k) ?_ ?_
    ·refine (syn_is d p i nn vf cs Dt w5 (K_wr.out.below B5.out K_wr.out.lt) (JD.out.below B5.out) JC.out.out HFd.out (by rw [JD.out.fcs.len]; exact JC.out.ok.len) ⟨JC.out.ok.acts, by have := JC.out.acts; have := HA.out; omega⟩ ⟨by have := JC.out.ok.fuse; omega, JC.out.ok.fuse.2⟩).mono ?_
     rintro e wz ⟨rfl, cs', h1, h2, h3⟩
     exact ⟨_, rfl, rfl, vf, cs', h1, h2, fun k hk => .inl (h3 k hk)⟩
    rintro vz w7 ⟨rfl, vf9, cs9, h1, h2, h3⟩
    have D9 := Keep.mk h1
    have N9 : Keep (∀ k, DskS p vf9 cs9 k → N k ∨ w.heap.size ≤ k) := ⟨fun k hk => by rcases h3 k hk with h | h; exact NS.out k h; exact .inr (by have := B5.out.size; have := GW.out.size; omega)⟩
    have G9 : Keep (Grown w w7 N) := ⟨(GW.out.trans (Grown.below B5.out)).next h2 fun k hk e => by rcases e with e | e; exact (NS.out k (.inl e)).elim id (fun h => by omega); exact (NS.out k (.inr (.inl e))).elim id (fun h => by omega)⟩
    clear h1 h2 h3
    have T_w7 : Keep (Tab w7) := ⟨HT.out.grown G9.out HNn.out.1⟩
    have J_w7 : Keep (Blk w7 g 61 (jA d vp V.pr V.sz la de)) := ⟨G9.out.blk HJ.out HNn.out.2.1⟩
    have K_w7 : Keep (Blk w7 d 75 #[ptr p]) := ⟨G9.out.blk HDk.out HNn.out.2.2.1⟩
    obtain ⟨ee, hee⟩ : ∃ z, Keep (z = pw Dt) := ⟨_, ⟨rfl⟩⟩
    rw [← hee.out]
    refine hK _ _ (HSx.out _ J_w7.out) fun hH7 => ?_
    clear hK
    simp only [Act.put, pqA, pqB, pqC]
    refine tkS (i := 10) (oi := ⟨some 6, Op.assign (Operand.tmp 65), 24, _, _, none⟩) (v := .int .i64 ee) rfl (Or.inl ⟨by rfl, fun w hS => by obtain ⟨hS1, hS2⟩ := hS; go_simp⟩) hH7 ?_
    refine wpAnyH_done (by kernel_rfl) ?_ _
    refine hK25 _ _ ?_
    refine wp_ret ?_
    go_ret
    rcases Decidable.em (Dt.fuse = 0) with hfu | hfu
    ·have he : ee = 7 := by rw [hee.out]; unfold pw; rw [if_pos hfu]
     subst he
     have D8 := D9.out
     rw [if_pos hfu] at D8
     exact ⟨7, _, vf9, cs9, rfl, JC.out.dead hk.out.1 hk.out.2.2 ht2 hfu, D8, N9.out, G9.out⟩
    ·have he : ee = 0 := by rw [hee.out]; unfold pw; rw [if_neg hfu]
     subst he
     have D8 := D9.out
     rw [if_neg hfu] at D8
     exact ⟨0, _, vf9, cs9, rfl, JC.out.done hk.out.1 hk.out.2.2 ht2 HFi.out (by rw [HFn.out, hnn.out]) hfu, D8, N9.out, G9.out⟩
set_option maxRecDepth 8000 in
set_option maxHeartbeats 2000000 in
theorem begun_at (v : Value) (l : List Int) (w : World) (hr : RowAt w v l) (hL : 16 ≤ l.length) (hB : Byts l) (hC : 1 ≤ (leN l 4).toNat ∧ (leN l 4).toNat ≤ 1048576 ∧ (leN l 4).toNat ≤ l.length - 16) (hE : eq16 (hdF ((l.drop 16).take (leN l 4).toNat)) (fun i => l.getD i 0) = true) : Calls Tryd.prog 41 #[v] w fun e w' => ∃ v', e = .returned v' ∧ (∀ wx, RowAt wx v l → RowAt wx v' ((l.drop 16).take (leN l 4).toNat)) ∧ Below w.heap.size w w' := by
 obtain ⟨va, vc, rfl⟩ := row_form hr
 have HR := Keep.mk hr
 have HL := Keep.mk hL
 have HB := Keep.mk hB
 have HC := Keep.mk hC
 have HE := Keep.mk hE
 clear hr hL hB hC hE
 go_enter Tryd.func41, Tryd.ntmps41
 have h16 : ¬ (l.length : Int) < 16 := by have := HL.out; omega
 obtain ⟨gb, go, hva, hcell⟩ : ∃ gb go, va = some ⟨gb, go, none⟩ ∧ Keep (∀ i, i < l.length → w.cell? ⟨gb, go + i, none⟩ = some (.int .u8 (l.getD i 0))) := by
  rcases HR.out with ⟨_, h⟩ | ⟨_, _, _, h⟩ | ⟨b, off, cap, e, _, h⟩
  ·have := HL.out; rw [h] at this; simp at this
  ·have := HL.out; rw [h] at this; simp at this
  ·injection e with e1; exact ⟨b, off, e1, ⟨h⟩⟩
 subst hva
 refine wp_seq_k fun K1 hK1 => rgn ?_
 refine VlS (.slice none 0 0) ?_
 refine WL.nil (hK1 _ _ ?_)
 refine wp_seq_k fun K2 hK2 => ?_
 refine wp_seq_k fun K3 hK3 => rgn ?_
 refine VlS (.slice (some ⟨gb, go, none⟩) l.length vc) ?_
 refine VlS (.int .i64 (l.length : Int)) ?_
 refine VlS (.bool false) ?_
 refine WL.nil (hK3 _ _ ?_)
 refine wp_cond_false rfl ?_
 refine wp_skip ?_
 refine hK2 _ _ ?_
 refine wp_seq_k fun K4 hK4 => rgn ?_
 refine VlS (.int .u32 0) ?_
 refine WL.nil (hK4 _ _ ?_)
 refine wp_seq_k fun K5 hK5 => ?_
 refine wp_seq_k fun K6 hK6 => rgn ?_
 refine VlS (.int .i64 0) ?_
 refine WL.nil (hK6 _ _ ?_)
 refine wp_block ?_
 refine wp_loop (fun ac wr => ∃ (t : Nat) (f : Nat → Value), ac = { tmps := #[.slice (some ⟨gb, go, none⟩) l.length vc, undef, .slice none 0 0, .int .u32 (leN l t), f 4, undef, undef, .slice (some ⟨gb, go, none⟩) l.length vc, .int .i64 (l.length : Int), .bool false, .int .i64 (t : Int), f 11, f 12, f 13, f 14, f 15, f 16, f 17, f 18, f 19, f 20, f 21, f 22, f 23, undef, undef, undef, undef, undef, undef, undef, undef, undef, undef, undef, undef, undef, undef, undef, undef, undef, undef, undef, undef, undef, undef, undef, undef, undef], defers := [] } ∧ t ≤ 4 ∧ w = wr) (fun a _ => 4 - (intOf (a.tmps.getD 10 undef)).toNat) ⟨0, fun zz => [.slice (some ⟨gb, go, none⟩) l.length vc, undef, .slice none 0 0, .int .u32 0, undef, undef, undef, .slice (some ⟨gb, go, none⟩) l.length vc, .int .i64 (l.length : Int), .bool false, .int .i64 0, undef, undef, undef, undef, undef, undef, undef, undef, undef, undef, undef, undef, undef, undef, undef, undef, undef, undef, undef, undef, undef, undef, undef, undef, undef, undef, undef, undef, undef, undef, undef, undef, undef, undef, undef, undef, undef, undef].getD zz undef, rfl, by omega, rfl⟩ ?_
 rintro ac wr ⟨t, f, rfl, ht, rfl⟩
 by_cases hlt : t < 4
 ·have hlt' : (t : Int) < 4 := by omega
  have htl : (t : Int) < (l.length : Int) := by have := HL.out; omega
  have hwt : IntKind.i64.wrap ((t : Int) + 1) = (t : Int) + 1 := by rw [IntKind.wrap_i64]; omega
  have hw8 : IntKind.i64.wrap (8 * (t : Int)) = 8 * (t : Int) := by rw [IntKind.wrap_i64]; omega
  obtain ⟨c, hc⟩ : ∃ c, Keep (c = l.getD t 0) := ⟨_, ⟨rfl⟩⟩
  obtain ⟨n, hn⟩ : ∃ n, Keep (n = leN l t) := ⟨_, ⟨rfl⟩⟩
  rw [← hn.out]
  have hcb : 0 ≤ c ∧ c < 256 := by rw [hc.out]; exact HB.out.getD t
  have hct := hcell.out t (by have := HL.out; omega)
  rw [← hc.out] at hct
  have hwc : IntKind.u32.wrap c = c := by rw [IntKind.wrap_u32]; omega
  have hsh := sh_byte c t hlt hcb
  have hor := or_byte n c t hlt (by rw [hn.out]; exact leN_lt l HB.out t) hcb
  refine wp_seq_k fun K7 hK7 => rgn ?_
  refine VlS (.bool true) ?_
  refine WL.nil (hK7 _ _ ?_)
  refine wp_seq_k fun K8 hK8 => ?_
  refine wp_cond_true rfl ?_
  refine wp_skip ?_
  refine hK8 _ _ ?_
  refine wp_seq_k fun K9 hK9 => ?_
  refine wp_block ?_
  refine wp_seq_k fun K10 hK10 => rgn ?_
  refine VlS (.int .i64 (t : Int)) ?_
  refine VlS (.int .i64 (t : Int)) ?_
  refine WL.nil (hK10 _ _ ?_)
  refine rgn ?_
  refine VlS (.int .u32 n) ?_
  refine VlS (.slice (some ⟨gb, go, none⟩) l.length vc) ?_
  refine VlS (.int .i64 (t : Int)) ?_
  refine VlS (.pointer (some ⟨gb, go + t, none⟩)) ?_
  refine VlS (.int .u8 c) ?_
  refine VlS (.int .u32 c) ?_
  refine VlS (.int .i64 (t : Int)) ?_
  refine VlS (.int .i64 (8 * (t : Int))) ?_
  refine VlS (.int .u32 (c * 256 ^ t)) ?_
  refine VlS (.int .u32 (n + c * 256 ^ t)) ?_
  refine VlS (.int .u32 (n + c * 256 ^ t)) ?_
  refine WL.nil (hK9 _ _ ?_)
  refine rgn ?_
  refine VlS (.int .i64 ((t : Int) + 1)) ?_
  refine VlS (.int .i64 ((t : Int) + 1)) ?_
  refine WL.nil ?_
  refine ⟨⟨t + 1, fun zz => [.slice (some ⟨gb, go, none⟩) l.length vc, undef, .slice none 0 0, .int .u32 (n + c * 256 ^ t), .int .i64 (t : Int), undef, undef, .slice (some ⟨gb, go, none⟩) l.length vc, .int .i64 (l.length : Int), .bool false, .int .i64 ((t : Int) + 1), .bool true, .int .i64 (t : Int), .int .u32 n, .slice (some ⟨gb, go, none⟩) l.length vc, .int .i64 (t : Int), .pointer (some ⟨gb, go + t, none⟩), .int .u8 c, .int .u32 c, .int .i64 (t : Int), .int .i64 (8 * (t : Int)), .int .u32 (c * 256 ^ t), .int .u32 (n + c * 256 ^ t), .int .i64 ((t : Int) + 1), undef, undef, undef, undef, undef, undef, undef, undef, undef, undef, undef, undef, undef, undef, undef, undef, undef, undef, undef, undef, undef, undef, undef, undef, undef].getD zz undef, ?_, by omega, rfl⟩, ?_⟩
  ·have e : leN l (t + 1) = n + c * 256 ^ t := by rw [hn.out, hc.out]; rfl
   rw [e]; rfl
  ·simp only [intOf]; show 4 - ((t : Int) + 1).toNat < 4 - ((t : Int)).toNat; omega
 ·obtain rfl : t = 4 := by omega
  obtain ⟨N, hN⟩ : ∃ N : Nat, Keep (N = (leN l 4).toNat) := ⟨_, ⟨rfl⟩⟩
  have hNe : leN l 4 = (N : Int) := by rw [hN.out]; have := leN_lt l HB.out 4; omega
  rw [hNe]
  have hNb : (N : Int) < 4294967296 := by rw [← hNe]; have := leN_lt l HB.out 4; omega
  clear hNe
  obtain ⟨vs, hs1, hs2⟩ := slB_lo (.slice (some ⟨gb, go, none⟩) l.length vc) l w HR.out 16 HL.out
  have HS1 := Keep.mk (hs1 w)
  have HV := Keep.mk (hs2 w HR.out)
  have HVa := Keep.mk hs2
  clear hs1 hs2
  obtain ⟨ra, rc, hv⟩ := row_form HV.out
  subst hv
  obtain ⟨rl, hrl⟩ : ∃ r, Keep (r = l.drop 16) := ⟨_, ⟨rfl⟩⟩
  rw [← hrl.out] at HS1 HV HVa
  have hrn : Keep (rl.length = l.length - 16) := ⟨by rw [hrl.out, List.length_drop]⟩
  have hwN : IntKind.i64.wrap (N : Int) = (N : Int) := by rw [IntKind.wrap_i64]; omega
  have hn1 : ¬ (N : Int) < 1 := by have := HC.out; rw [← hN.out] at this; omega
  have hn2 : ¬ (1048576 : Int) < (N : Int) := by have := HC.out; rw [← hN.out] at this; omega
  have hn3 : ¬ (rl.length : Int) < (N : Int) := by have := HC.out; rw [← hN.out] at this; have := hrn.out; omega
  obtain ⟨vp, hp1, hp2⟩ := slB_hi32 (.slice ra rl.length rc) rl w HV.out N (by omega)
  have HP1 := Keep.mk (hp1 w)
  have HPv := Keep.mk (hp2 w HV.out)
  have HPa := Keep.mk hp2
  clear hp1 hp2
  obtain ⟨pa, pc, hv⟩ := row_form HPv.out
  subst hv
  obtain ⟨pl, hpl⟩ : ∃ r, Keep (r = rl.take N) := ⟨_, ⟨rfl⟩⟩
  rw [← hpl.out] at HP1 HPv HPa
  have hpn : Keep ((pl.length : Int) ≤ 1048576) := ⟨by rw [hpl.out, List.length_take]; omega⟩
  refine wp_seq_k fun K11 hK11 => rgn ?_
  refine VlS (.bool false) ?_
  refine WL.nil (hK11 _ _ ?_)
  refine wp_seq_k fun K12 hK12 => ?_
  refine wp_cond_false rfl ?_
  refine wp_exit ?_
  refine hK5 _ _ ?_
  refine wp_seq_k fun K13 hK13 => rgn ?_
  refine VlS (.slice (some ⟨gb, go, none⟩) l.length vc) ?_
  refine WL.slLoB (by kernel_rfl) (.tmp 24) (.const (.int .i64 16)) rfl (.slice (some ⟨gb, go, none⟩) l.length vc) (.int .i64 16) (.slice ra rl.length rc) rfl rfl HS1.out ?_
  simp only [Act.put, pqA, pqB, pqC]
  refine VlS (.slice ra rl.length rc) ?_
  refine WL.nil (hK13 _ _ ?_)
  refine wp_seq_k fun K14 hK14 => ?_
  refine wp_seq_k fun K15 hK15 => rgn ?_
  refine VlS (.int .u32 (N : Int)) ?_
  refine VlS (.bool false) ?_
  refine VlS (.bool false) ?_
  refine VlS (.int .u32 (N : Int)) ?_
  refine VlS (.bool false) ?_
  refine VlS (.bool false) ?_
  refine VlS (.bool false) ?_
  refine VlS (.int .u32 (N : Int)) ?_
  refine VlS (.int .i64 (N : Int)) ?_
  refine VlS (.slice ra rl.length rc) ?_
  refine VlS (.int .i64 (rl.length : Int)) ?_
  refine VlS (.bool false) ?_
  refine VlS (.bool false) ?_
  refine WL.nil (hK15 _ _ ?_)
  refine wp_cond_false rfl ?_
  refine wp_skip ?_
  refine hK14 _ _ ?_
  refine wp_seq_k fun K16 hK16 => rgn ?_
  refine VlS (.slice ra rl.length rc) ?_
  refine VlS (.int .u32 (N : Int)) ?_
  refine WL.slHiB (by kernel_rfl) (.tmp 39) (.tmp 40) rfl (.slice ra rl.length rc) (.int .u32 (N : Int)) (.slice pa pl.length pc) rfl rfl HP1.out ?_
  simp only [Act.put, pqA, pqB, pqC]
  refine VlS (.slice pa pl.length pc) ?_
  refine WL.nil (hK16 _ _ ?_)
  refine wp_seq_k fun K17 hK17 => ?_
  refine wp_seq_k fun K18 hK18 => ?_
  obtain ⟨E, hE⟩ : ∃ E : Nat → Int, Keep (E = fun i => l.getD i 0) := ⟨_, ⟨rfl⟩⟩
  have HEq : Keep (eq16 (hdF pl) E = true) := ⟨by rw [hpl.out, hrl.out, hN.out, hE.out]; exact HE.out⟩
  have D0 : Keep (Below w.heap.size w w.drew) := ⟨(Below.refl _ _).drew⟩
  have HRg : Keep (∀ wx, Below w.heap.size w wx → wx.rangeAt gb go (bytesA 16 E).toList) := ⟨fun wx hx j v hv => by
   rw [hE.out, hl_bytesA] at hv
   have hj : j < 16 := by have := (List.getElem?_eq_some_iff.1 hv).1; rw [bv_len, hl_len] at this; exact this
   rw [bv_get _ _ (by rw [hl_len]; exact hj), hl_get _ _ _ hj] at hv
   injection hv with hv
   rw [← hv]
   exact bcl hx ⟨cell_lt (hcell.out j (by have := HL.out; omega)), hcell.out j (by have := HL.out; omega)⟩⟩
  refine wp_region_held_drew (S := fun wx => Below w.heap.size w wx) (by kernel_rfl) (D0.out) (fun hHeld => ?_)
  refine tkS (i := 0) (oi := ⟨some 42, Op.move (Operand.tmp 6), 37, _, _, none⟩) (v := .slice pa pl.length pc) rfl (Or.inl ⟨by rfl, fun w hS => by go_simp⟩) hHeld ?_
  refine tkS (i := 2) (oi := ⟨some 44, Op.move (Operand.tmp 0), 37, _, _, none⟩) (v := .slice (some ⟨gb, go, none⟩) l.length vc) rfl (Or.inl ⟨by rfl, fun w hS => by go_simp⟩) hHeld ?_
  refine tkS (i := 3) (oi := ⟨some 45, Op.sliceToArrayPointer 112 (Operand.tmp 44), 0, _, _, none⟩) (v := .pointer (some ⟨gb, go, none⟩)) rfl (Or.inl ⟨by rfl, fun w hS => by have hq := run_arrayAt (P := Tryd.prog) (w := w) 112 5 16 (some ⟨gb, go, none⟩) l.length vc Tryd.underlying112 HL.out; clear hS; go_simp⟩) hHeld ?_
  refine tkS (i := 4) (oi := ⟨some 46, Op.load 112 (Operand.tmp 45), 112, _, _, none⟩) (v := .agg (bytesA 16 E)) rfl (yieldsIf_loadAj (by rfl) 112 (.tmp 45) rfl gb go rfl (bytesA 16 E) _ (fun w hS => HRg.out w hS) Tryd.underlying112 rfl (Tryd.size112B _)) hHeld ?_
  refine wpAnyH_ready (rs := [1]) (by kernel_rfl) (by simp) ?_
  refine AllReadyH.cons (o := ⟨some 43, Op.call { callee := Callee.value (Operand.func 54), args := #[Operand.tmp 42], argTypes := #[37] }, 112, _, _, none⟩) rfl (fun K hK => ?_) AllReadyH.nil
  rw [if_pos (by rfl)]
  refine wp_callF 54 _ _ rfl Tryd.in54 #[.slice pa pl.length pc] (by simp [Act.eval]) (fun vz wz => vz = .agg (bytesA 16 (hdF pl)) ∧ Below w.heap.size w wz) ?_ ?_
  ·refine (head_any _ pl w.drew (HPv.out.below D0.out) hpn.out).mono ?_
   rintro e wz ⟨rfl, h⟩
   exact ⟨_, rfl, rfl, D0.out.trans (h.mono D0.out.size)⟩
  rintro vz w2 ⟨rfl, h2⟩
  have B2 := Keep.mk h2
  clear h2
  refine hK _ _ B2.out fun hH2 => ?_
  clear hK
  simp only [Act.put, pqA, pqB, pqC]
  refine tkS (i := 5) (oi := ⟨some 47, Op.binOp BinOp.neq 112 (Operand.tmp 43) (Operand.tmp 46) 112, 4, _, _, none⟩) (v := .bool false) rfl (Or.inl ⟨by rfl, fun w hS => by have hq := run_neq16 (hdF pl) E w; rw [HEq.out] at hq; clear hS; unfold execOp; simp only [Sem.run_bind, Act.eval]; exact (congrArg (fun z => Result.andThen z fun a w => Result.ok (Next.value a) w) hq)⟩) hH2 ?_
  refine wpAnyH_done (by kernel_rfl) ?_ _
  refine hK18 _ _ ?_
  refine wp_cond_false rfl ?_
  refine wp_skip ?_
  refine hK17 _ _ ?_
  refine wp_seq_k fun K19 hK19 => rgn ?_
  refine VlS (.slice pa pl.length pc) ?_
  refine VlS (.slice pa pl.length pc) ?_
  refine WL.nil (hK19 _ _ ?_)
  refine wp_ret ?_
  go_ret
  refine ⟨_, rfl, fun wx hx => ?_, B2.out⟩
  have h := HPa.out wx (HVa.out wx hx)
  rw [hpl.out, hrl.out, hN.out] at h
  rw [hpl.out, hrl.out, hN.out]
  exact h
theorem begun_none (v : Value) (l : List Int) (w : World) (hr : RowAt w v l) (hB : Byts l) (h : bgn l = none) : Calls Tryd.prog 41 #[v] w fun e w' => e = .returned (.slice none 0 0) ∧ Below w.heap.size w w' := by
 unfold bgn at h
 split at h
 ·rename_i h1; exact begun_short v l w hr h1
 ·rename_i h1
  simp only at h
  split at h
  ·rename_i h2; exact begun_len v l w hr (by omega) hB h2
  ·rename_i h2
   split at h
   ·cases h
   ·rename_i h3
    exact begun_off v l w hr (by omega) hB ⟨by omega, by omega, by omega⟩ (by simpa using h3)
theorem begun_some (v : Value) (l p : List Int) (w : World) (hr : RowAt w v l) (hB : Byts l) (h : bgn l = some p) : Calls Tryd.prog 41 #[v] w fun e w' => ∃ q off cap, e = .returned (.slice (some ⟨q, off, none⟩) p.length cap) ∧ (∀ wx, RowAt wx v l → RowAt wx (.slice (some ⟨q, off, none⟩) p.length cap) p) ∧ Below w.heap.size w w' := by
 have hp := (bgn_some h).1
 unfold bgn at h
 split at h
 ·cases h
 ·rename_i h1
  simp only at h
  split at h
  ·cases h
  ·rename_i h2
   split at h
   ·rename_i h3
    injection h with h
    refine (begun_at v l w hr (by omega) hB ⟨by omega, by omega, by omega⟩ h3).mono ?_
    rintro e w' ⟨v', rfl, hra, hb⟩
    rw [h] at hra
    have hr' := hra w hr
    rcases hr' with ⟨_, h5⟩ | ⟨_, _, _, h5⟩ | ⟨q, off, cap, rfl, h6⟩
    ·have := hp.1; rw [h5] at this; simp at this
    ·have := hp.1; rw [h5] at this; simp at this
    ·exact ⟨q, off, cap, rfl, hra, hb⟩
   ·cases h
theorem clone_row (q off cap : Nat) (l : List Int) (w : World) (hr : RowAt w (.slice (some ⟨q, off, none⟩) l.length cap) l) (h0 : 0 < l.length) (hl : l.length ≤ 140737488355328) : Calls Tryd.prog 42 #[.slice (some ⟨q, off, none⟩) l.length cap] w fun e w' => ∃ v', e = .returned v' ∧ Own w' v' l ∧ (∀ k, v'.ownBlock = some k → w.heap.size ≤ k) ∧ Below w.heap.size w w' := by
 refine (Tryd.bytes_Clone_at ⟨q, off, none⟩ l.length cap l w rfl hl fun i hi => ?_).mono ?_
 ·rcases hr with ⟨h, _⟩ | ⟨a, c, h, h1⟩ | ⟨h, o, c, h1, _, h2⟩
  ·cases h
  ·rw [h1] at h0; simp at h0
  ·injection h1 with h1 _ _
   injection h1 with h1
   injection h1 with h3 h4 _
   subst h3 h4
   rw [Addr.add_mid]; exact h2 i hi
 ·rintro e w' ⟨v', rfl, ho, _, hb⟩
  refine ⟨v', rfl, ?_, fun k hk => (World.ownsRow.lt ho k hk).1, hb⟩
  obtain ⟨h1, h2⟩ := ho
  refine ⟨by simp [bv], ?_⟩
  rcases h2 with h2 | ⟨g, cap, cur, h3, h4, h5⟩
  ·exact .inl h2
  ·exact .inr ⟨g, cap, cur, h3, Nat.zero_le _, h5⟩
theorem OwnS.typ {w : World} {v : Value} {l : List ByteArray} (h : OwnS w v l) {k : Nat} (hk : v.ownBlock = some k) : Typ w k 9 := by
 rcases h.2 with ⟨rfl, _⟩ | ⟨g, cap, cur, rfl, _, h3, _⟩
 ·simp [Value.ownBlock] at hk
 ·simp [Value.ownBlock] at hk
  subst hk
  exact ⟨_, _, h3⟩
def RwO (w : World) (v : Value) (ls : List (List Int)) (b : Nat) : Prop :=
 ∃ vs : List Value, OwnR w v vs ∧ (∀ k, v.ownBlock = some k → b ≤ k) ∧ vs.length = ls.length ∧ ∀ i, i < ls.length → Own w (vs.getD i noS) (ls.getD i []) ∧ ∀ k, (vs.getD i noS).ownBlock = some k → b ≤ k
theorem RwO.grown {w w' : World} {v : Value} {ls : List (List Int)} {b : Nat} {S : Nat → Prop} (h : RwO w v ls b) (hg : Grown w w' S) (hT : ∀ k, Typ w k 5 ∨ Typ w k 37 → ¬ S k) : RwO w' v ls b := by
 obtain ⟨vs, h1, h2, h3, h4⟩ := h
 exact ⟨vs, h1.grown hg fun k hk => hT k (.inr (h1.typ hk)), h2, h3, fun i hi => ⟨(h4 i hi).1.grown hg fun k hk => hT k (.inl ((h4 i hi).1.typ hk)), (h4 i hi).2⟩⟩
theorem RwO.rwn {w : World} {v : Value} {ls : List (List Int)} {b : Nat} (h : RwO w v ls b) : RwN w v ls fun k => b ≤ k ∧ k < w.heap.size := by
 obtain ⟨vs, h1, h2, h3, h4⟩ := h
 exact ⟨vs, h1, fun k hk => ⟨h2 k hk, h1.lt k hk⟩, h3, fun i hi => ⟨(h4 i hi).1.row, fun k hk => ⟨(h4 i hi).2 k hk, (h4 i hi).1.lt k hk⟩⟩⟩
theorem RwO.form {w : World} {v : Value} {ls : List (List Int)} {b : Nat} (h : RwO w v ls b) : ∃ a c, v = .slice a ls.length c := h.rwn.form
structure RS (w0 w : World) (g d : Nat) (vp vl : Value) (V : JV) : Prop where
 blk : Blk w g 61 (jA d vp V.pr V.sz false false)
 own : OwnP w vp V.pl
 new : ∀ k, vp.ownBlock = some k → w0.heap.size ≤ k
 row : RwO w vl V.ps w0.heap.size
 gr : Grown w0 w fun k => k = g
theorem RS.below {w0 w w' : World} {g d : Nat} {vp vl : Value} {V : JV} (h : RS w0 w g d vp vl V) (hb : Below w.heap.size w w') : RS w0 w' g d vp vl V :=
 ⟨h.blk.below hb h.blk.lt, h.own.grown (Grown.below (S := fun _ => False) hb) fun _ _ h => h, h.new, h.row.grown (Grown.below (S := fun _ => False) hb) fun _ _ h => h, h.gr.trans (Grown.below hb)⟩
theorem RS.drew {w0 w : World} {g d : Nat} {vp vl : Value} {V : JV} (h : RS w0 w g d vp vl V) : RS w0 w.drew g d vp vl V := h.below (Below.refl _ _).drew
theorem RS.cell {w0 w : World} {g d : Nat} {vp vl : Value} {V V' : JV} (h : RS w0 w g d vp vl V) {j : Nat} {v : Value} (hy : (jA d vp V.pr V.sz false false).setIfInBounds j v = jA d vp V'.pr V'.sz false false) (hp : V'.pl = V.pl) (hs : V'.ps = V.ps) : RS w0 (w.setCell ⟨g, j, none⟩ v) g d vp vl V' := by
 have hg : Grown w (w.setCell ⟨g, j, none⟩ v) fun k => k = g := Grown.setCell w g j v fun _ => rfl
 refine ⟨hy ▸ h.blk.set j v, ?_, h.new, ?_, h.gr.trans hg⟩
 ·rw [hp]
  exact h.own.grown hg fun k hk e => by subst e; have := (h.own.typ hk).one h.blk.typ; revert this; decide
 ·rw [hs]
  exact h.row.grown hg fun k hk e => by subst e; rcases hk with hk | hk <;> (have := hk.one h.blk.typ; revert this; decide)
theorem RS.place {w0 w w' : World} {g d : Nat} {vp vl v' : Value} {V : JV} {x : Int × Int} (h : RS w0 w g d vp vl V) (ho : OwnP w' v' (V.pl ++ [x])) (hg : Grown w w' fun k => vp.ownBlock = some k) (hm : Moved w vp v') (hz : g < w0.heap.size) : RS w0 (w'.setCell ⟨g, 1, none⟩ v') g d v' vl { V with pl := V.pl ++ [x] } := by
 have ht : ∀ {k : Nat} {T : TypeId}, Typ w k T → T ≠ 79 → ¬ vp.ownBlock = some k := fun hk hT e => hT (hk.one (h.own.typ e))
 have hb : Blk w' g 61 (jA d vp V.pr V.sz false false) := hg.blk h.blk (ht h.blk.typ (by decide))
 have hs : Grown w' (w'.setCell ⟨g, 1, none⟩ v') fun k => k = g := Grown.setCell w' g 1 v' fun _ => rfl
 have hn : ∀ k, v'.ownBlock = some k → w0.heap.size ≤ k := fun k hk => by
  rcases hm with e | ⟨j, e, hj⟩
  ·rw [hk] at e; exact h.new k e.symm
  ·rw [hk] at e
   have := Option.some.inj e
   have := h.gr.size
   omega
 refine ⟨hb.set 1 v', ho.grown hs fun k hk e => ?_, hn, (h.row.grown hg fun k hk => ?_).grown hs fun k hk e => ?_, (h.gr.next hg fun k hk e => ?_).trans hs⟩
 ·subst e; have := (ho.typ hk).one hb.typ; revert this; decide
 ·rcases hk with hk | hk <;> exact ht hk (by decide)
 ·subst e; rcases hk with hk | hk <;> (have := hk.one hb.typ; revert this; decide)
 ·have := h.new k e
  omega
theorem RS.pay {w0 w w' : World} {g d : Nat} {vp vl v' vx : Value} {V : JV} {x : List Int} {vs : List Value} (h : RS w0 w g d vp vl V) (hl : OwnR w vl vs) (h2 : vs.length = V.ps.length) (h3 : ∀ i, i < V.ps.length → Own w (vs.getD i noS) (V.ps.getD i []) ∧ ∀ k, (vs.getD i noS).ownBlock = some k → w0.heap.size ≤ k) (h4 : ∀ k, vl.ownBlock = some k → w0.heap.size ≤ k) (ho : OwnR w' v' (vs ++ [vx])) (hg : Grown w w' fun k => vl.ownBlock = some k) (hm : Moved w vl v') (hx : Own w vx x) (hxn : ∀ k, vx.ownBlock = some k → w0.heap.size ≤ k) : RS w0 w' g d vp v' { V with ps := V.ps ++ [x] } := by
 have ht : ∀ {k : Nat} {T : TypeId}, Typ w k T → T ≠ 37 → ¬ vl.ownBlock = some k := fun hk hT e => hT (hk.one (hl.typ e))
 have hn : ∀ k, v'.ownBlock = some k → w0.heap.size ≤ k := fun k hk => by
  rcases hm with e | ⟨j, e, hj⟩
  ·rw [hk] at e; exact h4 k e.symm
  ·rw [hk] at e
   have := Option.some.inj e
   have := h.gr.size
   omega
 refine ⟨hg.blk h.blk (ht h.blk.typ (by decide)), h.own.grown hg fun k hk => ht (h.own.typ hk) (by decide), h.new, ⟨vs ++ [vx], ho, hn, by simp [h2], fun i hi => ?_⟩, h.gr.next hg fun k hk e => ?_⟩
 ·rw [List.length_append, List.length_singleton] at hi
  by_cases hlt : i < V.ps.length
  ·have e1 : (vs ++ [vx]).getD i noS = vs.getD i noS := by rw [List.getD_eq_getElem?_getD, List.getD_eq_getElem?_getD, List.getElem?_append_left (by omega)]
   have e2 : (V.ps ++ [x]).getD i [] = V.ps.getD i [] := by rw [List.getD_eq_getElem?_getD, List.getD_eq_getElem?_getD, List.getElem?_append_left hlt]
   rw [e1, e2]
   exact ⟨(h3 i hlt).1.grown hg fun k hk => ht ((h3 i hlt).1.typ hk) (by decide), (h3 i hlt).2⟩
  ·obtain rfl : i = V.ps.length := by omega
   have e1 : (vs ++ [vx]).getD V.ps.length noS = vx := by rw [← h2, List.getD_eq_getElem?_getD]; simp
   have e2 : (V.ps ++ [x]).getD V.ps.length [] = x := by rw [List.getD_eq_getElem?_getD]; simp
   rw [e1, e2]
   exact ⟨hx.grown hg fun k hk => ht (hx.typ hk) (by decide), hxn⟩
 ·have := h4 k e
  omega
def szOf (w : World) (g : Nat) : Nat := (intOf ((w.cell? ⟨g, 3, none⟩).getD undef)).toNat
theorem szOf_blk {w : World} {g d : Nat} {vp : Value} {pr sz : Int} {la de : Bool} (h : Blk w g 61 (jA d vp pr sz la de)) : szOf w g = sz.toNat := by
 unfold szOf
 rw [h.c 3 (by rfl : (jA d vp pr sz la de)[3]? = some (.int .i64 sz))]
 rfl
theorem rd_one {b p : List Int} {s : Nat} {P : List (List Int)} (hs : s = (frs P).length) (h : rdB b = P ++ rdB (b.drop s)) (hb : bgn (b.drop s) = some p) (hl : s ≤ b.length) : s + 16 + p.length = (frs (P ++ [p])).length ∧ rdB b = (P ++ [p]) ++ rdB (b.drop (s + 16 + p.length)) ∧ s + 16 + p.length ≤ b.length := by
 obtain ⟨_, r, e⟩ := bgn_some hb
 have h1 : (b.drop s).length = 16 + p.length + r.length := by rw [e, List.length_append, fr_len]
 rw [List.length_drop] at h1
 refine ⟨?_, ?_, by omega⟩
 ·rw [frs_app, List.length_append, ← hs]
  show _ = s + (frs [p]).length
  rw [frs_cons, List.length_append, fr_len]
  simp [frs]
  omega
 ·rw [rdB_some hb, List.drop_drop] at h
  rw [h, Nat.add_assoc]
  simp
theorem rd_last {b : List Int} {s : Nat} {P : List (List Int)} (hs : s = (frs P).length) (h : rdB b = P ++ rdB (b.drop s)) (hb : bgn (b.drop s) = none) : rdB b = P ∧ enB b = s := by
 rw [rdB_none hb, List.append_nil] at h
 exact ⟨h, by unfold enB; rw [h, hs]⟩
theorem rd_end {b : List Int} {s : Nat} {P : List (List Int)} (hs : s = (frs P).length) (h : rdB b = P ++ rdB (b.drop s)) (hb : s = b.length) : rdB b = P ∧ enB b = s := rd_last hs h (by rw [hb, List.drop_of_length_le (Nat.le_refl _)]; exact bgn_nil)
theorem frs_ge : ∀ P : List (List Int), P.length ≤ (frs P).length
 | [] => Nat.zero_le _
 | p :: P => by
  have := frs_ge P
  rw [frs_cons, List.length_append, fr_len, List.length_cons]
  omega
theorem rdJ_seg {F : Nat → Option (List Int)} {t : Nat} {V : JV} {b : List Int} (ht : t < 256) (hF : F t = some b) : rdJ F (256 - t) t V = if (V.more t b).torn = true then V.more t b else rdJ F (256 - (t + 1)) (t + 1) (V.more t b) := by
 obtain ⟨n, hn⟩ : ∃ n, 256 - t = n + 1 := ⟨255 - t, by omega⟩
 rw [hn, rdJ, hF, show 256 - (t + 1) = n by omega]
theorem crT_nm (kp : List Int) (t : Nat) (fs : List PF) : (crT kp t fs).map PF.nm = fs.map PF.nm := by
 apply List.ext_getElem?
 intro i
 unfold crT
 rw [List.getElem?_map, List.getElem?_map, List.getElem?_mapIdx]
 cases fs[i]? with
 | none => rfl
 | some f =>
  simp only [Option.map_some]
  split <;> rfl
theorem srt_nm {fs gs : List PF} (h : Srt fs) (e : gs.map PF.nm = fs.map PF.nm) : Srt gs := by
 have hm : ∀ l : List PF, Srt l ↔ (l.map PF.nm).Pairwise nlt := fun l => List.pairwise_map.symm
 rw [hm] at h ⊢
 rw [e]
 exact h
theorem crT_mem {kp : List Int} {fs : List PF} {f : PF} (h : f ∈ crT kp fs.length fs) : ∃ (i : Nat) (g : PF), fs[i]? = some g ∧ f = g.crash (kpN kp i g) := by
 obtain ⟨i, hi, rfl⟩ := List.getElem_of_mem h
 have hl : i < fs.length := by rw [crT_len] at hi; exact hi
 refine ⟨i, fs[i], List.getElem?_eq_getElem hl, ?_⟩
 simp only [crT, List.getElem_mapIdx]
 rw [if_pos hl]
theorem crash_len {f : PF} {n : Int} (h : 0 ≤ f.sf ∧ f.sf ≤ (f.bs.length : Int)) (hn : 0 ≤ n ∧ n ≤ (f.bs.length : Int) - f.sf) : (f.crash n).sf = ((f.crash n).bs.length : Int) := by
 simp only [PF.crash, List.length_take]
 omega
theorem DOk.crash {D : DV} (h : DOk D) (kp : List Int) : DOk (D.crash kp) := by
 refine ⟨srt_nm h.srt (crT_nm _ _ _), by show (crT kp _ _).length ≤ 256; rw [crT_len]; exact h.len, fun f hf => ?_, fun f hf => ?_, rfl, ?_, h.acts, by show (-1 : Int) ≤ -1 ∧ (-1 : Int) ≤ _; omega⟩
 ·obtain ⟨i, g, hg, rfl⟩ := crT_mem hf
  have h1 := h.sf g (List.mem_of_getElem? hg)
  have h2 := kpN_le kp i g h1
  have h3 := crash_len h1 h2
  have h4 : (g.crash (kpN kp i g)).sf = g.sf + kpN kp i g := rfl
  omega
 ·obtain ⟨i, g, hg, rfl⟩ := crT_mem hf
  intro c hc
  exact h.byt g (List.mem_of_getElem? hg) c (List.mem_of_mem_take hc)
 ·have h1 := usd_crT kp D.fs h.sf D.fs.length (Nat.le_refl _)
  rw [List.take_of_length_le (by rw [crT_len]; exact Nat.le_refl _), List.take_of_length_le (Nat.le_refl _)] at h1
  have := h.big
  show usd (crT kp D.fs.length D.fs) ≤ _
  omega
theorem crash_safe {D : DV} (h : DOk D) (kp : List Int) : ∀ f ∈ (D.crash kp).fs, f.sf = (f.bs.length : Int) := fun f hf => by
 obtain ⟨i, g, hg, rfl⟩ := crT_mem hf
 have h1 := h.sf g (List.mem_of_getElem? hg)
 exact crash_len h1 (kpN_le kp i g h1)
theorem openV_empty {F : Nat → Option (List Int)} (h : (openV F).pr = -1) : (openV F).ps = [] := by
 have := rdJ_stay F 256 0 JV.nil rfl h
 unfold openV
 rw [this]
 rfl
theorem leN_take (l : List Int) (s : Nat) (h : 4 ≤ s) : leN (l.take s) 4 = leN l 4 := by
 have e : ∀ i, i < 4 → (l.take s).getD i 0 = l.getD i 0 := fun i hi => by
  rw [List.getD_eq_getElem?_getD, List.getD_eq_getElem?_getD, List.getElem?_take, if_pos (by omega)]
 simp only [leN, e 0 (by omega), e 1 (by omega), e 2 (by omega), e 3 (by omega)]
theorem bgn_short (p r : List Int) (s : Nat) (hp : p.length ≤ 1048576) (hs : s < (fr p).length) : bgn ((fr p ++ r).take s) = none := by
 cases hb : bgn ((fr p ++ r).take s) with
 | none => rfl
 | some q =>
  exfalso
  obtain ⟨hq, r', e⟩ := bgn_some hb
  have hl : 16 + q.length ≤ s := by
   have h1 := congrArg List.length e
   rw [List.length_append, fr_len, List.length_take] at h1
   omega
  have h1 := fr_leN q r' (by have := hq.2; omega)
  rw [← e, leN_take _ _ (by omega), fr_leN p r (by omega)] at h1
  rw [fr_len] at hs
  omega
theorem frs_take_cons (p : List Int) (P : List (List Int)) (j : Nat) : (frs ((p :: P).take (j + 1))).length = 16 + p.length + (frs (P.take j)).length := by
 rw [List.take_succ_cons, frs_cons, List.length_append, fr_len]
theorem rdB_cut : ∀ (P : List (List Int)) (s : Nat), (∀ p ∈ P, PayOk p) → ∃ k, k ≤ P.length ∧ rdB ((frs P).take s) = P.take k ∧ (frs (P.take k)).length ≤ s ∧ ∀ j, j ≤ P.length → (frs (P.take j)).length ≤ s → j ≤ k
 | [], s, _ => ⟨0, Nat.le_refl _, by simp [frs, rdB_nil], by simp [frs], fun j hj _ => hj⟩
 | p :: P, s, h => by
  have hp := h p (by simp)
  by_cases hs : s < (fr p).length
  ·refine ⟨0, Nat.zero_le _, ?_, by simp [frs], fun j hj hl => ?_⟩
   ·rw [frs_cons, rdB_none (bgn_short p _ s hp.2 hs)]
    rfl
   ·cases j with
    | zero => exact Nat.le_refl _
    | succ j =>
     rw [frs_take_cons] at hl
     rw [fr_len] at hs
     omega
  ·obtain ⟨k, h1, h2, h3, h4⟩ := rdB_cut P (s - (fr p).length) fun q hq => h q (by simp [hq])
   refine ⟨k + 1, by simp; exact h1, ?_, ?_, fun j hj hl => ?_⟩
   ·rw [frs_cons, List.take_append, List.take_of_length_le (by omega), rdB_fr _ _ hp, h2, List.take_succ_cons]
   ·rw [frs_take_cons]
    rw [fr_len] at h3 hs
    omega
   ·cases j with
    | zero => exact Nat.zero_le _
    | succ j =>
     rw [frs_take_cons] at hl
     have := h4 j (by simpa using hj) (by rw [fr_len]; omega)
     omega
theorem frs_mono (P : List (List Int)) {i j : Nat} (h : i ≤ j) : (frs (P.take i)).length ≤ (frs (P.take j)).length := by
 have e : P.take j = P.take i ++ (P.take j).drop i := by
  have := List.take_append_drop i (P.take j)
  rw [List.take_take, Nat.min_eq_left h] at this
  exact this.symm
 rw [e, frs_app, List.length_append]
 omega
theorem rdJ_to (F : Nat → Option (List Int)) : ∀ (d n k : Nat) (s : JV), s.pr = (k : Int) - 1 → s.torn = false → (rdJ F n k s).pr = ((k + d : Nat) : Int) → ∃ s', s'.pr = ((k + d : Nat) : Int) - 1 ∧ s'.torn = false ∧ d < n ∧ (∀ j, k ≤ j → j < k + d → ∃ b, F j = some b ∧ enB b = b.length) ∧ ∀ F' : Nat → Option (List Int), (∀ j, k ≤ j → j < k + d → F' j = F j) → rdJ F' n k s = rdJ F' (n - d) (k + d) s'
 | 0, n, k, s, h1, h2, h3 => by
  refine ⟨s, h1, h2, ?_, fun j _ _ => by omega, fun F' _ => rfl⟩
  cases n with
  | zero => rw [rdJ] at h3; omega
  | succ n => omega
 | d + 1, n, k, s, h1, h2, h3 => by
  cases n with
  | zero => rw [rdJ] at h3; omega
  | succ n =>
   rw [rdJ] at h3
   cases hF : F k with
   | none => rw [hF] at h3; simp only at h3; omega
   | some b =>
    rw [hF] at h3
    simp only at h3
    by_cases ht : (s.more k b).torn = true
    ·rw [if_pos ht] at h3
     have : (s.more k b).pr = (k : Int) := rfl
     omega
    ·rw [if_neg ht] at h3
     have hb : enB b = b.length := by
      have e1 := enB_le b
      have e2 : ¬ enB b < b.length := fun h => ht (by simp only [JV.more]; exact decide_eq_true h)
      omega
     obtain ⟨s', e1, e2, e3, e4, e5⟩ := rdJ_to F d n (k + 1) (s.more k b) (by simp only [JV.more]; omega) (by simpa using ht) (by rw [h3]; omega)
     refine ⟨s', by rw [e1]; omega, e2, by omega, fun j hj1 hj2 => ?_, fun F' hF' => ?_⟩
     ·by_cases e : j = k
      ·subst e; exact ⟨b, hF, hb⟩
      ·exact e4 j (by omega) (by omega)
     ·rw [rdJ, hF' k (Nat.le_refl _) (by omega), hF]
      simp only
      rw [if_neg ht, e5 F' fun j hj1 hj2 => hF' j (by omega) (by omega)]
      congr 1 <;> omega
theorem openV_to {F : Nat → Option (List Int)} {m : Nat} (h : (openV F).pr = (m : Int)) : ∃ s, s.pr = (m : Int) - 1 ∧ s.torn = false ∧ m < 256 ∧ (∀ j, j < m → ∃ b, F j = some b ∧ enB b = b.length) ∧ ∀ F' : Nat → Option (List Int), (∀ j, j < m → F' j = F j) → openV F' = rdJ F' (256 - m) m s := by
 obtain ⟨s, h1, h2, h3, h4, h5⟩ := rdJ_to F m 256 0 JV.nil rfl rfl (by rw [Nat.zero_add]; exact h)
 rw [Nat.zero_add] at h1
 refine ⟨s, h1, h2, h3, fun j hj => h4 j (Nat.zero_le _) (by omega), fun F' hF' => ?_⟩
 have := h5 F' fun j _ hj => hF' j (by omega)
 rw [Nat.zero_add] at this
 exact this
theorem rdJ_one {F : Nat → Option (List Int)} {m : Nat} {s : JV} {b : List Int} (hm : m < 256) (hb : F m = some b) (hn : ∀ j, m < j → j < 256 → F j = none) : rdJ F (256 - m) m s = s.more m b := by
 rw [rdJ_seg hm hb]
 split
 ·rfl
 ·by_cases h : m = 255
  ·subst h; rfl
  ·exact rdJ_none (hn (m + 1) (by omega) (by omega))
theorem rdJ_two {F : Nat → Option (List Int)} {m : Nat} {s : JV} {b c : List Int} (hm : m + 1 < 256) (hb : F m = some b) (ht : enB b = b.length) (hc : F (m + 1) = some c) (hn : ∀ j, m + 1 < j → j < 256 → F j = none) : rdJ F (256 - m) m s = (s.more m b).more (m + 1) c := by
 rw [rdJ_seg (by omega) hb, if_neg (by simp only [JV.more, ht]; simp)]
 exact rdJ_one hm hc hn
theorem openV_one {F : Nat → Option (List Int)} {b : List Int} (hb : F 0 = some b) (hn : ∀ j, 0 < j → j < 256 → F j = none) : openV F = JV.nil.more 0 b := rdJ_one (m := 0) (by omega) hb hn
theorem openV_zero {F : Nat → Option (List Int)} (h : F 0 = none) : openV F = JV.nil := rdJ_none h
structure JI (D : DV) (V : JV) : Prop where
 ok : DOk D
 rd : openV (Fk D.fs) = V
 tn : V.torn = false
 hi : ∀ j : Nat, V.pr < (j : Int) → j < 256 → lk D.fs (nmS j) = none
 nm : ∀ f ∈ D.fs, ∃ j : Nat, j < 256 ∧ f.nm = nmS j
 lo : ∀ (j : Nat) (f : PF), (j : Int) < V.pr → lk D.fs (nmS j) = some f → f.sf = (f.bs.length : Int)
 room : D.room = 1099511627776
 siz : ∀ f ∈ D.fs, f.bs.length ≤ 1114128
def SU (D : DV) (V : JV) (sure : Nat) : Prop := sure ≤ V.ps.length ∧ ∀ (m : Nat) (f : PF), V.pr = (m : Int) → lk D.fs (nmS m) = some f → ∃ j, (frs ((rdB f.bs).take j)).length ≤ f.sf.toNat ∧ j ≤ (rdB f.bs).length ∧ sure + (rdB f.bs).length ≤ V.ps.length + j
structure CR (D : DV) (all : List (List Int)) (sure : Nat) : Prop where
 ok : DOk D
 nm : ∀ f ∈ D.fs, ∃ j : Nat, j < 256 ∧ f.nm = nmS j
 room : D.room = 1099511627776
 siz : ∀ f ∈ D.fs, f.bs.length ≤ 1114128
 rd : ∀ kp, ∃ k, sure ≤ k ∧ k ≤ all.length ∧ (openV (Fk (D.crash kp).fs)).ps = all.take k
theorem lk_crash {D : DV} (h : DOk D) (kp : List Int) (n : ByteArray) : (lk D.fs n = none → lk (D.crash kp).fs n = none) ∧ ∀ f, lk D.fs n = some f → ∃ z, 0 ≤ z ∧ z ≤ (f.bs.length : Int) - f.sf ∧ lk (D.crash kp).fs n = some (f.crash z) := by
 have hs := (h.crash kp).srt
 refine ⟨fun hn => lk_absent fun g hg e => ?_, fun f hf => ?_⟩
 ·obtain ⟨i, g', hg', rfl⟩ := crT_mem hg
  exact lk_none hn g' (List.mem_of_getElem? hg') e
 ·obtain ⟨i, hi, e⟩ := lk_some hf
  have hl := (List.getElem?_eq_some_iff.1 hi).1
  have hk := kpN_le kp i f (h.sf f (List.mem_of_getElem? hi))
  refine ⟨kpN kp i f, hk.1, hk.2, ?_⟩
  have hc : (D.crash kp).fs[i]? = some (f.crash (kpN kp i f)) := by
   show (crT kp D.fs.length D.fs)[i]? = _
   unfold crT
   rw [List.getElem?_mapIdx, hi]
   simp only [Option.map_some]
   rw [if_pos hl]
  have := lk_at hs hc
  rw [show (f.crash (kpN kp i f)).nm = f.nm from rfl, e] at this
  exact this
theorem crash_full {f : PF} {z : Int} (h : f.sf = (f.bs.length : Int)) (h0 : 0 ≤ z) (h1 : z ≤ (f.bs.length : Int) - f.sf) : (f.crash z).bs = f.bs := by
 have : z = 0 := by omega
 subst this
 simp only [PF.crash]
 rw [Int.add_zero, h, Int.toNat_natCast, List.take_of_length_le (Nat.le_refl _)]
theorem JI.cr {D : DV} {V : JV} {sure : Nat} (h : JI D V) (hs : SU D V sure) : CR D V.ps sure := by
 refine ⟨h.ok, h.nm, h.room, h.siz, fun kp => ?_⟩
 have hrd := h.rd
 rcases openV_at (Fk D.fs) with ⟨h1, _⟩ | ⟨m, b, hm, hb, h3, h4, h5⟩
 ·have e0 : Fk D.fs 0 = none := openV_none h1
  have e1 : Fk (D.crash kp).fs 0 = none := by
   cases hl : lk D.fs (nmS 0) with
   | none => exact Fk_none ((lk_crash h.ok kp _).1 hl)
   | some f => unfold Fk at e0; rw [hl] at e0; cases e0
  have e2 : V.ps = [] := by rw [← hrd]; exact openV_empty h1
  refine ⟨0, by have := hs.1; rw [e2] at this; exact this, Nat.zero_le _, ?_⟩
  rw [openV_zero e1, e2]
  rfl
 ·rw [hrd] at h3 h4 h5
  obtain ⟨s, s1, s2, _, s4, s5⟩ := openV_to (F := Fk D.fs) (m := m) (by rw [hrd]; exact h3)
  unfold Fk at hb
  obtain ⟨f, hf, hfb⟩ := Option.map_eq_some_iff.1 hb
  subst hfb
  have hF : ∀ j : Nat, m < j → j < 256 → Fk D.fs j = none := fun j h6 h7 => Fk_none (h.hi j (by omega) h7)
  have hV : V = s.more m f.bs := by
   rw [← hrd, s5 _ fun _ _ => rfl]
   exact rdJ_one hm (by unfold Fk; rw [hf]; rfl) hF
  have hfull : f.bs = frs (rdB f.bs) := by
   have := enB_take f.bs
   rw [h.tn] at h5
   have h6 : ¬ enB f.bs < f.bs.length := of_decide_eq_false h5.symm
   rwa [List.take_of_length_le (by omega)] at this
  obtain ⟨z, z0, z1, z2⟩ := (lk_crash h.ok kp (nmS m)).2 f hf
  have hF' : ∀ j, j < m → Fk (D.crash kp).fs j = Fk D.fs j := fun j hj => by
   obtain ⟨bj, hbj, _⟩ := s4 j hj
   unfold Fk at hbj ⊢
   obtain ⟨g, hg, _⟩ := Option.map_eq_some_iff.1 hbj
   obtain ⟨y, y0, y1, y2⟩ := (lk_crash h.ok kp (nmS j)).2 g hg
   rw [y2, hg]
   simp only [Option.map_some]
   rw [crash_full (h.lo j g (by omega) hg) y0 y1]
  have hsf := h.ok.sf f (by obtain ⟨i, hi, _⟩ := lk_some hf; exact List.mem_of_getElem? hi)
  have hread : openV (Fk (D.crash kp).fs) = s.more m (f.crash z).bs := by
   rw [s5 _ hF']
   exact rdJ_one hm (by unfold Fk; rw [z2]; rfl) fun j h6 h7 => Fk_none ((lk_crash h.ok kp _).1 (h.hi j (by omega) h7))
  obtain ⟨k, k1, k2, _, k4⟩ := rdB_cut (rdB f.bs) (f.sf + z).toNat (rdB_all f.bs)
  rw [← hfull] at k2
  obtain ⟨j, j1, j2, j3⟩ := hs.2 m f h3 hf
  have hjk := k4 j j2 (by omega)
  have hlen : V.ps.length = s.ps.length + (rdB f.bs).length := by rw [hV]; simp [JV.more]
  refine ⟨s.ps.length + k, by omega, by omega, ?_⟩
  rw [hread, hV]
  show s.ps ++ rdB (f.bs.take (f.sf + z).toNat) = (s.ps ++ rdB f.bs).take (s.ps.length + k)
  rw [k2, List.take_length_add_append]
theorem CR.opened {D D' : DV} {all : List (List Int)} {sure : Nat} {kp : List Int} (h : CR D all sure) (hM : MPost (D.crash kp) D' 0 (openV (Fk (D.crash kp).fs))) : ∃ k, sure ≤ k ∧ k ≤ all.length ∧ (openV (Fk (D.crash kp).fs)).ps = all.take k ∧ JI D' { openV (Fk (D.crash kp).fs) with torn := false } ∧ SU D' { openV (Fk (D.crash kp).fs) with torn := false } k ∧ D'.out = false := by
 obtain ⟨k, k1, k2, k3⟩ := h.rd kp
 rcases hM.ans with ⟨_, ho, hMe⟩ | ⟨h1, _⟩
 ·have hV := openV_mended hMe
  have hsafe := hM.safe (crash_safe h.ok kp)
  have hnm : ∀ f ∈ D'.fs, ∃ j : Nat, j < 256 ∧ f.nm = nmS j := fun f hf => by
   obtain ⟨g, hg, e⟩ := hM.nms f hf
   obtain ⟨i, g', hg', rfl⟩ := crT_mem hg
   rw [← e]
   exact h.nm g' (List.mem_of_getElem? hg')
  have hsiz : ∀ f ∈ D'.fs, f.bs.length ≤ 1114128 := fun f hf => by
   obtain ⟨j, hj, e⟩ := hnm f hf
   have e1 := lk_mem hM.ok.srt hf
   rw [e] at e1
   have hc : ∀ (b : List Int), Fk (D.crash kp).fs j = some b → b.length ≤ 1114128 := fun b hb => by
    unfold Fk at hb
    obtain ⟨g, hg, rfl⟩ := Option.map_eq_some_iff.1 hb
    obtain ⟨i, hi, _⟩ := lk_some hg
    obtain ⟨i', g', hg', rfl⟩ := crT_mem (List.mem_of_getElem? hi)
    have := h.siz g' (List.mem_of_getElem? hg')
    simp only [PF.crash, List.length_take]
    omega
   have hFj : Fk D'.fs j = some f.bs := by unfold Fk; rw [e1]; rfl
   rcases Int.lt_trichotomy (j : Int) (openV (Fk (D.crash kp).fs)).pr with h1 | h1 | h1
   ·rw [hMe.low j h1] at hFj
    exact hc _ hFj
   ·rw [hMe.at' j h1] at hFj
    obtain ⟨b, hb, e2⟩ := Option.map_eq_some_iff.1 hFj
    have := hc b hb
    rw [← e2, List.length_take]
    omega
   ·rw [hMe.high j h1 hj] at hFj
    cases hFj
  refine ⟨k, k1, k2, k3, ⟨hM.ok, hV, rfl, fun j h1 h2 => ?_, hnm, fun j f _ hf => ?_, ?_, hsiz⟩, ⟨?_, fun m f hm hf => ?_⟩, ho⟩
  ·have := hMe.high j h1 h2
   cases hl : lk D'.fs (nmS j) with
   | none => rfl
   | some f => unfold Fk at this; rw [hl] at this; cases this
  ·obtain ⟨i, hi, _⟩ := lk_some hf
   exact hsafe f (List.mem_of_getElem? hi)
  ·rw [hM.room]
   exact h.room
  ·show k ≤ (openV (Fk (D.crash kp).fs)).ps.length
   rw [k3, List.length_take]
   omega
  ·obtain ⟨i, hi, _⟩ := lk_some hf
   have h1 := hsafe f (List.mem_of_getElem? hi)
   refine ⟨(rdB f.bs).length, ?_, Nat.le_refl _, ?_⟩
   ·rw [List.take_of_length_le (Nat.le_refl _), h1, Int.toNat_natCast]
    exact enB_le f.bs
   ·show k + _ ≤ (openV (Fk (D.crash kp).fs)).ps.length + _
    rw [k3, List.length_take]
    omega
 ·cases h1
theorem layUp_byte (s : Nat → Int) : ∀ t i, 0 ≤ layUp s t i ∧ layUp s t i < 256
 | 0, i => by simp [layUp]
 | t + 1, i => by
  have h := layUp_byte s t i
  have hm : ∀ x : Int, 0 ≤ x % 256 ∧ x % 256 < 256 := fun x => by omega
  unfold layUp upd
  repeat' split
  ·exact hm _
  ·exact hm _
  ·exact hm _
  ·exact hm _
  ·exact h
theorem fr_byts {p : List Int} (h : Byts p) : Byts (fr p) := fun c hc => by
 unfold fr at hc
 rcases List.mem_append.1 hc with hc | hc
 ·obtain ⟨i, _, rfl⟩ := List.mem_map.1 hc
  unfold hdF
  have hb : ∀ k, 0 ≤ byN (p.length : Int) k ∧ byN (p.length : Int) k < 256 := fun k => by unfold byN; omega
  split
  ·exact hb _
  ·split
   ·have := hb (i - 4); omega
   ·exact layUp_byte _ _ _
 ·exact h c hc
theorem usd_le {fs : List PF} (h : ∀ f ∈ fs, f.bs.length ≤ 1114128) : usd fs ≤ (fs.length : Int) * 1114128 := by
 induction fs with
 | nil => simp [usd]
 | cons f r ih =>
  have h1 := ih fun g hg => h g (by simp [hg])
  have h2 := h f (by simp)
  simp only [usd, List.map_cons, List.sum_cons, List.length_cons] at h1 ⊢
  push_cast
  omega
theorem JI.act {D : DV} {V : JV} (h : JI D V) : JI D.act V := ⟨h.ok.act, h.rd, h.tn, h.hi, h.nm, h.lo, h.room, h.siz⟩
theorem SU.act {D : DV} {V : JV} {sure : Nat} (h : SU D V sure) : SU D.act V sure := h
theorem SU.less {D : DV} {V : JV} {a b : Nat} (h : SU D V a) (hb : b ≤ a) : SU D V b := ⟨by have := h.1; omega, fun m f hm hf => by
 obtain ⟨j, h1, h2, h3⟩ := h.2 m f hm hf
 exact ⟨j, h1, h2, by omega⟩⟩
theorem JI.last {D : DV} {V : JV} {m : Nat} (h : JI D V) (hp : V.pr = (m : Int)) : m < 256 ∧ ∃ (f : PF) (s : JV), lk D.fs (nmS m) = some f ∧ V.sz = (f.bs.length : Int) ∧ f.bs = frs (rdB f.bs) ∧ V = s.more m f.bs ∧ s.pr = (m : Int) - 1 ∧ s.torn = false ∧ (∀ j, j < m → ∃ b, Fk D.fs j = some b ∧ enB b = b.length) ∧ ∀ F' : Nat → Option (List Int), (∀ j, j < m → F' j = Fk D.fs j) → openV F' = rdJ F' (256 - m) m s := by
 have hrd := h.rd
 rcases openV_at (Fk D.fs) with ⟨h1, _⟩ | ⟨m', b, hm, hb, h3, h4, h5⟩
 ·rw [hrd] at h1; omega
 ·rw [hrd] at h3 h4 h5
  obtain rfl : m' = m := by omega
  obtain ⟨s, s1, s2, _, s4, s5⟩ := openV_to (F := Fk D.fs) (m := m') (by rw [hrd]; exact h3)
  unfold Fk at hb
  obtain ⟨f, hf, hfb⟩ := Option.map_eq_some_iff.1 hb
  subst hfb
  have hen : enB f.bs = f.bs.length := by
   rw [h.tn] at h5
   have h6 : ¬ enB f.bs < f.bs.length := of_decide_eq_false h5.symm
   have := enB_le f.bs
   omega
  have hV : V = s.more m' f.bs := by
   rw [← hrd, s5 _ fun _ _ => rfl]
   exact rdJ_one hm (by unfold Fk; rw [hf]; rfl) fun j h6 h7 => Fk_none (h.hi j (by omega) h7)
  refine ⟨hm, f, s, hf, by rw [h4, hen], ?_, hV, s1, s2, s4, s5⟩
  have := enB_take f.bs
  rwa [List.take_of_length_le (by omega)] at this
theorem lk_syn {D : DV} {i m : Nat} {f : PF} (hs : Srt D.fs) (hf : D.fs[i]? = some f) (hn : f.nm = nmS m) (j : Nat) : lk (D.sync i).fs (nmS j) = if m = j then some f.sync else lk D.fs (nmS j) := by
 have e : (D.sync i).fs = D.fs.set i f.sync := sync_set _ _ _ hf
 rw [e, lk_set (g := f.sync) hs hf rfl, hn]
 by_cases e : m = j
 ·rw [if_pos (by rw [e]), if_pos e]
 ·rw [if_neg fun h => e (nmS_inj h), if_neg e]
theorem JI.sync {D : DV} {V : JV} {i m : Nat} {f : PF} (h : JI D V) (hp : V.pr = (m : Int)) (hf : D.fs[i]? = some f) (hn : f.nm = nmS m) : JI (D.sync i) V ∧ SU (D.sync i) V V.ps.length := by
 have hl := lk_syn h.ok.srt hf hn
 have hkf : lk D.fs (nmS m) = some f := by rw [← hn]; exact lk_at h.ok.srt hf
 have hF : Fk (D.sync i).fs = Fk D.fs := by
  funext j
  unfold Fk
  rw [hl]
  split
  ·rename_i e; subst e; rw [hkf]; rfl
  ·rfl
 have e : (D.sync i).fs = D.fs.set i f.sync := sync_set _ _ _ hf
 have hmem : ∀ g ∈ (D.sync i).fs, g ∈ D.fs ∨ g = f.sync := fun g hg => by rw [e] at hg; exact set_sub hg
 have hfm := List.mem_of_getElem? hf
 refine ⟨⟨h.ok.sync hf, by rw [hF]; exact h.rd, h.tn, fun j h1 h2 => ?_, fun g hg => ?_, fun j g h1 h2 => ?_, h.room, fun g hg => ?_⟩, Nat.le_refl _, fun m' g h1 h2 => ?_⟩
 ·rw [hl, if_neg (by omega)]; exact h.hi j h1 h2
 ·rcases hmem g hg with hg | rfl
  ·exact h.nm g hg
  ·exact h.nm f hfm
 ·rw [hl, if_neg (by omega)] at h2; exact h.lo j g h1 h2
 ·rcases hmem g hg with hg | rfl
  ·exact h.siz g hg
  ·exact h.siz f hfm
 ·obtain rfl : m' = m := by omega
  rw [hl, if_pos rfl] at h2
  injection h2 with h2
  subst h2
  refine ⟨(rdB f.bs).length, ?_, Nat.le_refl _, Nat.le_refl _⟩
  rw [show f.sync.bs = f.bs from rfl, List.take_of_length_le (Nat.le_refl _)]
  show enB f.bs ≤ (f.bs.length : Int).toNat
  rw [Int.toNat_natCast]
  exact enB_le f.bs
theorem JI.big {D : DV} {fs : List PF} (hl : fs.length ≤ 256) (hs : ∀ f ∈ fs, f.bs.length ≤ 1114128) : usd fs ≤ 1000000000 := by
 have := usd_le hs
 have h2 : (fs.length : Int) * 1114128 ≤ 256 * 1114128 := Int.mul_le_mul_of_nonneg_right (by omega) (by omega)
 omega
def JV.app (V : JV) (m : Nat) (p : List Int) : JV := ⟨V.ps ++ [p], V.pl ++ [((m : Int), V.sz)], (m : Int), V.sz + 16 + (p.length : Int), false⟩
theorem rdB_snoc {b p : List Int} (hb : b = frs (rdB b)) (hp : PayOk p) : rdB (b ++ fr p) = rdB b ++ [p] ∧ enB (b ++ fr p) = (b ++ fr p).length := by
 have e : b ++ fr p = frs (rdB b ++ [p]) := by rw [frs_app, ← hb]; simp [frs]
 have h1 : rdB (b ++ fr p) = rdB b ++ [p] := by
  rw [e]
  exact rdB_self _ fun q hq => by
   rcases List.mem_append.1 hq with hq | hq
   ·exact rdB_all b q hq
   ·rw [List.mem_singleton.1 hq]; exact hp
 refine ⟨h1, ?_⟩
 unfold enB
 rw [h1, ← e]
theorem JI.app {D : DV} {V : JV} {i m sure : Nat} {f : PF} {p : List Int} (h : JI D V) (hs : SU D V sure) (hp : V.pr = (m : Int)) (hf : D.fs[i]? = some f) (hn : f.nm = nmS m) (hpo : PayOk p) (hpb : Byts p) (hsz : f.bs.length + 16 + p.length ≤ 1114128) : JI (D.appIs i f (fr p)) (V.app m p) ∧ SU (D.appIs i f (fr p)) (V.app m p) sure := by
 obtain ⟨hm, f', s, hf', hz, hfull, hV, s1, s2, s4, s5⟩ := h.last hp
 have hkf : lk D.fs (nmS m) = some f := by rw [← hn]; exact lk_at h.ok.srt hf
 rw [hkf] at hf'
 injection hf' with hf'
 subst hf'
 obtain ⟨e1, e2⟩ := rdB_snoc hfull hpo
 have hl : ∀ j : Nat, lk (D.appIs i f (fr p)).fs (nmS j) = if m = j then some (f.app (fr p)) else lk D.fs (nmS j) := fun j => by
  show lk (D.fs.set i (f.app (fr p))) (nmS j) = _
  rw [lk_set (g := f.app (fr p)) h.ok.srt hf rfl, hn]
  by_cases e : m = j
  ·rw [if_pos (by rw [e]), if_pos e]
  ·rw [if_neg fun h => e (nmS_inj h), if_neg e]
 have hfm := List.mem_of_getElem? hf
 have hmem : ∀ g ∈ (D.appIs i f (fr p)).fs, g ∈ D.fs ∨ g = f.app (fr p) := fun g hg => set_sub (fs := D.fs) hg
 have hsiz : ∀ g ∈ (D.appIs i f (fr p)).fs, g.bs.length ≤ 1114128 := fun g hg => by
  rcases hmem g hg with hg | rfl
  ·exact h.siz g hg
  ·show (f.bs ++ fr p).length ≤ _
   rw [List.length_append, fr_len]
   omega
 have hlen : (D.appIs i f (fr p)).fs.length ≤ 256 := by show (D.fs.set i _).length ≤ 256; rw [List.length_set]; exact h.ok.len
 have hVapp : s.more m (f.bs ++ fr p) = V.app m p := by
  rw [hV]
  unfold JV.more JV.app
  simp only [e1, e2, Nat.lt_irrefl, decide_false, List.append_assoc]
  have e3 : enB f.bs = f.bs.length := by unfold enB; rw [← hfull]
  rw [plc_app, Int.zero_add, ← hfull, e3, List.length_append, fr_len]
  refine JV.mk.injEq .. |>.mpr ⟨rfl, ?_, rfl, ?_, rfl⟩
  ·rfl
  ·push_cast
   omega
 have hrd : openV (Fk (D.appIs i f (fr p)).fs) = V.app m p := by
  rw [← hVapp, s5 _ fun j hj => Fk_eq (by rw [hl, if_neg (by omega)])]
  exact rdJ_one hm (by unfold Fk; rw [hl, if_pos rfl]; rfl) fun j h6 h7 => Fk_none (by rw [hl, if_neg (by omega)]; exact h.hi j (by omega) h7)
 have hsf := h.ok.sf f hfm
 refine ⟨⟨?_, hrd, rfl, fun j h1 h2 => ?_, fun g hg => ?_, fun j g h1 h2 => ?_, h.room, hsiz⟩, ?_, fun m' g h1 h2 => ?_⟩
 ·have hok : DOk { D with fs := D.fs.set i (f.app (fr p)), used := D.used + ((fr p).length : Int) } := by
   refine ⟨srt_set h.ok.srt hf rfl, hlen, fun g hg => ?_, fun g hg => ?_, ?_, JI.big (D := D) hlen hsiz, h.ok.acts, h.ok.fuse⟩
   ·rcases hmem g hg with hg | rfl
    ·exact h.ok.sf g hg
    ·show 0 ≤ f.sf ∧ f.sf ≤ ((f.bs ++ fr p).length : Int)
     rw [List.length_append]
     omega
   ·rcases hmem g hg with hg | rfl
    ·exact h.ok.byt g hg
    ·intro c hc
     rcases List.mem_append.1 hc with hc | hc
     ·exact h.ok.byt f hfm c hc
     ·exact fr_byts hpb c hc
   ·show D.used + ((fr p).length : Int) = usd (D.fs.set i (f.app (fr p)))
    rw [usd_set hf, h.ok.used]
    show _ = _ - _ + ((f.bs ++ fr p).length : Int)
    rw [List.length_append]
    omega
  exact hok.act
 ·have h1' : (m : Int) < (j : Int) := h1
  rw [hl, if_neg (by omega)]; exact h.hi j (by omega) h2
 ·rcases hmem g hg with hg | rfl
  ·exact h.nm g hg
  ·exact h.nm f hfm
 ·have h1' : (j : Int) < (m : Int) := h1
  rw [hl, if_neg (by omega)] at h2
  exact h.lo j g (by omega) h2
 ·have := hs.1
  show sure ≤ (V.ps ++ [p]).length
  rw [List.length_append]
  omega
 ·have h1' : (m : Int) = (m' : Int) := h1
  obtain rfl : m = m' := by omega
  rw [hl, if_pos rfl] at h2
  injection h2 with h2
  subst h2
  obtain ⟨j, j1, j2, j3⟩ := hs.2 m f hp hkf
  refine ⟨j, ?_, ?_, ?_⟩
  ·show (frs ((rdB (f.bs ++ fr p)).take j)).length ≤ f.sf.toNat
   rw [e1, List.take_append_of_le_length j2]
   exact j1
  ·show j ≤ (rdB (f.bs ++ fr p)).length
   rw [e1, List.length_append]
   omega
  ·show sure + (rdB (f.bs ++ fr p)).length ≤ (V.ps ++ [p]).length + j
   rw [e1, List.length_append, List.length_append]
   omega
def JV.new (V : JV) (m : Nat) (p : List Int) : JV := ⟨V.ps ++ [p], V.pl ++ [((m : Int), 0)], (m : Int), 16 + (p.length : Int), false⟩
theorem JI.new {D : DV} {V : JV} {i m sure : Nat} {p : List Int} (h : JI D V) (hs : sure ≤ V.ps.length) (hp : V.pr = (m : Int) - 1) (hm : m < 256) (hall : ∀ (j : Nat) (f : PF), lk D.fs (nmS j) = some f → f.sf = (f.bs.length : Int)) (hf : fnd (nmS m) D.fs 0 = (i, false)) (hl256 : D.fs.length < 256) (hpo : PayOk p) (hpb : Byts p) : JI (D.appNew i (nmS m) (fr p)) (V.new m p) ∧ SU (D.appNew i (nmS m) (fr p)) (V.new m p) sure := by
 let g0 : PF := ⟨nmS m, fr p, 0⟩
 have hl : ∀ j : Nat, lk (D.appNew i (nmS m) (fr p)).fs (nmS j) = if j = m then some g0 else lk D.fs (nmS j) := fun j => by
  show lk (D.fs.take i ++ [g0] ++ D.fs.drop i) (nmS j) = _
  rw [lk_ins h.ok.srt hf rfl]
  by_cases e : j = m
  ·rw [if_pos (by rw [e]), if_pos e]
  ·rw [if_neg fun h => e (nmS_inj h), if_neg e]
 have hi := (fnd_le (nmS m) D.fs 0).2
 rw [hf] at hi
 simp only at hi
 have hmem : ∀ g ∈ (D.appNew i (nmS m) (fr p)).fs, g ∈ D.fs ∨ g = g0 := fun g hg => by
  have hg' : g ∈ D.fs.take i ++ [g0] ++ D.fs.drop i := hg
  rw [List.append_assoc, List.mem_append] at hg'
  rcases hg' with h1 | h1
  ·exact .inl (List.mem_of_mem_take h1)
  ·rcases List.mem_append.1 h1 with h1 | h1
   ·exact .inr (List.mem_singleton.1 h1)
   ·exact .inl (List.mem_of_mem_drop h1)
 have hlen : (D.appNew i (nmS m) (fr p)).fs.length ≤ 256 := by
  show (D.fs.take i ++ [g0] ++ D.fs.drop i).length ≤ 256
  simp only [List.length_append, List.length_take, List.length_drop, List.length_singleton]
  omega
 have hsiz : ∀ g ∈ (D.appNew i (nmS m) (fr p)).fs, g.bs.length ≤ 1114128 := fun g hg => by
  rcases hmem g hg with hg | rfl
  ·exact h.siz g hg
  ·show (fr p).length ≤ _
   rw [fr_len]
   have := hpo.2
   omega
 have e1 : rdB (fr p) = [p] := by have := rdB_fr p [] hpo; rwa [List.append_nil, rdB_nil] at this
 have e2 : enB (fr p) = (fr p).length := by unfold enB; rw [e1]; simp [frs]
 have hFlow : ∀ j, j < m → Fk (D.appNew i (nmS m) (fr p)).fs j = Fk D.fs j := fun j hj => Fk_eq (by rw [hl, if_neg (by omega)])
 have hFm : Fk (D.appNew i (nmS m) (fr p)).fs m = some (fr p) := by unfold Fk; rw [hl, if_pos rfl]; rfl
 have hFhi : ∀ j : Nat, m < j → j < 256 → Fk (D.appNew i (nmS m) (fr p)).fs j = none := fun j h1 h2 => Fk_none (by rw [hl, if_neg (by omega)]; exact h.hi j (by omega) h2)
 have hmore : V.more m (fr p) = V.new m p := by
  unfold JV.more JV.new
  rw [e1, e2, fr_len]
  simp [plc]
 have hrd : openV (Fk (D.appNew i (nmS m) (fr p)).fs) = V.new m p := by
  cases m with
  | zero =>
   have hV : V = JV.nil := by
    rw [← h.rd]
    exact rdJ_stay _ 256 0 JV.nil rfl (by show (openV _).pr = _; rw [h.rd, hp]; rfl)
   rw [← hmore, hV]
   exact openV_one hFm fun j h1 h2 => hFhi j h1 h2
  | succ m =>
   obtain ⟨_, f, s, hf', hz, hfull, hV, s1, s2, s4, s5⟩ := h.last (m := m) (by omega)
   have e3 : enB f.bs = f.bs.length := by unfold enB; rw [← hfull]
   rw [← hmore, s5 _ fun j hj => hFlow j (by omega), hV]
   exact rdJ_two hm (by rw [hFlow m (by omega)]; unfold Fk; rw [hf']; rfl) e3 hFm hFhi
 refine ⟨⟨?_, hrd, rfl, fun j h1 h2 => ?_, fun g hg => ?_, fun j g h1 h2 => ?_, h.room, hsiz⟩, ?_, fun m' g h1 h2 => ?_⟩
 ·have hok : DOk { D with fs := D.fs.take i ++ [g0] ++ D.fs.drop i, used := D.used + ((fr p).length : Int) } := by
   refine ⟨srt_ins h.ok.srt hf rfl, hlen, fun g hg => ?_, fun g hg => ?_, ?_, JI.big (D := D) hlen hsiz, h.ok.acts, h.ok.fuse⟩
   ·rcases hmem g hg with hg | rfl
    ·exact h.ok.sf g hg
    ·show (0 : Int) ≤ 0 ∧ (0 : Int) ≤ ((fr p).length : Int)
     omega
   ·rcases hmem g hg with hg | rfl
    ·exact h.ok.byt g hg
    ·exact fr_byts hpb
   ·show D.used + ((fr p).length : Int) = usd (D.fs.take i ++ [g0] ++ D.fs.drop i)
    rw [usd_ins, h.ok.used]
  exact hok.act
 ·have h1' : (m : Int) < (j : Int) := h1
  rw [hl, if_neg (by omega)]; exact h.hi j (by omega) h2
 ·rcases hmem g hg with hg | rfl
  ·exact h.nm g hg
  ·exact ⟨m, hm, rfl⟩
 ·have h1' : (j : Int) < (m : Int) := h1
  rw [hl, if_neg (by omega)] at h2
  exact hall j g h2
 ·show sure ≤ (V.ps ++ [p]).length
  rw [List.length_append]
  omega
 ·have h1' : (m : Int) = (m' : Int) := h1
  obtain rfl : m = m' := by omega
  rw [hl, if_pos rfl] at h2
  injection h2 with h2
  subst h2
  refine ⟨0, by simp [frs], Nat.zero_le _, ?_⟩
  show sure + (rdB (fr p)).length ≤ (V.ps ++ [p]).length + 0
  rw [e1, List.length_append]
  simp
  exact hs
end Go.Proofs.YtennogmeeefopaaDoor
