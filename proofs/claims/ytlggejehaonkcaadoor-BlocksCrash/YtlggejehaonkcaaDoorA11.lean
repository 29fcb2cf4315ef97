import Derived.Test.YtlggejehaonkcaaDoorA10
import Derived.Deep.RegionHeld3
import Derived.Lib.Small
import Derived.Lib.ConvBytes
namespace Go.Proofs.YtlggejehaonkcaaDoor
open Go.RowKit
set_option linter.unusedSimpArgs false
set_option linter.unusedVariables false

def DskN (w : World) (d p : Nat) (D : DV) (N : Nat → Prop) : Prop := Blk w d 53 #[ptr p] ∧ ∃ vf cs, DskAt w p vf cs D ∧ ∀ k, DskS p vf cs k → N k
theorem DskAt.sLt {w : World} {p : Nat} {vf : Value} {cs : List FC} {D : DV} (h : DskAt w p vf cs D) {k : Nat} (hk : DskS p vf cs k) : k < w.heap.size := by
 rcases h.sTyp hk with h | h | h <;> exact h.lt
theorem DskN.grown {w w' : World} {d p : Nat} {D : DV} {N S : Nat → Prop} (h : DskN w d p D N) (hg : Grown w w' S) (hd : ¬ S d) (hs : ∀ k, k < w.heap.size → N k → ¬ S k) : DskN w' d p D N := by
 obtain ⟨h1, vf, cs, h2, h3⟩ := h
 refine ⟨hg.blk h1 hd, vf, cs, ?_, h3⟩
 have hl : ∀ k, DskS p vf cs k → ¬ S k := fun k hk => hs k (h2.sLt hk) (h3 k hk)
 refine ⟨hg.blk h2.blk (hl p (.inl rfl)), h2.own.grown hg fun k hk => hl k (.inr (.inl hk)), h2.fcs.len, fun i x f hx hf => ?_, h2.fcs.apart⟩
 have h4 := h2.fcs.each i x f hx hf
 exact ⟨h4.1, h4.2.1, h4.2.2.grown hg fun k hk => hl k (.inr (.inr ⟨i, x, hx, hk⟩))⟩
theorem DskN.below {w w' : World} {d p : Nat} {D : DV} {N : Nat → Prop} (h : DskN w d p D N) (hb : Below w.heap.size w w') : DskN w' d p D N := h.grown (Grown.below (S := fun _ => False) hb) (fun h => h) fun _ _ _ h => h
def JAt (w : World) (j d : Nat) (V : JV) (la de : Bool) (M : Nat → Prop) : Prop := M j ∧ ∃ vp, Blk w j 81 (jA d vp V.pr V.sz la de) ∧ OwnP w vp V.pl ∧ ∀ k, vp.ownBlock = some k → M k
theorem JAt.grown {w w' : World} {j d : Nat} {V : JV} {la de : Bool} {M S : Nat → Prop} (h : JAt w j d V la de M) (hg : Grown w w' S) (hs : ∀ k, M k → ¬ S k) : JAt w' j d V la de M := by
 obtain ⟨h0, vp, h1, h2, h3⟩ := h
 exact ⟨h0, vp, hg.blk h1 (hs j h0), h2.grown hg fun k hk => hs k (h3 k hk), h3⟩
def OpenPost (D : DV) (d p : Nat) (N : Nat → Prop) (w : World) (e : Ending) (w' : World) : Prop :=
  ∃ (ee : Int) (D' : DV) (B : Nat), MPost D D' ee (openV (Fk D.fs)) ∧ w.heap.size ≤ B ∧ B ≤ w'.heap.size ∧ DskN w' d p D' (fun k => (N k ∨ B ≤ k) ∧ k < w'.heap.size) ∧ Grown w w' N ∧
    ((ee = 0 ∧ ∃ j vl, e = .returned (.tuple #[ptr j, vl, .int .i64 0]) ∧ JAt w' j d (openV (Fk D.fs)) false false (fun k => w.heap.size ≤ k ∧ k < B) ∧ RwN w' vl (openV (Fk D.fs)).ps fun k => w.heap.size ≤ k ∧ k < B) ∨
     (ee = 7 ∧ e = .returned (.tuple #[.pointer none, .slice none 0 0, .int .i64 7])))
set_option maxRecDepth 8000 in
set_option maxHeartbeats 4000000 in
theorem open_any (d p : Nat) (D : DV) (N : Nat → Prop) (w : World) (hT : Tab w) (hDN : DskN w d p D N) (hN0 : ¬ N 0) (hNd : ¬ N d) (hNl : ∀ k, N k → k < w.heap.size) (hOk : DOk D) (hO : D.out = false) (hA : D.acts ≤ 4611686018427380000) :
  Calls Tryd.prog 14 #[ptr d] w (OpenPost D d p N w) := by
 obtain ⟨hDk, vf, cs, hD, hN⟩ := hDN
 have HT := Keep.mk hT
 have HDk := Keep.mk hDk
 have HD := Keep.mk hD
 have HN := Keep.mk hN
 have HN0 := Keep.mk hN0
 have HNd := Keep.mk hNd
 have HNl := Keep.mk hNl
 have HOk := Keep.mk hOk
 have HO := Keep.mk hO
 have HA := Keep.mk hA
 have HZ : Keep (0 < w.heap.size) := ⟨Nat.lt_of_le_of_lt (Nat.zero_le _) hDk.lt⟩
 clear hT hDk hD hN hN0 hNd hNl hOk hO hA
 go_enter Tryd.func14, Tryd.ntmps14
 refine wp_seq_k fun K1 hK1 => rgn ?_
 refine VlS (.pointer none) ?_
 refine VlS (.slice none 0 0) ?_
 refine VlS (.int .i64 0) ?_
 refine WL.nil (hK1 _ _ ?_)
 refine wp_seq_k fun K2 hK2 => ?_
 refine wp_seq_k fun K3 hK3 => rgn ?_
 refine VlS (.pointer (some ⟨d, 0, none⟩)) ?_
 refine VlS (.bool false) ?_
 refine WL.nil (hK3 _ _ ?_)
 refine wp_cond_false rfl ?_
 refine wp_skip ?_
 refine hK2 _ _ ?_
 refine wp_seq_k fun K4 hK4 => rgn ?_
 refine VlS (.pointer (some ⟨d, 0, none⟩)) ?_
 refine WL.callF (by kernel_rfl) 25 _ _ rfl Tryd.in25 #[.pointer (some ⟨d, 0, none⟩)] (by simp [Act.eval]) ?_
 refine (names_any d p vf cs D w HDk.out HD.out HO.out (by rw [HD.out.fcs.len]; have := HOk.out.len; omega)).mono ?_
 rintro e w1 ⟨vn, rfl, h1, h2, hb1⟩
 refine ⟨_, rfl, ?_⟩
 have B1 := Keep.mk hb1
 have HVn := Keep.mk h1
 have HVw := Keep.mk h2
 clear hb1 h1 h2
 simp only [Act.put, pqA, pqB, pqC]
 refine VlS (.tuple #[vn, .int .i64 0]) ?_
 refine VlS (vn) ?_
 refine VlS (.int .i64 0) ?_
 refine VlS (vn) ?_
 refine VlS (.int .i64 0) ?_
 refine WL.nil (hK4 _ _ ?_)
 refine wp_seq_k fun K5 hK5 => ?_
 refine wp_seq_k fun K6 hK6 => rgn ?_
 refine VlS (.int .i64 0) ?_
 refine VlS (.bool false) ?_
 refine WL.nil (hK6 _ _ ?_)
 refine wp_cond_false rfl ?_
 refine wp_skip ?_
 refine hK5 _ _ ?_
 refine wp_seq_k fun K7 hK7 => rgn ?_
 refine VlS (.pointer (some ⟨d, 0, none⟩)) ?_
 refine WL.bld (by kernel_rfl) 81 _ rfl [(0, ptr d), (2, .int .i64 (-1))] (by simp [Act.eval]) _ (j_built _) ?_
 simp only [Act.put, pqA, pqB, pqC]
 refine WL.box (by kernel_rfl) 81 (.tmp 22) rfl _ rfl ?_
 have HJ := Keep.mk (Blk.new w1 81 (jA d (.slice none 0 0) (-1) 0 false false))
 have hbx := below_new w1 (.cells (jA d (.slice none 0 0) (-1) 0 false false) 81)
 have B2 : Keep (Below w.heap.size w (w1.alloc (.cells (jA d (.slice none 0 0) (-1) 0 false false) 81))) := ⟨B1.out.trans (hbx.mono B1.out.size)⟩
 have HVn2 := Keep.mk (HVn.out.below hbx)
 clear hbx HVn
 generalize w1.alloc (.cells (jA d (.slice none 0 0) (-1) 0 false false) 81) = w2 at *
 obtain ⟨g, hg⟩ : ∃ p, Keep (p = w1.heap.size) := ⟨_, ⟨rfl⟩⟩
 rw [← hg.out] at HJ ⊢
 have hlt2 : Keep (g < w2.heap.size ∧ w.heap.size ≤ g) := ⟨HJ.out.lt, by rw [hg.out]; exact B1.out.size⟩
 simp only [Act.put, pqA, pqB, pqC]
 refine VlS (.pointer (some ⟨g, 0, none⟩)) ?_
 refine WL.nil (hK7 _ _ ?_)
 refine wp_seq_k fun K8 hK8 => rgn ?_
 refine VlS (.pointer (some ⟨g, 0, none⟩)) ?_
 refine VlS (vn) ?_
 refine WL.callF (by kernel_rfl) 26 _ _ rfl Tryd.in26 #[ptr g, vn] (by simp [Act.eval]) ?_
 refine (read_any g d p vn vf cs D w2 (HT.out.below B2.out HZ.out) (by have := hlt2.out; have := HZ.out; omega) HJ.out (HDk.out.below B2.out HDk.out.lt) (HD.out.below B2.out) HOk.out HO.out HVn2.out).mono ?_
 rintro e w3 ⟨vl, vp, rfl, hR⟩
 refine ⟨_, rfl, ?_⟩
 have R3 := Keep.mk hR
 clear hR
 obtain ⟨tn, htn⟩ : ∃ z, Keep (z = (openV (Fk D.fs)).torn) := ⟨_, ⟨rfl⟩⟩
 rw [← htn.out]
 have GW3 : Keep (Grown w w3 fun _ => False) := ⟨(Grown.below B2.out).next R3.out.gr fun k hk e => by have := hlt2.out; omega⟩
 obtain ⟨xa, xc, hvl⟩ := R3.out.row.form
 subst hvl
 obtain ⟨xn, hxn⟩ : ∃ z, Keep (z = (openV (Fk D.fs)).ps.length) := ⟨_, ⟨rfl⟩⟩
 rw [← hxn.out] at R3 ⊢
 simp only [Act.put, pqA, pqB, pqC]
 refine VlS (.tuple #[.slice xa xn xc, .bool tn, .int .i64 0]) ?_
 refine VlS (.slice xa xn xc) ?_
 refine VlS (.bool tn) ?_
 refine VlS (.int .i64 0) ?_
 refine VlS (.slice xa xn xc) ?_
 refine VlS (.bool tn) ?_
 refine VlS (.int .i64 0) ?_
 refine WL.nil (hK8 _ _ ?_)
 refine wp_seq_k fun K9 hK9 => ?_
 refine wp_seq_k fun K10 hK10 => rgn ?_
 refine VlS (.int .i64 0) ?_
 refine VlS (.bool false) ?_
 refine WL.nil (hK10 _ _ ?_)
 refine wp_cond_false rfl ?_
 refine wp_skip ?_
 refine hK9 _ _ ?_
 refine wp_seq_k fun K11 hK11 => ?_
 refine wp_seq_k fun K12 hK12 => rgn ?_
 refine VlS (.pointer (some ⟨g, 0, none⟩)) ?_
 refine VlS (vn) ?_
 refine VlS (.bool tn) ?_
 refine WL.callF (by kernel_rfl) 27 _ _ rfl Tryd.in27 #[ptr g, vn, .bool tn] (by simp [Act.eval]) ?_
 refine (mend_any g d p vn vf vp cs D (openV (Fk D.fs)) tn false false N w3 (HT.out.grown GW3.out (fun h => h)) R3.out.blk (GW3.out.blk HDk.out fun h => h) (HD.out.grown GW3.out fun _ _ h => h) HN.out ⟨HN0.out, fun h => by have := HNl.out g h; have := hlt2.out; omega, HNd.out, fun k hk h => by have h1 := HNl.out k h; have h2 := HVw.out k hk; omega⟩ HOk.out HO.out HA.out (HVn2.out.grown R3.out.gr fun k hk e => by subst e; have := (HVn2.out.typ hk).one HJ.out.typ; revert this; decide) rfl htn.out.symm).mono ?_
 rintro e w4 ⟨ee, D', vf4, cs4, rfl, h1, h2, h3, h4⟩
 refine ⟨_, rfl, ?_⟩
 have MP := Keep.mk h1
 have D4 := Keep.mk h2
 have N4 := Keep.mk h3
 have G4 := Keep.mk h4
 clear h1 h2 h3 h4
 simp only [Act.put, pqA, pqB, pqC]
 refine VlS (.int .i64 ee) ?_
 refine WL.nil (hK12 _ _ ?_)
 refine wp_seq_k fun K13 hK13 => ?_
 rcases MP.out.ans with ⟨he, ho, hm⟩ | ⟨he, ho, hm⟩
 ·subst he
  refine rgn ?_
  refine VlS (.int .i64 0) ?_
  refine VlS (.bool false) ?_
  refine WL.nil (hK13 _ _ ?_)
  refine wp_cond_false rfl ?_
  refine wp_skip ?_
  refine hK11 _ _ ?_
  refine wp_seq_k fun K14 hK14 => rgn ?_
  refine VlS (.pointer (some ⟨g, 0, none⟩)) ?_
  refine VlS (.slice xa xn xc) ?_
  refine VlS (.pointer (some ⟨g, 0, none⟩)) ?_
  refine VlS (.slice xa xn xc) ?_
  refine VlS (.int .i64 0) ?_
  refine WL.nil (hK14 _ _ ?_)
  refine wp_ret ?_
  go_ret3
  have hs3 : w.heap.size ≤ w3.heap.size := GW3.out.size
  have hs4 : w3.heap.size ≤ w4.heap.size := G4.out.size
  have hGW : Grown w w4 N := (GW3.out.mono fun k _ h => h.elim).next G4.out fun k _ h => h
  have hDN : DskN w4 d p D' (fun k => (N k ∨ w3.heap.size ≤ k) ∧ k < w4.heap.size) := ⟨hGW.blk HDk.out HNd.out, vf4, cs4, D4.out, fun k hk => ⟨N4.out k hk, D4.out.sLt hk⟩⟩
  refine ⟨0, D', w3.heap.size, MP.out, hs3, hs4, hDN, hGW, .inl ⟨rfl, g, .slice xa xn xc, rfl, ?_, ?_⟩⟩
  ·refine ⟨⟨hlt2.out.2, Nat.lt_of_lt_of_le hlt2.out.1 R3.out.gr.size⟩, vp, G4.out.blk R3.out.blk fun h => by have := HNl.out g h; have := hlt2.out; omega, R3.out.own.grown G4.out fun k hk h => by have h1 := HNl.out k h; have h2 := R3.out.new k hk; have h3 := B2.out.size; omega, fun k hk => ⟨Nat.le_trans B2.out.size (R3.out.new k hk), (R3.out.own.typ hk).lt⟩⟩
  ·have h := R3.out.row.rwn.grown G4.out fun k hk h1 h2 => by have h3 := HNl.out k h2; have h4 := B2.out.size; omega
   exact h.mono (fun k _ h1 => ⟨Nat.le_trans B2.out.size h1.1, h1.2⟩) fun i _ x k _ _ h1 => ⟨Nat.le_trans B2.out.size h1.1, h1.2⟩
 ·subst he
  refine rgn ?_
  refine VlS (.int .i64 7) ?_
  refine VlS (.bool true) ?_
  refine WL.nil (hK13 _ _ ?_)
  refine wp_cond_true rfl ?_
  refine wp_seq_k fun K15 hK15 => rgn ?_
  refine VlS (.int .i64 7) ?_
  refine VlS (.pointer none) ?_
  refine VlS (.slice none 0 0) ?_
  refine VlS (.int .i64 7) ?_
  refine WL.nil (hK15 _ _ ?_)
  refine wp_ret ?_
  go_ret3
  have hs3 : w.heap.size ≤ w3.heap.size := GW3.out.size
  have hs4 : w3.heap.size ≤ w4.heap.size := G4.out.size
  have hGW : Grown w w4 N := (GW3.out.mono fun k _ h => h.elim).next G4.out fun k _ h => h
  have hDN : DskN w4 d p D' (fun k => (N k ∨ w3.heap.size ≤ k) ∧ k < w4.heap.size) := ⟨hGW.blk HDk.out HNd.out, vf4, cs4, D4.out, fun k hk => ⟨N4.out k hk, D4.out.sLt hk⟩⟩
  exact ⟨7, D', w3.heap.size, MP.out, hs3, hs4, hDN, hGW, .inr ⟨rfl, rfl⟩⟩
theorem dec_range (u : Nat) : ∀ c ∈ Lib.decDigits u, 48 ≤ c.toNat ∧ c.toNat ≤ 57 := by
 induction u using Nat.strongRecOn with
 | ind u ih =>
  intro c hc
  rw [Lib.decDigits] at hc
  split at hc
  ·rename_i h
   rw [List.mem_singleton.1 hc]
   have : (UInt8.ofNat (48 + u)).toNat = 48 + u := by simp; omega
   omega
  ·rename_i h
   rcases List.mem_append.1 hc with hc | hc
   ·exact ih (u / 10) (by omega) c hc
   ·rw [List.mem_singleton.1 hc]
    have : (UInt8.ofNat (48 + u % 10)).toNat = 48 + u % 10 := by simp; omega
    omega
theorem rep_range : ∀ (k : Nat), ∀ c ∈ Lib.repeatL [48] k, c.toNat = 48
 | 0, c, h => by simp [Lib.repeatL] at h
 | k + 1, c, h => by
  rw [Lib.repeatL] at h
  rcases List.mem_append.1 h with h | h
  ·rw [List.mem_singleton.1 h]; rfl
  ·exact rep_range k c h
theorem nm_rgt {k : Nat} (hk : k < 10000) : rgt (nmS k) = true := by
 have hl := nmS_list k
 have hd := dig_len hk
 have hsz : (nmS k).size = 5 := by
  show (nmS k).data.size = 5
  rw [← Array.length_toList, hl, List.length_cons, List.length_append, Lib.repeatL_length]
  simp
  omega
 unfold rgt
 rw [hsz]
 have hal : (lst (nmS k)).all okC = true := by
  rw [List.all_eq_true]
  intro c hc
  have hc' : ∃ b ∈ (nmS k).data.toList, c = (b.toNat : Int) := by
   unfold lst at hc
   simp only [List.mem_map] at hc
   obtain ⟨b, hb, e⟩ := hc
   exact ⟨b, by simpa using hb, e.symm⟩
  obtain ⟨b, hb, rfl⟩ := hc'
  rw [hl] at hb
  unfold okC
  rcases List.mem_cons.1 hb with rfl | hb
  ·decide
  ·rcases List.mem_append.1 hb with hb | hb
   ·rw [rep_range _ b hb]; decide
   ·have := dec_range k b hb
    have h1 : (48 : Int) ≤ (b.toNat : Int) := by omega
    have h2 : (b.toNat : Int) ≤ 57 := by omega
    simp [h1, h2]
 rw [hal]
 decide
set_option maxRecDepth 8000 in
theorem told_dead (g d : Nat) (vp : Value) (pr sz : Int) (la de : Bool) (w : World) (hJ : Blk w g 81 (jA d vp pr sz la de)) : Calls Tryd.prog 29 #[ptr g, .int .i64 7] w fun r w' => r = .returned (.int .i64 7) ∧ Blk w' g 81 (jA d vp pr sz la true) ∧ Grown w w' fun k => k = g := by
 have HJ := Keep.mk hJ
 clear hJ
 go_enter Tryd.func29, Tryd.ntmps29
 refine wp_seq_k fun K1 hK1 => rgn ?_
 refine VlS (.int .i64 0) ?_
 refine WL.nil (hK1 _ _ ?_)
 refine wp_seq_k fun K2 hK2 => ?_
 refine wp_seq_k fun K3 hK3 => rgn ?_
 refine VlS (.int .i64 7) ?_
 refine VlS (.bool true) ?_
 refine WL.nil (hK3 _ _ ?_)
 refine wp_cond_true rfl ?_
 refine rgn ?_
 refine VlS (.pointer (some ⟨g, 0, none⟩)) ?_
 refine VlS (.pointer (some ⟨g, 0, none⟩)) ?_
 refine VlS (.pointer (some ⟨g, 5, none⟩)) ?_
 have f_o := HJ.out.frozen 5
 have cl := HJ.out.c 5 (by rfl : (jA d vp pr sz la de)[5]? = some (.bool de))
 refine WL.cell (by kernel_rfl) (w.setCell ⟨g, 5, none⟩ (.bool true)) (by go_simp) ?_
 have J1 : Keep (Blk (w.setCell ⟨g, 5, none⟩ (.bool true)) g 81 (jA d vp pr sz la true)) := ⟨HJ.out.set 5 (.bool true)⟩
 have G1 : Keep (Grown w (w.setCell ⟨g, 5, none⟩ (.bool true)) fun k => k = g) := ⟨Grown.setCell w g 5 _ fun _ => rfl⟩
 clear f_o cl
 generalize w.setCell ⟨g, 5, none⟩ (.bool true) = w1 at *
 simp only [Act.put]
 refine WL.nil (hK2 _ _ ?_)
 refine wp_seq_k fun K4 hK4 => rgn ?_
 refine VlS (.int .i64 7) ?_
 refine VlS (.int .i64 7) ?_
 refine WL.nil (hK4 _ _ ?_)
 refine wp_ret ?_
 go_ret
 exact ⟨rfl, J1.out, G1.out⟩
theorem pl_built1 (a : Int) : Tryd.prog.built 88 [(0, .int .i64 a)] = some #[.int .i64 a, .int .i64 0] := by kernel_rfl
set_option maxRecDepth 8000 in
theorem next_any (g d m : Nat) (vp : Value) (sz n : Int) (la de : Bool) (w : World) (hJ : Blk w g 81 (jA d vp (m : Int) sz la de)) (hB : m < 10000 ∧ 0 ≤ sz ∧ sz ≤ 1000000000 ∧ 0 ≤ n ∧ n ≤ 1000000000) : Calls Tryd.prog 33 #[ptr g, .int .i64 n] w fun r w' => r = .returned (.agg (if 0 < sz ∧ 65536 < sz + n then #[.int .i64 ((m : Int) + 1), .int .i64 0] else #[.int .i64 (m : Int), .int .i64 sz])) ∧ Below w.heap.size w w' := by
 have HJ := Keep.mk hJ
 have HB := Keep.mk hB
 clear hJ hB
 go_enter Tryd.func33, Tryd.ntmps33
 refine wp_seq_k fun K1 hK1 => rgn ?_
 refine WL.new (by kernel_rfl) 88 rfl _ Tryd.newPl ?_
 have HP := Keep.mk (Blk.new w 88 #[.int .i64 0, .int .i64 0])
 have B1 := Keep.mk (below_new w (.cells #[.int .i64 0, .int .i64 0] 88))
 generalize w.alloc (.cells #[.int .i64 0, .int .i64 0] 88) = w1 at *
 obtain ⟨q, hq⟩ : ∃ p, Keep (p = w.heap.size) := ⟨_, ⟨rfl⟩⟩
 rw [← hq.out] at HP ⊢
 have J1 := Keep.mk (HJ.out.below B1.out HJ.out.lt)
 have c2 := J1.out.c 2 (by rfl : (jA d vp (m : Int) sz la de)[2]? = some (.int .i64 (m : Int)))
 have c3 := J1.out.c 3 (by rfl : (jA d vp (m : Int) sz la de)[3]? = some (.int .i64 sz))
 have hm1 : ¬ (m : Int) = -1 := by omega
 have hw1 : IntKind.i64.wrap (sz + n) = sz + n := by rw [IntKind.wrap_i64]; have := HB.out; omega
 have hw2 : IntKind.i64.wrap ((m : Int) + 1) = (m : Int) + 1 := by rw [IntKind.wrap_i64]; have := HB.out; omega
 simp only [Act.put, pqA, pqB, pqC]
 refine WL.nil (hK1 _ _ ?_)
 refine wp_seq_k fun K2 hK2 => ?_
 refine wp_seq_k fun K3 hK3 => rgn ?_
 refine VlS (.pointer (some ⟨g, 0, none⟩)) ?_
 refine VlS (.pointer (some ⟨g, 0, none⟩)) ?_
 refine VlS (.pointer (some ⟨g, 2, none⟩)) ?_
 refine VlS (.int .i64 (m : Int)) ?_
 refine VlS (.bool false) ?_
 refine VlS (.bool false) ?_
 refine VlS (.pointer (some ⟨g, 0, none⟩)) ?_
 refine VlS (.pointer (some ⟨g, 0, none⟩)) ?_
 refine VlS (.pointer (some ⟨g, 3, none⟩)) ?_
 refine VlS (.int .i64 sz) ?_
 by_cases h1_10 : (0 : Int) < sz
 ·skip
  refine VlS (.bool true) ?_
  refine VlS (.bool true) ?_
  refine VlS (.pointer (some ⟨g, 0, none⟩)) ?_
  refine VlS (.pointer (some ⟨g, 0, none⟩)) ?_
  refine VlS (.pointer (some ⟨g, 3, none⟩)) ?_
  refine VlS (.int .i64 sz) ?_
  refine VlS (.int .i64 n) ?_
  refine VlS (.int .i64 (sz + n)) ?_
  by_cases h1_18 : (65536 : Int) < sz + n
  ·skip
   refine VlS (.bool true) ?_
   refine VlS (.bool true) ?_
   refine VlS (.bool true) ?_
   refine WL.nil (hK3 _ _ ?_)
   refine wp_cond_true rfl ?_
   refine wp_seq_k fun K4 hK4 => rgn ?_
   refine VlS (.pointer (some ⟨g, 0, none⟩)) ?_
   refine VlS (.pointer (some ⟨g, 0, none⟩)) ?_
   refine VlS (.pointer (some ⟨g, 2, none⟩)) ?_
   refine VlS (.int .i64 (m : Int)) ?_
   refine VlS (.int .i64 ((m : Int) + 1)) ?_
   refine WL.bld (by kernel_rfl) 88 _ rfl [(0, .int .i64 ((m : Int) + 1))] (by simp [Act.eval]) #[.int .i64 ((m : Int) + 1), .int .i64 0] (pl_built1 _) ?_
   simp only [Act.put, pqA, pqB, pqC]
   refine WL.storeR (by kernel_rfl) 88 (.tmp 4) (.tmp 31) rfl q #[.int .i64 ((m : Int) + 1), .int .i64 0] rfl rfl 88 #[.int .i64 0, .int .i64 0] HP.out (by kernel_rfl) rfl (by kernel_rfl) ?_
   have HP2 := Keep.mk (HP.out.setRow #[.int .i64 ((m : Int) + 1), .int .i64 0])
   have B2 : Keep (Below w.heap.size w (w1.setRow q #[.int .i64 ((m : Int) + 1), .int .i64 0])) := ⟨below_setRow B1.out (by rw [hq.out]; exact Nat.le_refl _) _⟩
   clear HP
   generalize w1.setRow q #[.int .i64 ((m : Int) + 1), .int .i64 0] = w2 at *
   simp only [Act.put]
   refine WL.nil (hK4 _ _ ?_)
   refine wp_ret ?_
   try simp only [Exit.inBlock, Exit.then]
   refine bodyPost_ret (v := .agg #[.int .i64 ((m : Int) + 1), .int .i64 0]) (results_cell1_row Tryd.results33 _ _ q 88 _ (0, 0) _ rfl HP2.out Tryd.underlying88 rfl (by kernel_rfl)) rfl ?_
   refine ⟨?_, B2.out⟩
   rw [if_pos ⟨by omega, by omega⟩]
  ·skip
   refine VlS (.bool false) ?_
   refine VlS (.bool false) ?_
   refine VlS (.bool false) ?_
   refine WL.nil (hK3 _ _ ?_)
   refine wp_cond_false rfl ?_
   refine wp_skip ?_
   refine hK2 _ _ ?_
   refine wp_seq_k fun K5 hK5 => ?_
   have J2 : Keep (Blk w1.drew g 81 (jA d vp (m : Int) sz la de)) := ⟨J1.out.drew⟩
   have HP0 : Keep (Blk w1.drew q 88 #[.int .i64 0, .int .i64 0]) := ⟨HP.out.drew⟩
   have B10 : Keep (Below w.heap.size w w1.drew) := ⟨B1.out.drew⟩
   clear J1 HP B1 c2 c3
   refine wp_region_held_drew (S := fun wx => wx.cell? ⟨g, 2, none⟩ = some (.int .i64 (m : Int)) ∧ wx.cell? ⟨g, 3, none⟩ = some (.int .i64 sz)) (by kernel_rfl) ⟨J2.out.c 2 rfl, J2.out.c 3 rfl⟩ (fun hHeld => ?_)
   generalize w1.drew = w3 at *
   refine tkS (i := 0) (oi := ⟨some 32, Op.move (Operand.tmp 0), 56, _, _, none⟩) (v := .pointer (some ⟨g, 0, none⟩)) rfl (Or.inl ⟨by rfl, fun w hS => by obtain ⟨hS1, hS2⟩ := hS; go_simp⟩) hHeld ?_
   refine tkS (i := 1) (oi := ⟨some 33, Op.nilCheck (Operand.tmp 32), 0, _, _, none⟩) (v := .pointer (some ⟨g, 0, none⟩)) rfl (Or.inl ⟨by rfl, fun w hS => by obtain ⟨hS1, hS2⟩ := hS; go_simp⟩) hHeld ?_
   refine tkS (i := 2) (oi := ⟨some 34, Op.fieldAddr 81 (Operand.tmp 33) 2, 0, _, _, none⟩) (v := .pointer (some ⟨g, 2, none⟩)) rfl (Or.inl ⟨by rfl, fun w hS => by obtain ⟨hS1, hS2⟩ := hS; go_simp⟩) hHeld ?_
   refine tkS (i := 3) (oi := ⟨some 35, Op.load 3 (Operand.tmp 34), 3, _, _, none⟩) (v := .int .i64 (m : Int)) rfl (Or.inl ⟨by rfl, fun w hS => by obtain ⟨hS1, hS2⟩ := hS; go_simp⟩) hHeld ?_
   refine tkS (i := 4) (oi := ⟨some 36, Op.move (Operand.tmp 0), 56, _, _, none⟩) (v := .pointer (some ⟨g, 0, none⟩)) rfl (Or.inl ⟨by rfl, fun w hS => by obtain ⟨hS1, hS2⟩ := hS; go_simp⟩) hHeld ?_
   refine tkS (i := 5) (oi := ⟨some 37, Op.nilCheck (Operand.tmp 36), 0, _, _, none⟩) (v := .pointer (some ⟨g, 0, none⟩)) rfl (Or.inl ⟨by rfl, fun w hS => by obtain ⟨hS1, hS2⟩ := hS; go_simp⟩) hHeld ?_
   refine tkS (i := 6) (oi := ⟨some 38, Op.fieldAddr 81 (Operand.tmp 37) 3, 0, _, _, none⟩) (v := .pointer (some ⟨g, 3, none⟩)) rfl (Or.inl ⟨by rfl, fun w hS => by obtain ⟨hS1, hS2⟩ := hS; go_simp⟩) hHeld ?_
   refine tkS (i := 7) (oi := ⟨some 39, Op.load 3 (Operand.tmp 38), 3, _, _, none⟩) (v := .int .i64 sz) rfl (Or.inl ⟨by rfl, fun w hS => by obtain ⟨hS1, hS2⟩ := hS; go_simp⟩) hHeld ?_
   refine tkS (i := 8) (oi := ⟨some 40, Op.build 88 #[(0, Operand.tmp 35), (1, Operand.tmp 39)], 88, _, _, none⟩) (v := .agg #[.int .i64 (m : Int), .int .i64 sz]) rfl (yieldsIf_bld (by rfl) 88 _ rfl #[(0, .int .i64 (m : Int)), (1, .int .i64 sz)] (by simp [Act.eval]) (.agg #[.int .i64 (m : Int), .int .i64 sz]) (fun w => run_bldP _ _ w)) hHeld ?_
   refine wpAnyH_ready (rs := [9]) (by kernel_rfl) (by simp) ?_
   refine AllReadyH.cons (o := ⟨none, Op.store 88 (Operand.tmp 4) (Operand.tmp 40), 0, _, _, none⟩) rfl (fun K hK => ?_) AllReadyH.nil
   rw [if_pos (by rfl)]
   refine wp_store_row 88 (.tmp 4) (.tmp 40) rfl q #[.int .i64 (m : Int), .int .i64 sz] rfl rfl 88 #[.int .i64 0, .int .i64 0] HP0.out (by kernel_rfl) rfl (by kernel_rfl) ?_
   have HP2 := Keep.mk (HP0.out.setRow #[.int .i64 (m : Int), .int .i64 sz])
   have hlq : Keep (w.heap.size ≤ q) := ⟨by rw [hq.out]; exact Nat.le_refl _⟩
   have B2 : Keep (Below w.heap.size w (w3.setRow q #[.int .i64 (m : Int), .int .i64 sz])) := ⟨below_setRow B10.out hlq.out _⟩
   have J3 : Keep (Blk (w3.setRow q #[.int .i64 (m : Int), .int .i64 sz]) g 81 (jA d vp (m : Int) sz la de)) := ⟨HJ.out.below B2.out HJ.out.lt⟩
   clear HP0
   generalize w3.setRow q #[.int .i64 (m : Int), .int .i64 sz] = w2 at *
   refine hK _ _ ⟨J3.out.c 2 rfl, J3.out.c 3 rfl⟩ fun hH => ?_
   clear hK
   simp only [Act.put, pqA, pqB, pqC]
   refine wpAnyH_done (by kernel_rfl) ?_ _
   refine hK5 _ _ ?_
   refine wp_ret ?_
   try simp only [Exit.inBlock, Exit.then]
   refine bodyPost_ret (v := .agg #[.int .i64 (m : Int), .int .i64 sz]) (results_cell1_row Tryd.results33 _ _ q 88 _ (0, 0) _ rfl HP2.out Tryd.underlying88 rfl (by kernel_rfl)) rfl ?_
   refine ⟨?_, B2.out⟩
   rw [if_neg (by omega)]
 ·skip
  refine VlS (.bool false) ?_
  refine VlS (.bool false) ?_
  refine SkS ?_
  refine SkS ?_
  refine SkS ?_
  refine SkS ?_
  refine SkS ?_
  refine SkS ?_
  refine SkS ?_
  refine VlS (.bool false) ?_
  refine VlS (.bool false) ?_
  refine WL.nil (hK3 _ _ ?_)
  refine wp_cond_false rfl ?_
  refine wp_skip ?_
  refine hK2 _ _ ?_
  refine wp_seq_k fun K6 hK6 => ?_
  have J2 : Keep (Blk w1.drew g 81 (jA d vp (m : Int) sz la de)) := ⟨J1.out.drew⟩
  have HP0 : Keep (Blk w1.drew q 88 #[.int .i64 0, .int .i64 0]) := ⟨HP.out.drew⟩
  have B10 : Keep (Below w.heap.size w w1.drew) := ⟨B1.out.drew⟩
  clear J1 HP B1 c2 c3
  refine wp_region_held_drew (S := fun wx => wx.cell? ⟨g, 2, none⟩ = some (.int .i64 (m : Int)) ∧ wx.cell? ⟨g, 3, none⟩ = some (.int .i64 sz)) (by kernel_rfl) ⟨J2.out.c 2 rfl, J2.out.c 3 rfl⟩ (fun hHeld => ?_)
  generalize w1.drew = w3 at *
  refine tkS (i := 0) (oi := ⟨some 32, Op.move (Operand.tmp 0), 56, _, _, none⟩) (v := .pointer (some ⟨g, 0, none⟩)) rfl (Or.inl ⟨by rfl, fun w hS => by obtain ⟨hS1, hS2⟩ := hS; go_simp⟩) hHeld ?_
  refine tkS (i := 1) (oi := ⟨some 33, Op.nilCheck (Operand.tmp 32), 0, _, _, none⟩) (v := .pointer (some ⟨g, 0, none⟩)) rfl (Or.inl ⟨by rfl, fun w hS => by obtain ⟨hS1, hS2⟩ := hS; go_simp⟩) hHeld ?_
  refine tkS (i := 2) (oi := ⟨some 34, Op.fieldAddr 81 (Operand.tmp 33) 2, 0, _, _, none⟩) (v := .pointer (some ⟨g, 2, none⟩)) rfl (Or.inl ⟨by rfl, fun w hS => by obtain ⟨hS1, hS2⟩ := hS; go_simp⟩) hHeld ?_
  refine tkS (i := 3) (oi := ⟨some 35, Op.load 3 (Operand.tmp 34), 3, _, _, none⟩) (v := .int .i64 (m : Int)) rfl (Or.inl ⟨by rfl, fun w hS => by obtain ⟨hS1, hS2⟩ := hS; go_simp⟩) hHeld ?_
  refine tkS (i := 4) (oi := ⟨some 36, Op.move (Operand.tmp 0), 56, _, _, none⟩) (v := .pointer (some ⟨g, 0, none⟩)) rfl (Or.inl ⟨by rfl, fun w hS => by obtain ⟨hS1, hS2⟩ := hS; go_simp⟩) hHeld ?_
  refine tkS (i := 5) (oi := ⟨some 37, Op.nilCheck (Operand.tmp 36), 0, _, _, none⟩) (v := .pointer (some ⟨g, 0, none⟩)) rfl (Or.inl ⟨by rfl, fun w hS => by obtain ⟨hS1, hS2⟩ := hS; go_simp⟩) hHeld ?_
  refine tkS (i := 6) (oi := ⟨some 38, Op.fieldAddr 81 (Operand.tmp 37) 3, 0, _, _, none⟩) (v := .pointer (some ⟨g, 3, none⟩)) rfl (Or.inl ⟨by rfl, fun w hS => by obtain ⟨hS1, hS2⟩ := hS; go_simp⟩) hHeld ?_
  refine tkS (i := 7) (oi := ⟨some 39, Op.load 3 (Operand.tmp 38), 3, _, _, none⟩) (v := .int .i64 sz) rfl (Or.inl ⟨by rfl, fun w hS => by obtain ⟨hS1, hS2⟩ := hS; go_simp⟩) hHeld ?_
  refine tkS (i := 8) (oi := ⟨some 40, Op.build 88 #[(0, Operand.tmp 35), (1, Operand.tmp 39)], 88, _, _, none⟩) (v := .agg #[.int .i64 (m : Int), .int .i64 sz]) rfl (yieldsIf_bld (by rfl) 88 _ rfl #[(0, .int .i64 (m : Int)), (1, .int .i64 sz)] (by simp [Act.eval]) (.agg #[.int .i64 (m : Int), .int .i64 sz]) (fun w => run_bldP _ _ w)) hHeld ?_
  refine wpAnyH_ready (rs := [9]) (by kernel_rfl) (by simp) ?_
  refine AllReadyH.cons (o := ⟨none, Op.store 88 (Operand.tmp 4) (Operand.tmp 40), 0, _, _, none⟩) rfl (fun K hK => ?_) AllReadyH.nil
  rw [if_pos (by rfl)]
  refine wp_store_row 88 (.tmp 4) (.tmp 40) rfl q #[.int .i64 (m : Int), .int .i64 sz] rfl rfl 88 #[.int .i64 0, .int .i64 0] HP0.out (by kernel_rfl) rfl (by kernel_rfl) ?_
  have HP2 := Keep.mk (HP0.out.setRow #[.int .i64 (m : Int), .int .i64 sz])
  have hlq : Keep (w.heap.size ≤ q) := ⟨by rw [hq.out]; exact Nat.le_refl _⟩
  have B2 : Keep (Below w.heap.size w (w3.setRow q #[.int .i64 (m : Int), .int .i64 sz])) := ⟨below_setRow B10.out hlq.out _⟩
  have J3 : Keep (Blk (w3.setRow q #[.int .i64 (m : Int), .int .i64 sz]) g 81 (jA d vp (m : Int) sz la de)) := ⟨HJ.out.below B2.out HJ.out.lt⟩
  clear HP0
  generalize w3.setRow q #[.int .i64 (m : Int), .int .i64 sz] = w2 at *
  refine hK _ _ ⟨J3.out.c 2 rfl, J3.out.c 3 rfl⟩ fun hH => ?_
  clear hK
  simp only [Act.put, pqA, pqB, pqC]
  refine wpAnyH_done (by kernel_rfl) ?_ _
  refine hK6 _ _ ?_
  refine wp_ret ?_
  try simp only [Exit.inBlock, Exit.then]
  refine bodyPost_ret (v := .agg #[.int .i64 (m : Int), .int .i64 sz]) (results_cell1_row Tryd.results33 _ _ q 88 _ (0, 0) _ rfl HP2.out Tryd.underlying88 rfl (by kernel_rfl)) rfl ?_
  refine ⟨?_, B2.out⟩
  rw [if_neg (by omega)]
def JDN (w : World) (g d p : Nat) (D : DV) (V : JV) (la de : Bool) (N : Nat → Prop) : Prop := Blk w d 53 #[ptr p] ∧ ∃ vf cs vp, DskAt w p vf cs D ∧ Blk w g 81 (jA d vp V.pr V.sz la de) ∧ OwnP w vp V.pl ∧ ∀ k, (DskS p vf cs k ∨ k = g ∨ vp.ownBlock = some k) → N k
structure JX (D : DV) (V : JV) (la : Bool) (sure : Nat) : Prop where
 ji : JI D V
 su : SU D V sure
 ls : la = false → SU D V V.ps.length
 lp : la = true → 0 ≤ V.pr
 out : D.out = false
theorem told_gen (g d : Nat) (vp : Value) (pr sz x : Int) (la de : Bool) (w : World) (hJ : Blk w g 81 (jA d vp pr sz la de)) : Calls Tryd.prog 29 #[ptr g, .int .i64 x] w fun r w' => r = .returned (.int .i64 x) ∧ (∃ de', Blk w' g 81 (jA d vp pr sz la de') ∧ (x ≠ 7 → de' = de)) ∧ Grown w w' fun k => k = g := by
 by_cases h : x = 7
 ·subst h
  refine (told_dead g d vp pr sz la de w hJ).mono ?_
  rintro e w' ⟨rfl, h1, h2⟩
  exact ⟨rfl, ⟨true, h1, fun h => absurd rfl h⟩, h2⟩
 ·refine (told_ok g x h w).mono ?_
  rintro e w' ⟨rfl, rfl⟩
  exact ⟨rfl, ⟨de, hJ, fun _ => rfl⟩, Grown.refl _ _⟩
theorem CR.more {D : DV} {all : List (List Int)} {sure : Nat} (h : CR D all sure) (p : List Int) : CR D (all ++ [p]) sure :=
 ⟨h.ok, h.nm, h.room, h.siz, fun kp => by
  obtain ⟨k, h1, h2, h3⟩ := h.rd kp
  exact ⟨k, h1, by rw [List.length_append]; omega, by rw [h3, List.take_append_of_le_length h2]⟩⟩
def JN2 (N : Nat → Prop) (a b : Nat) : Nat → Prop := fun k => (N k ∨ a ≤ k) ∧ k < b
def SynPost (D : DV) (V : JV) (sure g d p : Nat) (N : Nat → Prop) (w : World) (e : Ending) (w' : World) : Prop :=
 ∃ (ee : Int) (D' : DV) (la' de' : Bool), e = .returned (.int .i64 ee) ∧ JDN w' g d p D' V la' de' (JN2 N w.heap.size w'.heap.size) ∧ Grown w w' N ∧ (D.acts ≤ D'.acts ∧ D'.acts ≤ D.acts + 300) ∧
  ((ee = 0 ∧ de' = false ∧ JX D' V la' V.ps.length) ∨ (ee = 7 ∧ CR D' V.ps sure))
set_option maxRecDepth 8000 in
set_option maxHeartbeats 2000000 in
theorem jsync_laid (g d p : Nat) (D : DV) (V : JV) (sure : Nat) (N : Nat → Prop) (w : World) (hT : Tab w) (hDN : JDN w g d p D V true false N) (h0 : ¬ N 0) (hd : ¬ N d) (hX : JX D V true sure) (hA : D.acts ≤ 4611686018427380000) :
  Calls Tryd.prog 22 #[ptr g] w (SynPost D V sure g d p N w) := by
 obtain ⟨hDk, vf, cs, vp, hD, hJ, hP, hN⟩ := hDN
 obtain ⟨m, hm⟩ : ∃ m : Nat, Keep (V.pr = (m : Int)) := ⟨V.pr.toNat, ⟨by have := hX.lp rfl; omega⟩⟩
 obtain ⟨hm256, f, s, hf, _⟩ := hX.ji.last hm.out
 obtain ⟨i, hfi, hfn, hfd⟩ := fnd_is hX.ji.ok.srt hf
 have hm2 := Keep.mk hm256
 have HFi := Keep.mk hfi
 have HFn := Keep.mk hfn
 have HFd := Keep.mk hfd
 have HT := Keep.mk hT
 have HDk := Keep.mk hDk
 have HD := Keep.mk hD
 have HJ := Keep.mk hJ
 have HP := Keep.mk hP
 have HN := Keep.mk hN
 have H0 := Keep.mk h0
 have Hd := Keep.mk hd
 have HX := Keep.mk hX
 have HA := Keep.mk hA
 have HZ : Keep (0 < w.heap.size) := ⟨Nat.lt_of_le_of_lt (Nat.zero_le _) hDk.lt⟩
 clear hT hDk hD hJ hP hN h0 hd hX hA hf hfi hfn hfd hm256
 go_enter Tryd.func22, Tryd.ntmps22
 have c5 := HJ.out.c 5 (by rfl : (jA d vp V.pr V.sz true false)[5]? = some (.bool false))
 have c4 := HJ.out.c 4 (by rfl : (jA d vp V.pr V.sz true false)[4]? = some (.bool true))
 refine wp_seq_k fun K1 hK1 => rgn ?_
 refine VlS (.int .i64 0) ?_
 refine WL.nil (hK1 _ _ ?_)
 refine wp_seq_k fun K2 hK2 => ?_
 refine wp_seq_k fun K3 hK3 => rgn ?_
 refine VlS (.pointer (some ⟨g, 0, none⟩)) ?_
 refine VlS (.pointer (some ⟨g, 0, none⟩)) ?_
 refine VlS (.pointer (some ⟨g, 5, none⟩)) ?_
 refine VlS (.bool false) ?_
 refine WL.nil (hK3 _ _ ?_)
 refine wp_cond_false rfl ?_
 refine wp_skip ?_
 refine hK2 _ _ ?_
 refine wp_seq_k fun K4 hK4 => ?_
 refine wp_seq_k fun K5 hK5 => rgn ?_
 refine VlS (.pointer (some ⟨g, 0, none⟩)) ?_
 refine VlS (.pointer (some ⟨g, 0, none⟩)) ?_
 refine VlS (.pointer (some ⟨g, 4, none⟩)) ?_
 refine VlS (.bool true) ?_
 refine VlS (.bool false) ?_
 refine WL.nil (hK5 _ _ ?_)
 refine wp_cond_false rfl ?_
 refine wp_skip ?_
 refine hK4 _ _ ?_
 refine wp_seq_k fun K6 hK6 => ?_
 refine wp_seq_k fun K7 hK7 => ?_
 clear c5 c4
 have D4 : Keep (Below w.heap.size w w.drew) := ⟨(Below.refl _ _).drew⟩
 have HSx : Keep (∀ wx de, Blk wx g 81 (jA d vp V.pr V.sz true de) → wx.cell? ⟨g, 0, none⟩ = some (ptr d) ∧ wx.cell? ⟨g, 2, none⟩ = some (.int .i64 (m : Int))) := ⟨fun wx de h => ⟨h.c 0 rfl, by rw [← hm.out]; exact h.c 2 rfl⟩⟩
 refine wp_region_held_drew (S := fun wx => wx.cell? ⟨g, 0, none⟩ = some (ptr d) ∧ wx.cell? ⟨g, 2, none⟩ = some (.int .i64 (m : Int))) (by kernel_rfl) (HSx.out _ _ HJ.out.drew) (fun hHeld => ?_)
 refine tkS (i := 0) (oi := ⟨some 13, Op.move (Operand.tmp 0), 56, _, _, none⟩) (v := .pointer (some ⟨g, 0, none⟩)) rfl (Or.inl ⟨by rfl, fun w hS => by obtain ⟨hS1, hS2⟩ := hS; go_simp⟩) hHeld ?_
 refine tkS (i := 1) (oi := ⟨some 14, Op.move (Operand.tmp 0), 56, _, _, none⟩) (v := .pointer (some ⟨g, 0, none⟩)) rfl (Or.inl ⟨by rfl, fun w hS => by obtain ⟨hS1, hS2⟩ := hS; go_simp⟩) hHeld ?_
 refine tkS (i := 2) (oi := ⟨some 15, Op.nilCheck (Operand.tmp 14), 0, _, _, none⟩) (v := .pointer (some ⟨g, 0, none⟩)) rfl (Or.inl ⟨by rfl, fun w hS => by obtain ⟨hS1, hS2⟩ := hS; go_simp⟩) hHeld ?_
 refine tkS (i := 3) (oi := ⟨some 16, Op.fieldAddr 81 (Operand.tmp 15) 0, 0, _, _, none⟩) (v := .pointer (some ⟨g, 0, none⟩)) rfl (Or.inl ⟨by rfl, fun w hS => by obtain ⟨hS1, hS2⟩ := hS; go_simp⟩) hHeld ?_
 refine tkS (i := 4) (oi := ⟨some 17, Op.load 26 (Operand.tmp 16), 26, _, _, none⟩) (v := .pointer (some ⟨d, 0, none⟩)) rfl (Or.inl ⟨by rfl, fun w hS => by obtain ⟨hS1, hS2⟩ := hS; go_simp⟩) hHeld ?_
 refine tkS (i := 5) (oi := ⟨some 18, Op.move (Operand.tmp 0), 56, _, _, none⟩) (v := .pointer (some ⟨g, 0, none⟩)) rfl (Or.inl ⟨by rfl, fun w hS => by obtain ⟨hS1, hS2⟩ := hS; go_simp⟩) hHeld ?_
 refine tkS (i := 6) (oi := ⟨some 19, Op.nilCheck (Operand.tmp 18), 0, _, _, none⟩) (v := .pointer (some ⟨g, 0, none⟩)) rfl (Or.inl ⟨by rfl, fun w hS => by obtain ⟨hS1, hS2⟩ := hS; go_simp⟩) hHeld ?_
 refine tkS (i := 7) (oi := ⟨some 20, Op.fieldAddr 81 (Operand.tmp 19) 2, 0, _, _, none⟩) (v := .pointer (some ⟨g, 2, none⟩)) rfl (Or.inl ⟨by rfl, fun w hS => by obtain ⟨hS1, hS2⟩ := hS; go_simp⟩) hHeld ?_
 refine tkS (i := 8) (oi := ⟨some 21, Op.load 3 (Operand.tmp 20), 3, _, _, none⟩) (v := .int .i64 (m : Int)) rfl (Or.inl ⟨by rfl, fun w hS => by obtain ⟨hS1, hS2⟩ := hS; go_simp⟩) hHeld ?_
 refine wpAnyH_ready (rs := [9]) (by kernel_rfl) (by simp) ?_
 refine AllReadyH.cons (o := ⟨some 22, Op.call { callee := Callee.value (Operand.func 31), args := #[Operand.tmp 21], argTypes := #[3] }, 9, _, _, none⟩) rfl (fun K hK => ?_) AllReadyH.nil
 rw [if_pos (by rfl)]
 refine wp_callF 31 _ _ rfl Tryd.in31 #[.int .i64 (m : Int)] (by simp [Act.eval]) (fun vz wz => vz = .string (nmS m) ∧ Below w.heap.size w wz) ?_ ?_
 ·refine (name_any m (by have := hm2.out; omega) w.drew (HT.out.below D4.out HZ.out)).mono ?_
  rintro e wz ⟨rfl, h⟩
  exact ⟨_, rfl, rfl, D4.out.trans (h.mono D4.out.size)⟩
 rintro vz w5 ⟨rfl, h5⟩
 have B5 := Keep.mk h5
 clear h5
 obtain ⟨nn, hnn⟩ : ∃ s, Keep (s = nmS m) := ⟨_, ⟨rfl⟩⟩
 rw [← hnn.out]
 refine hK _ _ (HSx.out _ _ (HJ.out.below B5.out HJ.out.lt)) fun hH5 => ?_
 clear hK
 simp only [Act.put, pqA, pqB, pqC]
 refine wpAnyH_ready (rs := [10]) (by kernel_rfl) (by simp) ?_
 refine AllReadyH.cons (o := ⟨some 23, Op.call { callee := Callee.value (Operand.func 34), args := #[Operand.tmp 17, Operand.tmp 22], argTypes := #[26, 9] }, 31, _, _, none⟩) rfl (fun K hK => ?_) AllReadyH.nil
 rw [if_pos (by rfl)]
 refine wp_callF 34 _ _ rfl Tryd.in34 #[ptr d, .string nn] (by simp [Act.eval]) (fun vz wz => vz = .int .i64 (pw D) ∧ ∃ cs', DskAt wz p vf cs' (if D.fuse = 0 then D.act else D.act.sync i) ∧ (Grown w5 wz fun k => k = p ∨ vf.ownBlock = some k) ∧ ∀ k, DskS p vf cs' k → DskS p vf cs k) ?_ ?_
 ·refine (syn_is d p i nn vf cs D w5 (HDk.out.below B5.out HDk.out.lt) (HD.out.below B5.out) HX.out.out (by rw [hnn.out]; exact HFd.out) (by rw [HD.out.fcs.len]; exact HX.out.ji.ok.len) ⟨HX.out.ji.ok.acts, by have := HA.out; omega⟩ ⟨by have := HX.out.ji.ok.fuse; omega, HX.out.ji.ok.fuse.2⟩).mono ?_
  rintro e wz ⟨rfl, cs1, h1, h2, h3⟩
  exact ⟨_, rfl, rfl, cs1, h1, h2, h3⟩
 rintro vz w7 ⟨rfl, cs7, h1, h2, h3⟩
 have D7 := Keep.mk h1
 have N7 := Keep.mk h3
 have hty : ∀ k, k = p ∨ vf.ownBlock = some k → DskS p vf cs k := fun k hk => hk.elim .inl fun e => .inr (.inl e)
 have J7 : Keep (Blk w7 g 81 (jA d vp V.pr V.sz true false)) := ⟨h2.blk (HJ.out.below B5.out HJ.out.lt) fun e => by rcases HD.out.sTyp (hty _ e) with h | h | h <;> (have := h.one HJ.out.typ; revert this; decide)⟩
 have P7 : Keep (OwnP w7 vp V.pl) := ⟨(HP.out.grown (Grown.below (S := fun _ => False) B5.out) fun _ _ h => h).grown h2 fun k hk e => by rcases HD.out.sTyp (hty _ e) with h | h | h <;> (have := h.one (HP.out.typ hk); revert this; decide)⟩
 have G7 : Keep (Grown w w7 N) := ⟨(Grown.below B5.out).trans (h2.mono fun k _ e => HN.out k (.inl (hty k e)))⟩
 clear h1 h2 h3 hty
 obtain ⟨ee, hee⟩ : ∃ z, Keep (z = pw D) := ⟨_, ⟨rfl⟩⟩
 rw [← hee.out]
 refine hK _ _ (HSx.out _ _ J7.out) fun hH7 => ?_
 clear hK
 simp only [Act.put, pqA, pqB, pqC]
 refine wpAnyH_ready (rs := [11]) (by kernel_rfl) (by simp) ?_
 refine AllReadyH.cons (o := ⟨some 24, Op.call { callee := Callee.value (Operand.func 29), args := #[Operand.tmp 13, Operand.tmp 23], argTypes := #[56, 31] }, 31, _, _, none⟩) rfl (fun K hK => ?_) AllReadyH.nil
 rw [if_pos (by rfl)]
 refine wp_callF 29 _ _ rfl Tryd.in29 #[ptr g, .int .i64 ee] (by simp [Act.eval]) (fun vz wz => vz = .int .i64 ee ∧ (∃ de', Blk wz g 81 (jA d vp V.pr V.sz true de') ∧ (ee ≠ 7 → de' = false)) ∧ Grown w7 wz fun k => k = g) ?_ ?_
 ·refine (told_gen g d vp V.pr V.sz ee true false w7 J7.out).mono ?_
  rintro e wz ⟨rfl, h1, h2⟩
  exact ⟨_, rfl, rfl, h1, h2⟩
 rintro vz w8 ⟨rfl, ⟨de8, h1, h1'⟩, h2⟩
 have J8 := Keep.mk h1
 have HE8 := Keep.mk h1'
 have D8 : Keep (DskAt w8 p vf cs7 (if D.fuse = 0 then D.act else D.act.sync i)) := ⟨D7.out.grown h2 fun k hk e => by subst e; rcases hk with h | h | h <;> (have := h.one J7.out.typ; revert this; decide)⟩
 have P8 : Keep (OwnP w8 vp V.pl) := ⟨P7.out.grown h2 fun k hk e => by subst e; have := (P7.out.typ hk).one J7.out.typ; revert this; decide⟩
 have G8 : Keep (Grown w w8 N) := ⟨G7.out.trans (h2.mono fun k _ e => HN.out k (.inr (.inl e)))⟩
 clear h1 h1' h2
 refine hK _ _ (HSx.out _ _ J8.out) fun hH8 => ?_
 clear hK
 simp only [Act.put, pqA, pqB, pqC]
 refine tkS (i := 12) (oi := ⟨some 3, Op.assign (Operand.tmp 24), 31, _, _, none⟩) (v := .int .i64 ee) rfl (Or.inl ⟨by rfl, fun w hS => by obtain ⟨hS1, hS2⟩ := hS; go_simp⟩) hH8 ?_
 refine wpAnyH_done (by kernel_rfl) ?_ _
 refine hK7 _ _ ?_
 refine wp_seq_k fun K8 hK8 => ?_
 rcases Decidable.em (D.fuse = 0) with hfu | hfu
 ·have he : ee = 7 := by rw [hee.out]; unfold pw; rw [if_pos hfu]
  subst he
  have D9 := D8
  rw [if_pos hfu] at D9
  have J9 := J8
  have P9 := P8
  refine rgn ?_
  refine VlS (.int .i64 7) ?_
  refine VlS (.bool true) ?_
  refine WL.nil (hK8 _ _ ?_)
  refine wp_cond_true rfl ?_
  refine wp_seq_k fun K9 hK9 => rgn ?_
  refine VlS (.int .i64 7) ?_
  refine VlS (.int .i64 7) ?_
  refine WL.nil (hK9 _ _ ?_)
  refine wp_ret ?_
  go_ret
  exact ⟨7, D.act, true, de8, rfl, ⟨G8.out.blk HDk.out Hd.out, vf, cs7, vp, D9.out, J9.out, P9.out, fun k hk => ⟨.inl (HN.out k (hk.imp (N7.out k) id)), by rcases hk with h | h | h; exact D9.out.sLt h; rw [h]; exact J9.out.lt; exact (P9.out.typ h).lt⟩⟩, G8.out, by show D.acts ≤ D.acts + 1 ∧ D.acts + 1 ≤ D.acts + 300; omega, .inr ⟨rfl, HX.out.ji.act.cr HX.out.su.act⟩⟩
 ·have he : ee = 0 := by rw [hee.out]; unfold pw; rw [if_neg hfu]
  subst he
  have D80 := D8
  rw [if_neg hfu] at D80
  have hde : de8 = false := HE8.out (by decide)
  subst hde
  have f_o := J8.out.frozen 4
  have cl := J8.out.c 4 (by rfl : (jA d vp V.pr V.sz true false)[4]? = some (.bool true))
  refine rgn ?_
  refine VlS (.int .i64 0) ?_
  refine VlS (.bool false) ?_
  refine WL.nil (hK8 _ _ ?_)
  refine wp_cond_false rfl ?_
  refine wp_skip ?_
  refine hK6 _ _ ?_
  refine wp_seq_k fun K10 hK10 => rgn ?_
  refine VlS (.pointer (some ⟨g, 0, none⟩)) ?_
  refine VlS (.pointer (some ⟨g, 0, none⟩)) ?_
  refine VlS (.pointer (some ⟨g, 4, none⟩)) ?_
  refine WL.cell (by kernel_rfl) (w8.setCell ⟨g, 4, none⟩ (.bool false)) (by go_simp) ?_
  clear f_o cl
  have hgs : Grown w8 (w8.setCell ⟨g, 4, none⟩ (.bool false)) fun k => k = g := Grown.setCell w8 g 4 _ fun _ => rfl
  have J9 : Keep (Blk (w8.setCell ⟨g, 4, none⟩ (.bool false)) g 81 (jA d vp V.pr V.sz false false)) := ⟨J8.out.set 4 (.bool false)⟩
  have D9 : Keep (DskAt (w8.setCell ⟨g, 4, none⟩ (.bool false)) p vf cs7 (D.act.sync i)) := ⟨D80.out.grown hgs fun k hk e => by subst e; rcases hk with h | h | h <;> (have := h.one J8.out.typ; revert this; decide)⟩
  have P9 : Keep (OwnP (w8.setCell ⟨g, 4, none⟩ (.bool false)) vp V.pl) := ⟨P8.out.grown hgs fun k hk e => by subst e; have := (P8.out.typ hk).one J8.out.typ; revert this; decide⟩
  have G9 : Keep (Grown w (w8.setCell ⟨g, 4, none⟩ (.bool false)) N) := ⟨G8.out.trans (hgs.mono fun k _ e => HN.out k (.inr (.inl e)))⟩
  clear hgs
  generalize (w8.setCell ⟨g, 4, none⟩ (.bool false)) = w9 at *
  simp only [Act.put]
  refine WL.nil (hK10 _ _ ?_)
  refine wp_seq_k fun K11 hK11 => rgn ?_
  refine VlS (.int .i64 0) ?_
  refine WL.nil (hK11 _ _ ?_)
  refine wp_ret ?_
  go_ret
  obtain ⟨s1, s2⟩ := HX.out.ji.act.sync hm.out (i := i) (f := f) HFi.out HFn.out
  exact ⟨0, D.act.sync i, false, false, rfl, ⟨G9.out.blk HDk.out Hd.out, vf, cs7, vp, D9.out, J9.out, P9.out, fun k hk => ⟨.inl (HN.out k (hk.imp (N7.out k) id)), by rcases hk with h | h | h; exact D9.out.sLt h; rw [h]; exact J9.out.lt; exact (P9.out.typ h).lt⟩⟩, G9.out, by show D.acts ≤ D.acts + 1 ∧ D.acts + 1 ≤ D.acts + 300; omega, .inl ⟨rfl, rfl, ⟨s1, s2, fun _ => s2, (fun h => by cases h), by rw [← HX.out.out]; exact (act_on hfu).1⟩⟩⟩

theorem jsync_any (g d p : Nat) (D : DV) (V : JV) (la : Bool) (sure : Nat) (N : Nat → Prop) (w : World) (hT : Tab w) (hDN : JDN w g d p D V la false N) (h0 : ¬ N 0) (hd : ¬ N d) (hX : JX D V la sure) (hA : D.acts ≤ 4611686018427380000) :
  Calls Tryd.prog 22 #[ptr g] w (SynPost D V sure g d p N w) := by
 cases la with
 | true => exact jsync_laid g d p D V sure N w hT hDN h0 hd hX hA
 | false =>
  obtain ⟨hDk, vf, cs, vp, hD, hJ, hP, hN⟩ := hDN
  refine (jsync_idle g w (hJ.c 5 rfl) (hJ.c 4 rfl)).mono ?_
  rintro e w' ⟨rfl, rfl⟩
  refine ⟨0, D, false, false, rfl, ⟨hDk, vf, cs, vp, hD, hJ, hP, fun k hk => ⟨.inl (hN k hk), ?_⟩⟩, Grown.refl _ _, by omega, .inl ⟨rfl, rfl, ⟨hX.ji, hX.ls rfl, hX.ls, hX.lp, hX.out⟩⟩⟩
  rcases hk with h | h | h
  ·exact hD.sLt h
  ·rw [h]; exact hJ.lt
  ·exact (hP.typ h).lt
end Go.Proofs.YtlggejehaonkcaaDoor
namespace Go.Proofs.YtlggejehaonkcaaDoor
open Go.RowKit
theorem openV_len (F : Nat → Option (List Int)) : (openV F).pl.length = (openV F).ps.length := by
 have h : ∀ (n k : Nat) (s : JV), s.pl.length = s.ps.length → (rdJ F n k s).pl.length = (rdJ F n k s).ps.length := fun n => by
  induction n with
  | zero => intro k s h; exact h
  | succ n ih =>
   intro k s h
   rw [rdJ]
   cases F k with
   | none => exact h
   | some b =>
    have h2 : (s.more k b).pl.length = (s.more k b).ps.length := by simp only [JV.more, List.length_append, plc_len, h]
    simp only
    split
    ·exact h2
    ·exact ih (k + 1) _ h2
 exact h 256 0 JV.nil rfl
end Go.Proofs.YtlggejehaonkcaaDoor
