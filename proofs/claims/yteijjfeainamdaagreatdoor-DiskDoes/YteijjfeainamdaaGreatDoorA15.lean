import Derived.Test.YteijjfeainamdaaGreatDoorA14
import Derived.Deep.RegionHeld3
import Derived.Lib.Small
namespace Go.Proofs.YteijjfeainamdaaGreatDoor
open Go.RowKit
set_option linter.unusedSimpArgs false
set_option linter.unusedVariables false

theorem Tryz.in11 (w : World) (vs : Array Value) : (callFunc 11 vs).run Tryz.prog w = .ok (.enter 11 vs) w := by kernel_rfl
theorem Tryz.in27 (w : World) (vs : Array Value) : (callFunc 27 vs).run Tryz.prog w = .ok (.enter 27 vs) w := by kernel_rfl
theorem Tryz.in28 (w : World) (vs : Array Value) : (callFunc 28 vs).run Tryz.prog w = .ok (.enter 28 vs) w := by kernel_rfl
theorem Tryz.in38 (w : World) (vs : Array Value) : (callFunc 38 vs).run Tryz.prog w = .ok (.enter 38 vs) w := by kernel_rfl
theorem Tryz.in42 (w : World) (vs : Array Value) : (callFunc 42 vs).run Tryz.prog w = .ok (.enter 42 vs) w := by kernel_rfl
structure OX where
 kd : Int
 at_ : Int
 n : Int
 nm : ByteArray
 b : Value
 kp : Value
def opA (x : OX) : Array Value := #[.int .i64 x.kd, .int .i64 x.at_, .int .i64 x.n, .string x.nm, x.b, x.kp]
def DoS (g d h x q : Nat) (oa on : Int) (nm : ByteArray) (b kp : Value) (wx : World) : Prop := wx.cell? ⟨g, 0, none⟩ = some (ptr d) ∧ wx.cell? ⟨g, 1, none⟩ = some (ptr h) ∧ wx.cell? ⟨g, 2, none⟩ = some (ptr x) ∧ wx.cell? ⟨q, 1, none⟩ = some (.int .i64 oa) ∧ wx.cell? ⟨q, 2, none⟩ = some (.int .i64 on) ∧ wx.cell? ⟨q, 3, none⟩ = some (.string nm) ∧ wx.cell? ⟨q, 4, none⟩ = some b ∧ wx.cell? ⟨q, 5, none⟩ = some kp
theorem dos_of {g d h x q : Nat} {kd oa on : Int} {nm : ByteArray} {b kp : Value} {w : World} (h0 : w.cell? ⟨g, 0, none⟩ = some (ptr d)) (h1 : w.cell? ⟨g, 1, none⟩ = some (ptr h)) (h2 : w.cell? ⟨g, 2, none⟩ = some (ptr x)) (hq : Blk w q 43 (opA ⟨kd, oa, on, nm, b, kp⟩)) : DoS g d h x q oa on nm b kp w := ⟨h0, h1, h2, hq.c 1 rfl, hq.c 2 rfl, hq.c 3 rfl, hq.c 4 rfl, hq.c 5 rfl⟩
theorem GvN.out {w w1 w2 : World} {G G1 : GV} {S : Nat → Prop} (h : GvN w w1 G G1) (hg : Grown w1 w2 S) (hk : ∀ k, S k → w.heap.size ≤ k) : GvN w w2 G G1 := ⟨h.1, h.2.1.next hg fun i hi e => by have := hk i e; omega, h.2.2⟩
theorem RowAt.lt' {w : World} {v : Value} {l : List Int} (h : RowAt w v l) (hn : l ≠ []) : ∀ k, v.ownBlock = some k → k < w.heap.size := by
 rcases h with ⟨_, e⟩ | ⟨_, _, _, e⟩ | ⟨b, off, cap, rfl, _, hc⟩
 ·exact absurd e hn
 ·exact absurd e hn
 ·intro k hk
  have e : b = k := Option.some.inj hk
  subst e
  exact cell_lt (hc 0 (List.length_pos_iff.2 hn))
theorem GvN.uLe {w w1 : World} {G G1 : GV} (h : GvN w w1 G G1) {k : Nat} (hk : G1.U k) (hl : k < w.heap.size) : G.U k := (h.2.2 k hk).elim id fun e => by omega
set_option maxRecDepth 8000 in
set_option maxHeartbeats 8000000 in
theorem do_sync (G : GV) (D : DV) (u a oa on : Int) (nm : ByteArray) (vb vk : Value) (l kp : List Int) (w : World) (hG : GvAt w G D D) (hO : DOk D u a) (hu : u ≤ 1000000000000) (ha : a ≤ 100000000000) (hl : l.length ≤ 1000000000000) (hn : nm.size ≤ 1000000000000000) (hR : RowAt w vb l) (hRb : l ≠ [] → ∀ k, vb.ownBlock = some k → ¬ G.U k) (hKp : IntsAt w vk kp) (hKb : kp ≠ [] → ∀ k, vk.ownBlock = some k → ¬ G.U k) :
  Calls Tryz.prog 11 #[ptr G.g, .agg (opA ⟨2, oa, on, nm, vb, vk⟩)] w fun e w' => e = .returned (.bool true) ∧ ∃ G', GvAt w' G' (syD D nm) (syD D nm) ∧ GvN w w' G G' := by
 obtain ⟨ba, bc, rfl⟩ := row_form hR
 obtain ⟨ka, kc, rfl⟩ := hKp.form
 have HG := Keep.mk hG
 have HO := Keep.mk hO
 have Hu := Keep.mk hu
 have Ha := Keep.mk ha
 have Hl := Keep.mk hl
 have Hn := Keep.mk hn
 have HR := Keep.mk hR
 have HRb := Keep.mk hRb
 have HKp := Keep.mk hKp
 have HKb := Keep.mk hKb
 clear hG hO hu ha hl hn hR hRb hKp hKb
 go_enter Tryz.func11, Tryz.ntmps11
 refine wp_seq_k fun K1 hK1 => rgn ?_
 refine WL.box (by kernel_rfl) 43 (.tmp 1) rfl (opA (⟨2, oa, on, nm, .slice ba l.length bc, .slice ka kp.length kc⟩ : OX)) rfl ?_
 have HB := Keep.mk (Blk.new w 43 (opA (⟨2, oa, on, nm, .slice ba l.length bc, .slice ka kp.length kc⟩ : OX)))
 have B0 := Keep.mk (below_new w (.cells (opA (⟨2, oa, on, nm, .slice ba l.length bc, .slice ka kp.length kc⟩ : OX)) 43))
 change WL _ _ _ _ _ (w.alloc (.cells (opA (⟨2, oa, on, nm, .slice ba l.length bc, .slice ka kp.length kc⟩ : OX)) 43))
 generalize w.alloc (.cells (opA (⟨2, oa, on, nm, .slice ba l.length bc, .slice ka kp.length kc⟩ : OX)) 43) = w0 at *
 obtain ⟨q, hq⟩ : ∃ z, Keep (z = w.heap.size) := ⟨_, ⟨rfl⟩⟩
 rw [← hq.out] at HB ⊢
 have Lq : Keep (∀ k, k < w.heap.size → k ≠ q) := ⟨fun k hk => by rw [hq.out]; omega⟩
 have HU : Keep (∀ k, G.U k → k < w.heap.size) := ⟨fun k hk => HG.out.uLt hk⟩
 have G0 := Keep.mk (HG.out.below B0.out)
 have N0 : Keep (GvN w w0 G G) := ⟨GvN.blw G B0.out⟩
 have HR0 := Keep.mk (HR.out.below B0.out)
 have HK0 := Keep.mk (HKp.out.below B0.out)
 clear HG hq
 have q0 := HB.out.c 0 (by rfl : (opA (⟨2, oa, on, nm, .slice ba l.length bc, .slice ka kp.length kc⟩ : OX))[0]? = some (.int .i64 2))
 simp only [Act.put, pqA, pqB, pqC]
 refine VbF ?_
 refine WL.nil (hK1 _ _ ?_)
 refine wp_seq_k fun K2 hK2 => ?_
 refine wp_seq_k fun K3 hK3 => rgn ?_
 refine VlS (.pointer (some ⟨q, 0, none⟩)) ?_
 refine VlS (.int .i64 2) ?_
 refine WL.nil (hK3 _ _ ?_)
 refine wp_block ?_
 refine wp_seq_k fun K4 hK4 => rgn ?_
 refine VbF ?_
 refine VbF ?_
 refine WL.nil (hK4 _ _ ?_)
 refine wp_cond_false rfl ?_
 refine wp_seq_k fun K5 hK5 => rgn ?_
 refine VbT ?_
 refine VbT ?_
 refine WL.nil (hK5 _ _ ?_)
 refine wp_cond_true rfl ?_
 refine wp_seq_k fun K6 hK6 => ?_
 have G0d := Keep.mk G0.out.drew
 have N0d : Keep (GvN w w0.drew G _) := ⟨N0.out.trans (GvN.blw _ (Below.refl _ _).drew)⟩
 have HBd : Keep (Blk w0.drew q 43 (opA (⟨2, oa, on, nm, .slice ba l.length bc, .slice ka kp.length kc⟩ : OX))) := ⟨HB.out⟩
 refine wp_region_held_drew (S := DoS G.g G.d G.h G.x q oa on nm (.slice ba l.length bc) (.slice ka kp.length kc)) (by kernel_rfl) (dos_of G0d.out.c0 G0d.out.c1 G0d.out.c2 HBd.out) (fun hHeld => ?_)
 generalize w0.drew = w0d at *
 refine TkK (i := 0) (oi := ⟨some 69, Op.move (Operand.tmp 0), 26, _, _, none⟩) (v := .pointer (some ⟨G.g, 0, none⟩)) rfl hHeld ?_
 refine TkK (i := 4) (oi := ⟨some 73, Op.fieldAddr 43 (Operand.tmp 3) 3, 0, _, _, none⟩) (v := .pointer (some ⟨q, 3, none⟩)) rfl hHeld ?_
 refine TkK (i := 7) (oi := ⟨some 76, Op.move (Operand.tmp 0), 26, _, _, none⟩) (v := .pointer (some ⟨G.g, 0, none⟩)) rfl hHeld ?_
 refine TkK (i := 11) (oi := ⟨some 80, Op.fieldAddr 43 (Operand.tmp 3) 3, 0, _, _, none⟩) (v := .pointer (some ⟨q, 3, none⟩)) rfl hHeld ?_
 refine TkK (i := 1) (oi := ⟨some 70, Op.nilCheck (Operand.tmp 69), 0, _, _, none⟩) (v := .pointer (some ⟨G.g, 0, none⟩)) rfl hHeld ?_
 refine TkK (i := 5) (oi := ⟨some 74, Op.load 9 (Operand.tmp 73), 9, _, _, none⟩) (v := .string nm) rfl hHeld ?_
 refine TkK (i := 8) (oi := ⟨some 77, Op.nilCheck (Operand.tmp 76), 0, _, _, none⟩) (v := .pointer (some ⟨G.g, 0, none⟩)) rfl hHeld ?_
 refine TkK (i := 12) (oi := ⟨some 81, Op.load 9 (Operand.tmp 80), 9, _, _, none⟩) (v := .string nm) rfl hHeld ?_
 refine TkK (i := 2) (oi := ⟨some 71, Op.fieldAddr 35 (Operand.tmp 70) 0, 0, _, _, none⟩) (v := .pointer (some ⟨G.g, 0, none⟩)) rfl hHeld ?_
 refine TkK (i := 9) (oi := ⟨some 78, Op.fieldAddr 35 (Operand.tmp 77) 2, 0, _, _, none⟩) (v := .pointer (some ⟨G.g, 2, none⟩)) rfl hHeld ?_
 refine TkK (i := 3) (oi := ⟨some 72, Op.load 29 (Operand.tmp 71), 29, _, _, none⟩) (v := .pointer (some ⟨G.d, 0, none⟩)) rfl hHeld ?_
 refine TkK (i := 10) (oi := ⟨some 79, Op.load 27 (Operand.tmp 78), 27, _, _, none⟩) (v := .pointer (some ⟨G.x, 0, none⟩)) rfl hHeld ?_
 refine wpAnyH_ready (rs := [6]) (by kernel_rfl) (by simp) ?_
 refine AllReadyH.cons (o := ⟨some 75, Op.call { callee := Callee.value (Operand.func 30), args := #[Operand.tmp 72, Operand.tmp 74], argTypes := #[29, 9] }, 51, _, _, none⟩) rfl (fun K hK => ?_) AllReadyH.nil
 rw [if_pos (by rfl)]
 refine wp_callF 30 _ _ rfl Tryz.in30 #[.pointer (some ⟨G.d, 0, none⟩), .string nm] (by simp [Act.eval]) (fun vz wz => vz = .int .i64 (syC D nm) ∧ ∃ vf' cs', DskAt wz G.p vf' cs' (syD D nm) ∧ Grown w0d wz G.P ∧ ∀ k, DskS G.p vf' cs' k → G.P k ∨ w0d.heap.size ≤ k) ?_ ?_
 ·refine (psync_any G.d G.p nm G.vf G.cs D u a w0d G0d.out.dk G0d.out.dsk HO.out Hu.out Ha.out).mono ?_
  rintro e wz ⟨rfl, vf', cs', k1, k2, k3⟩
  exact ⟨_, rfl, rfl, vf', cs', k1, k2, k3⟩
 rintro vz w1 ⟨rfl, vf1, cs1, k1, k2, k3⟩
 have G1 := Keep.mk (G0d.out.prog k1 k2 k3)
 have N1 := Keep.mk (N0d.out.trans (GvN.prog k2 k3))
 have H1 := Keep.mk (k2.blk HBd.out fun e => Lq.out q (HU.out q (.inr (.inr (.inr (.inl e))))) rfl)
 clear k1 k2 k3
 refine hK _ _ (dos_of G1.out.c0 G1.out.c1 G1.out.c2 H1.out) fun hH1 => ?_
 clear hK
 simp only [Act.put, pqA, pqB, pqC]
 refine wpAnyH_ready (rs := [13]) (by kernel_rfl) (by simp) ?_
 refine AllReadyH.cons (o := ⟨some 82, Op.call { callee := Callee.value (Operand.func 31), args := #[Operand.tmp 79, Operand.tmp 81], argTypes := #[27, 9] }, 51, _, _, none⟩) rfl (fun K hK => ?_) AllReadyH.nil
 rw [if_pos (by rfl)]
 refine wp_callF 31 _ _ rfl Tryz.in31 #[.pointer (some ⟨G.x, 0, none⟩), .string nm] (by simp [Act.eval]) (fun vz wz => vz = .int .i64 (syC D nm) ∧ ∃ vr' va' cr' ms', RDAt wz G.x vr' va' cr' ms' (syD D nm) ∧ Grown w1 wz (RdW G.x G.vr G.va) ∧ ∀ k, RdS G.x vr' va' cr' k → G.R k ∨ w1.heap.size ≤ k) ?_ ?_
 ·refine (rsync_any G.x nm G.vr G.va G.cr G.ms D w1 G1.out.ref HO.out.lay.srt (by rw [G1.out.ref.rcs.len]; exact HO.out.lay.len) (by have h1 : (G.ms.length : Int) = D.acts := G1.out.ref.num.1; have h2 := HO.out.acts; have h3 := Ha.out; omega) (by have := HO.out.fuse; omega)).mono ?_
  rintro e wz ⟨rfl, vr', va', cr', ms', k1, k2, k3⟩
  exact ⟨_, rfl, rfl, vr', va', cr', ms', k1, k2, k3⟩
 rintro vz w2 ⟨rfl, vr2, va2, cr2, ms2, k1, k2, k3⟩
 have G2 := Keep.mk (G1.out.doc k1 k2 k3)
 have N2 := Keep.mk (N1.out.trans (GvN.doc (ms' := ms2) k2 k3))
 have H2 := Keep.mk (k2.blk H1.out fun e => Lq.out q (HU.out q (.inr (.inr (.inr (.inr (.inl (.inl e))))))) rfl)
 clear k1 k2 k3
 refine hK _ _ (dos_of G2.out.c0 G2.out.c1 G2.out.c2 H2.out) fun hH2 => ?_
 clear hK
 simp only [Act.put, pqA, pqB, pqC]
 refine TkK (i := 14) (oi := ⟨some 83, Op.binOp BinOp.eql 51 (Operand.tmp 75) (Operand.tmp 82) 51, 4, _, _, none⟩) (v := .bool true) rfl hH2 ?_
 refine TkK (i := 15) (oi := ⟨some 4, Op.assign (Operand.tmp 83), 4, _, _, none⟩) (v := .bool true) rfl hH2 ?_
 refine wpAnyH_done (by kernel_rfl) ?_ _
 refine hK6 _ _ ?_
 refine wp_ret ?_
 go_ret
 exact ⟨rfl, _, G2.out, N2.out⟩
set_option maxRecDepth 8000 in
set_option maxHeartbeats 8000000 in
theorem do_drop (G : GV) (D : DV) (u a oa on : Int) (nm : ByteArray) (vb vk : Value) (l kp : List Int) (w : World) (hG : GvAt w G D D) (hO : DOk D u a) (hu : u ≤ 1000000000000) (ha : a ≤ 100000000000) (hl : l.length ≤ 1000000000000) (hn : nm.size ≤ 1000000000000000) (hR : RowAt w vb l) (hRb : l ≠ [] → ∀ k, vb.ownBlock = some k → ¬ G.U k) (hKp : IntsAt w vk kp) (hKb : kp ≠ [] → ∀ k, vk.ownBlock = some k → ¬ G.U k) :
  Calls Tryz.prog 11 #[ptr G.g, .agg (opA ⟨4, oa, on, nm, vb, vk⟩)] w fun e w' => e = .returned (.bool true) ∧ ∃ G', GvAt w' G' (drD D nm) (drD D nm) ∧ GvN w w' G G' := by
 obtain ⟨ba, bc, rfl⟩ := row_form hR
 obtain ⟨ka, kc, rfl⟩ := hKp.form
 have HG := Keep.mk hG
 have HO := Keep.mk hO
 have Hu := Keep.mk hu
 have Ha := Keep.mk ha
 have Hl := Keep.mk hl
 have Hn := Keep.mk hn
 have HR := Keep.mk hR
 have HRb := Keep.mk hRb
 have HKp := Keep.mk hKp
 have HKb := Keep.mk hKb
 clear hG hO hu ha hl hn hR hRb hKp hKb
 go_enter Tryz.func11, Tryz.ntmps11
 refine wp_seq_k fun K1 hK1 => rgn ?_
 refine WL.box (by kernel_rfl) 43 (.tmp 1) rfl (opA (⟨4, oa, on, nm, .slice ba l.length bc, .slice ka kp.length kc⟩ : OX)) rfl ?_
 have HB := Keep.mk (Blk.new w 43 (opA (⟨4, oa, on, nm, .slice ba l.length bc, .slice ka kp.length kc⟩ : OX)))
 have B0 := Keep.mk (below_new w (.cells (opA (⟨4, oa, on, nm, .slice ba l.length bc, .slice ka kp.length kc⟩ : OX)) 43))
 change WL _ _ _ _ _ (w.alloc (.cells (opA (⟨4, oa, on, nm, .slice ba l.length bc, .slice ka kp.length kc⟩ : OX)) 43))
 generalize w.alloc (.cells (opA (⟨4, oa, on, nm, .slice ba l.length bc, .slice ka kp.length kc⟩ : OX)) 43) = w0 at *
 obtain ⟨q, hq⟩ : ∃ z, Keep (z = w.heap.size) := ⟨_, ⟨rfl⟩⟩
 rw [← hq.out] at HB ⊢
 have Lq : Keep (∀ k, k < w.heap.size → k ≠ q) := ⟨fun k hk => by rw [hq.out]; omega⟩
 have HU : Keep (∀ k, G.U k → k < w.heap.size) := ⟨fun k hk => HG.out.uLt hk⟩
 have G0 := Keep.mk (HG.out.below B0.out)
 have N0 : Keep (GvN w w0 G G) := ⟨GvN.blw G B0.out⟩
 have HR0 := Keep.mk (HR.out.below B0.out)
 have HK0 := Keep.mk (HKp.out.below B0.out)
 clear HG hq
 have q0 := HB.out.c 0 (by rfl : (opA (⟨4, oa, on, nm, .slice ba l.length bc, .slice ka kp.length kc⟩ : OX))[0]? = some (.int .i64 4))
 simp only [Act.put, pqA, pqB, pqC]
 refine VbF ?_
 refine WL.nil (hK1 _ _ ?_)
 refine wp_seq_k fun K2 hK2 => ?_
 refine wp_seq_k fun K3 hK3 => rgn ?_
 refine VlS (.pointer (some ⟨q, 0, none⟩)) ?_
 refine VlS (.int .i64 4) ?_
 refine WL.nil (hK3 _ _ ?_)
 refine wp_block ?_
 refine wp_seq_k fun K4 hK4 => rgn ?_
 refine VbF ?_
 refine VbF ?_
 refine WL.nil (hK4 _ _ ?_)
 refine wp_cond_false rfl ?_
 refine wp_seq_k fun K5 hK5 => rgn ?_
 refine VbF ?_
 refine VbF ?_
 refine WL.nil (hK5 _ _ ?_)
 refine wp_cond_false rfl ?_
 refine wp_seq_k fun K6 hK6 => rgn ?_
 refine VbF ?_
 refine VbF ?_
 refine WL.nil (hK6 _ _ ?_)
 refine wp_cond_false rfl ?_
 refine wp_seq_k fun K7 hK7 => rgn ?_
 refine VbT ?_
 refine VbT ?_
 refine WL.nil (hK7 _ _ ?_)
 refine wp_cond_true rfl ?_
 refine wp_seq_k fun K8 hK8 => ?_
 have G0d := Keep.mk G0.out.drew
 have N0d : Keep (GvN w w0.drew G _) := ⟨N0.out.trans (GvN.blw _ (Below.refl _ _).drew)⟩
 have HBd : Keep (Blk w0.drew q 43 (opA (⟨4, oa, on, nm, .slice ba l.length bc, .slice ka kp.length kc⟩ : OX))) := ⟨HB.out⟩
 refine wp_region_held_drew (S := DoS G.g G.d G.h G.x q oa on nm (.slice ba l.length bc) (.slice ka kp.length kc)) (by kernel_rfl) (dos_of G0d.out.c0 G0d.out.c1 G0d.out.c2 HBd.out) (fun hHeld => ?_)
 generalize w0.drew = w0d at *
 refine TkK (i := 0) (oi := ⟨some 107, Op.move (Operand.tmp 0), 26, _, _, none⟩) (v := .pointer (some ⟨G.g, 0, none⟩)) rfl hHeld ?_
 refine TkK (i := 4) (oi := ⟨some 111, Op.fieldAddr 43 (Operand.tmp 3) 3, 0, _, _, none⟩) (v := .pointer (some ⟨q, 3, none⟩)) rfl hHeld ?_
 refine TkK (i := 7) (oi := ⟨some 114, Op.move (Operand.tmp 0), 26, _, _, none⟩) (v := .pointer (some ⟨G.g, 0, none⟩)) rfl hHeld ?_
 refine TkK (i := 11) (oi := ⟨some 118, Op.fieldAddr 43 (Operand.tmp 3) 3, 0, _, _, none⟩) (v := .pointer (some ⟨q, 3, none⟩)) rfl hHeld ?_
 refine TkK (i := 1) (oi := ⟨some 108, Op.nilCheck (Operand.tmp 107), 0, _, _, none⟩) (v := .pointer (some ⟨G.g, 0, none⟩)) rfl hHeld ?_
 refine TkK (i := 5) (oi := ⟨some 112, Op.load 9 (Operand.tmp 111), 9, _, _, none⟩) (v := .string nm) rfl hHeld ?_
 refine TkK (i := 8) (oi := ⟨some 115, Op.nilCheck (Operand.tmp 114), 0, _, _, none⟩) (v := .pointer (some ⟨G.g, 0, none⟩)) rfl hHeld ?_
 refine TkK (i := 12) (oi := ⟨some 119, Op.load 9 (Operand.tmp 118), 9, _, _, none⟩) (v := .string nm) rfl hHeld ?_
 refine TkK (i := 2) (oi := ⟨some 109, Op.fieldAddr 35 (Operand.tmp 108) 0, 0, _, _, none⟩) (v := .pointer (some ⟨G.g, 0, none⟩)) rfl hHeld ?_
 refine TkK (i := 9) (oi := ⟨some 116, Op.fieldAddr 35 (Operand.tmp 115) 2, 0, _, _, none⟩) (v := .pointer (some ⟨G.g, 2, none⟩)) rfl hHeld ?_
 refine TkK (i := 3) (oi := ⟨some 110, Op.load 29 (Operand.tmp 109), 29, _, _, none⟩) (v := .pointer (some ⟨G.d, 0, none⟩)) rfl hHeld ?_
 refine TkK (i := 10) (oi := ⟨some 117, Op.load 27 (Operand.tmp 116), 27, _, _, none⟩) (v := .pointer (some ⟨G.x, 0, none⟩)) rfl hHeld ?_
 refine wpAnyH_ready (rs := [6]) (by kernel_rfl) (by simp) ?_
 refine AllReadyH.cons (o := ⟨some 113, Op.call { callee := Callee.value (Operand.func 34), args := #[Operand.tmp 110, Operand.tmp 112], argTypes := #[29, 9] }, 51, _, _, none⟩) rfl (fun K hK => ?_) AllReadyH.nil
 rw [if_pos (by rfl)]
 refine wp_callF 34 _ _ rfl Tryz.in34 #[.pointer (some ⟨G.d, 0, none⟩), .string nm] (by simp [Act.eval]) (fun vz wz => vz = .int .i64 (syC D nm) ∧ ∃ vf' cs', DskAt wz G.p vf' cs' (drD D nm) ∧ Grown w0d wz G.P ∧ ∀ k, DskS G.p vf' cs' k → G.P k ∨ w0d.heap.size ≤ k) ?_ ?_
 ·refine (pdrop_any G.d G.p nm G.vf G.cs D u a w0d G0d.out.dk G0d.out.dsk HO.out Hu.out Ha.out).mono ?_
  rintro e wz ⟨rfl, vf', cs', k1, k2, k3⟩
  exact ⟨_, rfl, rfl, vf', cs', k1, k2, k3⟩
 rintro vz w1 ⟨rfl, vf1, cs1, k1, k2, k3⟩
 have G1 := Keep.mk (G0d.out.prog k1 k2 k3)
 have N1 := Keep.mk (N0d.out.trans (GvN.prog k2 k3))
 have H1 := Keep.mk (k2.blk HBd.out fun e => Lq.out q (HU.out q (.inr (.inr (.inr (.inl e))))) rfl)
 clear k1 k2 k3
 refine hK _ _ (dos_of G1.out.c0 G1.out.c1 G1.out.c2 H1.out) fun hH1 => ?_
 clear hK
 simp only [Act.put, pqA, pqB, pqC]
 refine wpAnyH_ready (rs := [13]) (by kernel_rfl) (by simp) ?_
 refine AllReadyH.cons (o := ⟨some 120, Op.call { callee := Callee.value (Operand.func 35), args := #[Operand.tmp 117, Operand.tmp 119], argTypes := #[27, 9] }, 51, _, _, none⟩) rfl (fun K hK => ?_) AllReadyH.nil
 rw [if_pos (by rfl)]
 refine wp_callF 35 _ _ rfl Tryz.in35 #[.pointer (some ⟨G.x, 0, none⟩), .string nm] (by simp [Act.eval]) (fun vz wz => vz = .int .i64 (syC D nm) ∧ ∃ vr' va' cr' ms', RDAt wz G.x vr' va' cr' ms' (drD D nm) ∧ Grown w1 wz (RdW G.x G.vr G.va) ∧ ∀ k, RdS G.x vr' va' cr' k → G.R k ∨ w1.heap.size ≤ k) ?_ ?_
 ·refine (rdrop_any G.x nm G.vr G.va G.cr G.ms D w1 G1.out.ref HO.out.lay.srt (by rw [G1.out.ref.rcs.len]; exact HO.out.lay.len) (by have h1 : (G.ms.length : Int) = D.acts := G1.out.ref.num.1; have h2 := HO.out.acts; have h3 := Ha.out; omega) (by have := HO.out.fuse; omega)).mono ?_
  rintro e wz ⟨rfl, vr', va', cr', ms', k1, k2, k3⟩
  exact ⟨_, rfl, rfl, vr', va', cr', ms', k1, k2, k3⟩
 rintro vz w2 ⟨rfl, vr2, va2, cr2, ms2, k1, k2, k3⟩
 have G2 := Keep.mk (G1.out.doc k1 k2 k3)
 have N2 := Keep.mk (N1.out.trans (GvN.doc (ms' := ms2) k2 k3))
 have H2 := Keep.mk (k2.blk H1.out fun e => Lq.out q (HU.out q (.inr (.inr (.inr (.inr (.inl (.inl e))))))) rfl)
 clear k1 k2 k3
 refine hK _ _ (dos_of G2.out.c0 G2.out.c1 G2.out.c2 H2.out) fun hH2 => ?_
 clear hK
 simp only [Act.put, pqA, pqB, pqC]
 refine TkK (i := 14) (oi := ⟨some 121, Op.binOp BinOp.eql 51 (Operand.tmp 113) (Operand.tmp 120) 51, 4, _, _, none⟩) (v := .bool true) rfl hH2 ?_
 refine TkK (i := 15) (oi := ⟨some 4, Op.assign (Operand.tmp 121), 4, _, _, none⟩) (v := .bool true) rfl hH2 ?_
 refine wpAnyH_done (by kernel_rfl) ?_ _
 refine hK8 _ _ ?_
 refine wp_ret ?_
 go_ret
 exact ⟨rfl, _, G2.out, N2.out⟩
set_option maxRecDepth 8000 in
set_option maxHeartbeats 8000000 in
theorem do_cut (G : GV) (D : DV) (u a oa on : Int) (nm : ByteArray) (vb vk : Value) (l kp : List Int) (w : World) (hG : GvAt w G D D) (hO : DOk D u a) (hu : u ≤ 1000000000000) (ha : a ≤ 100000000000) (hl : l.length ≤ 1000000000000) (hn : nm.size ≤ 1000000000000000) (hR : RowAt w vb l) (hRb : l ≠ [] → ∀ k, vb.ownBlock = some k → ¬ G.U k) (hKp : IntsAt w vk kp) (hKb : kp ≠ [] → ∀ k, vk.ownBlock = some k → ¬ G.U k) :
  Calls Tryz.prog 11 #[ptr G.g, .agg (opA ⟨3, oa, on, nm, vb, vk⟩)] w fun e w' => e = .returned (.bool true) ∧ ∃ G', GvAt w' G' (cuD D nm on) (cuD D nm on) ∧ GvN w w' G G' := by
 obtain ⟨ba, bc, rfl⟩ := row_form hR
 obtain ⟨ka, kc, rfl⟩ := hKp.form
 have HG := Keep.mk hG
 have HO := Keep.mk hO
 have Hu := Keep.mk hu
 have Ha := Keep.mk ha
 have Hl := Keep.mk hl
 have Hn := Keep.mk hn
 have HR := Keep.mk hR
 have HRb := Keep.mk hRb
 have HKp := Keep.mk hKp
 have HKb := Keep.mk hKb
 clear hG hO hu ha hl hn hR hRb hKp hKb
 go_enter Tryz.func11, Tryz.ntmps11
 refine wp_seq_k fun K1 hK1 => rgn ?_
 refine WL.box (by kernel_rfl) 43 (.tmp 1) rfl (opA (⟨3, oa, on, nm, .slice ba l.length bc, .slice ka kp.length kc⟩ : OX)) rfl ?_
 have HB := Keep.mk (Blk.new w 43 (opA (⟨3, oa, on, nm, .slice ba l.length bc, .slice ka kp.length kc⟩ : OX)))
 have B0 := Keep.mk (below_new w (.cells (opA (⟨3, oa, on, nm, .slice ba l.length bc, .slice ka kp.length kc⟩ : OX)) 43))
 change WL _ _ _ _ _ (w.alloc (.cells (opA (⟨3, oa, on, nm, .slice ba l.length bc, .slice ka kp.length kc⟩ : OX)) 43))
 generalize w.alloc (.cells (opA (⟨3, oa, on, nm, .slice ba l.length bc, .slice ka kp.length kc⟩ : OX)) 43) = w0 at *
 obtain ⟨q, hq⟩ : ∃ z, Keep (z = w.heap.size) := ⟨_, ⟨rfl⟩⟩
 rw [← hq.out] at HB ⊢
 have Lq : Keep (∀ k, k < w.heap.size → k ≠ q) := ⟨fun k hk => by rw [hq.out]; omega⟩
 have HU : Keep (∀ k, G.U k → k < w.heap.size) := ⟨fun k hk => HG.out.uLt hk⟩
 have G0 := Keep.mk (HG.out.below B0.out)
 have N0 : Keep (GvN w w0 G G) := ⟨GvN.blw G B0.out⟩
 have HR0 := Keep.mk (HR.out.below B0.out)
 have HK0 := Keep.mk (HKp.out.below B0.out)
 clear HG hq
 have q0 := HB.out.c 0 (by rfl : (opA (⟨3, oa, on, nm, .slice ba l.length bc, .slice ka kp.length kc⟩ : OX))[0]? = some (.int .i64 3))
 simp only [Act.put, pqA, pqB, pqC]
 refine VbF ?_
 refine WL.nil (hK1 _ _ ?_)
 refine wp_seq_k fun K2 hK2 => ?_
 refine wp_seq_k fun K3 hK3 => rgn ?_
 refine VlS (.pointer (some ⟨q, 0, none⟩)) ?_
 refine VlS (.int .i64 3) ?_
 refine WL.nil (hK3 _ _ ?_)
 refine wp_block ?_
 refine wp_seq_k fun K4 hK4 => rgn ?_
 refine VbF ?_
 refine VbF ?_
 refine WL.nil (hK4 _ _ ?_)
 refine wp_cond_false rfl ?_
 refine wp_seq_k fun K5 hK5 => rgn ?_
 refine VbF ?_
 refine VbF ?_
 refine WL.nil (hK5 _ _ ?_)
 refine wp_cond_false rfl ?_
 refine wp_seq_k fun K6 hK6 => rgn ?_
 refine VbT ?_
 refine VbT ?_
 refine WL.nil (hK6 _ _ ?_)
 refine wp_cond_true rfl ?_
 refine wp_seq_k fun K7 hK7 => ?_
 have G0d := Keep.mk G0.out.drew
 have N0d : Keep (GvN w w0.drew G _) := ⟨N0.out.trans (GvN.blw _ (Below.refl _ _).drew)⟩
 have HBd : Keep (Blk w0.drew q 43 (opA (⟨3, oa, on, nm, .slice ba l.length bc, .slice ka kp.length kc⟩ : OX))) := ⟨HB.out⟩
 refine wp_region_held_drew (S := DoS G.g G.d G.h G.x q oa on nm (.slice ba l.length bc) (.slice ka kp.length kc)) (by kernel_rfl) (dos_of G0d.out.c0 G0d.out.c1 G0d.out.c2 HBd.out) (fun hHeld => ?_)
 generalize w0.drew = w0d at *
 refine TkK (i := 0) (oi := ⟨some 86, Op.move (Operand.tmp 0), 26, _, _, none⟩) (v := .pointer (some ⟨G.g, 0, none⟩)) rfl hHeld ?_
 refine TkK (i := 4) (oi := ⟨some 90, Op.fieldAddr 43 (Operand.tmp 3) 3, 0, _, _, none⟩) (v := .pointer (some ⟨q, 3, none⟩)) rfl hHeld ?_
 refine TkK (i := 6) (oi := ⟨some 92, Op.fieldAddr 43 (Operand.tmp 3) 2, 0, _, _, none⟩) (v := .pointer (some ⟨q, 2, none⟩)) rfl hHeld ?_
 refine TkK (i := 9) (oi := ⟨some 95, Op.move (Operand.tmp 0), 26, _, _, none⟩) (v := .pointer (some ⟨G.g, 0, none⟩)) rfl hHeld ?_
 refine TkK (i := 13) (oi := ⟨some 99, Op.fieldAddr 43 (Operand.tmp 3) 3, 0, _, _, none⟩) (v := .pointer (some ⟨q, 3, none⟩)) rfl hHeld ?_
 refine TkK (i := 15) (oi := ⟨some 101, Op.fieldAddr 43 (Operand.tmp 3) 2, 0, _, _, none⟩) (v := .pointer (some ⟨q, 2, none⟩)) rfl hHeld ?_
 refine TkK (i := 1) (oi := ⟨some 87, Op.nilCheck (Operand.tmp 86), 0, _, _, none⟩) (v := .pointer (some ⟨G.g, 0, none⟩)) rfl hHeld ?_
 refine TkK (i := 5) (oi := ⟨some 91, Op.load 9 (Operand.tmp 90), 9, _, _, none⟩) (v := .string nm) rfl hHeld ?_
 refine TkK (i := 7) (oi := ⟨some 93, Op.load 3 (Operand.tmp 92), 3, _, _, none⟩) (v := .int .i64 on) rfl hHeld ?_
 refine TkK (i := 10) (oi := ⟨some 96, Op.nilCheck (Operand.tmp 95), 0, _, _, none⟩) (v := .pointer (some ⟨G.g, 0, none⟩)) rfl hHeld ?_
 refine TkK (i := 14) (oi := ⟨some 100, Op.load 9 (Operand.tmp 99), 9, _, _, none⟩) (v := .string nm) rfl hHeld ?_
 refine TkK (i := 16) (oi := ⟨some 102, Op.load 3 (Operand.tmp 101), 3, _, _, none⟩) (v := .int .i64 on) rfl hHeld ?_
 refine TkK (i := 2) (oi := ⟨some 88, Op.fieldAddr 35 (Operand.tmp 87) 0, 0, _, _, none⟩) (v := .pointer (some ⟨G.g, 0, none⟩)) rfl hHeld ?_
 refine TkK (i := 11) (oi := ⟨some 97, Op.fieldAddr 35 (Operand.tmp 96) 2, 0, _, _, none⟩) (v := .pointer (some ⟨G.g, 2, none⟩)) rfl hHeld ?_
 refine TkK (i := 3) (oi := ⟨some 89, Op.load 29 (Operand.tmp 88), 29, _, _, none⟩) (v := .pointer (some ⟨G.d, 0, none⟩)) rfl hHeld ?_
 refine TkK (i := 12) (oi := ⟨some 98, Op.load 27 (Operand.tmp 97), 27, _, _, none⟩) (v := .pointer (some ⟨G.x, 0, none⟩)) rfl hHeld ?_
 refine wpAnyH_ready (rs := [8]) (by kernel_rfl) (by simp) ?_
 refine AllReadyH.cons (o := ⟨some 94, Op.call { callee := Callee.value (Operand.func 32), args := #[Operand.tmp 89, Operand.tmp 91, Operand.tmp 93], argTypes := #[29, 9, 3] }, 51, _, _, none⟩) rfl (fun K hK => ?_) AllReadyH.nil
 rw [if_pos (by rfl)]
 refine wp_callF 32 _ _ rfl Tryz.in32 #[.pointer (some ⟨G.d, 0, none⟩), .string nm, .int .i64 on] (by simp [Act.eval]) (fun vz wz => vz = .int .i64 (cuC D nm on) ∧ ∃ vf' cs', DskAt wz G.p vf' cs' (cuD D nm on) ∧ Grown w0d wz G.P ∧ ∀ k, DskS G.p vf' cs' k → G.P k ∨ w0d.heap.size ≤ k) ?_ ?_
 ·refine (pcut_any G.d G.p nm on G.vf G.cs D u a w0d G0d.out.dk G0d.out.dsk HO.out Hu.out Ha.out).mono ?_
  rintro e wz ⟨rfl, vf', cs', k1, k2, k3⟩
  exact ⟨_, rfl, rfl, vf', cs', k1, k2, k3⟩
 rintro vz w1 ⟨rfl, vf1, cs1, k1, k2, k3⟩
 have G1 := Keep.mk (G0d.out.prog k1 k2 k3)
 have N1 := Keep.mk (N0d.out.trans (GvN.prog k2 k3))
 have H1 := Keep.mk (k2.blk HBd.out fun e => Lq.out q (HU.out q (.inr (.inr (.inr (.inl e))))) rfl)
 clear k1 k2 k3
 refine hK _ _ (dos_of G1.out.c0 G1.out.c1 G1.out.c2 H1.out) fun hH1 => ?_
 clear hK
 simp only [Act.put, pqA, pqB, pqC]
 refine wpAnyH_ready (rs := [17]) (by kernel_rfl) (by simp) ?_
 refine AllReadyH.cons (o := ⟨some 103, Op.call { callee := Callee.value (Operand.func 33), args := #[Operand.tmp 98, Operand.tmp 100, Operand.tmp 102], argTypes := #[27, 9, 3] }, 51, _, _, none⟩) rfl (fun K hK => ?_) AllReadyH.nil
 rw [if_pos (by rfl)]
 refine wp_callF 33 _ _ rfl Tryz.in33 #[.pointer (some ⟨G.x, 0, none⟩), .string nm, .int .i64 on] (by simp [Act.eval]) (fun vz wz => vz = .int .i64 (cuC D nm on) ∧ ∃ vr' va' cr' ms', RDAt wz G.x vr' va' cr' ms' (cuD D nm on) ∧ Grown w1 wz (RdW G.x G.vr G.va) ∧ ∀ k, RdS G.x vr' va' cr' k → G.R k ∨ w1.heap.size ≤ k) ?_ ?_
 ·refine (rcut_any G.x nm on G.vr G.va G.cr G.ms D w1 G1.out.ref HO.out.lay.srt (by rw [G1.out.ref.rcs.len]; exact HO.out.lay.len) (by have h1 : (G.ms.length : Int) = D.acts := G1.out.ref.num.1; have h2 := HO.out.acts; have h3 := Ha.out; omega) (by have := HO.out.fuse; omega)).mono ?_
  rintro e wz ⟨rfl, vr', va', cr', ms', k1, k2, k3⟩
  exact ⟨_, rfl, rfl, vr', va', cr', ms', k1, k2, k3⟩
 rintro vz w2 ⟨rfl, vr2, va2, cr2, ms2, k1, k2, k3⟩
 have G2 := Keep.mk (G1.out.doc k1 k2 k3)
 have N2 := Keep.mk (N1.out.trans (GvN.doc (ms' := ms2) k2 k3))
 have H2 := Keep.mk (k2.blk H1.out fun e => Lq.out q (HU.out q (.inr (.inr (.inr (.inr (.inl (.inl e))))))) rfl)
 clear k1 k2 k3
 refine hK _ _ (dos_of G2.out.c0 G2.out.c1 G2.out.c2 H2.out) fun hH2 => ?_
 clear hK
 simp only [Act.put, pqA, pqB, pqC]
 refine TkK (i := 18) (oi := ⟨some 104, Op.binOp BinOp.eql 51 (Operand.tmp 94) (Operand.tmp 103) 51, 4, _, _, none⟩) (v := .bool true) rfl hH2 ?_
 refine TkK (i := 19) (oi := ⟨some 4, Op.assign (Operand.tmp 104), 4, _, _, none⟩) (v := .bool true) rfl hH2 ?_
 refine wpAnyH_done (by kernel_rfl) ?_ _
 refine hK7 _ _ ?_
 refine wp_ret ?_
 go_ret
 exact ⟨rfl, _, G2.out, N2.out⟩
def XR (wL : World) (k n : Nat) (wr : World) : Prop := (∃ cur, Blk wr k 5 cur ∧ ∀ i, i < n → ∃ z, cur[i]? = some (.int .u8 z)) ∧ Grown wL wr fun j => j = k
theorem XR.step {wL wr : World} {k n i : Nat} (h : XR wL k n wr) (hi : i < n) : ∃ z, wr.cell? ⟨k, i, none⟩ = some (.int .u8 z) ∧ wr.frozen? ⟨k, i, none⟩ = false ∧ ∀ z', XR wL k n (wr.setCell ⟨k, i, none⟩ (.int .u8 z')) := by
 obtain ⟨⟨cur, hb, hc⟩, hg⟩ := h
 obtain ⟨z, hz⟩ := hc i hi
 refine ⟨z, by rw [hb.cell]; exact hz, hb.frozen i, fun z' => ⟨⟨_, hb.set i _, fun j hj => ?_⟩, hg.trans (Grown.setCell wr k i _ fun _ => rfl)⟩⟩
 rw [Array.getElem?_setIfInBounds]
 split
 ·split
  ·exact ⟨z', rfl⟩
  ·rename_i h1 h2
   obtain ⟨y, hy⟩ := hc j hj
   have := (Array.getElem?_eq_some_iff.1 hy).1
   omega
 ·exact hc j hj
theorem WideAt.xr {w : World} {v : Value} {l : List Int} (h : WideAt w v l) : ∃ k cap, v = .slice (some ⟨k, 0, none⟩) l.length cap ∧ XR w k l.length w := by
 obtain ⟨g, cap, e, h1, _, h3, cur, h4, h5⟩ := h.cap
 refine ⟨g, cap, e, ⟨cur, h4, fun i hi => ⟨(l ++ marks 7).getD i 0, ?_⟩⟩, Grown.refl _ _⟩
 rw [← h4.cell]
 exact h3 i (by omega)
set_option maxRecDepth 8000 in
set_option maxHeartbeats 8000000 in
theorem do_append (G : GV) (D : DV) (u a oa on : Int) (nm : ByteArray) (vb vk : Value) (l kp : List Int) (w : World) (hG : GvAt w G D D) (hO : DOk D u a) (hu : u ≤ 1000000000000) (ha : a ≤ 100000000000) (hl : l.length ≤ 1000000000000) (hn : nm.size ≤ 1000000000000000) (hR : RowAt w vb l) (hRb : l ≠ [] → ∀ k, vb.ownBlock = some k → ¬ G.U k) (hKp : IntsAt w vk kp) (hKb : kp ≠ [] → ∀ k, vk.ownBlock = some k → ¬ G.U k) :
  Calls Tryz.prog 11 #[ptr G.g, .agg (opA ⟨1, oa, on, nm, vb, vk⟩)] w fun e w' => e = .returned (.bool true) ∧ ∃ G', GvAt w' G' (apD D nm l) (apD D nm l) ∧ GvN w w' G G' := by
 obtain ⟨ba, bc, rfl⟩ := row_form hR
 obtain ⟨ka, kc, rfl⟩ := hKp.form
 have HG := Keep.mk hG
 have HO := Keep.mk hO
 have Hu := Keep.mk hu
 have Ha := Keep.mk ha
 have Hl := Keep.mk hl
 have Hn := Keep.mk hn
 have HR := Keep.mk hR
 have HRb := Keep.mk hRb
 have HKp := Keep.mk hKp
 have HKb := Keep.mk hKb
 clear hG hO hu ha hl hn hR hRb hKp hKb
 go_enter Tryz.func11, Tryz.ntmps11
 refine wp_seq_k fun K1 hK1 => rgn ?_
 refine WL.box (by kernel_rfl) 43 (.tmp 1) rfl (opA (⟨1, oa, on, nm, .slice ba l.length bc, .slice ka kp.length kc⟩ : OX)) rfl ?_
 have HB := Keep.mk (Blk.new w 43 (opA (⟨1, oa, on, nm, .slice ba l.length bc, .slice ka kp.length kc⟩ : OX)))
 have B0 := Keep.mk (below_new w (.cells (opA (⟨1, oa, on, nm, .slice ba l.length bc, .slice ka kp.length kc⟩ : OX)) 43))
 change WL _ _ _ _ _ (w.alloc (.cells (opA (⟨1, oa, on, nm, .slice ba l.length bc, .slice ka kp.length kc⟩ : OX)) 43))
 generalize w.alloc (.cells (opA (⟨1, oa, on, nm, .slice ba l.length bc, .slice ka kp.length kc⟩ : OX)) 43) = w0 at *
 obtain ⟨q, hq⟩ : ∃ z, Keep (z = w.heap.size) := ⟨_, ⟨rfl⟩⟩
 rw [← hq.out] at HB ⊢
 have Lq : Keep (∀ k, k < w.heap.size → k ≠ q) := ⟨fun k hk => by rw [hq.out]; omega⟩
 have HU : Keep (∀ k, G.U k → k < w.heap.size) := ⟨fun k hk => HG.out.uLt hk⟩
 have G0 := Keep.mk (HG.out.below B0.out)
 have N0 : Keep (GvN w w0 G G) := ⟨GvN.blw G B0.out⟩
 have HR0 := Keep.mk (HR.out.below B0.out)
 have HK0 := Keep.mk (HKp.out.below B0.out)
 clear HG hq
 have q0 := HB.out.c 0 (by rfl : (opA (⟨1, oa, on, nm, .slice ba l.length bc, .slice ka kp.length kc⟩ : OX))[0]? = some (.int .i64 1))
 simp only [Act.put, pqA, pqB, pqC]
 refine VbF ?_
 refine WL.nil (hK1 _ _ ?_)
 refine wp_seq_k fun K2 hK2 => ?_
 refine wp_seq_k fun K3 hK3 => rgn ?_
 refine VlS (.pointer (some ⟨q, 0, none⟩)) ?_
 refine VlS (.int .i64 1) ?_
 refine WL.nil (hK3 _ _ ?_)
 refine wp_block ?_
 refine wp_seq_k fun K4 hK4 => rgn ?_
 refine VbT ?_
 refine VbT ?_
 refine WL.nil (hK4 _ _ ?_)
 refine wp_cond_true rfl ?_
 refine wp_seq_k fun K5 hK5 => ?_
 have q4 := HB.out.c 4 (by rfl : (opA (⟨1, oa, on, nm, .slice ba l.length bc, .slice ka kp.length kc⟩ : OX))[4]? = some (.slice ba l.length bc))
 refine rgn ?_
 refine VlS (.pointer (some ⟨q, 4, none⟩)) ?_
 refine VlS (.slice ba l.length bc) ?_
 clear q0
 refine WL.callF (by kernel_rfl) 27 _ _ rfl Tryz.in27 #[.slice ba l.length bc] (by simp [Act.eval]) ?_
 refine (wide_any _ l w0 HR0.out (by have := Hl.out; omega)).mono ?_
 rintro e w1 ⟨v5, rfl, k1, ⟨k5, k2, k3⟩, k4⟩
 refine ⟨_, rfl, ?_⟩
 obtain ⟨k5z, c5, e5, hxr⟩ := k1.xr
 subst e5
 have e5 : k5z = k5 := Option.some.inj k2
 subst e5
 have HW1 := Keep.mk k1
 have L5 : Keep (w0.heap.size ≤ k5z ∧ k5z < w1.heap.size) := ⟨k3, by obtain ⟨⟨cur, hb, _⟩, _⟩ := hxr; exact hb.lt⟩
 have G1 := Keep.mk (G0.out.below k4)
 have N1 : Keep (GvN w w1 G G) := ⟨N0.out.trans (GvN.blw G k4)⟩
 have H1 := Keep.mk (HB.out.below k4 HB.out.lt)
 have HR1 := Keep.mk (HR0.out.below k4)
 have L0 : Keep (w.heap.size ≤ w0.heap.size ∧ q < w0.heap.size) := ⟨B0.out.size, HB.out.lt⟩
 clear k1 k2 k3 k4 hxr G0 N0 HB HR0 HK0
 simp only [Act.put, pqA, pqB, pqC]
 refine VlS (.slice (some ⟨k5z, 0, none⟩) l.length c5) ?_
 refine WL.nil (hK5 _ _ ?_)
 refine wp_seq_k fun K6 hK6 => ?_
 clear q4
 have G1d := Keep.mk G1.out.drew
 have N1d : Keep (GvN w w1.drew G _) := ⟨N1.out.trans (GvN.blw _ (Below.refl _ _).drew)⟩
 have H1d : Keep (Blk w1.drew q 43 (opA (⟨1, oa, on, nm, .slice ba l.length bc, .slice ka kp.length kc⟩ : OX))) := ⟨H1.out⟩
 have HW2 : Keep (WideAt w1.drew (.slice (some ⟨k5z, 0, none⟩) l.length c5) l) := ⟨HW1.out.grown (Grown.refl w1 (fun _ => False)).drew fun _ _ h => h⟩
 have HR2 : Keep (RowAt w1.drew (.slice ba l.length bc) l) := ⟨HR1.out.grown (Grown.refl w1 (fun _ => False)).drew fun _ _ _ h => h⟩
 have L6 : Keep (k5z < w1.drew.heap.size) := ⟨L5.out.2⟩
 refine wp_region_held_drew (S := DoS G.g G.d G.h G.x q oa on nm (.slice ba l.length bc) (.slice ka kp.length kc)) (by kernel_rfl) (dos_of G1d.out.c0 G1d.out.c1 G1d.out.c2 H1d.out) (fun hHeld => ?_)
 generalize w1.drew = w1d at *
 refine TkK (i := 0) (oi := ⟨some 29, Op.move (Operand.tmp 0), 26, _, _, none⟩) (v := .pointer (some ⟨G.g, 0, none⟩)) rfl hHeld ?_
 refine TkK (i := 4) (oi := ⟨some 33, Op.fieldAddr 43 (Operand.tmp 3) 3, 0, _, _, none⟩) (v := .pointer (some ⟨q, 3, none⟩)) rfl hHeld ?_
 refine TkK (i := 6) (oi := ⟨some 35, Op.move (Operand.tmp 5), 40, _, _, none⟩) (v := .slice (some ⟨k5z, 0, none⟩) l.length c5) rfl hHeld ?_
 refine TkK (i := 1) (oi := ⟨some 30, Op.nilCheck (Operand.tmp 29), 0, _, _, none⟩) (v := .pointer (some ⟨G.g, 0, none⟩)) rfl hHeld ?_
 refine TkK (i := 5) (oi := ⟨some 34, Op.load 9 (Operand.tmp 33), 9, _, _, none⟩) (v := .string nm) rfl hHeld ?_
 refine TkK (i := 2) (oi := ⟨some 31, Op.fieldAddr 35 (Operand.tmp 30) 0, 0, _, _, none⟩) (v := .pointer (some ⟨G.g, 0, none⟩)) rfl hHeld ?_
 refine TkK (i := 3) (oi := ⟨some 32, Op.load 29 (Operand.tmp 31), 29, _, _, none⟩) (v := .pointer (some ⟨G.d, 0, none⟩)) rfl hHeld ?_
 refine wpAnyH_ready (rs := [7]) (by kernel_rfl) (by simp) ?_
 refine AllReadyH.cons (o := ⟨some 36, Op.call { callee := Callee.value (Operand.func 15), args := #[Operand.tmp 32, Operand.tmp 34, Operand.tmp 35], argTypes := #[29, 9, 40] }, 51, _, _, none⟩) rfl (fun K hK => ?_) AllReadyH.nil
 rw [if_pos (by rfl)]
 refine wp_callF 15 _ _ rfl Tryz.in15 #[.pointer (some ⟨G.d, 0, none⟩), .string nm, .slice (some ⟨k5z, 0, none⟩) l.length c5] (by simp [Act.eval]) (fun vz wz => vz = .int .i64 (apC D nm l) ∧ ∃ vf' cs', DskAt wz G.p vf' cs' (apD D nm l) ∧ Grown w1d wz G.P ∧ ∀ k, DskS G.p vf' cs' k → G.P k ∨ w1d.heap.size ≤ k) ?_ ?_
 ·refine (pappend_any G.d G.p nm (.slice (some ⟨k5z, 0, none⟩) l.length c5) l G.vf G.cs D u a w1d G1d.out.dk G1d.out.dsk HO.out Hu.out Ha.out Hl.out HW2.out.row (fun k hk e => by have e2 : k5z = k := Option.some.inj hk; have h := HU.out G.p (.inr (.inr (.inr (.inl (.inl rfl))))); have := L5.out; have := L0.out; omega)).mono ?_
  rintro e wz ⟨rfl, vf', cs', k1, k2, k3⟩
  exact ⟨_, rfl, rfl, vf', cs', k1, k2, k3⟩
 rintro vz w2 ⟨rfl, vf1, cs1, k1, k2, k3⟩
 have hP : ∀ k, G.P k → k < w.heap.size := fun k hk => HU.out k (.inr (.inr (.inr (.inl hk))))
 have G2 := Keep.mk (G1d.out.prog k1 k2 k3)
 have N2 := Keep.mk (N1d.out.trans (GvN.prog k2 k3))
 have H2 := Keep.mk (k2.blk H1d.out fun e => Lq.out q (hP q e) rfl)
 have HW3 : Keep (WideAt w2 (.slice (some ⟨k5z, 0, none⟩) l.length c5) l) := ⟨HW2.out.grown k2 fun k hk e => by have e2 : k5z = k := Option.some.inj hk; have := hP k e; have := L5.out; have := L0.out; omega⟩
 have HR3 : Keep (RowAt w2 (.slice ba l.length bc) l) := ⟨HR2.out.gr k2 fun hn k hk _ e => HRb.out hn k hk (.inr (.inr (.inr (.inl e))))⟩
 have NU : Keep (∀ k, (GV.U { G with vf := vf1, cs := cs1 }) k → k ≠ k5z) := ⟨fun k hk e => by
  subst e
  rcases (GvN.prog k2 k3).2.2 k hk with e | e
  ·have := HU.out k e; have := L5.out; have := L0.out; omega
  ·have := L6.out; omega⟩
 clear k1 k2 k3 hP
 refine hK _ _ (dos_of G2.out.c0 G2.out.c1 G2.out.c2 H2.out) fun hH1 => ?_
 clear hK
 simp only [Act.put, pqA, pqB, pqC]
 refine TkK (i := 8) (oi := ⟨some 6, Op.assign (Operand.tmp 36), 51, _, _, none⟩) (v := .int .i64 (apC D nm l)) rfl hH1 ?_
 refine wpAnyH_done (by kernel_rfl) ?_ _
 refine hK6 _ _ ?_
 refine wp_seq_k fun K7 hK7 => ?_
 have q4 := H2.out.c 4 (by rfl : (opA (⟨1, oa, on, nm, .slice ba l.length bc, .slice ka kp.length kc⟩ : OX))[4]? = some (.slice ba l.length bc))
 refine rgn ?_
 refine VlS (.slice (some ⟨k5z, 0, none⟩) l.length c5) ?_
 refine VlS (.pointer (some ⟨q, 4, none⟩)) ?_
 refine VlS (.slice ba l.length bc) ?_
 clear q4
 refine WL.callF (by kernel_rfl) 28 _ _ rfl Tryz.in28 #[.slice (some ⟨k5z, 0, none⟩) l.length c5, .slice ba l.length bc] (by simp [Act.eval]) ?_
 refine (kept_any _ _ l w2 HW3.out HR3.out (by have := Hl.out; omega)).mono ?_
 rintro e w3 ⟨rfl, hw_⟩
 refine ⟨_, rfl, ?_⟩
 have hw_ := hw_.symm
 subst hw_
 have XS : Keep (XR w2 k5z l.length w2) := ⟨by obtain ⟨k', c', e', hx⟩ := HW3.out.xr; injection e' with e1; injection e1 with e1; injection e1 with e1; subst e1; exact hx⟩
 simp only [Act.put, pqA, pqB, pqC]
 refine VbT ?_
 refine WL.nil (hK7 _ _ ?_)
 refine wp_seq_k fun K8 hK8 => ?_
 refine wp_seq_k fun K9 hK9 => rgn ?_
 refine VlS (.slice (some ⟨k5z, 0, none⟩) l.length c5) ?_
 refine VlS (.int .i64 (l.length : Int)) ?_
 refine VlS (.int .i64 0) ?_
 refine WL.nil (hK9 _ _ ?_)
 refine wp_block ?_
 refine wp_loop (fun ac wr => ∃ (t : Nat), ac = apF (fun fz => { tmps := #[.pointer (some ⟨G.g, 0, none⟩), .agg (opA (⟨1, oa, on, nm, .slice ba l.length bc, .slice ka kp.length kc⟩ : OX)), undef, .pointer (some ⟨q, 0, none⟩), .bool false, .slice (some ⟨k5z, 0, none⟩) l.length c5, .int .i64 (apC D nm l), .bool true, fz 8, undef, undef, undef, undef, undef, undef, undef, undef, undef, undef, undef, undef, undef, .pointer (some ⟨q, 0, none⟩), .int .i64 1, .bool true, .bool true, .pointer (some ⟨q, 4, none⟩), .slice ba l.length bc, .slice (some ⟨k5z, 0, none⟩) l.length c5, .pointer (some ⟨G.g, 0, none⟩), .pointer (some ⟨G.g, 0, none⟩), .pointer (some ⟨G.g, 0, none⟩), .pointer (some ⟨G.d, 0, none⟩), .pointer (some ⟨q, 3, none⟩), .string nm, .slice (some ⟨k5z, 0, none⟩) l.length c5, .int .i64 (apC D nm l), .slice (some ⟨k5z, 0, none⟩) l.length c5, .pointer (some ⟨q, 4, none⟩), .slice ba l.length bc, .bool true, .slice (some ⟨k5z, 0, none⟩) l.length c5, .int .i64 (l.length : Int), .int .i64 (t : Int), fz 44, fz 45, fz 46, fz 47, fz 48, fz 49, fz 50, fz 51, fz 52, undef, undef, undef, undef, undef, undef, undef, undef, undef, undef, undef, undef, undef, undef, undef, undef, undef, undef, undef, undef, undef, undef, undef, undef, undef, undef, undef, undef, undef, undef, undef, undef, undef, undef, undef, undef, undef, undef, undef, undef, undef, undef, undef, undef, undef, undef, undef, undef, undef, undef, undef, undef, undef, undef, undef, undef, undef, undef, undef, undef, undef, undef, undef, undef, undef, undef, undef, undef, undef, undef, undef, undef, undef, undef, undef, undef, undef, undef, undef, undef, undef, undef, undef, undef, undef, undef, undef, undef, undef, undef, undef, undef, undef, undef, undef, undef, undef, undef, undef, undef, undef, undef, undef, undef, undef, undef, undef, undef, undef, undef, undef, undef, undef, undef, undef, undef, undef, undef, undef, undef, undef, undef, undef, undef, undef, undef, undef, undef, undef, undef, undef, undef, undef, undef, undef, undef, undef, undef, undef, undef, undef, undef, undef, undef, undef, undef, undef, undef, undef, undef, undef, undef, undef, undef, undef, undef, undef, undef, undef, undef, undef, undef, undef, undef, undef, undef, undef, undef, undef, undef, undef, undef, undef, undef, undef, undef, undef, undef, undef, undef, undef, undef, undef, undef, undef, undef, undef, undef, undef, undef, undef, undef, undef, undef, undef, undef, undef, undef, undef, undef, undef, undef, undef], defers := [] }) ac ∧ t ≤ l.length ∧ XR w2 k5z l.length wr) (fun a _ => l.length - (intOf (a.tmps.getD 43 undef)).toNat) ⟨0, rfl, Nat.zero_le _, XS.out⟩ ?_
 rintro ac wr ⟨t, hac, ht, hJ⟩
 obtain ⟨fz, rfl⟩ := unF hac
 have JX := Keep.mk hJ
 clear hJ
 by_cases hlt : t < l.length
 ·have hlt' : (t : Int) < (l.length : Int) := by omega
  have hwt : IntKind.i64.wrap ((t : Int) + 1) = (t : Int) + 1 := by rw [IntKind.wrap_i64]; have := Hl.out; omega
  obtain ⟨z, cz, f_o, hst⟩ := JX.out.step hlt
  have HST := Keep.mk (hst (bits .xor .u8 z 255))
  clear hst
  refine wp_seq_k fun K10 hK10 => rgn ?_
  refine VbT ?_
  refine WL.nil (hK10 _ _ ?_)
  refine wp_seq_k fun K11 hK11 => ?_
  refine wp_cond_true rfl ?_
  refine wp_skip ?_
  refine hK11 _ _ ?_
  refine wp_seq_k fun K12 hK12 => ?_
  refine wp_block ?_
  refine wp_seq_k fun K13 hK13 => rgn ?_
  refine VlS (.int .i64 (t : Int)) ?_
  refine VlS (.int .i64 (t : Int)) ?_
  refine WL.nil (hK13 _ _ ?_)
  refine rgn ?_
  refine VlS (.slice (some ⟨k5z, 0, none⟩) l.length c5) ?_
  refine VlS (.int .i64 (t : Int)) ?_
  refine VlS (.pointer (some ⟨k5z, t, none⟩)) ?_
  refine VlS (.int .u8 z) ?_
  refine VlS (.int .u8 (bits .xor .u8 z 255)) ?_
  refine VlS (.pointer (some ⟨k5z, t, none⟩)) ?_
  refine WL.cell (by kernel_rfl) (wr.setCell ⟨k5z, t, none⟩ (.int .u8 (bits .xor .u8 z 255))) (by go_simp) ?_
  clear cz f_o
  generalize wr.setCell ⟨k5z, t, none⟩ (.int .u8 (bits .xor .u8 z 255)) = w4 at *
  simp only [Act.put]
  refine WL.nil (hK12 _ _ ?_)
  refine rgn ?_
  refine VlS (.int .i64 ((t : Int) + 1)) ?_
  refine VlS (.int .i64 ((t : Int) + 1)) ?_
  refine WL.nil ?_
  refine ⟨⟨t + 1, rfl, by omega, HST.out⟩, ?_⟩
  simp only [intOf]; show l.length - ((t : Int) + 1).toNat < l.length - ((t : Int)).toNat; omega
 ·have hlt' : ¬ (t : Int) < (l.length : Int) := by omega
  have hX := JX.out.2
  have G4 := Keep.mk (G2.out.grown hX fun k hk e => NU.out k hk e)
  have N4 := Keep.mk (N2.out.out hX fun k e => by have := L5.out; have := L0.out; omega)
  have H4 := Keep.mk (hX.blk H2.out fun e => by have := L5.out; have := L0.out; omega)
  have HR4 : Keep (RowAt wr (.slice ba l.length bc) l) := ⟨HR3.out.gr hX fun hn k hk _ e => by have := HR.out.lt' hn k hk; have := L5.out; have := L0.out; omega⟩
  clear hX JX G2 N2 H2 HR3
  refine wp_seq_k fun K14 hK14 => rgn ?_
  refine VbF ?_
  refine WL.nil (hK14 _ _ ?_)
  refine wp_seq_k fun K15 hK15 => ?_
  refine wp_cond_false rfl ?_
  refine wp_exit ?_
  refine hK8 _ _ ?_
  refine wp_seq_k fun K16 hK16 => ?_
  have G4d := Keep.mk G4.out.drew
  have N4d : Keep (GvN w wr.drew G _) := ⟨N4.out.trans (GvN.blw _ (Below.refl _ _).drew)⟩
  have H4d : Keep (Blk wr.drew q 43 (opA (⟨1, oa, on, nm, .slice ba l.length bc, .slice ka kp.length kc⟩ : OX))) := ⟨H4.out⟩
  have HR5 : Keep (RowAt wr.drew (.slice ba l.length bc) l) := ⟨HR4.out.grown (Grown.refl wr (fun _ => False)).drew fun _ _ _ h => h⟩
  refine wp_region_held_drew (S := DoS G.g G.d G.h G.x q oa on nm (.slice ba l.length bc) (.slice ka kp.length kc)) (by kernel_rfl) (dos_of G4d.out.c0 G4d.out.c1 G4d.out.c2 H4d.out) (fun hHeld => ?_)
  generalize wr.drew = wrd at *
  refine TkK (i := 0) (oi := ⟨some 53, Op.move (Operand.tmp 7), 4, _, _, none⟩) (v := .bool true) rfl hHeld ?_
  refine TkK (i := 1) (oi := ⟨some 54, Op.move (Operand.tmp 53), 4, _, _, none⟩) (v := .bool true) rfl hHeld ?_
  refine TkK (i := 2) (oi := ⟨some 55, Op.move (Operand.tmp 6), 51, _, _, some (1, true)⟩) (v := .int .i64 (apC D nm l)) rfl hHeld ?_
  refine TkK (i := 3) (oi := ⟨some 56, Op.move (Operand.tmp 0), 26, _, _, some (1, true)⟩) (v := .pointer (some ⟨G.g, 0, none⟩)) rfl hHeld ?_
  refine TkK (i := 7) (oi := ⟨some 60, Op.fieldAddr 43 (Operand.tmp 3) 3, 0, _, _, some (1, true)⟩) (v := .pointer (some ⟨q, 3, none⟩)) rfl hHeld ?_
  refine TkK (i := 9) (oi := ⟨some 62, Op.fieldAddr 43 (Operand.tmp 3) 4, 0, _, _, some (1, true)⟩) (v := .pointer (some ⟨q, 4, none⟩)) rfl hHeld ?_
  refine TkK (i := 4) (oi := ⟨some 57, Op.nilCheck (Operand.tmp 56), 0, _, _, some (1, true)⟩) (v := .pointer (some ⟨G.g, 0, none⟩)) rfl hHeld ?_
  refine TkK (i := 8) (oi := ⟨some 61, Op.load 9 (Operand.tmp 60), 9, _, _, some (1, true)⟩) (v := .string nm) rfl hHeld ?_
  refine TkK (i := 10) (oi := ⟨some 63, Op.load 40 (Operand.tmp 62), 40, _, _, some (1, true)⟩) (v := .slice ba l.length bc) rfl hHeld ?_
  refine TkK (i := 5) (oi := ⟨some 58, Op.fieldAddr 35 (Operand.tmp 57) 2, 0, _, _, some (1, true)⟩) (v := .pointer (some ⟨G.g, 2, none⟩)) rfl hHeld ?_
  refine TkK (i := 6) (oi := ⟨some 59, Op.load 27 (Operand.tmp 58), 27, _, _, some (1, true)⟩) (v := .pointer (some ⟨G.x, 0, none⟩)) rfl hHeld ?_
  refine wpAnyH_ready (rs := [11]) (by kernel_rfl) (by simp) ?_
  refine AllReadyH.cons (o := ⟨some 64, Op.call { callee := Callee.value (Operand.func 29), args := #[Operand.tmp 59, Operand.tmp 61, Operand.tmp 63], argTypes := #[27, 9, 40] }, 51, _, _, some (1, true)⟩) rfl (fun K hK => ?_) AllReadyH.nil
  rw [if_pos (by rfl)]
  refine wp_callF 29 _ _ rfl Tryz.in29 #[.pointer (some ⟨G.x, 0, none⟩), .string nm, .slice ba l.length bc] (by simp [Act.eval]) (fun vz wz => vz = .int .i64 (apC D nm l) ∧ ∃ vr' va' cr' ms', RDAt wz G.x vr' va' cr' ms' (apD D nm l) ∧ Grown wrd wz (RdW G.x G.vr G.va) ∧ ∀ k, RdS G.x vr' va' cr' k → G.R k ∨ wrd.heap.size ≤ k) ?_ ?_
  ·refine (rappend_any G.x nm (.slice ba l.length bc) G.vr G.va l G.cr G.ms D wrd G4d.out.ref HO.out.lay.srt Hn.out (by rw [G4d.out.ref.rcs.len]; exact HO.out.lay.len) (by have h1 := HO.out.us; have h2 := HO.out.room; have h3 := Hu.out; have h4 := usd_nonneg D.fs; omega) Hl.out (by have h1 : (G.ms.length : Int) = D.acts := G4d.out.ref.num.1; have h2 := HO.out.acts; have h3 := Ha.out; omega) (by have := HO.out.fuse; omega) HR5.out (fun hn k hk e => HRb.out hn k hk (.inr (.inr (.inr (.inr (.inl (.inl (.inl e))))))))).mono ?_
   rintro e wz ⟨rfl, vr', va', cr', ms', k1, k2, k3⟩
   exact ⟨_, rfl, rfl, vr', va', cr', ms', k1, k2, k3⟩
  rintro vz w6 ⟨rfl, vr2, va2, cr2, ms2, k1, k2, k3⟩
  have G6 := Keep.mk (G4d.out.doc k1 k2 k3)
  have N6 := Keep.mk (N4d.out.trans (GvN.doc (ms' := ms2) k2 k3))
  have H6 := Keep.mk (k2.blk H4d.out fun e => Lq.out q (HU.out q (.inr (.inr (.inr (.inr (.inl (.inl e))))))) rfl)
  clear k1 k2 k3
  refine hK _ _ (dos_of G6.out.c0 G6.out.c1 G6.out.c2 H6.out) fun hH2 => ?_
  clear hK
  simp only [Act.put, pqA, pqB, pqC]
  refine TkK (i := 12) (oi := ⟨some 65, Op.binOp BinOp.eql 51 (Operand.tmp 55) (Operand.tmp 64) 51, 4, _, _, some (1, true)⟩) (v := .bool true) rfl hH2 ?_
  refine TkK (i := 13) (oi := ⟨some 66, Op.pick (Operand.tmp 54) (Operand.tmp 65) (Operand.const (Value.bool false)), 4, _, _, none⟩) (v := .bool true) rfl hH2 ?_
  refine TkK (i := 14) (oi := ⟨some 4, Op.assign (Operand.tmp 66), 4, _, _, none⟩) (v := .bool true) rfl hH2 ?_
  refine wpAnyH_done (by kernel_rfl) ?_ _
  refine hK16 _ _ ?_
  refine wp_ret ?_
  go_ret
  exact ⟨rfl, _, G6.out, N6.out⟩
theorem GvAt.adds {w : World} {G : GV} {D E : DV} {vb : Value} {lb : List Int} (h : GvAt w G D E) (hv : OwnT w vb lb) (hs : ∀ k, vb.ownBlock = some k → ¬ G.U k) (hb : lb.length + 60 ≤ 140737488355328) :
  Calls Tryz.prog 38 #[.pointer (some ⟨G.g, 3, none⟩), vb] w (AddPost G.g 35 (kxG G.d G.h G.x) vb G.F w) := by
 obtain ⟨lv, gv, N, A, B, n, h1, h2, h3, h4, h5⟩ := h.bk
 exact add_any G.g 3 35 (kxG G.d G.h G.x) (boxG G.d G.h G.x) (by decide) (by decide) lv gv N A B n G.F vb lb w h1 h2 h3 h4 h5 (fun hF => (h.fz _ hF).2.1 rfl) hv (fun k hk hF => hs k hk (.inr (.inr (.inr (.inr (.inr hF)))))) hb
theorem GvN.add {w w1 w2 : World} {G G1 : GV} {vb : Value} (h : GvN w w1 G G1) (hg : Grown w1 w2 fun k => G1.U k ∨ vb.ownBlock = some k) (hv : ∀ k, vb.ownBlock = some k → w.heap.size ≤ k) : GvN w w2 G { G1 with F := fun k => G1.F k ∨ vb.ownBlock = some k ∨ (w1.heap.size ≤ k ∧ k < w2.heap.size) } := by
 refine ⟨h.1, h.2.1.next hg fun i hi e => ?_, fun k hk => ?_⟩
 ·rcases e with e | e
  ·exact h.uLe e hi
  ·have := hv i e; omega
 ·have hsz := h.2.1.size
  rcases hk with e | e | e | hk | hk | hk | hk | hk
  ·exact h.2.2 k (.inl e)
  ·exact h.2.2 k (.inr (.inl e))
  ·exact h.2.2 k (.inr (.inr (.inl e)))
  ·exact h.2.2 k (.inr (.inr (.inr (.inl hk))))
  ·exact h.2.2 k (.inr (.inr (.inr (.inr (.inl hk)))))
  ·exact h.2.2 k (.inr (.inr (.inr (.inr (.inr hk)))))
  ·exact .inr (hv k hk)
  ·exact .inr (by omega)
theorem re_len (D : DV) (n : ByteArray) (x m : Int) : ((reV D n x m).length : Int) ≤ usd D.fs := by
 have h0 := usd_nonneg D.fs
 unfold reV
 split
 ·simpa using h0
 split
 ·simpa using h0
 split
 ·have h1 : ((flB D n).length : Int) ≤ usd D.fs := by
   unfold flB
   split
   ·rename_i f hf; exact usd_at hf
   ·simpa using h0
  have h2 : (((flB D n).drop x.toNat).take m.toNat).length ≤ (flB D n).length := by
   rw [List.length_take, List.length_drop]; omega
  omega
 ·simpa using h0
set_option maxRecDepth 8000 in
set_option maxHeartbeats 8000000 in
theorem do_read (G : GV) (D : DV) (u a oa on : Int) (nm : ByteArray) (vb vk : Value) (l kp : List Int) (w : World) (hG : GvAt w G D D) (hO : DOk D u a) (hu : u ≤ 1000000000000) (ha : a ≤ 100000000000) (hl : l.length ≤ 1000000000000) (hn : nm.size ≤ 1000000000000000) (hR : RowAt w vb l) (hRb : l ≠ [] → ∀ k, vb.ownBlock = some k → ¬ G.U k) (hKp : IntsAt w vk kp) (hKb : kp ≠ [] → ∀ k, vk.ownBlock = some k → ¬ G.U k) :
  Calls Tryz.prog 11 #[ptr G.g, .agg (opA ⟨5, oa, on, nm, vb, vk⟩)] w fun e w' => e = .returned (.bool true) ∧ ∃ G', GvAt w' G' (D) (D) ∧ GvN w w' G G' := by
 obtain ⟨ba, bc, rfl⟩ := row_form hR
 obtain ⟨ka, kc, rfl⟩ := hKp.form
 have HG := Keep.mk hG
 have HO := Keep.mk hO
 have Hu := Keep.mk hu
 have Ha := Keep.mk ha
 have Hl := Keep.mk hl
 have Hn := Keep.mk hn
 have HR := Keep.mk hR
 have HRb := Keep.mk hRb
 have HKp := Keep.mk hKp
 have HKb := Keep.mk hKb
 clear hG hO hu ha hl hn hR hRb hKp hKb
 go_enter Tryz.func11, Tryz.ntmps11
 refine wp_seq_k fun K1 hK1 => rgn ?_
 refine WL.box (by kernel_rfl) 43 (.tmp 1) rfl (opA (⟨5, oa, on, nm, .slice ba l.length bc, .slice ka kp.length kc⟩ : OX)) rfl ?_
 have HB := Keep.mk (Blk.new w 43 (opA (⟨5, oa, on, nm, .slice ba l.length bc, .slice ka kp.length kc⟩ : OX)))
 have B0 := Keep.mk (below_new w (.cells (opA (⟨5, oa, on, nm, .slice ba l.length bc, .slice ka kp.length kc⟩ : OX)) 43))
 change WL _ _ _ _ _ (w.alloc (.cells (opA (⟨5, oa, on, nm, .slice ba l.length bc, .slice ka kp.length kc⟩ : OX)) 43))
 generalize w.alloc (.cells (opA (⟨5, oa, on, nm, .slice ba l.length bc, .slice ka kp.length kc⟩ : OX)) 43) = w0 at *
 obtain ⟨q, hq⟩ : ∃ z, Keep (z = w.heap.size) := ⟨_, ⟨rfl⟩⟩
 rw [← hq.out] at HB ⊢
 have Lq : Keep (∀ k, k < w.heap.size → k ≠ q) := ⟨fun k hk => by rw [hq.out]; omega⟩
 have HU : Keep (∀ k, G.U k → k < w.heap.size) := ⟨fun k hk => HG.out.uLt hk⟩
 have G0 := Keep.mk (HG.out.below B0.out)
 have N0 : Keep (GvN w w0 G G) := ⟨GvN.blw G B0.out⟩
 have HR0 := Keep.mk (HR.out.below B0.out)
 have HK0 := Keep.mk (HKp.out.below B0.out)
 clear HG hq
 have q0 := HB.out.c 0 (by rfl : (opA (⟨5, oa, on, nm, .slice ba l.length bc, .slice ka kp.length kc⟩ : OX))[0]? = some (.int .i64 5))
 simp only [Act.put, pqA, pqB, pqC]
 refine VbF ?_
 refine WL.nil (hK1 _ _ ?_)
 refine wp_seq_k fun K2 hK2 => ?_
 refine wp_seq_k fun K3 hK3 => rgn ?_
 refine VlS (.pointer (some ⟨q, 0, none⟩)) ?_
 refine VlS (.int .i64 5) ?_
 refine WL.nil (hK3 _ _ ?_)
 refine wp_block ?_
 refine wp_seq_k fun K4 hK4 => rgn ?_
 refine VbF ?_
 refine VbF ?_
 refine WL.nil (hK4 _ _ ?_)
 refine wp_cond_false rfl ?_
 refine wp_seq_k fun K5 hK5 => rgn ?_
 refine VbF ?_
 refine VbF ?_
 refine WL.nil (hK5 _ _ ?_)
 refine wp_cond_false rfl ?_
 refine wp_seq_k fun K6 hK6 => rgn ?_
 refine VbF ?_
 refine VbF ?_
 refine WL.nil (hK6 _ _ ?_)
 refine wp_cond_false rfl ?_
 refine wp_seq_k fun K7 hK7 => rgn ?_
 refine VbF ?_
 refine VbF ?_
 refine WL.nil (hK7 _ _ ?_)
 refine wp_cond_false rfl ?_
 refine wp_seq_k fun K8 hK8 => rgn ?_
 refine VbT ?_
 refine VbT ?_
 refine WL.nil (hK8 _ _ ?_)
 refine wp_cond_true rfl ?_
 refine wp_seq_k fun K9 hK9 => ?_
 clear q0
 have G0d := Keep.mk G0.out.drew
 have N0d : Keep (GvN w w0.drew G _) := ⟨N0.out.trans (GvN.blw _ (Below.refl _ _).drew)⟩
 have HBd : Keep (Blk w0.drew q 43 (opA (⟨5, oa, on, nm, .slice ba l.length bc, .slice ka kp.length kc⟩ : OX))) := ⟨HB.out⟩
 refine wp_region_held_drew (S := DoS G.g G.d G.h G.x q oa on nm (.slice ba l.length bc) (.slice ka kp.length kc)) (by kernel_rfl) (dos_of G0d.out.c0 G0d.out.c1 G0d.out.c2 HBd.out) (fun hHeld => ?_)
 generalize w0.drew = w0d at *
 refine TkK (i := 0) (oi := ⟨some 125, Op.move (Operand.tmp 0), 26, _, _, none⟩) (v := .pointer (some ⟨G.g, 0, none⟩)) rfl hHeld ?_
 refine TkK (i := 4) (oi := ⟨some 129, Op.fieldAddr 43 (Operand.tmp 3) 3, 0, _, _, none⟩) (v := .pointer (some ⟨q, 3, none⟩)) rfl hHeld ?_
 refine TkK (i := 6) (oi := ⟨some 131, Op.fieldAddr 43 (Operand.tmp 3) 1, 0, _, _, none⟩) (v := .pointer (some ⟨q, 1, none⟩)) rfl hHeld ?_
 refine TkK (i := 8) (oi := ⟨some 133, Op.fieldAddr 43 (Operand.tmp 3) 2, 0, _, _, none⟩) (v := .pointer (some ⟨q, 2, none⟩)) rfl hHeld ?_
 refine TkK (i := 1) (oi := ⟨some 126, Op.nilCheck (Operand.tmp 125), 0, _, _, none⟩) (v := .pointer (some ⟨G.g, 0, none⟩)) rfl hHeld ?_
 refine TkK (i := 5) (oi := ⟨some 130, Op.load 9 (Operand.tmp 129), 9, _, _, none⟩) (v := .string nm) rfl hHeld ?_
 refine TkK (i := 7) (oi := ⟨some 132, Op.load 3 (Operand.tmp 131), 3, _, _, none⟩) (v := .int .i64 oa) rfl hHeld ?_
 refine TkK (i := 9) (oi := ⟨some 134, Op.load 3 (Operand.tmp 133), 3, _, _, none⟩) (v := .int .i64 on) rfl hHeld ?_
 refine TkK (i := 2) (oi := ⟨some 127, Op.fieldAddr 35 (Operand.tmp 126) 0, 0, _, _, none⟩) (v := .pointer (some ⟨G.g, 0, none⟩)) rfl hHeld ?_
 refine TkK (i := 3) (oi := ⟨some 128, Op.load 29 (Operand.tmp 127), 29, _, _, none⟩) (v := .pointer (some ⟨G.d, 0, none⟩)) rfl hHeld ?_
 refine wpAnyH_ready (rs := [10]) (by kernel_rfl) (by simp) ?_
 refine AllReadyH.cons (o := ⟨some 135, Op.call { callee := Callee.value (Operand.func 36), args := #[Operand.tmp 128, Operand.tmp 130, Operand.tmp 132, Operand.tmp 134], argTypes := #[29, 9, 3, 3] }, 78, _, _, none⟩) rfl (fun K hK => ?_) AllReadyH.nil
 rw [if_pos (by rfl)]
 refine wp_callF 36 _ _ rfl Tryz.in36 #[.pointer (some ⟨G.d, 0, none⟩), .string nm, .int .i64 oa, .int .i64 on] (by simp [Act.eval]) (fun vz wz => ∃ v, vz = .tuple #[v, .int .i64 (reC D nm oa on)] ∧ Own wz v (reV D nm oa on) ∧ (∀ k, v.ownBlock = some k → w0d.heap.size ≤ k) ∧ Below w0d.heap.size w0d wz) ?_ ?_
 ·refine (pread_any G.d G.p nm oa on G.vf G.cs D u a w0d G0d.out.dk G0d.out.dsk HO.out Hu.out Ha.out).mono ?_
  rintro e wz ⟨v, rfl, k1, k2, k3⟩
  exact ⟨_, rfl, v, rfl, k1, k2, k3⟩
 rintro vz w1 ⟨v9, rfl, k1, k2, k3⟩
 have G1 := Keep.mk (G0d.out.below k3)
 have N1 : Keep (GvN w w1 G G) := ⟨N0d.out.trans (GvN.blw G k3)⟩
 have H1 := Keep.mk (HBd.out.below k3 HBd.out.lt)
 have O1 := Keep.mk k1
 have L9 : Keep (∀ k, v9.ownBlock = some k → w.heap.size ≤ k) := ⟨fun k hk => Nat.le_trans N0d.out.2.1.size (k2 k hk)⟩
 clear k1 k2 k3
 refine hK _ _ (dos_of G1.out.c0 G1.out.c1 G1.out.c2 H1.out) fun hH1 => ?_
 clear hK
 simp only [Act.put, pqA, pqB, pqC]
 refine TkK (i := 11) (oi := ⟨some 124, Op.move (Operand.tmp 135), 78, _, _, none⟩) (v := .tuple #[v9, .int .i64 (reC D nm oa on)]) rfl hH1 ?_
 refine TkK (i := 12) (oi := ⟨some 136, Op.extract (Operand.tmp 124) 0, 40, _, _, none⟩) (v := v9) rfl hH1 ?_
 refine TkK (i := 13) (oi := ⟨some 137, Op.extract (Operand.tmp 124) 1, 51, _, _, none⟩) (v := .int .i64 (reC D nm oa on)) rfl hH1 ?_
 refine TkK (i := 14) (oi := ⟨some 9, Op.assign (Operand.tmp 136), 40, _, _, none⟩) (v := v9) rfl hH1 ?_
 refine TkK (i := 15) (oi := ⟨some 10, Op.assign (Operand.tmp 137), 51, _, _, none⟩) (v := .int .i64 (reC D nm oa on)) rfl hH1 ?_
 refine wpAnyH_done (by kernel_rfl) ?_ _
 refine hK9 _ _ ?_
 refine wp_seq_k fun K10 hK10 => ?_
 have G1d := Keep.mk G1.out.drew
 have N1d : Keep (GvN w w1.drew G _) := ⟨N1.out.trans (GvN.blw _ (Below.refl _ _).drew)⟩
 have H1d : Keep (Blk w1.drew q 43 (opA (⟨5, oa, on, nm, .slice ba l.length bc, .slice ka kp.length kc⟩ : OX))) := ⟨H1.out⟩
 have O2 : Keep (Own w1.drew v9 (reV D nm oa on)) := ⟨O1.out.grown (Grown.refl w1 (fun _ => False)).drew fun _ _ h => h⟩
 refine wp_region_held_drew (S := DoS G.g G.d G.h G.x q oa on nm (.slice ba l.length bc) (.slice ka kp.length kc)) (by kernel_rfl) (dos_of G1d.out.c0 G1d.out.c1 G1d.out.c2 H1d.out) (fun hHeld => ?_)
 generalize w1.drew = w1d at *
 refine TkK (i := 0) (oi := ⟨some 139, Op.move (Operand.tmp 0), 26, _, _, none⟩) (v := .pointer (some ⟨G.g, 0, none⟩)) rfl hHeld ?_
 refine TkK (i := 4) (oi := ⟨some 143, Op.fieldAddr 43 (Operand.tmp 3) 3, 0, _, _, none⟩) (v := .pointer (some ⟨q, 3, none⟩)) rfl hHeld ?_
 refine TkK (i := 6) (oi := ⟨some 145, Op.fieldAddr 43 (Operand.tmp 3) 1, 0, _, _, none⟩) (v := .pointer (some ⟨q, 1, none⟩)) rfl hHeld ?_
 refine TkK (i := 8) (oi := ⟨some 147, Op.fieldAddr 43 (Operand.tmp 3) 2, 0, _, _, none⟩) (v := .pointer (some ⟨q, 2, none⟩)) rfl hHeld ?_
 refine TkK (i := 1) (oi := ⟨some 140, Op.nilCheck (Operand.tmp 139), 0, _, _, none⟩) (v := .pointer (some ⟨G.g, 0, none⟩)) rfl hHeld ?_
 refine TkK (i := 5) (oi := ⟨some 144, Op.load 9 (Operand.tmp 143), 9, _, _, none⟩) (v := .string nm) rfl hHeld ?_
 refine TkK (i := 7) (oi := ⟨some 146, Op.load 3 (Operand.tmp 145), 3, _, _, none⟩) (v := .int .i64 oa) rfl hHeld ?_
 refine TkK (i := 9) (oi := ⟨some 148, Op.load 3 (Operand.tmp 147), 3, _, _, none⟩) (v := .int .i64 on) rfl hHeld ?_
 refine TkK (i := 2) (oi := ⟨some 141, Op.fieldAddr 35 (Operand.tmp 140) 2, 0, _, _, none⟩) (v := .pointer (some ⟨G.g, 2, none⟩)) rfl hHeld ?_
 refine TkK (i := 3) (oi := ⟨some 142, Op.load 27 (Operand.tmp 141), 27, _, _, none⟩) (v := .pointer (some ⟨G.x, 0, none⟩)) rfl hHeld ?_
 refine wpAnyH_ready (rs := [10]) (by kernel_rfl) (by simp) ?_
 refine AllReadyH.cons (o := ⟨some 149, Op.call { callee := Callee.value (Operand.func 37), args := #[Operand.tmp 142, Operand.tmp 144, Operand.tmp 146, Operand.tmp 148], argTypes := #[27, 9, 3, 3] }, 78, _, _, none⟩) rfl (fun K hK => ?_) AllReadyH.nil
 rw [if_pos (by rfl)]
 refine wp_callF 37 _ _ rfl Tryz.in37 #[.pointer (some ⟨G.x, 0, none⟩), .string nm, .int .i64 oa, .int .i64 on] (by simp [Act.eval]) (fun vz wz => ∃ v, vz = .tuple #[v, .int .i64 (reC D nm oa on)] ∧ RowAt w1d v (reV D nm oa on) ∧ w1d = wz) ?_ ?_
 ·refine (rread_any G.x nm oa on G.vr G.va G.cr G.ms D w1d G1d.out.ref HO.out.lay.srt (by rw [G1d.out.ref.rcs.len]; exact HO.out.lay.len) (fun f hf => by have h := usd_mem_le hf; have := HO.out.us; have := Hu.out; omega)).mono ?_
  rintro e wz ⟨v, rfl, k1, k2⟩
  exact ⟨_, rfl, v, rfl, k1, k2.symm⟩
 rintro vz w2 ⟨v10, rfl, k1, k2⟩
 subst k2
 have R2 := Keep.mk k1
 clear k1
 refine hK _ _ (dos_of G1d.out.c0 G1d.out.c1 G1d.out.c2 H1d.out) fun hH2 => ?_
 clear hK
 simp only [Act.put, pqA, pqB, pqC]
 refine TkK (i := 11) (oi := ⟨some 138, Op.move (Operand.tmp 149), 78, _, _, none⟩) (v := .tuple #[v10, .int .i64 (reC D nm oa on)]) rfl hH2 ?_
 refine TkK (i := 12) (oi := ⟨some 150, Op.extract (Operand.tmp 138) 0, 40, _, _, none⟩) (v := v10) rfl hH2 ?_
 refine TkK (i := 13) (oi := ⟨some 151, Op.extract (Operand.tmp 138) 1, 51, _, _, none⟩) (v := .int .i64 (reC D nm oa on)) rfl hH2 ?_
 refine TkK (i := 14) (oi := ⟨some 11, Op.assign (Operand.tmp 150), 40, _, _, none⟩) (v := v10) rfl hH2 ?_
 refine TkK (i := 15) (oi := ⟨some 12, Op.assign (Operand.tmp 151), 51, _, _, none⟩) (v := .int .i64 (reC D nm oa on)) rfl hH2 ?_
 refine wpAnyH_done (by kernel_rfl) ?_ _
 refine hK10 _ _ ?_
 refine wp_seq_k fun K11 hK11 => ?_
 obtain ⟨st, hst⟩ : ∃ s, Keep (strOfNums (reV D nm oa on) = s) := ⟨_, ⟨rfl⟩⟩
 have hc1 := conv_row v9 _ w1d O2.out.row
 have hc2 := conv_row v10 _ w1d R2.out
 rw [hst.out] at hc1 hc2
 refine rgn ?_
 refine VlS (v9) ?_
 refine VlS (.string st) ?_
 refine VlS (v10) ?_
 refine VlS (.string st) ?_
 refine VbT ?_
 refine VbT ?_
 refine WL.nil (hK11 _ _ ?_)
 refine wp_seq_k fun K12 hK12 => ?_
 clear hc1 hc2
 refine rgn ?_
 refine VlS (.pointer (some ⟨G.g, 0, none⟩)) ?_
 refine VlS (.pointer (some ⟨G.g, 0, none⟩)) ?_
 refine VlS (.pointer (some ⟨G.g, 3, none⟩)) ?_
 refine VlS (v9) ?_
 refine WL.callF (by kernel_rfl) 38 _ _ rfl Tryz.in38 #[.pointer (some ⟨G.g, 3, none⟩), v9] (by simp [Act.eval]) ?_
 have hU9 : ∀ k, v9.ownBlock = some k → ¬ G.U k := fun k hk e => by have := HU.out k e; have := L9.out k hk; omega
 refine (G1d.out.adds O2.out.tail hU9 (by have h := re_len D nm oa on; have h2 := HO.out.us; have h3 := Hu.out; have h4 := usd_nonneg D.fs; omega)).mono ?_
 intro e w3 hp
 obtain ⟨he, k1, k2⟩ := G1d.out.add (fun k hk => ⟨O2.out.lt k hk, hU9 k hk⟩) hp
 subst he
 refine ⟨_, rfl, ?_⟩
 have G3 := Keep.mk k1
 have N3 := Keep.mk (N1d.out.add k2 L9.out)
 clear k1 k2 hp hU9
 simp only [Act.put, pqA, pqB, pqC]
 refine WL.nil (hK12 _ _ ?_)
 refine wp_seq_k fun K13 hK13 => rgn ?_
 refine VbT ?_
 refine VbT ?_
 refine VlS (.int .i64 (reC D nm oa on)) ?_
 refine VlS (.int .i64 (reC D nm oa on)) ?_
 refine VbT ?_
 refine VbT ?_
 refine VbT ?_
 refine WL.nil (hK13 _ _ ?_)
 refine wp_ret ?_
 go_ret
 exact ⟨rfl, _, G3.out, N3.out⟩
set_option maxRecDepth 8000 in
set_option maxHeartbeats 8000000 in
theorem do_size (G : GV) (D : DV) (u a oa on : Int) (nm : ByteArray) (vb vk : Value) (l kp : List Int) (w : World) (hG : GvAt w G D D) (hO : DOk D u a) (hu : u ≤ 1000000000000) (ha : a ≤ 100000000000) (hl : l.length ≤ 1000000000000) (hn : nm.size ≤ 1000000000000000) (hR : RowAt w vb l) (hRb : l ≠ [] → ∀ k, vb.ownBlock = some k → ¬ G.U k) (hKp : IntsAt w vk kp) (hKb : kp ≠ [] → ∀ k, vk.ownBlock = some k → ¬ G.U k) :
  Calls Tryz.prog 11 #[ptr G.g, .agg (opA ⟨6, oa, on, nm, vb, vk⟩)] w fun e w' => e = .returned (.bool true) ∧ ∃ G', GvAt w' G' (D) (D) ∧ GvN w w' G G' := by
 obtain ⟨ba, bc, rfl⟩ := row_form hR
 obtain ⟨ka, kc, rfl⟩ := hKp.form
 have HG := Keep.mk hG
 have HO := Keep.mk hO
 have Hu := Keep.mk hu
 have Ha := Keep.mk ha
 have Hl := Keep.mk hl
 have Hn := Keep.mk hn
 have HR := Keep.mk hR
 have HRb := Keep.mk hRb
 have HKp := Keep.mk hKp
 have HKb := Keep.mk hKb
 clear hG hO hu ha hl hn hR hRb hKp hKb
 go_enter Tryz.func11, Tryz.ntmps11
 refine wp_seq_k fun K1 hK1 => rgn ?_
 refine WL.box (by kernel_rfl) 43 (.tmp 1) rfl (opA (⟨6, oa, on, nm, .slice ba l.length bc, .slice ka kp.length kc⟩ : OX)) rfl ?_
 have HB := Keep.mk (Blk.new w 43 (opA (⟨6, oa, on, nm, .slice ba l.length bc, .slice ka kp.length kc⟩ : OX)))
 have B0 := Keep.mk (below_new w (.cells (opA (⟨6, oa, on, nm, .slice ba l.length bc, .slice ka kp.length kc⟩ : OX)) 43))
 change WL _ _ _ _ _ (w.alloc (.cells (opA (⟨6, oa, on, nm, .slice ba l.length bc, .slice ka kp.length kc⟩ : OX)) 43))
 generalize w.alloc (.cells (opA (⟨6, oa, on, nm, .slice ba l.length bc, .slice ka kp.length kc⟩ : OX)) 43) = w0 at *
 obtain ⟨q, hq⟩ : ∃ z, Keep (z = w.heap.size) := ⟨_, ⟨rfl⟩⟩
 rw [← hq.out] at HB ⊢
 have Lq : Keep (∀ k, k < w.heap.size → k ≠ q) := ⟨fun k hk => by rw [hq.out]; omega⟩
 have HU : Keep (∀ k, G.U k → k < w.heap.size) := ⟨fun k hk => HG.out.uLt hk⟩
 have G0 := Keep.mk (HG.out.below B0.out)
 have N0 : Keep (GvN w w0 G G) := ⟨GvN.blw G B0.out⟩
 have HR0 := Keep.mk (HR.out.below B0.out)
 have HK0 := Keep.mk (HKp.out.below B0.out)
 clear HG hq
 have q0 := HB.out.c 0 (by rfl : (opA (⟨6, oa, on, nm, .slice ba l.length bc, .slice ka kp.length kc⟩ : OX))[0]? = some (.int .i64 6))
 simp only [Act.put, pqA, pqB, pqC]
 refine VbF ?_
 refine WL.nil (hK1 _ _ ?_)
 refine wp_seq_k fun K2 hK2 => ?_
 refine wp_seq_k fun K3 hK3 => rgn ?_
 refine VlS (.pointer (some ⟨q, 0, none⟩)) ?_
 refine VlS (.int .i64 6) ?_
 refine WL.nil (hK3 _ _ ?_)
 refine wp_block ?_
 refine wp_seq_k fun K4 hK4 => rgn ?_
 refine VbF ?_
 refine VbF ?_
 refine WL.nil (hK4 _ _ ?_)
 refine wp_cond_false rfl ?_
 refine wp_seq_k fun K5 hK5 => rgn ?_
 refine VbF ?_
 refine VbF ?_
 refine WL.nil (hK5 _ _ ?_)
 refine wp_cond_false rfl ?_
 refine wp_seq_k fun K6 hK6 => rgn ?_
 refine VbF ?_
 refine VbF ?_
 refine WL.nil (hK6 _ _ ?_)
 refine wp_cond_false rfl ?_
 refine wp_seq_k fun K7 hK7 => rgn ?_
 refine VbF ?_
 refine VbF ?_
 refine WL.nil (hK7 _ _ ?_)
 refine wp_cond_false rfl ?_
 refine wp_seq_k fun K8 hK8 => rgn ?_
 refine VbF ?_
 refine VbF ?_
 refine WL.nil (hK8 _ _ ?_)
 refine wp_cond_false rfl ?_
 refine wp_seq_k fun K9 hK9 => rgn ?_
 refine VbT ?_
 refine VbT ?_
 refine WL.nil (hK9 _ _ ?_)
 refine wp_cond_true rfl ?_
 refine wp_seq_k fun K10 hK10 => ?_
 clear q0
 have G0d := Keep.mk G0.out.drew
 have N0d : Keep (GvN w w0.drew G _) := ⟨N0.out.trans (GvN.blw _ (Below.refl _ _).drew)⟩
 have HBd : Keep (Blk w0.drew q 43 (opA (⟨6, oa, on, nm, .slice ba l.length bc, .slice ka kp.length kc⟩ : OX))) := ⟨HB.out⟩
 refine wp_region_held_drew (S := DoS G.g G.d G.h G.x q oa on nm (.slice ba l.length bc) (.slice ka kp.length kc)) (by kernel_rfl) (dos_of G0d.out.c0 G0d.out.c1 G0d.out.c2 HBd.out) (fun hHeld => ?_)
 generalize w0.drew = w0d at *
 refine TkK (i := 0) (oi := ⟨some 171, Op.move (Operand.tmp 0), 26, _, _, none⟩) (v := .pointer (some ⟨G.g, 0, none⟩)) rfl hHeld ?_
 refine TkK (i := 4) (oi := ⟨some 175, Op.fieldAddr 43 (Operand.tmp 3) 3, 0, _, _, none⟩) (v := .pointer (some ⟨q, 3, none⟩)) rfl hHeld ?_
 refine TkK (i := 1) (oi := ⟨some 172, Op.nilCheck (Operand.tmp 171), 0, _, _, none⟩) (v := .pointer (some ⟨G.g, 0, none⟩)) rfl hHeld ?_
 refine TkK (i := 5) (oi := ⟨some 176, Op.load 9 (Operand.tmp 175), 9, _, _, none⟩) (v := .string nm) rfl hHeld ?_
 refine TkK (i := 2) (oi := ⟨some 173, Op.fieldAddr 35 (Operand.tmp 172) 0, 0, _, _, none⟩) (v := .pointer (some ⟨G.g, 0, none⟩)) rfl hHeld ?_
 refine TkK (i := 3) (oi := ⟨some 174, Op.load 29 (Operand.tmp 173), 29, _, _, none⟩) (v := .pointer (some ⟨G.d, 0, none⟩)) rfl hHeld ?_
 refine wpAnyH_ready (rs := [6]) (by kernel_rfl) (by simp) ?_
 refine AllReadyH.cons (o := ⟨some 177, Op.call { callee := Callee.value (Operand.func 39), args := #[Operand.tmp 174, Operand.tmp 176], argTypes := #[29, 9] }, 81, _, _, none⟩) rfl (fun K hK => ?_) AllReadyH.nil
 rw [if_pos (by rfl)]
 refine wp_callF 39 _ _ rfl Tryz.in39 #[.pointer (some ⟨G.d, 0, none⟩), .string nm] (by simp [Act.eval]) (fun vz wz => vz = .tuple #[.int .i64 (szV D nm), .int .i64 (szC D nm)] ∧ Below w0d.heap.size w0d wz) ?_ ?_
 ·refine (psize_any G.d G.p nm G.vf G.cs D u a w0d G0d.out.dk G0d.out.dsk HO.out Hu.out Ha.out).mono ?_
  rintro e wz ⟨rfl, k3⟩
  exact ⟨_, rfl, rfl, k3⟩
 rintro vz w1 ⟨rfl, k3⟩
 have G1 := Keep.mk (G0d.out.below k3)
 have N1 : Keep (GvN w w1 G G) := ⟨N0d.out.trans (GvN.blw G k3)⟩
 have H1 := Keep.mk (HBd.out.below k3 HBd.out.lt)
 clear k3
 refine hK _ _ (dos_of G1.out.c0 G1.out.c1 G1.out.c2 H1.out) fun hH1 => ?_
 clear hK
 simp only [Act.put, pqA, pqB, pqC]
 refine TkK (i := 7) (oi := ⟨some 170, Op.move (Operand.tmp 177), 81, _, _, none⟩) (v := .tuple #[.int .i64 (szV D nm), .int .i64 (szC D nm)]) rfl hH1 ?_
 refine TkK (i := 8) (oi := ⟨some 178, Op.extract (Operand.tmp 170) 0, 3, _, _, none⟩) (v := .int .i64 (szV D nm)) rfl hH1 ?_
 refine TkK (i := 9) (oi := ⟨some 179, Op.extract (Operand.tmp 170) 1, 51, _, _, none⟩) (v := .int .i64 (szC D nm)) rfl hH1 ?_
 refine TkK (i := 10) (oi := ⟨some 14, Op.assign (Operand.tmp 178), 3, _, _, none⟩) (v := .int .i64 (szV D nm)) rfl hH1 ?_
 refine TkK (i := 11) (oi := ⟨some 15, Op.assign (Operand.tmp 179), 51, _, _, none⟩) (v := .int .i64 (szC D nm)) rfl hH1 ?_
 refine wpAnyH_done (by kernel_rfl) ?_ _
 refine hK10 _ _ ?_
 refine wp_seq_k fun K11 hK11 => ?_
 have G1d := Keep.mk G1.out.drew
 have N1d : Keep (GvN w w1.drew G _) := ⟨N1.out.trans (GvN.blw _ (Below.refl _ _).drew)⟩
 have H1d : Keep (Blk w1.drew q 43 (opA (⟨6, oa, on, nm, .slice ba l.length bc, .slice ka kp.length kc⟩ : OX))) := ⟨H1.out⟩
 refine wp_region_held_drew (S := DoS G.g G.d G.h G.x q oa on nm (.slice ba l.length bc) (.slice ka kp.length kc)) (by kernel_rfl) (dos_of G1d.out.c0 G1d.out.c1 G1d.out.c2 H1d.out) (fun hHeld => ?_)
 generalize w1.drew = w1d at *
 refine TkK (i := 0) (oi := ⟨some 181, Op.move (Operand.tmp 0), 26, _, _, none⟩) (v := .pointer (some ⟨G.g, 0, none⟩)) rfl hHeld ?_
 refine TkK (i := 4) (oi := ⟨some 185, Op.fieldAddr 43 (Operand.tmp 3) 3, 0, _, _, none⟩) (v := .pointer (some ⟨q, 3, none⟩)) rfl hHeld ?_
 refine TkK (i := 1) (oi := ⟨some 182, Op.nilCheck (Operand.tmp 181), 0, _, _, none⟩) (v := .pointer (some ⟨G.g, 0, none⟩)) rfl hHeld ?_
 refine TkK (i := 5) (oi := ⟨some 186, Op.load 9 (Operand.tmp 185), 9, _, _, none⟩) (v := .string nm) rfl hHeld ?_
 refine TkK (i := 2) (oi := ⟨some 183, Op.fieldAddr 35 (Operand.tmp 182) 2, 0, _, _, none⟩) (v := .pointer (some ⟨G.g, 2, none⟩)) rfl hHeld ?_
 refine TkK (i := 3) (oi := ⟨some 184, Op.load 27 (Operand.tmp 183), 27, _, _, none⟩) (v := .pointer (some ⟨G.x, 0, none⟩)) rfl hHeld ?_
 refine wpAnyH_ready (rs := [6]) (by kernel_rfl) (by simp) ?_
 refine AllReadyH.cons (o := ⟨some 187, Op.call { callee := Callee.value (Operand.func 40), args := #[Operand.tmp 184, Operand.tmp 186], argTypes := #[27, 9] }, 81, _, _, none⟩) rfl (fun K hK => ?_) AllReadyH.nil
 rw [if_pos (by rfl)]
 refine wp_callF 40 _ _ rfl Tryz.in40 #[.pointer (some ⟨G.x, 0, none⟩), .string nm] (by simp [Act.eval]) (fun vz wz => vz = .tuple #[.int .i64 (szV D nm), .int .i64 (szC D nm)] ∧ w1d = wz) ?_ ?_
 ·refine (rsize_any G.x nm G.vr G.va G.cr G.ms D w1d G1d.out.ref HO.out.lay.srt (by rw [G1d.out.ref.rcs.len]; exact HO.out.lay.len)).mono ?_
  rintro e wz ⟨rfl, k3⟩
  exact ⟨_, rfl, rfl, k3.symm⟩
 rintro vz w2 ⟨rfl, k3⟩
 subst k3
 refine hK _ _ (dos_of G1d.out.c0 G1d.out.c1 G1d.out.c2 H1d.out) fun hH2 => ?_
 clear hK
 simp only [Act.put, pqA, pqB, pqC]
 refine TkK (i := 7) (oi := ⟨some 180, Op.move (Operand.tmp 187), 81, _, _, none⟩) (v := .tuple #[.int .i64 (szV D nm), .int .i64 (szC D nm)]) rfl hH2 ?_
 refine TkK (i := 8) (oi := ⟨some 188, Op.extract (Operand.tmp 180) 0, 3, _, _, none⟩) (v := .int .i64 (szV D nm)) rfl hH2 ?_
 refine TkK (i := 9) (oi := ⟨some 189, Op.extract (Operand.tmp 180) 1, 51, _, _, none⟩) (v := .int .i64 (szC D nm)) rfl hH2 ?_
 refine TkK (i := 10) (oi := ⟨some 16, Op.assign (Operand.tmp 188), 3, _, _, none⟩) (v := .int .i64 (szV D nm)) rfl hH2 ?_
 refine TkK (i := 11) (oi := ⟨some 17, Op.assign (Operand.tmp 189), 51, _, _, none⟩) (v := .int .i64 (szC D nm)) rfl hH2 ?_
 refine wpAnyH_done (by kernel_rfl) ?_ _
 refine hK11 _ _ ?_
 refine wp_seq_k fun K12 hK12 => rgn ?_
 refine VlS (.int .i64 (szV D nm)) ?_
 refine VlS (.int .i64 (szV D nm)) ?_
 refine VbT ?_
 refine VbT ?_
 refine VlS (.int .i64 (szC D nm)) ?_
 refine VlS (.int .i64 (szC D nm)) ?_
 refine VbT ?_
 refine VbT ?_
 refine VbT ?_
 refine WL.nil (hK12 _ _ ?_)
 refine wp_ret ?_
 go_ret
 exact ⟨rfl, _, G1d.out, N1d.out⟩
end Go.Proofs.YteijjfeainamdaaGreatDoor
