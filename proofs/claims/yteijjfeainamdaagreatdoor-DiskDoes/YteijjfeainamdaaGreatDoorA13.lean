import Derived.Test.YteijjfeainamdaaGreatDoorA12
import Derived.Test.YteijjfeainamdaaGreatDoorA11
import Derived.Deep.RegionHeld3
import Derived.Lib.Small
import Derived.ArgAppend
import Derived.Lib.ConvBytes
namespace Go.Proofs.YteijjfeainamdaaGreatDoor
open Go.RowKit
set_option linter.unusedSimpArgs false
set_option linter.unusedVariables false

theorem Tryz.in10 (w : World) (vs : Array Value) : (callFunc 10 vs).run Tryz.prog w = .ok (.enter 10 vs) w := by kernel_rfl
set_option maxRecDepth 8000 in
set_option maxHeartbeats 4000000 in
theorem copy_any (h p : Nat) (vf : Value) (cs : List FC) (D : DV) (w : World) (hH : Blk w h 73 #[ptr p]) (hD : DskAt w p vf cs D) (hOk : LayOk D.fs) (hU : usd D.fs ≤ 1000000000000) :
  Calls Tryz.prog 10 #[ptr h] w fun e w' => ∃ ps pd ph vf' cs', e = .returned (.tuple #[ptr pd, ptr ph]) ∧ DskAt w' ps vf' cs' { D with used := usd D.fs } ∧ Blk w' pd 67 #[ptr ps] ∧ Blk w' ph 73 #[ptr ps] ∧ (w.heap.size ≤ ps ∧ w.heap.size ≤ pd ∧ w.heap.size ≤ ph) ∧ (∀ k, DskS ps vf' cs' k → w.heap.size ≤ k) ∧ Below w.heap.size w w' := by
 obtain ⟨va, vc, rfl⟩ := hD.own.sl
 have HH := Keep.mk hH
 have HD := Keep.mk hD
 have HOk := Keep.mk hOk
 have HU := Keep.mk hU
 clear hH hD hOk hU
 go_enter Tryz.func10, Tryz.ntmps10
 refine wp_seq_k fun K1 hK1 => rgn ?_
 refine VlS (.pointer none) ?_
 refine VlS (.pointer none) ?_
 refine WL.nil (hK1 _ _ ?_)
 refine wp_seq_k fun K2 hK2 => ?_
 have HSx : Keep (∀ wx, Below w.heap.size w wx → wx.cell? ⟨h, 0, none⟩ = some (ptr p) ∧ wx.cell? ⟨p, 1, none⟩ = some (.int .i64 D.room) ∧ wx.cell? ⟨p, 0, none⟩ = some (.slice va cs.length vc)) := ⟨fun wx hb => ⟨(HH.out.below hb HH.out.lt).c 0 rfl, (HD.out.below hb).blk.c 1 rfl, (HD.out.below hb).blk.c 0 rfl⟩⟩
 have D4 : Keep (Below w.heap.size w w.drew) := ⟨(Below.refl _ _).drew⟩
 refine wp_region_held_drew (S := fun wx => wx.cell? ⟨h, 0, none⟩ = some (ptr p) ∧ wx.cell? ⟨p, 1, none⟩ = some (.int .i64 D.room) ∧ wx.cell? ⟨p, 0, none⟩ = some (.slice va cs.length vc)) (by kernel_rfl) (HSx.out _ D4.out) (fun hHeld => ?_)
 refine TkN (i := 0) (oi := ⟨some 7, Op.move (Operand.tmp 0), 30, _, _, none⟩) (v := .pointer (some ⟨h, 0, none⟩)) rfl hHeld ?_
 refine TkN (i := 1) (oi := ⟨some 8, Op.nilCheck (Operand.tmp 7), 0, _, _, none⟩) (v := .pointer (some ⟨h, 0, none⟩)) rfl hHeld ?_
 refine TkN (i := 2) (oi := ⟨some 9, Op.fieldAddr 73 (Operand.tmp 8) 0, 0, _, _, none⟩) (v := .pointer (some ⟨h, 0, none⟩)) rfl hHeld ?_
 refine TkN (i := 3) (oi := ⟨some 10, Op.load 65 (Operand.tmp 9), 65, _, _, none⟩) (v := .pointer (some ⟨p, 0, none⟩)) rfl hHeld ?_
 refine TkN (i := 4) (oi := ⟨some 11, Op.nilCheck (Operand.tmp 10), 0, _, _, none⟩) (v := .pointer (some ⟨p, 0, none⟩)) rfl hHeld ?_
 refine TkN (i := 5) (oi := ⟨some 12, Op.fieldAddr 71 (Operand.tmp 11) 1, 0, _, _, none⟩) (v := .pointer (some ⟨p, 1, none⟩)) rfl hHeld ?_
 refine TkN (i := 6) (oi := ⟨some 13, Op.load 3 (Operand.tmp 12), 3, _, _, none⟩) (v := .int .i64 D.room) rfl hHeld ?_
 refine TkN (i := 7) (oi := ⟨some 14, Op.move (Operand.tmp 0), 30, _, _, none⟩) (v := .pointer (some ⟨h, 0, none⟩)) rfl hHeld ?_
 refine TkN (i := 8) (oi := ⟨some 15, Op.nilCheck (Operand.tmp 14), 0, _, _, none⟩) (v := .pointer (some ⟨h, 0, none⟩)) rfl hHeld ?_
 refine TkN (i := 9) (oi := ⟨some 16, Op.fieldAddr 73 (Operand.tmp 15) 0, 0, _, _, none⟩) (v := .pointer (some ⟨h, 0, none⟩)) rfl hHeld ?_
 refine TkN (i := 10) (oi := ⟨some 17, Op.load 65 (Operand.tmp 16), 65, _, _, none⟩) (v := .pointer (some ⟨p, 0, none⟩)) rfl hHeld ?_
 refine TkN (i := 11) (oi := ⟨some 18, Op.nilCheck (Operand.tmp 17), 0, _, _, none⟩) (v := .pointer (some ⟨p, 0, none⟩)) rfl hHeld ?_
 refine TkN (i := 12) (oi := ⟨some 19, Op.fieldAddr 71 (Operand.tmp 18) 0, 0, _, _, none⟩) (v := .pointer (some ⟨p, 0, none⟩)) rfl hHeld ?_
 refine TkN (i := 13) (oi := ⟨some 20, Op.load 22 (Operand.tmp 19), 22, _, _, none⟩) (v := .slice va cs.length vc) rfl hHeld ?_
 refine wpAnyH_ready (rs := [14]) (by kernel_rfl) (by simp) ?_
 refine AllReadyH.cons (o := ⟨some 21, Op.call { callee := Callee.value (Operand.func 7), args := #[Operand.tmp 13, Operand.tmp 20], argTypes := #[3, 22] }, 36, _, _, none⟩) rfl (fun K hK => ?_) AllReadyH.nil
 rw [if_pos (by rfl)]
 refine wp_callF 7 _ _ rfl Tryz.in7 #[.int .i64 D.room, .slice va cs.length vc] (by simp [Act.eval]) (fun vz wz => ∃ ps pd ph vf2 cs2, vz = .tuple #[ptr pd, ptr ph] ∧ DskAt wz ps vf2 cs2 (layD D.room D.fs) ∧ Blk wz pd 67 #[ptr ps] ∧ Blk wz ph 73 #[ptr ps] ∧ (w.heap.size ≤ ps ∧ w.heap.size ≤ pd ∧ w.heap.size ≤ ph) ∧ (∀ k, DskS ps vf2 cs2 k → w.heap.size ≤ k) ∧ Below w.heap.size w wz) ?_ ?_
 ·refine (dlay_any D.room (.slice va cs.length vc) D.fs w.drew (files_of (HD.out.below D4.out).own (HD.out.below D4.out).fcs) (by have := HOk.out.len; omega) HU.out).mono ?_
  rintro e wz ⟨ps, pd, ph, vf2, cs2, rfl, h1, h2, h3, h4, h5, h6⟩
  exact ⟨_, rfl, ps, pd, ph, vf2, cs2, rfl, h1, h2, h3, h4, h5, D4.out.trans h6⟩
 rintro vz w2 ⟨ps, pd, ph, vf2, cs2, rfl, h1, h2, h3, h4, h5, h6⟩
 have E2 := Keep.mk h1
 have P2 := Keep.mk h2
 have Q2 := Keep.mk h3
 have L2 := Keep.mk h4
 have S2 := Keep.mk h5
 have B2 := Keep.mk h6
 clear h1 h2 h3 h4 h5 h6
 refine hK _ _ (HSx.out _ B2.out) fun hH2 => ?_
 clear hK
 simp only [Act.put, pqA, pqB, pqC]
 refine TkN (i := 15) (oi := ⟨some 6, Op.move (Operand.tmp 21), 36, _, _, none⟩) (v := .tuple #[.pointer (some ⟨pd, 0, none⟩), .pointer (some ⟨ph, 0, none⟩)]) rfl hH2 ?_
 refine TkN (i := 16) (oi := ⟨some 22, Op.extract (Operand.tmp 6) 0, 29, _, _, none⟩) (v := .pointer (some ⟨pd, 0, none⟩)) rfl hH2 ?_
 refine TkN (i := 17) (oi := ⟨some 23, Op.extract (Operand.tmp 6) 1, 30, _, _, none⟩) (v := .pointer (some ⟨ph, 0, none⟩)) rfl hH2 ?_
 refine TkN (i := 18) (oi := ⟨some 4, Op.assign (Operand.tmp 22), 29, _, _, none⟩) (v := .pointer (some ⟨pd, 0, none⟩)) rfl hH2 ?_
 refine TkN (i := 19) (oi := ⟨some 5, Op.assign (Operand.tmp 23), 30, _, _, none⟩) (v := .pointer (some ⟨ph, 0, none⟩)) rfl hH2 ?_
 refine wpAnyH_done (by kernel_rfl) ?_ _
 refine hK2 _ _ ?_
 refine wp_seq_k fun K3 hK3 => ?_
 have HSx : Keep (∀ wx, Below w.heap.size w wx → Blk wx pd 67 #[ptr ps] → wx.cell? ⟨pd, 0, none⟩ = some (ptr ps) ∧ wx.cell? ⟨h, 0, none⟩ = some (ptr p) ∧ wx.cell? ⟨p, 1, none⟩ = some (.int .i64 D.room) ∧ wx.cell? ⟨p, 3, none⟩ = some (.int .i64 D.fuse) ∧ wx.cell? ⟨p, 4, none⟩ = some (.bool D.out) ∧ wx.cell? ⟨p, 5, none⟩ = some (.int .i64 D.acts)) := ⟨fun wx hb h => ⟨h.c 0 rfl, (HH.out.below hb HH.out.lt).c 0 rfl, (HD.out.below hb).blk.c 1 rfl, (HD.out.below hb).blk.c 3 rfl, (HD.out.below hb).blk.c 4 rfl, (HD.out.below hb).blk.c 5 rfl⟩⟩
 have E3 : Keep (DskAt w2.drew ps vf2 cs2 (layD D.room D.fs)) := ⟨E2.out.grown (Grown.refl w2 (fun _ => False)).drew fun _ _ h => h⟩
 have P3 : Keep (Blk w2.drew pd 67 #[ptr ps]) := ⟨P2.out.drew⟩
 have Q3 : Keep (Blk w2.drew ph 73 #[ptr ps]) := ⟨Q2.out.drew⟩
 have B3 : Keep (Below w.heap.size w w2.drew) := ⟨B2.out.drew⟩
 clear E2 P2 Q2 B2
 refine wp_region_held_drew (S := fun wx => wx.cell? ⟨pd, 0, none⟩ = some (ptr ps) ∧ wx.cell? ⟨h, 0, none⟩ = some (ptr p) ∧ wx.cell? ⟨p, 1, none⟩ = some (.int .i64 D.room) ∧ wx.cell? ⟨p, 3, none⟩ = some (.int .i64 D.fuse) ∧ wx.cell? ⟨p, 4, none⟩ = some (.bool D.out) ∧ wx.cell? ⟨p, 5, none⟩ = some (.int .i64 D.acts)) (by kernel_rfl) (HSx.out _ B3.out P3.out) (fun hHeld => ?_)
 generalize w2.drew = w3 at *
 refine TkL (i := 0) (oi := ⟨some 24, Op.move (Operand.tmp 4), 29, _, _, none⟩) (v := .pointer (some ⟨pd, 0, none⟩)) rfl hHeld ?_
 refine TkL (i := 1) (oi := ⟨some 25, Op.nilCheck (Operand.tmp 24), 0, _, _, none⟩) (v := .pointer (some ⟨pd, 0, none⟩)) rfl hHeld ?_
 refine TkL (i := 2) (oi := ⟨some 26, Op.fieldAddr 67 (Operand.tmp 25) 0, 0, _, _, none⟩) (v := .pointer (some ⟨pd, 0, none⟩)) rfl hHeld ?_
 refine TkL (i := 3) (oi := ⟨some 27, Op.load 65 (Operand.tmp 26), 65, _, _, none⟩) (v := .pointer (some ⟨ps, 0, none⟩)) rfl hHeld ?_
 refine TkL (i := 4) (oi := ⟨some 28, Op.move (Operand.tmp 4), 29, _, _, none⟩) (v := .pointer (some ⟨pd, 0, none⟩)) rfl hHeld ?_
 refine TkL (i := 5) (oi := ⟨some 29, Op.nilCheck (Operand.tmp 28), 0, _, _, none⟩) (v := .pointer (some ⟨pd, 0, none⟩)) rfl hHeld ?_
 refine TkL (i := 6) (oi := ⟨some 30, Op.fieldAddr 67 (Operand.tmp 29) 0, 0, _, _, none⟩) (v := .pointer (some ⟨pd, 0, none⟩)) rfl hHeld ?_
 refine TkL (i := 7) (oi := ⟨some 31, Op.load 65 (Operand.tmp 30), 65, _, _, none⟩) (v := .pointer (some ⟨ps, 0, none⟩)) rfl hHeld ?_
 refine TkL (i := 8) (oi := ⟨some 32, Op.move (Operand.tmp 4), 29, _, _, none⟩) (v := .pointer (some ⟨pd, 0, none⟩)) rfl hHeld ?_
 refine TkL (i := 9) (oi := ⟨some 33, Op.nilCheck (Operand.tmp 32), 0, _, _, none⟩) (v := .pointer (some ⟨pd, 0, none⟩)) rfl hHeld ?_
 refine TkL (i := 10) (oi := ⟨some 34, Op.fieldAddr 67 (Operand.tmp 33) 0, 0, _, _, none⟩) (v := .pointer (some ⟨pd, 0, none⟩)) rfl hHeld ?_
 refine TkL (i := 11) (oi := ⟨some 35, Op.load 65 (Operand.tmp 34), 65, _, _, none⟩) (v := .pointer (some ⟨ps, 0, none⟩)) rfl hHeld ?_
 refine TkL (i := 12) (oi := ⟨some 36, Op.move (Operand.tmp 4), 29, _, _, none⟩) (v := .pointer (some ⟨pd, 0, none⟩)) rfl hHeld ?_
 refine TkL (i := 13) (oi := ⟨some 37, Op.nilCheck (Operand.tmp 36), 0, _, _, none⟩) (v := .pointer (some ⟨pd, 0, none⟩)) rfl hHeld ?_
 refine TkL (i := 14) (oi := ⟨some 38, Op.fieldAddr 67 (Operand.tmp 37) 0, 0, _, _, none⟩) (v := .pointer (some ⟨pd, 0, none⟩)) rfl hHeld ?_
 refine TkL (i := 15) (oi := ⟨some 39, Op.load 65 (Operand.tmp 38), 65, _, _, none⟩) (v := .pointer (some ⟨ps, 0, none⟩)) rfl hHeld ?_
 refine TkL (i := 16) (oi := ⟨some 40, Op.move (Operand.tmp 0), 30, _, _, none⟩) (v := .pointer (some ⟨h, 0, none⟩)) rfl hHeld ?_
 refine TkL (i := 17) (oi := ⟨some 41, Op.nilCheck (Operand.tmp 40), 0, _, _, none⟩) (v := .pointer (some ⟨h, 0, none⟩)) rfl hHeld ?_
 refine TkL (i := 18) (oi := ⟨some 42, Op.fieldAddr 73 (Operand.tmp 41) 0, 0, _, _, none⟩) (v := .pointer (some ⟨h, 0, none⟩)) rfl hHeld ?_
 refine TkL (i := 19) (oi := ⟨some 43, Op.load 65 (Operand.tmp 42), 65, _, _, none⟩) (v := .pointer (some ⟨p, 0, none⟩)) rfl hHeld ?_
 refine TkL (i := 20) (oi := ⟨some 44, Op.nilCheck (Operand.tmp 43), 0, _, _, none⟩) (v := .pointer (some ⟨p, 0, none⟩)) rfl hHeld ?_
 refine TkL (i := 21) (oi := ⟨some 45, Op.fieldAddr 71 (Operand.tmp 44) 1, 0, _, _, none⟩) (v := .pointer (some ⟨p, 1, none⟩)) rfl hHeld ?_
 refine TkL (i := 22) (oi := ⟨some 46, Op.load 3 (Operand.tmp 45), 3, _, _, none⟩) (v := .int .i64 D.room) rfl hHeld ?_
 refine TkL (i := 23) (oi := ⟨some 47, Op.move (Operand.tmp 0), 30, _, _, none⟩) (v := .pointer (some ⟨h, 0, none⟩)) rfl hHeld ?_
 refine TkL (i := 24) (oi := ⟨some 48, Op.nilCheck (Operand.tmp 47), 0, _, _, none⟩) (v := .pointer (some ⟨h, 0, none⟩)) rfl hHeld ?_
 refine TkL (i := 25) (oi := ⟨some 49, Op.fieldAddr 73 (Operand.tmp 48) 0, 0, _, _, none⟩) (v := .pointer (some ⟨h, 0, none⟩)) rfl hHeld ?_
 refine TkL (i := 26) (oi := ⟨some 50, Op.load 65 (Operand.tmp 49), 65, _, _, none⟩) (v := .pointer (some ⟨p, 0, none⟩)) rfl hHeld ?_
 refine TkL (i := 27) (oi := ⟨some 51, Op.nilCheck (Operand.tmp 50), 0, _, _, none⟩) (v := .pointer (some ⟨p, 0, none⟩)) rfl hHeld ?_
 refine TkL (i := 28) (oi := ⟨some 52, Op.fieldAddr 71 (Operand.tmp 51) 3, 0, _, _, none⟩) (v := .pointer (some ⟨p, 3, none⟩)) rfl hHeld ?_
 refine TkL (i := 29) (oi := ⟨some 53, Op.load 3 (Operand.tmp 52), 3, _, _, none⟩) (v := .int .i64 D.fuse) rfl hHeld ?_
 refine TkL (i := 30) (oi := ⟨some 54, Op.move (Operand.tmp 0), 30, _, _, none⟩) (v := .pointer (some ⟨h, 0, none⟩)) rfl hHeld ?_
 refine TkL (i := 31) (oi := ⟨some 55, Op.nilCheck (Operand.tmp 54), 0, _, _, none⟩) (v := .pointer (some ⟨h, 0, none⟩)) rfl hHeld ?_
 refine TkL (i := 32) (oi := ⟨some 56, Op.fieldAddr 73 (Operand.tmp 55) 0, 0, _, _, none⟩) (v := .pointer (some ⟨h, 0, none⟩)) rfl hHeld ?_
 refine TkL (i := 33) (oi := ⟨some 57, Op.load 65 (Operand.tmp 56), 65, _, _, none⟩) (v := .pointer (some ⟨p, 0, none⟩)) rfl hHeld ?_
 refine TkL (i := 34) (oi := ⟨some 58, Op.nilCheck (Operand.tmp 57), 0, _, _, none⟩) (v := .pointer (some ⟨p, 0, none⟩)) rfl hHeld ?_
 refine TkL (i := 35) (oi := ⟨some 59, Op.fieldAddr 71 (Operand.tmp 58) 4, 0, _, _, none⟩) (v := .pointer (some ⟨p, 4, none⟩)) rfl hHeld ?_
 refine TkL (i := 36) (oi := ⟨some 60, Op.load 4 (Operand.tmp 59), 4, _, _, none⟩) (v := .bool D.out) rfl hHeld ?_
 refine TkL (i := 37) (oi := ⟨some 61, Op.move (Operand.tmp 0), 30, _, _, none⟩) (v := .pointer (some ⟨h, 0, none⟩)) rfl hHeld ?_
 refine TkL (i := 38) (oi := ⟨some 62, Op.nilCheck (Operand.tmp 61), 0, _, _, none⟩) (v := .pointer (some ⟨h, 0, none⟩)) rfl hHeld ?_
 refine TkL (i := 39) (oi := ⟨some 63, Op.fieldAddr 73 (Operand.tmp 62) 0, 0, _, _, none⟩) (v := .pointer (some ⟨h, 0, none⟩)) rfl hHeld ?_
 refine TkL (i := 40) (oi := ⟨some 64, Op.load 65 (Operand.tmp 63), 65, _, _, none⟩) (v := .pointer (some ⟨p, 0, none⟩)) rfl hHeld ?_
 refine TkL (i := 41) (oi := ⟨some 65, Op.nilCheck (Operand.tmp 64), 0, _, _, none⟩) (v := .pointer (some ⟨p, 0, none⟩)) rfl hHeld ?_
 refine TkL (i := 42) (oi := ⟨some 66, Op.fieldAddr 71 (Operand.tmp 65) 5, 0, _, _, none⟩) (v := .pointer (some ⟨p, 5, none⟩)) rfl hHeld ?_
 refine TkL (i := 43) (oi := ⟨some 67, Op.load 3 (Operand.tmp 66), 3, _, _, none⟩) (v := .int .i64 D.acts) rfl hHeld ?_
 refine TkL (i := 44) (oi := ⟨some 68, Op.nilCheck (Operand.tmp 27), 0, _, _, none⟩) (v := .pointer (some ⟨ps, 0, none⟩)) rfl hHeld ?_
 refine TkL (i := 45) (oi := ⟨some 69, Op.fieldAddr 71 (Operand.tmp 68) 1, 0, _, _, none⟩) (v := .pointer (some ⟨ps, 1, none⟩)) rfl hHeld ?_
 refine wpAnyH_ready (rs := [46]) (by kernel_rfl) (by simp) ?_
 refine AllReadyH.cons (o := ⟨none, Op.store 3 (Operand.tmp 69) (Operand.tmp 46), 0, _, _, none⟩) rfl (fun K hK => ?_) AllReadyH.nil
 rw [if_pos (by rfl)]
 have f_o := E3.out.blk.frozen 1
 have cl : w3.cell? ⟨ps, 1, none⟩ = some (.int .i64 (layD D.room D.fs).room) := E3.out.blk.c 1 rfl
 refine wp_cellS (w3.setCell ⟨ps, 1, none⟩ (.int .i64 D.room)) (by go_simp) ?_
 clear f_o cl
 have hg9 : Grown w3 (w3.setCell ⟨ps, 1, none⟩ (.int .i64 D.room)) fun k => k = ps := Grown.setCell w3 ps 1 _ fun _ => rfl
 have E4 : Keep (DskAt (w3.setCell ⟨ps, 1, none⟩ (.int .i64 D.room)) ps vf2 cs2 { (layD D.room D.fs) with room := D.room }) := ⟨E3.out.put rfl rfl⟩
 have P4 : Keep (Blk (w3.setCell ⟨ps, 1, none⟩ (.int .i64 D.room)) pd 67 #[ptr ps]) := ⟨hg9.blk P3.out fun e => by rw [e] at P3; have := P3.out.typ.one E3.out.blk.typ; revert this; decide⟩
 have Q4 : Keep (Blk (w3.setCell ⟨ps, 1, none⟩ (.int .i64 D.room)) ph 73 #[ptr ps]) := ⟨hg9.blk Q3.out fun e => by rw [e] at Q3; have := Q3.out.typ.one E3.out.blk.typ; revert this; decide⟩
 have B4 : Keep (Below w.heap.size w (w3.setCell ⟨ps, 1, none⟩ (.int .i64 D.room))) := ⟨B3.out.trans ((hg9.to_below (B := w.heap.size) (fun k hk e => by have := L2.out.1; omega) B3.out.size))⟩
 clear hg9 E3 P3 Q3 B3
 generalize (w3.setCell ⟨ps, 1, none⟩ (.int .i64 D.room)) = w4 at *
 refine hK _ _ (HSx.out _ B4.out P4.out) fun hS4 => ?_
 clear hK
 simp only [Act.put, pqA, pqB, pqC]
 refine TkL (i := 47) (oi := ⟨some 70, Op.nilCheck (Operand.tmp 31), 0, _, _, none⟩) (v := .pointer (some ⟨ps, 0, none⟩)) rfl hS4 ?_
 refine TkL (i := 48) (oi := ⟨some 71, Op.fieldAddr 71 (Operand.tmp 70) 3, 0, _, _, none⟩) (v := .pointer (some ⟨ps, 3, none⟩)) rfl hS4 ?_
 refine wpAnyH_ready (rs := [49]) (by kernel_rfl) (by simp) ?_
 refine AllReadyH.cons (o := ⟨none, Op.store 3 (Operand.tmp 71) (Operand.tmp 53), 0, _, _, none⟩) rfl (fun K hK => ?_) AllReadyH.nil
 rw [if_pos (by rfl)]
 have f_o := E4.out.blk.frozen 3
 have cl : w4.cell? ⟨ps, 3, none⟩ = some (.int .i64 { (layD D.room D.fs) with room := D.room }.fuse) := E4.out.blk.c 3 rfl
 refine wp_cellS (w4.setCell ⟨ps, 3, none⟩ (.int .i64 D.fuse)) (by go_simp) ?_
 clear f_o cl
 have hg9 : Grown w4 (w4.setCell ⟨ps, 3, none⟩ (.int .i64 D.fuse)) fun k => k = ps := Grown.setCell w4 ps 3 _ fun _ => rfl
 have E5 : Keep (DskAt (w4.setCell ⟨ps, 3, none⟩ (.int .i64 D.fuse)) ps vf2 cs2 { { (layD D.room D.fs) with room := D.room } with fuse := D.fuse }) := ⟨E4.out.put rfl rfl⟩
 have P5 : Keep (Blk (w4.setCell ⟨ps, 3, none⟩ (.int .i64 D.fuse)) pd 67 #[ptr ps]) := ⟨hg9.blk P4.out fun e => by rw [e] at P4; have := P4.out.typ.one E4.out.blk.typ; revert this; decide⟩
 have Q5 : Keep (Blk (w4.setCell ⟨ps, 3, none⟩ (.int .i64 D.fuse)) ph 73 #[ptr ps]) := ⟨hg9.blk Q4.out fun e => by rw [e] at Q4; have := Q4.out.typ.one E4.out.blk.typ; revert this; decide⟩
 have B5 : Keep (Below w.heap.size w (w4.setCell ⟨ps, 3, none⟩ (.int .i64 D.fuse))) := ⟨B4.out.trans ((hg9.to_below (B := w.heap.size) (fun k hk e => by have := L2.out.1; omega) B4.out.size))⟩
 clear hg9 E4 P4 Q4 B4
 generalize (w4.setCell ⟨ps, 3, none⟩ (.int .i64 D.fuse)) = w5 at *
 refine hK _ _ (HSx.out _ B5.out P5.out) fun hS5 => ?_
 clear hK
 simp only [Act.put, pqA, pqB, pqC]
 refine TkL (i := 50) (oi := ⟨some 72, Op.nilCheck (Operand.tmp 35), 0, _, _, none⟩) (v := .pointer (some ⟨ps, 0, none⟩)) rfl hS5 ?_
 refine TkL (i := 51) (oi := ⟨some 73, Op.fieldAddr 71 (Operand.tmp 72) 4, 0, _, _, none⟩) (v := .pointer (some ⟨ps, 4, none⟩)) rfl hS5 ?_
 refine wpAnyH_ready (rs := [52]) (by kernel_rfl) (by simp) ?_
 refine AllReadyH.cons (o := ⟨none, Op.store 4 (Operand.tmp 73) (Operand.tmp 60), 0, _, _, none⟩) rfl (fun K hK => ?_) AllReadyH.nil
 rw [if_pos (by rfl)]
 have f_o := E5.out.blk.frozen 4
 have cl : w5.cell? ⟨ps, 4, none⟩ = some (.bool { { (layD D.room D.fs) with room := D.room } with fuse := D.fuse }.out) := E5.out.blk.c 4 rfl
 refine wp_cellS (w5.setCell ⟨ps, 4, none⟩ (.bool D.out)) (by go_simp) ?_
 clear f_o cl
 have hg9 : Grown w5 (w5.setCell ⟨ps, 4, none⟩ (.bool D.out)) fun k => k = ps := Grown.setCell w5 ps 4 _ fun _ => rfl
 have E6 : Keep (DskAt (w5.setCell ⟨ps, 4, none⟩ (.bool D.out)) ps vf2 cs2 { { { (layD D.room D.fs) with room := D.room } with fuse := D.fuse } with out := D.out }) := ⟨E5.out.put rfl rfl⟩
 have P6 : Keep (Blk (w5.setCell ⟨ps, 4, none⟩ (.bool D.out)) pd 67 #[ptr ps]) := ⟨hg9.blk P5.out fun e => by rw [e] at P5; have := P5.out.typ.one E5.out.blk.typ; revert this; decide⟩
 have Q6 : Keep (Blk (w5.setCell ⟨ps, 4, none⟩ (.bool D.out)) ph 73 #[ptr ps]) := ⟨hg9.blk Q5.out fun e => by rw [e] at Q5; have := Q5.out.typ.one E5.out.blk.typ; revert this; decide⟩
 have B6 : Keep (Below w.heap.size w (w5.setCell ⟨ps, 4, none⟩ (.bool D.out))) := ⟨B5.out.trans ((hg9.to_below (B := w.heap.size) (fun k hk e => by have := L2.out.1; omega) B5.out.size))⟩
 clear hg9 E5 P5 Q5 B5
 generalize (w5.setCell ⟨ps, 4, none⟩ (.bool D.out)) = w6 at *
 refine hK _ _ (HSx.out _ B6.out P6.out) fun hS6 => ?_
 clear hK
 simp only [Act.put, pqA, pqB, pqC]
 refine TkL (i := 53) (oi := ⟨some 74, Op.nilCheck (Operand.tmp 39), 0, _, _, none⟩) (v := .pointer (some ⟨ps, 0, none⟩)) rfl hS6 ?_
 refine TkL (i := 54) (oi := ⟨some 75, Op.fieldAddr 71 (Operand.tmp 74) 5, 0, _, _, none⟩) (v := .pointer (some ⟨ps, 5, none⟩)) rfl hS6 ?_
 refine wpAnyH_ready (rs := [55]) (by kernel_rfl) (by simp) ?_
 refine AllReadyH.cons (o := ⟨none, Op.store 3 (Operand.tmp 75) (Operand.tmp 67), 0, _, _, none⟩) rfl (fun K hK => ?_) AllReadyH.nil
 rw [if_pos (by rfl)]
 have f_o := E6.out.blk.frozen 5
 have cl : w6.cell? ⟨ps, 5, none⟩ = some (.int .i64 { { { (layD D.room D.fs) with room := D.room } with fuse := D.fuse } with out := D.out }.acts) := E6.out.blk.c 5 rfl
 refine wp_cellS (w6.setCell ⟨ps, 5, none⟩ (.int .i64 D.acts)) (by go_simp) ?_
 clear f_o cl
 have hg9 : Grown w6 (w6.setCell ⟨ps, 5, none⟩ (.int .i64 D.acts)) fun k => k = ps := Grown.setCell w6 ps 5 _ fun _ => rfl
 have E7 : Keep (DskAt (w6.setCell ⟨ps, 5, none⟩ (.int .i64 D.acts)) ps vf2 cs2 { { { { (layD D.room D.fs) with room := D.room } with fuse := D.fuse } with out := D.out } with acts := D.acts }) := ⟨E6.out.put rfl rfl⟩
 have P7 : Keep (Blk (w6.setCell ⟨ps, 5, none⟩ (.int .i64 D.acts)) pd 67 #[ptr ps]) := ⟨hg9.blk P6.out fun e => by rw [e] at P6; have := P6.out.typ.one E6.out.blk.typ; revert this; decide⟩
 have Q7 : Keep (Blk (w6.setCell ⟨ps, 5, none⟩ (.int .i64 D.acts)) ph 73 #[ptr ps]) := ⟨hg9.blk Q6.out fun e => by rw [e] at Q6; have := Q6.out.typ.one E6.out.blk.typ; revert this; decide⟩
 have B7 : Keep (Below w.heap.size w (w6.setCell ⟨ps, 5, none⟩ (.int .i64 D.acts))) := ⟨B6.out.trans ((hg9.to_below (B := w.heap.size) (fun k hk e => by have := L2.out.1; omega) B6.out.size))⟩
 clear hg9 E6 P6 Q6 B6
 generalize (w6.setCell ⟨ps, 5, none⟩ (.int .i64 D.acts)) = w7 at *
 refine hK _ _ (HSx.out _ B7.out P7.out) fun hS7 => ?_
 clear hK
 simp only [Act.put, pqA, pqB, pqC]
 refine wpAnyH_done (by kernel_rfl) ?_ _
 refine hK3 _ _ ?_
 refine wp_seq_k fun K4 hK4 => rgn ?_
 refine VlS (.pointer (some ⟨pd, 0, none⟩)) ?_
 refine VlS (.pointer (some ⟨ph, 0, none⟩)) ?_
 refine VlS (.pointer (some ⟨pd, 0, none⟩)) ?_
 refine VlS (.pointer (some ⟨ph, 0, none⟩)) ?_
 refine WL.nil (hK4 _ _ ?_)
 refine wp_ret ?_
 go_ret2
 refine ⟨ps, pd, ph, vf2, cs2, rfl, ?_, P7.out, Q7.out, L2.out, S2.out, B7.out⟩
 have h := E7.out
 have e : layT D.fs = D.fs := by have h2 := layT_self D.fs HOk.out D.fs.length; rwa [List.take_of_length_le (Nat.le_refl _)] at h2
 simp only [layD, e] at h
 exact h
theorem Tryz.in8 (w : World) (vs : Array Value) : (callFunc 8 vs).run Tryz.prog w = .ok (.enter 8 vs) w := by kernel_rfl
set_option maxRecDepth 8000 in
set_option maxHeartbeats 2000000 in
theorem copyFiles_any (v : Value) (ks : List PF) (w : World) (hX : FilesAt w v ks) (hL : ks.length ≤ 100000000000) (hS : ∀ f ∈ ks, f.bs.length ≤ 70368744177664) :
  Calls Tryz.prog 8 #[v] w fun e w' => ∃ v' ct, e = .returned v' ∧ OwnF w' v' ct ∧ FcsAt w' ct ks ∧ NewF w.heap.size v' ∧ (∀ (j : Nat) (y : FC) (k : Nat), ct[j]? = some y → y.b.ownBlock = some k → w.heap.size ≤ k) ∧ Below w.heap.size w w' := by
 obtain ⟨ka, kc, rfl⟩ := hX.form
 have HX := Keep.mk hX
 have HL := Keep.mk hL
 have HS := Keep.mk hS
 clear hX hL hS
 go_enter Tryz.func8, Tryz.ntmps8
 refine wp_seq_k fun K1 hK1 => rgn ?_
 refine VlS (.slice none 0 0) ?_
 refine WL.nil (hK1 _ _ ?_)
 refine wp_seq_k fun K2 hK2 => rgn ?_
 refine WL.bs (by kernel_rfl) 22 0 _ rfl #[] (by simp) _ _ (bsFE w) ?_
 have HN1 := Keep.mk (ownF_empty w)
 have B1 := Keep.mk (below_new w (.cells #[] 49))
 generalize w.alloc (.cells #[] 49) = w1 at *
 obtain ⟨g1, hg1⟩ : ∃ g, Keep (g = w.heap.size) := ⟨_, ⟨rfl⟩⟩
 rw [← hg1.out] at HN1 ⊢
 have N1 : Keep (NewF w.heap.size (.slice (some ⟨g1, 0, none⟩) 0 0)) := ⟨NewF.at (by rw [hg1.out]; exact Nat.le_refl _)⟩
 simp only [Act.put, pqA, pqB, pqC]
 refine VlS (.slice (some ⟨g1, 0, none⟩) 0 0) ?_
 refine WL.nil (hK2 _ _ ?_)
 refine wp_seq_k fun K3 hK3 => ?_
 refine wp_seq_k fun K4 hK4 => rgn ?_
 refine VlS (.int .i64 0) ?_
 refine WL.nil (hK4 _ _ ?_)
 refine wp_block ?_
 refine wp_loop (fun ac wr => ∃ (t : Nat) (f : Nat → Value) (xa : Option Addr) (xl xc : Nat) (ct : List FC), ac = { tmps := #[.slice ka ks.length kc, undef, .slice none 0 0, .slice xa xl xc, .int .i64 (t : Int), f 5, .slice (some ⟨g1, 0, none⟩) 0 0, f 7, f 8, f 9, f 10, f 11, f 12, f 13, f 14, f 15, f 16, f 17, f 18, f 19, f 20, f 21, f 22, f 23, f 24, f 25, f 26, f 27, f 28, f 29, f 30, f 31, f 32, f 33, f 34, undef], defers := [] } ∧ t ≤ ks.length ∧ OwnF wr (.slice xa xl xc) ct ∧ FcsAt wr ct (ks.take t) ∧ (NewF w.heap.size (.slice xa xl xc) ∧ ∀ (j : Nat) (y : FC) (k : Nat), ct[j]? = some y → y.b.ownBlock = some k → w.heap.size ≤ k) ∧ Below w.heap.size w wr) (fun a _ => ks.length - (intOf (a.tmps.getD 4 undef)).toNat) ⟨0, fun i => [.slice ka ks.length kc, undef, .slice none 0 0, .slice (some ⟨g1, 0, none⟩) 0 0, .int .i64 0, undef, .slice (some ⟨g1, 0, none⟩) 0 0, undef, undef, undef, undef, undef, undef, undef, undef, undef, undef, undef, undef, undef, undef, undef, undef, undef, undef, undef, undef, undef, undef, undef, undef, undef, undef, undef, undef, undef].getD i undef, some ⟨g1, 0, none⟩, 0, 0, [], rfl, Nat.zero_le _, HN1.out, FcsAt.nil _, ⟨N1.out, fun j y k h => by simp at h⟩, B1.out⟩ ?_
 rintro ac wr ⟨t, f, xa, xl, xc, ct, rfl, ht, hO1, hO2, hO3, hO4⟩
 have JO := Keep.mk hO1
 have JF := Keep.mk hO2
 have JN := Keep.mk hO3
 have JB := Keep.mk hO4
 clear hO1 hO2 hO3 hO4
 by_cases hlt : t < ks.length
 ·have hlt' : (t : Int) < (ks.length : Int) := by omega
  have hwt : IntKind.i64.wrap ((t : Int) + 1) = (t : Int) + 1 := by rw [IntKind.wrap_i64]; have := HL.out; omega
  obtain ⟨f_, hf_⟩ : ∃ f, ks[t]? = some f := ⟨ks[t], List.getElem?_eq_getElem hlt⟩
  obtain ⟨b, ob, z_, hq, z0, z1, z2, z3⟩ := (HX.out.below JB.out).at hf_
  subst hq
  have HFf := Keep.mk hf_
  obtain ⟨xba, xbc, z4⟩ := row_form z3
  have c0 : wr.cell? ⟨b, ob + t * 3, none⟩ = some (.string f_.nm) := by rw [← z1]; exact z0 0 _ rfl
  have c1 : wr.cell? ⟨b, ob + t * 3 + 1, none⟩ = some (.slice xba f_.bs.length xbc) := by rw [← z4]; exact z0 1 _ rfl
  have c2 : wr.cell? ⟨b, ob + t * 3 + 2, none⟩ = some (.int .i64 f_.sf) := by rw [← z2]; exact z0 2 _ rfl
  rw [z4] at z3
  have HRb := Keep.mk z3
  have HSB : Keep (∀ wx, Below wr.heap.size wr wx → wx.cell? ⟨b, ob + t * 3, none⟩ = some (.string f_.nm) ∧ wx.cell? ⟨b, ob + t * 3 + 1, none⟩ = some (.slice xba f_.bs.length xbc) ∧ wx.cell? ⟨b, ob + t * 3 + 2, none⟩ = some (.int .i64 f_.sf)) := ⟨fun wx hx => ⟨bcl hx ⟨cell_lt c0, c0⟩, bcl hx ⟨cell_lt c1, c1⟩, bcl hx ⟨cell_lt c2, c2⟩⟩⟩
  clear c0 c1 c2 z0 z1 z2 z3 z4 hf_
  have HWB : Keep (∀ wx, Below w.heap.size w wx → wx.cell? ⟨b, ob + t * 3, none⟩ = some (.string f_.nm) ∧ wx.cell? ⟨b, ob + t * 3 + 1, none⟩ = some (.slice xba f_.bs.length xbc) ∧ wx.cell? ⟨b, ob + t * 3 + 2, none⟩ = some (.int .i64 f_.sf)) := ⟨by
   obtain ⟨b', ob', z_, hq, z0, z1, z2, z3⟩ := HX.out.at HFf.out
   injection hq with hq
   injection hq with hq1 hq2
   subst hq1 hq2
   have hz : z_.b = .slice xba f_.bs.length xbc := by
    have h1 := bcl JB.out ⟨cell_lt (z0 1 _ rfl), z0 1 _ rfl⟩
    have h2 := (HSB.out wr (Below.refl _ _)).2.1
    rw [show ob + t * 3 + 1 = ob + t * 3 + 1 from rfl] at h1
    rw [h2] at h1
    exact (Option.some.inj h1).symm
   have c0 : w.cell? ⟨b, ob + t * 3, none⟩ = some (.string f_.nm) := by rw [← z1]; exact z0 0 _ rfl
   have c1 : w.cell? ⟨b, ob + t * 3 + 1, none⟩ = some (.slice xba f_.bs.length xbc) := by rw [← hz]; exact z0 1 _ rfl
   have c2 : w.cell? ⟨b, ob + t * 3 + 2, none⟩ = some (.int .i64 f_.sf) := by rw [← z2]; exact z0 2 _ rfl
   exact fun wx hx => ⟨bcl hx ⟨cell_lt c0, c0⟩, bcl hx ⟨cell_lt c1, c1⟩, bcl hx ⟨cell_lt c2, c2⟩⟩⟩
  refine wp_seq_k fun K5 hK5 => ?_
  refine wp_seq_k fun K6 hK6 => rgn ?_
  refine VlS (.int .i64 (t : Int)) ?_
  refine VlS (.slice (some ⟨b, ob, none⟩) ks.length kc) ?_
  refine VlS (.int .i64 (ks.length : Int)) ?_
  refine VbT ?_
  refine WL.nil (hK6 _ _ ?_)
  refine wp_cond_true rfl ?_
  refine wp_skip ?_
  refine hK5 _ _ ?_
  refine wp_seq_k fun K7 hK7 => ?_
  refine wp_block ?_
  refine wp_seq_k fun K8 hK8 => rgn ?_
  refine WL.bs (by kernel_rfl) 40 0 _ rfl #[] (by simp) _ _ (bsBE wr) ?_
  have BC := Keep.mk (below_new wr (.cells #[] 5))
  have HE : Keep (Own (wr.alloc (.cells #[] 5)) (.slice (some ⟨wr.heap.size, 0, none⟩) 0 0) []) := ⟨own_empty _ _ (Blk.new wr 5 #[])⟩
  generalize wr.alloc (.cells #[] 5) = wc at *
  obtain ⟨ge, hge⟩ : ∃ z, Keep (z = wr.heap.size) := ⟨_, ⟨rfl⟩⟩
  rw [← hge.out] at HE ⊢
  simp only [Act.put, pqA, pqB, pqC]
  refine VlS (.slice (some ⟨ge, 0, none⟩) 0 0) ?_
  refine WL.nil (hK8 _ _ ?_)
  have BC2 : Keep (Below wr.heap.size wr wc.drew) := ⟨BC.out.drew⟩
  have HE2 : Keep (Own wc.drew (.slice (some ⟨ge, 0, none⟩) 0 0) []) := ⟨HE.out⟩
  clear BC HE
  refine wp_region_held_drew (S := fun wx => wx.cell? ⟨b, ob + t * 3, none⟩ = some (.string f_.nm) ∧ wx.cell? ⟨b, ob + t * 3 + 1, none⟩ = some (.slice xba f_.bs.length xbc) ∧ wx.cell? ⟨b, ob + t * 3 + 2, none⟩ = some (.int .i64 f_.sf)) (by kernel_rfl) (HSB.out _ BC2.out) (fun hHeld => ?_)
  generalize wc.drew = wb at *
  refine TkC (i := 0) (oi := ⟨some 14, Op.move (Operand.tmp 3), 22, _, _, none⟩) (v := .slice xa xl xc) rfl hHeld ?_
  refine TkC (i := 1) (oi := ⟨some 15, Op.move (Operand.tmp 0), 22, _, _, none⟩) (v := .slice (some ⟨b, ob, none⟩) ks.length kc) rfl hHeld ?_
  refine TkC (i := 2) (oi := ⟨some 16, Op.move (Operand.tmp 4), 3, _, _, none⟩) (v := .int .i64 (t : Int)) rfl hHeld ?_
  refine TkC (i := 3) (oi := ⟨some 17, Op.indexAddr 22 (Operand.tmp 15) (Operand.tmp 16), 0, _, _, none⟩) (v := .pointer (some ⟨b, ob + t * 3, none⟩)) rfl hHeld ?_
  refine TkC (i := 4) (oi := ⟨some 18, Op.fieldAddr 49 (Operand.tmp 17) 0, 0, _, _, none⟩) (v := .pointer (some ⟨b, ob + t * 3, none⟩)) rfl hHeld ?_
  refine tkS (i := 5) (oi := ⟨some 19, Op.load 9 (Operand.tmp 18), 9, _, _, none⟩) (v := .string f_.nm) rfl (Or.inl ⟨by rfl, fun w hS => by have h := hS.1; clear hS; go_simp⟩) hHeld ?_
  refine TkC (i := 6) (oi := ⟨some 20, Op.move (Operand.tmp 5), 40, _, _, none⟩) (v := .slice (some ⟨ge, 0, none⟩) 0 0) rfl hHeld ?_
  refine TkC (i := 7) (oi := ⟨some 21, Op.move (Operand.tmp 0), 22, _, _, none⟩) (v := .slice (some ⟨b, ob, none⟩) ks.length kc) rfl hHeld ?_
  refine TkC (i := 8) (oi := ⟨some 22, Op.move (Operand.tmp 4), 3, _, _, none⟩) (v := .int .i64 (t : Int)) rfl hHeld ?_
  refine TkC (i := 9) (oi := ⟨some 23, Op.indexAddr 22 (Operand.tmp 21) (Operand.tmp 22), 0, _, _, none⟩) (v := .pointer (some ⟨b, ob + t * 3, none⟩)) rfl hHeld ?_
  refine TkC (i := 10) (oi := ⟨some 24, Op.fieldAddr 49 (Operand.tmp 23) 1, 0, _, _, none⟩) (v := .pointer (some ⟨b, ob + t * 3 + 1, none⟩)) rfl hHeld ?_
  refine tkS (i := 11) (oi := ⟨some 25, Op.load 40 (Operand.tmp 24), 40, _, _, none⟩) (v := .slice xba f_.bs.length xbc) rfl (Or.inl ⟨by rfl, fun w hS => by have h := hS.2.1; clear hS; go_simp⟩) hHeld ?_
  refine TkC (i := 13) (oi := ⟨some 27, Op.move (Operand.tmp 0), 22, _, _, none⟩) (v := .slice (some ⟨b, ob, none⟩) ks.length kc) rfl hHeld ?_
  refine TkC (i := 14) (oi := ⟨some 28, Op.move (Operand.tmp 4), 3, _, _, none⟩) (v := .int .i64 (t : Int)) rfl hHeld ?_
  refine TkC (i := 15) (oi := ⟨some 29, Op.indexAddr 22 (Operand.tmp 27) (Operand.tmp 28), 0, _, _, none⟩) (v := .pointer (some ⟨b, ob + t * 3, none⟩)) rfl hHeld ?_
  refine TkC (i := 16) (oi := ⟨some 30, Op.fieldAddr 49 (Operand.tmp 29) 2, 0, _, _, none⟩) (v := .pointer (some ⟨b, ob + t * 3 + 2, none⟩)) rfl hHeld ?_
  refine tkS (i := 17) (oi := ⟨some 31, Op.load 3 (Operand.tmp 30), 3, _, _, none⟩) (v := .int .i64 f_.sf) rfl (Or.inl ⟨by rfl, fun w hS => by have h := hS.2.2; clear hS; go_simp⟩) hHeld ?_
  refine wpAnyH_ready (rs := [12]) (by kernel_rfl) (by simp) ?_
  refine AllReadyH.cons (o := ⟨some 26, Op.call { callee := Callee.builtin Builtin.append, args := #[Operand.tmp 20, Operand.tmp 25], argTypes := #[40, 40] }, 40, _, _, none⟩) rfl (fun K hK => ?_) AllReadyH.nil
  rw [if_pos (by rfl)]
  refine wp_app (.tmp 20) (.tmp 25) rfl (.slice (some ⟨ge, 0, none⟩) 0 0) (.slice xba f_.bs.length xbc) [] f_.bs rfl rfl HE2.out (HRb.out.below BC2.out) (by have := HS.out f_ (List.mem_of_getElem? HFf.out); simp; omega) fun v9 wd hp => ?_
  have N3 : Keep (NewF wr.heap.size (.slice (some ⟨ge, 0, none⟩) 0 0)) := ⟨NewF.at (by rw [hge.out]; exact Nat.le_refl _)⟩
  have BD : Keep (Below wr.heap.size wr wd) := ⟨newF_below N3.out BC2.out hp.grown⟩
  have HV9 : Keep (Own wd v9 f_.bs) := ⟨hp.1⟩
  have N9 : Keep (NewF wr.heap.size v9) := ⟨NewF.moved N3.out BC2.out.size hp.moved⟩
  clear hp HE2 N3 BC2
  obtain ⟨a9, n9, k9, e9⟩ := HV9.out.sl
  subst e9
  refine hK _ _ (HSB.out _ BD.out) fun hH2 => ?_
  clear hK
  simp only [Act.put, pqA, pqB, pqC]
  refine tkS (i := 18) (oi := ⟨some 32, Op.build 49 #[(0, Operand.tmp 19), (1, Operand.tmp 26), (2, Operand.tmp 31)], 49, _, _, none⟩) (v := .agg (fA (⟨f_.nm, .slice a9 n9 k9, f_.sf⟩ : FC))) rfl (yieldsIf_bld (by rfl) 49 _ rfl #[(0, .string f_.nm), (1, .slice a9 n9 k9), (2, .int .i64 f_.sf)] (by simp [Act.eval]) (.agg (fA (⟨f_.nm, .slice a9 n9 k9, f_.sf⟩ : FC))) (fun w => run_bldF _ _ _ _ _ w)) hH2 ?_
  refine wpAnyH_ready (rs := [19]) (by kernel_rfl) (by simp) ?_
  refine AllReadyH.cons (o := ⟨some 33, Op.buildSlice 22 1 #[(0, Operand.tmp 32)], 22, _, _, none⟩) rfl (fun K hK => ?_) AllReadyH.nil
  rw [if_pos (by rfl)]
  refine wp_bs 22 1 _ rfl #[(0, .agg (fA (⟨f_.nm, .slice a9 n9 k9, f_.sf⟩ : FC)))] (by simp [Act.eval]) _ _ (bsF f_.nm a9 n9 k9 f_.sf wd) ?_
  have hbx := below_new wd (.cells (fA (⟨f_.nm, .slice a9 n9 k9, f_.sf⟩ : FC)) 49)
  have HB := Keep.mk (Blk.new wd 49 (fA (⟨f_.nm, .slice a9 n9 k9, f_.sf⟩ : FC)))
  have HV10 : Keep (Own (wd.alloc (.cells (fA (⟨f_.nm, .slice a9 n9 k9, f_.sf⟩ : FC)) 49)) (.slice a9 n9 k9) f_.bs) := ⟨HV9.out.grown (Grown.below (S := fun _ => False) hbx) fun _ _ h => h⟩
  have BE : Keep (Below wr.heap.size wr (wd.alloc (.cells (fA (⟨f_.nm, .slice a9 n9 k9, f_.sf⟩ : FC)) 49))) := ⟨BD.out.trans (hbx.mono BD.out.size)⟩
  clear hbx HV9
  generalize wd.alloc (.cells (fA (⟨f_.nm, .slice a9 n9 k9, f_.sf⟩ : FC)) 49) = we at *
  obtain ⟨gz, hgz⟩ : ∃ q, Keep (q = wd.heap.size) := ⟨_, ⟨rfl⟩⟩
  rw [← hgz.out] at HB ⊢
  refine hK _ _ (HSB.out _ BE.out) fun hH3 => ?_
  clear hK
  simp only [Act.put, pqA, pqB, pqC]
  refine wpAnyH_ready (rs := [20]) (by kernel_rfl) (by simp) ?_
  refine AllReadyH.cons (o := ⟨some 34, Op.call { callee := Callee.builtin Builtin.append, args := #[Operand.tmp 14, Operand.tmp 33], argTypes := #[22, 22] }, 22, _, _, none⟩) rfl (fun K hK => ?_) AllReadyH.nil
  rw [if_pos (by rfl)]
  refine wp_appS (.tmp 14) (.tmp 33) rfl (.slice xa xl xc) (.slice (some ⟨gz, 0, none⟩) 1 1) ct [(⟨f_.nm, .slice a9 n9 k9, f_.sf⟩ : FC)] (fun x hx => by simp at hx; subst hx; exact ⟨_, _, _, rfl⟩) rfl rfl (JO.out.below BE.out) (srcF_one HB.out) (by have := HL.out; have h := JF.out.len; simp at h; simp; omega) fun v11 wf ho hg hm => ?_
  have HO11 := Keep.mk ho
  have N11 : Keep (NewF w.heap.size v11) := ⟨NewF.moved JN.out.1 (Nat.le_trans JB.out.size BE.out.size) hm⟩
  have HF11 : Keep (FcsAt wf (ct ++ [(⟨f_.nm, .slice a9 n9 k9, f_.sf⟩ : FC)]) (ks.take (t + 1))) := ⟨fcs_more (JF.out.grown (Grown.below (S := fun _ => False) BE.out) fun _ _ h => h) HFf.out ⟨rfl, rfl, HV10.out⟩ (fun j y k hj hk e => by have h1 := fcs_lt JF.out hj hk; have h2 := N9.out k e; omega) hg (fun k hk e => by have := ((JO.out.below BE.out).typ e).one hk; revert this; decide)⟩
  have BW : Keep (Below w.heap.size w we) := ⟨JB.out.trans (BE.out.mono JB.out.size)⟩
  have B11 : Keep (Below w.heap.size w wf) := ⟨newF_below JN.out.1 BW.out hg⟩
  have M11 : Keep (∀ (j : Nat) (y : FC) (k : Nat), (ct ++ [(⟨f_.nm, .slice a9 n9 k9, f_.sf⟩ : FC)])[j]? = some y → y.b.ownBlock = some k → w.heap.size ≤ k) := ⟨news_more JN.out.2 fun k hk => by have := N9.out k hk; have := JB.out.size; omega⟩
  have HSf : Keep (wf.cell? ⟨b, ob + t * 3, none⟩ = some (.string f_.nm) ∧ wf.cell? ⟨b, ob + t * 3 + 1, none⟩ = some (.slice xba f_.bs.length xbc) ∧ wf.cell? ⟨b, ob + t * 3 + 2, none⟩ = some (.int .i64 f_.sf)) := ⟨HWB.out _ B11.out⟩
  clear ho hg hm
  obtain ⟨a11, k11, e11⟩ := HO11.out.sl
  subst e11
  obtain ⟨n11, hn11⟩ : ∃ q, Keep (q = (ct ++ [(⟨f_.nm, .slice a9 n9 k9, f_.sf⟩ : FC)]).length) := ⟨_, ⟨rfl⟩⟩
  rw [← hn11.out] at HO11 N11 ⊢
  refine hK _ _ HSf.out fun hH4 => ?_
  clear hK
  simp only [Act.put, pqA, pqB, pqC]
  refine TkC (i := 21) (oi := ⟨some 3, Op.assign (Operand.tmp 34), 22, _, _, none⟩) (v := .slice a11 n11 k11) rfl hH4 ?_
  refine wpAnyH_done (by kernel_rfl) ?_ _
  refine hK7 _ _ ?_
  refine rgn ?_
  refine VlS (.int .i64 (t : Int)) ?_
  refine VlS (.int .i64 ((t : Int) + 1)) ?_
  refine VlS (.int .i64 ((t : Int) + 1)) ?_
  refine WL.nil ?_
  refine ⟨⟨t + 1, fun i => [.slice (some ⟨b, ob, none⟩) ks.length kc, undef, .slice none 0 0, .slice a11 n11 k11, .int .i64 ((t : Int) + 1), .slice (some ⟨ge, 0, none⟩) 0 0, .slice (some ⟨g1, 0, none⟩) 0 0, .int .i64 (t : Int), .slice (some ⟨b, ob, none⟩) ks.length kc, .int .i64 (ks.length : Int), .bool true, .int .i64 (t : Int), .int .i64 ((t : Int) + 1), .slice (some ⟨ge, 0, none⟩) 0 0, .slice xa xl xc, .slice (some ⟨b, ob, none⟩) ks.length kc, .int .i64 (t : Int), .pointer (some ⟨b, ob + t * 3, none⟩), .pointer (some ⟨b, ob + t * 3, none⟩), .string f_.nm, .slice (some ⟨ge, 0, none⟩) 0 0, .slice (some ⟨b, ob, none⟩) ks.length kc, .int .i64 (t : Int), .pointer (some ⟨b, ob + t * 3, none⟩), .pointer (some ⟨b, ob + t * 3 + 1, none⟩), .slice xba f_.bs.length xbc, .slice a9 n9 k9, .slice (some ⟨b, ob, none⟩) ks.length kc, .int .i64 (t : Int), .pointer (some ⟨b, ob + t * 3, none⟩), .pointer (some ⟨b, ob + t * 3 + 2, none⟩), .int .i64 f_.sf, .agg (fA (⟨f_.nm, .slice a9 n9 k9, f_.sf⟩ : FC)), .slice (some ⟨gz, 0, none⟩) 1 1, .slice a11 n11 k11, undef].getD i undef, a11, n11, k11, ct ++ [⟨f_.nm, .slice a9 n9 k9, f_.sf⟩], rfl, by omega, HO11.out, HF11.out, ⟨N11.out, M11.out⟩, B11.out⟩, ?_⟩
  simp only [intOf]; show ks.length - ((t : Int) + 1).toNat < ks.length - ((t : Int)).toNat; omega
 ·have hlt' : ¬ (t : Int) < (ks.length : Int) := by omega
  have hte : Keep (t = ks.length) := ⟨by omega⟩
  refine wp_seq_k fun K9 hK9 => ?_
  refine wp_seq_k fun K10 hK10 => rgn ?_
  refine VlS (.int .i64 (t : Int)) ?_
  refine VlS (.slice ka ks.length kc) ?_
  refine VlS (.int .i64 (ks.length : Int)) ?_
  refine VbF ?_
  refine WL.nil (hK10 _ _ ?_)
  refine wp_cond_false rfl ?_
  refine wp_exit ?_
  refine hK3 _ _ ?_
  refine wp_seq_k fun K11 hK11 => rgn ?_
  refine VlS (.slice xa xl xc) ?_
  refine VlS (.slice xa xl xc) ?_
  refine WL.nil (hK11 _ _ ?_)
  refine wp_ret ?_
  go_ret
  refine ⟨_, ct, rfl, JO.out, ?_, JN.out.1, JN.out.2, JB.out⟩
  have h := JF.out
  rw [List.take_of_length_le (by have := hte.out; omega)] at h
  exact h
theorem Tryz.in9 (w : World) (vs : Array Value) : (callFunc 9 vs).run Tryz.prog w = .ok (.enter 9 vs) w := by kernel_rfl
theorem OwnAc.cells {w : World} {g n c : Nat} {l : List AC} (h : OwnAc w (.slice (some ⟨g, 0, none⟩) n c) l) {j : Nat} {u : Value} (hj : (acL l)[j]? = some u) : w.cell? ⟨g, j, none⟩ = some u := by
 rcases h.form with ⟨e, _⟩ | ⟨g', cap, cur, e, hb, h3, h4, h5, h6⟩
 ·cases e
 ·injection e with e1 e2 e3
  injection e1 with e1
  injection e1 with e1
  subst e1 e2 e3
  rw [hb.cell]
  rw [← h6, List.getElem?_take] at hj
  split at hj
  ·rw [← hj]; simp
  ·cases hj
def SrcAc (w : World) (v : Value) (m : List AC) : Prop :=
 (v = .slice none 0 0 ∧ m = []) ∨ ∃ g off c, v = .slice (some ⟨g, off, none⟩) m.length c ∧ ∀ j u, (acL m)[j]? = some u → w.cell? ⟨g, off + j, none⟩ = some u
theorem run_appAcS (w : World) (ty : TypeId) (v vs : Value) (l m : List AC) (hown : OwnAc w v l) (hm : ∀ x ∈ m, SlAc x) (hs : SrcAc w vs m) (hb : l.length + m.length ≤ 1000000000000) :
  ∃ v' w', (Builtin.append_ #[60, 60] ty #[v, vs]).run Tryz.prog w = .ok v' w' ∧ OwnAc w' v' (l ++ m) ∧ (Grown w w' fun k => v.ownBlock = some k) ∧ Moved w v v' := by
 rcases hs with ⟨rfl, rfl⟩ | ⟨g, off, c, rfl, hg⟩
 ·obtain ⟨i, hi, _⟩ := Option.map_eq_some_iff.1 Tryz.infoAc
  exact ⟨v, w, run_append_owned_none (P := Tryz.prog) (w := w) 0 60 ty 103 i 4 Tryz.underlying60 hi v l.length (acL l) hown, by rw [List.append_nil]; exact hown, Grown.refl _ _, Moved.refl _ _⟩
 ·exact run_appAc w ty v l hown g off c m hm hg hb
theorem WL.appAcS {ops : Array Oper} {rest : List Oper} {o : Oper} {a : Act} {w : World} {Q : Exit → Act → World → Prop} (hw : Region.wanted o (yielded ops a.tmps) = true) (s x : Operand)
  (ho : o.op = .call { callee := .builtin .append, args := #[s, x], argTypes := #[60, 60] }) (v vs : Value) (l m : List AC) (hm : ∀ x ∈ m, SlAc x)
  (hs : a.eval s = v) (hx : a.eval x = vs) (hown : OwnAc w v l) (hsrc : SrcAc w vs m) (hb : l.length + m.length ≤ 1000000000000)
  (h : ∀ v' w', OwnAc w' v' (l ++ m) → (Grown w w' fun k => v.ownBlock = some k) → Moved w v v' → WL Tryz.prog ops Q rest (a.put o.dst v') w') : WL Tryz.prog ops Q (o :: rest) a w :=
 ⟨wpList_wanted hw fun K hK => by
  obtain ⟨v', w', hr, h1, h2, h3⟩ := run_appAcS w o.type v vs l m hown hm hsrc hb
  unfold Oper.wp execOp
  simp only [ho, resolve, invoke, builtin, Sem.run_bind, Sem.run_pure, Result.andThen_ok, List.map_toArray, List.map_cons, List.map_nil, hs, hx, hr]
  exact hK _ _ (h v' w' h1 h2 h3).out⟩
theorem rfiles_of {w : World} {vf : Value} {cs : List FC} {fs : List PF} (ho : OwnF w vf cs) (hf : RcsAt w cs fs) : FilesAt w vf fs := by
 refine ⟨fun i => cs.getD i zeroF, ?_, fun i x hx => ?_⟩
 ·rcases ho.form with ⟨rfl, h⟩ | ⟨g, cap, cur, rfl, _⟩
  ·subst h
   have := hf.len
   exact .inl ⟨_, _, rfl, List.eq_nil_of_length_eq_zero this.symm⟩
  ·refine .inr ⟨g, 0, cap, by rw [hf.len], fun i hi => ?_⟩
   have hi' : i < cs.length := by rw [hf.len]; exact hi
   obtain ⟨g', e, hr⟩ := ho.at (List.getElem?_eq_getElem hi')
   injection e with e
   injection e with e
   subst e
   have e2 : cs.getD i zeroF = cs[i] := by rw [List.getD_eq_getElem?_getD, List.getElem?_eq_getElem hi']; rfl
   show w.rangeAt g (0 + i * 3) (fA (cs.getD i zeroF)).toList
   rw [Nat.zero_add, e2]
   exact hr
 ·have hi' : i < cs.length := by rw [hf.len]; exact (List.getElem?_eq_some_iff.1 hx).1
  have h := hf.each i _ x (List.getElem?_eq_getElem hi') hx
  have e2 : cs.getD i zeroF = cs[i] := by rw [List.getD_eq_getElem?_getD, List.getElem?_eq_getElem hi']; rfl
  show (cs.getD i zeroF).nm = x.nm ∧ (cs.getD i zeroF).sf = x.sf ∧ RowAt w (cs.getD i zeroF).b x.bs
  rw [e2]
  exact ⟨h.1, h.2.1, h.2.2.1⟩
theorem ownAc_src {w : World} {v : Value} {l : List AC} (h : OwnAc w v l) : SrcAc w v l := by
 rcases h.form with ⟨rfl, rfl⟩ | ⟨g, cap, cur, rfl, _⟩
 ·exact .inl ⟨rfl, rfl⟩
 ·exact .inr ⟨g, 0, cap, rfl, fun j u hj => by rw [Nat.zero_add]; exact h.cells hj⟩
theorem Tryz.newRd (w : World) : (Instr.alloc 62 true (.tuple #[])).run Tryz.prog w = .ok (.pointer (some ⟨w.heap.size, 0, none⟩)) (w.alloc (.cells (rdA (.slice none 0 0) (.slice none 0 0) ⟨[], 0, 0, 0, false, 0⟩) 62)) := by kernel_rfl
theorem bsAE (w : World) : (Instr.buildSlice 60 0 #[]).run Tryz.prog w = .ok (.slice (some ⟨w.heap.size, 0, none⟩) 0 0) (w.alloc (.cells #[] 103)) := by kernel_rfl
theorem FcsAt.rcs {w : World} {cs : List FC} {fs : List PF} (h : FcsAt w cs fs) : RcsAt w cs fs := ⟨h.len, fun i x f hx hf => (h.each i x f hx hf).rc⟩
set_option maxRecDepth 8000 in
set_option maxHeartbeats 2000000 in
theorem rcopy_any (x : Nat) (vf va : Value) (cs : List FC) (ms : List AC) (D : DV) (w : World) (hD : RDAt w x vf va cs ms D) (hL : cs.length ≤ 256) (hMs : ms.length ≤ 100000000000) (hS : ∀ f ∈ D.fs, f.bs.length ≤ 70368744177664) :
  Calls Tryz.prog 9 #[ptr x] w fun e w' => ∃ y vf' va' ct, e = .returned (ptr y) ∧ RDAt w' y vf' va' ct ms D ∧ w.heap.size ≤ y ∧ (∀ k, RdS y vf' va' ct k → w.heap.size ≤ k) ∧ Below w.heap.size w w' := by
 obtain ⟨vfa, vfc, rfl⟩ := hD.own.sl
 obtain ⟨aa, ac, rfl⟩ := hD.acs.sl
 have HD := Keep.mk hD
 have HL := Keep.mk hL
 have HMs := Keep.mk hMs
 have HS := Keep.mk hS
 clear hD hL hMs hS
 go_enter Tryz.func9, Tryz.ntmps9
 refine wp_seq_k fun K1 hK1 => rgn ?_
 refine VlS (.pointer none) ?_
 refine WL.nil (hK1 _ _ ?_)
 refine wp_seq_k fun K2 hK2 => rgn ?_
 refine VlS (.pointer (some ⟨x, 0, none⟩)) ?_
 refine VlS (.pointer (some ⟨x, 0, none⟩)) ?_
 refine WL.row (by kernel_rfl) 62 (.tmp 5) rfl x rfl 62 (rdA (.slice vfa cs.length vfc) (.slice aa ms.length ac) D) _ HD.out.blk Tryz.underlying62 rfl (by kernel_rfl) ?_
 simp only [Act.put, pqA, pqB, pqC]
 refine WL.new (by kernel_rfl) 62 rfl _ Tryz.newRd ?_
 have HN := Keep.mk (Blk.new w 62 (rdA (.slice none 0 0) (.slice none 0 0) ⟨[], 0, 0, 0, false, 0⟩))
 have BN := Keep.mk (below_new w (.cells (rdA (.slice none 0 0) (.slice none 0 0) ⟨[], 0, 0, 0, false, 0⟩) 62))
 generalize w.alloc (.cells (rdA (.slice none 0 0) (.slice none 0 0) ⟨[], 0, 0, 0, false, 0⟩) 62) = wa at *
 obtain ⟨y, hy⟩ : ∃ z, Keep (z = w.heap.size) := ⟨_, ⟨rfl⟩⟩
 rw [← hy.out] at HN ⊢
 simp only [Act.put, pqA, pqB, pqC]
 refine WL.storeR (by kernel_rfl) 62 (.tmp 3) (.tmp 6) rfl y (rdA (.slice vfa cs.length vfc) (.slice aa ms.length ac) D) rfl rfl 62 (rdA (.slice none 0 0) (.slice none 0 0) ⟨[], 0, 0, 0, false, 0⟩) HN.out (by kernel_rfl) rfl (by simp [rdA, Value.oneCell']) ?_
 have H1 := Keep.mk (HN.out.setRow (rdA (.slice vfa cs.length vfc) (.slice aa ms.length ac) D))
 have L1 : Keep (w.heap.size ≤ y) := ⟨by rw [hy.out]; exact Nat.le_refl _⟩
 have B1 := Keep.mk (below_setRow BN.out (b := y) L1.out (rdA (.slice vfa cs.length vfc) (.slice aa ms.length ac) D))
 clear HN BN hy
 generalize wa.setRow y (rdA (.slice vfa cs.length vfc) (.slice aa ms.length ac) D) = w1 at *
 have HD1 := Keep.mk (HD.out.below B1.out)
 have c0 := HD1.out.blk.c 0 (by rfl : (rdA (.slice vfa cs.length vfc) (.slice aa ms.length ac) D)[0]? = some (.slice vfa cs.length vfc))
 simp only [Act.put]
 refine WL.nil (hK2 _ _ ?_)
 refine wp_seq_k fun K3 hK3 => rgn ?_
 refine VlS (.pointer (some ⟨x, 0, none⟩)) ?_
 refine VlS (.pointer (some ⟨x, 0, none⟩)) ?_
 refine VlS (.pointer (some ⟨x, 0, none⟩)) ?_
 refine VlS (.slice vfa cs.length vfc) ?_
 clear c0
 refine WL.callF (by kernel_rfl) 8 _ _ rfl Tryz.in8 #[.slice vfa cs.length vfc] (by simp [Act.eval]) ?_
 refine (copyFiles_any (.slice vfa cs.length vfc) D.fs w1 (rfiles_of HD1.out.own HD1.out.rcs) (by have := HL.out; have := HD1.out.rcs.len; omega) HS.out).mono ?_
 rintro e w2 ⟨v2, ct, rfl, h1, h2, h3, h4, h5⟩
 refine ⟨_, rfl, ?_⟩
 have HO2 := Keep.mk h1
 have HF2 := Keep.mk h2
 have N2 : Keep (NewF w.heap.size v2) := ⟨fun k hk => by have := h3 k hk; have := B1.out.size; omega⟩
 have M2 : Keep (∀ (j : Nat) (y : FC) (k : Nat), ct[j]? = some y → y.b.ownBlock = some k → w.heap.size ≤ k) := ⟨fun j y k hj hk => by have := h4 j y k hj hk; have := B1.out.size; omega⟩
 have NY : Keep (v2.ownBlock ≠ some y) := ⟨fun e => by have h6 := h3 y e; have := H1.out.lt; omega⟩
 have H2 := Keep.mk (H1.out.below h5 H1.out.lt)
 have B2 : Keep (Below w.heap.size w w2) := ⟨B1.out.trans (h5.mono B1.out.size)⟩
 clear h1 h2 h3 h4 h5 H1 HD1 B1
 obtain ⟨a2, k2, e2⟩ := HO2.out.sl
 subst e2
 obtain ⟨n2, hn2⟩ : ∃ z, Keep (z = ct.length) := ⟨_, ⟨rfl⟩⟩
 rw [← hn2.out] at HO2 N2 NY ⊢
 have f_o := H2.out.frozen 0
 have cl := H2.out.c 0 (by rfl : (rdA (.slice vfa cs.length vfc) (.slice aa ms.length ac) D)[0]? = some (.slice vfa cs.length vfc))
 simp only [Act.put, pqA, pqB, pqC]
 refine VlS (.pointer (some ⟨y, 0, none⟩)) ?_
 refine WL.cell (by kernel_rfl) (w2.setCell ⟨y, 0, none⟩ (.slice a2 n2 k2)) (by go_simp) ?_
 clear f_o cl
 have H3 : Keep (Blk (w2.setCell ⟨y, 0, none⟩ (.slice a2 n2 k2)) y 62 (rdA (.slice a2 n2 k2) (.slice aa ms.length ac) D)) := ⟨H2.out.set 0 _⟩
 have hs : Grown w2 (w2.setCell ⟨y, 0, none⟩ (.slice a2 n2 k2)) fun k => k = y := Grown.setCell w2 y 0 _ fun _ => rfl
 have HO3 := Keep.mk (HO2.out.grown hs fun k hk e => NY.out (e ▸ hk))
 have HF3 : Keep (FcsAt (w2.setCell ⟨y, 0, none⟩ (.slice a2 n2 k2)) ct D.fs) := ⟨HF2.out.grown hs fun k hk e => by subst e; have := hk.one H2.out.typ; revert this; decide⟩
 have B3 : Keep (Below w.heap.size w (w2.setCell ⟨y, 0, none⟩ (.slice a2 n2 k2))) := ⟨B2.out.setCell L1.out _⟩
 clear hs H2 HO2 HF2 B2
 generalize w2.setCell ⟨y, 0, none⟩ (.slice a2 n2 k2) = w3 at *
 simp only [Act.put]
 refine WL.nil (hK3 _ _ ?_)
 refine wp_seq_k fun K4 hK4 => rgn ?_
 refine WL.bs (by kernel_rfl) 60 0 _ rfl #[] (by simp) _ _ (bsAE w3) ?_
 have hbx := below_new w3 (.cells #[] 103)
 have HN4 := Keep.mk (ownAc_empty w3)
 have H4 := Keep.mk (H3.out.below hbx H3.out.lt)
 have HO4 := Keep.mk (HO3.out.below hbx)
 have HF4 : Keep (FcsAt (w3.alloc (.cells #[] 103)) ct D.fs) := ⟨HF3.out.grown (Grown.below (S := fun _ => False) hbx) fun _ _ h => h⟩
 have B4 : Keep (Below w.heap.size w (w3.alloc (.cells #[] 103))) := ⟨B3.out.trans (hbx.mono B3.out.size)⟩
 have L4 : Keep (y < w3.heap.size ∧ w.heap.size ≤ w3.heap.size) := ⟨H3.out.lt, B3.out.size⟩
 have W4 : Keep (∀ k, (.slice a2 n2 k2 : Value).ownBlock = some k → k < w3.heap.size) := ⟨HO3.out.lt⟩
 clear hbx H3 HO3 HF3 B3
 generalize w3.alloc (.cells #[] 103) = w4 at *
 generalize w3.heap.size = g4 at *
 have HD4 := Keep.mk (HD.out.below B4.out)
 have c4 := HD4.out.blk.c 4 (by rfl : (rdA (.slice vfa cs.length vfc) (.slice aa ms.length ac) D)[4]? = some (.slice aa ms.length ac))
 simp only [Act.put, pqA, pqB, pqC]
 refine VlS (.pointer (some ⟨x, 0, none⟩)) ?_
 refine VlS (.pointer (some ⟨x, 0, none⟩)) ?_
 refine VlS (.pointer (some ⟨x, 4, none⟩)) ?_
 refine VlS (.slice aa ms.length ac) ?_
 refine WL.appAcS (by kernel_rfl) (.tmp 13) (.tmp 17) rfl (.slice (some ⟨g4, 0, none⟩) 0 0) (.slice aa ms.length ac) [] ms HD.out.num.2 rfl rfl HN4.out (ownAc_src HD4.out.acs) (by have := HMs.out; simp; omega) fun v5 w5 ho hg hm => ?_
 have HO5 : Keep (OwnAc w5 v5 ms) := ⟨ho⟩
 have g5 : Grown w4 w5 fun k => k = g4 := hg.mono fun k _ e => (Option.some.inj e).symm
 have H5 : Keep (Blk w5 y 62 (rdA (.slice a2 n2 k2) (.slice aa ms.length ac) D)) := ⟨g5.blk H4.out fun e => by have := L4.out; omega⟩
 have HF5 : Keep (FcsAt w5 ct D.fs) := ⟨HF4.out.grown g5 fun k hk e => by subst e; have := hk.one (HN4.out.typ rfl); revert this; decide⟩
 have HO6 : Keep (OwnF w5 (.slice a2 n2 k2) ct) := ⟨HO4.out.grown g5 fun k hk e => by have := W4.out k hk; omega⟩
 have B5 : Keep (Below w.heap.size w w5) := ⟨B4.out.trans (g5.to_below (fun k hk e => by have := L4.out; omega) B4.out.size)⟩
 have N5 : Keep (NewF w.heap.size v5) := ⟨NewF.moved (NewF.at L4.out.2) B4.out.size hm⟩
 clear ho hg hm g5 H4 HO4 HF4 c4 HD4 B4
 obtain ⟨a5, k5, e5⟩ := HO5.out.sl
 subst e5
 obtain ⟨n5, hn5⟩ : ∃ z, Keep (z = ms.length) := ⟨_, ⟨rfl⟩⟩
 rw [← hn5.out] at HO5 N5 ⊢
 have f_o := H5.out.frozen 4
 have cl := H5.out.c 4 (by rfl : (rdA (.slice a2 n2 k2) (.slice aa ms.length ac) D)[4]? = some (.slice aa ms.length ac))
 simp only [Act.put, pqA, pqB, pqC]
 refine VlS (.pointer (some ⟨y, 4, none⟩)) ?_
 refine WL.cell (by kernel_rfl) (w5.setCell ⟨y, 4, none⟩ (.slice a5 n5 k5)) (by go_simp) ?_
 clear f_o cl
 have H6 : Keep (Blk (w5.setCell ⟨y, 4, none⟩ (.slice a5 n5 k5)) y 62 (rdA (.slice a2 n2 k2) (.slice a5 n5 k5) D)) := ⟨H5.out.set 4 _⟩
 have hs : Grown w5 (w5.setCell ⟨y, 4, none⟩ (.slice a5 n5 k5)) fun k => k = y := Grown.setCell w5 y 4 _ fun _ => rfl
 have HDy : Keep (RDAt (w5.setCell ⟨y, 4, none⟩ (.slice a5 n5 k5)) y (.slice a2 n2 k2) (.slice a5 n5 k5) ct ms D) := ⟨⟨H6.out, HO6.out.grown hs fun k hk e => HO6.out.ne H5.out (by decide) (e ▸ hk), (HF5.out.grown hs fun k hk e => by subst e; have := hk.one H5.out.typ; revert this; decide).rcs, HO5.out.grown hs fun k hk e => HO5.out.ne H5.out (by decide) (e ▸ hk), HD.out.num⟩⟩
 have B6 : Keep (Below w.heap.size w (w5.setCell ⟨y, 4, none⟩ (.slice a5 n5 k5))) := ⟨B5.out.setCell L1.out _⟩
 clear hs H5 H6 HO6 HO5 HF5 B5
 generalize w5.setCell ⟨y, 4, none⟩ (.slice a5 n5 k5) = w6 at *
 simp only [Act.put]
 refine WL.nil (hK4 _ _ ?_)
 refine wp_seq_k fun K5 hK5 => rgn ?_
 refine VlS (.pointer (some ⟨y, 0, none⟩)) ?_
 refine WL.nil (hK5 _ _ ?_)
 refine wp_ret ?_
 go_ret
 refine ⟨y, _, _, ct, rfl, HDy.out, L1.out, fun k hk => ?_, B6.out⟩
 rcases hk with (rfl | hk | hk) | ⟨j, z, hj, hk⟩
 ·exact L1.out
 ·exact N2.out k hk
 ·exact N5.out k hk
 ·exact M2.out j z k hj hk
theorem fL_setR : ∀ (l : List FC) (t : Nat) (y : FC), t < l.length → fL (l.set t y) = (fL l).take (t * 3) ++ (fA y).toList ++ (fL l).drop (t * 3 + 3)
 | [], t, y, h => by simp at h
 | d :: r, 0, y, _ => by
  rw [List.set_cons_zero]
  show fL (y :: r) = _
  unfold fL
  rw [List.flatMap_cons, List.flatMap_cons, Nat.zero_mul, List.take_zero, List.nil_append, Nat.zero_add, List.drop_left' (by rw [fA_len])]
 | d :: r, t + 1, y, h => by
  have ih := fL_setR r t y (by simpa using h)
  rw [List.set_cons_succ]
  unfold fL at ih ⊢
  rw [List.flatMap_cons, List.flatMap_cons, ih, show (t + 1) * 3 = (fA d).toList.length + t * 3 by rw [fA_len]; omega, List.take_length_add_append, show (fA d).toList.length + t * 3 + 3 = (fA d).toList.length + (t * 3 + 3) by omega, List.drop_length_add_append]
  simp [List.append_assoc]
theorem OwnF.setR {w : World} {g n cp : Nat} {l : List FC} (h : OwnF w (.slice (some ⟨g, 0, none⟩) n cp) l) {t : Nat} (ht : t < l.length) : ∃ cur, Blk w g 49 cur ∧ t * 3 + 3 ≤ cur.size ∧ ∀ y, OwnF (w.setRow g (cur.toList.take (t * 3) ++ (fA y).toList ++ cur.toList.drop (t * 3 + (fA y).size)).toArray) (.slice (some ⟨g, 0, none⟩) n cp) (l.set t y) := by
 rcases h.form with ⟨e, _⟩ | ⟨g', cap, cur, e, h3, h4, h5, h6, h7⟩
 ·cases e
 ·injection e with e1 e2 e3
  injection e1 with e1
  injection e1 with e1
  subst e1 e2 e3
  refine ⟨cur, h3, by omega, fun y => ?_⟩
  have hs : (fA y).size = 3 := rfl
  have hl : (fA y).toList.length = 3 := rfl
  have hcl : cur.toList.length = cp * 3 := by rw [Array.length_toList]; exact h6
  refine ⟨by rw [fL_len], .inr ⟨g, cp, _, by rw [List.length_set], Nat.zero_le _, h3.setRow _, by rw [List.length_set]; exact h4, h5, ?_, ?_⟩⟩
  ·rw [List.size_toArray, List.length_append, List.length_append, List.length_take, List.length_drop, hcl, hl, hs]
   omega
  ·rw [List.length_set, fL_setR l t y ht, ← h7, hs]
   show (cur.toList.take (t * 3) ++ (fA y).toList ++ cur.toList.drop (t * 3 + 3)).take (l.length * 3) = _
   have e1 : (cur.toList.take (l.length * 3)).take (t * 3) = cur.toList.take (t * 3) := by rw [List.take_take, Nat.min_eq_left (by omega)]
   have e2 : (cur.toList.take (l.length * 3)).drop (t * 3 + 3) = (cur.toList.drop (t * 3 + 3)).take (l.length * 3 - (t * 3 + 3)) := by rw [List.drop_take]
   rw [e1, e2, List.take_append, List.take_of_length_le (by rw [List.length_append, List.length_take, hl]; omega)]
   congr 2
   rw [List.length_append, List.length_take, hl, hcl]
   omega
theorem RDAt.file {w : World} {x g n7 k7 i : Nat} {va : Value} {cs : List FC} {ms : List AC} {D : DV} (h : RDAt w x (.slice (some ⟨g, 0, none⟩) n7 k7) va cs ms D) (hi : i < cs.length) : ∃ cur, Blk w g 49 cur ∧ i * 3 + 3 ≤ cur.size ∧ ∀ (y : FC) (f : PF), RcAt w y f → RDAt (w.setRow g (cur.toList.take (i * 3) ++ (fA y).toList ++ cur.toList.drop (i * 3 + (fA y).size)).toArray) x (.slice (some ⟨g, 0, none⟩) n7 k7) va (cs.set i y) ms { D with fs := D.fs.set i f } ∧ Grown w (w.setRow g (cur.toList.take (i * 3) ++ (fA y).toList ++ cur.toList.drop (i * 3 + (fA y).size)).toArray) fun k => k = g := by
 obtain ⟨cur, h1, h2, h3⟩ := h.own.setR hi
 refine ⟨cur, h1, h2, fun y f hy => ?_⟩
 have hs : Grown w (w.setRow g (cur.toList.take (i * 3) ++ (fA y).toList ++ cur.toList.drop (i * 3 + (fA y).size)).toArray) fun k => k = g := Grown.setRow w g _ fun _ => rfl
 have hg : Typ w g 49 := h1.typ
 refine ⟨⟨hs.blk h.blk fun e => ?_, h3 y, h.rcs.set (hy.grown hs fun k hk e => ?_) fun j z u _ hz _ hzu => hzu.grown hs fun k hk e => ?_, h.acs.grown hs fun k hk e => ?_, h.num⟩, hs⟩
 ·subst e; have := hg.one h.blk.typ; revert this; decide
 ·subst e; have := hg.one (hy.2.2.2 _ hk); revert this; decide
 ·subst e; have := hg.one (h.rcs.typ hz hk); revert this; decide
 ·subst e; have := hg.one (h.acs.typ hk); revert this; decide
theorem Tryz.in43 (w : World) (vs : Array Value) : (callFunc 43 vs).run Tryz.prog w = .ok (.enter 43 vs) w := by kernel_rfl
theorem WL.sl3 {ops : Array Oper} {rest : List Oper} {o : Oper} {a : Act} {w : World} {Q : Exit → Act → World → Prop} (hw : Region.wanted o (yielded ops a.tmps) = true) (x hi mx : Operand) (ho : o.op = .slice 40 x none (some hi) (some mx))
  (vx vh vm vs : Value) (hx : a.eval x = vx) (hh : a.eval hi = vh) (hm : a.eval mx = vm) (hr : (Instr.sliceAt 40 vx none (some vh) (some vm)).run Tryz.prog w = .ok vs w) (h : WL Tryz.prog ops Q rest (a.put o.dst vs) w) : WL Tryz.prog ops Q (o :: rest) a w :=
 WL.val hw vs (by unfold execOp; simp only [ho, hx, hh, hm, Option.map_some, Option.map_none, Sem.run_bind, hr, Result.andThen_ok, Sem.run_pure]) h
theorem yieldsIf_ld {ops : Array Oper} {S : World → Prop} {op : Oper} {a : Act} (hw : Region.wanted op (yielded ops a.tmps) = true) (x : Operand) (ty : TypeId) (ho : op.op = .load ty x) (b o : Nat) (hx : a.eval x = .pointer (some ⟨b, o, none⟩)) (cs : Array Value) (d : TypeDesc) (hu : Tryz.prog.underlying ty = some d) (hd : d.isRow = true) (hi : (Tryz.prog.info? ty).map (·.size) = some cs.size) (hS : ∀ w, S w → w.rangeAt b o cs.toList) : YieldsIf Tryz.prog ops S op (.agg cs) a := by
 have h := yieldsIf_load_mid (P := Tryz.prog) (ops := ops) (S := S) (op := op) (a := a) hw ty x ho b o hx cs.toList d hS hu hd (by rw [Array.length_toList]; exact hi)
 rw [Array.toArray_toList] at h
 exact h
set_option maxRecDepth 8000 in
set_option maxHeartbeats 4000000 in
theorem rcrash_any (x : Nat) (vk vf va : Value) (kp : List Int) (cs : List FC) (ms : List AC) (D : DV) (w : World) (hD : RDAt w x vf va cs ms D) (hKp : IntsAt w vk kp) (hKn : kp ≠ [] → ∀ k, vk.ownBlock = some k → ¬ RdW x vf va k) (hL : cs.length ≤ 256) (hS : ∀ f ∈ D.fs, 0 ≤ f.sf ∧ f.sf ≤ (f.bs.length : Int) ∧ f.bs.length ≤ 70368744177664) :
  Calls Tryz.prog 43 #[ptr x, vk] w fun e w' => e = .returned (.tuple #[]) ∧ ∃ cs', RDAt w' x vf va cs' ms (D.crash kp) ∧ Grown w w' (RdW x vf va) ∧ ∀ k, RdS x vf va cs' k → RdS x vf va cs k ∨ w.heap.size ≤ k := by
 obtain ⟨vfa, vfc, rfl⟩ := hD.own.sl
 obtain ⟨ka, kc, rfl⟩ := hKp.form
 have HD := Keep.mk hD
 have HKp := Keep.mk hKp
 have HKn := Keep.mk hKn
 have HL := Keep.mk hL
 have HS := Keep.mk hS
 clear hD hKp hKn hL hS
 go_enter Tryz.func43, Tryz.ntmps43
 refine wp_seq_k fun K1 hK1 => ?_
 refine wp_seq_k fun K2 hK2 => rgn ?_
 refine VlS (.int .i64 0) ?_
 refine WL.nil (hK2 _ _ ?_)
 refine wp_block ?_
 refine wp_loop (fun ac wr => ∃ (t : Nat) (ct : List FC) (Dt : DV), ac = apF (fun fz => { tmps := #[.pointer (some ⟨x, 0, none⟩), .slice ka kp.length kc, undef, undef, .int .i64 (t : Int), fz 5, fz 6, fz 7, fz 8, fz 9, fz 10, fz 11, fz 12, fz 13, fz 14, fz 15, fz 16, fz 17, fz 18, fz 19, fz 20, fz 21, fz 22, fz 23, fz 24, fz 25, fz 26, fz 27, fz 28, fz 29, fz 30, fz 31, fz 32, fz 33, fz 34, fz 35, fz 36, fz 37, fz 38, fz 39, fz 40, fz 41, fz 42, fz 43, fz 44, fz 45, fz 46, fz 47, fz 48, fz 49, fz 50, fz 51, fz 52, fz 53, fz 54, fz 55, fz 56, fz 57, fz 58, fz 59, fz 60, fz 61, fz 62, fz 63, fz 64, undef, undef, undef, undef, undef, undef], defers := [] }) ac ∧ t ≤ cs.length ∧ ct.length = cs.length ∧ RDAt wr x (.slice vfa cs.length vfc) va ct ms Dt ∧ Dt = { D with fs := crT kp t D.fs } ∧ Grown w wr (RdW x (.slice vfa cs.length vfc) va) ∧ ∀ k, RdS x (.slice vfa cs.length vfc) va ct k → RdS x (.slice vfa cs.length vfc) va cs k ∨ w.heap.size ≤ k) (fun a _ => cs.length - (intOf (a.tmps.getD 4 undef)).toNat) ⟨0, cs, D, rfl, Nat.zero_le _, rfl, HD.out, by rw [crT_zero], Grown.refl _ _, fun k h => .inl h⟩ ?_
 rintro ac wr ⟨t, ct, Dt, hac, ht, hct, hJ1, hJ2, hJ3, hJ4⟩
 obtain ⟨fz, rfl⟩ := unF hac
 have JD := Keep.mk hJ1
 have JE := Keep.mk hJ2
 have JG := Keep.mk hJ3
 have JS := Keep.mk hJ4
 have JC := Keep.mk hct
 clear hJ1 hJ2 hJ3 hJ4 hct
 by_cases hlt : t < cs.length
 ·have hlt' : (t : Int) < (cs.length : Int) := by omega
  have hwt : IntKind.i64.wrap ((t : Int) + 1) = (t : Int) + 1 := by rw [IntKind.wrap_i64]; have := HL.out; omega
  have hLD : t < D.fs.length := by have := HD.out.rcs.len; omega
  obtain ⟨f, hf⟩ : ∃ f, D.fs[t]? = some f := ⟨D.fs[t]'hLD, List.getElem?_eq_getElem _⟩
  have HFd := Keep.mk hf
  have HFt : Keep (Dt.fs[t]? = some f) := ⟨by rw [JE.out]; show (crT kp t D.fs)[t]? = some f; rw [crT_at]; exact hf⟩
  obtain ⟨x_, hx⟩ : ∃ x, ct[t]? = some x := ⟨ct[t]'(by have := JC.out; omega), List.getElem?_eq_getElem _⟩
  obtain ⟨g, ha, hrg⟩ := JD.out.own.at hx
  subst ha
  have hec := JD.out.rcs.each t x_ f hx HFt.out
  have hbf := HS.out f (List.mem_of_getElem? hf)
  obtain ⟨xn, xb, xs⟩ := x_
  obtain ⟨xa, xc, hxb⟩ := row_form hec.2.2.1
  change xb = _ at hxb
  subst hxb
  have HX := Keep.mk hx
  have HEc := Keep.mk hec
  have HRg := Keep.mk hrg
  have HXs : Keep (xs = f.sf) := ⟨hec.2.1⟩
  have HXc : Keep (f.bs.length ≤ xc) := ⟨row_cap hec.2.2.1⟩
  have HB : Keep (0 ≤ xs ∧ xs ≤ (f.bs.length : Int) ∧ f.bs.length ≤ 70368744177664) := ⟨by rw [HXs.out]; exact hbf⟩
  clear hrg hec hx hf hbf
  have p0 := JD.out.blk.c 0 (by rfl : (rdA (.slice (some ⟨g, 0, none⟩) cs.length vfc) va Dt)[0]? = some (.slice (some ⟨g, 0, none⟩) cs.length vfc))
  refine wp_seq_k fun K3 hK3 => ?_
  refine wp_seq_k fun K4 hK4 => rgn ?_
  refine VlS (.int .i64 (t : Int)) ?_
  refine VlS (.pointer (some ⟨x, 0, none⟩)) ?_
  refine VlS (.pointer (some ⟨x, 0, none⟩)) ?_
  refine VlS (.pointer (some ⟨x, 0, none⟩)) ?_
  refine VlS (.slice (some ⟨g, 0, none⟩) cs.length vfc) ?_
  refine VlS (.int .i64 (cs.length : Int)) ?_
  refine VbT ?_
  refine WL.nil (hK4 _ _ ?_)
  refine wp_cond_true rfl ?_
  refine wp_skip ?_
  refine hK3 _ _ ?_
  refine wp_seq_k fun K5 hK5 => ?_
  refine wp_block ?_
  refine wp_seq_k fun K6 hK6 => rgn ?_
  refine VlS (.pointer (some ⟨x, 0, none⟩)) ?_
  refine VlS (.pointer (some ⟨x, 0, none⟩)) ?_
  refine VlS (.pointer (some ⟨x, 0, none⟩)) ?_
  refine VlS (.slice (some ⟨g, 0, none⟩) cs.length vfc) ?_
  refine VlS (.int .i64 (t : Int)) ?_
  refine VlS (.pointer (some ⟨g, t * 3, none⟩)) ?_
  refine WL.mid (by kernel_rfl) 49 (.tmp 22) rfl g (t * 3) rfl (fA (⟨xn, .slice xa f.bs.length xc, xs⟩ : FC)).toList _ HRg.out Tryz.underlying49 rfl (Tryz.sizeFL (⟨xn, .slice xa f.bs.length xc, xs⟩ : FC)) ?_
  rw [fA_back]
  simp only [Act.put, pqA, pqB, pqC]
  refine WL.new (by kernel_rfl) 49 rfl _ Tryz.newF ?_
  have HN := Keep.mk (Blk.new wr 49 (fA zeroF))
  have BN := Keep.mk (below_new wr (.cells (fA zeroF) 49))
  clear p0
  generalize wr.alloc (.cells (fA zeroF) 49) = wa at *
  obtain ⟨y, hy⟩ : ∃ z, Keep (z = wr.heap.size) := ⟨_, ⟨rfl⟩⟩
  rw [← hy.out] at HN ⊢
  have L1 : Keep (wr.heap.size ≤ y) := ⟨by rw [hy.out]; exact Nat.le_refl _⟩
  simp only [Act.put, pqA, pqB, pqC]
  refine WL.storeR (by kernel_rfl) 49 (.tmp 5) (.tmp 23) rfl y (fA (⟨xn, .slice xa f.bs.length xc, xs⟩ : FC)) rfl rfl 49 (fA zeroF) HN.out (Tryz.sizeFB (⟨xn, .slice xa f.bs.length xc, xs⟩ : FC)) rfl (SlF.one ⟨_, _, _, rfl⟩) ?_
  have H1 := Keep.mk (HN.out.setRow (fA (⟨xn, .slice xa f.bs.length xc, xs⟩ : FC)))
  have B1 := Keep.mk (below_setRow BN.out (b := y) L1.out (fA (⟨xn, .slice xa f.bs.length xc, xs⟩ : FC)))
  clear HN BN hy
  generalize wa.setRow y (fA (⟨xn, .slice xa f.bs.length xc, xs⟩ : FC)) = w1 at *
  have y1 := H1.out.c 1 (by rfl : (fA (⟨xn, .slice xa f.bs.length xc, xs⟩ : FC))[1]? = some (.slice xa f.bs.length xc))
  have y2 := H1.out.c 2 (by rfl : (fA (⟨xn, .slice xa f.bs.length xc, xs⟩ : FC))[2]? = some (.int .i64 xs))
  simp only [Act.put]
  refine WL.nil (hK6 _ _ ?_)
  refine wp_seq_k fun K7 hK7 => rgn ?_
  refine VlS (.int .i64 0) ?_
  refine WL.nil (hK7 _ _ ?_)
  refine wp_seq_k fun K8 hK8 => ?_
  refine wp_seq_k fun K9 hK9 => ?_
  have rest8 : ∀ (y7 y24 y25 y26 y27 y28 y29 y30 y31 y32 y33 y34 y35 y36 y37 y38 y39 y40 y41 y42 y43 y44 : Value) (nn : Int), nn = kpN kp t f → K8 { tmps := #[.pointer (some ⟨x, 0, none⟩), .slice ka kp.length kc, undef, undef, .int .i64 (t : Int), .pointer (some ⟨y, 0, none⟩), .int .i64 nn, y7, .int .i64 (t : Int), .pointer (some ⟨x, 0, none⟩), .pointer (some ⟨x, 0, none⟩), .pointer (some ⟨x, 0, none⟩), .slice (some ⟨g, 0, none⟩) cs.length vfc, .int .i64 (cs.length : Int), .bool true, fz 15, fz 16, .pointer (some ⟨x, 0, none⟩), .pointer (some ⟨x, 0, none⟩), .pointer (some ⟨x, 0, none⟩), .slice (some ⟨g, 0, none⟩) cs.length vfc, .int .i64 (t : Int), .pointer (some ⟨g, t * 3, none⟩), .agg (fA (⟨xn, .slice xa f.bs.length xc, xs⟩ : FC)), y24, y25, y26, y27, y28, y29, y30, y31, y32, y33, y34, y35, y36, y37, y38, y39, y40, y41, y42, y43, y44, fz 45, fz 46, fz 47, fz 48, fz 49, fz 50, fz 51, fz 52, fz 53, fz 54, fz 55, fz 56, fz 57, fz 58, fz 59, fz 60, fz 61, fz 62, fz 63, fz 64, undef, undef, undef, undef, undef, undef], defers := [] } w1 := by
   intro y7 y24 y25 y26 y27 y28 y29 y30 y31 y32 y33 y34 y35 y36 y37 y38 y39 y40 y41 y42 y43 y44 nn hnn
   have HN := Keep.mk hnn
   clear hnn
   refine hK8 _ _ ?_
   refine wp_seq_k fun K10 hK10 => ?_
   have HNb : Keep (0 ≤ nn ∧ nn ≤ (f.bs.length : Int) - xs) := ⟨by have h := HB.out; rw [HN.out, HXs.out]; rw [HXs.out] at h; exact kpN_le kp t f ⟨h.1, h.2.1⟩⟩
   obtain ⟨m, hm⟩ : ∃ m : Nat, Keep ((m : Int) = xs + nn) := ⟨(xs + nn).toNat, ⟨by have := HB.out; have := HNb.out; omega⟩⟩
   have hws : IntKind.i64.wrap (xs + nn) = (m : Int) := by have := hm.out; have := HB.out; have := HNb.out; rw [IntKind.wrap_i64]; omega
   have HM : Keep (m ≤ f.bs.length) := ⟨by have := hm.out; have := HB.out; have := HNb.out; omega⟩
   have f_o := H1.out.frozen 2
   refine rgn ?_
   refine VlS (.pointer (some ⟨y, 2, none⟩)) ?_
   refine VlS (.int .i64 xs) ?_
   refine VlS (.int .i64 nn) ?_
   refine VlS (.int .i64 (m : Int)) ?_
   refine VlS (.pointer (some ⟨y, 2, none⟩)) ?_
   refine WL.cell (by kernel_rfl) (w1.setCell ⟨y, 2, none⟩ (.int .i64 (m : Int))) (by go_simp) ?_
   have H2 : Keep (Blk (w1.setCell ⟨y, 2, none⟩ (.int .i64 (m : Int))) y 49 (fA (⟨xn, .slice xa f.bs.length xc, (m : Int)⟩ : FC))) := ⟨H1.out.set 2 _⟩
   have B2 := Keep.mk (B1.out.setCell (p := ⟨y, 2, none⟩) L1.out (.int .i64 (m : Int)))
   clear y1 y2 f_o hws H1 B1
   generalize (w1.setCell ⟨y, 2, none⟩ (.int .i64 (m : Int))) = w2 at *
   have y1 := H2.out.c 1 (by rfl : (fA (⟨xn, .slice xa f.bs.length xc, (m : Int)⟩ : FC))[1]? = some (.slice xa f.bs.length xc))
   have y2 := H2.out.c 2 (by rfl : (fA (⟨xn, .slice xa f.bs.length xc, (m : Int)⟩ : FC))[2]? = some (.int .i64 (m : Int)))
   have f_o := H2.out.frozen 1
   simp only [Act.put]
   refine WL.nil (hK10 _ _ ?_)
   refine wp_seq_k fun K11 hK11 => rgn ?_
   refine VlS (.pointer (some ⟨y, 1, none⟩)) ?_
   refine VlS (.slice xa f.bs.length xc) ?_
   refine VlS (.pointer (some ⟨y, 2, none⟩)) ?_
   refine VlS (.int .i64 (m : Int)) ?_
   refine VlS (.pointer (some ⟨y, 2, none⟩)) ?_
   refine VlS (.int .i64 (m : Int)) ?_
   refine WL.sl3 (by kernel_rfl) (.tmp 51) (.tmp 53) (.tmp 55) rfl (.slice xa f.bs.length xc) (.int .i64 (m : Int)) (.int .i64 (m : Int)) (.slice xa m m) rfl rfl rfl (sl_run3b xa f.bs.length xc m (Nat.le_trans HM.out HXc.out) w2) ?_
   simp only [Act.put, pqA, pqB, pqC]
   refine VlS (.pointer (some ⟨y, 1, none⟩)) ?_
   refine WL.cell (by kernel_rfl) (w2.setCell ⟨y, 1, none⟩ (.slice xa m m)) (by go_simp) ?_
   have H3 : Keep (Blk (w2.setCell ⟨y, 1, none⟩ (.slice xa m m)) y 49 (fA (⟨xn, .slice xa m m, (m : Int)⟩ : FC))) := ⟨H2.out.set 1 _⟩
   have B3 := Keep.mk (B2.out.setCell (p := ⟨y, 1, none⟩) L1.out (.slice xa m m))
   clear y1 y2 f_o H2 B2
   generalize (w2.setCell ⟨y, 1, none⟩ (.slice xa m m)) = w3 at *
   simp only [Act.put]
   refine WL.nil (hK11 _ _ ?_)
   have B4 : Keep (Below wr.heap.size wr w3.drew) := ⟨B3.out.drew⟩
   have H4 : Keep (Blk w3.drew y 49 (fA (⟨xn, .slice xa m m, (m : Int)⟩ : FC))) := ⟨H3.out⟩
   clear B3 H3
   have JD4 := Keep.mk (JD.out.below B4.out)
   have hil : t < ct.length := by have := JC.out; omega
   obtain ⟨cur, hc1, hc2, hc3⟩ := JD4.out.file hil
   have C1 := Keep.mk hc1
   have C2 := Keep.mk hc2
   have C3 := Keep.mk (hc3 (⟨xn, .slice xa m m, (m : Int)⟩ : FC) ({ nm := f.nm, bs := f.bs.take m, sf := (m : Int) } : PF) ⟨HEc.out.1, rfl, row_cut (JD4.out.rcs.each t _ _ HX.out HFt.out).2.2.1 HM.out, fun k hk => (JD4.out.rcs.each t _ _ HX.out HFt.out).2.2.2 k (by rw [own_sl xa m m f.bs.length xc] at hk; exact hk)⟩)
   clear hc1 hc2 hc3 hil
   refine wp_region_held_drew (S := fun wx => wx.cell? ⟨x, 0, none⟩ = some (.slice (some ⟨g, 0, none⟩) cs.length vfc) ∧ wx.rangeAt y 0 (fA (⟨xn, .slice xa m m, (m : Int)⟩ : FC)).toList) (by kernel_rfl) ⟨JD4.out.blk.c 0 rfl, blk_range H4.out⟩ (fun hHeld => ?_)
   generalize w3.drew = w4 at *
   refine TkJ (i := 0) (oi := ⟨some 58, Op.move (Operand.tmp 0), 27, _, _, none⟩) (v := .pointer (some ⟨x, 0, none⟩)) rfl hHeld ?_
   refine TkJ (i := 1) (oi := ⟨some 59, Op.nilCheck (Operand.tmp 58), 0, _, _, none⟩) (v := .pointer (some ⟨x, 0, none⟩)) rfl hHeld ?_
   refine TkJ (i := 2) (oi := ⟨some 60, Op.fieldAddr 62 (Operand.tmp 59) 0, 0, _, _, none⟩) (v := .pointer (some ⟨x, 0, none⟩)) rfl hHeld ?_
   refine TkJ (i := 3) (oi := ⟨some 61, Op.load 22 (Operand.tmp 60), 22, _, _, none⟩) (v := .slice (some ⟨g, 0, none⟩) cs.length vfc) rfl hHeld ?_
   refine TkJ (i := 4) (oi := ⟨some 62, Op.move (Operand.tmp 4), 3, _, _, none⟩) (v := .int .i64 (t : Int)) rfl hHeld ?_
   refine tkS (i := 5) (oi := ⟨some 63, Op.load 49 (Operand.tmp 5), 49, _, _, none⟩) (v := .agg (fA (⟨xn, .slice xa m m, (m : Int)⟩ : FC))) rfl (yieldsIf_ld (by rfl) (Operand.tmp 5) 49 rfl y 0 rfl (fA (⟨xn, .slice xa m m, (m : Int)⟩ : FC)) _ Tryz.underlying49 rfl (Tryz.sizeFB (⟨xn, .slice xa m m, (m : Int)⟩ : FC)) fun w hS => hS.2) hHeld ?_
   refine TkJ (i := 6) (oi := ⟨some 64, Op.indexAddr 22 (Operand.tmp 61) (Operand.tmp 62), 0, _, _, none⟩) (v := .pointer (some ⟨g, t * 3, none⟩)) rfl hHeld ?_
   refine wpAnyH_ready (rs := [7]) (by kernel_rfl) (by simp) ?_
   refine AllReadyH.cons (o := ⟨none, Op.store 49 (Operand.tmp 64) (Operand.tmp 63), 0, _, _, none⟩) rfl (fun K hK => ?_) AllReadyH.nil
   rw [if_pos (by rfl)]
   refine wp_store_part 49 (.tmp 64) (.tmp 63) rfl g (t * 3) (fA (⟨xn, .slice xa m m, (m : Int)⟩ : FC)) rfl rfl 49 cur C1.out (Tryz.sizeFB (⟨xn, .slice xa m m, (m : Int)⟩ : FC)) C2.out (SlF.one ⟨_, _, _, rfl⟩) ?_
   have JD5 := Keep.mk C3.out.1
   have hyg : Keep (y ≠ g) := ⟨fun e => by have h1 := JD.out.own.lt g rfl; have := L1.out; omega⟩
   have H5 : Keep (Blk (w4.setRow g (cur.toList.take (t * 3) ++ (fA (⟨xn, .slice xa m m, (m : Int)⟩ : FC)).toList ++ cur.toList.drop (t * 3 + (fA (⟨xn, .slice xa m m, (m : Int)⟩ : FC)).size)).toArray) y 49 (fA (⟨xn, .slice xa m m, (m : Int)⟩ : FC))) := ⟨C3.out.2.blk H4.out fun e => hyg.out e⟩
   have G5 : Keep (Grown w (w4.setRow g (cur.toList.take (t * 3) ++ (fA (⟨xn, .slice xa m m, (m : Int)⟩ : FC)).toList ++ cur.toList.drop (t * 3 + (fA (⟨xn, .slice xa m m, (m : Int)⟩ : FC)).size)).toArray) (RdW x (.slice (some ⟨g, 0, none⟩) cs.length vfc) va)) := ⟨(JG.out.trans (Grown.below B4.out)).next C3.out.2 fun k _ e => .inr (.inl (by rw [e]; rfl))⟩
   clear C1 C2 C3 JD4 H4 B4
   generalize (w4.setRow g (cur.toList.take (t * 3) ++ (fA (⟨xn, .slice xa m m, (m : Int)⟩ : FC)).toList ++ cur.toList.drop (t * 3 + (fA (⟨xn, .slice xa m m, (m : Int)⟩ : FC)).size)).toArray) = w5 at *
   refine hK _ _ ⟨JD5.out.blk.c 0 rfl, blk_range H5.out⟩ fun hH5 => ?_
   clear hK
   simp only [Act.put, pqA, pqB, pqC]
   refine wpAnyH_done (by kernel_rfl) ?_ _
   refine hK5 _ _ ?_
   refine rgn ?_
   refine VlS (.int .i64 (t : Int)) ?_
   refine VlS (.int .i64 ((t : Int) + 1)) ?_
   refine VlS (.int .i64 ((t : Int) + 1)) ?_
   refine WL.nil ?_
   refine ⟨⟨t + 1, ct.set t (⟨xn, .slice xa m m, (m : Int)⟩ : FC), _, rfl, by omega, by rw [List.length_set]; exact JC.out, JD5.out, ?_, G5.out, ?_⟩, ?_⟩
   ·have hcr : f.crash (kpN kp t f) = ({ nm := f.nm, bs := f.bs.take m, sf := (m : Int) } : PF) := by
     have e : f.sf + kpN kp t f = (m : Int) := by rw [← HXs.out, ← HN.out]; exact hm.out.symm
     unfold PF.crash
     rw [e, Int.toNat_natCast]
    rw [crT_step kp t D.fs f HFd.out, hcr, JE.out]
   ·intro k hk
    rcases hk with hk | ⟨j, z, hj, hk⟩
    ·exact .inl (.inl hk)
    ·rw [List.getElem?_set] at hj
     split at hj
     ·split at hj
      ·injection hj with hj
       subst hj
       exact JS.out k (.inr ⟨t, _, HX.out, by rw [own_sl xa m m f.bs.length xc] at hk; exact hk⟩)
      ·cases hj
     ·exact JS.out k (.inr ⟨j, z, hj, hk⟩)
   ·simp only [intOf]; show cs.length - ((t : Int) + 1).toNat < cs.length - ((t : Int)).toNat; omega
  refine rgn ?_
  refine VlS (.int .i64 (t : Int)) ?_
  refine VlS (.slice ka kp.length kc) ?_
  refine VlS (.int .i64 (kp.length : Int)) ?_
  by_cases h5_3 : (t : Int) < (kp.length : Int)
  ·skip
   refine VbT ?_
   refine WL.nil (hK9 _ _ ?_)
   refine wp_cond_true rfl ?_
   refine wp_seq_k fun K12 hK12 => ?_
   have hkn : kp ≠ [] := fun e => by rw [e] at h5_3; simp at h5_3; omega
   obtain ⟨q, ko, hq, ck⟩ := ((HKp.out.grown JG.out fun k hk h => HKn.out hkn k hk h).below B1.out).at (t := t) (by omega)
   clear hkn
   subst hq
   obtain ⟨kv, hkv⟩ : ∃ z, Keep (z = kp.getD t 0) := ⟨_, ⟨rfl⟩⟩
   rw [← hkv.out] at ck
   obtain ⟨mm, hmm⟩ : ∃ z, Keep (z = (f.bs.length : Int) - xs) := ⟨_, ⟨rfl⟩⟩
   obtain ⟨kk, hkk⟩ : ∃ z, Keep (z = (f.bs.length : Int) - xs + 1) := ⟨_, ⟨rfl⟩⟩
   have hw1 : IntKind.i64.wrap ((f.bs.length : Int) - xs) = mm := by have := hmm.out; have := HB.out; rw [IntKind.wrap_i64]; omega
   have hw2 : IntKind.i64.wrap (mm + 1) = kk := by have := hmm.out; have := hkk.out; have := HB.out; rw [IntKind.wrap_i64]; omega
   have hkp : Keep (0 < kk ∧ kk ≤ 70368744177665) := ⟨by have := hkk.out; have := HB.out; omega⟩
   have hk0 : ¬ kk = 0 := by have := hkp.out; omega
   obtain ⟨r2, hr2⟩ : ∃ z, Keep (z = Int.tmod kv kk + kk) := ⟨_, ⟨rfl⟩⟩
   have hw3 : IntKind.i64.wrap (Int.tmod kv kk + kk) = r2 := by have := hr2.out; have := hkp.out; have := tm_bnd kv kk (by omega); rw [IntKind.wrap_i64]; omega
   obtain ⟨nn, hnn⟩ : ∃ z, Keep (z = Int.tmod r2 kk) := ⟨_, ⟨rfl⟩⟩
   have hw4 : Int.tmod r2 kk = nn := hnn.out.symm
   have HN : Keep (nn = kpN kp t f) := ⟨by unfold kpN; rw [if_pos (by omega), ← HXs.out, ← hkk.out, ← hkv.out, ← hr2.out, hnn.out]⟩
   clear hmm hkk hr2 hnn hkv
   refine rgn ?_
   refine VlS (.pointer (some ⟨y, 1, none⟩)) ?_
   refine VlS (.slice xa f.bs.length xc) ?_
   refine VlS (.int .i64 (f.bs.length : Int)) ?_
   refine VlS (.pointer (some ⟨y, 2, none⟩)) ?_
   refine VlS (.int .i64 xs) ?_
   refine VlS (.int .i64 mm) ?_
   refine VlS (.int .i64 kk) ?_
   refine VlS (.int .i64 kk) ?_
   refine WL.nil (hK12 _ _ ?_)
   refine rgn ?_
   refine VlS (.slice (some ⟨q, ko, none⟩) kp.length kc) ?_
   refine VlS (.int .i64 (t : Int)) ?_
   refine VlS (.pointer (some ⟨q, ko + t, none⟩)) ?_
   refine VlS (.int .i64 kv) ?_
   refine VlS (.int .i64 kk) ?_
   refine VlS (.int .i64 (Int.tmod kv kk)) ?_
   refine VlS (.int .i64 kk) ?_
   refine VlS (.int .i64 r2) ?_
   refine VlS (.int .i64 kk) ?_
   refine VlS (.int .i64 nn) ?_
   refine VlS (.int .i64 nn) ?_
   refine WL.nil ?_
   exact rest8 _ _ _ _ _ _ _ _ _ _ _ _ _ _ _ _ _ _ _ _ _ _ nn HN.out
  ·skip
   refine VbF ?_
   refine WL.nil (hK9 _ _ ?_)
   refine wp_cond_false rfl ?_
   refine wp_skip ?_
   exact rest8 _ _ _ _ _ _ _ _ _ _ _ _ _ _ _ _ _ _ _ _ _ _ 0 (by unfold kpN; rw [if_neg (by omega)])
 ·have hlt' : ¬ (t : Int) < (cs.length : Int) := by omega
  have hte : Keep (t = D.fs.length) := ⟨by have := HD.out.rcs.len; omega⟩
  have hcl : Keep (ct.length = cs.length) := JC
  have p0 := JD.out.blk.c 0 (by rfl : (rdA (.slice vfa cs.length vfc) va Dt)[0]? = some (.slice vfa cs.length vfc))
  refine wp_seq_k fun K13 hK13 => ?_
  refine wp_seq_k fun K14 hK14 => rgn ?_
  refine VlS (.int .i64 (t : Int)) ?_
  refine VlS (.pointer (some ⟨x, 0, none⟩)) ?_
  refine VlS (.pointer (some ⟨x, 0, none⟩)) ?_
  refine VlS (.pointer (some ⟨x, 0, none⟩)) ?_
  refine VlS (.slice vfa cs.length vfc) ?_
  refine VlS (.int .i64 (cs.length : Int)) ?_
  refine VbF ?_
  refine WL.nil (hK14 _ _ ?_)
  refine wp_cond_false rfl ?_
  refine wp_exit ?_
  refine hK1 _ _ ?_
  refine wp_seq_k fun K15 hK15 => rgn ?_
  refine VlS (.pointer (some ⟨x, 0, none⟩)) ?_
  refine VlS (.pointer (some ⟨x, 0, none⟩)) ?_
  refine VlS (.pointer (some ⟨x, 3, none⟩)) ?_
  have cl := JD.out.blk.c 3 (by rfl : (rdA (.slice vfa cs.length vfc) va Dt)[3]? = some (.bool Dt.out))
  have f_o := JD.out.blk.frozen 3
  refine WL.cell (by kernel_rfl) (wr.setCell ⟨x, 3, none⟩ (.bool false)) (by go_simp) ?_
  have JD2 : Keep (RDAt (wr.setCell ⟨x, 3, none⟩ (.bool false)) x (.slice vfa cs.length vfc) va ct ms { Dt with out := false }) := ⟨JD.out.put rfl rfl rfl⟩
  have G2 : Keep (Grown w (wr.setCell ⟨x, 3, none⟩ (.bool false)) (RdW x (.slice vfa cs.length vfc) va)) := ⟨JG.out.trans (Grown.setCell wr x 3 _ fun _ => .inl rfl)⟩
  clear cl f_o p0
  generalize wr.setCell ⟨x, 3, none⟩ (.bool false) = w2 at *
  simp only [Act.put]
  refine WL.nil (hK15 _ _ ?_)
  refine rgn ?_
  refine VlS (.pointer (some ⟨x, 0, none⟩)) ?_
  refine VlS (.pointer (some ⟨x, 0, none⟩)) ?_
  refine VlS (.pointer (some ⟨x, 2, none⟩)) ?_
  have cl := JD2.out.blk.c 2 (by rfl : (rdA (.slice vfa cs.length vfc) va { Dt with out := false })[2]? = some (.int .i64 Dt.fuse))
  have f_o := JD2.out.blk.frozen 2
  refine WL.cell (by kernel_rfl) (w2.setCell ⟨x, 2, none⟩ (.int .i64 (-1))) (by go_simp) ?_
  have JD3 : Keep (RDAt (w2.setCell ⟨x, 2, none⟩ (.int .i64 (-1))) x (.slice vfa cs.length vfc) va ct ms { Dt with out := false, fuse := -1 }) := ⟨JD2.out.put rfl rfl rfl⟩
  have G3 : Keep (Grown w (w2.setCell ⟨x, 2, none⟩ (.int .i64 (-1))) (RdW x (.slice vfa cs.length vfc) va)) := ⟨G2.out.trans (Grown.setCell w2 x 2 _ fun _ => .inl rfl)⟩
  clear cl f_o
  generalize w2.setCell ⟨x, 2, none⟩ (.int .i64 (-1)) = w3 at *
  simp only [Act.put]
  refine WL.nil ?_
  go_end0
  refine ⟨rfl, ct, ?_, G3.out, JS.out⟩
  have h := (JD3.out.used (usd (crT kp D.fs.length D.fs)))
  rw [JE.out, hte.out] at h
  exact h
end Go.Proofs.YteijjfeainamdaaGreatDoor
namespace Go.Proofs.YteijjfeainamdaaGreatDoor
open Go.RowKit

def marks (t : Nat) : List Int := (List.range t).map fun i : Nat => 192 + (i : Int)
theorem marks_len (t : Nat) : (marks t).length = t := by simp [marks]
theorem marks_next (t : Nat) : marks (t + 1) = marks t ++ [192 + (t : Int)] := by simp [marks, List.range_succ]
def WideAt (w : World) (v : Value) (l : List Int) : Prop :=
 ∃ g cap, v = .slice (some ⟨g, 0, none⟩) l.length cap ∧ Own w (.slice (some ⟨g, 0, none⟩) (l ++ marks 7).length cap) (l ++ marks 7)
theorem WideAt.cap {w : World} {v : Value} {l : List Int} (h : WideAt w v l) : ∃ g cap, v = .slice (some ⟨g, 0, none⟩) l.length cap ∧ l.length + 7 ≤ cap ∧ cap ≤ maxLen ∧ (∀ i, i < l.length + 7 → w.cell? ⟨g, i, none⟩ = some (.int .u8 ((l ++ marks 7).getD i 0))) ∧ ∃ cur, Blk w g 5 cur ∧ cur.size = cap := by
 obtain ⟨g, cap, rfl, h2⟩ := h
 rcases h2.form with ⟨e, _⟩ | ⟨g', cap', cur, e, hb, h3, h4, h5, h6⟩
 ·cases e
 ·injection e with e1 e2 e3
  injection e1 with e1
  injection e1 with e1
  subst e1 e3
  refine ⟨g, cap, rfl, by rw [List.length_append, marks_len] at h3; exact h3, h4, fun i hi => ?_, cur, hb, h5⟩
  rw [World.ownsRow.cellAt h2 i (by rw [List.length_append, marks_len]; omega), bv_get _ _ (by rw [List.length_append, marks_len]; omega)]
theorem WideAt.row {w : World} {v : Value} {l : List Int} (h : WideAt w v l) : RowAt w v l := by
 obtain ⟨g, cap, rfl, h1, _, h2, _⟩ := h.cap
 refine .inr (.inr ⟨g, 0, cap, rfl, by omega, fun i hi => ?_⟩)
 rw [Nat.zero_add, h2 i (by omega)]
 simp [List.getD_eq_getElem?_getD, List.getElem?_append, hi]
theorem WideAt.grown {w w' : World} {v : Value} {l : List Int} {S : Nat → Prop} (h : WideAt w v l) (hg : Grown w w' S) (hs : ∀ k, v.ownBlock = some k → ¬ S k) : WideAt w' v l := by
 obtain ⟨g, cap, rfl, h2⟩ := h
 exact ⟨g, cap, rfl, h2.grown hg fun k hk => hs k hk⟩

set_option maxRecDepth 8000 in
set_option maxHeartbeats 1000000 in
theorem wide_any (v : Value) (l : List Int) (w : World) (hr : RowAt w v l) (hb : l.length + 7 ≤ 140737488355328) :
  Calls Tryz.prog 27 #[v] w fun e w' => ∃ v', e = .returned v' ∧ WideAt w' v' l ∧ (∃ k, v'.ownBlock = some k ∧ w.heap.size ≤ k) ∧ Below w.heap.size w w' := by
 have HR := Keep.mk (hr.below (below_new w (.cells (bytesA (l.length + 7) fun _ => 0) 5)))
 have HB := Keep.mk hb
 obtain ⟨xa, xc, rfl⟩ := row_form hr
 have h7 : ((l.length : Int) + 7) = ((l.length + 7 : Nat) : Int) := by omega
 have hsm : (l.length : Int) ≤ 9223372036854775800 := by omega
 have hO0 : Own (w.alloc (.cells (bytesA (l.length + 7) fun _ => 0) 5)) (.slice (some ⟨w.heap.size, 0, none⟩) 0 (l.length + 7)) [] :=
  Own.mk (Blk.new w 5 _) (by simp) (by unfold maxLen; omega) (by rw [bytesA_size]) (by simp [bv])
 have HO0 := Keep.mk hO0
 have hmk := run_makeB 0 (l.length + 7) (by omega) (by omega) w
 have hmk2 : (Instr.makeSlice 40 (.int .i64 0) (.int .i64 ((l.length : Int) + 7))).run Tryz.prog w = .ok (.slice (some ⟨w.heap.size, 0, none⟩) 0 (l.length + 7)) (w.alloc (.cells (bytesA (l.length + 7) fun _ => 0) 5)) := by rw [h7]; exact hmk
 have HBe := Keep.mk (below_new w (.cells (bytesA (l.length + 7) fun _ => 0) 5))
 clear hr hb hmk hO0 h7
 go_enter Tryz.func27, Tryz.ntmps27
 generalize w.alloc (.cells (bytesA (l.length + 7) fun _ => 0) 5) = w1 at *
 go_wp2_with (first | (at_builtin; refine wpList_app rfl (.tmp 9) (.tmp 10) rfl (.slice (some ⟨w.heap.size, 0, none⟩) 0 (l.length + 7)) _ [] l rfl rfl HO0.out HR.out (by have := HB.out; simp; omega) ?_; intro v' w' hp; refine Hid.out ?_))
 refine hid_in ?_
 have hfree := grow_free (v := .slice (some ⟨w.heap.size, 0, none⟩) 0 (l.length + 7)) (B := w.heap.size) ⟨w.heap.size, rfl, Nat.le_refl _⟩ HBe.out.size hp
 have HP : Keep (Own w' v' (l ++ marks 0) ∧ (∃ k, v'.ownBlock = some k ∧ w.heap.size ≤ k) ∧ Below w.heap.size w w') := ⟨by simpa [marks] using hp.1, hfree.1, HBe.out.trans hfree.2⟩
 clear hp hfree hmk2
 go_wp2
 go_loopw [3, 4] (fun b i wr => ∃ (t : Nat), t ≤ 7 ∧ i = .int .i64 t ∧ Own wr b (l ++ marks t) ∧ (∃ k, b.ownBlock = some k ∧ w.heap.size ≤ k) ∧ Below w.heap.size w wr) (fun _ i _ => 7 - (intOf i).toNat)
 case atStart => exact ⟨0, by omega, rfl, HP.out.1, HP.out.2.1, HP.out.2.2⟩
 case round =>
  rename_i b i wr
  obtain ⟨t, ht, rfl, hO, hk, hBl⟩ := hrel
  by_cases hlt : t < 7
  ·have hlt' : (t : Int) < 7 := by omega
   have HO1 := Keep.mk (hO.box (.cells #[.int .u8 (192 + (t : Int))] 5))
   have hlen : Keep ((l ++ marks t).length + [192 + (t : Int)].length ≤ 140737488355328) := ⟨by have := HB.out; simp [marks_len]; omega⟩
   have HK := Keep.mk hk
   have HBl := Keep.mk hBl
   clear hO hk hBl HP
   go_wp2_with (first | (at_builtin; refine wpList_app rfl (.tmp 16) (.tmp 20) rfl _ (.slice (some ⟨wr.heap.size, 0, none⟩) 1 1) (l ++ marks t) [192 + (t : Int)] rfl rfl HO1.out (row_one wr _) hlen.out ?_; intro v2 w2 hp; refine Hid.out ?_))
   refine hid_in ?_
   have hbox := below_new wr (.cells #[.int .u8 (192 + (t : Int))] 5)
   have hfree := grow_free HK.out (Nat.le_trans HBl.out.size hbox.size) hp
   have HN : Keep (Own w2 v2 (l ++ marks (t + 1)) ∧ (∃ k, v2.ownBlock = some k ∧ w.heap.size ≤ k) ∧ Below w.heap.size w w2) :=
    ⟨by rw [marks_next, ← List.append_assoc]; exact hp.1, hfree.1, (HBl.out.trans (hbox.mono HBl.out.size)).trans hfree.2⟩
   clear hp hbox hfree
   go_wp2
   go_roundw
   case rel => exact ⟨t + 1, by omega, by go_num, HN.out.1, HN.out.2.1, HN.out.2.2⟩
   case measure => simp only [intOf]; omega
  ·obtain rfl : t = 7 := by omega
   rcases hO.form with ⟨_, e⟩ | ⟨g, cap, cur, rfl, hb, h3, h4, h5, h6⟩
   ·have := congrArg List.length e; simp [marks_len] at this
   ·have hcap : l.length ≤ cap := by rw [List.length_append, marks_len] at h3; omega
    have hcap' : (l.length : Int) ≤ (cap : Int) := by omega
    have HO1 := Keep.mk hO
    have HBl := Keep.mk hBl
    have HK := Keep.mk hk
    clear hO hBl hb h3 h4 h5 h6 hk HP
    go_wp2
    go_ret
    exact ⟨_, rfl, ⟨g, cap, rfl, HO1.out⟩, HK.out, HBl.out⟩

set_option maxRecDepth 8000 in
set_option maxHeartbeats 1000000 in
theorem kept_any (v vb : Value) (l : List Int) (w : World) (hv : WideAt w v l) (hr : RowAt w vb l) (hb : l.length + 7 ≤ 140737488355328) :
  Calls Tryz.prog 28 #[v, vb] w fun e w' => e = .returned (.bool true) ∧ w' = w := by
 have hc1 := conv_row v l w hv.row
 have hc2 := conv_row vb l w hr
 obtain ⟨g, cap, rfl, hcap, hm, hcell, _⟩ := hv.cap
 obtain ⟨xa, xc, rfl⟩ := row_form hr
 have HC := Keep.mk hcell
 have hcap' : (l.length : Int) + 7 ≤ (cap : Int) := by omega
 have h7 : ((l.length : Int) + 7).toNat = l.length + 7 := by omega
 have hsm : (l.length : Int) ≤ 9223372036854775000 := by omega
 obtain ⟨s, hs⟩ : ∃ s, Keep (s = strOfNums l) := ⟨_, ⟨rfl⟩⟩
 rw [← hs.out] at hc1 hc2
 clear hv hr hb hcell hm
 go_enter Tryz.func28, Tryz.ntmps28
 go_wp2
 go_loop [6] (fun i => ∃ t : Nat, t ≤ 7 ∧ i = .int .i64 t) (fun i => 7 - (intOf i).toNat)
 case atStart => exact ⟨0, by omega, rfl⟩
 case round =>
  obtain ⟨t, ht, rfl⟩ := hrel
  by_cases hlt : t < 7
  ·have hlt' : (t : Int) < 7 := by omega
   have cc : w.cell? ⟨g, l.length + t, none⟩ = some (.int .u8 (192 + (t : Int))) := by
    rw [HC.out _ (by omega)]
    simp [List.getD_eq_getElem?_getD, marks, hlt]
   go_wp2
   refine ⟨⟨t + 1, by omega, by go_num⟩, by simp only [intOf]; omega⟩
  ·obtain rfl : t = 7 := by omega
   go_wp2
   go_ret
   exact ⟨rfl, rfl⟩

def FullAt (w : World) (v : Value) (m : Int) : Prop := ∃ n, RowAt w v (List.replicate n m) ∧ n ≤ 140737488355328
set_option maxRecDepth 8000 in
set_option maxHeartbeats 1000000 in
theorem full_any (v : Value) (m : Int) (w : World) (h : FullAt w v m) :
  Calls Tryz.prog 59 #[v, .int .u8 m] w fun e w' => e = .returned (.bool true) ∧ w' = w := by
 obtain ⟨n, hr, hb⟩ := h
 have hf := row_form hr
 rw [List.length_replicate] at hf
 obtain ⟨xa, xc, rfl⟩ := hf
 have HR := Keep.mk hr
 have hsm : (n : Int) ≤ 9223372036854775000 := by omega
 clear hr hb
 go_enter Tryz.func59, Tryz.ntmps59
 go_wp2
 go_loop [5] (fun i => ∃ t : Nat, t ≤ n ∧ i = .int .i64 t) (fun i => n - (intOf i).toNat)
 case atStart => exact ⟨0, by omega, rfl⟩
 case round =>
  obtain ⟨t, ht, rfl⟩ := hrel
  by_cases hlt : t < n
  ·have hlt' : (t : Int) < (n : Int) := by omega
   rcases HR.out with ⟨e1, e2⟩ | ⟨_, _, e1, e2⟩ | ⟨b, off, cap, e1, hcap, hc⟩
   ·have := congrArg List.length e2; simp at this; omega
   ·have := congrArg List.length e2; simp at this; omega
   ·injection e1 with e1 e2 e3
    subst e1
    have cc : w.cell? ⟨b, off + t, none⟩ = some (.int .u8 m) := by
     rw [hc t (by simpa using hlt)]
     simp [List.getD_eq_getElem?_getD, hlt]
    clear hc e2 e3
    go_wp2
    refine ⟨⟨t + 1, by omega, by go_num⟩, by simp only [intOf]; omega⟩
  ·obtain rfl : t = n := by omega
   have hlt' : ¬ ((t : Int) < (t : Int)) := by omega
   go_wp2
   go_ret
   exact ⟨rfl, rfl⟩
theorem FullAt.grown {w w' : World} {v : Value} {m : Int} {S : Nat → Prop} (h : FullAt w v m) (hg : Grown w w' S) (hs : ∀ b, v.ownBlock = some b → ¬ S b) : FullAt w' v m := by
 obtain ⟨n, h1, h2⟩ := h
 exact ⟨n, h1.grown hg fun b hb _ => hs b hb, h2⟩

def mark (i : Nat) : Int := 1 + ((i % 250 : Nat) : Int)
structure BkL (w : World) (lv gv : Value) (N : Nat) (A B : Nat → Value) (F : Nat → Prop) : Prop where
 l : OwnV w lv ((List.range N).map A)
 g : OwnV w gv ((List.range N).map B)
 fa : ∀ i, i < N → FullAt w (A i) (mark i)
 fb : ∀ i, i < N → FullAt w (B i) (mark i)
 F1 : ∀ k, lv.ownBlock = some k → F k
 F2 : ∀ k, gv.ownBlock = some k → F k
 F3 : ∀ i, i < N → ∀ k, (A i).ownBlock = some k → F k
 F4 : ∀ i, i < N → ∀ k, (B i).ownBlock = some k → F k
 ne : ∀ k, lv.ownBlock = some k → gv.ownBlock ≠ some k
 ta : ∀ i, i < N → ∀ k, (A i).ownBlock = some k → Typ w k 5
 tb : ∀ i, i < N → ∀ k, (B i).ownBlock = some k → Typ w k 5
theorem BkL.grown {w w' : World} {lv gv : Value} {N : Nat} {A B : Nat → Value} {F S : Nat → Prop} (h : BkL w lv gv N A B F) (hg : Grown w w' S) (hs : ∀ k, F k → ¬ S k) : BkL w' lv gv N A B F where
 l := h.l.grown hg fun k hk => hs k (h.F1 k hk)
 g := h.g.grown hg fun k hk => hs k (h.F2 k hk)
 fa i hi := (h.fa i hi).grown hg fun k hk => hs k (h.F3 i hi k hk)
 fb i hi := (h.fb i hi).grown hg fun k hk => hs k (h.F4 i hi k hk)
 F1 := h.F1
 F2 := h.F2
 F3 := h.F3
 F4 := h.F4
 ne := h.ne
 ta i hi k hk := hg.typ (h.ta i hi k hk) (hs k (h.F3 i hi k hk))
 tb i hi k hk := hg.typ (h.tb i hi k hk) (hs k (h.F4 i hi k hk))
theorem BkL.nil (w : World) (A B : Nat → Value) (F : Nat → Prop) : BkL w (.slice none 0 0) (.slice none 0 0) 0 A B F where
 l := ownV_nil w
 g := ownV_nil w
 fa i hi := by omega
 fb i hi := by omega
 F1 k hk := by simp [Value.ownBlock] at hk
 F2 k hk := by simp [Value.ownBlock] at hk
 F3 i hi := by omega
 F4 i hi := by omega
 ne k hk := by simp [Value.ownBlock] at hk
 ta i hi := by omega
 tb i hi := by omega

structure Box (off : Nat) (kx : Value → Value → Int → Array Value) : Prop where
 g0 : ∀ a b n, (kx a b n)[off]? = some a
 g1 : ∀ a b n, (kx a b n)[off + 1]? = some b
 g2 : ∀ a b n, (kx a b n)[off + 2]? = some (.int .i64 n)
 g3 : ∀ a b n, (kx a b n)[off + 3]? = some (.bool false)
 s0 : ∀ a b n x, (kx a b n).setIfInBounds off x = kx x b n
 s1 : ∀ a b n x, (kx a b n).setIfInBounds (off + 1) x = kx a x n
 s2 : ∀ a b n x, (kx a b n).setIfInBounds (off + 2) (.int .i64 x) = kx a b x
 s3 : ∀ a b n, (kx a b n).setIfInBounds (off + 3) (.bool false) = kx a b n

set_option maxRecDepth 8000 in
set_option maxHeartbeats 1000000 in
theorem stays_any (kb off T : Nat) (kx : Value → Value → Int → Array Value) (hx : Box off kx) (lv gv : Value) (N : Nat) (A B : Nat → Value) (n : Int) (F : Nat → Prop) (w : World) (hk : Blk w kb T (kx lv gv n)) (h : BkL w lv gv N A B F) (hN : N ≤ 20000) :
  Calls Tryz.prog 49 #[.pointer (some ⟨kb, off, none⟩)] w fun e w' => e = .returned (.bool true) ∧ w' = w := by
 have HL := Keep.mk h
 obtain ⟨la, lc, e1⟩ := h.l.sl
 obtain ⟨ga, gc, e2⟩ := h.g.sl
 simp only [List.length_map, List.length_range] at e1 e2
 subst e1 e2
 have c0 : w.cell? ⟨kb, off, none⟩ = some (.slice la N lc) := by rw [hk.cell, hx.g0]
 have c1 : w.cell? ⟨kb, off + 1, none⟩ = some (.slice ga N gc) := by rw [hk.cell, hx.g1]
 have c3 : w.cell? ⟨kb, off + 3, none⟩ = some (.bool false) := by rw [hk.cell, hx.g3]
 have hN' : (N : Int) ≤ 20000 := by omega
 clear h hk hN
 go_enter Tryz.func49, Tryz.ntmps49
 go_wp2
 go_loop [3] (fun i => ∃ t : Nat, t ≤ N ∧ i = .int .i64 t) (fun i => N - (intOf i).toNat)
 case atStart => exact ⟨0, by omega, rfl⟩
 case round =>
  obtain ⟨t, ht, rfl⟩ := hrel
  by_cases hlt : t < N
  ·have hlt' : (t : Int) < (N : Int) := by omega
   obtain ⟨lb, lc', e1, d1⟩ := HL.out.l.at t (by simpa using hlt)
   obtain ⟨gb, gc', e2, d2⟩ := HL.out.g.at t (by simpa using hlt)
   simp only [List.length_map, List.length_range] at e1 e2
   injection e1 with e1 _ _
   injection e2 with e2 _ _
   subst e1 e2
   have d1' : w.cell? ⟨lb, t, none⟩ = some (A t) := by rw [d1]; simp [hlt]
   have d2' : w.cell? ⟨gb, t, none⟩ = some (B t) := by rw [d2]; simp [hlt]
   have FA := Keep.mk (HL.out.fa t hlt)
   have FB := Keep.mk (HL.out.fb t hlt)
   have hm : 1 + (t : Int) % 250 = mark t := by unfold mark; omega
   have hm1 : 0 ≤ mark t := by unfold mark; omega
   have hm2 : mark t < 256 := by unfold mark; omega
   obtain ⟨mm, hmm⟩ : ∃ mm, Keep (mm = mark t) := ⟨_, ⟨rfl⟩⟩
   rw [← hmm.out] at FA FB hm hm1 hm2
   clear d1 d2
   go_wp2_with fail
   refine (full_any (A t) mm _ FA.out).mono ?_
   rintro e w' ⟨rfl, rfl⟩
   go_wp2_with fail
   refine (full_any (B t) mm _ FB.out).mono ?_
   rintro e w' ⟨rfl, rfl⟩
   go_wp2
   refine ⟨⟨t + 1, by omega, by go_num⟩, by simp only [intOf]; omega⟩
  ·obtain rfl : t = N := by omega
   have hlt' : ¬ ((t : Int) < (t : Int)) := by omega
   go_wp2
   go_ret
   exact ⟨rfl, rfl⟩
end Go.Proofs.YteijjfeainamdaaGreatDoor
