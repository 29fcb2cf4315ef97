import Derived.Test.YteijjfeainamdaaGreatDoorA03
import Derived.Deep.RegionHeld3
import Derived.Lib.Small
namespace Go.Proofs.YteijjfeainamdaaGreatDoor
open Go.RowKit
set_option linter.unusedSimpArgs false
set_option linter.unusedVariables false

theorem Tryz.in32 (w : World) (vs : Array Value) : (callFunc 32 vs).run Tryz.prog w = .ok (.enter 32 vs) w := by kernel_rfl
theorem Tryz.in34 (w : World) (vs : Array Value) : (callFunc 34 vs).run Tryz.prog w = .ok (.enter 34 vs) w := by kernel_rfl
theorem Tryz.in36 (w : World) (vs : Array Value) : (callFunc 36 vs).run Tryz.prog w = .ok (.enter 36 vs) w := by kernel_rfl
theorem Tryz.in44 (w : World) (vs : Array Value) : (callFunc 44 vs).run Tryz.prog w = .ok (.enter 44 vs) w := by kernel_rfl
set_option maxRecDepth 8000 in
theorem app_out (d p : Nat) (n : ByteArray) (v : Value) (vf : Value) (cs : List FC) (D : DV) (w : World) (hDk : Blk w d 67 #[ptr p]) (hD : DskAt w p vf cs D) (hO : D.out = true) : Calls Tryz.prog 15 #[ptr d, .string n, v] w fun e w' => e = .returned (.int .i64 7) ∧ w' = w := by
 obtain ⟨va, vc, rfl⟩ := hD.own.sl
 have HDk := Keep.mk hDk
 have HD := Keep.mk hD
 have HO := Keep.mk hO
 clear hDk hD hO
 go_enter Tryz.func15, Tryz.ntmps15
 have cd := HDk.out.c 0 (by rfl : (#[ptr p] : Array Value)[0]? = some (ptr p))
 have c4 : w.cell? ⟨p, 4, none⟩ = some (.bool true) := by have h := HD.out.blk.c 4 (by rfl : (stA (.slice va cs.length vc) D)[4]? = some (.bool D.out)); rw [HO.out] at h; exact h
 refine wp_seq_k fun K1 hK1 => rgn ?_
 refine VlS (.int .i64 0) ?_
 refine WL.nil (hK1 _ _ ?_)
 refine wp_seq_k fun K2 hK2 => rgn ?_
 refine VlS (.pointer (some ⟨d, 0, none⟩)) ?_
 refine VlS (.pointer (some ⟨d, 0, none⟩)) ?_
 refine VlS (.pointer (some ⟨d, 0, none⟩)) ?_
 refine VlS (.pointer (some ⟨p, 0, none⟩)) ?_
 refine VlS (.pointer (some ⟨p, 0, none⟩)) ?_
 refine WL.nil (hK2 _ _ ?_)
 refine wp_seq_k fun K3 hK3 => ?_
 refine wp_seq_k fun K4 hK4 => rgn ?_
 refine VlS (.pointer (some ⟨p, 0, none⟩)) ?_
 refine VlS (.pointer (some ⟨p, 0, none⟩)) ?_
 refine VlS (.pointer (some ⟨p, 4, none⟩)) ?_
 refine VbT ?_
 refine WL.nil (hK4 _ _ ?_)
 refine wp_cond_true rfl ?_
 refine wp_seq_k fun K5 hK5 => rgn ?_
 refine VlS (.int .i64 7) ?_
 refine WL.nil (hK5 _ _ ?_)
 refine wp_ret ?_
 go_ret
 exact ⟨rfl, rfl⟩
set_option maxRecDepth 8000 in
theorem syn_out (d p : Nat) (n : ByteArray) (vf : Value) (cs : List FC) (D : DV) (w : World) (hDk : Blk w d 67 #[ptr p]) (hD : DskAt w p vf cs D) (hO : D.out = true) : Calls Tryz.prog 30 #[ptr d, .string n] w fun e w' => e = .returned (.int .i64 7) ∧ w' = w := by
 obtain ⟨va, vc, rfl⟩ := hD.own.sl
 have HDk := Keep.mk hDk
 have HD := Keep.mk hD
 have HO := Keep.mk hO
 clear hDk hD hO
 go_enter Tryz.func30, Tryz.ntmps30
 have cd := HDk.out.c 0 (by rfl : (#[ptr p] : Array Value)[0]? = some (ptr p))
 have c4 : w.cell? ⟨p, 4, none⟩ = some (.bool true) := by have h := HD.out.blk.c 4 (by rfl : (stA (.slice va cs.length vc) D)[4]? = some (.bool D.out)); rw [HO.out] at h; exact h
 refine wp_seq_k fun K1 hK1 => rgn ?_
 refine VlS (.int .i64 0) ?_
 refine WL.nil (hK1 _ _ ?_)
 refine wp_seq_k fun K2 hK2 => rgn ?_
 refine VlS (.pointer (some ⟨d, 0, none⟩)) ?_
 refine VlS (.pointer (some ⟨d, 0, none⟩)) ?_
 refine VlS (.pointer (some ⟨d, 0, none⟩)) ?_
 refine VlS (.pointer (some ⟨p, 0, none⟩)) ?_
 refine VlS (.pointer (some ⟨p, 0, none⟩)) ?_
 refine WL.nil (hK2 _ _ ?_)
 refine wp_seq_k fun K3 hK3 => ?_
 refine wp_seq_k fun K4 hK4 => rgn ?_
 refine VlS (.pointer (some ⟨p, 0, none⟩)) ?_
 refine VlS (.pointer (some ⟨p, 0, none⟩)) ?_
 refine VlS (.pointer (some ⟨p, 4, none⟩)) ?_
 refine VbT ?_
 refine WL.nil (hK4 _ _ ?_)
 refine wp_cond_true rfl ?_
 refine wp_seq_k fun K5 hK5 => rgn ?_
 refine VlS (.int .i64 7) ?_
 refine WL.nil (hK5 _ _ ?_)
 refine wp_ret ?_
 go_ret
 exact ⟨rfl, rfl⟩
set_option maxRecDepth 8000 in
theorem cut_out (d p : Nat) (n : ByteArray) (m : Int) (vf : Value) (cs : List FC) (D : DV) (w : World) (hDk : Blk w d 67 #[ptr p]) (hD : DskAt w p vf cs D) (hO : D.out = true) : Calls Tryz.prog 32 #[ptr d, .string n, .int .i64 m] w fun e w' => e = .returned (.int .i64 7) ∧ w' = w := by
 obtain ⟨va, vc, rfl⟩ := hD.own.sl
 have HDk := Keep.mk hDk
 have HD := Keep.mk hD
 have HO := Keep.mk hO
 clear hDk hD hO
 go_enter Tryz.func32, Tryz.ntmps32
 have cd := HDk.out.c 0 (by rfl : (#[ptr p] : Array Value)[0]? = some (ptr p))
 have c4 : w.cell? ⟨p, 4, none⟩ = some (.bool true) := by have h := HD.out.blk.c 4 (by rfl : (stA (.slice va cs.length vc) D)[4]? = some (.bool D.out)); rw [HO.out] at h; exact h
 refine wp_seq_k fun K1 hK1 => rgn ?_
 refine VlS (.int .i64 0) ?_
 refine WL.nil (hK1 _ _ ?_)
 refine wp_seq_k fun K2 hK2 => rgn ?_
 refine VlS (.pointer (some ⟨d, 0, none⟩)) ?_
 refine VlS (.pointer (some ⟨d, 0, none⟩)) ?_
 refine VlS (.pointer (some ⟨d, 0, none⟩)) ?_
 refine VlS (.pointer (some ⟨p, 0, none⟩)) ?_
 refine VlS (.pointer (some ⟨p, 0, none⟩)) ?_
 refine WL.nil (hK2 _ _ ?_)
 refine wp_seq_k fun K3 hK3 => ?_
 refine wp_seq_k fun K4 hK4 => rgn ?_
 refine VlS (.pointer (some ⟨p, 0, none⟩)) ?_
 refine VlS (.pointer (some ⟨p, 0, none⟩)) ?_
 refine VlS (.pointer (some ⟨p, 4, none⟩)) ?_
 refine VbT ?_
 refine WL.nil (hK4 _ _ ?_)
 refine wp_cond_true rfl ?_
 refine wp_seq_k fun K5 hK5 => rgn ?_
 refine VlS (.int .i64 7) ?_
 refine WL.nil (hK5 _ _ ?_)
 refine wp_ret ?_
 go_ret
 exact ⟨rfl, rfl⟩
set_option maxRecDepth 8000 in
theorem drop_out (d p : Nat) (n : ByteArray) (vf : Value) (cs : List FC) (D : DV) (w : World) (hDk : Blk w d 67 #[ptr p]) (hD : DskAt w p vf cs D) (hO : D.out = true) : Calls Tryz.prog 34 #[ptr d, .string n] w fun e w' => e = .returned (.int .i64 7) ∧ w' = w := by
 obtain ⟨va, vc, rfl⟩ := hD.own.sl
 have HDk := Keep.mk hDk
 have HD := Keep.mk hD
 have HO := Keep.mk hO
 clear hDk hD hO
 go_enter Tryz.func34, Tryz.ntmps34
 have cd := HDk.out.c 0 (by rfl : (#[ptr p] : Array Value)[0]? = some (ptr p))
 have c4 : w.cell? ⟨p, 4, none⟩ = some (.bool true) := by have h := HD.out.blk.c 4 (by rfl : (stA (.slice va cs.length vc) D)[4]? = some (.bool D.out)); rw [HO.out] at h; exact h
 refine wp_seq_k fun K1 hK1 => rgn ?_
 refine VlS (.int .i64 0) ?_
 refine WL.nil (hK1 _ _ ?_)
 refine wp_seq_k fun K2 hK2 => rgn ?_
 refine VlS (.pointer (some ⟨d, 0, none⟩)) ?_
 refine VlS (.pointer (some ⟨d, 0, none⟩)) ?_
 refine VlS (.pointer (some ⟨d, 0, none⟩)) ?_
 refine VlS (.pointer (some ⟨p, 0, none⟩)) ?_
 refine VlS (.pointer (some ⟨p, 0, none⟩)) ?_
 refine WL.nil (hK2 _ _ ?_)
 refine wp_seq_k fun K3 hK3 => ?_
 refine wp_seq_k fun K4 hK4 => rgn ?_
 refine VlS (.pointer (some ⟨p, 0, none⟩)) ?_
 refine VlS (.pointer (some ⟨p, 0, none⟩)) ?_
 refine VlS (.pointer (some ⟨p, 4, none⟩)) ?_
 refine VbT ?_
 refine WL.nil (hK4 _ _ ?_)
 refine wp_cond_true rfl ?_
 refine wp_seq_k fun K5 hK5 => rgn ?_
 refine VlS (.int .i64 7) ?_
 refine WL.nil (hK5 _ _ ?_)
 refine wp_ret ?_
 go_ret
 exact ⟨rfl, rfl⟩
set_option maxRecDepth 8000 in
theorem size_out (d p : Nat) (n : ByteArray) (vf : Value) (cs : List FC) (D : DV) (w : World) (hDk : Blk w d 67 #[ptr p]) (hD : DskAt w p vf cs D) (hO : D.out = true) : Calls Tryz.prog 39 #[ptr d, .string n] w fun e w' => e = .returned (.tuple #[.int .i64 0, .int .i64 7]) ∧ w' = w := by
 obtain ⟨va, vc, rfl⟩ := hD.own.sl
 have HDk := Keep.mk hDk
 have HD := Keep.mk hD
 have HO := Keep.mk hO
 clear hDk hD hO
 go_enter Tryz.func39, Tryz.ntmps39
 have cd := HDk.out.c 0 (by rfl : (#[ptr p] : Array Value)[0]? = some (ptr p))
 have c4 : w.cell? ⟨p, 4, none⟩ = some (.bool true) := by have h := HD.out.blk.c 4 (by rfl : (stA (.slice va cs.length vc) D)[4]? = some (.bool D.out)); rw [HO.out] at h; exact h
 refine wp_seq_k fun K1 hK1 => rgn ?_
 refine VlS (.int .i64 0) ?_
 refine VlS (.int .i64 0) ?_
 refine WL.nil (hK1 _ _ ?_)
 refine wp_seq_k fun K2 hK2 => rgn ?_
 refine VlS (.pointer (some ⟨d, 0, none⟩)) ?_
 refine VlS (.pointer (some ⟨d, 0, none⟩)) ?_
 refine VlS (.pointer (some ⟨d, 0, none⟩)) ?_
 refine VlS (.pointer (some ⟨p, 0, none⟩)) ?_
 refine VlS (.pointer (some ⟨p, 0, none⟩)) ?_
 refine WL.nil (hK2 _ _ ?_)
 refine wp_seq_k fun K3 hK3 => ?_
 refine wp_seq_k fun K4 hK4 => rgn ?_
 refine VlS (.pointer (some ⟨p, 0, none⟩)) ?_
 refine VlS (.pointer (some ⟨p, 0, none⟩)) ?_
 refine VlS (.pointer (some ⟨p, 4, none⟩)) ?_
 refine VbT ?_
 refine WL.nil (hK4 _ _ ?_)
 refine wp_cond_true rfl ?_
 refine wp_seq_k fun K5 hK5 => rgn ?_
 refine VlS (.int .i64 0) ?_
 refine VlS (.int .i64 7) ?_
 refine WL.nil (hK5 _ _ ?_)
 refine wp_ret ?_
 go_ret2
 exact ⟨rfl, rfl⟩
set_option maxRecDepth 8000 in
theorem read_out (d p : Nat) (n : ByteArray) (a m : Int) (vf : Value) (cs : List FC) (D : DV) (w : World) (hDk : Blk w d 67 #[ptr p]) (hD : DskAt w p vf cs D) (hO : D.out = true) : Calls Tryz.prog 36 #[ptr d, .string n, .int .i64 a, .int .i64 m] w fun e w' => e = .returned (.tuple #[.slice none 0 0, .int .i64 7]) ∧ w' = w := by
 obtain ⟨va, vc, rfl⟩ := hD.own.sl
 have HDk := Keep.mk hDk
 have HD := Keep.mk hD
 have HO := Keep.mk hO
 clear hDk hD hO
 go_enter Tryz.func36, Tryz.ntmps36
 have cd := HDk.out.c 0 (by rfl : (#[ptr p] : Array Value)[0]? = some (ptr p))
 have c4 : w.cell? ⟨p, 4, none⟩ = some (.bool true) := by have h := HD.out.blk.c 4 (by rfl : (stA (.slice va cs.length vc) D)[4]? = some (.bool D.out)); rw [HO.out] at h; exact h
 refine wp_seq_k fun K1 hK1 => rgn ?_
 refine VlS (.slice none 0 0) ?_
 refine VlS (.int .i64 0) ?_
 refine WL.nil (hK1 _ _ ?_)
 refine wp_seq_k fun K2 hK2 => rgn ?_
 refine VlS (.pointer (some ⟨d, 0, none⟩)) ?_
 refine VlS (.pointer (some ⟨d, 0, none⟩)) ?_
 refine VlS (.pointer (some ⟨d, 0, none⟩)) ?_
 refine VlS (.pointer (some ⟨p, 0, none⟩)) ?_
 refine VlS (.pointer (some ⟨p, 0, none⟩)) ?_
 refine WL.nil (hK2 _ _ ?_)
 refine wp_seq_k fun K3 hK3 => ?_
 refine wp_seq_k fun K4 hK4 => rgn ?_
 refine VlS (.pointer (some ⟨p, 0, none⟩)) ?_
 refine VlS (.pointer (some ⟨p, 0, none⟩)) ?_
 refine VlS (.pointer (some ⟨p, 4, none⟩)) ?_
 refine VbT ?_
 refine WL.nil (hK4 _ _ ?_)
 refine wp_cond_true rfl ?_
 refine wp_seq_k fun K5 hK5 => rgn ?_
 refine VlS (.slice none 0 0) ?_
 refine VlS (.int .i64 7) ?_
 refine WL.nil (hK5 _ _ ?_)
 refine wp_ret ?_
 go_ret2
 exact ⟨rfl, rfl⟩
set_option maxRecDepth 8000 in
theorem names_out (d p : Nat)  (vf : Value) (cs : List FC) (D : DV) (w : World) (hDk : Blk w d 67 #[ptr p]) (hD : DskAt w p vf cs D) (hO : D.out = true) : Calls Tryz.prog 44 #[ptr d] w fun e w' => e = .returned (.tuple #[.slice none 0 0, .int .i64 7]) ∧ w' = w := by
 obtain ⟨va, vc, rfl⟩ := hD.own.sl
 have HDk := Keep.mk hDk
 have HD := Keep.mk hD
 have HO := Keep.mk hO
 clear hDk hD hO
 go_enter Tryz.func44, Tryz.ntmps44
 have cd := HDk.out.c 0 (by rfl : (#[ptr p] : Array Value)[0]? = some (ptr p))
 have c4 : w.cell? ⟨p, 4, none⟩ = some (.bool true) := by have h := HD.out.blk.c 4 (by rfl : (stA (.slice va cs.length vc) D)[4]? = some (.bool D.out)); rw [HO.out] at h; exact h
 refine wp_seq_k fun K1 hK1 => rgn ?_
 refine VlS (.slice none 0 0) ?_
 refine VlS (.int .i64 0) ?_
 refine WL.nil (hK1 _ _ ?_)
 refine wp_seq_k fun K2 hK2 => rgn ?_
 refine VlS (.pointer (some ⟨d, 0, none⟩)) ?_
 refine VlS (.pointer (some ⟨d, 0, none⟩)) ?_
 refine VlS (.pointer (some ⟨d, 0, none⟩)) ?_
 refine VlS (.pointer (some ⟨p, 0, none⟩)) ?_
 refine VlS (.pointer (some ⟨p, 0, none⟩)) ?_
 refine WL.nil (hK2 _ _ ?_)
 refine wp_seq_k fun K3 hK3 => ?_
 refine wp_seq_k fun K4 hK4 => rgn ?_
 refine VlS (.pointer (some ⟨p, 0, none⟩)) ?_
 refine VlS (.pointer (some ⟨p, 0, none⟩)) ?_
 refine VlS (.pointer (some ⟨p, 4, none⟩)) ?_
 refine VbT ?_
 refine WL.nil (hK4 _ _ ?_)
 refine wp_cond_true rfl ?_
 refine wp_seq_k fun K5 hK5 => rgn ?_
 refine VlS (.slice none 0 0) ?_
 refine VlS (.int .i64 7) ?_
 refine WL.nil (hK5 _ _ ?_)
 refine wp_ret ?_
 go_ret2
 exact ⟨rfl, rfl⟩
set_option maxRecDepth 8000 in
theorem syn_absent (d p i : Nat) (n : ByteArray) (vf : Value) (cs : List FC) (D : DV) (w : World) (hDk : Blk w d 67 #[ptr p]) (hD : DskAt w p vf cs D) (hO : D.out = false) (hF : fnd n D.fs 0 = (i, false)) (hL : cs.length ≤ 256) : Calls Tryz.prog 30 #[ptr d, .string n] w fun e w' => e = .returned (.int .i64 6) ∧ Below w.heap.size w w' := by
 obtain ⟨va, vc, rfl⟩ := hD.own.sl
 have HDk := Keep.mk hDk
 have HD := Keep.mk hD
 have HO := Keep.mk hO
 have HF := Keep.mk hF
 have HL := Keep.mk hL
 clear hDk hD hO hF hL
 go_enter Tryz.func30, Tryz.ntmps30
 have cd := HDk.out.c 0 (by rfl : (#[ptr p] : Array Value)[0]? = some (ptr p))
 have c4 : w.cell? ⟨p, 4, none⟩ = some (.bool false) := by have h := HD.out.blk.c 4 (by rfl : (stA (.slice va cs.length vc) D)[4]? = some (.bool D.out)); rw [HO.out] at h; exact h
 refine wp_seq_k fun K1 hK1 => rgn ?_
 refine VlS (.int .i64 0) ?_
 refine WL.nil (hK1 _ _ ?_)
 refine wp_seq_k fun K2 hK2 => rgn ?_
 refine VlS (.pointer (some ⟨d, 0, none⟩)) ?_
 refine VlS (.pointer (some ⟨d, 0, none⟩)) ?_
 refine VlS (.pointer (some ⟨d, 0, none⟩)) ?_
 refine VlS (.pointer (some ⟨p, 0, none⟩)) ?_
 refine VlS (.pointer (some ⟨p, 0, none⟩)) ?_
 refine WL.nil (hK2 _ _ ?_)
 refine wp_seq_k fun K3 hK3 => ?_
 refine wp_seq_k fun K4 hK4 => rgn ?_
 refine VlS (.pointer (some ⟨p, 0, none⟩)) ?_
 refine VlS (.pointer (some ⟨p, 0, none⟩)) ?_
 refine VlS (.pointer (some ⟨p, 4, none⟩)) ?_
 refine VbF ?_
 refine WL.nil (hK4 _ _ ?_)
 refine wp_cond_false rfl ?_
 refine wp_skip ?_
 refine hK3 _ _ ?_
 refine wp_seq_k fun K5 hK5 => rgn ?_
 refine VlS (.pointer (some ⟨p, 0, none⟩)) ?_
 refine VlS (.string n) ?_
 clear cd c4
 have hfd := find_any p n _ cs D w HD.out (by have := HL.out; omega)
 rw [HF.out] at hfd
 refine WL.callF (by kernel_rfl) 25 _ _ rfl Tryz.in25 #[ptr p, .string n] (by simp [Act.eval]) ?_
 refine (hfd).mono ?_
 rintro e w1 ⟨rfl, hb1⟩
 refine ⟨_, rfl, ?_⟩
 have B1 := Keep.mk hb1
 clear hb1 hfd
 simp only [Act.put, pqA, pqB, pqC]
 refine VlS (.tuple #[.int .i64 (i : Int), .bool false]) ?_
 refine VlS (.int .i64 (i : Int)) ?_
 refine VbF ?_
 refine VlS (.int .i64 (i : Int)) ?_
 refine VbF ?_
 refine WL.nil (hK5 _ _ ?_)
 refine wp_seq_k fun K6 hK6 => ?_
 refine wp_seq_k fun K7 hK7 => rgn ?_
 refine VbF ?_
 refine VbT ?_
 refine WL.nil (hK7 _ _ ?_)
 refine wp_cond_true rfl ?_
 refine wp_seq_k fun K8 hK8 => rgn ?_
 refine VlS (.int .i64 6) ?_
 refine WL.nil (hK8 _ _ ?_)
 refine wp_ret ?_
 go_ret
 exact ⟨rfl, B1.out⟩
set_option maxRecDepth 8000 in
theorem cut_absent (d p i : Nat) (n : ByteArray) (m : Int) (vf : Value) (cs : List FC) (D : DV) (w : World) (hDk : Blk w d 67 #[ptr p]) (hD : DskAt w p vf cs D) (hO : D.out = false) (hF : fnd n D.fs 0 = (i, false)) (hL : cs.length ≤ 256) : Calls Tryz.prog 32 #[ptr d, .string n, .int .i64 m] w fun e w' => e = .returned (.int .i64 6) ∧ Below w.heap.size w w' := by
 obtain ⟨va, vc, rfl⟩ := hD.own.sl
 have HDk := Keep.mk hDk
 have HD := Keep.mk hD
 have HO := Keep.mk hO
 have HF := Keep.mk hF
 have HL := Keep.mk hL
 clear hDk hD hO hF hL
 go_enter Tryz.func32, Tryz.ntmps32
 have cd := HDk.out.c 0 (by rfl : (#[ptr p] : Array Value)[0]? = some (ptr p))
 have c4 : w.cell? ⟨p, 4, none⟩ = some (.bool false) := by have h := HD.out.blk.c 4 (by rfl : (stA (.slice va cs.length vc) D)[4]? = some (.bool D.out)); rw [HO.out] at h; exact h
 refine wp_seq_k fun K1 hK1 => rgn ?_
 refine VlS (.int .i64 0) ?_
 refine WL.nil (hK1 _ _ ?_)
 refine wp_seq_k fun K2 hK2 => rgn ?_
 refine VlS (.pointer (some ⟨d, 0, none⟩)) ?_
 refine VlS (.pointer (some ⟨d, 0, none⟩)) ?_
 refine VlS (.pointer (some ⟨d, 0, none⟩)) ?_
 refine VlS (.pointer (some ⟨p, 0, none⟩)) ?_
 refine VlS (.pointer (some ⟨p, 0, none⟩)) ?_
 refine WL.nil (hK2 _ _ ?_)
 refine wp_seq_k fun K3 hK3 => ?_
 refine wp_seq_k fun K4 hK4 => rgn ?_
 refine VlS (.pointer (some ⟨p, 0, none⟩)) ?_
 refine VlS (.pointer (some ⟨p, 0, none⟩)) ?_
 refine VlS (.pointer (some ⟨p, 4, none⟩)) ?_
 refine VbF ?_
 refine WL.nil (hK4 _ _ ?_)
 refine wp_cond_false rfl ?_
 refine wp_skip ?_
 refine hK3 _ _ ?_
 refine wp_seq_k fun K5 hK5 => rgn ?_
 refine VlS (.pointer (some ⟨p, 0, none⟩)) ?_
 refine VlS (.string n) ?_
 clear cd c4
 have hfd := find_any p n _ cs D w HD.out (by have := HL.out; omega)
 rw [HF.out] at hfd
 refine WL.callF (by kernel_rfl) 25 _ _ rfl Tryz.in25 #[ptr p, .string n] (by simp [Act.eval]) ?_
 refine (hfd).mono ?_
 rintro e w1 ⟨rfl, hb1⟩
 refine ⟨_, rfl, ?_⟩
 have B1 := Keep.mk hb1
 clear hb1 hfd
 simp only [Act.put, pqA, pqB, pqC]
 refine VlS (.tuple #[.int .i64 (i : Int), .bool false]) ?_
 refine VlS (.int .i64 (i : Int)) ?_
 refine VbF ?_
 refine VlS (.int .i64 (i : Int)) ?_
 refine VbF ?_
 refine WL.nil (hK5 _ _ ?_)
 refine wp_seq_k fun K6 hK6 => ?_
 refine wp_seq_k fun K7 hK7 => rgn ?_
 refine VbF ?_
 refine VbT ?_
 refine WL.nil (hK7 _ _ ?_)
 refine wp_cond_true rfl ?_
 refine wp_seq_k fun K8 hK8 => rgn ?_
 refine VlS (.int .i64 6) ?_
 refine WL.nil (hK8 _ _ ?_)
 refine wp_ret ?_
 go_ret
 exact ⟨rfl, B1.out⟩
set_option maxRecDepth 8000 in
theorem drop_absent (d p i : Nat) (n : ByteArray) (vf : Value) (cs : List FC) (D : DV) (w : World) (hDk : Blk w d 67 #[ptr p]) (hD : DskAt w p vf cs D) (hO : D.out = false) (hF : fnd n D.fs 0 = (i, false)) (hL : cs.length ≤ 256) : Calls Tryz.prog 34 #[ptr d, .string n] w fun e w' => e = .returned (.int .i64 6) ∧ Below w.heap.size w w' := by
 obtain ⟨va, vc, rfl⟩ := hD.own.sl
 have HDk := Keep.mk hDk
 have HD := Keep.mk hD
 have HO := Keep.mk hO
 have HF := Keep.mk hF
 have HL := Keep.mk hL
 clear hDk hD hO hF hL
 go_enter Tryz.func34, Tryz.ntmps34
 have cd := HDk.out.c 0 (by rfl : (#[ptr p] : Array Value)[0]? = some (ptr p))
 have c4 : w.cell? ⟨p, 4, none⟩ = some (.bool false) := by have h := HD.out.blk.c 4 (by rfl : (stA (.slice va cs.length vc) D)[4]? = some (.bool D.out)); rw [HO.out] at h; exact h
 refine wp_seq_k fun K1 hK1 => rgn ?_
 refine VlS (.int .i64 0) ?_
 refine WL.nil (hK1 _ _ ?_)
 refine wp_seq_k fun K2 hK2 => rgn ?_
 refine VlS (.pointer (some ⟨d, 0, none⟩)) ?_
 refine VlS (.pointer (some ⟨d, 0, none⟩)) ?_
 refine VlS (.pointer (some ⟨d, 0, none⟩)) ?_
 refine VlS (.pointer (some ⟨p, 0, none⟩)) ?_
 refine VlS (.pointer (some ⟨p, 0, none⟩)) ?_
 refine WL.nil (hK2 _ _ ?_)
 refine wp_seq_k fun K3 hK3 => ?_
 refine wp_seq_k fun K4 hK4 => rgn ?_
 refine VlS (.pointer (some ⟨p, 0, none⟩)) ?_
 refine VlS (.pointer (some ⟨p, 0, none⟩)) ?_
 refine VlS (.pointer (some ⟨p, 4, none⟩)) ?_
 refine VbF ?_
 refine WL.nil (hK4 _ _ ?_)
 refine wp_cond_false rfl ?_
 refine wp_skip ?_
 refine hK3 _ _ ?_
 refine wp_seq_k fun K5 hK5 => rgn ?_
 refine VlS (.pointer (some ⟨p, 0, none⟩)) ?_
 refine VlS (.string n) ?_
 clear cd c4
 have hfd := find_any p n _ cs D w HD.out (by have := HL.out; omega)
 rw [HF.out] at hfd
 refine WL.callF (by kernel_rfl) 25 _ _ rfl Tryz.in25 #[ptr p, .string n] (by simp [Act.eval]) ?_
 refine (hfd).mono ?_
 rintro e w1 ⟨rfl, hb1⟩
 refine ⟨_, rfl, ?_⟩
 have B1 := Keep.mk hb1
 clear hb1 hfd
 simp only [Act.put, pqA, pqB, pqC]
 refine VlS (.tuple #[.int .i64 (i : Int), .bool false]) ?_
 refine VlS (.int .i64 (i : Int)) ?_
 refine VbF ?_
 refine VlS (.int .i64 (i : Int)) ?_
 refine VbF ?_
 refine WL.nil (hK5 _ _ ?_)
 refine wp_seq_k fun K6 hK6 => ?_
 refine wp_seq_k fun K7 hK7 => rgn ?_
 refine VbF ?_
 refine VbT ?_
 refine WL.nil (hK7 _ _ ?_)
 refine wp_cond_true rfl ?_
 refine wp_seq_k fun K8 hK8 => rgn ?_
 refine VlS (.int .i64 6) ?_
 refine WL.nil (hK8 _ _ ?_)
 refine wp_ret ?_
 go_ret
 exact ⟨rfl, B1.out⟩
set_option maxRecDepth 8000 in
theorem size_absent (d p i : Nat) (n : ByteArray) (vf : Value) (cs : List FC) (D : DV) (w : World) (hDk : Blk w d 67 #[ptr p]) (hD : DskAt w p vf cs D) (hO : D.out = false) (hF : fnd n D.fs 0 = (i, false)) (hL : cs.length ≤ 256) : Calls Tryz.prog 39 #[ptr d, .string n] w fun e w' => e = .returned (.tuple #[.int .i64 0, .int .i64 6]) ∧ Below w.heap.size w w' := by
 obtain ⟨va, vc, rfl⟩ := hD.own.sl
 have HDk := Keep.mk hDk
 have HD := Keep.mk hD
 have HO := Keep.mk hO
 have HF := Keep.mk hF
 have HL := Keep.mk hL
 clear hDk hD hO hF hL
 go_enter Tryz.func39, Tryz.ntmps39
 have cd := HDk.out.c 0 (by rfl : (#[ptr p] : Array Value)[0]? = some (ptr p))
 have c4 : w.cell? ⟨p, 4, none⟩ = some (.bool false) := by have h := HD.out.blk.c 4 (by rfl : (stA (.slice va cs.length vc) D)[4]? = some (.bool D.out)); rw [HO.out] at h; exact h
 refine wp_seq_k fun K1 hK1 => rgn ?_
 refine VlS (.int .i64 0) ?_
 refine VlS (.int .i64 0) ?_
 refine WL.nil (hK1 _ _ ?_)
 refine wp_seq_k fun K2 hK2 => rgn ?_
 refine VlS (.pointer (some ⟨d, 0, none⟩)) ?_
 refine VlS (.pointer (some ⟨d, 0, none⟩)) ?_
 refine VlS (.pointer (some ⟨d, 0, none⟩)) ?_
 refine VlS (.pointer (some ⟨p, 0, none⟩)) ?_
 refine VlS (.pointer (some ⟨p, 0, none⟩)) ?_
 refine WL.nil (hK2 _ _ ?_)
 refine wp_seq_k fun K3 hK3 => ?_
 refine wp_seq_k fun K4 hK4 => rgn ?_
 refine VlS (.pointer (some ⟨p, 0, none⟩)) ?_
 refine VlS (.pointer (some ⟨p, 0, none⟩)) ?_
 refine VlS (.pointer (some ⟨p, 4, none⟩)) ?_
 refine VbF ?_
 refine WL.nil (hK4 _ _ ?_)
 refine wp_cond_false rfl ?_
 refine wp_skip ?_
 refine hK3 _ _ ?_
 refine wp_seq_k fun K5 hK5 => rgn ?_
 refine VlS (.pointer (some ⟨p, 0, none⟩)) ?_
 refine VlS (.string n) ?_
 clear cd c4
 have hfd := find_any p n _ cs D w HD.out (by have := HL.out; omega)
 rw [HF.out] at hfd
 refine WL.callF (by kernel_rfl) 25 _ _ rfl Tryz.in25 #[ptr p, .string n] (by simp [Act.eval]) ?_
 refine (hfd).mono ?_
 rintro e w1 ⟨rfl, hb1⟩
 refine ⟨_, rfl, ?_⟩
 have B1 := Keep.mk hb1
 clear hb1 hfd
 simp only [Act.put, pqA, pqB, pqC]
 refine VlS (.tuple #[.int .i64 (i : Int), .bool false]) ?_
 refine VlS (.int .i64 (i : Int)) ?_
 refine VbF ?_
 refine VlS (.int .i64 (i : Int)) ?_
 refine VbF ?_
 refine WL.nil (hK5 _ _ ?_)
 refine wp_seq_k fun K6 hK6 => ?_
 refine wp_seq_k fun K7 hK7 => rgn ?_
 refine VbF ?_
 refine VbT ?_
 refine WL.nil (hK7 _ _ ?_)
 refine wp_cond_true rfl ?_
 refine wp_seq_k fun K8 hK8 => rgn ?_
 refine VlS (.int .i64 0) ?_
 refine VlS (.int .i64 6) ?_
 refine WL.nil (hK8 _ _ ?_)
 refine wp_ret ?_
 go_ret2
 exact ⟨rfl, B1.out⟩
set_option maxRecDepth 8000 in
theorem read_absent (d p i : Nat) (n : ByteArray) (a m : Int) (vf : Value) (cs : List FC) (D : DV) (w : World) (hDk : Blk w d 67 #[ptr p]) (hD : DskAt w p vf cs D) (hO : D.out = false) (hF : fnd n D.fs 0 = (i, false)) (hL : cs.length ≤ 256) : Calls Tryz.prog 36 #[ptr d, .string n, .int .i64 a, .int .i64 m] w fun e w' => e = .returned (.tuple #[.slice none 0 0, .int .i64 6]) ∧ Below w.heap.size w w' := by
 obtain ⟨va, vc, rfl⟩ := hD.own.sl
 have HDk := Keep.mk hDk
 have HD := Keep.mk hD
 have HO := Keep.mk hO
 have HF := Keep.mk hF
 have HL := Keep.mk hL
 clear hDk hD hO hF hL
 go_enter Tryz.func36, Tryz.ntmps36
 have cd := HDk.out.c 0 (by rfl : (#[ptr p] : Array Value)[0]? = some (ptr p))
 have c4 : w.cell? ⟨p, 4, none⟩ = some (.bool false) := by have h := HD.out.blk.c 4 (by rfl : (stA (.slice va cs.length vc) D)[4]? = some (.bool D.out)); rw [HO.out] at h; exact h
 refine wp_seq_k fun K1 hK1 => rgn ?_
 refine VlS (.slice none 0 0) ?_
 refine VlS (.int .i64 0) ?_
 refine WL.nil (hK1 _ _ ?_)
 refine wp_seq_k fun K2 hK2 => rgn ?_
 refine VlS (.pointer (some ⟨d, 0, none⟩)) ?_
 refine VlS (.pointer (some ⟨d, 0, none⟩)) ?_
 refine VlS (.pointer (some ⟨d, 0, none⟩)) ?_
 refine VlS (.pointer (some ⟨p, 0, none⟩)) ?_
 refine VlS (.pointer (some ⟨p, 0, none⟩)) ?_
 refine WL.nil (hK2 _ _ ?_)
 refine wp_seq_k fun K3 hK3 => ?_
 refine wp_seq_k fun K4 hK4 => rgn ?_
 refine VlS (.pointer (some ⟨p, 0, none⟩)) ?_
 refine VlS (.pointer (some ⟨p, 0, none⟩)) ?_
 refine VlS (.pointer (some ⟨p, 4, none⟩)) ?_
 refine VbF ?_
 refine WL.nil (hK4 _ _ ?_)
 refine wp_cond_false rfl ?_
 refine wp_skip ?_
 refine hK3 _ _ ?_
 refine wp_seq_k fun K5 hK5 => rgn ?_
 refine VlS (.pointer (some ⟨p, 0, none⟩)) ?_
 refine VlS (.string n) ?_
 clear cd c4
 have hfd := find_any p n _ cs D w HD.out (by have := HL.out; omega)
 rw [HF.out] at hfd
 refine WL.callF (by kernel_rfl) 25 _ _ rfl Tryz.in25 #[ptr p, .string n] (by simp [Act.eval]) ?_
 refine (hfd).mono ?_
 rintro e w1 ⟨rfl, hb1⟩
 refine ⟨_, rfl, ?_⟩
 have B1 := Keep.mk hb1
 clear hb1 hfd
 simp only [Act.put, pqA, pqB, pqC]
 refine VlS (.tuple #[.int .i64 (i : Int), .bool false]) ?_
 refine VlS (.int .i64 (i : Int)) ?_
 refine VbF ?_
 refine VlS (.int .i64 (i : Int)) ?_
 refine VbF ?_
 refine WL.nil (hK5 _ _ ?_)
 refine wp_seq_k fun K6 hK6 => ?_
 refine wp_seq_k fun K7 hK7 => rgn ?_
 refine VbF ?_
 refine VbT ?_
 refine WL.nil (hK7 _ _ ?_)
 refine wp_cond_true rfl ?_
 refine wp_seq_k fun K8 hK8 => rgn ?_
 refine VlS (.slice none 0 0) ?_
 refine VlS (.int .i64 6) ?_
 refine WL.nil (hK8 _ _ ?_)
 refine wp_ret ?_
 go_ret2
 exact ⟨rfl, B1.out⟩
theorem WL.sl2 {ops : Array Oper} {rest : List Oper} {o : Oper} {a : Act} {w : World} {Q : Exit → Act → World → Prop} (hw : Region.wanted o (yielded ops a.tmps) = true) (x lo hi : Operand) (ho : o.op = .slice 40 x (some lo) (some hi) none)
  (vx vl vh vs : Value) (hx : a.eval x = vx) (hl : a.eval lo = vl) (hh : a.eval hi = vh) (hr : (Instr.sliceAt 40 vx (some vl) (some vh) none).run Tryz.prog w = .ok vs w) (h : WL Tryz.prog ops Q rest (a.put o.dst vs) w) : WL Tryz.prog ops Q (o :: rest) a w :=
 WL.val hw vs (by unfold execOp; simp only [ho, hx, hl, hh, Option.map_some, Option.map_none, Sem.run_bind, hr, Result.andThen_ok, Sem.run_pure]) h
set_option maxRecDepth 8000 in
theorem size_is (d p i : Nat) (n : ByteArray) (vf : Value) (cs : List FC) (D : DV) (f : PF) (w : World) (hDk : Blk w d 67 #[ptr p]) (hD : DskAt w p vf cs D) (hO : D.out = false) (hF : fnd n D.fs 0 = (i, true)) (hFi : D.fs[i]? = some f) (hL : cs.length ≤ 256) : Calls Tryz.prog 39 #[ptr d, .string n] w fun e w' => e = .returned (.tuple #[.int .i64 (f.bs.length : Int), .int .i64 0]) ∧ Below w.heap.size w w' := by
 obtain ⟨va, vc, rfl⟩ := hD.own.sl
 have HDk := Keep.mk hDk
 have HD := Keep.mk hD
 have HO := Keep.mk hO
 have HF := Keep.mk hF
 have HFi := Keep.mk hFi
 have HL := Keep.mk hL
 clear hDk hD hO hF hFi hL
 go_enter Tryz.func39, Tryz.ntmps39
 have cd := HDk.out.c 0 (by rfl : (#[ptr p] : Array Value)[0]? = some (ptr p))
 have c4 : w.cell? ⟨p, 4, none⟩ = some (.bool false) := by have h := HD.out.blk.c 4 (by rfl : (stA (.slice va cs.length vc) D)[4]? = some (.bool D.out)); rw [HO.out] at h; exact h
 refine wp_seq_k fun K1 hK1 => rgn ?_
 refine VlS (.int .i64 0) ?_
 refine VlS (.int .i64 0) ?_
 refine WL.nil (hK1 _ _ ?_)
 refine wp_seq_k fun K2 hK2 => rgn ?_
 refine VlS (.pointer (some ⟨d, 0, none⟩)) ?_
 refine VlS (.pointer (some ⟨d, 0, none⟩)) ?_
 refine VlS (.pointer (some ⟨d, 0, none⟩)) ?_
 refine VlS (.pointer (some ⟨p, 0, none⟩)) ?_
 refine VlS (.pointer (some ⟨p, 0, none⟩)) ?_
 refine WL.nil (hK2 _ _ ?_)
 refine wp_seq_k fun K3 hK3 => ?_
 refine wp_seq_k fun K4 hK4 => rgn ?_
 refine VlS (.pointer (some ⟨p, 0, none⟩)) ?_
 refine VlS (.pointer (some ⟨p, 0, none⟩)) ?_
 refine VlS (.pointer (some ⟨p, 4, none⟩)) ?_
 refine VbF ?_
 refine WL.nil (hK4 _ _ ?_)
 refine wp_cond_false rfl ?_
 refine wp_skip ?_
 refine hK3 _ _ ?_
 refine wp_seq_k fun K5 hK5 => rgn ?_
 refine VlS (.pointer (some ⟨p, 0, none⟩)) ?_
 refine VlS (.string n) ?_
 clear cd c4
 have hfd := find_any p n _ cs D w HD.out (by have := HL.out; omega)
 rw [HF.out] at hfd
 refine WL.callF (by kernel_rfl) 25 _ _ rfl Tryz.in25 #[ptr p, .string n] (by simp [Act.eval]) ?_
 refine (hfd).mono ?_
 rintro e w1 ⟨rfl, hb1⟩
 refine ⟨_, rfl, ?_⟩
 have B1 := Keep.mk hb1
 have HD1 := Keep.mk (HD.out.below hb1)
 clear hb1 hfd
 obtain ⟨f_, hf_⟩ : ∃ f, D.fs[i]? = some f := ⟨f, HFi.out⟩
 obtain rfl : f = f_ := Option.some.inj (HFi.out.symm.trans hf_)
 have hci : i < cs.length := by have h := HD1.out.fcs.len; have h2 := (List.getElem?_eq_some_iff.1 hf_).1; omega
 obtain ⟨x, hx⟩ : ∃ x, cs[i]? = some x := ⟨cs[i], List.getElem?_eq_getElem hci⟩
 obtain ⟨g, ha, hrg⟩ := HD1.out.own.at hx
 subst ha
 have hec := HD1.out.fcs.each i x f hx hf_
 obtain ⟨xn, xb, xs⟩ := x
 obtain ⟨xa, xc, hxb⟩ := row_form hec.2.2.row
 change xb = _ at hxb
 subst hxb
 have HXr : Keep (RowAt w1 (.slice xa f.bs.length xc) f.bs) := ⟨hec.2.2.row⟩
 have c1 : w1.cell? ⟨g, i * 3 + 1, none⟩ = some (.slice xa f.bs.length xc) := hrg 1 _ rfl
 have hilc : (i : Int) < (cs.length : Int) := by omega
 have p0 := HD1.out.blk.c 0 (by rfl : (stA (.slice (some ⟨g, 0, none⟩) cs.length vc) D)[0]? = some (.slice (some ⟨g, 0, none⟩) cs.length vc))
 clear hrg hec hx hf_ hci
 simp only [Act.put, pqA, pqB, pqC]
 refine VlS (.tuple #[.int .i64 (i : Int), .bool true]) ?_
 refine VlS (.int .i64 (i : Int)) ?_
 refine VbT ?_
 refine VlS (.int .i64 (i : Int)) ?_
 refine VbT ?_
 refine WL.nil (hK5 _ _ ?_)
 refine wp_seq_k fun K6 hK6 => ?_
 refine wp_seq_k fun K7 hK7 => rgn ?_
 refine VbT ?_
 refine VbF ?_
 refine WL.nil (hK7 _ _ ?_)
 refine wp_cond_false rfl ?_
 refine wp_skip ?_
 refine hK6 _ _ ?_
 refine wp_seq_k fun K8 hK8 => rgn ?_
 refine VlS (.pointer (some ⟨p, 0, none⟩)) ?_
 refine VlS (.pointer (some ⟨p, 0, none⟩)) ?_
 refine VlS (.pointer (some ⟨p, 0, none⟩)) ?_
 refine VlS (.slice (some ⟨g, 0, none⟩) cs.length vc) ?_
 refine VlS (.int .i64 (i : Int)) ?_
 refine VlS (.pointer (some ⟨g, i * 3, none⟩)) ?_
 refine VlS (.pointer (some ⟨g, i * 3 + 1, none⟩)) ?_
 refine VlS (.slice xa f.bs.length xc) ?_
 refine VlS (.int .i64 (f.bs.length : Int)) ?_
 refine VlS (.int .i64 (f.bs.length : Int)) ?_
 refine VlS (.int .i64 0) ?_
 refine WL.nil (hK8 _ _ ?_)
 refine wp_ret ?_
 go_ret2
 exact ⟨rfl, B1.out⟩
set_option maxRecDepth 8000 in
theorem out_any (h p : Nat) (b : Bool) (w : World) (c0 : w.cell? ⟨h, 0, none⟩ = some (ptr p)) (c4 : w.cell? ⟨p, 4, none⟩ = some (.bool b)) : Calls Tryz.prog 48 #[ptr h] w fun r w' => r = .returned (.bool b) ∧ w' = w := by
 go_enter Tryz.func48, Tryz.ntmps48
 refine wp_seq_k fun K1 hK1 => rgn ?_
 refine VbF ?_
 refine WL.nil (hK1 _ _ ?_)
 refine wp_seq_k fun K2 hK2 => rgn ?_
 refine VlS (.pointer (some ⟨h, 0, none⟩)) ?_
 refine VlS (.pointer (some ⟨h, 0, none⟩)) ?_
 refine VlS (.pointer (some ⟨h, 0, none⟩)) ?_
 refine VlS (.pointer (some ⟨p, 0, none⟩)) ?_
 refine VlS (.pointer (some ⟨p, 0, none⟩)) ?_
 refine VlS (.pointer (some ⟨p, 4, none⟩)) ?_
 refine VlS (.bool b) ?_
 refine VlS (.bool b) ?_
 refine WL.nil (hK2 _ _ ?_)
 refine wp_ret ?_
 go_ret
 exact ⟨rfl, rfl⟩
theorem del_get {α : Type} (l : List α) (i j : Nat) (hi : i < l.length) : (l.take i ++ l.drop (i + 1))[j]? = if j < i then l[j]? else l[j + 1]? := by
 rw [List.getElem?_append, List.length_take, Nat.min_eq_left (by omega)]
 by_cases h : j < i
 ·rw [if_pos h, if_pos h, List.getElem?_take, if_pos h]
 ·rw [if_neg h, if_neg h, List.getElem?_drop, show i + 1 + (j - i) = j + 1 by omega]
theorem FcsAt.del {w : World} {cs : List FC} {fs : List PF} (h : FcsAt w cs fs) (i : Nat) (hi : i < cs.length) : FcsAt w (cs.take i ++ cs.drop (i + 1)) (fs.take i ++ fs.drop (i + 1)) := by
 have hl := h.len
 refine ⟨by simp; omega, fun j x f hx hf => ?_, fun j k x y hx hy hne b hb => ?_⟩
 ·rw [del_get _ _ _ hi] at hx
  rw [del_get _ _ _ (by omega)] at hf
  by_cases h1 : j < i
  ·rw [if_pos h1] at hx hf; exact h.each j x f hx hf
  ·rw [if_neg h1] at hx hf; exact h.each _ x f hx hf
 ·rw [del_get _ _ _ hi] at hx hy
  by_cases h1 : j < i
  ·rw [if_pos h1] at hx
   by_cases h2 : k < i
   ·rw [if_pos h2] at hy; exact h.apart _ _ x y hx hy hne b hb
   ·rw [if_neg h2] at hy; exact h.apart _ _ x y hx hy (by omega) b hb
  ·rw [if_neg h1] at hx
   by_cases h2 : k < i
   ·rw [if_pos h2] at hy; exact h.apart _ _ x y hx hy (by omega) b hb
   ·rw [if_neg h2] at hy; exact h.apart _ _ x y hx hy (by omega) b hb
theorem dsk_del {w : World} {p : Nat} {vf v7 : Value} {cs : List FC} {D : DV} {i : Nat} (h : DskAt w p vf cs D) (ho : OwnF w v7 (cs.take i ++ cs.drop (i + 1))) (hp : v7.ownBlock ≠ some p) (hi : i < cs.length) : DskAt (w.setCell ⟨p, 0, none⟩ v7) p v7 (cs.take i ++ cs.drop (i + 1)) { D with fs := D.fs.take i ++ D.fs.drop (i + 1) } := by
 have hg : Grown w (w.setCell ⟨p, 0, none⟩ v7) fun k => k = p := Grown.setCell w p 0 _ fun _ => rfl
 refine ⟨?_, ho.grown hg fun k hk e => hp (by rw [← e]; exact hk), ?_⟩
 ·exact h.blk.set 0 v7
 ·exact (h.fcs.del i hi).grown hg fun k hk e => by subst e; have := hk.one h.blk.typ; revert this; decide
def DV.del (D : DV) (i : Nat) (f : PF) : DV := { D with fs := D.fs.take i ++ D.fs.drop (i + 1), used := D.used - (f.bs.length : Int) }
set_option maxRecDepth 8000 in
theorem fuse_any (h p : Nat) (n : Int) (vf : Value) (cs : List FC) (D : DV) (w : World) (hH : Blk w h 73 #[ptr p]) (hD : DskAt w p vf cs D) : Calls Tryz.prog 41 #[ptr h, .int .i64 n] w fun r w' => r = .returned (.tuple #[]) ∧ DskAt w' p vf cs { D with fuse := max (-1) n } ∧ Grown w w' fun k => k = p := by
 have HH := Keep.mk hH
 have HD := Keep.mk hD
 clear hH hD
 go_enter Tryz.func41, Tryz.ntmps41
 have c0 := HH.out.c 0 (by rfl : (#[ptr p] : Array Value)[0]? = some (ptr p))
 have c3 := HD.out.blk.c 3 (by rfl : (stA vf D)[3]? = some (.int .i64 D.fuse))
 have f_o := HD.out.blk.frozen 3
 refine rgn ?_
 refine VlS (.pointer (some ⟨h, 0, none⟩)) ?_
 refine VlS (.pointer (some ⟨h, 0, none⟩)) ?_
 refine VlS (.pointer (some ⟨h, 0, none⟩)) ?_
 refine VlS (.pointer (some ⟨p, 0, none⟩)) ?_
 refine VlS (.int .i64 n) ?_
 refine VlS (.int .i64 (max (-1) n)) ?_
 refine VlS (.pointer (some ⟨p, 0, none⟩)) ?_
 refine VlS (.pointer (some ⟨p, 3, none⟩)) ?_
 refine WL.cell (by kernel_rfl) (w.setCell ⟨p, 3, none⟩ (.int .i64 (max (-1) n))) (by go_simp) ?_
 have HD1 : Keep (DskAt (w.setCell ⟨p, 3, none⟩ (.int .i64 (max (-1) n))) p vf cs { D with fuse := max (-1) n }) := ⟨HD.out.put rfl rfl⟩
 have G1 : Keep (Grown w (w.setCell ⟨p, 3, none⟩ (.int .i64 (max (-1) n))) fun k => k = p) := ⟨Grown.setCell w p 3 _ fun _ => rfl⟩
 clear c0 c3 f_o
 generalize w.setCell ⟨p, 3, none⟩ (.int .i64 (max (-1) n)) = w1 at *
 simp only [Act.put]
 refine WL.nil ?_
 go_end0
 exact ⟨rfl, HD1.out, G1.out⟩
theorem dskS_del {B B' p i : Nat} {vf v7 : Value} {cs : List FC} (h7 : NewF B v7) (hB : B' ≤ B) (hi : i < cs.length) : ∀ k, DskS p v7 (cs.take i ++ cs.drop (i + 1)) k → DskS p vf cs k ∨ B' ≤ k := by
 rintro k (e | e | ⟨j, y, hy, e⟩)
 ·exact .inl (.inl e)
 ·exact .inr (Nat.le_trans hB (h7 k e))
 ·rw [del_get _ _ _ hi] at hy
  split at hy
  ·exact .inl (.inr (.inr ⟨j, y, hy, e⟩))
  ·exact .inl (.inr (.inr ⟨_, y, hy, e⟩))
set_option maxRecDepth 8000 in
set_option maxHeartbeats 2000000 in
theorem drop_is (d p i : Nat) (n : ByteArray) (vf : Value) (cs : List FC) (D : DV) (f : PF) (w : World) (hDk : Blk w d 67 #[ptr p]) (hD : DskAt w p vf cs D) (hO : D.out = false) (hF : fnd n D.fs 0 = (i, true)) (hFi : D.fs[i]? = some f) (hL : cs.length ≤ 256) (hU : 0 ≤ D.used ∧ D.used ≤ 70368744177664 ∧ (f.bs.length : Int) ≤ D.used) (hA : 0 ≤ D.acts ∧ D.acts ≤ 4611686018427387904) (hFu : -9223372036854775808 < D.fuse ∧ D.fuse ≤ 9223372036854775807) :
  Calls Tryz.prog 34 #[ptr d, .string n] w fun e w' => e = .returned (.int .i64 (pw D)) ∧ ∃ vf' cs', DskAt w' p vf' cs' (if D.fuse = 0 then D.act else D.act.del i f) ∧ (Grown w w' fun k => k = p) ∧ ∀ k, DskS p vf' cs' k → DskS p vf cs k ∨ w.heap.size ≤ k := by
 obtain ⟨va, vc, rfl⟩ := hD.own.sl
 have HDk := Keep.mk hDk
 have HD := Keep.mk hD
 have HO := Keep.mk hO
 have HF := Keep.mk hF
 have HFi := Keep.mk hFi
 have HL := Keep.mk hL
 have HU := Keep.mk hU
 have HA := Keep.mk hA
 have HFu := Keep.mk hFu
 clear hDk hD hO hF hFi hL hU hA hFu
 go_enter Tryz.func34, Tryz.ntmps34
 have cd := HDk.out.c 0 (by rfl : (#[ptr p] : Array Value)[0]? = some (ptr p))
 have c4 : w.cell? ⟨p, 4, none⟩ = some (.bool false) := by have h := HD.out.blk.c 4 (by rfl : (stA (.slice va cs.length vc) D)[4]? = some (.bool D.out)); rw [HO.out] at h; exact h
 refine wp_seq_k fun K1 hK1 => rgn ?_
 refine VlS (.int .i64 0) ?_
 refine WL.nil (hK1 _ _ ?_)
 refine wp_seq_k fun K2 hK2 => rgn ?_
 refine VlS (.pointer (some ⟨d, 0, none⟩)) ?_
 refine VlS (.pointer (some ⟨d, 0, none⟩)) ?_
 refine VlS (.pointer (some ⟨d, 0, none⟩)) ?_
 refine VlS (.pointer (some ⟨p, 0, none⟩)) ?_
 refine VlS (.pointer (some ⟨p, 0, none⟩)) ?_
 refine WL.nil (hK2 _ _ ?_)
 refine wp_seq_k fun K3 hK3 => ?_
 refine wp_seq_k fun K4 hK4 => rgn ?_
 refine VlS (.pointer (some ⟨p, 0, none⟩)) ?_
 refine VlS (.pointer (some ⟨p, 0, none⟩)) ?_
 refine VlS (.pointer (some ⟨p, 4, none⟩)) ?_
 refine VbF ?_
 refine WL.nil (hK4 _ _ ?_)
 refine wp_cond_false rfl ?_
 refine wp_skip ?_
 refine hK3 _ _ ?_
 refine wp_seq_k fun K5 hK5 => rgn ?_
 refine VlS (.pointer (some ⟨p, 0, none⟩)) ?_
 refine VlS (.string n) ?_
 clear cd c4
 have hfd := find_any p n _ cs D w HD.out (by have := HL.out; omega)
 rw [HF.out] at hfd
 refine WL.callF (by kernel_rfl) 25 _ _ rfl Tryz.in25 #[ptr p, .string n] (by simp [Act.eval]) ?_
 refine (hfd).mono ?_
 rintro e w0 ⟨rfl, hb1⟩
 refine ⟨_, rfl, ?_⟩
 have B0 := Keep.mk hb1
 have HD0 := Keep.mk (HD.out.below hb1)
 clear hb1 hfd
 simp only [Act.put, pqA, pqB, pqC]
 refine VlS (.tuple #[.int .i64 (i : Int), .bool true]) ?_
 refine VlS (.int .i64 (i : Int)) ?_
 refine VbT ?_
 refine VlS (.int .i64 (i : Int)) ?_
 refine VbT ?_
 refine WL.nil (hK5 _ _ ?_)
 refine wp_seq_k fun K6 hK6 => ?_
 refine wp_seq_k fun K7 hK7 => rgn ?_
 refine VbT ?_
 refine VbF ?_
 refine WL.nil (hK7 _ _ ?_)
 refine wp_cond_false rfl ?_
 refine wp_skip ?_
 refine hK6 _ _ ?_
 refine wp_seq_k fun K8 hK8 => ?_
 refine wp_seq_k fun K9 hK9 => rgn ?_
 refine VlS (.pointer (some ⟨p, 0, none⟩)) ?_
 have hac := act_any p _ _ _ w0 HD0.out HA.out ⟨HFu.out.1, HFu.out.2⟩
 refine WL.callF (by kernel_rfl) 50 _ _ rfl Tryz.in50 #[ptr p] (by simp [Act.eval]) ?_
 refine (hac).mono ?_
 rintro e wq ⟨rfl, h1, h2⟩
 refine ⟨_, rfl, ?_⟩
 have HD1 := Keep.mk h1
 have G1 : Keep (Grown w wq fun k => k = p) := ⟨(Grown.below B0.out).trans h2⟩
 clear h1 h2 hac HD0
 simp only [Act.put, pqA, pqB, pqC]
 rcases Decidable.em (D.fuse = 0) with hfu | hfu
 ·rw [show decide (D.fuse = 0) = true from decide_eq_true hfu]
  refine WL.nil (hK9 _ _ ?_)
  refine wp_cond_true rfl ?_
  refine wp_seq_k fun K10 hK10 => rgn ?_
  refine VlS (.int .i64 7) ?_
  refine WL.nil (hK10 _ _ ?_)
  refine wp_ret ?_
  go_ret
  exact ⟨by unfold pw; rw [if_pos hfu]; rfl, _, _, by rw [if_pos hfu]; exact HD1.out, G1.out, fun k hk => .inl hk⟩
 ·rw [show decide (D.fuse = 0) = false from decide_eq_false hfu]
  refine WL.nil (hK9 _ _ ?_)
  refine wp_cond_false rfl ?_
  refine wp_skip ?_
  refine hK8 _ _ ?_
  refine wp_seq_k fun K11 hK11 => ?_
  obtain ⟨f_, hf_⟩ : ∃ f, D.fs[i]? = some f := ⟨f, HFi.out⟩
  obtain rfl : f = f_ := Option.some.inj (HFi.out.symm.trans hf_)
  have hci : i < cs.length := by have h := HD1.out.fcs.len; have e_ : D.act.fs = D.fs := rfl; rw [e_] at h; have h2 := (List.getElem?_eq_some_iff.1 hf_).1; omega
  obtain ⟨x, hx⟩ : ∃ x, cs[i]? = some x := ⟨cs[i], List.getElem?_eq_getElem hci⟩
  obtain ⟨g, ha, hrg⟩ := HD1.out.own.at hx
  subst ha
  have hec := HD1.out.fcs.each i x f hx hf_
  obtain ⟨xn, xb, xs⟩ := x
  obtain ⟨xa, xc, hxb⟩ := row_form hec.2.2.row
  change xb = _ at hxb
  subst hxb
  have HXr : Keep (RowAt wq (.slice xa f.bs.length xc) f.bs) := ⟨hec.2.2.row⟩
  have c1 : wq.cell? ⟨g, i * 3 + 1, none⟩ = some (.slice xa f.bs.length xc) := hrg 1 _ rfl
  have hilc : (i : Int) < (cs.length : Int) := by omega
  have p0 := HD1.out.blk.c 0 (by rfl : (stA (.slice (some ⟨g, 0, none⟩) cs.length vc) D.act)[0]? = some (.slice (some ⟨g, 0, none⟩) cs.length vc))
  clear hrg hec hx hf_ hci
  have hS0 : Keep (wq.drew.cell? ⟨p, 0, none⟩ = some (.slice (some ⟨g, 0, none⟩) cs.length vc) ∧ wq.drew.cell? ⟨g, i * 3 + 1, none⟩ = some (.slice xa f.bs.length xc)) := ⟨p0, c1⟩
  have hwu : IntKind.i64.wrap (D.used - (f.bs.length : Int)) = D.used - (f.bs.length : Int) := by rw [IntKind.wrap_i64]; have := HU.out; omega
  have hgp : Keep (g ≠ p) := ⟨fun e => HD1.out.own.ne HD1.out.blk (by decide) (by rw [e]; rfl)⟩
  clear p0 c1
  refine wp_region_held_drew (S := fun wx => wx.cell? ⟨p, 0, none⟩ = some (.slice (some ⟨g, 0, none⟩) cs.length vc) ∧ wx.cell? ⟨g, i * 3 + 1, none⟩ = some (.slice xa f.bs.length xc)) (by kernel_rfl) (hS0.out) (fun hHeld => ?_)
  refine TkJ (i := 0) (oi := ⟨some 27, Op.move (Operand.tmp 5), 65, _, _, none⟩) (v := .pointer (some ⟨p, 0, none⟩)) rfl hHeld ?_
  refine TkJ (i := 1) (oi := ⟨some 28, Op.nilCheck (Operand.tmp 27), 0, _, _, none⟩) (v := .pointer (some ⟨p, 0, none⟩)) rfl hHeld ?_
  refine TkJ (i := 2) (oi := ⟨some 29, Op.fieldAddr 71 (Operand.tmp 28) 2, 0, _, _, none⟩) (v := .pointer (some ⟨p, 2, none⟩)) rfl hHeld ?_
  refine TkJ (i := 4) (oi := ⟨some 31, Op.move (Operand.tmp 5), 65, _, _, none⟩) (v := .pointer (some ⟨p, 0, none⟩)) rfl hHeld ?_
  refine TkJ (i := 5) (oi := ⟨some 32, Op.nilCheck (Operand.tmp 31), 0, _, _, none⟩) (v := .pointer (some ⟨p, 0, none⟩)) rfl hHeld ?_
  refine TkJ (i := 6) (oi := ⟨some 33, Op.fieldAddr 71 (Operand.tmp 32) 0, 0, _, _, none⟩) (v := .pointer (some ⟨p, 0, none⟩)) rfl hHeld ?_
  refine TkJ (i := 7) (oi := ⟨some 34, Op.load 22 (Operand.tmp 33), 22, _, _, none⟩) (v := .slice (some ⟨g, 0, none⟩) cs.length vc) rfl hHeld ?_
  refine TkJ (i := 8) (oi := ⟨some 35, Op.move (Operand.tmp 6), 3, _, _, none⟩) (v := .int .i64 (i : Int)) rfl hHeld ?_
  refine TkJ (i := 9) (oi := ⟨some 36, Op.indexAddr 22 (Operand.tmp 34) (Operand.tmp 35), 0, _, _, none⟩) (v := .pointer (some ⟨g, i * 3, none⟩)) rfl hHeld ?_
  refine TkJ (i := 10) (oi := ⟨some 37, Op.fieldAddr 49 (Operand.tmp 36) 1, 0, _, _, none⟩) (v := .pointer (some ⟨g, i * 3 + 1, none⟩)) rfl hHeld ?_
  refine TkJ (i := 11) (oi := ⟨some 38, Op.load 40 (Operand.tmp 37), 40, _, _, none⟩) (v := .slice xa f.bs.length xc) rfl hHeld ?_
  refine TkJ (i := 12) (oi := ⟨some 39, Op.call { callee := Callee.builtin Builtin.len, args := #[Operand.tmp 38], argTypes := #[40] }, 3, _, _, none⟩) (v := .int .i64 (f.bs.length : Int)) rfl hHeld ?_
  refine wpAnyH_ready (rs := [3]) (by kernel_rfl) (by simp) ?_
  refine AllReadyH.cons (o := ⟨some 30, Op.load 3 (Operand.tmp 29), 3, _, _, none⟩) rfl (fun K hK => ?_) AllReadyH.nil
  rw [if_pos (by rfl)]
  have cl : wq.drew.cell? ⟨p, 2, none⟩ = some (.int .i64 D.used) := HD1.out.blk.drew.c 2 rfl
  refine wp_val (.int .i64 D.used) (by go_simp) ?_
  clear cl
  refine hK _ _ hS0.out fun hH1 => ?_
  clear hK
  simp only [Act.put, pqA, pqB, pqC]
  refine TkJ (i := 13) (oi := ⟨some 40, Op.binOp BinOp.sub 3 (Operand.tmp 30) (Operand.tmp 39) 3, 3, _, _, none⟩) (v := .int .i64 (D.used - (f.bs.length : Int))) rfl hH1 ?_
  refine TkJ (i := 14) (oi := ⟨some 41, Op.nilCheck (Operand.tmp 27), 0, _, _, none⟩) (v := .pointer (some ⟨p, 0, none⟩)) rfl hH1 ?_
  refine TkJ (i := 15) (oi := ⟨some 42, Op.fieldAddr 71 (Operand.tmp 41) 2, 0, _, _, none⟩) (v := .pointer (some ⟨p, 2, none⟩)) rfl hH1 ?_
  refine wpAnyH_ready (rs := [16]) (by kernel_rfl) (by simp) ?_
  refine AllReadyH.cons (o := ⟨none, Op.store 3 (Operand.tmp 42) (Operand.tmp 40), 0, _, _, none⟩) rfl (fun K hK => ?_) AllReadyH.nil
  rw [if_pos (by rfl)]
  have f_o := HD1.out.blk.drew.frozen 2
  have cl : wq.drew.cell? ⟨p, 2, none⟩ = some (.int .i64 D.used) := HD1.out.blk.drew.c 2 rfl
  refine wp_cellS (wq.drew.setCell ⟨p, 2, none⟩ (.int .i64 (D.used - (f.bs.length : Int)))) (by go_simp) ?_
  clear f_o cl
  have HD2 : Keep (DskAt (wq.drew.setCell ⟨p, 2, none⟩ (.int .i64 (D.used - (f.bs.length : Int)))) p (.slice (some ⟨g, 0, none⟩) cs.length vc) cs { D.act with used := D.used - (f.bs.length : Int) }) := ⟨(HD1.out.grown (Grown.refl wq (fun _ => False)).drew fun _ _ h => h).put rfl rfl⟩
  have G2 : Keep (Grown w (wq.drew.setCell ⟨p, 2, none⟩ (.int .i64 (D.used - (f.bs.length : Int)))) fun k => k = p) := ⟨G1.out.drew.trans (Grown.setCell wq.drew p 2 _ fun _ => rfl)⟩
  refine hK _ _ ⟨HD2.out.blk.c 0 rfl, (Grown.setCell wq.drew p 2 _ (S := fun k => k = p) fun _ => rfl).cell hS0.out.2 (fun e => hgp.out e)⟩ fun hH2 => ?_
  clear hK HD1 G1 hS0 hwu HXr
  generalize (wq.drew.setCell ⟨p, 2, none⟩ (.int .i64 (D.used - (f.bs.length : Int)))) = w2 at *
  simp only [Act.put, pqA, pqB, pqC]
  refine wpAnyH_done (by kernel_rfl) ?_ _
  refine hK11 _ _ ?_
  refine wp_seq_k fun K12 hK12 => rgn ?_
  refine WL.bs (by kernel_rfl) 22 0 _ rfl #[] (by simp) _ _ (bsFE w2) ?_
  have HN3 := Keep.mk (ownF_empty w2)
  have hbx := below_new w2 (.cells #[] 49)
  have HD3 := Keep.mk (HD2.out.below hbx)
  have B3 : Keep (Below w2.heap.size w2 (w2.alloc (.cells #[] 49))) := ⟨hbx⟩
  clear hbx
  generalize w2.alloc (.cells #[] 49) = w3 at *
  obtain ⟨g3, hg3⟩ : ∃ g, Keep (g = w2.heap.size) := ⟨_, ⟨rfl⟩⟩
  rw [← hg3.out] at HN3 ⊢
  have N3 : Keep (NewF w2.heap.size (.slice (some ⟨g3, 0, none⟩) 0 0)) := ⟨NewF.at (by rw [hg3.out]; exact Nat.le_refl _)⟩
  have c0 := HD3.out.blk.c 0 (by rfl : (stA (.slice (some ⟨g, 0, none⟩) cs.length vc) D)[0]? = some (.slice (some ⟨g, 0, none⟩) cs.length vc))
  have hil : Keep (i < cs.length) := ⟨by omega⟩
  obtain ⟨vs1, hs1, hs2⟩ := slF_hi HD3.out.own i (by omega)
  have HS1 := Keep.mk (hs1 w3)
  have HS2 := Keep.mk (hs2 w3 HD3.out.own)
  clear hs1 hs2
  simp only [Act.put, pqA, pqB, pqC]
  refine VlS (.pointer (some ⟨p, 0, none⟩)) ?_
  refine VlS (.pointer (some ⟨p, 0, none⟩)) ?_
  refine VlS (.pointer (some ⟨p, 0, none⟩)) ?_
  refine VlS (.slice (some ⟨g, 0, none⟩) cs.length vc) ?_
  refine VlS (.int .i64 (i : Int)) ?_
  refine WL.slHi (by kernel_rfl) (.tmp 47) (.tmp 48) rfl (.slice (some ⟨g, 0, none⟩) cs.length vc) (.int .i64 (i : Int)) vs1 rfl rfl HS1.out ?_
  simp only [Act.put, pqA, pqB, pqC]
  refine WL.appS (by kernel_rfl) (.tmp 43) (.tmp 49) rfl (.slice (some ⟨g3, 0, none⟩) 0 0) vs1 [] (cs.take i) (fun x hx => HD3.out.fcs.sl x (List.mem_of_mem_take hx)) rfl rfl HN3.out HS2.out (by simp; have := HL.out; omega) fun v4 w4 ho hg hm => ?_
  have HO4 := Keep.mk ho
  have N4 : Keep (NewF w2.heap.size v4) := ⟨NewF.moved N3.out B3.out.size hm⟩
  have B4 : Keep (Below w2.heap.size w2 w4) := ⟨newF_below N3.out B3.out hg⟩
  have HD4 := Keep.mk (HD2.out.below B4.out)
  clear ho hg hm HD3 HS1 HS2 c0
  obtain ⟨a4, k4, e4⟩ := HO4.out.sl
  subst e4
  obtain ⟨n4, hn4⟩ : ∃ q, Keep (q = (([] : List FC) ++ cs.take i).length) := ⟨_, ⟨rfl⟩⟩
  rw [← hn4.out] at HO4 N4 ⊢
  have c0 := HD4.out.blk.c 0 (by rfl : (stA (.slice (some ⟨g, 0, none⟩) cs.length vc) D)[0]? = some (.slice (some ⟨g, 0, none⟩) cs.length vc))
  have hw1 : IntKind.i64.wrap ((i : Int) + 1) = ((i + 1 : Nat) : Int) := by rw [IntKind.wrap_i64]; have := HL.out; omega
  obtain ⟨vs2, hs1, hs2⟩ := slF_lo HD4.out.own (i + 1) (by omega)
  have HS1 := Keep.mk (hs1 w4)
  have HS2 := Keep.mk (hs2 w4 HD4.out.own)
  clear hs1 hs2
  simp only [Act.put, pqA, pqB, pqC]
  refine VlS (.slice a4 n4 k4) ?_
  refine WL.nil (hK12 _ _ ?_)
  refine wp_seq_k fun K13 hK13 => rgn ?_
  refine VlS (.pointer (some ⟨p, 0, none⟩)) ?_
  refine VlS (.slice a4 n4 k4) ?_
  refine VlS (.pointer (some ⟨p, 0, none⟩)) ?_
  refine VlS (.pointer (some ⟨p, 0, none⟩)) ?_
  refine VlS (.pointer (some ⟨p, 0, none⟩)) ?_
  refine VlS (.slice (some ⟨g, 0, none⟩) cs.length vc) ?_
  refine VlS (.int .i64 (i : Int)) ?_
  refine VlS (.int .i64 ((i + 1 : Nat) : Int)) ?_
  refine WL.slLo (by kernel_rfl) (.tmp 56) (.tmp 58) rfl (.slice (some ⟨g, 0, none⟩) cs.length vc) (.int .i64 ((i + 1 : Nat) : Int)) vs2 rfl rfl HS1.out ?_
  simp only [Act.put, pqA, pqB, pqC]
  refine WL.appS (by kernel_rfl) (.tmp 52) (.tmp 59) rfl (.slice a4 n4 k4) vs2 ([] ++ cs.take i) (cs.drop (i + 1)) (fun x hx => HD4.out.fcs.sl x (List.mem_of_mem_drop hx)) rfl rfl HO4.out HS2.out (by simp; have := HL.out; omega) fun v7 w7 ho hg hm => ?_
  have HO7 : Keep (OwnF w7 v7 (cs.take i ++ cs.drop (i + 1))) := ⟨by rw [List.nil_append] at ho; exact ho⟩
  have N7 : Keep (NewF w2.heap.size v7) := ⟨NewF.moved N4.out B4.out.size hm⟩
  have B7 : Keep (Below w2.heap.size w2 w7) := ⟨newF_below N4.out B4.out hg⟩
  have HD7 := Keep.mk (HD2.out.below B7.out)
  clear ho hg hm HD4 HS1 HS2 c0 hw1
  obtain ⟨a7, k7, e7⟩ := HO7.out.sl
  subst e7
  obtain ⟨n7, hn7⟩ : ∃ q, Keep (q = (cs.take i ++ cs.drop (i + 1)).length) := ⟨_, ⟨rfl⟩⟩
  rw [← hn7.out] at HO7 N7 ⊢
  have f_o := HD7.out.blk.frozen 0
  have c0 := HD7.out.blk.c 0 (by rfl : (stA (.slice (some ⟨g, 0, none⟩) cs.length vc) D)[0]? = some (.slice (some ⟨g, 0, none⟩) cs.length vc))
  simp only [Act.put, pqA, pqB, pqC]
  refine VlS (.pointer (some ⟨p, 0, none⟩)) ?_
  refine VlS (.pointer (some ⟨p, 0, none⟩)) ?_
  refine WL.cell (by kernel_rfl) (w7.setCell ⟨p, 0, none⟩ (.slice a7 n7 k7)) (by go_simp) ?_
  clear f_o c0
  have HD8 := Keep.mk (dsk_del HD7.out HO7.out (by intro e; have := N7.out p e; have := HD2.out.blk.lt; omega) hil.out)
  have G8 : Keep (Grown w (w7.setCell ⟨p, 0, none⟩ (.slice a7 n7 k7)) fun k => k = p) := ⟨(G2.out.trans (Grown.below B7.out)).trans (Grown.setCell w7 p 0 _ fun _ => rfl)⟩
  generalize w7.setCell ⟨p, 0, none⟩ (.slice a7 n7 k7) = w8 at *
  simp only [Act.put]
  refine WL.nil (hK13 _ _ ?_)
  refine wp_seq_k fun K14 hK14 => rgn ?_
  refine VlS (.int .i64 0) ?_
  refine WL.nil (hK14 _ _ ?_)
  refine wp_ret ?_
  go_ret
  exact ⟨by unfold pw; rw [if_neg hfu]; rfl, _, _, by rw [if_neg hfu]; exact HD8.out, G8.out, dskS_del N7.out (G2.out.size) hil.out⟩
end Go.Proofs.YteijjfeainamdaaGreatDoor
