import Derived.Test.YtkcdoamohiaiaaaF08
import Derived.Test.YtkcdoamohiaiaaaF04
import Derived.Test.YtkcdoamohiaiaaaF06
import Derived.Deep.DeepAppendWide
import Derived.LaidEql
namespace Go.Proofs.Ytkcdoamohiaiaaa
open Go.RowKit
set_option linter.unusedSimpArgs false
set_option linter.unusedVariables false



def setF (i : Nat) (Y M : MsgV) : MsgV := if i = 0 then { M with hd := Y.hd } else if i = 1 then { M with sa := Y.sa } else if i = 2 then { M with bl := Y.bl } else if i = 3 then { M with wt := Y.wt } else { M with bk := Y.bk }
theorem fit_le : ∀ (rs : List (List Int)) (i a : Nat), fitG rs i a ≤ i + rs.length
  | [], i, a => Nat.le_refl _
  | r :: rs, i, a => by
    rw [fitG, List.length_cons]
    split
    · omega
    · have := fit_le rs (i + 1) (a + (bform r).length)
      omega
theorem fit_ge : ∀ (rs : List (List Int)) (i a : Nat), i ≤ fitG rs i a
  | [], i, a => Nat.le_refl _
  | r :: rs, i, a => by
    rw [fitG]
    split
    · omega
    · have := fit_ge rs (i + 1) (a + (bform r).length)
      omega
theorem five {i : Nat} (h : i < 5) : i = 0 ∨ i = 1 ∨ i = 2 ∨ i = 3 ∨ i = 4 := by omega
theorem set_ne (i j : Nat) (Y Z M : MsgV) (hi : i < 5) (hj : j < 5) (h : j ≠ i) : setF j (setF i Y Z) M = setF j Z M := by
  rcases five hi with rfl | rfl | rfl | rfl | rfl <;> rcases five hj with rfl | rfl | rfl | rfl | rfl <;> first | rfl | exact absurd rfl h
end Go.Proofs.Ytkcdoamohiaiaaa
namespace Go.Proofs.Ytkcdoamohiaiaaa
open Go.RowKit
theorem Try.in7 (w : World) (vs : Array Value) : (callFunc 7 vs).run Try.prog w = .ok (.enter 7 vs) w := by kernel_rfl
theorem bs_refl (a : ByteArray) : (a == a) = true := by rw [beq_toListBytes]; simp
set_option maxRecDepth 8000 in
set_option maxHeartbeats 2000000 in
theorem sameRows_refl (v1 v2 : Value) (ls : List (List Int)) (w : World) (h1 : RwsAt w v1 ls) (h2 : RwsAt w v2 ls) (hn : (ls.length : Int) ≤ 9223372036854775806) :
    Calls Try.prog 7 #[v1, v2] w fun e w' => e = .returned (.bool true) ∧ ∃ q, w' = w.drewN q := by
  obtain ⟨pa, pc, rfl⟩ := h1.form
  obtain ⟨qa, qc, rfl⟩ := h2.form
  have H1 := Keep.mk h1
  have H2 := Keep.mk h2
  clear h1 h2
  go_enter Try.func7, Try.ntmps7
  refine wp_seq_k fun K1 hK1 => ?_
  refine wp_region_list (WL.out ?_)
  refine WL.val (by kernel_rfl) (.bool false) (by go_simp) ?_
  simp only [Act.put, List.setIfInBounds_toArray, List.set_cons_zero, List.set_cons_succ]
  refine WL.nil ?_
  refine hK1 _ _ ?_
  refine wp_seq_k fun K2 hK2 => ?_
  refine wp_seq_k fun K3 hK3 => ?_
  refine wp_region_list (WL.out ?_)
  refine WL.val (by kernel_rfl) (.slice pa ls.length pc) (by go_simp) ?_
  simp only [Act.put, List.setIfInBounds_toArray, List.set_cons_zero, List.set_cons_succ]
  refine WL.val (by kernel_rfl) (.int .i64 (ls.length : Int)) (by go_simp) ?_
  simp only [Act.put, List.setIfInBounds_toArray, List.set_cons_zero, List.set_cons_succ]
  refine WL.val (by kernel_rfl) (.slice qa ls.length qc) (by go_simp) ?_
  simp only [Act.put, List.setIfInBounds_toArray, List.set_cons_zero, List.set_cons_succ]
  refine WL.val (by kernel_rfl) (.int .i64 (ls.length : Int)) (by go_simp) ?_
  simp only [Act.put, List.setIfInBounds_toArray, List.set_cons_zero, List.set_cons_succ]
  refine WL.val (by kernel_rfl) (.bool false) (by go_simp) ?_
  simp only [Act.put, List.setIfInBounds_toArray, List.set_cons_zero, List.set_cons_succ]
  refine WL.nil ?_
  refine hK3 _ _ ?_
  refine wp_cond_false rfl ?_
  refine wp_skip ?_
  refine hK2 _ _ ?_
  refine wp_seq_k fun K4 hK4 => ?_
  refine wp_seq_k fun K5 hK5 => ?_
  refine wp_region_list (WL.out ?_)
  refine WL.val (by kernel_rfl) (.int .i64 0) (by go_simp) ?_
  simp only [Act.put, List.setIfInBounds_toArray, List.set_cons_zero, List.set_cons_succ]
  refine WL.nil ?_
  refine hK5 _ _ ?_
  refine wp_block ?_
  refine wp_loop (fun ac wr => ∃ (t : Nat) (u4 u11 u12 u13 u14 u15 u16 u17 u18 u19 u20 u21 u22 u23 u24 u25 u26 u27 : Value), ac = { tmps := #[.slice pa ls.length pc, .slice qa ls.length qc, undef, undef, u4, .int .i64 (t : Int), .slice pa ls.length pc, .int .i64 (ls.length : Int), .slice qa ls.length qc, .int .i64 (ls.length : Int), .bool false, u11, u12, u13, u14, u15, u16, u17, u18, u19, u20, u21, u22, u23, u24, u25, u26, u27], defers := [] } ∧ t ≤ ls.length ∧ ∃ n, wr = w.drewN n) (fun a _ => ls.length - (intOf (a.tmps.getD 5 undef)).toNat) ⟨0, .bool false, undef, undef, undef, undef, undef, undef, undef, undef, undef, undef, undef, undef, undef, undef, undef, undef, undef, rfl, by omega, 0, rfl⟩ ?_
  rintro ac wr ⟨t, u4, u11, u12, u13, u14, u15, u16, u17, u18, u19, u20, u21, u22, u23, u24, u25, u26, u27, rfl, ht, hB⟩
  by_cases hlt : t < ls.length
  · have hlt' : (t : Int) < (ls.length : Int) := by omega
    have hwt : IntKind.i64.wrap ((t : Int) + 1) = (t : Int) + 1 := by rw [IntKind.wrap_i64]; omega
    obtain ⟨b, ob, xa, xc, hq, _, x1, x2⟩ := H1.out.at t hlt
    subst hq
    obtain ⟨d, od, ya, yc, hq, _, y1, y2⟩ := H2.out.at t hlt
    subst hq
    obtain ⟨st, hst⟩ : ∃ st, strOfNums (ls.getD t []) = st := ⟨_, rfl⟩
    have Hst := Keep.mk hst
    clear hst
    obtain ⟨N, hN⟩ : ∃ N, N = (ls.getD t []).length := ⟨_, rfl⟩
    rw [← hN] at x1 y1 x2 y2
    clear hN
    have X1 := Keep.mk x1
    have Y1 := Keep.mk y1
    have X2 := Keep.mk x2
    have Y2 := Keep.mk y2
    clear x1 y1 x2 y2
    have HS0 : Keep ((wr.drew).cell? ⟨b, ob + t, none⟩ = some (.slice xa N xc) ∧ (wr.drew).cell? ⟨d, od + t, none⟩ = some (.slice ya N yc) ∧ RowAt wr.drew (.slice xa N xc) (ls.getD t []) ∧ RowAt wr.drew (.slice ya N yc) (ls.getD t [])) := ⟨by obtain ⟨n, rfl⟩ := hB; exact ⟨X1.out, Y1.out, X2.out, Y2.out⟩⟩
    refine wp_seq_k fun K6 hK6 => ?_
    refine wp_seq_k fun K7 hK7 => ?_
    refine wp_region_list (WL.out ?_)
    refine WL.val (by kernel_rfl) (.int .i64 (t : Int)) (by go_simp) ?_
    simp only [Act.put, List.setIfInBounds_toArray, List.set_cons_zero, List.set_cons_succ]
    refine WL.val (by kernel_rfl) (.slice (some ⟨b, ob, none⟩) ls.length pc) (by go_simp) ?_
    simp only [Act.put, List.setIfInBounds_toArray, List.set_cons_zero, List.set_cons_succ]
    refine WL.val (by kernel_rfl) (.int .i64 (ls.length : Int)) (by go_simp) ?_
    simp only [Act.put, List.setIfInBounds_toArray, List.set_cons_zero, List.set_cons_succ]
    refine WL.val (by kernel_rfl) (.bool true) (by go_simp) ?_
    simp only [Act.put, List.setIfInBounds_toArray, List.set_cons_zero, List.set_cons_succ]
    refine WL.nil ?_
    refine hK7 _ _ ?_
    refine wp_cond_true rfl ?_
    refine wp_skip ?_
    refine hK6 _ _ ?_
    refine wp_seq_k fun K8 hK8 => ?_
    refine wp_block ?_
    refine wp_seq_k fun K9 hK9 => ?_
    refine wp_region_held_drew (S := fun wx => wx.cell? ⟨b, ob + t, none⟩ = some (.slice xa N xc) ∧ wx.cell? ⟨d, od + t, none⟩ = some (.slice ya N yc) ∧ RowAt wx (.slice xa N xc) (ls.getD t []) ∧ RowAt wx (.slice ya N yc) (ls.getD t [])) (by kernel_rfl) (HS0.out) (fun hHeld => ?_)
    refine wpAnyH_take (i := 0) (oi := ⟨some 17, Op.move (Operand.tmp 0), 22, _, _, none⟩) (v := .slice (some ⟨b, ob, none⟩) ls.length pc) rfl (by kernel_rfl) (by kernel_rfl) (by kernel_rfl) (fun _ _ _ h => h) (Or.inl ⟨by rfl, fun w hS => by go_simp⟩) hHeld ?_
    simp only [Act.put, List.setIfInBounds_toArray, List.set_cons_zero, List.set_cons_succ]
    refine wpAnyH_take (i := 1) (oi := ⟨some 18, Op.move (Operand.tmp 5), 3, _, _, none⟩) (v := .int .i64 (t : Int)) rfl (by kernel_rfl) (by kernel_rfl) (by kernel_rfl) (fun _ _ _ h => h) (Or.inl ⟨by rfl, fun w hS => by go_simp⟩) hHeld ?_
    simp only [Act.put, List.setIfInBounds_toArray, List.set_cons_zero, List.set_cons_succ]
    refine wpAnyH_take (i := 2) (oi := ⟨some 19, Op.indexAddr 22 (Operand.tmp 17) (Operand.tmp 18), 0, _, _, none⟩) (v := .pointer (some ⟨b, ob + t, none⟩)) rfl (by kernel_rfl) (by kernel_rfl) (by kernel_rfl) (fun _ _ _ h => h) (Or.inl ⟨by rfl, fun w hS => by go_simp⟩) hHeld ?_
    simp only [Act.put, List.setIfInBounds_toArray, List.set_cons_zero, List.set_cons_succ]
    refine wpAnyH_take (i := 3) (oi := ⟨some 20, Op.load 30 (Operand.tmp 19), 30, _, _, none⟩) (v := .slice xa N xc) rfl (by kernel_rfl) (by kernel_rfl) (by kernel_rfl) (fun _ _ _ h => h) (Or.inl ⟨by rfl, fun w hS => by have h := hS.1; clear hS; go_simp⟩) hHeld ?_
    simp only [Act.put, List.setIfInBounds_toArray, List.set_cons_zero, List.set_cons_succ]
    refine wpAnyH_take (i := 4) (oi := ⟨some 21, Op.convert 30 9 (Operand.tmp 20), 9, _, _, none⟩) (v := .string st) rfl (by kernel_rfl) (by kernel_rfl) (by kernel_rfl) (fun _ _ _ h => h) (Or.inl ⟨by rfl, fun w hS => by have h1 := conv_row _ _ w hS.2.2.1; rw [Hst.out] at h1; clear hS; go_simp⟩) hHeld ?_
    simp only [Act.put, List.setIfInBounds_toArray, List.set_cons_zero, List.set_cons_succ]
    refine wpAnyH_take (i := 5) (oi := ⟨some 22, Op.move (Operand.tmp 1), 22, _, _, none⟩) (v := .slice (some ⟨d, od, none⟩) ls.length qc) rfl (by kernel_rfl) (by kernel_rfl) (by kernel_rfl) (fun _ _ _ h => h) (Or.inl ⟨by rfl, fun w hS => by go_simp⟩) hHeld ?_
    simp only [Act.put, List.setIfInBounds_toArray, List.set_cons_zero, List.set_cons_succ]
    refine wpAnyH_take (i := 6) (oi := ⟨some 23, Op.move (Operand.tmp 5), 3, _, _, none⟩) (v := .int .i64 (t : Int)) rfl (by kernel_rfl) (by kernel_rfl) (by kernel_rfl) (fun _ _ _ h => h) (Or.inl ⟨by rfl, fun w hS => by go_simp⟩) hHeld ?_
    simp only [Act.put, List.setIfInBounds_toArray, List.set_cons_zero, List.set_cons_succ]
    refine wpAnyH_take (i := 7) (oi := ⟨some 24, Op.indexAddr 22 (Operand.tmp 22) (Operand.tmp 23), 0, _, _, none⟩) (v := .pointer (some ⟨d, od + t, none⟩)) rfl (by kernel_rfl) (by kernel_rfl) (by kernel_rfl) (fun _ _ _ h => h) (Or.inl ⟨by rfl, fun w hS => by go_simp⟩) hHeld ?_
    simp only [Act.put, List.setIfInBounds_toArray, List.set_cons_zero, List.set_cons_succ]
    refine wpAnyH_take (i := 8) (oi := ⟨some 25, Op.load 30 (Operand.tmp 24), 30, _, _, none⟩) (v := .slice ya N yc) rfl (by kernel_rfl) (by kernel_rfl) (by kernel_rfl) (fun _ _ _ h => h) (Or.inl ⟨by rfl, fun w hS => by have h := hS.2.1; clear hS; go_simp⟩) hHeld ?_
    simp only [Act.put, List.setIfInBounds_toArray, List.set_cons_zero, List.set_cons_succ]
    refine wpAnyH_take (i := 9) (oi := ⟨some 26, Op.convert 30 9 (Operand.tmp 25), 9, _, _, none⟩) (v := .string st) rfl (by kernel_rfl) (by kernel_rfl) (by kernel_rfl) (fun _ _ _ h => h) (Or.inl ⟨by rfl, fun w hS => by have h1 := conv_row _ _ w hS.2.2.2; rw [Hst.out] at h1; clear hS; go_simp⟩) hHeld ?_
    simp only [Act.put, List.setIfInBounds_toArray, List.set_cons_zero, List.set_cons_succ]
    refine wpAnyH_take (i := 10) (oi := ⟨some 27, Op.binOp BinOp.neq 9 (Operand.tmp 21) (Operand.tmp 26) 9, 4, _, _, none⟩) (v := .bool false) rfl (by kernel_rfl) (by kernel_rfl) (by kernel_rfl) (fun _ _ _ h => h) (Or.inl ⟨by rfl, fun w hS => by have h1 := bs_refl st; clear hS; go_simp⟩) hHeld ?_
    simp only [Act.put, List.setIfInBounds_toArray, List.set_cons_zero, List.set_cons_succ]
    refine wpAnyH_done (by kernel_rfl) ?_ _
    refine hK9 _ _ ?_
    refine wp_cond_false rfl ?_
    refine wp_skip ?_
    refine hK8 _ _ ?_
    refine wp_region_list (WL.out ?_)
    refine WL.val (by kernel_rfl) (.int .i64 (t : Int)) (by go_simp) ?_
    simp only [Act.put, List.setIfInBounds_toArray, List.set_cons_zero, List.set_cons_succ]
    refine WL.val (by kernel_rfl) (.int .i64 ((t : Int) + 1)) (by go_simp) ?_
    simp only [Act.put, List.setIfInBounds_toArray, List.set_cons_zero, List.set_cons_succ]
    refine WL.val (by kernel_rfl) (.int .i64 ((t : Int) + 1)) (by go_simp) ?_
    simp only [Act.put, List.setIfInBounds_toArray, List.set_cons_zero, List.set_cons_succ]
    refine WL.nil ?_
    refine ⟨⟨t + 1, u4, .int .i64 (t : Int), .slice (some ⟨b, ob, none⟩) ls.length pc, .int .i64 (ls.length : Int), .bool true, .int .i64 (t : Int), .int .i64 ((t : Int) + 1), .slice (some ⟨b, ob, none⟩) ls.length pc, .int .i64 (t : Int), .pointer (some ⟨b, ob + t, none⟩), .slice xa N xc, .string st, .slice (some ⟨d, od, none⟩) ls.length qc, .int .i64 (t : Int), .pointer (some ⟨d, od + t, none⟩), .slice ya N yc, .string st, .bool false, rfl, by omega, by obtain ⟨n, rfl⟩ := hB; exact ⟨n + 1, by first | rfl | simp [World.drewN, World.drew]⟩⟩, by simp [intOf]; omega⟩
  · have htl' : ¬ (t : Int) < (ls.length : Int) := by omega
    refine wp_seq_k fun K10 hK10 => ?_
    refine wp_seq_k fun K11 hK11 => ?_
    refine wp_region_list (WL.out ?_)
    refine WL.val (by kernel_rfl) (.int .i64 (t : Int)) (by go_simp) ?_
    simp only [Act.put, List.setIfInBounds_toArray, List.set_cons_zero, List.set_cons_succ]
    refine WL.val (by kernel_rfl) (.slice pa ls.length pc) (by go_simp) ?_
    simp only [Act.put, List.setIfInBounds_toArray, List.set_cons_zero, List.set_cons_succ]
    refine WL.val (by kernel_rfl) (.int .i64 (ls.length : Int)) (by go_simp) ?_
    simp only [Act.put, List.setIfInBounds_toArray, List.set_cons_zero, List.set_cons_succ]
    refine WL.val (by kernel_rfl) (.bool false) (by go_simp) ?_
    simp only [Act.put, List.setIfInBounds_toArray, List.set_cons_zero, List.set_cons_succ]
    refine WL.nil ?_
    refine hK11 _ _ ?_
    refine wp_cond_false rfl ?_
    refine wp_exit ?_
    refine hK4 _ _ ?_
    refine wp_seq_k fun K12 hK12 => ?_
    refine wp_region_list (WL.out ?_)
    refine WL.val (by kernel_rfl) (.bool true) (by go_simp) ?_
    simp only [Act.put, List.setIfInBounds_toArray, List.set_cons_zero, List.set_cons_succ]
    refine WL.nil ?_
    refine hK12 _ _ ?_
    refine wp_ret ?_
    go_ret
    exact ⟨rfl, hB⟩
end Go.Proofs.Ytkcdoamohiaiaaa
namespace Go.Proofs.Ytkcdoamohiaiaaa
open Go.RowKit
set_option linter.unusedSimpArgs false
set_option linter.unusedVariables false

theorem run_appW_cells (w : World) (ty : TypeId) (v : Value) (l : List Int) (hown : Own w v l) (a : Addr) (c : Nat) (m : List Int) (hnews : ∀ j u, (bv m)[j]? = some u → w.cell? (a.add j) = some u) (hb : l.length + m.length ≤ 200000000000000) :
    ∃ v' w', (Builtin.append_ #[30, 30] ty #[v, .slice (some a) m.length c]).run Try.prog w = .ok v' w' ∧ AppPost w v (l ++ m) v' w' := by
  obtain ⟨i, hi, hzz⟩ := Option.map_eq_some_iff.1 Try.info5
  simp only [Prod.mk.injEq] at hzz
  obtain ⟨hz, hsz, hby⟩ := hzz
  have h63 : l.length + m.length ≤ maxLen := by unfold maxLen; omega
  have hlm : (bv m).length = m.length * i.size := by rw [bv_len, hsz]; omega
  obtain ⟨v', w', hr, h1, h2, h3⟩ := run_append_own_wide (P := Try.prog) w 0 30 ty 5 i (.int .u8 0) 1 1 Try.underlying30 hi hz hsz hby rfl (by omega) v l.length (bv l) hown a m.length c (bv m) (by rw [bv_len]; omega) hnews (bv_one m) h63 (by omega) (Nat.zero_le _)
  have hO : Own w' v' (l ++ m) := by unfold Own; rw [List.length_append, bv_app]; exact h1
  refine ⟨v', w', hr, hO, ?_⟩
  rcases hown.form with ⟨rfl, rfl⟩ | ⟨g, cap, cur, rfl, hg, hnc, hcm, hcs, htake⟩
  · by_cases hm : m.length = 0
    · have e := h3.2 ⟨rfl, hm⟩
      subst e
      exact .inl ⟨rfl, Grown.of h2 fun k _ e => by simp [Value.ownBlock] at e⟩
    · have hr2 := run_append_nil (P := Try.prog) w 30 ty 5 i (.int .u8 0) Try.underlying30 hi hz a m.length c (bv m) hlm hnews (by omega) (by omega) (by rw [hby]; omega)
      have e := hr.symm.trans hr2
      injection e with e1 e2
      subst e1 e2
      exact .inr ⟨rfl, ⟨rfl, rfl, rfl, by simp, fun k hk => Below.heap_alloc w.drew _ k hk⟩⟩
  · by_cases hroom : l.length + m.length ≤ cap
    · have hr2 := run_append_room (P := Try.prog) w 30 ty 5 i Try.underlying30 hi g l.length cap cur hg a m.length c (bv m) hlm hnews (bv_one m) hroom (by rw [hsz, bv_len, hcs]; omega)
      have e := hr.symm.trans hr2
      injection e with e1 e2
      subst e1
      exact .inl ⟨rfl, Grown.of h2 fun k _ e => e⟩
    · have holds : ∀ j u, (bv l)[j]? = some u → w.cell? ((⟨g, 0, none⟩ : Addr).add j) = some u := World.ownsRow.cells (g := g) hown rfl
      have hr2 := run_append_grow (P := Try.prog) w 30 ty 5 i (.int .u8 0) Try.underlying30 hi hz ⟨g, 0, none⟩ l.length cap (bv l) (by rw [bv_len, hsz]; omega) holds a m.length c (bv m) hlm hnews (by omega) (by omega) (by rw [hby]; exact growslice_fits_wide (by omega) (by omega))
      have e := hr.symm.trans hr2
      injection e with e1 e2
      subst e1 e2
      exact .inr ⟨rfl, ⟨rfl, rfl, rfl, by simp, fun k hk => Below.heap_alloc w.drew _ k hk⟩⟩
theorem run_appW_row (w : World) (ty : TypeId) (v vx : Value) (l m : List Int) (hown : Own w v l) (hrow : RowAt w vx m) (hb : l.length + m.length ≤ 200000000000000) :
    ∃ v' w', (Builtin.append_ #[30, 30] ty #[v, vx]).run Try.prog w = .ok v' w' ∧ AppPost w v (l ++ m) v' w' := by
  rcases hrow with ⟨rfl, rfl⟩ | ⟨ad, c, rfl, rfl⟩ | ⟨b, off, cap, rfl, hcap, hc⟩
  · obtain ⟨i, hi, _⟩ := Option.map_eq_some_iff.1 Try.info5
    have hrun := run_append_owned_none (P := Try.prog) (w := w) 0 30 ty 5 i 1 Try.underlying30 hi v l.length (bv l) hown
    exact ⟨v, w, hrun, by simpa using hown, .inl ⟨rfl, Grown.refl _ _⟩⟩
  · exact run_appW_cells w ty v l hown ad c [] (fun j u hu => by simp [bv] at hu) hb
  · refine run_appW_cells w ty v l hown ⟨b, off, none⟩ cap m (fun j u hu => ?_) hb
    have hj : j < m.length := by have := (List.getElem?_eq_some_iff.1 hu).1; rwa [bv_len] at this
    rw [bv_get m j hj] at hu
    rw [Addr.add_mid, hc j hj]; exact hu
theorem WL.appW {ops : Array Oper} {rest : List Oper} {o : Oper} {a : Act} {w : World} {Q : Exit → Act → World → Prop} (hw : Region.wanted o (yielded ops a.tmps) = true) (s x : Operand)
    (ho : o.op = .call { callee := .builtin .append, args := #[s, x], argTypes := #[30, 30] }) (v vx : Value) (l m : List Int)
    (hs : a.eval s = v) (hx : a.eval x = vx) (hown : Own w v l) (hrow : RowAt w vx m) (hb : l.length + m.length ≤ 200000000000000)
    (h : ∀ v' w', AppPost w v (l ++ m) v' w' → WL Try.prog ops Q rest (a.put o.dst v') w') : WL Try.prog ops Q (o :: rest) a w :=
  ⟨wpList_wanted hw fun K hK => by
    obtain ⟨v', w', hr, h2⟩ := run_appW_row w o.type v vx l m hown hrow hb
    unfold Oper.wp execOp
    simp only [ho, resolve, invoke, builtin, Sem.run_bind, Sem.run_pure, Result.andThen_ok, List.map_toArray, List.map_cons, List.map_nil, hs, hx, hr]
    exact hK _ _ (h v' w' h2).out⟩
end Go.Proofs.Ytkcdoamohiaiaaa
namespace Go.Proofs.Ytkcdoamohiaiaaa
open Go.RowKit


theorem own_empty (w : World) (g : Nat) (h : Blk w g 5 #[]) : Own w (.slice (some ⟨g, 0, none⟩) 0 0) [] := Own.mk (l := []) h (Nat.le_refl _) (Nat.zero_le _) rfl (by simp [bv])
theorem yieldsIf_slice2 {P : Program} {ops : Array Oper} {S : World → Prop} {op : Oper} {a : Act} (hw : Region.wanted op (yielded ops a.tmps) = true) (t : TypeId) (x lo hi : Operand) (ho : op.op = .slice t x (some lo) (some hi) none)
    (vx vl vh vs : Value) (hx : a.eval x = vx) (hl : a.eval lo = vl) (hh : a.eval hi = vh) (hr : ∀ w : World, (Instr.sliceAt t vx (some vl) (some vh) none).run P w = .ok vs w) : YieldsIf P ops S op vs a :=
  .inl ⟨hw, fun w _ => by
    unfold execOp
    simp only [ho, hx, hl, hh, Option.map_some, Option.map_none, Sem.run_bind, hr w, Result.andThen_ok, Sem.run_pure]⟩


end Go.Proofs.Ytkcdoamohiaiaaa
namespace Go.Proofs.Ytkcdoamohiaiaaa
open Go.RowKit
set_option linter.unusedSimpArgs false
set_option linter.unusedVariables false

theorem Try.in18 (w : World) (vs : Array Value) : (callFunc 18 vs).run Try.prog w = .ok (.enter 18 vs) w := by kernel_rfl
theorem Try.in10 (w : World) (vs : Array Value) : (callFunc 10 vs).run Try.prog w = .ok (.enter 10 vs) w := by kernel_rfl
def mL (cs : List MC) : List Value := cs.flatMap fun c => (msA c).toList
theorem msA_len (c : MC) : (msA c).toList.length = 6 := rfl
theorem mL_get : ∀ (cs : List MC) (t : Nat) (c : MC) (_ : cs[t]? = some c) (j : Nat) (v : Value) (_ : (msA c).toList[j]? = some v), (mL cs)[t * 6 + j]? = some v
  | [], t, c, h, j, v, _ => by simp at h
  | d :: r, 0, c, h, j, v, hv => by
    simp at h
    subst h
    have hj : j < 6 := by have := (List.getElem?_eq_some_iff.1 hv).1; rwa [msA_len] at this
    unfold mL
    rw [List.flatMap_cons, List.getElem?_append_left (by rw [msA_len]; omega), Nat.zero_mul, Nat.zero_add]
    exact hv
  | d :: r, t + 1, c, h, j, v, hv => by
    have ih := mL_get r t c (by simpa using h) j v hv
    unfold mL at ih ⊢
    rw [List.flatMap_cons, List.getElem?_append_right (by rw [msA_len]; omega), msA_len, show (t + 1) * 6 + j - 6 = t * 6 + j by omega]
    exact ih
def OwnM (w : World) (v : Value) (cs : List MC) : Prop := w.ownsRow 0 32 6 v cs.length (mL cs)
theorem OwnM.form {w : World} {v : Value} {l : List MC} (h : OwnM w v l) : (v = .slice none 0 0 ∧ l = []) ∨ ∃ g cap cur, v = .slice (some ⟨g, 0, none⟩) l.length cap ∧ Blk w g 32 cur ∧ l.length ≤ cap ∧ cur.toList.take (l.length * 6) = mL l := by
  rcases h.2 with ⟨rfl, h0⟩ | ⟨g, cap, cur, rfl, _, h3, h4, h5, h6, h7⟩
  · exact .inl ⟨rfl, List.eq_nil_of_length_eq_zero h0⟩
  · exact .inr ⟨g, cap, cur, rfl, h3, h4, h7⟩
theorem OwnM.sl {w : World} {v : Value} {l : List MC} (h : OwnM w v l) : ∃ a c, v = .slice a l.length c := by
  rcases h.form with ⟨rfl, rfl⟩ | ⟨g, cap, cur, rfl, _⟩
  · exact ⟨_, _, rfl⟩
  · exact ⟨_, _, rfl⟩
theorem OwnM.lt {w : World} {v : Value} {l : List MC} (h : OwnM w v l) : ∀ k, v.ownBlock = some k → k < w.heap.size := fun k hk => (World.ownsRow.lt h k hk).2
theorem OwnM.grown {w w' : World} {v : Value} {l : List MC} {S : Nat → Prop} (h : OwnM w v l) (hg : Grown w w' S) (hs : ∀ k, v.ownBlock = some k → ¬ S k) : OwnM w' v l := by
  refine ⟨h.1, ?_⟩
  rcases h.2 with h1 | ⟨g, cap, cur, rfl, h2, h3, h4⟩
  · exact .inl h1
  · exact .inr ⟨g, cap, cur, rfl, h2, hg.blk h3 (hs g rfl), h4⟩
theorem OwnM.below {w w' : World} {v : Value} {l : List MC} (h : OwnM w v l) (hb : Below w.heap.size w w') : OwnM w' v l := h.grown (Grown.below (S := fun _ => False) hb) fun _ _ h => h
theorem OwnM.typ {w : World} {v : Value} {l : List MC} (h : OwnM w v l) {k : Nat} (hk : v.ownBlock = some k) : Typ w k 32 := by
  rcases h.form with ⟨rfl, _⟩ | ⟨g, cap, cur, rfl, h3, _⟩
  · simp [Value.ownBlock] at hk
  · simp [Value.ownBlock] at hk
    subst hk
    exact h3.typ
theorem OwnM.at {w : World} {a : Option Addr} {n cp : Nat} {l : List MC} (h : OwnM w (.slice a n cp) l) {t : Nat} {c : MC} (ht : l[t]? = some c) : ∃ g, a = some ⟨g, 0, none⟩ ∧ w.rangeAt g (t * 6) (msA c).toList := by
  rcases h.form with ⟨_, rfl⟩ | ⟨g, cap, cur, e, h3, h4, h5⟩
  · simp at ht
  · injection e with e1 _ _
    refine ⟨g, e1, fun j v hv => ?_⟩
    have h6 := mL_get l t c ht j v hv
    have hj : j < 6 := by have := (List.getElem?_eq_some_iff.1 hv).1; rwa [msA_len] at this
    have htl := (List.getElem?_eq_some_iff.1 ht).1
    rw [h3.cell, ← h6, ← h5, List.getElem?_take, if_pos (by omega), Array.getElem?_toList]
theorem ownM_empty (w : World) : OwnM (w.alloc (.cells #[] 32)) (.slice (some ⟨w.heap.size, 0, none⟩) 0 0) [] :=
  ⟨rfl, .inr ⟨w.heap.size, 0, #[], rfl, Nat.zero_le _, Blk.new w 32 #[], Nat.le_refl _, by decide, rfl, rfl⟩⟩
theorem Try.infoM : (Try.prog.info? 32).map (fun i => (i.zero, i.size, i.bytes)) = some (some (.agg (msA zeroC)), 6, 112) := by kernel_rfl
theorem run_appM (w : World) (ty : TypeId) (v : Value) (l : List MC) (hown : OwnM w v l) (g : Nat) (x : MC) (hx : SlC x) (hg : Blk w g 32 (msA x)) (hb : l.length ≤ 1000000000000) :
    ∃ v' w', (Builtin.append_ #[23, 23] ty #[v, .slice (some ⟨g, 0, none⟩) 1 1]).run Try.prog w = .ok v' w' ∧ OwnM w' v' (l ++ [x]) ∧ (Grown w w' fun k => v.ownBlock = some k) ∧ Moved w v v' := by
  obtain ⟨i, hi, hzz⟩ := Option.map_eq_some_iff.1 Try.infoM
  simp only [Prod.mk.injEq] at hzz
  obtain ⟨hz, hsz, hby⟩ := hzz
  obtain ⟨v', w', hr, h1, h2, _, h3⟩ := run_append_own_at (P := Try.prog) w 0 23 ty 32 i (.agg (msA zeroC)) 6 112 Try.underlying23 hi hz hsz hby rfl (by omega) v l.length (mL l) hown ⟨g, 0, none⟩ 1 1 (msA x).toList (by rw [msA_len]) (fun j u hu => by
      rw [Addr.add_mid, Nat.zero_add, hg.cell]
      rw [Array.getElem?_toList] at hu; exact hu)
    (fun u hu => (Array.all_eq_true_iff_forall_mem.1 hx.one) u (by simpa using hu)) (by unfold maxLen; omega) (by omega) (Nat.zero_le _)
  refine ⟨v', w', hr, ?_, Grown.of h2 fun k _ e => e, ?_⟩
  · unfold OwnM
    rw [List.length_append, show mL (l ++ [x]) = mL l ++ (msA x).toList by simp [mL]]
    exact h1
  · rcases h3 with h3 | h3
    · exact .inl h3
    · exact .inr ⟨_, h3, Nat.le_refl _⟩
theorem WL.appM {ops : Array Oper} {rest : List Oper} {o : Oper} {a : Act} {w : World} {Q : Exit → Act → World → Prop} (hw : Region.wanted o (yielded ops a.tmps) = true) (s x : Operand)
    (ho : o.op = .call { callee := .builtin .append, args := #[s, x], argTypes := #[23, 23] }) (v : Value) (l : List MC) (g : Nat) (y : MC) (hy : SlC y)
    (hs : a.eval s = v) (hx : a.eval x = .slice (some ⟨g, 0, none⟩) 1 1) (hown : OwnM w v l) (hg : Blk w g 32 (msA y)) (hb : l.length ≤ 1000000000000)
    (h : ∀ v' w', OwnM w' v' (l ++ [y]) → (Grown w w' fun k => v.ownBlock = some k) → Moved w v v' → WL Try.prog ops Q rest (a.put o.dst v') w') : WL Try.prog ops Q (o :: rest) a w :=
  ⟨wpList_wanted hw fun K hK => by
    obtain ⟨v', w', hr, h1, h2, h3⟩ := run_appM w o.type v l hown g y hy hg hb
    unfold Oper.wp execOp
    simp only [ho, resolve, invoke, builtin, Sem.run_bind, Sem.run_pure, Result.andThen_ok, List.map_toArray, List.map_cons, List.map_nil, hs, hx, hr]
    exact hK _ _ (h v' w' h1 h2 h3).out⟩
theorem eql_nil (pb po n c : Nat) (w : World) : (binOp .eql 30 (.slice (some ⟨pb, po, none⟩) n c) (.slice none 0 0)).run Try.prog w = .ok (.bool false) w := by kernel_rfl
theorem made_one (n : Nat) : madeCells #[noS] (n * 1) = (List.replicate n noS).toArray := by
  apply Array.ext
  · simp [madeCells]
  · intro i h1 h2
    simp [madeCells, Nat.mod_one]
def cB (x : Value) : MC := ⟨3, noS, 0, noS, noS, x⟩
theorem cB_sl (a : Option Addr) (n c : Nat) : SlC (cB (.slice a n c)) := ⟨⟨_, _, _, rfl⟩, ⟨_, _, _, rfl⟩, ⟨_, _, _, rfl⟩, ⟨_, _, _, rfl⟩⟩
theorem ms_builtB (a : Option Addr) (n c : Nat) : Try.prog.built 32 [(0, .int .i64 3), (5, .slice a n c)] = some (msA (cB (.slice a n c))) := by kernel_rfl
theorem bsM (a : Option Addr) (n c : Nat) (w : World) : (Instr.buildSlice 23 1 #[(0, .agg (msA (cB (.slice a n c))))]).run Try.prog w = .ok (.slice (some ⟨w.heap.size, 0, none⟩) 1 1) (w.alloc (.cells (msA (cB (.slice a n c))) 32)) := by kernel_rfl
theorem bsME (w : World) : (Instr.buildSlice 23 0 #[]).run Try.prog w = .ok (.slice (some ⟨w.heap.size, 0, none⟩) 0 0) (w.alloc (.cells #[] 32)) := by kernel_rfl
theorem bsBE (w : World) : (Instr.buildSlice 30 0 #[]).run Try.prog w = .ok (.slice (some ⟨w.heap.size, 0, none⟩) 0 0) (w.alloc (.cells #[] 5)) := by kernel_rfl
theorem elem26 : Try.prog.elem 22 = 30 := by kernel_rfl
theorem sizeOf25 (w : World) : (sizeOf 30).run Try.prog w = .ok 1 w := by kernel_rfl
theorem sl_runR (base : Option Addr) (n cap a : Nat) (ha : a ≤ cap) (wx : World) : (Instr.sliceAt 22 (.slice base n cap) none (some (.int .i64 (a : Int))) none).run Try.prog wx = .ok (.slice base a cap) wx := by
  have hu : Try.prog.underlying 22 = some (.slice (Try.prog.elem 22)) := by rw [elem26]; exact Try.underlying22
  have h1 := run_slice_h (P := Try.prog) (w := wx) 22 base n cap hu .i64 (a : Int) (by omega) (by omega)
  have h2 := run_sliceAt_slice (P := Try.prog) (w := wx) 22 (.slice base n cap) none (some (.int .i64 (a : Int))) none hu
  rw [elem26] at h1
  have h3 : sliced base 0 (a : Int).toNat cap 1 = .slice base a cap := by
    have h4 : (if cap = 0 then base else base.map (·.add (0 * 1))) = base := by
      split
      · rfl
      · cases base <;> rfl
    unfold sliced
    rw [h4, Int.toNat_natCast, Nat.sub_zero, Nat.sub_zero]
  rw [h2, h1]
  refine (congrArg (fun z => Result.andThen z fun s w => Result.ok (sliced base 0 (a : Int).toNat cap s) w) (sizeOf25 wx)).trans ?_
  show Result.ok (sliced base 0 (a : Int).toNat cap 1) wx = _
  rw [h3]
set_option maxRecDepth 8000 in
theorem clone_any (v : Value) (l : List Int) (w : World) (hr : RowAt w v l) (h0 : 0 < l.length) (hl : l.length ≤ 140737488355328) : Calls Try.prog 18 #[v] w fun e w' => ∃ v', e = .returned v' ∧ Own w' v' l ∧ (∀ k, v'.ownBlock = some k → w.heap.size ≤ k) ∧ Below w.heap.size w w' := by
  obtain ⟨pb, po, pc, rfl⟩ : ∃ pb po pc, v = .slice (some ⟨pb, po, none⟩) l.length pc := by
    rcases hr with ⟨_, rfl⟩ | ⟨_, _, _, rfl⟩ | ⟨b, off, cap, rfl, _⟩
    · simp at h0
    · simp at h0
    · exact ⟨_, _, _, rfl⟩
  have HR := Keep.mk hr
  clear hr
  go_enter Try.func18, Try.ntmps18
  refine wp_seq_k fun K1 hK1 => ?_
  refine wp_region_list (WL.out ?_)
  refine WL.val (by kernel_rfl) (.slice none 0 0) (by go_simp) ?_
  simp only [Act.put, List.setIfInBounds_toArray, List.set_cons_zero, List.set_cons_succ]
  refine WL.nil ?_
  refine hK1 _ _ ?_
  refine wp_seq_k fun K2 hK2 => ?_
  refine wp_seq_k fun K3 hK3 => ?_
  refine wp_region_list (WL.out ?_)
  refine WL.val (by kernel_rfl) (.slice (some ⟨pb, po, none⟩) l.length pc) (by go_simp) ?_
  simp only [Act.put, List.setIfInBounds_toArray, List.set_cons_zero, List.set_cons_succ]
  refine WL.val (by kernel_rfl) (.bool false) (by have h := eql_nil pb po l.length pc w; go_simp) ?_
  simp only [Act.put, List.setIfInBounds_toArray, List.set_cons_zero, List.set_cons_succ]
  refine WL.nil ?_
  refine hK3 _ _ ?_
  refine wp_cond_false rfl ?_
  refine wp_skip ?_
  refine hK2 _ _ ?_
  refine wp_seq_k fun K4 hK4 => ?_
  refine wp_region_list (WL.out ?_)
  refine WL.bs (by kernel_rfl) 30 0 _ rfl #[] (by simp) _ _ (bsBE w) ?_
  have HO1 : Keep (Own (w.alloc (.cells #[] 5)) (.slice (some ⟨w.heap.size, 0, none⟩) 0 0) []) := ⟨own_empty _ _ (Blk.new w 5 #[])⟩
  have B1 := Keep.mk (below_new w (.cells #[] 5))
  have HR1 := Keep.mk (HR.out.below (below_new w (.cells #[] 5)))
  generalize w.alloc (.cells #[] 5) = w1 at *
  obtain ⟨g1, hg1⟩ : ∃ g, Keep (g = w.heap.size) := ⟨_, ⟨rfl⟩⟩
  rw [← hg1.out] at HO1 ⊢
  simp only [Act.put, List.setIfInBounds_toArray, List.set_cons_zero, List.set_cons_succ]
  refine WL.val (by kernel_rfl) (.slice (some ⟨pb, po, none⟩) l.length pc) (by go_simp) ?_
  simp only [Act.put, List.setIfInBounds_toArray, List.set_cons_zero, List.set_cons_succ]
  refine WL.appW (by kernel_rfl) (.tmp 5) (.tmp 6) rfl (.slice (some ⟨g1, 0, none⟩) 0 0) (.slice (some ⟨pb, po, none⟩) l.length pc) [] l rfl rfl HO1.out HR1.out (by simp only [List.length_nil]; omega) ?_
  intro v2 w2 ha
  have HO2 : Keep (Own w2 v2 l) := ⟨by have h := ha.1; rwa [List.nil_append] at h⟩
  have HB2 : Keep (Below w.heap.size w w2) := ⟨B1.out.trans (ha.grown.to_below (fun k hk e => by simp [Value.ownBlock] at e; have := hg1.out; omega) B1.out.size)⟩
  have HF2 : Keep (∀ k, v2.ownBlock = some k → w.heap.size ≤ k) := ⟨fun k hk => by
    rcases ha.moved with e | ⟨j, e, hj⟩
    · rw [e] at hk; simp [Value.ownBlock] at hk; have := hg1.out; omega
    · rw [e] at hk; injection hk with hk; have := B1.out.size; omega⟩
  clear ha
  simp only [Act.put, List.setIfInBounds_toArray, List.set_cons_zero, List.set_cons_succ]
  refine WL.val (by kernel_rfl) (v2) (by go_simp) ?_
  simp only [Act.put, List.setIfInBounds_toArray, List.set_cons_zero, List.set_cons_succ]
  refine WL.nil ?_
  refine hK4 _ _ ?_
  refine wp_ret ?_
  go_ret
  exact ⟨v2, rfl, HO2.out, HF2.out, HB2.out⟩

theorem run_makeR (n : Nat) (hn : n ≤ 4398046511104) (w : World) : (Instr.makeSlice 22 (.int .i64 (n : Int)) (.int .i64 (n : Int))).run Try.prog w = .ok (.slice (some ⟨w.heap.size, 0, none⟩) n n) (w.alloc (.cells (List.replicate n noS).toArray 30)) := by
  obtain ⟨i, hi, hzz⟩ := Option.map_eq_some_iff.1 Try.infoR
  simp only [Prod.mk.injEq] at hzz
  obtain ⟨hz, hs, hb⟩ := hzz
  have hr := run_make (P := Try.prog) w 22 30 i _ Try.underlying22 hi hz .i64 .i64 (n : Int) (n : Int) (by omega) (by omega) (by rw [hb]; omega) (by omega)
  simp only [Int.toNat_natCast, hs, Value.cells] at hr
  rw [← made_one n]
  exact hr
theorem set_rep (vs : List Value) (n t : Nat) (v : Value) (h : vs.length = t) (ht : t < n) : ((vs ++ List.replicate (n - t) noS).toArray).setIfInBounds t v = ((vs ++ [v]) ++ List.replicate (n - (t + 1)) noS).toArray := by
  obtain ⟨k, hk⟩ : ∃ k, n - t = k + 1 := ⟨n - t - 1, by omega⟩
  rw [hk, show n - (t + 1) = k by omega, List.replicate_succ, List.setIfInBounds_toArray, List.set_append_right _ _ (by omega), h, Nat.sub_self, List.set_cons_zero, List.append_assoc]
  rfl
theorem rep_at (vs : List Value) (n t : Nat) (h : vs.length = t) (ht : t < n) : ((vs ++ List.replicate (n - t) noS).toArray)[t]? = some noS := by
  obtain ⟨k, hk⟩ : ∃ k, n - t = k + 1 := ⟨n - t - 1, by omega⟩
  rw [List.getElem?_toArray, List.getElem?_append_right (by omega), h, Nat.sub_self, hk]
  rfl
def CpAt (b0 : Nat) (w : World) (ls : List (List Int)) (vs : List Value) (t : Nat) : Prop :=
  vs.length = t ∧ ∀ i, i < t → OwnT w (vs.getD i noS) (ls.getD i []) ∧ ∃ k, (vs.getD i noS).ownBlock = some k ∧ b0 ≤ k
theorem CpAt.grown {b0 : Nat} {w w' : World} {ls : List (List Int)} {vs : List Value} {t : Nat} {S : Nat → Prop} (h : CpAt b0 w ls vs t) (hg : Grown w w' S) (hT : ∀ k, Typ w k 5 → ¬ S k) : CpAt b0 w' ls vs t :=
  ⟨h.1, fun i hi => ⟨(h.2 i hi).1.grown hg fun k hk => hT k ((h.2 i hi).1.typ hk), (h.2 i hi).2⟩⟩
theorem CpAt.push {b0 : Nat} {w : World} {ls : List (List Int)} {vs : List Value} {t : Nat} {v : Value} (h : CpAt b0 w ls vs t) (hv : OwnT w v (ls.getD t [])) (hk : ∃ k, v.ownBlock = some k ∧ b0 ≤ k) : CpAt b0 w ls (vs ++ [v]) (t + 1) := by
  refine ⟨by simp [h.1], fun i hi => ?_⟩
  by_cases h1 : i < t
  · have e1 : (vs ++ [v]).getD i noS = vs.getD i noS := by rw [List.getD_eq_getElem?_getD, List.getD_eq_getElem?_getD, List.getElem?_append_left (by rw [h.1]; exact h1)]
    rw [e1]; exact h.2 i h1
  · obtain rfl : i = t := by omega
    have e1 : (vs ++ [v]).getD i noS = v := by rw [← h.1, List.getD_eq_getElem?_getD]; simp
    rw [e1]; exact ⟨hv, hk⟩
set_option maxRecDepth 8000 in
set_option maxHeartbeats 4000000 in
theorem copyRows_any (v : Value) (ls : List (List Int)) (w : World) (hr : RwsAt w v ls) (hok : okR ls = true) (hn : ls.length ≤ 4398046511104) : Calls Try.prog 10 #[v] w fun e w' => ∃ v', e = .returned v' ∧ RowsOwn w.heap.size w' v' ls ∧ Below w.heap.size w w' := by
  obtain ⟨pa, pc, rfl⟩ := hr.form
  have HR := Keep.mk hr
  have HOk := Keep.mk ((okR_iff ls).1 hok)
  clear hr hok
  go_enter Try.func10, Try.ntmps10
  refine wp_seq_k fun K1 hK1 => ?_
  refine wp_region_list (WL.out ?_)
  refine WL.val (by kernel_rfl) (.slice none 0 0) (by go_simp) ?_
  simp only [Act.put, List.setIfInBounds_toArray, List.set_cons_zero, List.set_cons_succ]
  refine WL.nil ?_
  refine hK1 _ _ ?_
  refine wp_seq_k fun K2 hK2 => ?_
  refine wp_region_list (WL.out ?_)
  refine WL.val (by kernel_rfl) (.slice pa ls.length pc) (by go_simp) ?_
  simp only [Act.put, List.setIfInBounds_toArray, List.set_cons_zero, List.set_cons_succ]
  refine WL.val (by kernel_rfl) (.int .i64 (ls.length : Int)) (by go_simp) ?_
  simp only [Act.put, List.setIfInBounds_toArray, List.set_cons_zero, List.set_cons_succ]
  refine WL.valW (by kernel_rfl) (.slice (some ⟨w.heap.size, 0, none⟩) ls.length ls.length) (w.alloc (.cells (List.replicate ls.length noS).toArray 30)) (by have h := run_makeR ls.length (by omega) w; go_simp) ?_
  have HG1 : Keep (Blk (w.alloc (.cells (List.replicate ls.length noS).toArray 30)) w.heap.size 30 (([] ++ List.replicate (ls.length - 0) noS).toArray)) := ⟨by simpa using Blk.new w 30 (List.replicate ls.length noS).toArray⟩
  have B1 := Keep.mk (below_new w (.cells (List.replicate ls.length noS).toArray 30))
  generalize w.alloc (.cells (List.replicate ls.length noS).toArray 30) = w1 at *
  obtain ⟨g, hg⟩ : ∃ g, Keep (g = w.heap.size) := ⟨_, ⟨rfl⟩⟩
  rw [← hg.out] at HG1 ⊢
  have C1 : Keep (CpAt w.heap.size w1 ls [] 0) := ⟨⟨rfl, fun i hi => absurd hi (Nat.not_lt_zero _)⟩⟩
  simp only [Act.put, List.setIfInBounds_toArray, List.set_cons_zero, List.set_cons_succ]
  refine WL.val (by kernel_rfl) (.slice (some ⟨g, 0, none⟩) ls.length ls.length) (by go_simp) ?_
  simp only [Act.put, List.setIfInBounds_toArray, List.set_cons_zero, List.set_cons_succ]
  refine WL.nil ?_
  refine hK2 _ _ ?_
  refine wp_seq_k fun K3 hK3 => ?_
  refine wp_seq_k fun K4 hK4 => ?_
  refine wp_region_list (WL.out ?_)
  refine WL.val (by kernel_rfl) (.slice pa ls.length pc) (by go_simp) ?_
  simp only [Act.put, List.setIfInBounds_toArray, List.set_cons_zero, List.set_cons_succ]
  refine WL.val (by kernel_rfl) (.int .i64 (ls.length : Int)) (by go_simp) ?_
  simp only [Act.put, List.setIfInBounds_toArray, List.set_cons_zero, List.set_cons_succ]
  refine WL.val (by kernel_rfl) (.int .i64 0) (by go_simp) ?_
  simp only [Act.put, List.setIfInBounds_toArray, List.set_cons_zero, List.set_cons_succ]
  refine WL.nil ?_
  refine hK4 _ _ ?_
  refine wp_block ?_
  refine wp_loop (fun ac wr => ∃ (t : Nat) (u4 u5 u12 u13 u14 u15 u16 u17 u18 u19 u20 u21 : Value), ac = { tmps := #[.slice pa ls.length pc, undef, .slice none 0 0, .slice (some ⟨g, 0, none⟩) ls.length ls.length, u4, u5, .slice pa ls.length pc, .int .i64 (ls.length : Int), .slice (some ⟨g, 0, none⟩) ls.length ls.length, .slice pa ls.length pc, .int .i64 (ls.length : Int), .int .i64 (t : Int), u12, u13, u14, u15, u16, u17, u18, u19, u20, u21, undef], defers := [] } ∧ t ≤ ls.length ∧ ∃ vs, Keep (Blk wr g 30 ((vs ++ List.replicate (ls.length - t) noS).toArray)) ∧ Keep (CpAt w.heap.size wr ls vs t) ∧ Keep (Below w.heap.size w wr)) (fun a _ => ls.length - (intOf (a.tmps.getD 11 undef)).toNat) ⟨0, undef, undef, undef, undef, undef, undef, undef, undef, undef, undef, undef, undef, rfl, by omega, [], HG1, C1, B1⟩ ?_
  rintro ac wr ⟨t, u4, u5, u12, u13, u14, u15, u16, u17, u18, u19, u20, u21, rfl, ht, vs, HG, HC, HB⟩
  by_cases hlt : t < ls.length
  · have hlt' : (t : Int) < (ls.length : Int) := by omega
    have hnt : ¬ (t : Int) < 0 := by omega
    have hwt : IntKind.i64.wrap ((t : Int) + 1) = (t : Int) + 1 := by rw [IntKind.wrap_i64]; omega
    obtain ⟨qb, ob, ya, yc, hxa, _, hcl, hrow⟩ := HR.out.at t hlt
    subst hxa
    have hok := HOk.out t hlt
    obtain ⟨x, hx⟩ : ∃ x, x = ls.getD t [] := ⟨_, rfl⟩
    rw [← hx] at hcl hrow hok
    have Hx := Keep.mk hx
    have hcl2 : wr.cell? ⟨qb, ob + t, none⟩ = some (.slice ya x.length yc) := by rw [HB.out.cell (p := ⟨qb, ob + t, none⟩) (cell_lt hcl)]; exact hcl
    have Hrow := Keep.mk (hrow.below HB.out)
    clear hx hcl hrow
    refine wp_seq_k fun K5 hK5 => ?_
    refine wp_region_list (WL.out ?_)
    refine WL.val (by kernel_rfl) (.bool true) (by go_simp) ?_
    simp only [Act.put, List.setIfInBounds_toArray, List.set_cons_zero, List.set_cons_succ]
    refine WL.nil ?_
    refine hK5 _ _ ?_
    refine wp_seq_k fun K6 hK6 => ?_
    refine wp_cond_true rfl ?_
    refine wp_skip ?_
    refine hK6 _ _ ?_
    refine wp_seq_k fun K7 hK7 => ?_
    refine wp_block ?_
    refine wp_seq_k fun K8 hK8 => ?_
    refine wp_region_list (WL.out ?_)
    refine WL.val (by kernel_rfl) (.int .i64 (t : Int)) (by go_simp) ?_
    simp only [Act.put, List.setIfInBounds_toArray, List.set_cons_zero, List.set_cons_succ]
    refine WL.val (by kernel_rfl) (.pointer (some ⟨qb, ob + t, none⟩)) (by go_simp) ?_
    simp only [Act.put, List.setIfInBounds_toArray, List.set_cons_zero, List.set_cons_succ]
    refine WL.val (by kernel_rfl) (.slice ya x.length yc) (by go_simp) ?_
    simp only [Act.put, List.setIfInBounds_toArray, List.set_cons_zero, List.set_cons_succ]
    refine WL.val (by kernel_rfl) (.int .i64 (t : Int)) (by go_simp) ?_
    simp only [Act.put, List.setIfInBounds_toArray, List.set_cons_zero, List.set_cons_succ]
    refine WL.val (by kernel_rfl) (.slice ya x.length yc) (by go_simp) ?_
    simp only [Act.put, List.setIfInBounds_toArray, List.set_cons_zero, List.set_cons_succ]
    refine WL.nil ?_
    refine hK8 _ _ ?_
    refine wp_region_list (WL.out ?_)
    refine WL.val (by kernel_rfl) (.slice (some ⟨g, 0, none⟩) ls.length ls.length) (by go_simp) ?_
    simp only [Act.put, List.setIfInBounds_toArray, List.set_cons_zero, List.set_cons_succ]
    refine WL.val (by kernel_rfl) (.int .i64 (t : Int)) (by go_simp) ?_
    simp only [Act.put, List.setIfInBounds_toArray, List.set_cons_zero, List.set_cons_succ]
    refine WL.val (by kernel_rfl) (.slice ya x.length yc) (by go_simp) ?_
    simp only [Act.put, List.setIfInBounds_toArray, List.set_cons_zero, List.set_cons_succ]
    refine WL.callF (by kernel_rfl) 18 _ _ rfl Try.in18 #[.slice ya x.length yc] (by simp [Act.eval]) ?_
    refine (clone_any _ x wr Hrow.out hok.1 (by omega)).mono ?_
    rintro e w2 ⟨vz, rfl, h1, h2, h3⟩
    refine ⟨_, rfl, ?_⟩
    obtain ⟨za, zc, rfl⟩ := row_form h1.row
    have HO2 := Keep.mk h1.tail
    have HF2 := Keep.mk h2
    have HB2 : Keep (Below w.heap.size w w2) := ⟨HB.out.trans (h3.mono HB.out.size)⟩
    have HG2 := Keep.mk (HG.out.below h3 HG.out.lt)
    have HC2 := Keep.mk (HC.out.grown (Grown.below (S := fun _ => False) h3) fun _ _ h => h)
    have c0 : w2.cell? ⟨g, t, none⟩ = some noS := HG2.out.c t (rep_at vs ls.length t HC.out.1 hlt)
    have f0 := HG2.out.frozen t
    have Hlt2 : Keep (wr.heap.size ≤ w2.heap.size) := ⟨h3.size⟩
    clear h1 h2 h3
    simp only [Act.put, List.setIfInBounds_toArray, List.set_cons_zero, List.set_cons_succ]
    refine WL.val (by kernel_rfl) (.pointer (some ⟨g, t, none⟩)) (by go_simp; try omega) ?_
    simp only [Act.put, List.setIfInBounds_toArray, List.set_cons_zero, List.set_cons_succ]
    refine WL.cell (by kernel_rfl) (w2.setCell ⟨g, t, none⟩ (.slice za x.length zc)) (by go_simp) ?_
    clear c0 f0
    have HG3 : Keep (Blk (w2.setCell ⟨g, t, none⟩ (.slice za x.length zc)) g 30 (((vs ++ [Value.slice za x.length zc]) ++ List.replicate (ls.length - (t + 1)) noS).toArray)) := ⟨by have h := HG2.out.set t (.slice za x.length zc); rwa [set_rep vs ls.length t _ HC.out.1 hlt] at h⟩
    have hgr : Grown w2 (w2.setCell ⟨g, t, none⟩ (.slice za x.length zc)) fun k => k = g := Grown.setCell w2 g t _ fun _ => rfl
    have HB3 : Keep (Below w.heap.size w (w2.setCell ⟨g, t, none⟩ (.slice za x.length zc))) := ⟨HB2.out.trans (hgr.to_below (fun k hk e => by have := hg.out; omega) HB2.out.size)⟩
    have hty : ∀ k, Typ w2 k 5 → ¬ k = g := fun k hk e => by rw [e] at hk; exact absurd (HG2.out.typ.one hk) (by decide)
    have HC3 : Keep (CpAt w.heap.size (w2.setCell ⟨g, t, none⟩ (.slice za x.length zc)) ls (vs ++ [Value.slice za x.length zc]) (t + 1)) := ⟨(HC2.out.grown hgr hty).push (by rw [← Hx.out]; exact HO2.out.grown hgr fun k hk => hty k (HO2.out.typ hk)) (by
      obtain ⟨gz, hgz⟩ := HO2.out.addr hok.1
      subst hgz
      exact ⟨gz, rfl, Nat.le_trans HB.out.size (HF2.out gz rfl)⟩)⟩
    generalize w2.setCell ⟨g, t, none⟩ (.slice za x.length zc) = w3 at *
    simp only [Act.put]
    refine WL.nil ?_
    refine hK7 _ _ ?_
    refine wp_region_list (WL.out ?_)
    refine WL.val (by kernel_rfl) (.int .i64 ((t : Int) + 1)) (by go_simp) ?_
    simp only [Act.put, List.setIfInBounds_toArray, List.set_cons_zero, List.set_cons_succ]
    refine WL.val (by kernel_rfl) (.int .i64 ((t : Int) + 1)) (by go_simp) ?_
    simp only [Act.put, List.setIfInBounds_toArray, List.set_cons_zero, List.set_cons_succ]
    refine WL.nil ?_
    refine ⟨⟨t + 1, .int .i64 (t : Int), .slice ya x.length yc, .bool true, .int .i64 (t : Int), .pointer (some ⟨qb, ob + t, none⟩), .slice ya x.length yc, .slice (some ⟨g, 0, none⟩) ls.length ls.length, .int .i64 (t : Int), .slice ya x.length yc, .slice za x.length zc, .pointer (some ⟨g, t, none⟩), .int .i64 ((t : Int) + 1), rfl, by omega, vs ++ [Value.slice za x.length zc], HG3, HC3, HB3⟩, by simp [intOf]; omega⟩
  · have hte : Keep (t = ls.length) := ⟨by omega⟩
    have hlt' : ¬ (t : Int) < (ls.length : Int) := by omega
    refine wp_seq_k fun K9 hK9 => ?_
    refine wp_region_list (WL.out ?_)
    refine WL.val (by kernel_rfl) (.bool false) (by go_simp) ?_
    simp only [Act.put, List.setIfInBounds_toArray, List.set_cons_zero, List.set_cons_succ]
    refine WL.nil ?_
    refine hK9 _ _ ?_
    refine wp_seq_k fun K10 hK10 => ?_
    refine wp_cond_false rfl ?_
    refine wp_exit ?_
    refine hK3 _ _ ?_
    refine wp_seq_k fun K11 hK11 => ?_
    refine wp_region_list (WL.out ?_)
    refine WL.val (by kernel_rfl) (.slice (some ⟨g, 0, none⟩) ls.length ls.length) (by go_simp) ?_
    simp only [Act.put, List.setIfInBounds_toArray, List.set_cons_zero, List.set_cons_succ]
    refine WL.val (by kernel_rfl) (.slice (some ⟨g, 0, none⟩) ls.length ls.length) (by go_simp) ?_
    simp only [Act.put, List.setIfInBounds_toArray, List.set_cons_zero, List.set_cons_succ]
    refine WL.nil ?_
    refine hK11 _ _ ?_
    refine wp_ret ?_
    go_ret
    rw [hte.out] at HG HC
    rw [Nat.sub_self, List.replicate_zero, List.append_nil] at HG
    have hvl := HC.out.1
    refine ⟨.slice (some ⟨g, 0, none⟩) ls.length ls.length, rfl, ⟨vs, ?_, fun k hk => by simp [Value.ownBlock] at hk; have := hg.out; omega, hvl, fun i hi => HC.out.2 i hi⟩, HB.out⟩
    exact ⟨by simp, .inr ⟨g, ls.length, vs.toArray, by rw [hvl], Nat.zero_le _, HG.out, by rw [hvl]; exact Nat.le_refl _, by unfold maxLen; omega, by simp [hvl], by rw [List.take_of_length_le (by simp)]⟩⟩
theorem Try.in4 (w : World) (vs : Array Value) : (callFunc 4 vs).run Try.prog w = .ok (.enter 4 vs) w := by kernel_rfl
def isCh : List (List Int) → List (List (List Int)) → Prop
  | ls, [] => ls = []
  | ls, d :: r => ls ≠ [] ∧ d = ls.take (fit ls) ∧ isCh (ls.drop (fit ls)) r
theorem fit_len (ls : List (List Int)) : fit ls ≤ ls.length := by have := fit_le ls 0 0; unfold fit; omega
theorem fit_pos {ls : List (List Int)} (h : okR ls = true) (h0 : ls ≠ []) : 1 ≤ fit ls := by
  cases ls with
  | nil => exact absurd rfl h0
  | cons r rs =>
    have hr := (okR_iff (r :: rs)).1 h 0 (by simp)
    simp only [List.getD_cons_zero] at hr
    have h1 := numL_len r.length
    have h2 := numL_len (0 + 1)
    have h3 : (bform r).length ≤ 10 + r.length := by unfold bform; rw [List.length_append]; omega
    unfold fit fitG
    rw [if_neg (by omega)]
    exact fit_ge rs (0 + 1) _
theorem okR_mem {ls : List (List Int)} (h : okR ls = true) {ks : List (List Int)} (hk : ∀ r ∈ ks, r ∈ ls) : okR ks = true := by
  unfold okR at h ⊢
  rw [List.all_eq_true] at h ⊢
  exact fun r hr => h r (hk r hr)
theorem RwsAt.cap {w : World} {a : Option Addr} {n c : Nat} {ls : List (List Int)} (h : RwsAt w (.slice a n c) ls) (h0 : ls ≠ []) : ls.length ≤ c := by
  obtain ⟨V, ⟨_, _, _, e⟩ | ⟨q, o, cap, e, h1, _⟩, _⟩ := h
  · exact absurd e h0
  · injection e with _ _ e3
    rw [e3]; exact h1
theorem RwsAt.sub {w : World} {a : Option Addr} {n c : Nat} {ls : List (List Int)} (h : RwsAt w (.slice a n c) ls) (lo hi : Nat) (h1 : lo ≤ hi) (h2 : hi ≤ ls.length) : RwsAt w (sliced a lo hi c 1) ((ls.drop lo).take (hi - lo)) := by
  by_cases h0 : hi = lo
  · subst h0
    rw [Nat.sub_self, List.take_zero]
    exact ⟨fun _ => noS, .inl ⟨_, _, by unfold sliced; rw [Nat.sub_self], rfl⟩, fun i hi => by simp at hi⟩
  · obtain ⟨V, hv, hr⟩ := h
    have hl : ((ls.drop lo).take (hi - lo)).length = hi - lo := by rw [List.length_take, List.length_drop]; omega
    have hg : ∀ i, i < hi - lo → ((ls.drop lo).take (hi - lo)).getD i [] = ls.getD (lo + i) [] := fun i hi' => by
      rw [List.getD_eq_getElem?_getD, List.getD_eq_getElem?_getD, List.getElem?_take, if_pos hi', List.getElem?_drop]
    rcases hv with ⟨_, _, e, rfl⟩ | ⟨q, o, cap, e, h3, h4⟩
    · simp at h2; omega
    · injection e with e1 e2 e3
      subst e1 e3
      refine ⟨fun i => V (lo + i), .inr ⟨q, o + lo, c - lo, ?_, by rw [hl]; omega, fun i hi' => ?_⟩, fun i hi' => ?_⟩
      · unfold sliced
        rw [if_neg (by omega), hl, Nat.mul_one]
        show Value.slice (some ((⟨q, o, none⟩ : Addr).add lo)) _ _ = _
        rw [Addr.add_mid]
      · rw [hl] at hi'
        rw [Nat.add_assoc]
        exact h4 (lo + i) (by omega)
      · rw [hl] at hi'
        rw [hg i hi']
        exact hr (lo + i) (by omega)
theorem sliced_0 (a : Option Addr) (n c : Nat) (h : n ≤ c) : sliced a 0 n c 1 = .slice a n c := by
  unfold sliced
  rw [Nat.sub_zero, Nat.sub_zero]
  congr 1
  split
  · rfl
  · cases a <;> rfl
theorem sl_runRL (base : Option Addr) (n cap a : Nat) (ha : a ≤ n) (wx : World) : (Instr.sliceAt 22 (.slice base n cap) (some (.int .i64 (a : Int))) none none).run Try.prog wx = .ok (sliced base a n cap 1) wx := by
  have hu : Try.prog.underlying 22 = some (.slice (Try.prog.elem 22)) := by rw [elem26]; exact Try.underlying22
  have h1 := run_slice_l (P := Try.prog) (w := wx) 22 base n cap hu .i64 (a : Int) (by omega) (by omega)
  have h2 := run_sliceAt_slice (P := Try.prog) (w := wx) 22 (.slice base n cap) (some (.int .i64 (a : Int))) none none hu
  rw [elem26] at h1
  rw [h2, h1]
  refine (congrArg (fun z => Result.andThen z fun s w => Result.ok (sliced base (a : Int).toNat n cap s) w) (sizeOf25 wx)).trans ?_
  show Result.ok (sliced base (a : Int).toNat n cap 1) wx = _
  rw [Int.toNat_natCast]
theorem sl_runR2 (base : Option Addr) (n cap a b : Nat) (hab : a ≤ b) (hb : b ≤ cap) (wx : World) : (Instr.sliceAt 22 (.slice base n cap) (some (.int .i64 (a : Int))) (some (.int .i64 (b : Int))) none).run Try.prog wx = .ok (sliced base a b cap 1) wx := by
  have hu : Try.prog.underlying 22 = some (.slice (Try.prog.elem 22)) := by rw [elem26]; exact Try.underlying22
  have h1 := run_slice_lh (P := Try.prog) (w := wx) 22 base n cap hu .i64 .i64 (a : Int) (b : Int) (by omega) (by omega) (by omega)
  have h2 := run_sliceAt_slice (P := Try.prog) (w := wx) 22 (.slice base n cap) (some (.int .i64 (a : Int))) (some (.int .i64 (b : Int))) none hu
  rw [elem26] at h1
  rw [h2, h1]
  refine (congrArg (fun z => Result.andThen z fun s w => Result.ok (sliced base (a : Int).toNat (b : Int).toNat cap s) w) (sizeOf25 wx)).trans ?_
  show Result.ok (sliced base (a : Int).toNat (b : Int).toNat cap 1) wx = _
  rw [Int.toNat_natCast, Int.toNat_natCast]
def slLen : Value → Nat
  | .slice _ n _ => n
  | _ => 0
def MsgsOf (Z : Value → List (List Int) → Prop) (cs : List MC) (D : List (List (List Int))) : Prop :=
  cs.length = D.length ∧ ∀ (i : Nat) (d : List (List Int)), D[i]? = some d → ∃ a c, cs[i]? = some (cB (.slice a d.length c)) ∧ Z (.slice a d.length c) d
theorem MsgsOf.push {Z : Value → List (List Int) → Prop} {cs : List MC} {D : List (List (List Int))} (h : MsgsOf Z cs D) {a : Option Addr} {c : Nat} {d : List (List Int)} (hz : Z (.slice a d.length c) d) : MsgsOf Z (cs ++ [cB (.slice a d.length c)]) (D ++ [d]) := by
  refine ⟨by simp [h.1], fun i e he => ?_⟩
  by_cases hi : i < D.length
  · rw [List.getElem?_append_left hi] at he
    obtain ⟨a', c', h1, h2⟩ := h.2 i e he
    exact ⟨a', c', by rw [List.getElem?_append_left (by rw [h.1]; exact hi)]; exact h1, h2⟩
  · have hi2 : i = D.length := by
      have := (List.getElem?_eq_some_iff.1 he).1
      rw [List.length_append] at this
      simp at this
      omega
    subst hi2
    rw [List.getElem?_append_right (Nat.le_refl _), Nat.sub_self] at he
    simp at he
    subst he
    exact ⟨a, c, by rw [List.getElem?_append_right (by rw [h.1]; exact Nat.le_refl _), h.1, Nat.sub_self]; rfl, hz⟩
theorem MsgsOf.imp {Z Z' : Value → List (List Int) → Prop} {cs : List MC} {D : List (List (List Int))} (h : MsgsOf Z cs D) (hz : ∀ v d, Z v d → Z' v d) : MsgsOf Z' cs D :=
  ⟨h.1, fun i d hd => by obtain ⟨a, c, h1, h2⟩ := h.2 i d hd; exact ⟨a, c, h1, hz _ _ h2⟩⟩
def BlkPost (ls : List (List Int)) (w : World) (e : Ending) (w' : World) : Prop :=
  Below w.heap.size w w' ∧ ((okR ls = false ∧ e = .returned (.tuple #[noS, .int .i64 4])) ∨ (okR ls = true ∧ ∃ v D cs, e = .returned (.tuple #[v, .int .i64 0]) ∧ OwnM w' v cs ∧ isCh ls D ∧ MsgsOf (RowsOwn w.heap.size w') cs D))
set_option maxRecDepth 8000 in
set_option maxHeartbeats 4000000 in
theorem blocks_any (v : Value) (ls : List (List Int)) (w : World) (hr : RwsAt w v ls) (hn : ls.length ≤ 1000000000000) (hrl : ∀ i, i < ls.length → (ls.getD i []).length ≤ 140737488355328) : Calls Try.prog 4 #[v] w (BlkPost ls w) := by
  obtain ⟨pa, pc, rfl⟩ := hr.form
  have HR := Keep.mk hr
  have HRl := Keep.mk hrl
  clear hr hrl
  go_enter Try.func4, Try.ntmps4
  refine wp_seq_k fun K1 hK1 => ?_
  refine wp_region_list (WL.out ?_)
  refine WL.val (by kernel_rfl) (.slice none 0 0) (by go_simp) ?_
  simp only [Act.put, List.setIfInBounds_toArray, List.set_cons_zero, List.set_cons_succ]
  refine WL.val (by kernel_rfl) (.int .i64 0) (by go_simp) ?_
  simp only [Act.put, List.setIfInBounds_toArray, List.set_cons_zero, List.set_cons_succ]
  refine WL.nil ?_
  refine hK1 _ _ ?_
  refine wp_seq_k fun K2 hK2 => ?_
  refine wp_seq_k fun K3 hK3 => ?_
  have HCa := Keep.mk (areBlocks_any _ ls w HR.out (by omega) (fun i hi => by have := HRl.out i hi; omega))
  rcases Bool.eq_false_or_eq_true (okR ls) with hok | hok
  · rw [hok] at HCa
    have Hok := Keep.mk hok
    clear hok
    refine wp_region_list (WL.out ?_)
    refine WL.val (by kernel_rfl) (.slice pa ls.length pc) (by go_simp) ?_
    simp only [Act.put, List.setIfInBounds_toArray, List.set_cons_zero, List.set_cons_succ]
    refine WL.callF (by kernel_rfl) 8 _ _ rfl Try.in8 #[.slice pa ls.length pc] (by simp [Act.eval]) ?_
    refine (HCa.out).mono ?_
    rintro e w0 ⟨rfl, hw0⟩
    rw [hw0]
    clear hw0 w0
    refine ⟨_, rfl, ?_⟩
    simp only [Act.put, List.setIfInBounds_toArray, List.set_cons_zero, List.set_cons_succ]
    refine WL.val (by kernel_rfl) (.bool false) (by go_simp) ?_
    simp only [Act.put, List.setIfInBounds_toArray, List.set_cons_zero, List.set_cons_succ]
    refine WL.nil ?_
    refine hK3 _ _ ?_
    refine wp_cond_false rfl ?_
    refine wp_skip ?_
    refine hK2 _ _ ?_
    refine wp_seq_k fun K4 hK4 => ?_
    refine wp_region_list (WL.out ?_)
    refine WL.bs (by kernel_rfl) 23 0 _ rfl #[] (by simp) _ _ (bsME w) ?_
    have HO1 := Keep.mk (ownM_empty w)
    have HB1 := Keep.mk (below_new w (.cells #[] 32))
    have HF1 : Keep (∀ k, (Value.slice (some ⟨w.heap.size, 0, none⟩) 0 0).ownBlock = some k → w.heap.size ≤ k) := ⟨fun k hk => by simp [Value.ownBlock] at hk; omega⟩
    generalize w.alloc (.cells #[] 32) = w1 at *
    generalize Value.slice (some ⟨w.heap.size, 0, none⟩) 0 0 = v1 at *
    have HM1 : Keep (MsgsOf (RowsOwn w.heap.size w1) [] []) := ⟨⟨rfl, fun i d hd => by simp at hd⟩⟩
    simp only [Act.put, List.setIfInBounds_toArray, List.set_cons_zero, List.set_cons_succ]
    refine WL.val (by kernel_rfl) (v1) (by go_simp) ?_
    simp only [Act.put, List.setIfInBounds_toArray, List.set_cons_zero, List.set_cons_succ]
    refine WL.nil ?_
    refine hK4 _ _ ?_
    refine wp_seq_k fun K5 hK5 => ?_
    refine wp_block ?_
    refine wp_loop (fun ac wr => ∃ (t : Nat) (u0 u4 u5 u10 u11 u12 u13 u14 u15 u16 u17 u18 u19 u20 u21 u22 u23 u24 u25 : Value), ac = { tmps := #[u0, undef, .slice none 0 0, .int .i64 0, u4, u5, .slice pa ls.length pc, .bool true, .bool false, v1, u10, u11, u12, u13, u14, u15, u16, u17, u18, u19, u20, u21, u22, u23, u24, u25, undef], defers := [] } ∧ ∃ rest D cs, Keep (RwsAt w u0 rest) ∧ Keep (okR rest = true) ∧ Keep (OwnM wr u4 cs) ∧ Keep (∀ k, u4.ownBlock = some k → w.heap.size ≤ k) ∧ Keep (MsgsOf (RowsOwn w.heap.size wr) cs D) ∧ Keep (∀ E, isCh rest E → isCh ls (D ++ E)) ∧ Keep (Below w.heap.size w wr) ∧ D.length + rest.length ≤ ls.length) (fun a _ => slLen (a.tmps.getD 0 undef)) ⟨0, .slice pa ls.length pc, v1, undef, undef, undef, undef, undef, undef, undef, undef, undef, undef, undef, undef, undef, undef, undef, undef, undef, rfl, ls, [], [], HR, Hok, HO1, HF1, HM1, ⟨fun E hE => hE⟩, HB1, by simp⟩ ?_
    rintro ac wr ⟨t, u0, u4, u5, u10, u11, u12, u13, u14, u15, u16, u17, u18, u19, u20, u21, u22, u23, u24, u25, rfl, rest, D, cs, HRr, HOr2, HOr, HFr, HMr, HCh, HBr, hlen⟩
    obtain ⟨ra, rc, rfl⟩ := HRr.out.form
    have hrl2 : (rest.length : Int) ≤ 1000000000000 := by omega
    by_cases hlt : rest = []
    · have Hre := Keep.mk hlt
      have hl0 : rest.length = 0 := by rw [hlt]; rfl
      have hl1 : ¬ (0 : Int) < (rest.length : Int) := by omega
      clear hl0
      refine wp_seq_k fun K6 hK6 => ?_
      refine wp_seq_k fun K7 hK7 => ?_
      refine wp_region_list (WL.out ?_)
      refine WL.val (by kernel_rfl) (.slice ra rest.length rc) (by go_simp) ?_
      simp only [Act.put, List.setIfInBounds_toArray, List.set_cons_zero, List.set_cons_succ]
      refine WL.val (by kernel_rfl) (.int .i64 (rest.length : Int)) (by go_simp) ?_
      simp only [Act.put, List.setIfInBounds_toArray, List.set_cons_zero, List.set_cons_succ]
      refine WL.val (by kernel_rfl) (.bool false) (by go_simp) ?_
      simp only [Act.put, List.setIfInBounds_toArray, List.set_cons_zero, List.set_cons_succ]
      refine WL.nil ?_
      refine hK7 _ _ ?_
      refine wp_cond_false rfl ?_
      refine wp_exit ?_
      refine hK5 _ _ ?_
      refine wp_seq_k fun K8 hK8 => ?_
      refine wp_region_list (WL.out ?_)
      refine WL.val (by kernel_rfl) (u4) (by go_simp) ?_
      simp only [Act.put, List.setIfInBounds_toArray, List.set_cons_zero, List.set_cons_succ]
      refine WL.val (by kernel_rfl) (u4) (by go_simp) ?_
      simp only [Act.put, List.setIfInBounds_toArray, List.set_cons_zero, List.set_cons_succ]
      refine WL.val (by kernel_rfl) (.int .i64 0) (by go_simp) ?_
      simp only [Act.put, List.setIfInBounds_toArray, List.set_cons_zero, List.set_cons_succ]
      refine WL.nil ?_
      refine hK8 _ _ ?_
      refine wp_ret ?_
      go_ret2
      exact ⟨HBr.out, .inr ⟨Hok.out, _, D, cs, rfl, HOr.out, by have h := HCh.out [] (by rw [Hre.out]; rfl); rwa [List.append_nil] at h, HMr.out⟩⟩
    · have Hre := Keep.mk hlt
      have hl0 : 0 < rest.length := List.length_pos_iff.2 hlt
      have hl1 : (0 : Int) < (rest.length : Int) := by omega
      have hcp := (HRr.out.cap hlt)
      have hf1 := fit_pos HOr2.out hlt
      have hf2 := fit_len rest
      have HCf := Keep.mk (fitting_any _ rest wr (HRr.out.below HBr.out) (by omega) (fun i hi => (((okR_iff rest).1 HOr2.out) i hi).2))
      obtain ⟨n, hn⟩ : ∃ n, n = fit rest := ⟨_, rfl⟩
      rw [← hn] at HCf hf1 hf2
      have Hn := Keep.mk hn
      clear hlt hn
      have hs1 := sl_runR ra rest.length rc n (by omega) wr
      have hlt2 : (rest.take n).length = n := by rw [List.length_take]; omega
      have HRt : Keep (RwsAt wr (.slice ra n rc) (rest.take n)) := ⟨by have h := HRr.out.sub 0 n (Nat.zero_le _) hf2; rw [sliced_0 _ _ _ (by omega), List.drop_zero, Nat.sub_zero] at h; exact h.below HBr.out⟩
      have HOt : Keep (okR (rest.take n) = true) := ⟨okR_mem HOr2.out fun r hr => List.mem_of_mem_take hr⟩
      have HRd : Keep (RwsAt w (sliced ra n rest.length rc 1) (rest.drop n)) := ⟨by have h := HRr.out.sub n rest.length hf2 (Nat.le_refl _); rwa [List.take_of_length_le (by rw [List.length_drop]; exact Nat.le_refl _)] at h⟩
      have HOd : Keep (okR (rest.drop n) = true) := ⟨okR_mem HOr2.out fun r hr => List.mem_of_mem_drop hr⟩
      refine wp_seq_k fun K9 hK9 => ?_
      refine wp_seq_k fun K10 hK10 => ?_
      refine wp_region_list (WL.out ?_)
      refine WL.val (by kernel_rfl) (.slice ra rest.length rc) (by go_simp) ?_
      simp only [Act.put, List.setIfInBounds_toArray, List.set_cons_zero, List.set_cons_succ]
      refine WL.val (by kernel_rfl) (.int .i64 (rest.length : Int)) (by go_simp) ?_
      simp only [Act.put, List.setIfInBounds_toArray, List.set_cons_zero, List.set_cons_succ]
      refine WL.val (by kernel_rfl) (.bool true) (by go_simp) ?_
      simp only [Act.put, List.setIfInBounds_toArray, List.set_cons_zero, List.set_cons_succ]
      refine WL.nil ?_
      refine hK10 _ _ ?_
      refine wp_cond_true rfl ?_
      refine wp_skip ?_
      refine hK9 _ _ ?_
      refine wp_block ?_
      refine wp_seq_k fun K11 hK11 => ?_
      refine wp_region_list (WL.out ?_)
      refine WL.val (by kernel_rfl) (.slice ra rest.length rc) (by go_simp) ?_
      simp only [Act.put, List.setIfInBounds_toArray, List.set_cons_zero, List.set_cons_succ]
      refine WL.callF (by kernel_rfl) 9 _ _ rfl Try.in9 #[.slice ra rest.length rc] (by simp [Act.eval]) ?_
      refine (HCf.out).mono ?_
      rintro e w0 ⟨rfl, hw0⟩
      rw [hw0]
      clear hw0 w0
      refine ⟨_, rfl, ?_⟩
      simp only [Act.put, List.setIfInBounds_toArray, List.set_cons_zero, List.set_cons_succ]
      refine WL.val (by kernel_rfl) (.int .i64 (n : Int)) (by go_simp) ?_
      simp only [Act.put, List.setIfInBounds_toArray, List.set_cons_zero, List.set_cons_succ]
      refine WL.nil ?_
      refine hK11 _ _ ?_
      refine wp_seq_k fun K12 hK12 => ?_
      refine wp_region_list (WL.out ?_)
      refine WL.val (by kernel_rfl) (u4) (by go_simp) ?_
      simp only [Act.put, List.setIfInBounds_toArray, List.set_cons_zero, List.set_cons_succ]
      refine WL.val (by kernel_rfl) (.slice ra rest.length rc) (by go_simp) ?_
      simp only [Act.put, List.setIfInBounds_toArray, List.set_cons_zero, List.set_cons_succ]
      refine WL.val (by kernel_rfl) (.int .i64 (n : Int)) (by go_simp) ?_
      simp only [Act.put, List.setIfInBounds_toArray, List.set_cons_zero, List.set_cons_succ]
      refine WL.val (by kernel_rfl) (.slice ra n rc) (by go_simp) ?_
      clear hs1
      simp only [Act.put, List.setIfInBounds_toArray, List.set_cons_zero, List.set_cons_succ]
      refine WL.callF (by kernel_rfl) 10 _ _ rfl Try.in10 #[.slice ra n rc] (by simp [Act.eval]) ?_
      refine (copyRows_any _ (rest.take n) wr HRt.out HOt.out (by omega)).mono ?_
      rintro e w2 ⟨vx, rfl, h1, h2⟩
      refine ⟨_, rfl, ?_⟩
      obtain ⟨xa, xc, rfl⟩ := h1.form
      have HX2 : Keep (RowsOwn w.heap.size w2 (.slice xa (rest.take n).length xc) (rest.take n)) := ⟨h1.mono HBr.out.size⟩
      have HB2 : Keep (Below w.heap.size w w2) := ⟨HBr.out.trans (h2.mono HBr.out.size)⟩
      have HO2 := Keep.mk (HOr.out.below h2)
      have HM2 := Keep.mk (HMr.out.imp fun v d h => RowsOwn.below h h2)
      clear h1 h2
      simp only [Act.put, List.setIfInBounds_toArray, List.set_cons_zero, List.set_cons_succ]
      refine WL.bld (by kernel_rfl) 32 _ rfl [(0, .int .i64 3), (5, .slice xa (rest.take n).length xc)] (by simp [Act.eval]) (msA (cB (.slice xa (rest.take n).length xc))) (ms_builtB _ _ _) ?_
      simp only [Act.put, List.setIfInBounds_toArray, List.set_cons_zero, List.set_cons_succ]
      refine WL.bs (by kernel_rfl) 23 1 _ rfl #[(0, .agg (msA (cB (.slice xa (rest.take n).length xc))))] (by simp [Act.eval]) _ _ (bsM _ _ _ w2) ?_
      have HG3 := Keep.mk (Blk.new w2 32 (msA (cB (.slice xa (rest.take n).length xc))))
      have B3 := Keep.mk (below_new w2 (.cells (msA (cB (.slice xa (rest.take n).length xc))) 32))
      generalize w2.alloc (.cells (msA (cB (.slice xa (rest.take n).length xc))) 32) = w3 at *
      have HB3 : Keep (Below w.heap.size w w3) := ⟨HB2.out.trans (B3.out.mono HB2.out.size)⟩
      have HO3 := Keep.mk (HO2.out.below B3.out)
      have HM3 := Keep.mk (HM2.out.imp fun v d h => RowsOwn.below h B3.out)
      have HX3 := Keep.mk (HX2.out.below B3.out)
      generalize w2.heap.size = g3 at HG3 ⊢
      obtain ⟨oa, oc, hoe⟩ := HO3.out.sl
      simp only [Act.put, List.setIfInBounds_toArray, List.set_cons_zero, List.set_cons_succ]
      refine WL.appM (by kernel_rfl) (.tmp 15) (.tmp 21) rfl u4 cs g3 (cB (.slice xa (rest.take n).length xc)) (cB_sl _ _ _) rfl rfl HO3.out HG3.out (by have h := HMr.out.1; omega) ?_
      intro v4 w4 h1 h2 h3
      have hty : ∀ k, Typ w3 k 5 ∨ Typ w3 k 30 → ¬ u4.ownBlock = some k := fun k hk e => by
        have ht := HO3.out.typ e
        rcases hk with hk | hk
        · exact absurd (ht.one hk) (by decide)
        · exact absurd (ht.one hk) (by decide)
      have HO4 := Keep.mk h1
      have HM4 : Keep (MsgsOf (RowsOwn w.heap.size w4) (cs ++ [cB (.slice xa (rest.take n).length xc)]) (D ++ [rest.take n])) := ⟨(HM3.out.imp fun v d h => RowsOwn.grown h h2 hty).push (HX3.out.grown h2 hty)⟩
      have HB4 : Keep (Below w.heap.size w w4) := ⟨HB3.out.trans (h2.to_below (fun k hk e => absurd (HFr.out k e) (by omega)) HB3.out.size)⟩
      have HF4 : Keep (∀ k, v4.ownBlock = some k → w.heap.size ≤ k) := ⟨fun k hk => by
        rcases h3 with e | ⟨j, e, hj⟩
        · rw [e] at hk; exact HFr.out k hk
        · rw [e] at hk; injection hk with hk; have := HB3.out.size; omega⟩
      clear h1 h2 h3 hty hoe
      obtain ⟨da, dc, hde⟩ := HRd.out.form
      have hs2 := sl_runRL ra rest.length rc n hf2 w4
      rw [hde] at hs2 HRd
      clear hde
      simp only [Act.put, List.setIfInBounds_toArray, List.set_cons_zero, List.set_cons_succ]
      refine WL.val (by kernel_rfl) (v4) (by go_simp) ?_
      simp only [Act.put, List.setIfInBounds_toArray, List.set_cons_zero, List.set_cons_succ]
      refine WL.nil ?_
      refine hK12 _ _ ?_
      refine wp_region_list (WL.out ?_)
      refine WL.val (by kernel_rfl) (.slice ra rest.length rc) (by go_simp) ?_
      simp only [Act.put, List.setIfInBounds_toArray, List.set_cons_zero, List.set_cons_succ]
      refine WL.val (by kernel_rfl) (.int .i64 (n : Int)) (by go_simp) ?_
      simp only [Act.put, List.setIfInBounds_toArray, List.set_cons_zero, List.set_cons_succ]
      refine WL.val (by kernel_rfl) (.slice da (rest.drop n).length dc) (by go_simp) ?_
      clear hs2
      simp only [Act.put, List.setIfInBounds_toArray, List.set_cons_zero, List.set_cons_succ]
      refine WL.val (by kernel_rfl) (.slice da (rest.drop n).length dc) (by go_simp) ?_
      simp only [Act.put, List.setIfInBounds_toArray, List.set_cons_zero, List.set_cons_succ]
      refine WL.nil ?_
      refine ⟨⟨t + 1, .slice da (rest.drop n).length dc, v4, .int .i64 (n : Int), .slice ra rest.length rc, .int .i64 (rest.length : Int), .bool true, .slice ra rest.length rc, .int .i64 (n : Int), u4, .slice ra rest.length rc, .int .i64 (n : Int), .slice ra n rc, .slice xa (rest.take n).length xc, .agg (msA (cB (.slice xa (rest.take n).length xc))), .slice (some ⟨g3, 0, none⟩) 1 1, v4, .slice ra rest.length rc, .int .i64 (n : Int), .slice da (rest.drop n).length dc, rfl, rest.drop n, D ++ [rest.take n], cs ++ [cB (.slice xa (rest.take n).length xc)], HRd, HOd, HO4, HF4, HM4, ⟨fun E hE => by have h := HCh.out (rest.take n :: E) ⟨Hre.out, by rw [Hn.out], by rw [← Hn.out]; exact hE⟩; simpa [List.append_assoc] using h⟩, HB4, by rw [List.length_append, List.length_drop]; simp; omega⟩, by simp [slLen, List.length_drop]; omega⟩
  · rw [hok] at HCa
    have Hok := Keep.mk hok
    clear hok
    refine wp_region_list (WL.out ?_)
    refine WL.val (by kernel_rfl) (.slice pa ls.length pc) (by go_simp) ?_
    simp only [Act.put, List.setIfInBounds_toArray, List.set_cons_zero, List.set_cons_succ]
    refine WL.callF (by kernel_rfl) 8 _ _ rfl Try.in8 #[.slice pa ls.length pc] (by simp [Act.eval]) ?_
    refine (HCa.out).mono ?_
    rintro e w0 ⟨rfl, hw0⟩
    rw [hw0]
    clear hw0 w0
    refine ⟨_, rfl, ?_⟩
    simp only [Act.put, List.setIfInBounds_toArray, List.set_cons_zero, List.set_cons_succ]
    refine WL.val (by kernel_rfl) (.bool true) (by go_simp) ?_
    simp only [Act.put, List.setIfInBounds_toArray, List.set_cons_zero, List.set_cons_succ]
    refine WL.nil ?_
    refine hK3 _ _ ?_
    refine wp_cond_true rfl ?_
    refine wp_seq_k fun K13 hK13 => ?_
    refine wp_region_list (WL.out ?_)
    refine WL.val (by kernel_rfl) (.slice none 0 0) (by go_simp) ?_
    simp only [Act.put, List.setIfInBounds_toArray, List.set_cons_zero, List.set_cons_succ]
    refine WL.val (by kernel_rfl) (.int .i64 4) (by go_simp) ?_
    simp only [Act.put, List.setIfInBounds_toArray, List.set_cons_zero, List.set_cons_succ]
    refine WL.nil ?_
    refine hK13 _ _ ?_
    refine wp_ret ?_
    go_ret2
    exact ⟨Below.refl _ _, .inl ⟨Hok.out, rfl⟩⟩
theorem fitG_take : ∀ (rs : List (List Int)) (i a n : Nat), fitG (rs.take n) i a = min (i + n) (fitG rs i a)
  | [], i, a, n => by simp only [List.take_nil, fitG]; omega
  | r :: rs, i, a, 0 => by
    have := fit_ge (r :: rs) i a
    simp only [List.take_zero, fitG] at this ⊢
    omega
  | r :: rs, i, a, n + 1 => by
    rw [List.take_succ_cons, fitG, fitG]
    split
    · omega
    · rw [fitG_take rs (i + 1) _ n]
      omega
theorem fit_take (ls : List (List Int)) (n : Nat) : fit (ls.take n) = min n (fit ls) := by
  unfold fit
  rw [fitG_take, Nat.zero_add]
theorem fitG_256 : ∀ (rs : List (List Int)) (i a : Nat), i ≤ 256 → fitG rs i a ≤ 256
  | [], i, a, h => h
  | r :: rs, i, a, h => by
    rw [fitG]
    split
    · exact h
    · rename_i hc
      exact fitG_256 rs (i + 1) _ (by omega)
theorem fit_256 (ls : List (List Int)) : fit ls ≤ 256 := fitG_256 ls 0 0 (by omega)
def mB (d : List (List Int)) : MsgV := { zeroM with k := 3, bk := d }
theorem mB_at {w : World} {a : Option Addr} {n c : Nat} {d : List (List Int)} (h : RwsAt w (.slice a n c) d) : MsAt w (mB d) (cB (.slice a n c)) := ⟨rfl, rfl, hrow_nil w, .inl ⟨rfl, rfl⟩, hrow_nil w, h⟩
theorem mB_ok {d : List (List Int)} (hl : d.length ≤ 140737488355328) (hr : ∀ r ∈ d, r.length ≤ 140737488355328) (hB : ∀ r ∈ d, Byts r) : MsOk (mB d) :=
  ⟨⟨by simp [mB, zeroM], by simp [mB, zeroM]⟩, ⟨by simp [mB, zeroM], by simp [mB, zeroM]⟩, by simp [mB, zeroM], by simp [mB, zeroM], by simp [mB, zeroM], hl, fun c hc => by simp [mB, zeroM] at hc, fun i hi => by
    have hi' : i < d.length := hi
    show (d.getD i []).length ≤ _
    rw [List.getD_eq_getElem?_getD, List.getElem?_eq_getElem hi']
    exact hr _ (List.getElem_mem hi'), hB⟩
theorem chk_chunk {ls : List (List Int)} (hok : okR ls = true) (h0 : ls ≠ []) : chkM (mB (ls.take (fit ls))) = 0 := by
  have h1 := fit_pos hok h0
  have h2 := fit_len ls
  have h3 := fit_256 ls
  have h4 : (ls.take (fit ls)).length = fit ls := by rw [List.length_take]; omega
  have h5 : okR (ls.take (fit ls)) = true := okR_mem hok fun r hr => List.mem_of_mem_take hr
  have h6 : fit (ls.take (fit ls)) = fit ls := by rw [fit_take]; omega
  obtain ⟨d, hd⟩ : ∃ d, d = ls.take (fit ls) := ⟨_, rfl⟩
  rw [← hd] at h4 h5 h6 ⊢
  have e1 : ¬ hasI (mB d).k = [] := by show ¬ hasI 3 = []; decide
  have e2 : ¬ moreB (mB d) = true := by simp [moreB, mB, zeroM, leftB]
  unfold chkM
  rw [if_neg e1, if_neg e2, if_neg (by simp [mB, zeroM]), if_neg (by simp [mB, zeroM]), if_neg (by show ¬ 256 < d.length; omega), if_neg (by show ¬ ((3 : Int) = 3 ∧ d.length = 0); omega), if_neg (by show ¬ Sh.risesB [] = false; decide), if_neg (by show ¬ Sh.risesB [] = false; decide), if_neg (by show ¬ ((3 : Int) = 1 ∧ _); omega), if_neg (by show ¬ okR d = false; rw [h5]; decide), if_neg (by show ¬ fit d < d.length; omega)]
theorem chk_more {ls : List (List Int)} (h : fit ls < ls.length) : chkM (mB (ls.take (fit ls + 1))) ≠ 0 := fun h0 =>
  (chk_facts h0).2.2.2.2.2.2.2.2.2.2 (by
    show fit (ls.take (fit ls + 1)) < (ls.take (fit ls + 1)).length
    rw [fit_take, List.length_take]
    omega)
theorem OwnR.rws {w : World} {v : Value} {vs : List Value} {ls : List (List Int)} (h1 : OwnR w v vs) (h2 : vs.length = ls.length) (h3 : ∀ i, i < ls.length → RowAt w (vs.getD i noS) (ls.getD i [])) : RwsAt w v ls := by
  refine ⟨fun i => vs.getD i noS, ?_, fun i hi => h3 i hi⟩
  rcases h1.form with ⟨rfl, h4⟩ | ⟨g, cap, cur, rfl, h4, h5, h6⟩
  · exact .inl ⟨_, _, rfl, List.eq_nil_of_length_eq_zero (by rw [← h2, h4]; rfl)⟩
  · refine .inr ⟨g, 0, cap, by rw [h2], by omega, fun i hi => ?_⟩
    rw [h4.cell, Nat.zero_add]
    have : vs[i]? = some (vs.getD i noS) := by rw [List.getD_eq_getElem?_getD, List.getElem?_eq_getElem (by omega)]; rfl
    rw [← this, ← h6, List.getElem?_take, if_pos (by omega), Array.getElem?_toList]
theorem ownR_nil (w : World) : OwnR w (.slice none 0 0) [] := ⟨rfl, .inl ⟨rfl, rfl⟩⟩
theorem run_appN (w : World) (ty : TypeId) (g cap : Nat) (vs : List Value) (hone : ∀ u ∈ vs, u.oneCell' = true) (h0 : 0 < vs.length) (hc : ∀ i u, vs[i]? = some u → w.cell? ⟨g, i, none⟩ = some u) (hb : vs.length ≤ 1000000000) :
    ∃ v' w', (Builtin.append_ #[22, 22] ty #[.slice none 0 0, .slice (some ⟨g, 0, none⟩) vs.length cap]).run Try.prog w = .ok v' w' ∧ OwnR w' v' vs ∧ Below w.heap.size w w' ∧ ∀ k, v'.ownBlock = some k → w.heap.size ≤ k := by
  obtain ⟨i, hi, hzz⟩ := Option.map_eq_some_iff.1 Try.infoR
  simp only [Prod.mk.injEq] at hzz
  obtain ⟨hz, hsz, hby⟩ := hzz
  obtain ⟨v', w', hr, h1, h2, h3, h4⟩ := run_append_own_at (P := Try.prog) w 0 22 ty 30 i (.slice none 0 0) 1 24 Try.underlying22 hi hz hsz hby rfl (by omega) (.slice none 0 0) 0 [] (ownR_nil w) ⟨g, 0, none⟩ vs.length cap vs (by rw [Nat.mul_one]) (fun j u hu => by rw [Addr.add_mid, Nat.zero_add]; exact hc j u hu) hone (by unfold maxLen; omega) (by omega) (Nat.zero_le _)
  refine ⟨v', w', hr, ?_, ⟨h2.os, h2.tape, h2.output, h2.size, fun k hk => h2.block k hk (by simp [Value.ownBlock])⟩, fun k hk => ?_⟩
  · unfold OwnR; simpa using h1
  · rcases h4 with h4 | h4
    · rw [h4] at hk; simp [Value.ownBlock] at hk
    · rw [h4] at hk; injection hk with hk; omega
theorem wp_appN {Q : Exit → Act → World → Prop} {o : Oper} {a : Act} {w : World} {K : Act → World → Prop} (s x : Operand)
    (ho : o.op = .call { callee := .builtin .append, args := #[s, x], argTypes := #[22, 22] }) (g cap : Nat) (vs : List Value)
    (hs : a.eval s = .slice none 0 0) (hx : a.eval x = .slice (some ⟨g, 0, none⟩) vs.length cap) (hone : ∀ u ∈ vs, u.oneCell' = true) (h0 : 0 < vs.length) (hc : ∀ i u, vs[i]? = some u → w.cell? ⟨g, i, none⟩ = some u) (hb : vs.length ≤ 1000000000)
    (h : ∀ v' w', OwnR w' v' vs → Below w.heap.size w w' → (∀ k, v'.ownBlock = some k → w.heap.size ≤ k) → K (a.put o.dst v') w') : o.wp Try.prog a w K Q := by
  obtain ⟨v', w', hr, h2, h3, h4⟩ := run_appN w o.type g cap vs hone h0 hc hb
  unfold Oper.wp execOp
  simp only [ho, resolve, invoke, builtin, Sem.run_bind, Sem.run_pure, Result.andThen_ok, List.map_toArray, List.map_cons, List.map_nil, hs, hx, hr]
  exact h v' w' h2 h3 h4
theorem wp_appR1 {Q : Exit → Act → World → Prop} {o : Oper} {a : Act} {w : World} {K : Act → World → Prop} (s x : Operand)
    (ho : o.op = .call { callee := .builtin .append, args := #[s, x], argTypes := #[22, 22] }) (v : Value) (l : List Value) (g : Nat) (y : Value) (hy : y.oneCell' = true)
    (hs : a.eval s = v) (hx : a.eval x = .slice (some ⟨g, 0, none⟩) 1 1) (hown : OwnR w v l) (hg : Blk w g 30 #[y]) (hb : l.length ≤ 1000000000000)
    (h : ∀ v' w', OwnR w' v' (l ++ [y]) → (Grown w w' fun k => v.ownBlock = some k) → Moved w v v' → K (a.put o.dst v') w') : o.wp Try.prog a w K Q := by
  obtain ⟨v', w', hr, h1, h2, h3⟩ := run_appR w o.type v l hown g y hy hg hb
  unfold Oper.wp execOp
  simp only [ho, resolve, invoke, builtin, Sem.run_bind, Sem.run_pure, Result.andThen_ok, List.map_toArray, List.map_cons, List.map_nil, hs, hx, hr]
  exact h v' w' h1 h2 h3
theorem wp_bsR {P : Program} {o : Oper} {a : Act} {w : World} {K : Act → World → Prop} {Q : Exit → Act → World → Prop} (v : Value) (w' : World) (hrun : (execOp a.eval o).run P w = .ok (.value v) w') (h : K (a.put o.dst v) w') : o.wp P a w K Q := by
  unfold Oper.wp; rw [hrun]; exact h
end Go.Proofs.Ytkcdoamohiaiaaa
