import Derived.Test.YtkcdoamohiaiaaaF05
namespace Go.Proofs.Ytkcdoamohiaiaaa
open Go.RowKit
set_option linter.unusedSimpArgs false
set_option linter.unusedVariables false

theorem TabAt.look2 {w : World} {m : Nat} (h : TabAt w m) (k : Int) : ∃ v, FieldsAt w v (hasI k) ∧ ∀ wx, Below w.heap.size w wx →
    (Instr.lookup 46 (.map (some m)) (.int .i64 k) false).run Try.prog wx = .ok v wx ∧ (Instr.lookup 46 (.map (some m)) (.int .i64 k) true).run Try.prog wx = .ok (.tuple #[v, .bool (!(hasI k).isEmpty)]) wx := by
  obtain ⟨V, h1, h2⟩ := h.ex
  have h3 := fun wx (hb : Below w.heap.size w wx) => run_look wx m _ k (h1.grown (Grown.below (S := fun _ => False) hb) (fun h => h))
  simp only [find_tab] at h3
  by_cases hk : k ∈ ([1, 2, 3] : List Int)
  · refine ⟨V k, h2 k hk, fun wx hb => ⟨by rw [h3 wx hb, if_pos hk]; rfl, ?_⟩⟩
    have : (hasI k).isEmpty = false := by simpa using hasI_some k hk
    rw [h3 wx hb, if_pos hk, this]; rfl
  · refine ⟨.slice none 0 0, .inl ⟨rfl, hasI_none k hk⟩, fun wx hb => ⟨by rw [h3 wx hb, if_neg hk]; rfl, ?_⟩⟩
    rw [h3 wx hb, if_neg hk, hasI_none k hk]; rfl
theorem hasI_len (k : Int) : (hasI k).length ≤ 4 := by
  unfold hasI
  repeat' split
  all_goals decide
theorem hasI_lt (k : Int) : ∀ i ∈ hasI k, i < 5 := by
  unfold hasI
  repeat' split
  all_goals decide
theorem hasI_cases {k : Int} (h : ¬ hasI k = []) : k = 1 ∨ k = 2 ∨ k = 3 := by
  unfold hasI at h
  by_cases h1 : k = 1
  · exact .inl h1
  · by_cases h2 : k = 2
    · exact .inr (.inl h2)
    · by_cases h3 : k = 3
      · exact .inr (.inr h3)
      · simp [h1, h2, h3] at h
theorem FieldsAt.some {w : World} {v : Value} {is : List Nat} (h : FieldsAt w v is) (hn : ¬ is = []) : ∃ g, v = .slice (.some ⟨g, 0, none⟩) is.length is.length ∧ Blk w g 60 (flatF is) := by
  rcases h with h | h
  · exact absurd h.2 hn
  · exact h
structure MsAt (w : World) (M : MsgV) (c : MC) : Prop where
  k : c.k = M.k
  s : c.s = M.sa
  hd : Sh.HRow w c.h M.hd
  bl : RowAt w c.b M.bl
  wt : Sh.HRow w c.w M.wt
  bk : RwsAt w c.x M.bk
theorem MsAt.below {w w' : World} {M : MsgV} {c : MC} (h : MsAt w M c) (hb : Below w.heap.size w w') : MsAt w' M c := ⟨h.k, h.s, h.hd.below hb, h.bl.below hb, h.wt.below hb, h.bk.below hb⟩
theorem MsAt.sl {w : World} {M : MsgV} {c : MC} (h : MsAt w M c) : SlC c := by
  obtain ⟨a1, c1, e1⟩ := h.hd.form
  obtain ⟨a2, c2, e2⟩ := row_form h.bl
  obtain ⟨a3, c3, e3⟩ := h.wt.form
  obtain ⟨a4, c4, e4⟩ := h.bk.form
  exact ⟨⟨_, _, _, e1⟩, ⟨_, _, _, e2⟩, ⟨_, _, _, e3⟩, ⟨_, _, _, e4⟩⟩
structure MsOk (M : MsgV) : Prop where
  k : -9223372036854775808 ≤ M.k ∧ M.k ≤ 9223372036854775807
  s : 0 ≤ M.sa ∧ M.sa < 18446744073709551616
  hd : M.hd.length ≤ 140737488355328
  bl : M.bl.length ≤ 140737488355328
  wt : M.wt.length ≤ 140737488355328
  bk : M.bk.length ≤ 140737488355328
  blB : Byts M.bl
  rows : ∀ i, i < M.bk.length → (M.bk.getD i []).length ≤ 140737488355328
  bkB : ∀ r ∈ M.bk, Byts r
def moreB (M : MsgV) : Bool :=
  if M.k = 1 then decide (0 < M.bk.length)
  else if M.k = 2 then leftB M.hd.length M.sa M.bl.length 0 M.bk.length
  else leftB M.hd.length M.sa M.bl.length M.wt.length 0
theorem more_of {w : World} {M : MsgV} {c : MC} (h : MsAt w M c) (hk : ¬ hasI M.k = []) : ∀ ha hn hk, (wipesC (hasI M.k) c).h = .slice ha hn hk → ∀ ba bn bk, (wipesC (hasI M.k) c).b = .slice ba bn bk → ∀ wa wn wk, (wipesC (hasI M.k) c).w = .slice wa wn wk → ∀ xa xn xk, (wipesC (hasI M.k) c).x = .slice xa xn xk → moreB M = leftB hn (wipesC (hasI M.k) c).s bn wn xn := by
  intro ha hn hk1 e1 ba bn bk1 e2 wa wn wk1 e3 xa xn xk1 e4
  obtain ⟨a1, c1, f1⟩ := h.hd.form
  obtain ⟨a2, c2, f2⟩ := row_form h.bl
  obtain ⟨a3, c3, f3⟩ := h.wt.form
  obtain ⟨a4, c4, f4⟩ := h.bk.form
  have fs := h.s
  unfold moreB
  rcases hasI_cases hk with e | e | e
  · rw [e] at e1 e2 e3 e4 ⊢
    simp [wipesC, hasI, wipeC, noS] at e1 e2 e3 e4 ⊢
    rw [f4] at e4
    injection e4 with _ e4 _
    simp [leftB, ← e1.2.1, ← e2.2.1, ← e3.2.1, e4]
  · rw [e] at e1 e2 e3 e4 ⊢
    simp [wipesC, hasI, wipeC, noS] at e1 e2 e3 e4 ⊢
    rw [f1] at e1
    rw [f2] at e2
    rw [f4] at e4
    injection e1 with _ e1 _
    injection e2 with _ e2 _
    injection e4 with _ e4 _
    rw [← e1, ← e2, ← e3.2.1, ← e4, fs]
  · rw [e] at e1 e2 e3 e4 ⊢
    simp [wipesC, hasI, wipeC, noS] at e1 e2 e3 e4 ⊢
    rw [f1] at e1
    rw [f2] at e2
    rw [f3] at e3
    injection e1 with _ e1 _
    injection e2 with _ e2 _
    injection e3 with _ e3 _
    rw [← e1, ← e2, ← e3, ← e4.2.1, fs]
def chkM (M : MsgV) : Int :=
  if hasI M.k = [] then 40 else if moreB M = true then 41 else if 4096 < M.hd.length then 3 else if 4096 < M.wt.length then 3 else if 256 < M.bk.length then 3
  else if M.k = 3 ∧ M.bk.length = 0 then 1 else if Sh.risesB M.hd = false then 130 else if Sh.risesB M.wt = false then 130 else if M.k = 1 ∧ isP (M.bl.length : Int) = false then 60
  else if okR M.bk = false then 4 else if fit M.bk < M.bk.length then 4 else 0
theorem Try.in6 (w : World) (vs : Array Value) : (callFunc 6 vs).run Try.prog w = .ok (.enter 6 vs) w := by kernel_rfl
set_option maxRecDepth 8000 in
set_option maxHeartbeats 4000000 in
theorem check_any (M : MsgV) (c : MC) (w : World) (hA : MsAt w M c) (hok : MsOk M) : Calls Try.prog 6 #[.agg (msA c)] w fun e w' => e = .returned (.int .i64 (chkM M)) ∧ Below w.heap.size w w' := by
  obtain ⟨ha, hk, e1⟩ := hA.hd.form
  obtain ⟨ba, bk, e2⟩ := row_form hA.bl
  obtain ⟨wa, wk, e3⟩ := hA.wt.form
  obtain ⟨xa, xk, e4⟩ := hA.bk.form
  have E1 := Keep.mk e1
  have E3 := Keep.mk e2
  have E4 := Keep.mk e3
  have E5 := Keep.mk e4
  have Ek := Keep.mk hA.k
  have HOk := Keep.mk hok
  obtain ⟨R, hR⟩ : ∃ R, R = chkM M := ⟨_, rfl⟩
  rw [← hR]
  unfold chkM at hR
  have HR := Keep.mk hR
  have HA := Keep.mk hA
  have n1 : (M.hd.length : Int) ≤ 9223372036854775807 := by have := hok.hd; omega
  have n3 : (M.wt.length : Int) ≤ 9223372036854775807 := by have := hok.wt; omega
  have n4 : (M.bk.length : Int) ≤ 9223372036854775807 := by have := hok.bk; omega
  have n5 : (M.bl.length : Int) ≤ 9223372036854775807 := by have := hok.bl; omega
  clear hA hok hR e1 e2 e3 e4
  go_enter Try.func6, Try.ntmps6
  refine wp_seq_k fun K1 hK1 => ?_
  refine wp_region_list (WL.out ?_)
  refine WL.box (by kernel_rfl) 32 (.tmp 0) rfl _ rfl ?_
  have HM := Keep.mk (Blk.new w 32 (msA c))
  have B1 := Keep.mk (below_new w (.cells (msA c) 32))
  have HA1 := Keep.mk (HA.out.below (below_new w (.cells (msA c) 32)))
  generalize w.alloc (.cells (msA c) 32) = w1 at *
  obtain ⟨g, hg⟩ : ∃ g, g = w.heap.size := ⟨_, rfl⟩
  rw [← hg] at HM B1 ⊢
  have HgE := Keep.mk hg
  clear hg
  simp only [Act.put, List.setIfInBounds_toArray, List.set_cons_zero, List.set_cons_succ]
  refine WL.val (by kernel_rfl) (.int .i64 0) (by go_simp) ?_
  simp only [Act.put, List.setIfInBounds_toArray, List.set_cons_zero, List.set_cons_succ]
  refine WL.nil ?_
  refine hK1 _ _ ?_
  refine wp_seq_k fun K2 hK2 => ?_
  have d0 := HM.out.c 0 (ms_0 c)
  rw [Ek.out] at d0
  refine wp_region_held_drew (S := fun wx => wx.cell? ⟨g, 0, none⟩ = some (.int .i64 M.k)) (by kernel_rfl) (d0) (fun hHeld => ?_)
  refine wpAnyH_take (i := 1) (oi := ⟨some 7, Op.fieldAddr 32 (Operand.tmp 1) 0, 0, _, _, none⟩) (v := .pointer (some ⟨g, 0, none⟩)) rfl (by kernel_rfl) (by kernel_rfl) (by kernel_rfl) (fun _ _ _ h => h) (Or.inl ⟨by rfl, fun w hS => by go_simp⟩) hHeld ?_
  simp only [Act.put, List.setIfInBounds_toArray, List.set_cons_zero, List.set_cons_succ]
  refine wpAnyH_take (i := 2) (oi := ⟨some 8, Op.load 3 (Operand.tmp 7), 3, _, _, none⟩) (v := .int .i64 M.k) rfl (by kernel_rfl) (by kernel_rfl) (by kernel_rfl) (fun _ _ _ h => h) (Or.inl ⟨by rfl, fun w hS => by go_simp⟩) hHeld ?_
  simp only [Act.put, List.setIfInBounds_toArray, List.set_cons_zero, List.set_cons_succ]
  refine wpAnyH_ready (rs := [0]) (by kernel_rfl) (by simp) ?_
  refine AllReadyH.cons (o := ⟨some 6, Op.call { callee := Callee.value (Operand.func 13), args := #[], argTypes := #[] }, 46, _, _, none⟩) rfl (fun K hK => ?_) AllReadyH.nil
  rw [if_pos (by rfl)]
  refine wp_callF 13 _ _ rfl Try.in13 #[] (by simp [Act.eval]) (fun v w' => ∃ m, v = .map (some m) ∧ TabAt w' m ∧ Below w1.drew.heap.size w1.drew w') ((tab_any w1.drew).mono fun e w' h => by obtain ⟨m, h1, h2, h3, h4⟩ := h; exact ⟨_, h1, m, rfl, h2, h4⟩) ?_
  rintro v w2 ⟨m, rfl, hT2, hb2⟩
  have B2w : Keep (Below w1.heap.size w1 w2) := ⟨(Below.refl _ _).drew.trans hb2⟩
  have HM2 := Keep.mk (HM.out.below B2w.out HM.out.lt)
  have HA2 := Keep.mk (HA1.out.below B2w.out)
  have B2 : Keep (Below g w w2) := ⟨B1.out.trans (B2w.out.mono (by rw [HgE.out]; exact B1.out.size))⟩
  have e0 := HM2.out.c 0 (ms_0 c)
  rw [Ek.out] at e0
  obtain ⟨vF, hvF, hlk⟩ := hT2.look2 M.k
  have HvF := Keep.mk hvF
  have hlk2 := (hlk w2 (Below.refl _ _)).2
  clear hvF hlk hb2 hT2
  refine hK.out _ _ e0 fun hHeld5 => ?_
  clear hK
  simp only [Act.put, List.setIfInBounds_toArray, List.set_cons_zero, List.set_cons_succ]
  refine wpAnyH_weaken (S' := fun wx => wx.cell? ⟨g, 0, none⟩ = some (.int .i64 M.k) ∧ (Instr.lookup 46 (.map (some m)) (.int .i64 M.k) true).run Try.prog wx = .ok (.tuple #[vF, .bool (!(hasI M.k).isEmpty)]) wx) (fun _ h => h.1) _ _ _ _ ?_
  have hH6 := And.intro hHeld5 hlk2
  refine wpAnyH_take (i := 3) (oi := ⟨some 9, Op.lookup 46 (Operand.tmp 6) (Operand.tmp 8) true, 45, _, _, none⟩) (v := .tuple #[vF, .bool (!(hasI M.k).isEmpty)]) rfl (by kernel_rfl) (by kernel_rfl) (by kernel_rfl) (fun _ _ _ h => h) (Or.inl ⟨by rfl, fun w hS => by have h := hS.2; go_simp⟩) hH6 ?_
  simp only [Act.put, List.setIfInBounds_toArray, List.set_cons_zero, List.set_cons_succ]
  refine wpAnyH_take (i := 4) (oi := ⟨some 5, Op.move (Operand.tmp 9), 45, _, _, none⟩) (v := .tuple #[vF, .bool (!(hasI M.k).isEmpty)]) rfl (by kernel_rfl) (by kernel_rfl) (by kernel_rfl) (fun _ _ _ h => h) (Or.inl ⟨by rfl, fun w hS => by go_simp⟩) hH6 ?_
  simp only [Act.put, List.setIfInBounds_toArray, List.set_cons_zero, List.set_cons_succ]
  refine wpAnyH_take (i := 5) (oi := ⟨some 10, Op.extract (Operand.tmp 5) 0, 44, _, _, none⟩) (v := vF) rfl (by kernel_rfl) (by kernel_rfl) (by kernel_rfl) (fun _ _ _ h => h) (Or.inl ⟨by rfl, fun w hS => by go_simp⟩) hH6 ?_
  simp only [Act.put, List.setIfInBounds_toArray, List.set_cons_zero, List.set_cons_succ]
  refine wpAnyH_take (i := 6) (oi := ⟨some 11, Op.extract (Operand.tmp 5) 1, 4, _, _, none⟩) (v := .bool (!(hasI M.k).isEmpty)) rfl (by kernel_rfl) (by kernel_rfl) (by kernel_rfl) (fun _ _ _ h => h) (Or.inl ⟨by rfl, fun w hS => by go_simp⟩) hH6 ?_
  simp only [Act.put, List.setIfInBounds_toArray, List.set_cons_zero, List.set_cons_succ]
  refine wpAnyH_take (i := 7) (oi := ⟨some 3, Op.assign (Operand.tmp 10), 44, _, _, none⟩) (v := vF) rfl (by kernel_rfl) (by kernel_rfl) (by kernel_rfl) (fun _ _ _ h => h) (Or.inl ⟨by rfl, fun w hS => by go_simp⟩) hH6 ?_
  simp only [Act.put, List.setIfInBounds_toArray, List.set_cons_zero, List.set_cons_succ]
  refine wpAnyH_take (i := 8) (oi := ⟨some 4, Op.assign (Operand.tmp 11), 4, _, _, none⟩) (v := .bool (!(hasI M.k).isEmpty)) rfl (by kernel_rfl) (by kernel_rfl) (by kernel_rfl) (fun _ _ _ h => h) (Or.inl ⟨by rfl, fun w hS => by go_simp⟩) hH6 ?_
  simp only [Act.put, List.setIfInBounds_toArray, List.set_cons_zero, List.set_cons_succ]
  refine wpAnyH_done (by kernel_rfl) ?_ _
  refine hK2 _ _ ?_
  refine wp_seq_k fun K3 hK3 => ?_
  refine wp_block ?_
  refine wp_seq_k fun K4 hK4 => ?_
  by_cases hA : hasI M.k = []
  · rw [show (!(hasI M.k).isEmpty) = false by rw [hA]; rfl]
    refine wp_region_list (WL.out ?_)
    refine WL.val (by kernel_rfl) (.bool false) (by go_simp) ?_
    simp only [Act.put, List.setIfInBounds_toArray, List.set_cons_zero, List.set_cons_succ]
    refine WL.val (by kernel_rfl) (.bool true) (by go_simp) ?_
    simp only [Act.put, List.setIfInBounds_toArray, List.set_cons_zero, List.set_cons_succ]
    refine WL.val (by kernel_rfl) (.bool true) (by go_simp) ?_
    simp only [Act.put, List.setIfInBounds_toArray, List.set_cons_zero, List.set_cons_succ]
    refine WL.nil ?_
    refine hK4 _ _ ?_
    refine wp_cond_true rfl ?_
    refine wp_seq_k fun K5 hK5 => ?_
    refine wp_region_list (WL.out ?_)
    refine WL.val (by kernel_rfl) (.int .i64 40) (by go_simp) ?_
    simp only [Act.put, List.setIfInBounds_toArray, List.set_cons_zero, List.set_cons_succ]
    refine WL.nil ?_
    refine hK5 _ _ ?_
    refine wp_ret ?_
    go_ret
    first | exact ⟨by rw [HR.out]; (simp [*] <;> simp [hasI]), by rw [← HgE.out]; exact B2.out⟩ | exact ⟨by rw [HR.out]; (simp [*] <;> simp [hasI]), by rw [← HgE.out]; exact B3.out⟩ | exact ⟨by rw [HR.out]; (simp [*] <;> simp [hasI]), by rw [← HgE.out]; exact B4.out⟩ | exact ⟨by rw [HR.out]; (simp [*] <;> simp [hasI]), by rw [← HgE.out]; exact B5.out⟩ | exact ⟨by rw [HR.out]; (simp [*] <;> simp [hasI]), by rw [← HgE.out]; exact B5.out.drew⟩
  · rw [show (!(hasI M.k).isEmpty) = true by simpa using hA]
    obtain ⟨gf, hgf, HFb⟩ := HvF.out.some hA
    subst hgf
    have HF := Keep.mk HFb
    clear HFb
    refine wp_region_list (WL.out ?_)
    refine WL.val (by kernel_rfl) (.bool true) (by go_simp) ?_
    simp only [Act.put, List.setIfInBounds_toArray, List.set_cons_zero, List.set_cons_succ]
    refine WL.val (by kernel_rfl) (.bool false) (by go_simp) ?_
    simp only [Act.put, List.setIfInBounds_toArray, List.set_cons_zero, List.set_cons_succ]
    refine WL.val (by kernel_rfl) (.bool false) (by go_simp) ?_
    simp only [Act.put, List.setIfInBounds_toArray, List.set_cons_zero, List.set_cons_succ]
    refine WL.nil ?_
    refine hK4 _ _ ?_
    refine wp_cond_false rfl ?_
    refine wp_seq_k fun K6 hK6 => ?_
    rcases Bool.eq_false_or_eq_true (moreB M) with hB | hB
    · have HC := Keep.mk (hasMore_any c HA2.out.sl gf (hasI M.k) w2 HF.out (hasI_len _) true (by have h := more_of HA2.out hA; rw [hB] at h; exact h))
      refine wp_region_list (WL.out ?_)
      refine WL.row (by kernel_rfl) 32 (.tmp 1) rfl g rfl 32 (msA c) _ HM2.out Try.underlying32 rfl (Try.size32B _) ?_
      simp only [Act.put, List.setIfInBounds_toArray, List.set_cons_zero, List.set_cons_succ]
      refine WL.val (by kernel_rfl) (.slice (some ⟨gf, 0, none⟩) (hasI M.k).length (hasI M.k).length) (by go_simp) ?_
      simp only [Act.put, List.setIfInBounds_toArray, List.set_cons_zero, List.set_cons_succ]
      refine WL.callF (by kernel_rfl) 14 _ _ rfl Try.in14 #[.agg (msA c), .slice (some ⟨gf, 0, none⟩) (hasI M.k).length (hasI M.k).length] (by simp [Act.eval]) ?_
      refine (HC.out).mono ?_
      rintro e w3 ⟨rfl, hb3⟩
      refine ⟨_, rfl, ?_⟩
      clear HC
      have HM3 := Keep.mk (HM2.out.below hb3 HM2.out.lt)
      have HA3 := Keep.mk (HA2.out.below hb3)
      have B3 : Keep (Below g w w3) := ⟨B2.out.trans (hb3.mono (by rw [HgE.out]; exact B2.out.size))⟩
      have g0 := HM3.out.c 0 (ms_0 c)
      have g1 := HM3.out.c 1 (ms_1 c)
      have g3 := HM3.out.c 3 (ms_3 c)
      have g4 := HM3.out.c 4 (ms_4 c)
      have g5 := HM3.out.c 5 (ms_5 c)
      rw [Ek.out] at g0
      rw [E1.out] at g1
      rw [E3.out] at g3
      rw [E4.out] at g4
      rw [E5.out] at g5
      clear hb3
      simp only [Act.put, List.setIfInBounds_toArray, List.set_cons_zero, List.set_cons_succ]
      refine WL.val (by kernel_rfl) (.bool true) (by go_simp) ?_
      simp only [Act.put, List.setIfInBounds_toArray, List.set_cons_zero, List.set_cons_succ]
      refine WL.nil ?_
      refine hK6 _ _ ?_
      refine wp_cond_true rfl ?_
      refine wp_seq_k fun K7 hK7 => ?_
      refine wp_region_list (WL.out ?_)
      refine WL.val (by kernel_rfl) (.int .i64 41) (by go_simp) ?_
      simp only [Act.put, List.setIfInBounds_toArray, List.set_cons_zero, List.set_cons_succ]
      refine WL.nil ?_
      refine hK7 _ _ ?_
      refine wp_ret ?_
      go_ret
      first | exact ⟨by rw [HR.out]; (simp [*] <;> simp [hasI]), by rw [← HgE.out]; exact B2.out⟩ | exact ⟨by rw [HR.out]; (simp [*] <;> simp [hasI]), by rw [← HgE.out]; exact B3.out⟩ | exact ⟨by rw [HR.out]; (simp [*] <;> simp [hasI]), by rw [← HgE.out]; exact B4.out⟩ | exact ⟨by rw [HR.out]; (simp [*] <;> simp [hasI]), by rw [← HgE.out]; exact B5.out⟩ | exact ⟨by rw [HR.out]; (simp [*] <;> simp [hasI]), by rw [← HgE.out]; exact B5.out.drew⟩
    · have HC := Keep.mk (hasMore_any c HA2.out.sl gf (hasI M.k) w2 HF.out (hasI_len _) false (by have h := more_of HA2.out hA; rw [hB] at h; exact h))
      refine wp_region_list (WL.out ?_)
      refine WL.row (by kernel_rfl) 32 (.tmp 1) rfl g rfl 32 (msA c) _ HM2.out Try.underlying32 rfl (Try.size32B _) ?_
      simp only [Act.put, List.setIfInBounds_toArray, List.set_cons_zero, List.set_cons_succ]
      refine WL.val (by kernel_rfl) (.slice (some ⟨gf, 0, none⟩) (hasI M.k).length (hasI M.k).length) (by go_simp) ?_
      simp only [Act.put, List.setIfInBounds_toArray, List.set_cons_zero, List.set_cons_succ]
      refine WL.callF (by kernel_rfl) 14 _ _ rfl Try.in14 #[.agg (msA c), .slice (some ⟨gf, 0, none⟩) (hasI M.k).length (hasI M.k).length] (by simp [Act.eval]) ?_
      refine (HC.out).mono ?_
      rintro e w3 ⟨rfl, hb3⟩
      refine ⟨_, rfl, ?_⟩
      clear HC
      have HM3 := Keep.mk (HM2.out.below hb3 HM2.out.lt)
      have HA3 := Keep.mk (HA2.out.below hb3)
      have B3 : Keep (Below g w w3) := ⟨B2.out.trans (hb3.mono (by rw [HgE.out]; exact B2.out.size))⟩
      have g0 := HM3.out.c 0 (ms_0 c)
      have g1 := HM3.out.c 1 (ms_1 c)
      have g3 := HM3.out.c 3 (ms_3 c)
      have g4 := HM3.out.c 4 (ms_4 c)
      have g5 := HM3.out.c 5 (ms_5 c)
      rw [Ek.out] at g0
      rw [E1.out] at g1
      rw [E3.out] at g3
      rw [E4.out] at g4
      rw [E5.out] at g5
      clear hb3
      simp only [Act.put, List.setIfInBounds_toArray, List.set_cons_zero, List.set_cons_succ]
      refine WL.val (by kernel_rfl) (.bool false) (by go_simp) ?_
      simp only [Act.put, List.setIfInBounds_toArray, List.set_cons_zero, List.set_cons_succ]
      refine WL.nil ?_
      refine hK6 _ _ ?_
      refine wp_cond_false rfl ?_
      refine wp_seq_k fun K8 hK8 => ?_
      refine wp_region_list (WL.out ?_)
      refine WL.val (by kernel_rfl) (.pointer (some ⟨g, 1, none⟩)) (by go_simp) ?_
      simp only [Act.put, List.setIfInBounds_toArray, List.set_cons_zero, List.set_cons_succ]
      refine WL.val (by kernel_rfl) (.slice ha M.hd.length hk) (by go_simp) ?_
      simp only [Act.put, List.setIfInBounds_toArray, List.set_cons_zero, List.set_cons_succ]
      refine WL.val (by kernel_rfl) (.int .i64 (M.hd.length : Int)) (by go_simp) ?_
      simp only [Act.put, List.setIfInBounds_toArray, List.set_cons_zero, List.set_cons_succ]
      by_cases h6_3 : 4096 < M.hd.length
      · have h6_3i : (4096 : Int) < (M.hd.length : Int) := by omega
        refine WL.val (by kernel_rfl) (.bool true) (by go_simp) ?_
        simp only [Act.put, List.setIfInBounds_toArray, List.set_cons_zero, List.set_cons_succ]
        refine WL.val (by kernel_rfl) (.bool true) (by go_simp) ?_
        simp only [Act.put, List.setIfInBounds_toArray, List.set_cons_zero, List.set_cons_succ]
        refine WL.skip (by kernel_rfl) ?_
        simp only [Act.put, List.setIfInBounds_toArray, List.set_cons_zero, List.set_cons_succ]
        refine WL.skip (by kernel_rfl) ?_
        simp only [Act.put, List.setIfInBounds_toArray, List.set_cons_zero, List.set_cons_succ]
        refine WL.skip (by kernel_rfl) ?_
        simp only [Act.put, List.setIfInBounds_toArray, List.set_cons_zero, List.set_cons_succ]
        refine WL.skip (by kernel_rfl) ?_
        simp only [Act.put, List.setIfInBounds_toArray, List.set_cons_zero, List.set_cons_succ]
        refine WL.val (by kernel_rfl) (.bool true) (by go_simp) ?_
        simp only [Act.put, List.setIfInBounds_toArray, List.set_cons_zero, List.set_cons_succ]
        refine WL.val (by kernel_rfl) (.bool true) (by go_simp) ?_
        simp only [Act.put, List.setIfInBounds_toArray, List.set_cons_zero, List.set_cons_succ]
        refine WL.skip (by kernel_rfl) ?_
        simp only [Act.put, List.setIfInBounds_toArray, List.set_cons_zero, List.set_cons_succ]
        refine WL.skip (by kernel_rfl) ?_
        simp only [Act.put, List.setIfInBounds_toArray, List.set_cons_zero, List.set_cons_succ]
        refine WL.skip (by kernel_rfl) ?_
        simp only [Act.put, List.setIfInBounds_toArray, List.set_cons_zero, List.set_cons_succ]
        refine WL.skip (by kernel_rfl) ?_
        simp only [Act.put, List.setIfInBounds_toArray, List.set_cons_zero, List.set_cons_succ]
        refine WL.val (by kernel_rfl) (.bool true) (by go_simp) ?_
        simp only [Act.put, List.setIfInBounds_toArray, List.set_cons_zero, List.set_cons_succ]
        refine WL.val (by kernel_rfl) (.bool true) (by go_simp) ?_
        simp only [Act.put, List.setIfInBounds_toArray, List.set_cons_zero, List.set_cons_succ]
        refine WL.nil ?_
        refine hK8 _ _ ?_
        refine wp_cond_true rfl ?_
        refine wp_seq_k fun K9 hK9 => ?_
        refine wp_region_list (WL.out ?_)
        refine WL.val (by kernel_rfl) (.int .i64 3) (by go_simp) ?_
        simp only [Act.put, List.setIfInBounds_toArray, List.set_cons_zero, List.set_cons_succ]
        refine WL.nil ?_
        refine hK9 _ _ ?_
        refine wp_ret ?_
        go_ret
        first | exact ⟨by rw [HR.out]; (simp [*] <;> simp [hasI]), by rw [← HgE.out]; exact B2.out⟩ | exact ⟨by rw [HR.out]; (simp [*] <;> simp [hasI]), by rw [← HgE.out]; exact B3.out⟩ | exact ⟨by rw [HR.out]; (simp [*] <;> simp [hasI]), by rw [← HgE.out]; exact B4.out⟩ | exact ⟨by rw [HR.out]; (simp [*] <;> simp [hasI]), by rw [← HgE.out]; exact B5.out⟩ | exact ⟨by rw [HR.out]; (simp [*] <;> simp [hasI]), by rw [← HgE.out]; exact B5.out.drew⟩
      · have h6_3i : ¬ (4096 : Int) < (M.hd.length : Int) := by omega
        refine WL.val (by kernel_rfl) (.bool false) (by go_simp) ?_
        simp only [Act.put, List.setIfInBounds_toArray, List.set_cons_zero, List.set_cons_succ]
        refine WL.val (by kernel_rfl) (.bool false) (by go_simp) ?_
        simp only [Act.put, List.setIfInBounds_toArray, List.set_cons_zero, List.set_cons_succ]
        refine WL.val (by kernel_rfl) (.pointer (some ⟨g, 4, none⟩)) (by go_simp) ?_
        simp only [Act.put, List.setIfInBounds_toArray, List.set_cons_zero, List.set_cons_succ]
        refine WL.val (by kernel_rfl) (.slice wa M.wt.length wk) (by go_simp) ?_
        simp only [Act.put, List.setIfInBounds_toArray, List.set_cons_zero, List.set_cons_succ]
        refine WL.val (by kernel_rfl) (.int .i64 (M.wt.length : Int)) (by go_simp) ?_
        simp only [Act.put, List.setIfInBounds_toArray, List.set_cons_zero, List.set_cons_succ]
        by_cases h6_8 : 4096 < M.wt.length
        · have h6_8i : (4096 : Int) < (M.wt.length : Int) := by omega
          refine WL.val (by kernel_rfl) (.bool true) (by go_simp) ?_
          simp only [Act.put, List.setIfInBounds_toArray, List.set_cons_zero, List.set_cons_succ]
          refine WL.val (by kernel_rfl) (.bool true) (by go_simp) ?_
          simp only [Act.put, List.setIfInBounds_toArray, List.set_cons_zero, List.set_cons_succ]
          refine WL.val (by kernel_rfl) (.bool true) (by go_simp) ?_
          simp only [Act.put, List.setIfInBounds_toArray, List.set_cons_zero, List.set_cons_succ]
          refine WL.skip (by kernel_rfl) ?_
          simp only [Act.put, List.setIfInBounds_toArray, List.set_cons_zero, List.set_cons_succ]
          refine WL.skip (by kernel_rfl) ?_
          simp only [Act.put, List.setIfInBounds_toArray, List.set_cons_zero, List.set_cons_succ]
          refine WL.skip (by kernel_rfl) ?_
          simp only [Act.put, List.setIfInBounds_toArray, List.set_cons_zero, List.set_cons_succ]
          refine WL.skip (by kernel_rfl) ?_
          simp only [Act.put, List.setIfInBounds_toArray, List.set_cons_zero, List.set_cons_succ]
          refine WL.val (by kernel_rfl) (.bool true) (by go_simp) ?_
          simp only [Act.put, List.setIfInBounds_toArray, List.set_cons_zero, List.set_cons_succ]
          refine WL.val (by kernel_rfl) (.bool true) (by go_simp) ?_
          simp only [Act.put, List.setIfInBounds_toArray, List.set_cons_zero, List.set_cons_succ]
          refine WL.nil ?_
          refine hK8 _ _ ?_
          refine wp_cond_true rfl ?_
          refine wp_seq_k fun K10 hK10 => ?_
          refine wp_region_list (WL.out ?_)
          refine WL.val (by kernel_rfl) (.int .i64 3) (by go_simp) ?_
          simp only [Act.put, List.setIfInBounds_toArray, List.set_cons_zero, List.set_cons_succ]
          refine WL.nil ?_
          refine hK10 _ _ ?_
          refine wp_ret ?_
          go_ret
          first | exact ⟨by rw [HR.out]; (simp [*] <;> simp [hasI]), by rw [← HgE.out]; exact B2.out⟩ | exact ⟨by rw [HR.out]; (simp [*] <;> simp [hasI]), by rw [← HgE.out]; exact B3.out⟩ | exact ⟨by rw [HR.out]; (simp [*] <;> simp [hasI]), by rw [← HgE.out]; exact B4.out⟩ | exact ⟨by rw [HR.out]; (simp [*] <;> simp [hasI]), by rw [← HgE.out]; exact B5.out⟩ | exact ⟨by rw [HR.out]; (simp [*] <;> simp [hasI]), by rw [← HgE.out]; exact B5.out.drew⟩
        · have h6_8i : ¬ (4096 : Int) < (M.wt.length : Int) := by omega
          refine WL.val (by kernel_rfl) (.bool false) (by go_simp) ?_
          simp only [Act.put, List.setIfInBounds_toArray, List.set_cons_zero, List.set_cons_succ]
          refine WL.val (by kernel_rfl) (.bool false) (by go_simp) ?_
          simp only [Act.put, List.setIfInBounds_toArray, List.set_cons_zero, List.set_cons_succ]
          refine WL.val (by kernel_rfl) (.bool false) (by go_simp) ?_
          simp only [Act.put, List.setIfInBounds_toArray, List.set_cons_zero, List.set_cons_succ]
          refine WL.val (by kernel_rfl) (.pointer (some ⟨g, 5, none⟩)) (by go_simp) ?_
          simp only [Act.put, List.setIfInBounds_toArray, List.set_cons_zero, List.set_cons_succ]
          refine WL.val (by kernel_rfl) (.slice xa M.bk.length xk) (by go_simp) ?_
          simp only [Act.put, List.setIfInBounds_toArray, List.set_cons_zero, List.set_cons_succ]
          refine WL.val (by kernel_rfl) (.int .i64 (M.bk.length : Int)) (by go_simp) ?_
          simp only [Act.put, List.setIfInBounds_toArray, List.set_cons_zero, List.set_cons_succ]
          by_cases h6_14 : 256 < M.bk.length
          · have h6_14i : (256 : Int) < (M.bk.length : Int) := by omega
            refine WL.val (by kernel_rfl) (.bool true) (by go_simp) ?_
            simp only [Act.put, List.setIfInBounds_toArray, List.set_cons_zero, List.set_cons_succ]
            refine WL.val (by kernel_rfl) (.bool true) (by go_simp) ?_
            simp only [Act.put, List.setIfInBounds_toArray, List.set_cons_zero, List.set_cons_succ]
            refine WL.val (by kernel_rfl) (.bool true) (by go_simp) ?_
            simp only [Act.put, List.setIfInBounds_toArray, List.set_cons_zero, List.set_cons_succ]
            refine WL.nil ?_
            refine hK8 _ _ ?_
            refine wp_cond_true rfl ?_
            refine wp_seq_k fun K11 hK11 => ?_
            refine wp_region_list (WL.out ?_)
            refine WL.val (by kernel_rfl) (.int .i64 3) (by go_simp) ?_
            simp only [Act.put, List.setIfInBounds_toArray, List.set_cons_zero, List.set_cons_succ]
            refine WL.nil ?_
            refine hK11 _ _ ?_
            refine wp_ret ?_
            go_ret
            first | exact ⟨by rw [HR.out]; (simp [*] <;> simp [hasI]), by rw [← HgE.out]; exact B2.out⟩ | exact ⟨by rw [HR.out]; (simp [*] <;> simp [hasI]), by rw [← HgE.out]; exact B3.out⟩ | exact ⟨by rw [HR.out]; (simp [*] <;> simp [hasI]), by rw [← HgE.out]; exact B4.out⟩ | exact ⟨by rw [HR.out]; (simp [*] <;> simp [hasI]), by rw [← HgE.out]; exact B5.out⟩ | exact ⟨by rw [HR.out]; (simp [*] <;> simp [hasI]), by rw [← HgE.out]; exact B5.out.drew⟩
          · have h6_14i : ¬ (256 : Int) < (M.bk.length : Int) := by omega
            refine WL.val (by kernel_rfl) (.bool false) (by go_simp) ?_
            simp only [Act.put, List.setIfInBounds_toArray, List.set_cons_zero, List.set_cons_succ]
            refine WL.val (by kernel_rfl) (.bool false) (by go_simp) ?_
            simp only [Act.put, List.setIfInBounds_toArray, List.set_cons_zero, List.set_cons_succ]
            refine WL.val (by kernel_rfl) (.bool false) (by go_simp) ?_
            simp only [Act.put, List.setIfInBounds_toArray, List.set_cons_zero, List.set_cons_succ]
            refine WL.nil ?_
            refine hK8 _ _ ?_
            refine wp_cond_false rfl ?_
            refine wp_seq_k fun K12 hK12 => ?_
            refine wp_region_list (WL.out ?_)
            refine WL.val (by kernel_rfl) (.pointer (some ⟨g, 0, none⟩)) (by go_simp) ?_
            simp only [Act.put, List.setIfInBounds_toArray, List.set_cons_zero, List.set_cons_succ]
            refine WL.val (by kernel_rfl) (.int .i64 M.k) (by go_simp) ?_
            simp only [Act.put, List.setIfInBounds_toArray, List.set_cons_zero, List.set_cons_succ]
            by_cases h8_2 : M.k = 3
            · skip
              refine WL.val (by kernel_rfl) (.bool true) (by go_simp) ?_
              simp only [Act.put, List.setIfInBounds_toArray, List.set_cons_zero, List.set_cons_succ]
              refine WL.val (by kernel_rfl) (.bool true) (by go_simp) ?_
              simp only [Act.put, List.setIfInBounds_toArray, List.set_cons_zero, List.set_cons_succ]
              refine WL.val (by kernel_rfl) (.pointer (some ⟨g, 5, none⟩)) (by go_simp) ?_
              simp only [Act.put, List.setIfInBounds_toArray, List.set_cons_zero, List.set_cons_succ]
              refine WL.val (by kernel_rfl) (.slice xa M.bk.length xk) (by go_simp) ?_
              simp only [Act.put, List.setIfInBounds_toArray, List.set_cons_zero, List.set_cons_succ]
              refine WL.val (by kernel_rfl) (.int .i64 (M.bk.length : Int)) (by go_simp) ?_
              simp only [Act.put, List.setIfInBounds_toArray, List.set_cons_zero, List.set_cons_succ]
              by_cases h8_7 : M.bk.length = 0
              · have h8_7i : (M.bk.length : Int) = 0 := by omega
                refine WL.val (by kernel_rfl) (.bool true) (by go_simp) ?_
                simp only [Act.put, List.setIfInBounds_toArray, List.set_cons_zero, List.set_cons_succ]
                refine WL.val (by kernel_rfl) (.bool true) (by go_simp) ?_
                simp only [Act.put, List.setIfInBounds_toArray, List.set_cons_zero, List.set_cons_succ]
                refine WL.val (by kernel_rfl) (.bool true) (by go_simp) ?_
                simp only [Act.put, List.setIfInBounds_toArray, List.set_cons_zero, List.set_cons_succ]
                refine WL.nil ?_
                refine hK12 _ _ ?_
                refine wp_cond_true rfl ?_
                refine wp_seq_k fun K13 hK13 => ?_
                refine wp_region_list (WL.out ?_)
                refine WL.val (by kernel_rfl) (.int .i64 1) (by go_simp) ?_
                simp only [Act.put, List.setIfInBounds_toArray, List.set_cons_zero, List.set_cons_succ]
                refine WL.nil ?_
                refine hK13 _ _ ?_
                refine wp_ret ?_
                go_ret
                first | exact ⟨by rw [HR.out]; (simp [*] <;> simp [hasI]), by rw [← HgE.out]; exact B2.out⟩ | exact ⟨by rw [HR.out]; (simp [*] <;> simp [hasI]), by rw [← HgE.out]; exact B3.out⟩ | exact ⟨by rw [HR.out]; (simp [*] <;> simp [hasI]), by rw [← HgE.out]; exact B4.out⟩ | exact ⟨by rw [HR.out]; (simp [*] <;> simp [hasI]), by rw [← HgE.out]; exact B5.out⟩ | exact ⟨by rw [HR.out]; (simp [*] <;> simp [hasI]), by rw [← HgE.out]; exact B5.out.drew⟩
              · have h8_7i : ¬ (M.bk.length : Int) = 0 := by omega
                refine WL.val (by kernel_rfl) (.bool false) (by go_simp) ?_
                simp only [Act.put, List.setIfInBounds_toArray, List.set_cons_zero, List.set_cons_succ]
                refine WL.val (by kernel_rfl) (.bool false) (by go_simp) ?_
                simp only [Act.put, List.setIfInBounds_toArray, List.set_cons_zero, List.set_cons_succ]
                refine WL.val (by kernel_rfl) (.bool false) (by go_simp) ?_
                simp only [Act.put, List.setIfInBounds_toArray, List.set_cons_zero, List.set_cons_succ]
                refine WL.nil ?_
                refine hK12 _ _ ?_
                refine wp_cond_false rfl ?_
                refine wp_seq_k fun K14 hK14 => ?_
                rcases Bool.eq_false_or_eq_true (Sh.risesB M.hd) with hC | hC
                · have HC4 := Keep.mk (rising_any (.slice ha M.hd.length hk) M.hd w3 (by have h := HA3.out.hd; rw [E1.out] at h; exact h) (by have := HOk.out.hd; omega))
                  rw [hC] at HC4
                  rcases Bool.eq_false_or_eq_true (Sh.risesB M.wt) with hD | hD
                  · skip
                    refine wp_region_list (WL.out ?_)
                    refine WL.val (by kernel_rfl) (.pointer (some ⟨g, 1, none⟩)) (by go_simp) ?_
                    simp only [Act.put, List.setIfInBounds_toArray, List.set_cons_zero, List.set_cons_succ]
                    refine WL.val (by kernel_rfl) (.slice ha M.hd.length hk) (by go_simp) ?_
                    simp only [Act.put, List.setIfInBounds_toArray, List.set_cons_zero, List.set_cons_succ]
                    refine WL.callF (by kernel_rfl) 15 _ _ rfl Try.in15 #[.slice ha M.hd.length hk] (by simp [Act.eval]) ?_
                    refine (HC4.out).mono ?_
                    rintro e w4 ⟨rfl, hb4⟩
                    refine ⟨_, rfl, ?_⟩
                    clear HC4
                    have HM4 := Keep.mk (HM3.out.below hb4 HM3.out.lt)
                    have HA4 := Keep.mk (HA3.out.below hb4)
                    have B4 : Keep (Below g w w4) := ⟨B3.out.trans (hb4.mono (by rw [HgE.out]; exact B3.out.size))⟩
                    clear g0 g1 g3 g4 g5
                    have g0 := HM4.out.c 0 (ms_0 c)
                    have g1 := HM4.out.c 1 (ms_1 c)
                    have g3 := HM4.out.c 3 (ms_3 c)
                    have g4 := HM4.out.c 4 (ms_4 c)
                    have g5 := HM4.out.c 5 (ms_5 c)
                    rw [Ek.out] at g0
                    rw [E1.out] at g1
                    rw [E3.out] at g3
                    rw [E4.out] at g4
                    rw [E5.out] at g5
                    clear hb4
                    simp only [Act.put, List.setIfInBounds_toArray, List.set_cons_zero, List.set_cons_succ]
                    refine WL.val (by kernel_rfl) (.bool false) (by go_simp) ?_
                    simp only [Act.put, List.setIfInBounds_toArray, List.set_cons_zero, List.set_cons_succ]
                    refine WL.val (by kernel_rfl) (.bool false) (by go_simp) ?_
                    simp only [Act.put, List.setIfInBounds_toArray, List.set_cons_zero, List.set_cons_succ]
                    refine WL.val (by kernel_rfl) (.pointer (some ⟨g, 4, none⟩)) (by go_simp) ?_
                    simp only [Act.put, List.setIfInBounds_toArray, List.set_cons_zero, List.set_cons_succ]
                    refine WL.val (by kernel_rfl) (.slice wa M.wt.length wk) (by go_simp) ?_
                    simp only [Act.put, List.setIfInBounds_toArray, List.set_cons_zero, List.set_cons_succ]
                    have HC5 := Keep.mk (rising_any (.slice wa M.wt.length wk) M.wt w4 (by have h := HA4.out.wt; rw [E4.out] at h; exact h) (by have := HOk.out.wt; omega))
                    rw [hD] at HC5
                    refine WL.callF (by kernel_rfl) 15 _ _ rfl Try.in15 #[.slice wa M.wt.length wk] (by simp [Act.eval]) ?_
                    refine (HC5.out).mono ?_
                    rintro e w5 ⟨rfl, hb5⟩
                    refine ⟨_, rfl, ?_⟩
                    clear HC5
                    have HM5 := Keep.mk (HM4.out.below hb5 HM4.out.lt)
                    have HA5 := Keep.mk (HA4.out.below hb5)
                    have B5 : Keep (Below g w w5) := ⟨B4.out.trans (hb5.mono (by rw [HgE.out]; exact B4.out.size))⟩
                    clear g0 g1 g3 g4 g5
                    have g0 := HM5.out.c 0 (ms_0 c)
                    have g1 := HM5.out.c 1 (ms_1 c)
                    have g3 := HM5.out.c 3 (ms_3 c)
                    have g4 := HM5.out.c 4 (ms_4 c)
                    have g5 := HM5.out.c 5 (ms_5 c)
                    rw [Ek.out] at g0
                    rw [E1.out] at g1
                    rw [E3.out] at g3
                    rw [E4.out] at g4
                    rw [E5.out] at g5
                    clear hb5
                    simp only [Act.put, List.setIfInBounds_toArray, List.set_cons_zero, List.set_cons_succ]
                    refine WL.val (by kernel_rfl) (.bool false) (by go_simp) ?_
                    simp only [Act.put, List.setIfInBounds_toArray, List.set_cons_zero, List.set_cons_succ]
                    refine WL.val (by kernel_rfl) (.bool false) (by go_simp) ?_
                    simp only [Act.put, List.setIfInBounds_toArray, List.set_cons_zero, List.set_cons_succ]
                    refine WL.val (by kernel_rfl) (.bool false) (by go_simp) ?_
                    simp only [Act.put, List.setIfInBounds_toArray, List.set_cons_zero, List.set_cons_succ]
                    refine WL.nil ?_
                    refine hK14 _ _ ?_
                    refine wp_cond_false rfl ?_
                    refine wp_seq_k fun K15 hK15 => ?_
                    have hk1 : ¬ M.k = 1 := by omega
                    rcases Bool.eq_false_or_eq_true (isP (M.bl.length : Int)) with hP | hP
                    · have HC6 := Keep.mk (right_any (.slice ba M.bl.length bk) M.bl w5 (by have h := HA5.out.bl; rw [E3.out] at h; exact h))
                      rw [hP] at HC6
                      refine wp_region_list (WL.out ?_)
                      refine WL.val (by kernel_rfl) (.pointer (some ⟨g, 0, none⟩)) (by go_simp) ?_
                      simp only [Act.put, List.setIfInBounds_toArray, List.set_cons_zero, List.set_cons_succ]
                      refine WL.val (by kernel_rfl) (.int .i64 M.k) (by go_simp) ?_
                      simp only [Act.put, List.setIfInBounds_toArray, List.set_cons_zero, List.set_cons_succ]
                      refine WL.val (by kernel_rfl) (.bool false) (by go_simp) ?_
                      simp only [Act.put, List.setIfInBounds_toArray, List.set_cons_zero, List.set_cons_succ]
                      refine WL.val (by kernel_rfl) (.bool false) (by go_simp) ?_
                      simp only [Act.put, List.setIfInBounds_toArray, List.set_cons_zero, List.set_cons_succ]
                      refine WL.skip (by kernel_rfl) ?_
                      simp only [Act.put, List.setIfInBounds_toArray, List.set_cons_zero, List.set_cons_succ]
                      refine WL.skip (by kernel_rfl) ?_
                      simp only [Act.put, List.setIfInBounds_toArray, List.set_cons_zero, List.set_cons_succ]
                      refine WL.skip (by kernel_rfl) ?_
                      simp only [Act.put, List.setIfInBounds_toArray, List.set_cons_zero, List.set_cons_succ]
                      refine WL.skip (by kernel_rfl) ?_
                      simp only [Act.put, List.setIfInBounds_toArray, List.set_cons_zero, List.set_cons_succ]
                      refine WL.val (by kernel_rfl) (.bool false) (by go_simp) ?_
                      simp only [Act.put, List.setIfInBounds_toArray, List.set_cons_zero, List.set_cons_succ]
                      refine WL.val (by kernel_rfl) (.bool false) (by go_simp) ?_
                      simp only [Act.put, List.setIfInBounds_toArray, List.set_cons_zero, List.set_cons_succ]
                      refine WL.nil ?_
                      refine hK15 _ _ ?_
                      refine wp_cond_false rfl ?_
                      refine wp_seq_k fun K16 hK16 => ?_
                      rcases Bool.eq_false_or_eq_true (okR M.bk) with hO | hO
                      · have HC7 := Keep.mk (areBlocks_any (.slice xa M.bk.length xk) M.bk w5.drew (by have h := HA5.out.bk; rw [E5.out] at h; exact h.below (Below.refl _ _).drew) (by have := HOk.out.bk; omega) (fun i hi => by have := HOk.out.rows i hi; omega))
                        rw [hO] at HC7
                        have hD0 : w5.drew.cell? ⟨g, 5, none⟩ = some (.slice xa M.bk.length xk) := g5
                        have HC8 := Keep.mk (fitting_any (.slice xa M.bk.length xk) M.bk w5.drew (by have h := HA5.out.bk; rw [E5.out] at h; exact h.below (Below.refl _ _).drew) (by have := HOk.out.bk; omega) (fun i hi => ((okR_iff _).1 hO i hi).2))
                        by_cases hF : fit M.bk < M.bk.length
                        · have hFi : (fit M.bk : Int) < (M.bk.length : Int) := by omega
                          refine wp_region_held_drew (S := fun wx => wx.cell? ⟨g, 5, none⟩ = some (.slice xa M.bk.length xk)) (by kernel_rfl) (hD0) (fun hHeld => ?_)
                          refine wpAnyH_take (i := 0) (oi := ⟨some 68, Op.fieldAddr 32 (Operand.tmp 1) 5, 0, _, _, none⟩) (v := .pointer (some ⟨g, 5, none⟩)) rfl (by kernel_rfl) (by kernel_rfl) (by kernel_rfl) (fun _ _ _ h => h) (Or.inl ⟨by rfl, fun w hS => by go_simp⟩) hHeld ?_
                          simp only [Act.put, List.setIfInBounds_toArray, List.set_cons_zero, List.set_cons_succ]
                          refine wpAnyH_take (i := 1) (oi := ⟨some 69, Op.load 22 (Operand.tmp 68), 22, _, _, none⟩) (v := .slice xa M.bk.length xk) rfl (by kernel_rfl) (by kernel_rfl) (by kernel_rfl) (fun _ _ _ h => h) (Or.inl ⟨by rfl, fun w hS => by go_simp⟩) hHeld ?_
                          simp only [Act.put, List.setIfInBounds_toArray, List.set_cons_zero, List.set_cons_succ]
                          refine wpAnyH_ready (rs := [2]) (by kernel_rfl) (by simp) ?_
                          refine AllReadyH.cons (o := ⟨some 70, Op.call { callee := Callee.value (Operand.func 8), args := #[Operand.tmp 69], argTypes := #[22] }, 4, _, _, none⟩) rfl (fun K hK => ?_) AllReadyH.nil
                          rw [if_pos (by rfl)]
                          refine wp_callF 8 _ _ rfl Try.in8 #[.slice xa M.bk.length xk] (by simp [Act.eval]) (fun v w' => v = .bool true ∧ w' = w5.drew) (HC7.out.mono fun e w' h => ⟨_, h.1, rfl, h.2⟩) ?_
                          rintro v w6 ⟨rfl, rfl⟩
                          refine hK.out _ _ hD0 fun hHeld6 => ?_
                          clear hK HC7
                          simp only [Act.put, List.setIfInBounds_toArray, List.set_cons_zero, List.set_cons_succ]
                          refine wpAnyH_take (i := 3) (oi := ⟨some 71, Op.unOp UnOp.not 4 (Operand.tmp 70), 4, _, _, none⟩) (v := .bool false) rfl (by kernel_rfl) (by kernel_rfl) (by kernel_rfl) (fun _ _ _ h => h) (Or.inl ⟨by rfl, fun w hS => by go_simp⟩) hHeld6 ?_
                          simp only [Act.put, List.setIfInBounds_toArray, List.set_cons_zero, List.set_cons_succ]
                          refine wpAnyH_take (i := 4) (oi := ⟨some 72, Op.move (Operand.tmp 71), 4, _, _, none⟩) (v := .bool false) rfl (by kernel_rfl) (by kernel_rfl) (by kernel_rfl) (fun _ _ _ h => h) (Or.inl ⟨by rfl, fun w hS => by go_simp⟩) hHeld6 ?_
                          simp only [Act.put, List.setIfInBounds_toArray, List.set_cons_zero, List.set_cons_succ]
                          refine wpAnyH_take (i := 5) (oi := ⟨some 73, Op.fieldAddr 32 (Operand.tmp 1) 5, 0, _, _, some (4, false)⟩) (v := .pointer (some ⟨g, 5, none⟩)) rfl (by kernel_rfl) (by kernel_rfl) (by kernel_rfl) (fun _ _ _ h => h) (Or.inl ⟨by rfl, fun w hS => by go_simp⟩) hHeld6 ?_
                          simp only [Act.put, List.setIfInBounds_toArray, List.set_cons_zero, List.set_cons_succ]
                          refine wpAnyH_take (i := 6) (oi := ⟨some 74, Op.load 22 (Operand.tmp 73), 22, _, _, some (4, false)⟩) (v := .slice xa M.bk.length xk) rfl (by kernel_rfl) (by kernel_rfl) (by kernel_rfl) (fun _ _ _ h => h) (Or.inl ⟨by rfl, fun w hS => by go_simp⟩) hHeld6 ?_
                          simp only [Act.put, List.setIfInBounds_toArray, List.set_cons_zero, List.set_cons_succ]
                          refine wpAnyH_take (i := 8) (oi := ⟨some 76, Op.fieldAddr 32 (Operand.tmp 1) 5, 0, _, _, some (4, false)⟩) (v := .pointer (some ⟨g, 5, none⟩)) rfl (by kernel_rfl) (by kernel_rfl) (by kernel_rfl) (fun _ _ _ h => h) (Or.inl ⟨by rfl, fun w hS => by go_simp⟩) hHeld6 ?_
                          simp only [Act.put, List.setIfInBounds_toArray, List.set_cons_zero, List.set_cons_succ]
                          refine wpAnyH_take (i := 9) (oi := ⟨some 77, Op.load 22 (Operand.tmp 76), 22, _, _, some (4, false)⟩) (v := .slice xa M.bk.length xk) rfl (by kernel_rfl) (by kernel_rfl) (by kernel_rfl) (fun _ _ _ h => h) (Or.inl ⟨by rfl, fun w hS => by go_simp⟩) hHeld6 ?_
                          simp only [Act.put, List.setIfInBounds_toArray, List.set_cons_zero, List.set_cons_succ]
                          refine wpAnyH_take (i := 10) (oi := ⟨some 78, Op.call { callee := Callee.builtin Builtin.len, args := #[Operand.tmp 77], argTypes := #[22] }, 3, _, _, some (4, false)⟩) (v := .int .i64 (M.bk.length : Int)) rfl (by kernel_rfl) (by kernel_rfl) (by kernel_rfl) (fun _ _ _ h => h) (Or.inl ⟨by rfl, fun w hS => by go_simp⟩) hHeld6 ?_
                          simp only [Act.put, List.setIfInBounds_toArray, List.set_cons_zero, List.set_cons_succ]
                          refine wpAnyH_ready (rs := [7]) (by kernel_rfl) (by simp) ?_
                          refine AllReadyH.cons (o := ⟨some 75, Op.call { callee := Callee.value (Operand.func 9), args := #[Operand.tmp 74], argTypes := #[22] }, 3, _, _, some (4, false)⟩) rfl (fun K hK => ?_) AllReadyH.nil
                          rw [if_pos (by rfl)]
                          refine wp_callF 9 _ _ rfl Try.in9 #[.slice xa M.bk.length xk] (by simp [Act.eval]) (fun v w' => v = .int .i64 (fit M.bk : Int) ∧ w' = w5.drew) (HC8.out.mono fun e w' h => ⟨_, h.1, rfl, h.2⟩) ?_
                          rintro v w6 ⟨rfl, rfl⟩
                          refine hK.out _ _ hD0 fun hHeld7 => ?_
                          clear hK HC8
                          simp only [Act.put, List.setIfInBounds_toArray, List.set_cons_zero, List.set_cons_succ]
                          refine wpAnyH_take (i := 11) (oi := ⟨some 79, Op.binOp BinOp.lss 3 (Operand.tmp 75) (Operand.tmp 78) 3, 4, _, _, some (4, false)⟩) (v := .bool true) rfl (by kernel_rfl) (by kernel_rfl) (by kernel_rfl) (fun _ _ _ h => h) (Or.inl ⟨by rfl, fun w hS => by go_simp⟩) hHeld7 ?_
                          simp only [Act.put, List.setIfInBounds_toArray, List.set_cons_zero, List.set_cons_succ]
                          refine wpAnyH_take (i := 12) (oi := ⟨some 80, Op.pick (Operand.tmp 72) (Operand.const (Value.bool true)) (Operand.tmp 79), 4, _, _, none⟩) (v := .bool true) rfl (by kernel_rfl) (by kernel_rfl) (by kernel_rfl) (fun _ _ _ h => h) (Or.inl ⟨by rfl, fun w hS => by go_simp⟩) hHeld7 ?_
                          simp only [Act.put, List.setIfInBounds_toArray, List.set_cons_zero, List.set_cons_succ]
                          refine wpAnyH_take (i := 13) (oi := ⟨some 67, Op.assign (Operand.tmp 80), 4, _, _, none⟩) (v := .bool true) rfl (by kernel_rfl) (by kernel_rfl) (by kernel_rfl) (fun _ _ _ h => h) (Or.inl ⟨by rfl, fun w hS => by go_simp⟩) hHeld7 ?_
                          simp only [Act.put, List.setIfInBounds_toArray, List.set_cons_zero, List.set_cons_succ]
                          refine wpAnyH_done (by kernel_rfl) ?_ _
                          refine hK16 _ _ ?_
                          refine wp_cond_true rfl ?_
                          refine wp_seq_k fun K17 hK17 => ?_
                          refine wp_region_list (WL.out ?_)
                          refine WL.val (by kernel_rfl) (.int .i64 4) (by go_simp) ?_
                          simp only [Act.put, List.setIfInBounds_toArray, List.set_cons_zero, List.set_cons_succ]
                          refine WL.nil ?_
                          refine hK17 _ _ ?_
                          refine wp_ret ?_
                          go_ret
                          first | exact ⟨by rw [HR.out]; (simp [*] <;> simp [hasI]), by rw [← HgE.out]; exact B2.out⟩ | exact ⟨by rw [HR.out]; (simp [*] <;> simp [hasI]), by rw [← HgE.out]; exact B3.out⟩ | exact ⟨by rw [HR.out]; (simp [*] <;> simp [hasI]), by rw [← HgE.out]; exact B4.out⟩ | exact ⟨by rw [HR.out]; (simp [*] <;> simp [hasI]), by rw [← HgE.out]; exact B5.out⟩ | exact ⟨by rw [HR.out]; (simp [*] <;> simp [hasI]), by rw [← HgE.out]; exact B5.out.drew⟩
                        · have hFi : ¬ (fit M.bk : Int) < (M.bk.length : Int) := by omega
                          refine wp_region_held_drew (S := fun wx => wx.cell? ⟨g, 5, none⟩ = some (.slice xa M.bk.length xk)) (by kernel_rfl) (hD0) (fun hHeld => ?_)
                          refine wpAnyH_take (i := 0) (oi := ⟨some 68, Op.fieldAddr 32 (Operand.tmp 1) 5, 0, _, _, none⟩) (v := .pointer (some ⟨g, 5, none⟩)) rfl (by kernel_rfl) (by kernel_rfl) (by kernel_rfl) (fun _ _ _ h => h) (Or.inl ⟨by rfl, fun w hS => by go_simp⟩) hHeld ?_
                          simp only [Act.put, List.setIfInBounds_toArray, List.set_cons_zero, List.set_cons_succ]
                          refine wpAnyH_take (i := 1) (oi := ⟨some 69, Op.load 22 (Operand.tmp 68), 22, _, _, none⟩) (v := .slice xa M.bk.length xk) rfl (by kernel_rfl) (by kernel_rfl) (by kernel_rfl) (fun _ _ _ h => h) (Or.inl ⟨by rfl, fun w hS => by go_simp⟩) hHeld ?_
                          simp only [Act.put, List.setIfInBounds_toArray, List.set_cons_zero, List.set_cons_succ]
                          refine wpAnyH_ready (rs := [2]) (by kernel_rfl) (by simp) ?_
                          refine AllReadyH.cons (o := ⟨some 70, Op.call { callee := Callee.value (Operand.func 8), args := #[Operand.tmp 69], argTypes := #[22] }, 4, _, _, none⟩) rfl (fun K hK => ?_) AllReadyH.nil
                          rw [if_pos (by rfl)]
                          refine wp_callF 8 _ _ rfl Try.in8 #[.slice xa M.bk.length xk] (by simp [Act.eval]) (fun v w' => v = .bool true ∧ w' = w5.drew) (HC7.out.mono fun e w' h => ⟨_, h.1, rfl, h.2⟩) ?_
                          rintro v w6 ⟨rfl, rfl⟩
                          refine hK.out _ _ hD0 fun hHeld6 => ?_
                          clear hK HC7
                          simp only [Act.put, List.setIfInBounds_toArray, List.set_cons_zero, List.set_cons_succ]
                          refine wpAnyH_take (i := 3) (oi := ⟨some 71, Op.unOp UnOp.not 4 (Operand.tmp 70), 4, _, _, none⟩) (v := .bool false) rfl (by kernel_rfl) (by kernel_rfl) (by kernel_rfl) (fun _ _ _ h => h) (Or.inl ⟨by rfl, fun w hS => by go_simp⟩) hHeld6 ?_
                          simp only [Act.put, List.setIfInBounds_toArray, List.set_cons_zero, List.set_cons_succ]
                          refine wpAnyH_take (i := 4) (oi := ⟨some 72, Op.move (Operand.tmp 71), 4, _, _, none⟩) (v := .bool false) rfl (by kernel_rfl) (by kernel_rfl) (by kernel_rfl) (fun _ _ _ h => h) (Or.inl ⟨by rfl, fun w hS => by go_simp⟩) hHeld6 ?_
                          simp only [Act.put, List.setIfInBounds_toArray, List.set_cons_zero, List.set_cons_succ]
                          refine wpAnyH_take (i := 5) (oi := ⟨some 73, Op.fieldAddr 32 (Operand.tmp 1) 5, 0, _, _, some (4, false)⟩) (v := .pointer (some ⟨g, 5, none⟩)) rfl (by kernel_rfl) (by kernel_rfl) (by kernel_rfl) (fun _ _ _ h => h) (Or.inl ⟨by rfl, fun w hS => by go_simp⟩) hHeld6 ?_
                          simp only [Act.put, List.setIfInBounds_toArray, List.set_cons_zero, List.set_cons_succ]
                          refine wpAnyH_take (i := 6) (oi := ⟨some 74, Op.load 22 (Operand.tmp 73), 22, _, _, some (4, false)⟩) (v := .slice xa M.bk.length xk) rfl (by kernel_rfl) (by kernel_rfl) (by kernel_rfl) (fun _ _ _ h => h) (Or.inl ⟨by rfl, fun w hS => by go_simp⟩) hHeld6 ?_
                          simp only [Act.put, List.setIfInBounds_toArray, List.set_cons_zero, List.set_cons_succ]
                          refine wpAnyH_take (i := 8) (oi := ⟨some 76, Op.fieldAddr 32 (Operand.tmp 1) 5, 0, _, _, some (4, false)⟩) (v := .pointer (some ⟨g, 5, none⟩)) rfl (by kernel_rfl) (by kernel_rfl) (by kernel_rfl) (fun _ _ _ h => h) (Or.inl ⟨by rfl, fun w hS => by go_simp⟩) hHeld6 ?_
                          simp only [Act.put, List.setIfInBounds_toArray, List.set_cons_zero, List.set_cons_succ]
                          refine wpAnyH_take (i := 9) (oi := ⟨some 77, Op.load 22 (Operand.tmp 76), 22, _, _, some (4, false)⟩) (v := .slice xa M.bk.length xk) rfl (by kernel_rfl) (by kernel_rfl) (by kernel_rfl) (fun _ _ _ h => h) (Or.inl ⟨by rfl, fun w hS => by go_simp⟩) hHeld6 ?_
                          simp only [Act.put, List.setIfInBounds_toArray, List.set_cons_zero, List.set_cons_succ]
                          refine wpAnyH_take (i := 10) (oi := ⟨some 78, Op.call { callee := Callee.builtin Builtin.len, args := #[Operand.tmp 77], argTypes := #[22] }, 3, _, _, some (4, false)⟩) (v := .int .i64 (M.bk.length : Int)) rfl (by kernel_rfl) (by kernel_rfl) (by kernel_rfl) (fun _ _ _ h => h) (Or.inl ⟨by rfl, fun w hS => by go_simp⟩) hHeld6 ?_
                          simp only [Act.put, List.setIfInBounds_toArray, List.set_cons_zero, List.set_cons_succ]
                          refine wpAnyH_ready (rs := [7]) (by kernel_rfl) (by simp) ?_
                          refine AllReadyH.cons (o := ⟨some 75, Op.call { callee := Callee.value (Operand.func 9), args := #[Operand.tmp 74], argTypes := #[22] }, 3, _, _, some (4, false)⟩) rfl (fun K hK => ?_) AllReadyH.nil
                          rw [if_pos (by rfl)]
                          refine wp_callF 9 _ _ rfl Try.in9 #[.slice xa M.bk.length xk] (by simp [Act.eval]) (fun v w' => v = .int .i64 (fit M.bk : Int) ∧ w' = w5.drew) (HC8.out.mono fun e w' h => ⟨_, h.1, rfl, h.2⟩) ?_
                          rintro v w6 ⟨rfl, rfl⟩
                          refine hK.out _ _ hD0 fun hHeld7 => ?_
                          clear hK HC8
                          simp only [Act.put, List.setIfInBounds_toArray, List.set_cons_zero, List.set_cons_succ]
                          refine wpAnyH_take (i := 11) (oi := ⟨some 79, Op.binOp BinOp.lss 3 (Operand.tmp 75) (Operand.tmp 78) 3, 4, _, _, some (4, false)⟩) (v := .bool false) rfl (by kernel_rfl) (by kernel_rfl) (by kernel_rfl) (fun _ _ _ h => h) (Or.inl ⟨by rfl, fun w hS => by go_simp⟩) hHeld7 ?_
                          simp only [Act.put, List.setIfInBounds_toArray, List.set_cons_zero, List.set_cons_succ]
                          refine wpAnyH_take (i := 12) (oi := ⟨some 80, Op.pick (Operand.tmp 72) (Operand.const (Value.bool true)) (Operand.tmp 79), 4, _, _, none⟩) (v := .bool false) rfl (by kernel_rfl) (by kernel_rfl) (by kernel_rfl) (fun _ _ _ h => h) (Or.inl ⟨by rfl, fun w hS => by go_simp⟩) hHeld7 ?_
                          simp only [Act.put, List.setIfInBounds_toArray, List.set_cons_zero, List.set_cons_succ]
                          refine wpAnyH_take (i := 13) (oi := ⟨some 67, Op.assign (Operand.tmp 80), 4, _, _, none⟩) (v := .bool false) rfl (by kernel_rfl) (by kernel_rfl) (by kernel_rfl) (fun _ _ _ h => h) (Or.inl ⟨by rfl, fun w hS => by go_simp⟩) hHeld7 ?_
                          simp only [Act.put, List.setIfInBounds_toArray, List.set_cons_zero, List.set_cons_succ]
                          refine wpAnyH_done (by kernel_rfl) ?_ _
                          refine hK16 _ _ ?_
                          refine wp_cond_false rfl ?_
                          refine wp_skip ?_
                          refine hK3 _ _ ?_
                          refine wp_seq_k fun K18 hK18 => ?_
                          refine wp_region_list (WL.out ?_)
                          refine WL.val (by kernel_rfl) (.int .i64 0) (by go_simp) ?_
                          simp only [Act.put, List.setIfInBounds_toArray, List.set_cons_zero, List.set_cons_succ]
                          refine WL.nil ?_
                          refine hK18 _ _ ?_
                          refine wp_ret ?_
                          go_ret
                          first | exact ⟨by rw [HR.out]; (simp [*] <;> simp [hasI]), by rw [← HgE.out]; exact B2.out⟩ | exact ⟨by rw [HR.out]; (simp [*] <;> simp [hasI]), by rw [← HgE.out]; exact B3.out⟩ | exact ⟨by rw [HR.out]; (simp [*] <;> simp [hasI]), by rw [← HgE.out]; exact B4.out⟩ | exact ⟨by rw [HR.out]; (simp [*] <;> simp [hasI]), by rw [← HgE.out]; exact B5.out⟩ | exact ⟨by rw [HR.out]; (simp [*] <;> simp [hasI]), by rw [← HgE.out]; exact B5.out.drew⟩
                      · have HC7 := Keep.mk (areBlocks_any (.slice xa M.bk.length xk) M.bk w5.drew (by have h := HA5.out.bk; rw [E5.out] at h; exact h.below (Below.refl _ _).drew) (by have := HOk.out.bk; omega) (fun i hi => by have := HOk.out.rows i hi; omega))
                        rw [hO] at HC7
                        have hD0 : w5.drew.cell? ⟨g, 5, none⟩ = some (.slice xa M.bk.length xk) := g5
                        refine wp_region_held_drew (S := fun wx => wx.cell? ⟨g, 5, none⟩ = some (.slice xa M.bk.length xk)) (by kernel_rfl) (hD0) (fun hHeld => ?_)
                        refine wpAnyH_take (i := 0) (oi := ⟨some 68, Op.fieldAddr 32 (Operand.tmp 1) 5, 0, _, _, none⟩) (v := .pointer (some ⟨g, 5, none⟩)) rfl (by kernel_rfl) (by kernel_rfl) (by kernel_rfl) (fun _ _ _ h => h) (Or.inl ⟨by rfl, fun w hS => by go_simp⟩) hHeld ?_
                        simp only [Act.put, List.setIfInBounds_toArray, List.set_cons_zero, List.set_cons_succ]
                        refine wpAnyH_take (i := 1) (oi := ⟨some 69, Op.load 22 (Operand.tmp 68), 22, _, _, none⟩) (v := .slice xa M.bk.length xk) rfl (by kernel_rfl) (by kernel_rfl) (by kernel_rfl) (fun _ _ _ h => h) (Or.inl ⟨by rfl, fun w hS => by go_simp⟩) hHeld ?_
                        simp only [Act.put, List.setIfInBounds_toArray, List.set_cons_zero, List.set_cons_succ]
                        refine wpAnyH_ready (rs := [2]) (by kernel_rfl) (by simp) ?_
                        refine AllReadyH.cons (o := ⟨some 70, Op.call { callee := Callee.value (Operand.func 8), args := #[Operand.tmp 69], argTypes := #[22] }, 4, _, _, none⟩) rfl (fun K hK => ?_) AllReadyH.nil
                        rw [if_pos (by rfl)]
                        refine wp_callF 8 _ _ rfl Try.in8 #[.slice xa M.bk.length xk] (by simp [Act.eval]) (fun v w' => v = .bool false ∧ w' = w5.drew) (HC7.out.mono fun e w' h => ⟨_, h.1, rfl, h.2⟩) ?_
                        rintro v w6 ⟨rfl, rfl⟩
                        refine hK.out _ _ hD0 fun hHeld6 => ?_
                        clear hK HC7
                        simp only [Act.put, List.setIfInBounds_toArray, List.set_cons_zero, List.set_cons_succ]
                        refine wpAnyH_take (i := 3) (oi := ⟨some 71, Op.unOp UnOp.not 4 (Operand.tmp 70), 4, _, _, none⟩) (v := .bool true) rfl (by kernel_rfl) (by kernel_rfl) (by kernel_rfl) (fun _ _ _ h => h) (Or.inl ⟨by rfl, fun w hS => by go_simp⟩) hHeld6 ?_
                        simp only [Act.put, List.setIfInBounds_toArray, List.set_cons_zero, List.set_cons_succ]
                        refine wpAnyH_take (i := 4) (oi := ⟨some 72, Op.move (Operand.tmp 71), 4, _, _, none⟩) (v := .bool true) rfl (by kernel_rfl) (by kernel_rfl) (by kernel_rfl) (fun _ _ _ h => h) (Or.inl ⟨by rfl, fun w hS => by go_simp⟩) hHeld6 ?_
                        simp only [Act.put, List.setIfInBounds_toArray, List.set_cons_zero, List.set_cons_succ]
                        refine wpAnyH_take (i := 5) (oi := ⟨some 73, Op.fieldAddr 32 (Operand.tmp 1) 5, 0, _, _, some (4, false)⟩) (v := undef) rfl (by kernel_rfl) (by kernel_rfl) (by kernel_rfl) (fun _ _ _ h => h) (Or.inr ⟨by rfl, rfl⟩) hHeld6 ?_
                        simp only [Act.put, List.setIfInBounds_toArray, List.set_cons_zero, List.set_cons_succ]
                        refine wpAnyH_take (i := 6) (oi := ⟨some 74, Op.load 22 (Operand.tmp 73), 22, _, _, some (4, false)⟩) (v := undef) rfl (by kernel_rfl) (by kernel_rfl) (by kernel_rfl) (fun _ _ _ h => h) (Or.inr ⟨by rfl, rfl⟩) hHeld6 ?_
                        simp only [Act.put, List.setIfInBounds_toArray, List.set_cons_zero, List.set_cons_succ]
                        refine wpAnyH_take (i := 7) (oi := ⟨some 75, Op.call { callee := Callee.value (Operand.func 9), args := #[Operand.tmp 74], argTypes := #[22] }, 3, _, _, some (4, false)⟩) (v := undef) rfl (by kernel_rfl) (by kernel_rfl) (by kernel_rfl) (fun _ _ _ h => h) (Or.inr ⟨by rfl, rfl⟩) hHeld6 ?_
                        simp only [Act.put, List.setIfInBounds_toArray, List.set_cons_zero, List.set_cons_succ]
                        refine wpAnyH_take (i := 8) (oi := ⟨some 76, Op.fieldAddr 32 (Operand.tmp 1) 5, 0, _, _, some (4, false)⟩) (v := undef) rfl (by kernel_rfl) (by kernel_rfl) (by kernel_rfl) (fun _ _ _ h => h) (Or.inr ⟨by rfl, rfl⟩) hHeld6 ?_
                        simp only [Act.put, List.setIfInBounds_toArray, List.set_cons_zero, List.set_cons_succ]
                        refine wpAnyH_take (i := 9) (oi := ⟨some 77, Op.load 22 (Operand.tmp 76), 22, _, _, some (4, false)⟩) (v := undef) rfl (by kernel_rfl) (by kernel_rfl) (by kernel_rfl) (fun _ _ _ h => h) (Or.inr ⟨by rfl, rfl⟩) hHeld6 ?_
                        simp only [Act.put, List.setIfInBounds_toArray, List.set_cons_zero, List.set_cons_succ]
                        refine wpAnyH_take (i := 10) (oi := ⟨some 78, Op.call { callee := Callee.builtin Builtin.len, args := #[Operand.tmp 77], argTypes := #[22] }, 3, _, _, some (4, false)⟩) (v := undef) rfl (by kernel_rfl) (by kernel_rfl) (by kernel_rfl) (fun _ _ _ h => h) (Or.inr ⟨by rfl, rfl⟩) hHeld6 ?_
                        simp only [Act.put, List.setIfInBounds_toArray, List.set_cons_zero, List.set_cons_succ]
                        refine wpAnyH_take (i := 11) (oi := ⟨some 79, Op.binOp BinOp.lss 3 (Operand.tmp 75) (Operand.tmp 78) 3, 4, _, _, some (4, false)⟩) (v := undef) rfl (by kernel_rfl) (by kernel_rfl) (by kernel_rfl) (fun _ _ _ h => h) (Or.inr ⟨by rfl, rfl⟩) hHeld6 ?_
                        simp only [Act.put, List.setIfInBounds_toArray, List.set_cons_zero, List.set_cons_succ]
                        refine wpAnyH_take (i := 12) (oi := ⟨some 80, Op.pick (Operand.tmp 72) (Operand.const (Value.bool true)) (Operand.tmp 79), 4, _, _, none⟩) (v := .bool true) rfl (by kernel_rfl) (by kernel_rfl) (by kernel_rfl) (fun _ _ _ h => h) (Or.inl ⟨by rfl, fun w hS => by go_simp⟩) hHeld6 ?_
                        simp only [Act.put, List.setIfInBounds_toArray, List.set_cons_zero, List.set_cons_succ]
                        refine wpAnyH_take (i := 13) (oi := ⟨some 67, Op.assign (Operand.tmp 80), 4, _, _, none⟩) (v := .bool true) rfl (by kernel_rfl) (by kernel_rfl) (by kernel_rfl) (fun _ _ _ h => h) (Or.inl ⟨by rfl, fun w hS => by go_simp⟩) hHeld6 ?_
                        simp only [Act.put, List.setIfInBounds_toArray, List.set_cons_zero, List.set_cons_succ]
                        refine wpAnyH_done (by kernel_rfl) ?_ _
                        refine hK16 _ _ ?_
                        refine wp_cond_true rfl ?_
                        refine wp_seq_k fun K19 hK19 => ?_
                        refine wp_region_list (WL.out ?_)
                        refine WL.val (by kernel_rfl) (.int .i64 4) (by go_simp) ?_
                        simp only [Act.put, List.setIfInBounds_toArray, List.set_cons_zero, List.set_cons_succ]
                        refine WL.nil ?_
                        refine hK19 _ _ ?_
                        refine wp_ret ?_
                        go_ret
                        first | exact ⟨by rw [HR.out]; (simp [*] <;> simp [hasI]), by rw [← HgE.out]; exact B2.out⟩ | exact ⟨by rw [HR.out]; (simp [*] <;> simp [hasI]), by rw [← HgE.out]; exact B3.out⟩ | exact ⟨by rw [HR.out]; (simp [*] <;> simp [hasI]), by rw [← HgE.out]; exact B4.out⟩ | exact ⟨by rw [HR.out]; (simp [*] <;> simp [hasI]), by rw [← HgE.out]; exact B5.out⟩ | exact ⟨by rw [HR.out]; (simp [*] <;> simp [hasI]), by rw [← HgE.out]; exact B5.out.drew⟩
                    · have HC6 := Keep.mk (right_any (.slice ba M.bl.length bk) M.bl w5 (by have h := HA5.out.bl; rw [E3.out] at h; exact h))
                      rw [hP] at HC6
                      refine wp_region_list (WL.out ?_)
                      refine WL.val (by kernel_rfl) (.pointer (some ⟨g, 0, none⟩)) (by go_simp) ?_
                      simp only [Act.put, List.setIfInBounds_toArray, List.set_cons_zero, List.set_cons_succ]
                      refine WL.val (by kernel_rfl) (.int .i64 M.k) (by go_simp) ?_
                      simp only [Act.put, List.setIfInBounds_toArray, List.set_cons_zero, List.set_cons_succ]
                      refine WL.val (by kernel_rfl) (.bool false) (by go_simp) ?_
                      simp only [Act.put, List.setIfInBounds_toArray, List.set_cons_zero, List.set_cons_succ]
                      refine WL.val (by kernel_rfl) (.bool false) (by go_simp) ?_
                      simp only [Act.put, List.setIfInBounds_toArray, List.set_cons_zero, List.set_cons_succ]
                      refine WL.skip (by kernel_rfl) ?_
                      simp only [Act.put, List.setIfInBounds_toArray, List.set_cons_zero, List.set_cons_succ]
                      refine WL.skip (by kernel_rfl) ?_
                      simp only [Act.put, List.setIfInBounds_toArray, List.set_cons_zero, List.set_cons_succ]
                      refine WL.skip (by kernel_rfl) ?_
                      simp only [Act.put, List.setIfInBounds_toArray, List.set_cons_zero, List.set_cons_succ]
                      refine WL.skip (by kernel_rfl) ?_
                      simp only [Act.put, List.setIfInBounds_toArray, List.set_cons_zero, List.set_cons_succ]
                      refine WL.val (by kernel_rfl) (.bool false) (by go_simp) ?_
                      simp only [Act.put, List.setIfInBounds_toArray, List.set_cons_zero, List.set_cons_succ]
                      refine WL.val (by kernel_rfl) (.bool false) (by go_simp) ?_
                      simp only [Act.put, List.setIfInBounds_toArray, List.set_cons_zero, List.set_cons_succ]
                      refine WL.nil ?_
                      refine hK15 _ _ ?_
                      refine wp_cond_false rfl ?_
                      refine wp_seq_k fun K20 hK20 => ?_
                      rcases Bool.eq_false_or_eq_true (okR M.bk) with hO | hO
                      · have HC7 := Keep.mk (areBlocks_any (.slice xa M.bk.length xk) M.bk w5.drew (by have h := HA5.out.bk; rw [E5.out] at h; exact h.below (Below.refl _ _).drew) (by have := HOk.out.bk; omega) (fun i hi => by have := HOk.out.rows i hi; omega))
                        rw [hO] at HC7
                        have hD0 : w5.drew.cell? ⟨g, 5, none⟩ = some (.slice xa M.bk.length xk) := g5
                        have HC8 := Keep.mk (fitting_any (.slice xa M.bk.length xk) M.bk w5.drew (by have h := HA5.out.bk; rw [E5.out] at h; exact h.below (Below.refl _ _).drew) (by have := HOk.out.bk; omega) (fun i hi => ((okR_iff _).1 hO i hi).2))
                        by_cases hF : fit M.bk < M.bk.length
                        · have hFi : (fit M.bk : Int) < (M.bk.length : Int) := by omega
                          refine wp_region_held_drew (S := fun wx => wx.cell? ⟨g, 5, none⟩ = some (.slice xa M.bk.length xk)) (by kernel_rfl) (hD0) (fun hHeld => ?_)
                          refine wpAnyH_take (i := 0) (oi := ⟨some 68, Op.fieldAddr 32 (Operand.tmp 1) 5, 0, _, _, none⟩) (v := .pointer (some ⟨g, 5, none⟩)) rfl (by kernel_rfl) (by kernel_rfl) (by kernel_rfl) (fun _ _ _ h => h) (Or.inl ⟨by rfl, fun w hS => by go_simp⟩) hHeld ?_
                          simp only [Act.put, List.setIfInBounds_toArray, List.set_cons_zero, List.set_cons_succ]
                          refine wpAnyH_take (i := 1) (oi := ⟨some 69, Op.load 22 (Operand.tmp 68), 22, _, _, none⟩) (v := .slice xa M.bk.length xk) rfl (by kernel_rfl) (by kernel_rfl) (by kernel_rfl) (fun _ _ _ h => h) (Or.inl ⟨by rfl, fun w hS => by go_simp⟩) hHeld ?_
                          simp only [Act.put, List.setIfInBounds_toArray, List.set_cons_zero, List.set_cons_succ]
                          refine wpAnyH_ready (rs := [2]) (by kernel_rfl) (by simp) ?_
                          refine AllReadyH.cons (o := ⟨some 70, Op.call { callee := Callee.value (Operand.func 8), args := #[Operand.tmp 69], argTypes := #[22] }, 4, _, _, none⟩) rfl (fun K hK => ?_) AllReadyH.nil
                          rw [if_pos (by rfl)]
                          refine wp_callF 8 _ _ rfl Try.in8 #[.slice xa M.bk.length xk] (by simp [Act.eval]) (fun v w' => v = .bool true ∧ w' = w5.drew) (HC7.out.mono fun e w' h => ⟨_, h.1, rfl, h.2⟩) ?_
                          rintro v w6 ⟨rfl, rfl⟩
                          refine hK.out _ _ hD0 fun hHeld6 => ?_
                          clear hK HC7
                          simp only [Act.put, List.setIfInBounds_toArray, List.set_cons_zero, List.set_cons_succ]
                          refine wpAnyH_take (i := 3) (oi := ⟨some 71, Op.unOp UnOp.not 4 (Operand.tmp 70), 4, _, _, none⟩) (v := .bool false) rfl (by kernel_rfl) (by kernel_rfl) (by kernel_rfl) (fun _ _ _ h => h) (Or.inl ⟨by rfl, fun w hS => by go_simp⟩) hHeld6 ?_
                          simp only [Act.put, List.setIfInBounds_toArray, List.set_cons_zero, List.set_cons_succ]
                          refine wpAnyH_take (i := 4) (oi := ⟨some 72, Op.move (Operand.tmp 71), 4, _, _, none⟩) (v := .bool false) rfl (by kernel_rfl) (by kernel_rfl) (by kernel_rfl) (fun _ _ _ h => h) (Or.inl ⟨by rfl, fun w hS => by go_simp⟩) hHeld6 ?_
                          simp only [Act.put, List.setIfInBounds_toArray, List.set_cons_zero, List.set_cons_succ]
                          refine wpAnyH_take (i := 5) (oi := ⟨some 73, Op.fieldAddr 32 (Operand.tmp 1) 5, 0, _, _, some (4, false)⟩) (v := .pointer (some ⟨g, 5, none⟩)) rfl (by kernel_rfl) (by kernel_rfl) (by kernel_rfl) (fun _ _ _ h => h) (Or.inl ⟨by rfl, fun w hS => by go_simp⟩) hHeld6 ?_
                          simp only [Act.put, List.setIfInBounds_toArray, List.set_cons_zero, List.set_cons_succ]
                          refine wpAnyH_take (i := 6) (oi := ⟨some 74, Op.load 22 (Operand.tmp 73), 22, _, _, some (4, false)⟩) (v := .slice xa M.bk.length xk) rfl (by kernel_rfl) (by kernel_rfl) (by kernel_rfl) (fun _ _ _ h => h) (Or.inl ⟨by rfl, fun w hS => by go_simp⟩) hHeld6 ?_
                          simp only [Act.put, List.setIfInBounds_toArray, List.set_cons_zero, List.set_cons_succ]
                          refine wpAnyH_take (i := 8) (oi := ⟨some 76, Op.fieldAddr 32 (Operand.tmp 1) 5, 0, _, _, some (4, false)⟩) (v := .pointer (some ⟨g, 5, none⟩)) rfl (by kernel_rfl) (by kernel_rfl) (by kernel_rfl) (fun _ _ _ h => h) (Or.inl ⟨by rfl, fun w hS => by go_simp⟩) hHeld6 ?_
                          simp only [Act.put, List.setIfInBounds_toArray, List.set_cons_zero, List.set_cons_succ]
                          refine wpAnyH_take (i := 9) (oi := ⟨some 77, Op.load 22 (Operand.tmp 76), 22, _, _, some (4, false)⟩) (v := .slice xa M.bk.length xk) rfl (by kernel_rfl) (by kernel_rfl) (by kernel_rfl) (fun _ _ _ h => h) (Or.inl ⟨by rfl, fun w hS => by go_simp⟩) hHeld6 ?_
                          simp only [Act.put, List.setIfInBounds_toArray, List.set_cons_zero, List.set_cons_succ]
                          refine wpAnyH_take (i := 10) (oi := ⟨some 78, Op.call { callee := Callee.builtin Builtin.len, args := #[Operand.tmp 77], argTypes := #[22] }, 3, _, _, some (4, false)⟩) (v := .int .i64 (M.bk.length : Int)) rfl (by kernel_rfl) (by kernel_rfl) (by kernel_rfl) (fun _ _ _ h => h) (Or.inl ⟨by rfl, fun w hS => by go_simp⟩) hHeld6 ?_
                          simp only [Act.put, List.setIfInBounds_toArray, List.set_cons_zero, List.set_cons_succ]
                          refine wpAnyH_ready (rs := [7]) (by kernel_rfl) (by simp) ?_
                          refine AllReadyH.cons (o := ⟨some 75, Op.call { callee := Callee.value (Operand.func 9), args := #[Operand.tmp 74], argTypes := #[22] }, 3, _, _, some (4, false)⟩) rfl (fun K hK => ?_) AllReadyH.nil
                          rw [if_pos (by rfl)]
                          refine wp_callF 9 _ _ rfl Try.in9 #[.slice xa M.bk.length xk] (by simp [Act.eval]) (fun v w' => v = .int .i64 (fit M.bk : Int) ∧ w' = w5.drew) (HC8.out.mono fun e w' h => ⟨_, h.1, rfl, h.2⟩) ?_
                          rintro v w6 ⟨rfl, rfl⟩
                          refine hK.out _ _ hD0 fun hHeld7 => ?_
                          clear hK HC8
                          simp only [Act.put, List.setIfInBounds_toArray, List.set_cons_zero, List.set_cons_succ]
                          refine wpAnyH_take (i := 11) (oi := ⟨some 79, Op.binOp BinOp.lss 3 (Operand.tmp 75) (Operand.tmp 78) 3, 4, _, _, some (4, false)⟩) (v := .bool true) rfl (by kernel_rfl) (by kernel_rfl) (by kernel_rfl) (fun _ _ _ h => h) (Or.inl ⟨by rfl, fun w hS => by go_simp⟩) hHeld7 ?_
                          simp only [Act.put, List.setIfInBounds_toArray, List.set_cons_zero, List.set_cons_succ]
                          refine wpAnyH_take (i := 12) (oi := ⟨some 80, Op.pick (Operand.tmp 72) (Operand.const (Value.bool true)) (Operand.tmp 79), 4, _, _, none⟩) (v := .bool true) rfl (by kernel_rfl) (by kernel_rfl) (by kernel_rfl) (fun _ _ _ h => h) (Or.inl ⟨by rfl, fun w hS => by go_simp⟩) hHeld7 ?_
                          simp only [Act.put, List.setIfInBounds_toArray, List.set_cons_zero, List.set_cons_succ]
                          refine wpAnyH_take (i := 13) (oi := ⟨some 67, Op.assign (Operand.tmp 80), 4, _, _, none⟩) (v := .bool true) rfl (by kernel_rfl) (by kernel_rfl) (by kernel_rfl) (fun _ _ _ h => h) (Or.inl ⟨by rfl, fun w hS => by go_simp⟩) hHeld7 ?_
                          simp only [Act.put, List.setIfInBounds_toArray, List.set_cons_zero, List.set_cons_succ]
                          refine wpAnyH_done (by kernel_rfl) ?_ _
                          refine hK20 _ _ ?_
                          refine wp_cond_true rfl ?_
                          refine wp_seq_k fun K21 hK21 => ?_
                          refine wp_region_list (WL.out ?_)
                          refine WL.val (by kernel_rfl) (.int .i64 4) (by go_simp) ?_
                          simp only [Act.put, List.setIfInBounds_toArray, List.set_cons_zero, List.set_cons_succ]
                          refine WL.nil ?_
                          refine hK21 _ _ ?_
                          refine wp_ret ?_
                          go_ret
                          first | exact ⟨by rw [HR.out]; (simp [*] <;> simp [hasI]), by rw [← HgE.out]; exact B2.out⟩ | exact ⟨by rw [HR.out]; (simp [*] <;> simp [hasI]), by rw [← HgE.out]; exact B3.out⟩ | exact ⟨by rw [HR.out]; (simp [*] <;> simp [hasI]), by rw [← HgE.out]; exact B4.out⟩ | exact ⟨by rw [HR.out]; (simp [*] <;> simp [hasI]), by rw [← HgE.out]; exact B5.out⟩ | exact ⟨by rw [HR.out]; (simp [*] <;> simp [hasI]), by rw [← HgE.out]; exact B5.out.drew⟩
                        · have hFi : ¬ (fit M.bk : Int) < (M.bk.length : Int) := by omega
                          refine wp_region_held_drew (S := fun wx => wx.cell? ⟨g, 5, none⟩ = some (.slice xa M.bk.length xk)) (by kernel_rfl) (hD0) (fun hHeld => ?_)
                          refine wpAnyH_take (i := 0) (oi := ⟨some 68, Op.fieldAddr 32 (Operand.tmp 1) 5, 0, _, _, none⟩) (v := .pointer (some ⟨g, 5, none⟩)) rfl (by kernel_rfl) (by kernel_rfl) (by kernel_rfl) (fun _ _ _ h => h) (Or.inl ⟨by rfl, fun w hS => by go_simp⟩) hHeld ?_
                          simp only [Act.put, List.setIfInBounds_toArray, List.set_cons_zero, List.set_cons_succ]
                          refine wpAnyH_take (i := 1) (oi := ⟨some 69, Op.load 22 (Operand.tmp 68), 22, _, _, none⟩) (v := .slice xa M.bk.length xk) rfl (by kernel_rfl) (by kernel_rfl) (by kernel_rfl) (fun _ _ _ h => h) (Or.inl ⟨by rfl, fun w hS => by go_simp⟩) hHeld ?_
                          simp only [Act.put, List.setIfInBounds_toArray, List.set_cons_zero, List.set_cons_succ]
                          refine wpAnyH_ready (rs := [2]) (by kernel_rfl) (by simp) ?_
                          refine AllReadyH.cons (o := ⟨some 70, Op.call { callee := Callee.value (Operand.func 8), args := #[Operand.tmp 69], argTypes := #[22] }, 4, _, _, none⟩) rfl (fun K hK => ?_) AllReadyH.nil
                          rw [if_pos (by rfl)]
                          refine wp_callF 8 _ _ rfl Try.in8 #[.slice xa M.bk.length xk] (by simp [Act.eval]) (fun v w' => v = .bool true ∧ w' = w5.drew) (HC7.out.mono fun e w' h => ⟨_, h.1, rfl, h.2⟩) ?_
                          rintro v w6 ⟨rfl, rfl⟩
                          refine hK.out _ _ hD0 fun hHeld6 => ?_
                          clear hK HC7
                          simp only [Act.put, List.setIfInBounds_toArray, List.set_cons_zero, List.set_cons_succ]
                          refine wpAnyH_take (i := 3) (oi := ⟨some 71, Op.unOp UnOp.not 4 (Operand.tmp 70), 4, _, _, none⟩) (v := .bool false) rfl (by kernel_rfl) (by kernel_rfl) (by kernel_rfl) (fun _ _ _ h => h) (Or.inl ⟨by rfl, fun w hS => by go_simp⟩) hHeld6 ?_
                          simp only [Act.put, List.setIfInBounds_toArray, List.set_cons_zero, List.set_cons_succ]
                          refine wpAnyH_take (i := 4) (oi := ⟨some 72, Op.move (Operand.tmp 71), 4, _, _, none⟩) (v := .bool false) rfl (by kernel_rfl) (by kernel_rfl) (by kernel_rfl) (fun _ _ _ h => h) (Or.inl ⟨by rfl, fun w hS => by go_simp⟩) hHeld6 ?_
                          simp only [Act.put, List.setIfInBounds_toArray, List.set_cons_zero, List.set_cons_succ]
                          refine wpAnyH_take (i := 5) (oi := ⟨some 73, Op.fieldAddr 32 (Operand.tmp 1) 5, 0, _, _, some (4, false)⟩) (v := .pointer (some ⟨g, 5, none⟩)) rfl (by kernel_rfl) (by kernel_rfl) (by kernel_rfl) (fun _ _ _ h => h) (Or.inl ⟨by rfl, fun w hS => by go_simp⟩) hHeld6 ?_
                          simp only [Act.put, List.setIfInBounds_toArray, List.set_cons_zero, List.set_cons_succ]
                          refine wpAnyH_take (i := 6) (oi := ⟨some 74, Op.load 22 (Operand.tmp 73), 22, _, _, some (4, false)⟩) (v := .slice xa M.bk.length xk) rfl (by kernel_rfl) (by kernel_rfl) (by kernel_rfl) (fun _ _ _ h => h) (Or.inl ⟨by rfl, fun w hS => by go_simp⟩) hHeld6 ?_
                          simp only [Act.put, List.setIfInBounds_toArray, List.set_cons_zero, List.set_cons_succ]
                          refine wpAnyH_take (i := 8) (oi := ⟨some 76, Op.fieldAddr 32 (Operand.tmp 1) 5, 0, _, _, some (4, false)⟩) (v := .pointer (some ⟨g, 5, none⟩)) rfl (by kernel_rfl) (by kernel_rfl) (by kernel_rfl) (fun _ _ _ h => h) (Or.inl ⟨by rfl, fun w hS => by go_simp⟩) hHeld6 ?_
                          simp only [Act.put, List.setIfInBounds_toArray, List.set_cons_zero, List.set_cons_succ]
                          refine wpAnyH_take (i := 9) (oi := ⟨some 77, Op.load 22 (Operand.tmp 76), 22, _, _, some (4, false)⟩) (v := .slice xa M.bk.length xk) rfl (by kernel_rfl) (by kernel_rfl) (by kernel_rfl) (fun _ _ _ h => h) (Or.inl ⟨by rfl, fun w hS => by go_simp⟩) hHeld6 ?_
                          simp only [Act.put, List.setIfInBounds_toArray, List.set_cons_zero, List.set_cons_succ]
                          refine wpAnyH_take (i := 10) (oi := ⟨some 78, Op.call { callee := Callee.builtin Builtin.len, args := #[Operand.tmp 77], argTypes := #[22] }, 3, _, _, some (4, false)⟩) (v := .int .i64 (M.bk.length : Int)) rfl (by kernel_rfl) (by kernel_rfl) (by kernel_rfl) (fun _ _ _ h => h) (Or.inl ⟨by rfl, fun w hS => by go_simp⟩) hHeld6 ?_
                          simp only [Act.put, List.setIfInBounds_toArray, List.set_cons_zero, List.set_cons_succ]
                          refine wpAnyH_ready (rs := [7]) (by kernel_rfl) (by simp) ?_
                          refine AllReadyH.cons (o := ⟨some 75, Op.call { callee := Callee.value (Operand.func 9), args := #[Operand.tmp 74], argTypes := #[22] }, 3, _, _, some (4, false)⟩) rfl (fun K hK => ?_) AllReadyH.nil
                          rw [if_pos (by rfl)]
                          refine wp_callF 9 _ _ rfl Try.in9 #[.slice xa M.bk.length xk] (by simp [Act.eval]) (fun v w' => v = .int .i64 (fit M.bk : Int) ∧ w' = w5.drew) (HC8.out.mono fun e w' h => ⟨_, h.1, rfl, h.2⟩) ?_
                          rintro v w6 ⟨rfl, rfl⟩
                          refine hK.out _ _ hD0 fun hHeld7 => ?_
                          clear hK HC8
                          simp only [Act.put, List.setIfInBounds_toArray, List.set_cons_zero, List.set_cons_succ]
                          refine wpAnyH_take (i := 11) (oi := ⟨some 79, Op.binOp BinOp.lss 3 (Operand.tmp 75) (Operand.tmp 78) 3, 4, _, _, some (4, false)⟩) (v := .bool false) rfl (by kernel_rfl) (by kernel_rfl) (by kernel_rfl) (fun _ _ _ h => h) (Or.inl ⟨by rfl, fun w hS => by go_simp⟩) hHeld7 ?_
                          simp only [Act.put, List.setIfInBounds_toArray, List.set_cons_zero, List.set_cons_succ]
                          refine wpAnyH_take (i := 12) (oi := ⟨some 80, Op.pick (Operand.tmp 72) (Operand.const (Value.bool true)) (Operand.tmp 79), 4, _, _, none⟩) (v := .bool false) rfl (by kernel_rfl) (by kernel_rfl) (by kernel_rfl) (fun _ _ _ h => h) (Or.inl ⟨by rfl, fun w hS => by go_simp⟩) hHeld7 ?_
                          simp only [Act.put, List.setIfInBounds_toArray, List.set_cons_zero, List.set_cons_succ]
                          refine wpAnyH_take (i := 13) (oi := ⟨some 67, Op.assign (Operand.tmp 80), 4, _, _, none⟩) (v := .bool false) rfl (by kernel_rfl) (by kernel_rfl) (by kernel_rfl) (fun _ _ _ h => h) (Or.inl ⟨by rfl, fun w hS => by go_simp⟩) hHeld7 ?_
                          simp only [Act.put, List.setIfInBounds_toArray, List.set_cons_zero, List.set_cons_succ]
                          refine wpAnyH_done (by kernel_rfl) ?_ _
                          refine hK20 _ _ ?_
                          refine wp_cond_false rfl ?_
                          refine wp_skip ?_
                          refine hK3 _ _ ?_
                          refine wp_seq_k fun K22 hK22 => ?_
                          refine wp_region_list (WL.out ?_)
                          refine WL.val (by kernel_rfl) (.int .i64 0) (by go_simp) ?_
                          simp only [Act.put, List.setIfInBounds_toArray, List.set_cons_zero, List.set_cons_succ]
                          refine WL.nil ?_
                          refine hK22 _ _ ?_
                          refine wp_ret ?_
                          go_ret
                          first | exact ⟨by rw [HR.out]; (simp [*] <;> simp [hasI]), by rw [← HgE.out]; exact B2.out⟩ | exact ⟨by rw [HR.out]; (simp [*] <;> simp [hasI]), by rw [← HgE.out]; exact B3.out⟩ | exact ⟨by rw [HR.out]; (simp [*] <;> simp [hasI]), by rw [← HgE.out]; exact B4.out⟩ | exact ⟨by rw [HR.out]; (simp [*] <;> simp [hasI]), by rw [← HgE.out]; exact B5.out⟩ | exact ⟨by rw [HR.out]; (simp [*] <;> simp [hasI]), by rw [← HgE.out]; exact B5.out.drew⟩
                      · have HC7 := Keep.mk (areBlocks_any (.slice xa M.bk.length xk) M.bk w5.drew (by have h := HA5.out.bk; rw [E5.out] at h; exact h.below (Below.refl _ _).drew) (by have := HOk.out.bk; omega) (fun i hi => by have := HOk.out.rows i hi; omega))
                        rw [hO] at HC7
                        have hD0 : w5.drew.cell? ⟨g, 5, none⟩ = some (.slice xa M.bk.length xk) := g5
                        refine wp_region_held_drew (S := fun wx => wx.cell? ⟨g, 5, none⟩ = some (.slice xa M.bk.length xk)) (by kernel_rfl) (hD0) (fun hHeld => ?_)
                        refine wpAnyH_take (i := 0) (oi := ⟨some 68, Op.fieldAddr 32 (Operand.tmp 1) 5, 0, _, _, none⟩) (v := .pointer (some ⟨g, 5, none⟩)) rfl (by kernel_rfl) (by kernel_rfl) (by kernel_rfl) (fun _ _ _ h => h) (Or.inl ⟨by rfl, fun w hS => by go_simp⟩) hHeld ?_
                        simp only [Act.put, List.setIfInBounds_toArray, List.set_cons_zero, List.set_cons_succ]
                        refine wpAnyH_take (i := 1) (oi := ⟨some 69, Op.load 22 (Operand.tmp 68), 22, _, _, none⟩) (v := .slice xa M.bk.length xk) rfl (by kernel_rfl) (by kernel_rfl) (by kernel_rfl) (fun _ _ _ h => h) (Or.inl ⟨by rfl, fun w hS => by go_simp⟩) hHeld ?_
                        simp only [Act.put, List.setIfInBounds_toArray, List.set_cons_zero, List.set_cons_succ]
                        refine wpAnyH_ready (rs := [2]) (by kernel_rfl) (by simp) ?_
                        refine AllReadyH.cons (o := ⟨some 70, Op.call { callee := Callee.value (Operand.func 8), args := #[Operand.tmp 69], argTypes := #[22] }, 4, _, _, none⟩) rfl (fun K hK => ?_) AllReadyH.nil
                        rw [if_pos (by rfl)]
                        refine wp_callF 8 _ _ rfl Try.in8 #[.slice xa M.bk.length xk] (by simp [Act.eval]) (fun v w' => v = .bool false ∧ w' = w5.drew) (HC7.out.mono fun e w' h => ⟨_, h.1, rfl, h.2⟩) ?_
                        rintro v w6 ⟨rfl, rfl⟩
                        refine hK.out _ _ hD0 fun hHeld6 => ?_
                        clear hK HC7
                        simp only [Act.put, List.setIfInBounds_toArray, List.set_cons_zero, List.set_cons_succ]
                        refine wpAnyH_take (i := 3) (oi := ⟨some 71, Op.unOp UnOp.not 4 (Operand.tmp 70), 4, _, _, none⟩) (v := .bool true) rfl (by kernel_rfl) (by kernel_rfl) (by kernel_rfl) (fun _ _ _ h => h) (Or.inl ⟨by rfl, fun w hS => by go_simp⟩) hHeld6 ?_
                        simp only [Act.put, List.setIfInBounds_toArray, List.set_cons_zero, List.set_cons_succ]
                        refine wpAnyH_take (i := 4) (oi := ⟨some 72, Op.move (Operand.tmp 71), 4, _, _, none⟩) (v := .bool true) rfl (by kernel_rfl) (by kernel_rfl) (by kernel_rfl) (fun _ _ _ h => h) (Or.inl ⟨by rfl, fun w hS => by go_simp⟩) hHeld6 ?_
                        simp only [Act.put, List.setIfInBounds_toArray, List.set_cons_zero, List.set_cons_succ]
                        refine wpAnyH_take (i := 5) (oi := ⟨some 73, Op.fieldAddr 32 (Operand.tmp 1) 5, 0, _, _, some (4, false)⟩) (v := undef) rfl (by kernel_rfl) (by kernel_rfl) (by kernel_rfl) (fun _ _ _ h => h) (Or.inr ⟨by rfl, rfl⟩) hHeld6 ?_
                        simp only [Act.put, List.setIfInBounds_toArray, List.set_cons_zero, List.set_cons_succ]
                        refine wpAnyH_take (i := 6) (oi := ⟨some 74, Op.load 22 (Operand.tmp 73), 22, _, _, some (4, false)⟩) (v := undef) rfl (by kernel_rfl) (by kernel_rfl) (by kernel_rfl) (fun _ _ _ h => h) (Or.inr ⟨by rfl, rfl⟩) hHeld6 ?_
                        simp only [Act.put, List.setIfInBounds_toArray, List.set_cons_zero, List.set_cons_succ]
                        refine wpAnyH_take (i := 7) (oi := ⟨some 75, Op.call { callee := Callee.value (Operand.func 9), args := #[Operand.tmp 74], argTypes := #[22] }, 3, _, _, some (4, false)⟩) (v := undef) rfl (by kernel_rfl) (by kernel_rfl) (by kernel_rfl) (fun _ _ _ h => h) (Or.inr ⟨by rfl, rfl⟩) hHeld6 ?_
                        simp only [Act.put, List.setIfInBounds_toArray, List.set_cons_zero, List.set_cons_succ]
                        refine wpAnyH_take (i := 8) (oi := ⟨some 76, Op.fieldAddr 32 (Operand.tmp 1) 5, 0, _, _, some (4, false)⟩) (v := undef) rfl (by kernel_rfl) (by kernel_rfl) (by kernel_rfl) (fun _ _ _ h => h) (Or.inr ⟨by rfl, rfl⟩) hHeld6 ?_
                        simp only [Act.put, List.setIfInBounds_toArray, List.set_cons_zero, List.set_cons_succ]
                        refine wpAnyH_take (i := 9) (oi := ⟨some 77, Op.load 22 (Operand.tmp 76), 22, _, _, some (4, false)⟩) (v := undef) rfl (by kernel_rfl) (by kernel_rfl) (by kernel_rfl) (fun _ _ _ h => h) (Or.inr ⟨by rfl, rfl⟩) hHeld6 ?_
                        simp only [Act.put, List.setIfInBounds_toArray, List.set_cons_zero, List.set_cons_succ]
                        refine wpAnyH_take (i := 10) (oi := ⟨some 78, Op.call { callee := Callee.builtin Builtin.len, args := #[Operand.tmp 77], argTypes := #[22] }, 3, _, _, some (4, false)⟩) (v := undef) rfl (by kernel_rfl) (by kernel_rfl) (by kernel_rfl) (fun _ _ _ h => h) (Or.inr ⟨by rfl, rfl⟩) hHeld6 ?_
                        simp only [Act.put, List.setIfInBounds_toArray, List.set_cons_zero, List.set_cons_succ]
                        refine wpAnyH_take (i := 11) (oi := ⟨some 79, Op.binOp BinOp.lss 3 (Operand.tmp 75) (Operand.tmp 78) 3, 4, _, _, some (4, false)⟩) (v := undef) rfl (by kernel_rfl) (by kernel_rfl) (by kernel_rfl) (fun _ _ _ h => h) (Or.inr ⟨by rfl, rfl⟩) hHeld6 ?_
                        simp only [Act.put, List.setIfInBounds_toArray, List.set_cons_zero, List.set_cons_succ]
                        refine wpAnyH_take (i := 12) (oi := ⟨some 80, Op.pick (Operand.tmp 72) (Operand.const (Value.bool true)) (Operand.tmp 79), 4, _, _, none⟩) (v := .bool true) rfl (by kernel_rfl) (by kernel_rfl) (by kernel_rfl) (fun _ _ _ h => h) (Or.inl ⟨by rfl, fun w hS => by go_simp⟩) hHeld6 ?_
                        simp only [Act.put, List.setIfInBounds_toArray, List.set_cons_zero, List.set_cons_succ]
                        refine wpAnyH_take (i := 13) (oi := ⟨some 67, Op.assign (Operand.tmp 80), 4, _, _, none⟩) (v := .bool true) rfl (by kernel_rfl) (by kernel_rfl) (by kernel_rfl) (fun _ _ _ h => h) (Or.inl ⟨by rfl, fun w hS => by go_simp⟩) hHeld6 ?_
                        simp only [Act.put, List.setIfInBounds_toArray, List.set_cons_zero, List.set_cons_succ]
                        refine wpAnyH_done (by kernel_rfl) ?_ _
                        refine hK20 _ _ ?_
                        refine wp_cond_true rfl ?_
                        refine wp_seq_k fun K23 hK23 => ?_
                        refine wp_region_list (WL.out ?_)
                        refine WL.val (by kernel_rfl) (.int .i64 4) (by go_simp) ?_
                        simp only [Act.put, List.setIfInBounds_toArray, List.set_cons_zero, List.set_cons_succ]
                        refine WL.nil ?_
                        refine hK23 _ _ ?_
                        refine wp_ret ?_
                        go_ret
                        first | exact ⟨by rw [HR.out]; (simp [*] <;> simp [hasI]), by rw [← HgE.out]; exact B2.out⟩ | exact ⟨by rw [HR.out]; (simp [*] <;> simp [hasI]), by rw [← HgE.out]; exact B3.out⟩ | exact ⟨by rw [HR.out]; (simp [*] <;> simp [hasI]), by rw [← HgE.out]; exact B4.out⟩ | exact ⟨by rw [HR.out]; (simp [*] <;> simp [hasI]), by rw [← HgE.out]; exact B5.out⟩ | exact ⟨by rw [HR.out]; (simp [*] <;> simp [hasI]), by rw [← HgE.out]; exact B5.out.drew⟩
                  · skip
                    refine wp_region_list (WL.out ?_)
                    refine WL.val (by kernel_rfl) (.pointer (some ⟨g, 1, none⟩)) (by go_simp) ?_
                    simp only [Act.put, List.setIfInBounds_toArray, List.set_cons_zero, List.set_cons_succ]
                    refine WL.val (by kernel_rfl) (.slice ha M.hd.length hk) (by go_simp) ?_
                    simp only [Act.put, List.setIfInBounds_toArray, List.set_cons_zero, List.set_cons_succ]
                    refine WL.callF (by kernel_rfl) 15 _ _ rfl Try.in15 #[.slice ha M.hd.length hk] (by simp [Act.eval]) ?_
                    refine (HC4.out).mono ?_
                    rintro e w4 ⟨rfl, hb4⟩
                    refine ⟨_, rfl, ?_⟩
                    clear HC4
                    have HM4 := Keep.mk (HM3.out.below hb4 HM3.out.lt)
                    have HA4 := Keep.mk (HA3.out.below hb4)
                    have B4 : Keep (Below g w w4) := ⟨B3.out.trans (hb4.mono (by rw [HgE.out]; exact B3.out.size))⟩
                    clear g0 g1 g3 g4 g5
                    have g0 := HM4.out.c 0 (ms_0 c)
                    have g1 := HM4.out.c 1 (ms_1 c)
                    have g3 := HM4.out.c 3 (ms_3 c)
                    have g4 := HM4.out.c 4 (ms_4 c)
                    have g5 := HM4.out.c 5 (ms_5 c)
                    rw [Ek.out] at g0
                    rw [E1.out] at g1
                    rw [E3.out] at g3
                    rw [E4.out] at g4
                    rw [E5.out] at g5
                    clear hb4
                    simp only [Act.put, List.setIfInBounds_toArray, List.set_cons_zero, List.set_cons_succ]
                    refine WL.val (by kernel_rfl) (.bool false) (by go_simp) ?_
                    simp only [Act.put, List.setIfInBounds_toArray, List.set_cons_zero, List.set_cons_succ]
                    refine WL.val (by kernel_rfl) (.bool false) (by go_simp) ?_
                    simp only [Act.put, List.setIfInBounds_toArray, List.set_cons_zero, List.set_cons_succ]
                    refine WL.val (by kernel_rfl) (.pointer (some ⟨g, 4, none⟩)) (by go_simp) ?_
                    simp only [Act.put, List.setIfInBounds_toArray, List.set_cons_zero, List.set_cons_succ]
                    refine WL.val (by kernel_rfl) (.slice wa M.wt.length wk) (by go_simp) ?_
                    simp only [Act.put, List.setIfInBounds_toArray, List.set_cons_zero, List.set_cons_succ]
                    have HC5 := Keep.mk (rising_any (.slice wa M.wt.length wk) M.wt w4 (by have h := HA4.out.wt; rw [E4.out] at h; exact h) (by have := HOk.out.wt; omega))
                    rw [hD] at HC5
                    refine WL.callF (by kernel_rfl) 15 _ _ rfl Try.in15 #[.slice wa M.wt.length wk] (by simp [Act.eval]) ?_
                    refine (HC5.out).mono ?_
                    rintro e w5 ⟨rfl, hb5⟩
                    refine ⟨_, rfl, ?_⟩
                    clear HC5
                    have HM5 := Keep.mk (HM4.out.below hb5 HM4.out.lt)
                    have HA5 := Keep.mk (HA4.out.below hb5)
                    have B5 : Keep (Below g w w5) := ⟨B4.out.trans (hb5.mono (by rw [HgE.out]; exact B4.out.size))⟩
                    clear g0 g1 g3 g4 g5
                    have g0 := HM5.out.c 0 (ms_0 c)
                    have g1 := HM5.out.c 1 (ms_1 c)
                    have g3 := HM5.out.c 3 (ms_3 c)
                    have g4 := HM5.out.c 4 (ms_4 c)
                    have g5 := HM5.out.c 5 (ms_5 c)
                    rw [Ek.out] at g0
                    rw [E1.out] at g1
                    rw [E3.out] at g3
                    rw [E4.out] at g4
                    rw [E5.out] at g5
                    clear hb5
                    simp only [Act.put, List.setIfInBounds_toArray, List.set_cons_zero, List.set_cons_succ]
                    refine WL.val (by kernel_rfl) (.bool true) (by go_simp) ?_
                    simp only [Act.put, List.setIfInBounds_toArray, List.set_cons_zero, List.set_cons_succ]
                    refine WL.val (by kernel_rfl) (.bool true) (by go_simp) ?_
                    simp only [Act.put, List.setIfInBounds_toArray, List.set_cons_zero, List.set_cons_succ]
                    refine WL.val (by kernel_rfl) (.bool true) (by go_simp) ?_
                    simp only [Act.put, List.setIfInBounds_toArray, List.set_cons_zero, List.set_cons_succ]
                    refine WL.nil ?_
                    refine hK14 _ _ ?_
                    refine wp_cond_true rfl ?_
                    refine wp_seq_k fun K24 hK24 => ?_
                    refine wp_region_list (WL.out ?_)
                    refine WL.val (by kernel_rfl) (.int .i64 130) (by go_simp) ?_
                    simp only [Act.put, List.setIfInBounds_toArray, List.set_cons_zero, List.set_cons_succ]
                    refine WL.nil ?_
                    refine hK24 _ _ ?_
                    refine wp_ret ?_
                    go_ret
                    first | exact ⟨by rw [HR.out]; (simp [*] <;> simp [hasI]), by rw [← HgE.out]; exact B2.out⟩ | exact ⟨by rw [HR.out]; (simp [*] <;> simp [hasI]), by rw [← HgE.out]; exact B3.out⟩ | exact ⟨by rw [HR.out]; (simp [*] <;> simp [hasI]), by rw [← HgE.out]; exact B4.out⟩ | exact ⟨by rw [HR.out]; (simp [*] <;> simp [hasI]), by rw [← HgE.out]; exact B5.out⟩ | exact ⟨by rw [HR.out]; (simp [*] <;> simp [hasI]), by rw [← HgE.out]; exact B5.out.drew⟩
                · have HC4 := Keep.mk (rising_any (.slice ha M.hd.length hk) M.hd w3 (by have h := HA3.out.hd; rw [E1.out] at h; exact h) (by have := HOk.out.hd; omega))
                  rw [hC] at HC4
                  refine wp_region_list (WL.out ?_)
                  refine WL.val (by kernel_rfl) (.pointer (some ⟨g, 1, none⟩)) (by go_simp) ?_
                  simp only [Act.put, List.setIfInBounds_toArray, List.set_cons_zero, List.set_cons_succ]
                  refine WL.val (by kernel_rfl) (.slice ha M.hd.length hk) (by go_simp) ?_
                  simp only [Act.put, List.setIfInBounds_toArray, List.set_cons_zero, List.set_cons_succ]
                  refine WL.callF (by kernel_rfl) 15 _ _ rfl Try.in15 #[.slice ha M.hd.length hk] (by simp [Act.eval]) ?_
                  refine (HC4.out).mono ?_
                  rintro e w4 ⟨rfl, hb4⟩
                  refine ⟨_, rfl, ?_⟩
                  clear HC4
                  have HM4 := Keep.mk (HM3.out.below hb4 HM3.out.lt)
                  have HA4 := Keep.mk (HA3.out.below hb4)
                  have B4 : Keep (Below g w w4) := ⟨B3.out.trans (hb4.mono (by rw [HgE.out]; exact B3.out.size))⟩
                  clear g0 g1 g3 g4 g5
                  have g0 := HM4.out.c 0 (ms_0 c)
                  have g1 := HM4.out.c 1 (ms_1 c)
                  have g3 := HM4.out.c 3 (ms_3 c)
                  have g4 := HM4.out.c 4 (ms_4 c)
                  have g5 := HM4.out.c 5 (ms_5 c)
                  rw [Ek.out] at g0
                  rw [E1.out] at g1
                  rw [E3.out] at g3
                  rw [E4.out] at g4
                  rw [E5.out] at g5
                  clear hb4
                  simp only [Act.put, List.setIfInBounds_toArray, List.set_cons_zero, List.set_cons_succ]
                  refine WL.val (by kernel_rfl) (.bool true) (by go_simp) ?_
                  simp only [Act.put, List.setIfInBounds_toArray, List.set_cons_zero, List.set_cons_succ]
                  refine WL.val (by kernel_rfl) (.bool true) (by go_simp) ?_
                  simp only [Act.put, List.setIfInBounds_toArray, List.set_cons_zero, List.set_cons_succ]
                  refine WL.skip (by kernel_rfl) ?_
                  simp only [Act.put, List.setIfInBounds_toArray, List.set_cons_zero, List.set_cons_succ]
                  refine WL.skip (by kernel_rfl) ?_
                  simp only [Act.put, List.setIfInBounds_toArray, List.set_cons_zero, List.set_cons_succ]
                  refine WL.skip (by kernel_rfl) ?_
                  simp only [Act.put, List.setIfInBounds_toArray, List.set_cons_zero, List.set_cons_succ]
                  refine WL.skip (by kernel_rfl) ?_
                  simp only [Act.put, List.setIfInBounds_toArray, List.set_cons_zero, List.set_cons_succ]
                  refine WL.val (by kernel_rfl) (.bool true) (by go_simp) ?_
                  simp only [Act.put, List.setIfInBounds_toArray, List.set_cons_zero, List.set_cons_succ]
                  refine WL.val (by kernel_rfl) (.bool true) (by go_simp) ?_
                  simp only [Act.put, List.setIfInBounds_toArray, List.set_cons_zero, List.set_cons_succ]
                  refine WL.nil ?_
                  refine hK14 _ _ ?_
                  refine wp_cond_true rfl ?_
                  refine wp_seq_k fun K25 hK25 => ?_
                  refine wp_region_list (WL.out ?_)
                  refine WL.val (by kernel_rfl) (.int .i64 130) (by go_simp) ?_
                  simp only [Act.put, List.setIfInBounds_toArray, List.set_cons_zero, List.set_cons_succ]
                  refine WL.nil ?_
                  refine hK25 _ _ ?_
                  refine wp_ret ?_
                  go_ret
                  first | exact ⟨by rw [HR.out]; (simp [*] <;> simp [hasI]), by rw [← HgE.out]; exact B2.out⟩ | exact ⟨by rw [HR.out]; (simp [*] <;> simp [hasI]), by rw [← HgE.out]; exact B3.out⟩ | exact ⟨by rw [HR.out]; (simp [*] <;> simp [hasI]), by rw [← HgE.out]; exact B4.out⟩ | exact ⟨by rw [HR.out]; (simp [*] <;> simp [hasI]), by rw [← HgE.out]; exact B5.out⟩ | exact ⟨by rw [HR.out]; (simp [*] <;> simp [hasI]), by rw [← HgE.out]; exact B5.out.drew⟩
            · skip
              refine WL.val (by kernel_rfl) (.bool false) (by go_simp) ?_
              simp only [Act.put, List.setIfInBounds_toArray, List.set_cons_zero, List.set_cons_succ]
              refine WL.val (by kernel_rfl) (.bool false) (by go_simp) ?_
              simp only [Act.put, List.setIfInBounds_toArray, List.set_cons_zero, List.set_cons_succ]
              refine WL.skip (by kernel_rfl) ?_
              simp only [Act.put, List.setIfInBounds_toArray, List.set_cons_zero, List.set_cons_succ]
              refine WL.skip (by kernel_rfl) ?_
              simp only [Act.put, List.setIfInBounds_toArray, List.set_cons_zero, List.set_cons_succ]
              refine WL.skip (by kernel_rfl) ?_
              simp only [Act.put, List.setIfInBounds_toArray, List.set_cons_zero, List.set_cons_succ]
              refine WL.skip (by kernel_rfl) ?_
              simp only [Act.put, List.setIfInBounds_toArray, List.set_cons_zero, List.set_cons_succ]
              refine WL.val (by kernel_rfl) (.bool false) (by go_simp) ?_
              simp only [Act.put, List.setIfInBounds_toArray, List.set_cons_zero, List.set_cons_succ]
              refine WL.val (by kernel_rfl) (.bool false) (by go_simp) ?_
              simp only [Act.put, List.setIfInBounds_toArray, List.set_cons_zero, List.set_cons_succ]
              refine WL.nil ?_
              refine hK12 _ _ ?_
              refine wp_cond_false rfl ?_
              refine wp_seq_k fun K26 hK26 => ?_
              rcases Bool.eq_false_or_eq_true (Sh.risesB M.hd) with hC | hC
              · have HC4 := Keep.mk (rising_any (.slice ha M.hd.length hk) M.hd w3 (by have h := HA3.out.hd; rw [E1.out] at h; exact h) (by have := HOk.out.hd; omega))
                rw [hC] at HC4
                rcases Bool.eq_false_or_eq_true (Sh.risesB M.wt) with hD | hD
                · skip
                  refine wp_region_list (WL.out ?_)
                  refine WL.val (by kernel_rfl) (.pointer (some ⟨g, 1, none⟩)) (by go_simp) ?_
                  simp only [Act.put, List.setIfInBounds_toArray, List.set_cons_zero, List.set_cons_succ]
                  refine WL.val (by kernel_rfl) (.slice ha M.hd.length hk) (by go_simp) ?_
                  simp only [Act.put, List.setIfInBounds_toArray, List.set_cons_zero, List.set_cons_succ]
                  refine WL.callF (by kernel_rfl) 15 _ _ rfl Try.in15 #[.slice ha M.hd.length hk] (by simp [Act.eval]) ?_
                  refine (HC4.out).mono ?_
                  rintro e w4 ⟨rfl, hb4⟩
                  refine ⟨_, rfl, ?_⟩
                  clear HC4
                  have HM4 := Keep.mk (HM3.out.below hb4 HM3.out.lt)
                  have HA4 := Keep.mk (HA3.out.below hb4)
                  have B4 : Keep (Below g w w4) := ⟨B3.out.trans (hb4.mono (by rw [HgE.out]; exact B3.out.size))⟩
                  clear g0 g1 g3 g4 g5
                  have g0 := HM4.out.c 0 (ms_0 c)
                  have g1 := HM4.out.c 1 (ms_1 c)
                  have g3 := HM4.out.c 3 (ms_3 c)
                  have g4 := HM4.out.c 4 (ms_4 c)
                  have g5 := HM4.out.c 5 (ms_5 c)
                  rw [Ek.out] at g0
                  rw [E1.out] at g1
                  rw [E3.out] at g3
                  rw [E4.out] at g4
                  rw [E5.out] at g5
                  clear hb4
                  simp only [Act.put, List.setIfInBounds_toArray, List.set_cons_zero, List.set_cons_succ]
                  refine WL.val (by kernel_rfl) (.bool false) (by go_simp) ?_
                  simp only [Act.put, List.setIfInBounds_toArray, List.set_cons_zero, List.set_cons_succ]
                  refine WL.val (by kernel_rfl) (.bool false) (by go_simp) ?_
                  simp only [Act.put, List.setIfInBounds_toArray, List.set_cons_zero, List.set_cons_succ]
                  refine WL.val (by kernel_rfl) (.pointer (some ⟨g, 4, none⟩)) (by go_simp) ?_
                  simp only [Act.put, List.setIfInBounds_toArray, List.set_cons_zero, List.set_cons_succ]
                  refine WL.val (by kernel_rfl) (.slice wa M.wt.length wk) (by go_simp) ?_
                  simp only [Act.put, List.setIfInBounds_toArray, List.set_cons_zero, List.set_cons_succ]
                  have HC5 := Keep.mk (rising_any (.slice wa M.wt.length wk) M.wt w4 (by have h := HA4.out.wt; rw [E4.out] at h; exact h) (by have := HOk.out.wt; omega))
                  rw [hD] at HC5
                  refine WL.callF (by kernel_rfl) 15 _ _ rfl Try.in15 #[.slice wa M.wt.length wk] (by simp [Act.eval]) ?_
                  refine (HC5.out).mono ?_
                  rintro e w5 ⟨rfl, hb5⟩
                  refine ⟨_, rfl, ?_⟩
                  clear HC5
                  have HM5 := Keep.mk (HM4.out.below hb5 HM4.out.lt)
                  have HA5 := Keep.mk (HA4.out.below hb5)
                  have B5 : Keep (Below g w w5) := ⟨B4.out.trans (hb5.mono (by rw [HgE.out]; exact B4.out.size))⟩
                  clear g0 g1 g3 g4 g5
                  have g0 := HM5.out.c 0 (ms_0 c)
                  have g1 := HM5.out.c 1 (ms_1 c)
                  have g3 := HM5.out.c 3 (ms_3 c)
                  have g4 := HM5.out.c 4 (ms_4 c)
                  have g5 := HM5.out.c 5 (ms_5 c)
                  rw [Ek.out] at g0
                  rw [E1.out] at g1
                  rw [E3.out] at g3
                  rw [E4.out] at g4
                  rw [E5.out] at g5
                  clear hb5
                  simp only [Act.put, List.setIfInBounds_toArray, List.set_cons_zero, List.set_cons_succ]
                  refine WL.val (by kernel_rfl) (.bool false) (by go_simp) ?_
                  simp only [Act.put, List.setIfInBounds_toArray, List.set_cons_zero, List.set_cons_succ]
                  refine WL.val (by kernel_rfl) (.bool false) (by go_simp) ?_
                  simp only [Act.put, List.setIfInBounds_toArray, List.set_cons_zero, List.set_cons_succ]
                  refine WL.val (by kernel_rfl) (.bool false) (by go_simp) ?_
                  simp only [Act.put, List.setIfInBounds_toArray, List.set_cons_zero, List.set_cons_succ]
                  refine WL.nil ?_
                  refine hK26 _ _ ?_
                  refine wp_cond_false rfl ?_
                  refine wp_seq_k fun K27 hK27 => ?_
                  rcases Bool.eq_false_or_eq_true (isP (M.bl.length : Int)) with hP | hP
                  · have HC6 := Keep.mk (right_any (.slice ba M.bl.length bk) M.bl w5 (by have h := HA5.out.bl; rw [E3.out] at h; exact h))
                    rw [hP] at HC6
                    refine wp_region_list (WL.out ?_)
                    refine WL.val (by kernel_rfl) (.pointer (some ⟨g, 0, none⟩)) (by go_simp) ?_
                    simp only [Act.put, List.setIfInBounds_toArray, List.set_cons_zero, List.set_cons_succ]
                    refine WL.val (by kernel_rfl) (.int .i64 M.k) (by go_simp) ?_
                    simp only [Act.put, List.setIfInBounds_toArray, List.set_cons_zero, List.set_cons_succ]
                    by_cases h12_2 : M.k = 1
                    · skip
                      refine WL.val (by kernel_rfl) (.bool true) (by go_simp) ?_
                      simp only [Act.put, List.setIfInBounds_toArray, List.set_cons_zero, List.set_cons_succ]
                      refine WL.val (by kernel_rfl) (.bool true) (by go_simp) ?_
                      simp only [Act.put, List.setIfInBounds_toArray, List.set_cons_zero, List.set_cons_succ]
                      refine WL.val (by kernel_rfl) (.pointer (some ⟨g, 3, none⟩)) (by go_simp) ?_
                      simp only [Act.put, List.setIfInBounds_toArray, List.set_cons_zero, List.set_cons_succ]
                      refine WL.val (by kernel_rfl) (.slice ba M.bl.length bk) (by go_simp) ?_
                      simp only [Act.put, List.setIfInBounds_toArray, List.set_cons_zero, List.set_cons_succ]
                      refine WL.callF (by kernel_rfl) 16 _ _ rfl Try.in16 #[.slice ba M.bl.length bk] (by simp [Act.eval]) ?_
                      refine (HC6.out).mono ?_
                      rintro e w0 ⟨rfl, hw0⟩
                      rw [hw0]
                      clear hw0 w0
                      refine ⟨_, rfl, ?_⟩
                      simp only [Act.put, List.setIfInBounds_toArray, List.set_cons_zero, List.set_cons_succ]
                      refine WL.val (by kernel_rfl) (.bool false) (by go_simp) ?_
                      simp only [Act.put, List.setIfInBounds_toArray, List.set_cons_zero, List.set_cons_succ]
                      refine WL.val (by kernel_rfl) (.bool false) (by go_simp) ?_
                      simp only [Act.put, List.setIfInBounds_toArray, List.set_cons_zero, List.set_cons_succ]
                      refine WL.val (by kernel_rfl) (.bool false) (by go_simp) ?_
                      simp only [Act.put, List.setIfInBounds_toArray, List.set_cons_zero, List.set_cons_succ]
                      refine WL.nil ?_
                      refine hK27 _ _ ?_
                      refine wp_cond_false rfl ?_
                      refine wp_seq_k fun K28 hK28 => ?_
                      rcases Bool.eq_false_or_eq_true (okR M.bk) with hO | hO
                      · have HC7 := Keep.mk (areBlocks_any (.slice xa M.bk.length xk) M.bk w5.drew (by have h := HA5.out.bk; rw [E5.out] at h; exact h.below (Below.refl _ _).drew) (by have := HOk.out.bk; omega) (fun i hi => by have := HOk.out.rows i hi; omega))
                        rw [hO] at HC7
                        have hD0 : w5.drew.cell? ⟨g, 5, none⟩ = some (.slice xa M.bk.length xk) := g5
                        have HC8 := Keep.mk (fitting_any (.slice xa M.bk.length xk) M.bk w5.drew (by have h := HA5.out.bk; rw [E5.out] at h; exact h.below (Below.refl _ _).drew) (by have := HOk.out.bk; omega) (fun i hi => ((okR_iff _).1 hO i hi).2))
                        by_cases hF : fit M.bk < M.bk.length
                        · have hFi : (fit M.bk : Int) < (M.bk.length : Int) := by omega
                          refine wp_region_held_drew (S := fun wx => wx.cell? ⟨g, 5, none⟩ = some (.slice xa M.bk.length xk)) (by kernel_rfl) (hD0) (fun hHeld => ?_)
                          refine wpAnyH_take (i := 0) (oi := ⟨some 68, Op.fieldAddr 32 (Operand.tmp 1) 5, 0, _, _, none⟩) (v := .pointer (some ⟨g, 5, none⟩)) rfl (by kernel_rfl) (by kernel_rfl) (by kernel_rfl) (fun _ _ _ h => h) (Or.inl ⟨by rfl, fun w hS => by go_simp⟩) hHeld ?_
                          simp only [Act.put, List.setIfInBounds_toArray, List.set_cons_zero, List.set_cons_succ]
                          refine wpAnyH_take (i := 1) (oi := ⟨some 69, Op.load 22 (Operand.tmp 68), 22, _, _, none⟩) (v := .slice xa M.bk.length xk) rfl (by kernel_rfl) (by kernel_rfl) (by kernel_rfl) (fun _ _ _ h => h) (Or.inl ⟨by rfl, fun w hS => by go_simp⟩) hHeld ?_
                          simp only [Act.put, List.setIfInBounds_toArray, List.set_cons_zero, List.set_cons_succ]
                          refine wpAnyH_ready (rs := [2]) (by kernel_rfl) (by simp) ?_
                          refine AllReadyH.cons (o := ⟨some 70, Op.call { callee := Callee.value (Operand.func 8), args := #[Operand.tmp 69], argTypes := #[22] }, 4, _, _, none⟩) rfl (fun K hK => ?_) AllReadyH.nil
                          rw [if_pos (by rfl)]
                          refine wp_callF 8 _ _ rfl Try.in8 #[.slice xa M.bk.length xk] (by simp [Act.eval]) (fun v w' => v = .bool true ∧ w' = w5.drew) (HC7.out.mono fun e w' h => ⟨_, h.1, rfl, h.2⟩) ?_
                          rintro v w6 ⟨rfl, rfl⟩
                          refine hK.out _ _ hD0 fun hHeld6 => ?_
                          clear hK HC7
                          simp only [Act.put, List.setIfInBounds_toArray, List.set_cons_zero, List.set_cons_succ]
                          refine wpAnyH_take (i := 3) (oi := ⟨some 71, Op.unOp UnOp.not 4 (Operand.tmp 70), 4, _, _, none⟩) (v := .bool false) rfl (by kernel_rfl) (by kernel_rfl) (by kernel_rfl) (fun _ _ _ h => h) (Or.inl ⟨by rfl, fun w hS => by go_simp⟩) hHeld6 ?_
                          simp only [Act.put, List.setIfInBounds_toArray, List.set_cons_zero, List.set_cons_succ]
                          refine wpAnyH_take (i := 4) (oi := ⟨some 72, Op.move (Operand.tmp 71), 4, _, _, none⟩) (v := .bool false) rfl (by kernel_rfl) (by kernel_rfl) (by kernel_rfl) (fun _ _ _ h => h) (Or.inl ⟨by rfl, fun w hS => by go_simp⟩) hHeld6 ?_
                          simp only [Act.put, List.setIfInBounds_toArray, List.set_cons_zero, List.set_cons_succ]
                          refine wpAnyH_take (i := 5) (oi := ⟨some 73, Op.fieldAddr 32 (Operand.tmp 1) 5, 0, _, _, some (4, false)⟩) (v := .pointer (some ⟨g, 5, none⟩)) rfl (by kernel_rfl) (by kernel_rfl) (by kernel_rfl) (fun _ _ _ h => h) (Or.inl ⟨by rfl, fun w hS => by go_simp⟩) hHeld6 ?_
                          simp only [Act.put, List.setIfInBounds_toArray, List.set_cons_zero, List.set_cons_succ]
                          refine wpAnyH_take (i := 6) (oi := ⟨some 74, Op.load 22 (Operand.tmp 73), 22, _, _, some (4, false)⟩) (v := .slice xa M.bk.length xk) rfl (by kernel_rfl) (by kernel_rfl) (by kernel_rfl) (fun _ _ _ h => h) (Or.inl ⟨by rfl, fun w hS => by go_simp⟩) hHeld6 ?_
                          simp only [Act.put, List.setIfInBounds_toArray, List.set_cons_zero, List.set_cons_succ]
                          refine wpAnyH_take (i := 8) (oi := ⟨some 76, Op.fieldAddr 32 (Operand.tmp 1) 5, 0, _, _, some (4, false)⟩) (v := .pointer (some ⟨g, 5, none⟩)) rfl (by kernel_rfl) (by kernel_rfl) (by kernel_rfl) (fun _ _ _ h => h) (Or.inl ⟨by rfl, fun w hS => by go_simp⟩) hHeld6 ?_
                          simp only [Act.put, List.setIfInBounds_toArray, List.set_cons_zero, List.set_cons_succ]
                          refine wpAnyH_take (i := 9) (oi := ⟨some 77, Op.load 22 (Operand.tmp 76), 22, _, _, some (4, false)⟩) (v := .slice xa M.bk.length xk) rfl (by kernel_rfl) (by kernel_rfl) (by kernel_rfl) (fun _ _ _ h => h) (Or.inl ⟨by rfl, fun w hS => by go_simp⟩) hHeld6 ?_
                          simp only [Act.put, List.setIfInBounds_toArray, List.set_cons_zero, List.set_cons_succ]
                          refine wpAnyH_take (i := 10) (oi := ⟨some 78, Op.call { callee := Callee.builtin Builtin.len, args := #[Operand.tmp 77], argTypes := #[22] }, 3, _, _, some (4, false)⟩) (v := .int .i64 (M.bk.length : Int)) rfl (by kernel_rfl) (by kernel_rfl) (by kernel_rfl) (fun _ _ _ h => h) (Or.inl ⟨by rfl, fun w hS => by go_simp⟩) hHeld6 ?_
                          simp only [Act.put, List.setIfInBounds_toArray, List.set_cons_zero, List.set_cons_succ]
                          refine wpAnyH_ready (rs := [7]) (by kernel_rfl) (by simp) ?_
                          refine AllReadyH.cons (o := ⟨some 75, Op.call { callee := Callee.value (Operand.func 9), args := #[Operand.tmp 74], argTypes := #[22] }, 3, _, _, some (4, false)⟩) rfl (fun K hK => ?_) AllReadyH.nil
                          rw [if_pos (by rfl)]
                          refine wp_callF 9 _ _ rfl Try.in9 #[.slice xa M.bk.length xk] (by simp [Act.eval]) (fun v w' => v = .int .i64 (fit M.bk : Int) ∧ w' = w5.drew) (HC8.out.mono fun e w' h => ⟨_, h.1, rfl, h.2⟩) ?_
                          rintro v w6 ⟨rfl, rfl⟩
                          refine hK.out _ _ hD0 fun hHeld7 => ?_
                          clear hK HC8
                          simp only [Act.put, List.setIfInBounds_toArray, List.set_cons_zero, List.set_cons_succ]
                          refine wpAnyH_take (i := 11) (oi := ⟨some 79, Op.binOp BinOp.lss 3 (Operand.tmp 75) (Operand.tmp 78) 3, 4, _, _, some (4, false)⟩) (v := .bool true) rfl (by kernel_rfl) (by kernel_rfl) (by kernel_rfl) (fun _ _ _ h => h) (Or.inl ⟨by rfl, fun w hS => by go_simp⟩) hHeld7 ?_
                          simp only [Act.put, List.setIfInBounds_toArray, List.set_cons_zero, List.set_cons_succ]
                          refine wpAnyH_take (i := 12) (oi := ⟨some 80, Op.pick (Operand.tmp 72) (Operand.const (Value.bool true)) (Operand.tmp 79), 4, _, _, none⟩) (v := .bool true) rfl (by kernel_rfl) (by kernel_rfl) (by kernel_rfl) (fun _ _ _ h => h) (Or.inl ⟨by rfl, fun w hS => by go_simp⟩) hHeld7 ?_
                          simp only [Act.put, List.setIfInBounds_toArray, List.set_cons_zero, List.set_cons_succ]
                          refine wpAnyH_take (i := 13) (oi := ⟨some 67, Op.assign (Operand.tmp 80), 4, _, _, none⟩) (v := .bool true) rfl (by kernel_rfl) (by kernel_rfl) (by kernel_rfl) (fun _ _ _ h => h) (Or.inl ⟨by rfl, fun w hS => by go_simp⟩) hHeld7 ?_
                          simp only [Act.put, List.setIfInBounds_toArray, List.set_cons_zero, List.set_cons_succ]
                          refine wpAnyH_done (by kernel_rfl) ?_ _
                          refine hK28 _ _ ?_
                          refine wp_cond_true rfl ?_
                          refine wp_seq_k fun K29 hK29 => ?_
                          refine wp_region_list (WL.out ?_)
                          refine WL.val (by kernel_rfl) (.int .i64 4) (by go_simp) ?_
                          simp only [Act.put, List.setIfInBounds_toArray, List.set_cons_zero, List.set_cons_succ]
                          refine WL.nil ?_
                          refine hK29 _ _ ?_
                          refine wp_ret ?_
                          go_ret
                          first | exact ⟨by rw [HR.out]; (simp [*] <;> simp [hasI]), by rw [← HgE.out]; exact B2.out⟩ | exact ⟨by rw [HR.out]; (simp [*] <;> simp [hasI]), by rw [← HgE.out]; exact B3.out⟩ | exact ⟨by rw [HR.out]; (simp [*] <;> simp [hasI]), by rw [← HgE.out]; exact B4.out⟩ | exact ⟨by rw [HR.out]; (simp [*] <;> simp [hasI]), by rw [← HgE.out]; exact B5.out⟩ | exact ⟨by rw [HR.out]; (simp [*] <;> simp [hasI]), by rw [← HgE.out]; exact B5.out.drew⟩
                        · have hFi : ¬ (fit M.bk : Int) < (M.bk.length : Int) := by omega
                          refine wp_region_held_drew (S := fun wx => wx.cell? ⟨g, 5, none⟩ = some (.slice xa M.bk.length xk)) (by kernel_rfl) (hD0) (fun hHeld => ?_)
                          refine wpAnyH_take (i := 0) (oi := ⟨some 68, Op.fieldAddr 32 (Operand.tmp 1) 5, 0, _, _, none⟩) (v := .pointer (some ⟨g, 5, none⟩)) rfl (by kernel_rfl) (by kernel_rfl) (by kernel_rfl) (fun _ _ _ h => h) (Or.inl ⟨by rfl, fun w hS => by go_simp⟩) hHeld ?_
                          simp only [Act.put, List.setIfInBounds_toArray, List.set_cons_zero, List.set_cons_succ]
                          refine wpAnyH_take (i := 1) (oi := ⟨some 69, Op.load 22 (Operand.tmp 68), 22, _, _, none⟩) (v := .slice xa M.bk.length xk) rfl (by kernel_rfl) (by kernel_rfl) (by kernel_rfl) (fun _ _ _ h => h) (Or.inl ⟨by rfl, fun w hS => by go_simp⟩) hHeld ?_
                          simp only [Act.put, List.setIfInBounds_toArray, List.set_cons_zero, List.set_cons_succ]
                          refine wpAnyH_ready (rs := [2]) (by kernel_rfl) (by simp) ?_
                          refine AllReadyH.cons (o := ⟨some 70, Op.call { callee := Callee.value (Operand.func 8), args := #[Operand.tmp 69], argTypes := #[22] }, 4, _, _, none⟩) rfl (fun K hK => ?_) AllReadyH.nil
                          rw [if_pos (by rfl)]
                          refine wp_callF 8 _ _ rfl Try.in8 #[.slice xa M.bk.length xk] (by simp [Act.eval]) (fun v w' => v = .bool true ∧ w' = w5.drew) (HC7.out.mono fun e w' h => ⟨_, h.1, rfl, h.2⟩) ?_
                          rintro v w6 ⟨rfl, rfl⟩
                          refine hK.out _ _ hD0 fun hHeld6 => ?_
                          clear hK HC7
                          simp only [Act.put, List.setIfInBounds_toArray, List.set_cons_zero, List.set_cons_succ]
                          refine wpAnyH_take (i := 3) (oi := ⟨some 71, Op.unOp UnOp.not 4 (Operand.tmp 70), 4, _, _, none⟩) (v := .bool false) rfl (by kernel_rfl) (by kernel_rfl) (by kernel_rfl) (fun _ _ _ h => h) (Or.inl ⟨by rfl, fun w hS => by go_simp⟩) hHeld6 ?_
                          simp only [Act.put, List.setIfInBounds_toArray, List.set_cons_zero, List.set_cons_succ]
                          refine wpAnyH_take (i := 4) (oi := ⟨some 72, Op.move (Operand.tmp 71), 4, _, _, none⟩) (v := .bool false) rfl (by kernel_rfl) (by kernel_rfl) (by kernel_rfl) (fun _ _ _ h => h) (Or.inl ⟨by rfl, fun w hS => by go_simp⟩) hHeld6 ?_
                          simp only [Act.put, List.setIfInBounds_toArray, List.set_cons_zero, List.set_cons_succ]
                          refine wpAnyH_take (i := 5) (oi := ⟨some 73, Op.fieldAddr 32 (Operand.tmp 1) 5, 0, _, _, some (4, false)⟩) (v := .pointer (some ⟨g, 5, none⟩)) rfl (by kernel_rfl) (by kernel_rfl) (by kernel_rfl) (fun _ _ _ h => h) (Or.inl ⟨by rfl, fun w hS => by go_simp⟩) hHeld6 ?_
                          simp only [Act.put, List.setIfInBounds_toArray, List.set_cons_zero, List.set_cons_succ]
                          refine wpAnyH_take (i := 6) (oi := ⟨some 74, Op.load 22 (Operand.tmp 73), 22, _, _, some (4, false)⟩) (v := .slice xa M.bk.length xk) rfl (by kernel_rfl) (by kernel_rfl) (by kernel_rfl) (fun _ _ _ h => h) (Or.inl ⟨by rfl, fun w hS => by go_simp⟩) hHeld6 ?_
                          simp only [Act.put, List.setIfInBounds_toArray, List.set_cons_zero, List.set_cons_succ]
                          refine wpAnyH_take (i := 8) (oi := ⟨some 76, Op.fieldAddr 32 (Operand.tmp 1) 5, 0, _, _, some (4, false)⟩) (v := .pointer (some ⟨g, 5, none⟩)) rfl (by kernel_rfl) (by kernel_rfl) (by kernel_rfl) (fun _ _ _ h => h) (Or.inl ⟨by rfl, fun w hS => by go_simp⟩) hHeld6 ?_
                          simp only [Act.put, List.setIfInBounds_toArray, List.set_cons_zero, List.set_cons_succ]
                          refine wpAnyH_take (i := 9) (oi := ⟨some 77, Op.load 22 (Operand.tmp 76), 22, _, _, some (4, false)⟩) (v := .slice xa M.bk.length xk) rfl (by kernel_rfl) (by kernel_rfl) (by kernel_rfl) (fun _ _ _ h => h) (Or.inl ⟨by rfl, fun w hS => by go_simp⟩) hHeld6 ?_
                          simp only [Act.put, List.setIfInBounds_toArray, List.set_cons_zero, List.set_cons_succ]
                          refine wpAnyH_take (i := 10) (oi := ⟨some 78, Op.call { callee := Callee.builtin Builtin.len, args := #[Operand.tmp 77], argTypes := #[22] }, 3, _, _, some (4, false)⟩) (v := .int .i64 (M.bk.length : Int)) rfl (by kernel_rfl) (by kernel_rfl) (by kernel_rfl) (fun _ _ _ h => h) (Or.inl ⟨by rfl, fun w hS => by go_simp⟩) hHeld6 ?_
                          simp only [Act.put, List.setIfInBounds_toArray, List.set_cons_zero, List.set_cons_succ]
                          refine wpAnyH_ready (rs := [7]) (by kernel_rfl) (by simp) ?_
                          refine AllReadyH.cons (o := ⟨some 75, Op.call { callee := Callee.value (Operand.func 9), args := #[Operand.tmp 74], argTypes := #[22] }, 3, _, _, some (4, false)⟩) rfl (fun K hK => ?_) AllReadyH.nil
                          rw [if_pos (by rfl)]
                          refine wp_callF 9 _ _ rfl Try.in9 #[.slice xa M.bk.length xk] (by simp [Act.eval]) (fun v w' => v = .int .i64 (fit M.bk : Int) ∧ w' = w5.drew) (HC8.out.mono fun e w' h => ⟨_, h.1, rfl, h.2⟩) ?_
                          rintro v w6 ⟨rfl, rfl⟩
                          refine hK.out _ _ hD0 fun hHeld7 => ?_
                          clear hK HC8
                          simp only [Act.put, List.setIfInBounds_toArray, List.set_cons_zero, List.set_cons_succ]
                          refine wpAnyH_take (i := 11) (oi := ⟨some 79, Op.binOp BinOp.lss 3 (Operand.tmp 75) (Operand.tmp 78) 3, 4, _, _, some (4, false)⟩) (v := .bool false) rfl (by kernel_rfl) (by kernel_rfl) (by kernel_rfl) (fun _ _ _ h => h) (Or.inl ⟨by rfl, fun w hS => by go_simp⟩) hHeld7 ?_
                          simp only [Act.put, List.setIfInBounds_toArray, List.set_cons_zero, List.set_cons_succ]
                          refine wpAnyH_take (i := 12) (oi := ⟨some 80, Op.pick (Operand.tmp 72) (Operand.const (Value.bool true)) (Operand.tmp 79), 4, _, _, none⟩) (v := .bool false) rfl (by kernel_rfl) (by kernel_rfl) (by kernel_rfl) (fun _ _ _ h => h) (Or.inl ⟨by rfl, fun w hS => by go_simp⟩) hHeld7 ?_
                          simp only [Act.put, List.setIfInBounds_toArray, List.set_cons_zero, List.set_cons_succ]
                          refine wpAnyH_take (i := 13) (oi := ⟨some 67, Op.assign (Operand.tmp 80), 4, _, _, none⟩) (v := .bool false) rfl (by kernel_rfl) (by kernel_rfl) (by kernel_rfl) (fun _ _ _ h => h) (Or.inl ⟨by rfl, fun w hS => by go_simp⟩) hHeld7 ?_
                          simp only [Act.put, List.setIfInBounds_toArray, List.set_cons_zero, List.set_cons_succ]
                          refine wpAnyH_done (by kernel_rfl) ?_ _
                          refine hK28 _ _ ?_
                          refine wp_cond_false rfl ?_
                          refine wp_skip ?_
                          refine hK3 _ _ ?_
                          refine wp_seq_k fun K30 hK30 => ?_
                          refine wp_region_list (WL.out ?_)
                          refine WL.val (by kernel_rfl) (.int .i64 0) (by go_simp) ?_
                          simp only [Act.put, List.setIfInBounds_toArray, List.set_cons_zero, List.set_cons_succ]
                          refine WL.nil ?_
                          refine hK30 _ _ ?_
                          refine wp_ret ?_
                          go_ret
                          first | exact ⟨by rw [HR.out]; (simp [*] <;> simp [hasI]), by rw [← HgE.out]; exact B2.out⟩ | exact ⟨by rw [HR.out]; (simp [*] <;> simp [hasI]), by rw [← HgE.out]; exact B3.out⟩ | exact ⟨by rw [HR.out]; (simp [*] <;> simp [hasI]), by rw [← HgE.out]; exact B4.out⟩ | exact ⟨by rw [HR.out]; (simp [*] <;> simp [hasI]), by rw [← HgE.out]; exact B5.out⟩ | exact ⟨by rw [HR.out]; (simp [*] <;> simp [hasI]), by rw [← HgE.out]; exact B5.out.drew⟩
                      · have HC7 := Keep.mk (areBlocks_any (.slice xa M.bk.length xk) M.bk w5.drew (by have h := HA5.out.bk; rw [E5.out] at h; exact h.below (Below.refl _ _).drew) (by have := HOk.out.bk; omega) (fun i hi => by have := HOk.out.rows i hi; omega))
                        rw [hO] at HC7
                        have hD0 : w5.drew.cell? ⟨g, 5, none⟩ = some (.slice xa M.bk.length xk) := g5
                        refine wp_region_held_drew (S := fun wx => wx.cell? ⟨g, 5, none⟩ = some (.slice xa M.bk.length xk)) (by kernel_rfl) (hD0) (fun hHeld => ?_)
                        refine wpAnyH_take (i := 0) (oi := ⟨some 68, Op.fieldAddr 32 (Operand.tmp 1) 5, 0, _, _, none⟩) (v := .pointer (some ⟨g, 5, none⟩)) rfl (by kernel_rfl) (by kernel_rfl) (by kernel_rfl) (fun _ _ _ h => h) (Or.inl ⟨by rfl, fun w hS => by go_simp⟩) hHeld ?_
                        simp only [Act.put, List.setIfInBounds_toArray, List.set_cons_zero, List.set_cons_succ]
                        refine wpAnyH_take (i := 1) (oi := ⟨some 69, Op.load 22 (Operand.tmp 68), 22, _, _, none⟩) (v := .slice xa M.bk.length xk) rfl (by kernel_rfl) (by kernel_rfl) (by kernel_rfl) (fun _ _ _ h => h) (Or.inl ⟨by rfl, fun w hS => by go_simp⟩) hHeld ?_
                        simp only [Act.put, List.setIfInBounds_toArray, List.set_cons_zero, List.set_cons_succ]
                        refine wpAnyH_ready (rs := [2]) (by kernel_rfl) (by simp) ?_
                        refine AllReadyH.cons (o := ⟨some 70, Op.call { callee := Callee.value (Operand.func 8), args := #[Operand.tmp 69], argTypes := #[22] }, 4, _, _, none⟩) rfl (fun K hK => ?_) AllReadyH.nil
                        rw [if_pos (by rfl)]
                        refine wp_callF 8 _ _ rfl Try.in8 #[.slice xa M.bk.length xk] (by simp [Act.eval]) (fun v w' => v = .bool false ∧ w' = w5.drew) (HC7.out.mono fun e w' h => ⟨_, h.1, rfl, h.2⟩) ?_
                        rintro v w6 ⟨rfl, rfl⟩
                        refine hK.out _ _ hD0 fun hHeld6 => ?_
                        clear hK HC7
                        simp only [Act.put, List.setIfInBounds_toArray, List.set_cons_zero, List.set_cons_succ]
                        refine wpAnyH_take (i := 3) (oi := ⟨some 71, Op.unOp UnOp.not 4 (Operand.tmp 70), 4, _, _, none⟩) (v := .bool true) rfl (by kernel_rfl) (by kernel_rfl) (by kernel_rfl) (fun _ _ _ h => h) (Or.inl ⟨by rfl, fun w hS => by go_simp⟩) hHeld6 ?_
                        simp only [Act.put, List.setIfInBounds_toArray, List.set_cons_zero, List.set_cons_succ]
                        refine wpAnyH_take (i := 4) (oi := ⟨some 72, Op.move (Operand.tmp 71), 4, _, _, none⟩) (v := .bool true) rfl (by kernel_rfl) (by kernel_rfl) (by kernel_rfl) (fun _ _ _ h => h) (Or.inl ⟨by rfl, fun w hS => by go_simp⟩) hHeld6 ?_
                        simp only [Act.put, List.setIfInBounds_toArray, List.set_cons_zero, List.set_cons_succ]
                        refine wpAnyH_take (i := 5) (oi := ⟨some 73, Op.fieldAddr 32 (Operand.tmp 1) 5, 0, _, _, some (4, false)⟩) (v := undef) rfl (by kernel_rfl) (by kernel_rfl) (by kernel_rfl) (fun _ _ _ h => h) (Or.inr ⟨by rfl, rfl⟩) hHeld6 ?_
                        simp only [Act.put, List.setIfInBounds_toArray, List.set_cons_zero, List.set_cons_succ]
                        refine wpAnyH_take (i := 6) (oi := ⟨some 74, Op.load 22 (Operand.tmp 73), 22, _, _, some (4, false)⟩) (v := undef) rfl (by kernel_rfl) (by kernel_rfl) (by kernel_rfl) (fun _ _ _ h => h) (Or.inr ⟨by rfl, rfl⟩) hHeld6 ?_
                        simp only [Act.put, List.setIfInBounds_toArray, List.set_cons_zero, List.set_cons_succ]
                        refine wpAnyH_take (i := 7) (oi := ⟨some 75, Op.call { callee := Callee.value (Operand.func 9), args := #[Operand.tmp 74], argTypes := #[22] }, 3, _, _, some (4, false)⟩) (v := undef) rfl (by kernel_rfl) (by kernel_rfl) (by kernel_rfl) (fun _ _ _ h => h) (Or.inr ⟨by rfl, rfl⟩) hHeld6 ?_
                        simp only [Act.put, List.setIfInBounds_toArray, List.set_cons_zero, List.set_cons_succ]
                        refine wpAnyH_take (i := 8) (oi := ⟨some 76, Op.fieldAddr 32 (Operand.tmp 1) 5, 0, _, _, some (4, false)⟩) (v := undef) rfl (by kernel_rfl) (by kernel_rfl) (by kernel_rfl) (fun _ _ _ h => h) (Or.inr ⟨by rfl, rfl⟩) hHeld6 ?_
                        simp only [Act.put, List.setIfInBounds_toArray, List.set_cons_zero, List.set_cons_succ]
                        refine wpAnyH_take (i := 9) (oi := ⟨some 77, Op.load 22 (Operand.tmp 76), 22, _, _, some (4, false)⟩) (v := undef) rfl (by kernel_rfl) (by kernel_rfl) (by kernel_rfl) (fun _ _ _ h => h) (Or.inr ⟨by rfl, rfl⟩) hHeld6 ?_
                        simp only [Act.put, List.setIfInBounds_toArray, List.set_cons_zero, List.set_cons_succ]
                        refine wpAnyH_take (i := 10) (oi := ⟨some 78, Op.call { callee := Callee.builtin Builtin.len, args := #[Operand.tmp 77], argTypes := #[22] }, 3, _, _, some (4, false)⟩) (v := undef) rfl (by kernel_rfl) (by kernel_rfl) (by kernel_rfl) (fun _ _ _ h => h) (Or.inr ⟨by rfl, rfl⟩) hHeld6 ?_
                        simp only [Act.put, List.setIfInBounds_toArray, List.set_cons_zero, List.set_cons_succ]
                        refine wpAnyH_take (i := 11) (oi := ⟨some 79, Op.binOp BinOp.lss 3 (Operand.tmp 75) (Operand.tmp 78) 3, 4, _, _, some (4, false)⟩) (v := undef) rfl (by kernel_rfl) (by kernel_rfl) (by kernel_rfl) (fun _ _ _ h => h) (Or.inr ⟨by rfl, rfl⟩) hHeld6 ?_
                        simp only [Act.put, List.setIfInBounds_toArray, List.set_cons_zero, List.set_cons_succ]
                        refine wpAnyH_take (i := 12) (oi := ⟨some 80, Op.pick (Operand.tmp 72) (Operand.const (Value.bool true)) (Operand.tmp 79), 4, _, _, none⟩) (v := .bool true) rfl (by kernel_rfl) (by kernel_rfl) (by kernel_rfl) (fun _ _ _ h => h) (Or.inl ⟨by rfl, fun w hS => by go_simp⟩) hHeld6 ?_
                        simp only [Act.put, List.setIfInBounds_toArray, List.set_cons_zero, List.set_cons_succ]
                        refine wpAnyH_take (i := 13) (oi := ⟨some 67, Op.assign (Operand.tmp 80), 4, _, _, none⟩) (v := .bool true) rfl (by kernel_rfl) (by kernel_rfl) (by kernel_rfl) (fun _ _ _ h => h) (Or.inl ⟨by rfl, fun w hS => by go_simp⟩) hHeld6 ?_
                        simp only [Act.put, List.setIfInBounds_toArray, List.set_cons_zero, List.set_cons_succ]
                        refine wpAnyH_done (by kernel_rfl) ?_ _
                        refine hK28 _ _ ?_
                        refine wp_cond_true rfl ?_
                        refine wp_seq_k fun K31 hK31 => ?_
                        refine wp_region_list (WL.out ?_)
                        refine WL.val (by kernel_rfl) (.int .i64 4) (by go_simp) ?_
                        simp only [Act.put, List.setIfInBounds_toArray, List.set_cons_zero, List.set_cons_succ]
                        refine WL.nil ?_
                        refine hK31 _ _ ?_
                        refine wp_ret ?_
                        go_ret
                        first | exact ⟨by rw [HR.out]; (simp [*] <;> simp [hasI]), by rw [← HgE.out]; exact B2.out⟩ | exact ⟨by rw [HR.out]; (simp [*] <;> simp [hasI]), by rw [← HgE.out]; exact B3.out⟩ | exact ⟨by rw [HR.out]; (simp [*] <;> simp [hasI]), by rw [← HgE.out]; exact B4.out⟩ | exact ⟨by rw [HR.out]; (simp [*] <;> simp [hasI]), by rw [← HgE.out]; exact B5.out⟩ | exact ⟨by rw [HR.out]; (simp [*] <;> simp [hasI]), by rw [← HgE.out]; exact B5.out.drew⟩
                    · skip
                      refine WL.val (by kernel_rfl) (.bool false) (by go_simp) ?_
                      simp only [Act.put, List.setIfInBounds_toArray, List.set_cons_zero, List.set_cons_succ]
                      refine WL.val (by kernel_rfl) (.bool false) (by go_simp) ?_
                      simp only [Act.put, List.setIfInBounds_toArray, List.set_cons_zero, List.set_cons_succ]
                      refine WL.skip (by kernel_rfl) ?_
                      simp only [Act.put, List.setIfInBounds_toArray, List.set_cons_zero, List.set_cons_succ]
                      refine WL.skip (by kernel_rfl) ?_
                      simp only [Act.put, List.setIfInBounds_toArray, List.set_cons_zero, List.set_cons_succ]
                      refine WL.skip (by kernel_rfl) ?_
                      simp only [Act.put, List.setIfInBounds_toArray, List.set_cons_zero, List.set_cons_succ]
                      refine WL.skip (by kernel_rfl) ?_
                      simp only [Act.put, List.setIfInBounds_toArray, List.set_cons_zero, List.set_cons_succ]
                      refine WL.val (by kernel_rfl) (.bool false) (by go_simp) ?_
                      simp only [Act.put, List.setIfInBounds_toArray, List.set_cons_zero, List.set_cons_succ]
                      refine WL.val (by kernel_rfl) (.bool false) (by go_simp) ?_
                      simp only [Act.put, List.setIfInBounds_toArray, List.set_cons_zero, List.set_cons_succ]
                      refine WL.nil ?_
                      refine hK27 _ _ ?_
                      refine wp_cond_false rfl ?_
                      refine wp_seq_k fun K32 hK32 => ?_
                      rcases Bool.eq_false_or_eq_true (okR M.bk) with hO | hO
                      · have HC7 := Keep.mk (areBlocks_any (.slice xa M.bk.length xk) M.bk w5.drew (by have h := HA5.out.bk; rw [E5.out] at h; exact h.below (Below.refl _ _).drew) (by have := HOk.out.bk; omega) (fun i hi => by have := HOk.out.rows i hi; omega))
                        rw [hO] at HC7
                        have hD0 : w5.drew.cell? ⟨g, 5, none⟩ = some (.slice xa M.bk.length xk) := g5
                        have HC8 := Keep.mk (fitting_any (.slice xa M.bk.length xk) M.bk w5.drew (by have h := HA5.out.bk; rw [E5.out] at h; exact h.below (Below.refl _ _).drew) (by have := HOk.out.bk; omega) (fun i hi => ((okR_iff _).1 hO i hi).2))
                        by_cases hF : fit M.bk < M.bk.length
                        · have hFi : (fit M.bk : Int) < (M.bk.length : Int) := by omega
                          refine wp_region_held_drew (S := fun wx => wx.cell? ⟨g, 5, none⟩ = some (.slice xa M.bk.length xk)) (by kernel_rfl) (hD0) (fun hHeld => ?_)
                          refine wpAnyH_take (i := 0) (oi := ⟨some 68, Op.fieldAddr 32 (Operand.tmp 1) 5, 0, _, _, none⟩) (v := .pointer (some ⟨g, 5, none⟩)) rfl (by kernel_rfl) (by kernel_rfl) (by kernel_rfl) (fun _ _ _ h => h) (Or.inl ⟨by rfl, fun w hS => by go_simp⟩) hHeld ?_
                          simp only [Act.put, List.setIfInBounds_toArray, List.set_cons_zero, List.set_cons_succ]
                          refine wpAnyH_take (i := 1) (oi := ⟨some 69, Op.load 22 (Operand.tmp 68), 22, _, _, none⟩) (v := .slice xa M.bk.length xk) rfl (by kernel_rfl) (by kernel_rfl) (by kernel_rfl) (fun _ _ _ h => h) (Or.inl ⟨by rfl, fun w hS => by go_simp⟩) hHeld ?_
                          simp only [Act.put, List.setIfInBounds_toArray, List.set_cons_zero, List.set_cons_succ]
                          refine wpAnyH_ready (rs := [2]) (by kernel_rfl) (by simp) ?_
                          refine AllReadyH.cons (o := ⟨some 70, Op.call { callee := Callee.value (Operand.func 8), args := #[Operand.tmp 69], argTypes := #[22] }, 4, _, _, none⟩) rfl (fun K hK => ?_) AllReadyH.nil
                          rw [if_pos (by rfl)]
                          refine wp_callF 8 _ _ rfl Try.in8 #[.slice xa M.bk.length xk] (by simp [Act.eval]) (fun v w' => v = .bool true ∧ w' = w5.drew) (HC7.out.mono fun e w' h => ⟨_, h.1, rfl, h.2⟩) ?_
                          rintro v w6 ⟨rfl, rfl⟩
                          refine hK.out _ _ hD0 fun hHeld6 => ?_
                          clear hK HC7
                          simp only [Act.put, List.setIfInBounds_toArray, List.set_cons_zero, List.set_cons_succ]
                          refine wpAnyH_take (i := 3) (oi := ⟨some 71, Op.unOp UnOp.not 4 (Operand.tmp 70), 4, _, _, none⟩) (v := .bool false) rfl (by kernel_rfl) (by kernel_rfl) (by kernel_rfl) (fun _ _ _ h => h) (Or.inl ⟨by rfl, fun w hS => by go_simp⟩) hHeld6 ?_
                          simp only [Act.put, List.setIfInBounds_toArray, List.set_cons_zero, List.set_cons_succ]
                          refine wpAnyH_take (i := 4) (oi := ⟨some 72, Op.move (Operand.tmp 71), 4, _, _, none⟩) (v := .bool false) rfl (by kernel_rfl) (by kernel_rfl) (by kernel_rfl) (fun _ _ _ h => h) (Or.inl ⟨by rfl, fun w hS => by go_simp⟩) hHeld6 ?_
                          simp only [Act.put, List.setIfInBounds_toArray, List.set_cons_zero, List.set_cons_succ]
                          refine wpAnyH_take (i := 5) (oi := ⟨some 73, Op.fieldAddr 32 (Operand.tmp 1) 5, 0, _, _, some (4, false)⟩) (v := .pointer (some ⟨g, 5, none⟩)) rfl (by kernel_rfl) (by kernel_rfl) (by kernel_rfl) (fun _ _ _ h => h) (Or.inl ⟨by rfl, fun w hS => by go_simp⟩) hHeld6 ?_
                          simp only [Act.put, List.setIfInBounds_toArray, List.set_cons_zero, List.set_cons_succ]
                          refine wpAnyH_take (i := 6) (oi := ⟨some 74, Op.load 22 (Operand.tmp 73), 22, _, _, some (4, false)⟩) (v := .slice xa M.bk.length xk) rfl (by kernel_rfl) (by kernel_rfl) (by kernel_rfl) (fun _ _ _ h => h) (Or.inl ⟨by rfl, fun w hS => by go_simp⟩) hHeld6 ?_
                          simp only [Act.put, List.setIfInBounds_toArray, List.set_cons_zero, List.set_cons_succ]
                          refine wpAnyH_take (i := 8) (oi := ⟨some 76, Op.fieldAddr 32 (Operand.tmp 1) 5, 0, _, _, some (4, false)⟩) (v := .pointer (some ⟨g, 5, none⟩)) rfl (by kernel_rfl) (by kernel_rfl) (by kernel_rfl) (fun _ _ _ h => h) (Or.inl ⟨by rfl, fun w hS => by go_simp⟩) hHeld6 ?_
                          simp only [Act.put, List.setIfInBounds_toArray, List.set_cons_zero, List.set_cons_succ]
                          refine wpAnyH_take (i := 9) (oi := ⟨some 77, Op.load 22 (Operand.tmp 76), 22, _, _, some (4, false)⟩) (v := .slice xa M.bk.length xk) rfl (by kernel_rfl) (by kernel_rfl) (by kernel_rfl) (fun _ _ _ h => h) (Or.inl ⟨by rfl, fun w hS => by go_simp⟩) hHeld6 ?_
                          simp only [Act.put, List.setIfInBounds_toArray, List.set_cons_zero, List.set_cons_succ]
                          refine wpAnyH_take (i := 10) (oi := ⟨some 78, Op.call { callee := Callee.builtin Builtin.len, args := #[Operand.tmp 77], argTypes := #[22] }, 3, _, _, some (4, false)⟩) (v := .int .i64 (M.bk.length : Int)) rfl (by kernel_rfl) (by kernel_rfl) (by kernel_rfl) (fun _ _ _ h => h) (Or.inl ⟨by rfl, fun w hS => by go_simp⟩) hHeld6 ?_
                          simp only [Act.put, List.setIfInBounds_toArray, List.set_cons_zero, List.set_cons_succ]
                          refine wpAnyH_ready (rs := [7]) (by kernel_rfl) (by simp) ?_
                          refine AllReadyH.cons (o := ⟨some 75, Op.call { callee := Callee.value (Operand.func 9), args := #[Operand.tmp 74], argTypes := #[22] }, 3, _, _, some (4, false)⟩) rfl (fun K hK => ?_) AllReadyH.nil
                          rw [if_pos (by rfl)]
                          refine wp_callF 9 _ _ rfl Try.in9 #[.slice xa M.bk.length xk] (by simp [Act.eval]) (fun v w' => v = .int .i64 (fit M.bk : Int) ∧ w' = w5.drew) (HC8.out.mono fun e w' h => ⟨_, h.1, rfl, h.2⟩) ?_
                          rintro v w6 ⟨rfl, rfl⟩
                          refine hK.out _ _ hD0 fun hHeld7 => ?_
                          clear hK HC8
                          simp only [Act.put, List.setIfInBounds_toArray, List.set_cons_zero, List.set_cons_succ]
                          refine wpAnyH_take (i := 11) (oi := ⟨some 79, Op.binOp BinOp.lss 3 (Operand.tmp 75) (Operand.tmp 78) 3, 4, _, _, some (4, false)⟩) (v := .bool true) rfl (by kernel_rfl) (by kernel_rfl) (by kernel_rfl) (fun _ _ _ h => h) (Or.inl ⟨by rfl, fun w hS => by go_simp⟩) hHeld7 ?_
                          simp only [Act.put, List.setIfInBounds_toArray, List.set_cons_zero, List.set_cons_succ]
                          refine wpAnyH_take (i := 12) (oi := ⟨some 80, Op.pick (Operand.tmp 72) (Operand.const (Value.bool true)) (Operand.tmp 79), 4, _, _, none⟩) (v := .bool true) rfl (by kernel_rfl) (by kernel_rfl) (by kernel_rfl) (fun _ _ _ h => h) (Or.inl ⟨by rfl, fun w hS => by go_simp⟩) hHeld7 ?_
                          simp only [Act.put, List.setIfInBounds_toArray, List.set_cons_zero, List.set_cons_succ]
                          refine wpAnyH_take (i := 13) (oi := ⟨some 67, Op.assign (Operand.tmp 80), 4, _, _, none⟩) (v := .bool true) rfl (by kernel_rfl) (by kernel_rfl) (by kernel_rfl) (fun _ _ _ h => h) (Or.inl ⟨by rfl, fun w hS => by go_simp⟩) hHeld7 ?_
                          simp only [Act.put, List.setIfInBounds_toArray, List.set_cons_zero, List.set_cons_succ]
                          refine wpAnyH_done (by kernel_rfl) ?_ _
                          refine hK32 _ _ ?_
                          refine wp_cond_true rfl ?_
                          refine wp_seq_k fun K33 hK33 => ?_
                          refine wp_region_list (WL.out ?_)
                          refine WL.val (by kernel_rfl) (.int .i64 4) (by go_simp) ?_
                          simp only [Act.put, List.setIfInBounds_toArray, List.set_cons_zero, List.set_cons_succ]
                          refine WL.nil ?_
                          refine hK33 _ _ ?_
                          refine wp_ret ?_
                          go_ret
                          first | exact ⟨by rw [HR.out]; (simp [*] <;> simp [hasI]), by rw [← HgE.out]; exact B2.out⟩ | exact ⟨by rw [HR.out]; (simp [*] <;> simp [hasI]), by rw [← HgE.out]; exact B3.out⟩ | exact ⟨by rw [HR.out]; (simp [*] <;> simp [hasI]), by rw [← HgE.out]; exact B4.out⟩ | exact ⟨by rw [HR.out]; (simp [*] <;> simp [hasI]), by rw [← HgE.out]; exact B5.out⟩ | exact ⟨by rw [HR.out]; (simp [*] <;> simp [hasI]), by rw [← HgE.out]; exact B5.out.drew⟩
                        · have hFi : ¬ (fit M.bk : Int) < (M.bk.length : Int) := by omega
                          refine wp_region_held_drew (S := fun wx => wx.cell? ⟨g, 5, none⟩ = some (.slice xa M.bk.length xk)) (by kernel_rfl) (hD0) (fun hHeld => ?_)
                          refine wpAnyH_take (i := 0) (oi := ⟨some 68, Op.fieldAddr 32 (Operand.tmp 1) 5, 0, _, _, none⟩) (v := .pointer (some ⟨g, 5, none⟩)) rfl (by kernel_rfl) (by kernel_rfl) (by kernel_rfl) (fun _ _ _ h => h) (Or.inl ⟨by rfl, fun w hS => by go_simp⟩) hHeld ?_
                          simp only [Act.put, List.setIfInBounds_toArray, List.set_cons_zero, List.set_cons_succ]
                          refine wpAnyH_take (i := 1) (oi := ⟨some 69, Op.load 22 (Operand.tmp 68), 22, _, _, none⟩) (v := .slice xa M.bk.length xk) rfl (by kernel_rfl) (by kernel_rfl) (by kernel_rfl) (fun _ _ _ h => h) (Or.inl ⟨by rfl, fun w hS => by go_simp⟩) hHeld ?_
                          simp only [Act.put, List.setIfInBounds_toArray, List.set_cons_zero, List.set_cons_succ]
                          refine wpAnyH_ready (rs := [2]) (by kernel_rfl) (by simp) ?_
                          refine AllReadyH.cons (o := ⟨some 70, Op.call { callee := Callee.value (Operand.func 8), args := #[Operand.tmp 69], argTypes := #[22] }, 4, _, _, none⟩) rfl (fun K hK => ?_) AllReadyH.nil
                          rw [if_pos (by rfl)]
                          refine wp_callF 8 _ _ rfl Try.in8 #[.slice xa M.bk.length xk] (by simp [Act.eval]) (fun v w' => v = .bool true ∧ w' = w5.drew) (HC7.out.mono fun e w' h => ⟨_, h.1, rfl, h.2⟩) ?_
                          rintro v w6 ⟨rfl, rfl⟩
                          refine hK.out _ _ hD0 fun hHeld6 => ?_
                          clear hK HC7
                          simp only [Act.put, List.setIfInBounds_toArray, List.set_cons_zero, List.set_cons_succ]
                          refine wpAnyH_take (i := 3) (oi := ⟨some 71, Op.unOp UnOp.not 4 (Operand.tmp 70), 4, _, _, none⟩) (v := .bool false) rfl (by kernel_rfl) (by kernel_rfl) (by kernel_rfl) (fun _ _ _ h => h) (Or.inl ⟨by rfl, fun w hS => by go_simp⟩) hHeld6 ?_
                          simp only [Act.put, List.setIfInBounds_toArray, List.set_cons_zero, List.set_cons_succ]
                          refine wpAnyH_take (i := 4) (oi := ⟨some 72, Op.move (Operand.tmp 71), 4, _, _, none⟩) (v := .bool false) rfl (by kernel_rfl) (by kernel_rfl) (by kernel_rfl) (fun _ _ _ h => h) (Or.inl ⟨by rfl, fun w hS => by go_simp⟩) hHeld6 ?_
                          simp only [Act.put, List.setIfInBounds_toArray, List.set_cons_zero, List.set_cons_succ]
                          refine wpAnyH_take (i := 5) (oi := ⟨some 73, Op.fieldAddr 32 (Operand.tmp 1) 5, 0, _, _, some (4, false)⟩) (v := .pointer (some ⟨g, 5, none⟩)) rfl (by kernel_rfl) (by kernel_rfl) (by kernel_rfl) (fun _ _ _ h => h) (Or.inl ⟨by rfl, fun w hS => by go_simp⟩) hHeld6 ?_
                          simp only [Act.put, List.setIfInBounds_toArray, List.set_cons_zero, List.set_cons_succ]
                          refine wpAnyH_take (i := 6) (oi := ⟨some 74, Op.load 22 (Operand.tmp 73), 22, _, _, some (4, false)⟩) (v := .slice xa M.bk.length xk) rfl (by kernel_rfl) (by kernel_rfl) (by kernel_rfl) (fun _ _ _ h => h) (Or.inl ⟨by rfl, fun w hS => by go_simp⟩) hHeld6 ?_
                          simp only [Act.put, List.setIfInBounds_toArray, List.set_cons_zero, List.set_cons_succ]
                          refine wpAnyH_take (i := 8) (oi := ⟨some 76, Op.fieldAddr 32 (Operand.tmp 1) 5, 0, _, _, some (4, false)⟩) (v := .pointer (some ⟨g, 5, none⟩)) rfl (by kernel_rfl) (by kernel_rfl) (by kernel_rfl) (fun _ _ _ h => h) (Or.inl ⟨by rfl, fun w hS => by go_simp⟩) hHeld6 ?_
                          simp only [Act.put, List.setIfInBounds_toArray, List.set_cons_zero, List.set_cons_succ]
                          refine wpAnyH_take (i := 9) (oi := ⟨some 77, Op.load 22 (Operand.tmp 76), 22, _, _, some (4, false)⟩) (v := .slice xa M.bk.length xk) rfl (by kernel_rfl) (by kernel_rfl) (by kernel_rfl) (fun _ _ _ h => h) (Or.inl ⟨by rfl, fun w hS => by go_simp⟩) hHeld6 ?_
                          simp only [Act.put, List.setIfInBounds_toArray, List.set_cons_zero, List.set_cons_succ]
                          refine wpAnyH_take (i := 10) (oi := ⟨some 78, Op.call { callee := Callee.builtin Builtin.len, args := #[Operand.tmp 77], argTypes := #[22] }, 3, _, _, some (4, false)⟩) (v := .int .i64 (M.bk.length : Int)) rfl (by kernel_rfl) (by kernel_rfl) (by kernel_rfl) (fun _ _ _ h => h) (Or.inl ⟨by rfl, fun w hS => by go_simp⟩) hHeld6 ?_
                          simp only [Act.put, List.setIfInBounds_toArray, List.set_cons_zero, List.set_cons_succ]
                          refine wpAnyH_ready (rs := [7]) (by kernel_rfl) (by simp) ?_
                          refine AllReadyH.cons (o := ⟨some 75, Op.call { callee := Callee.value (Operand.func 9), args := #[Operand.tmp 74], argTypes := #[22] }, 3, _, _, some (4, false)⟩) rfl (fun K hK => ?_) AllReadyH.nil
                          rw [if_pos (by rfl)]
                          refine wp_callF 9 _ _ rfl Try.in9 #[.slice xa M.bk.length xk] (by simp [Act.eval]) (fun v w' => v = .int .i64 (fit M.bk : Int) ∧ w' = w5.drew) (HC8.out.mono fun e w' h => ⟨_, h.1, rfl, h.2⟩) ?_
                          rintro v w6 ⟨rfl, rfl⟩
                          refine hK.out _ _ hD0 fun hHeld7 => ?_
                          clear hK HC8
                          simp only [Act.put, List.setIfInBounds_toArray, List.set_cons_zero, List.set_cons_succ]
                          refine wpAnyH_take (i := 11) (oi := ⟨some 79, Op.binOp BinOp.lss 3 (Operand.tmp 75) (Operand.tmp 78) 3, 4, _, _, some (4, false)⟩) (v := .bool false) rfl (by kernel_rfl) (by kernel_rfl) (by kernel_rfl) (fun _ _ _ h => h) (Or.inl ⟨by rfl, fun w hS => by go_simp⟩) hHeld7 ?_
                          simp only [Act.put, List.setIfInBounds_toArray, List.set_cons_zero, List.set_cons_succ]
                          refine wpAnyH_take (i := 12) (oi := ⟨some 80, Op.pick (Operand.tmp 72) (Operand.const (Value.bool true)) (Operand.tmp 79), 4, _, _, none⟩) (v := .bool false) rfl (by kernel_rfl) (by kernel_rfl) (by kernel_rfl) (fun _ _ _ h => h) (Or.inl ⟨by rfl, fun w hS => by go_simp⟩) hHeld7 ?_
                          simp only [Act.put, List.setIfInBounds_toArray, List.set_cons_zero, List.set_cons_succ]
                          refine wpAnyH_take (i := 13) (oi := ⟨some 67, Op.assign (Operand.tmp 80), 4, _, _, none⟩) (v := .bool false) rfl (by kernel_rfl) (by kernel_rfl) (by kernel_rfl) (fun _ _ _ h => h) (Or.inl ⟨by rfl, fun w hS => by go_simp⟩) hHeld7 ?_
                          simp only [Act.put, List.setIfInBounds_toArray, List.set_cons_zero, List.set_cons_succ]
                          refine wpAnyH_done (by kernel_rfl) ?_ _
                          refine hK32 _ _ ?_
                          refine wp_cond_false rfl ?_
                          refine wp_skip ?_
                          refine hK3 _ _ ?_
                          refine wp_seq_k fun K34 hK34 => ?_
                          refine wp_region_list (WL.out ?_)
                          refine WL.val (by kernel_rfl) (.int .i64 0) (by go_simp) ?_
                          simp only [Act.put, List.setIfInBounds_toArray, List.set_cons_zero, List.set_cons_succ]
                          refine WL.nil ?_
                          refine hK34 _ _ ?_
                          refine wp_ret ?_
                          go_ret
                          first | exact ⟨by rw [HR.out]; (simp [*] <;> simp [hasI]), by rw [← HgE.out]; exact B2.out⟩ | exact ⟨by rw [HR.out]; (simp [*] <;> simp [hasI]), by rw [← HgE.out]; exact B3.out⟩ | exact ⟨by rw [HR.out]; (simp [*] <;> simp [hasI]), by rw [← HgE.out]; exact B4.out⟩ | exact ⟨by rw [HR.out]; (simp [*] <;> simp [hasI]), by rw [← HgE.out]; exact B5.out⟩ | exact ⟨by rw [HR.out]; (simp [*] <;> simp [hasI]), by rw [← HgE.out]; exact B5.out.drew⟩
                      · have HC7 := Keep.mk (areBlocks_any (.slice xa M.bk.length xk) M.bk w5.drew (by have h := HA5.out.bk; rw [E5.out] at h; exact h.below (Below.refl _ _).drew) (by have := HOk.out.bk; omega) (fun i hi => by have := HOk.out.rows i hi; omega))
                        rw [hO] at HC7
                        have hD0 : w5.drew.cell? ⟨g, 5, none⟩ = some (.slice xa M.bk.length xk) := g5
                        refine wp_region_held_drew (S := fun wx => wx.cell? ⟨g, 5, none⟩ = some (.slice xa M.bk.length xk)) (by kernel_rfl) (hD0) (fun hHeld => ?_)
                        refine wpAnyH_take (i := 0) (oi := ⟨some 68, Op.fieldAddr 32 (Operand.tmp 1) 5, 0, _, _, none⟩) (v := .pointer (some ⟨g, 5, none⟩)) rfl (by kernel_rfl) (by kernel_rfl) (by kernel_rfl) (fun _ _ _ h => h) (Or.inl ⟨by rfl, fun w hS => by go_simp⟩) hHeld ?_
                        simp only [Act.put, List.setIfInBounds_toArray, List.set_cons_zero, List.set_cons_succ]
                        refine wpAnyH_take (i := 1) (oi := ⟨some 69, Op.load 22 (Operand.tmp 68), 22, _, _, none⟩) (v := .slice xa M.bk.length xk) rfl (by kernel_rfl) (by kernel_rfl) (by kernel_rfl) (fun _ _ _ h => h) (Or.inl ⟨by rfl, fun w hS => by go_simp⟩) hHeld ?_
                        simp only [Act.put, List.setIfInBounds_toArray, List.set_cons_zero, List.set_cons_succ]
                        refine wpAnyH_ready (rs := [2]) (by kernel_rfl) (by simp) ?_
                        refine AllReadyH.cons (o := ⟨some 70, Op.call { callee := Callee.value (Operand.func 8), args := #[Operand.tmp 69], argTypes := #[22] }, 4, _, _, none⟩) rfl (fun K hK => ?_) AllReadyH.nil
                        rw [if_pos (by rfl)]
                        refine wp_callF 8 _ _ rfl Try.in8 #[.slice xa M.bk.length xk] (by simp [Act.eval]) (fun v w' => v = .bool false ∧ w' = w5.drew) (HC7.out.mono fun e w' h => ⟨_, h.1, rfl, h.2⟩) ?_
                        rintro v w6 ⟨rfl, rfl⟩
                        refine hK.out _ _ hD0 fun hHeld6 => ?_
                        clear hK HC7
                        simp only [Act.put, List.setIfInBounds_toArray, List.set_cons_zero, List.set_cons_succ]
                        refine wpAnyH_take (i := 3) (oi := ⟨some 71, Op.unOp UnOp.not 4 (Operand.tmp 70), 4, _, _, none⟩) (v := .bool true) rfl (by kernel_rfl) (by kernel_rfl) (by kernel_rfl) (fun _ _ _ h => h) (Or.inl ⟨by rfl, fun w hS => by go_simp⟩) hHeld6 ?_
                        simp only [Act.put, List.setIfInBounds_toArray, List.set_cons_zero, List.set_cons_succ]
                        refine wpAnyH_take (i := 4) (oi := ⟨some 72, Op.move (Operand.tmp 71), 4, _, _, none⟩) (v := .bool true) rfl (by kernel_rfl) (by kernel_rfl) (by kernel_rfl) (fun _ _ _ h => h) (Or.inl ⟨by rfl, fun w hS => by go_simp⟩) hHeld6 ?_
                        simp only [Act.put, List.setIfInBounds_toArray, List.set_cons_zero, List.set_cons_succ]
                        refine wpAnyH_take (i := 5) (oi := ⟨some 73, Op.fieldAddr 32 (Operand.tmp 1) 5, 0, _, _, some (4, false)⟩) (v := undef) rfl (by kernel_rfl) (by kernel_rfl) (by kernel_rfl) (fun _ _ _ h => h) (Or.inr ⟨by rfl, rfl⟩) hHeld6 ?_
                        simp only [Act.put, List.setIfInBounds_toArray, List.set_cons_zero, List.set_cons_succ]
                        refine wpAnyH_take (i := 6) (oi := ⟨some 74, Op.load 22 (Operand.tmp 73), 22, _, _, some (4, false)⟩) (v := undef) rfl (by kernel_rfl) (by kernel_rfl) (by kernel_rfl) (fun _ _ _ h => h) (Or.inr ⟨by rfl, rfl⟩) hHeld6 ?_
                        simp only [Act.put, List.setIfInBounds_toArray, List.set_cons_zero, List.set_cons_succ]
                        refine wpAnyH_take (i := 7) (oi := ⟨some 75, Op.call { callee := Callee.value (Operand.func 9), args := #[Operand.tmp 74], argTypes := #[22] }, 3, _, _, some (4, false)⟩) (v := undef) rfl (by kernel_rfl) (by kernel_rfl) (by kernel_rfl) (fun _ _ _ h => h) (Or.inr ⟨by rfl, rfl⟩) hHeld6 ?_
                        simp only [Act.put, List.setIfInBounds_toArray, List.set_cons_zero, List.set_cons_succ]
                        refine wpAnyH_take (i := 8) (oi := ⟨some 76, Op.fieldAddr 32 (Operand.tmp 1) 5, 0, _, _, some (4, false)⟩) (v := undef) rfl (by kernel_rfl) (by kernel_rfl) (by kernel_rfl) (fun _ _ _ h => h) (Or.inr ⟨by rfl, rfl⟩) hHeld6 ?_
                        simp only [Act.put, List.setIfInBounds_toArray, List.set_cons_zero, List.set_cons_succ]
                        refine wpAnyH_take (i := 9) (oi := ⟨some 77, Op.load 22 (Operand.tmp 76), 22, _, _, some (4, false)⟩) (v := undef) rfl (by kernel_rfl) (by kernel_rfl) (by kernel_rfl) (fun _ _ _ h => h) (Or.inr ⟨by rfl, rfl⟩) hHeld6 ?_
                        simp only [Act.put, List.setIfInBounds_toArray, List.set_cons_zero, List.set_cons_succ]
                        refine wpAnyH_take (i := 10) (oi := ⟨some 78, Op.call { callee := Callee.builtin Builtin.len, args := #[Operand.tmp 77], argTypes := #[22] }, 3, _, _, some (4, false)⟩) (v := undef) rfl (by kernel_rfl) (by kernel_rfl) (by kernel_rfl) (fun _ _ _ h => h) (Or.inr ⟨by rfl, rfl⟩) hHeld6 ?_
                        simp only [Act.put, List.setIfInBounds_toArray, List.set_cons_zero, List.set_cons_succ]
                        refine wpAnyH_take (i := 11) (oi := ⟨some 79, Op.binOp BinOp.lss 3 (Operand.tmp 75) (Operand.tmp 78) 3, 4, _, _, some (4, false)⟩) (v := undef) rfl (by kernel_rfl) (by kernel_rfl) (by kernel_rfl) (fun _ _ _ h => h) (Or.inr ⟨by rfl, rfl⟩) hHeld6 ?_
                        simp only [Act.put, List.setIfInBounds_toArray, List.set_cons_zero, List.set_cons_succ]
                        refine wpAnyH_take (i := 12) (oi := ⟨some 80, Op.pick (Operand.tmp 72) (Operand.const (Value.bool true)) (Operand.tmp 79), 4, _, _, none⟩) (v := .bool true) rfl (by kernel_rfl) (by kernel_rfl) (by kernel_rfl) (fun _ _ _ h => h) (Or.inl ⟨by rfl, fun w hS => by go_simp⟩) hHeld6 ?_
                        simp only [Act.put, List.setIfInBounds_toArray, List.set_cons_zero, List.set_cons_succ]
                        refine wpAnyH_take (i := 13) (oi := ⟨some 67, Op.assign (Operand.tmp 80), 4, _, _, none⟩) (v := .bool true) rfl (by kernel_rfl) (by kernel_rfl) (by kernel_rfl) (fun _ _ _ h => h) (Or.inl ⟨by rfl, fun w hS => by go_simp⟩) hHeld6 ?_
                        simp only [Act.put, List.setIfInBounds_toArray, List.set_cons_zero, List.set_cons_succ]
                        refine wpAnyH_done (by kernel_rfl) ?_ _
                        refine hK32 _ _ ?_
                        refine wp_cond_true rfl ?_
                        refine wp_seq_k fun K35 hK35 => ?_
                        refine wp_region_list (WL.out ?_)
                        refine WL.val (by kernel_rfl) (.int .i64 4) (by go_simp) ?_
                        simp only [Act.put, List.setIfInBounds_toArray, List.set_cons_zero, List.set_cons_succ]
                        refine WL.nil ?_
                        refine hK35 _ _ ?_
                        refine wp_ret ?_
                        go_ret
                        first | exact ⟨by rw [HR.out]; (simp [*] <;> simp [hasI]), by rw [← HgE.out]; exact B2.out⟩ | exact ⟨by rw [HR.out]; (simp [*] <;> simp [hasI]), by rw [← HgE.out]; exact B3.out⟩ | exact ⟨by rw [HR.out]; (simp [*] <;> simp [hasI]), by rw [← HgE.out]; exact B4.out⟩ | exact ⟨by rw [HR.out]; (simp [*] <;> simp [hasI]), by rw [← HgE.out]; exact B5.out⟩ | exact ⟨by rw [HR.out]; (simp [*] <;> simp [hasI]), by rw [← HgE.out]; exact B5.out.drew⟩
                  · have HC6 := Keep.mk (right_any (.slice ba M.bl.length bk) M.bl w5 (by have h := HA5.out.bl; rw [E3.out] at h; exact h))
                    rw [hP] at HC6
                    refine wp_region_list (WL.out ?_)
                    refine WL.val (by kernel_rfl) (.pointer (some ⟨g, 0, none⟩)) (by go_simp) ?_
                    simp only [Act.put, List.setIfInBounds_toArray, List.set_cons_zero, List.set_cons_succ]
                    refine WL.val (by kernel_rfl) (.int .i64 M.k) (by go_simp) ?_
                    simp only [Act.put, List.setIfInBounds_toArray, List.set_cons_zero, List.set_cons_succ]
                    by_cases h12_2 : M.k = 1
                    · skip
                      refine WL.val (by kernel_rfl) (.bool true) (by go_simp) ?_
                      simp only [Act.put, List.setIfInBounds_toArray, List.set_cons_zero, List.set_cons_succ]
                      refine WL.val (by kernel_rfl) (.bool true) (by go_simp) ?_
                      simp only [Act.put, List.setIfInBounds_toArray, List.set_cons_zero, List.set_cons_succ]
                      refine WL.val (by kernel_rfl) (.pointer (some ⟨g, 3, none⟩)) (by go_simp) ?_
                      simp only [Act.put, List.setIfInBounds_toArray, List.set_cons_zero, List.set_cons_succ]
                      refine WL.val (by kernel_rfl) (.slice ba M.bl.length bk) (by go_simp) ?_
                      simp only [Act.put, List.setIfInBounds_toArray, List.set_cons_zero, List.set_cons_succ]
                      refine WL.callF (by kernel_rfl) 16 _ _ rfl Try.in16 #[.slice ba M.bl.length bk] (by simp [Act.eval]) ?_
                      refine (HC6.out).mono ?_
                      rintro e w0 ⟨rfl, hw0⟩
                      rw [hw0]
                      clear hw0 w0
                      refine ⟨_, rfl, ?_⟩
                      simp only [Act.put, List.setIfInBounds_toArray, List.set_cons_zero, List.set_cons_succ]
                      refine WL.val (by kernel_rfl) (.bool true) (by go_simp) ?_
                      simp only [Act.put, List.setIfInBounds_toArray, List.set_cons_zero, List.set_cons_succ]
                      refine WL.val (by kernel_rfl) (.bool true) (by go_simp) ?_
                      simp only [Act.put, List.setIfInBounds_toArray, List.set_cons_zero, List.set_cons_succ]
                      refine WL.val (by kernel_rfl) (.bool true) (by go_simp) ?_
                      simp only [Act.put, List.setIfInBounds_toArray, List.set_cons_zero, List.set_cons_succ]
                      refine WL.nil ?_
                      refine hK27 _ _ ?_
                      refine wp_cond_true rfl ?_
                      refine wp_seq_k fun K36 hK36 => ?_
                      refine wp_region_list (WL.out ?_)
                      refine WL.val (by kernel_rfl) (.int .i64 60) (by go_simp) ?_
                      simp only [Act.put, List.setIfInBounds_toArray, List.set_cons_zero, List.set_cons_succ]
                      refine WL.nil ?_
                      refine hK36 _ _ ?_
                      refine wp_ret ?_
                      go_ret
                      first | exact ⟨by rw [HR.out]; (simp [*] <;> simp [hasI]), by rw [← HgE.out]; exact B2.out⟩ | exact ⟨by rw [HR.out]; (simp [*] <;> simp [hasI]), by rw [← HgE.out]; exact B3.out⟩ | exact ⟨by rw [HR.out]; (simp [*] <;> simp [hasI]), by rw [← HgE.out]; exact B4.out⟩ | exact ⟨by rw [HR.out]; (simp [*] <;> simp [hasI]), by rw [← HgE.out]; exact B5.out⟩ | exact ⟨by rw [HR.out]; (simp [*] <;> simp [hasI]), by rw [← HgE.out]; exact B5.out.drew⟩
                    · skip
                      refine WL.val (by kernel_rfl) (.bool false) (by go_simp) ?_
                      simp only [Act.put, List.setIfInBounds_toArray, List.set_cons_zero, List.set_cons_succ]
                      refine WL.val (by kernel_rfl) (.bool false) (by go_simp) ?_
                      simp only [Act.put, List.setIfInBounds_toArray, List.set_cons_zero, List.set_cons_succ]
                      refine WL.skip (by kernel_rfl) ?_
                      simp only [Act.put, List.setIfInBounds_toArray, List.set_cons_zero, List.set_cons_succ]
                      refine WL.skip (by kernel_rfl) ?_
                      simp only [Act.put, List.setIfInBounds_toArray, List.set_cons_zero, List.set_cons_succ]
                      refine WL.skip (by kernel_rfl) ?_
                      simp only [Act.put, List.setIfInBounds_toArray, List.set_cons_zero, List.set_cons_succ]
                      refine WL.skip (by kernel_rfl) ?_
                      simp only [Act.put, List.setIfInBounds_toArray, List.set_cons_zero, List.set_cons_succ]
                      refine WL.val (by kernel_rfl) (.bool false) (by go_simp) ?_
                      simp only [Act.put, List.setIfInBounds_toArray, List.set_cons_zero, List.set_cons_succ]
                      refine WL.val (by kernel_rfl) (.bool false) (by go_simp) ?_
                      simp only [Act.put, List.setIfInBounds_toArray, List.set_cons_zero, List.set_cons_succ]
                      refine WL.nil ?_
                      refine hK27 _ _ ?_
                      refine wp_cond_false rfl ?_
                      refine wp_seq_k fun K37 hK37 => ?_
                      rcases Bool.eq_false_or_eq_true (okR M.bk) with hO | hO
                      · have HC7 := Keep.mk (areBlocks_any (.slice xa M.bk.length xk) M.bk w5.drew (by have h := HA5.out.bk; rw [E5.out] at h; exact h.below (Below.refl _ _).drew) (by have := HOk.out.bk; omega) (fun i hi => by have := HOk.out.rows i hi; omega))
                        rw [hO] at HC7
                        have hD0 : w5.drew.cell? ⟨g, 5, none⟩ = some (.slice xa M.bk.length xk) := g5
                        have HC8 := Keep.mk (fitting_any (.slice xa M.bk.length xk) M.bk w5.drew (by have h := HA5.out.bk; rw [E5.out] at h; exact h.below (Below.refl _ _).drew) (by have := HOk.out.bk; omega) (fun i hi => ((okR_iff _).1 hO i hi).2))
                        by_cases hF : fit M.bk < M.bk.length
                        · have hFi : (fit M.bk : Int) < (M.bk.length : Int) := by omega
                          refine wp_region_held_drew (S := fun wx => wx.cell? ⟨g, 5, none⟩ = some (.slice xa M.bk.length xk)) (by kernel_rfl) (hD0) (fun hHeld => ?_)
                          refine wpAnyH_take (i := 0) (oi := ⟨some 68, Op.fieldAddr 32 (Operand.tmp 1) 5, 0, _, _, none⟩) (v := .pointer (some ⟨g, 5, none⟩)) rfl (by kernel_rfl) (by kernel_rfl) (by kernel_rfl) (fun _ _ _ h => h) (Or.inl ⟨by rfl, fun w hS => by go_simp⟩) hHeld ?_
                          simp only [Act.put, List.setIfInBounds_toArray, List.set_cons_zero, List.set_cons_succ]
                          refine wpAnyH_take (i := 1) (oi := ⟨some 69, Op.load 22 (Operand.tmp 68), 22, _, _, none⟩) (v := .slice xa M.bk.length xk) rfl (by kernel_rfl) (by kernel_rfl) (by kernel_rfl) (fun _ _ _ h => h) (Or.inl ⟨by rfl, fun w hS => by go_simp⟩) hHeld ?_
                          simp only [Act.put, List.setIfInBounds_toArray, List.set_cons_zero, List.set_cons_succ]
                          refine wpAnyH_ready (rs := [2]) (by kernel_rfl) (by simp) ?_
                          refine AllReadyH.cons (o := ⟨some 70, Op.call { callee := Callee.value (Operand.func 8), args := #[Operand.tmp 69], argTypes := #[22] }, 4, _, _, none⟩) rfl (fun K hK => ?_) AllReadyH.nil
                          rw [if_pos (by rfl)]
                          refine wp_callF 8 _ _ rfl Try.in8 #[.slice xa M.bk.length xk] (by simp [Act.eval]) (fun v w' => v = .bool true ∧ w' = w5.drew) (HC7.out.mono fun e w' h => ⟨_, h.1, rfl, h.2⟩) ?_
                          rintro v w6 ⟨rfl, rfl⟩
                          refine hK.out _ _ hD0 fun hHeld6 => ?_
                          clear hK HC7
                          simp only [Act.put, List.setIfInBounds_toArray, List.set_cons_zero, List.set_cons_succ]
                          refine wpAnyH_take (i := 3) (oi := ⟨some 71, Op.unOp UnOp.not 4 (Operand.tmp 70), 4, _, _, none⟩) (v := .bool false) rfl (by kernel_rfl) (by kernel_rfl) (by kernel_rfl) (fun _ _ _ h => h) (Or.inl ⟨by rfl, fun w hS => by go_simp⟩) hHeld6 ?_
                          simp only [Act.put, List.setIfInBounds_toArray, List.set_cons_zero, List.set_cons_succ]
                          refine wpAnyH_take (i := 4) (oi := ⟨some 72, Op.move (Operand.tmp 71), 4, _, _, none⟩) (v := .bool false) rfl (by kernel_rfl) (by kernel_rfl) (by kernel_rfl) (fun _ _ _ h => h) (Or.inl ⟨by rfl, fun w hS => by go_simp⟩) hHeld6 ?_
                          simp only [Act.put, List.setIfInBounds_toArray, List.set_cons_zero, List.set_cons_succ]
                          refine wpAnyH_take (i := 5) (oi := ⟨some 73, Op.fieldAddr 32 (Operand.tmp 1) 5, 0, _, _, some (4, false)⟩) (v := .pointer (some ⟨g, 5, none⟩)) rfl (by kernel_rfl) (by kernel_rfl) (by kernel_rfl) (fun _ _ _ h => h) (Or.inl ⟨by rfl, fun w hS => by go_simp⟩) hHeld6 ?_
                          simp only [Act.put, List.setIfInBounds_toArray, List.set_cons_zero, List.set_cons_succ]
                          refine wpAnyH_take (i := 6) (oi := ⟨some 74, Op.load 22 (Operand.tmp 73), 22, _, _, some (4, false)⟩) (v := .slice xa M.bk.length xk) rfl (by kernel_rfl) (by kernel_rfl) (by kernel_rfl) (fun _ _ _ h => h) (Or.inl ⟨by rfl, fun w hS => by go_simp⟩) hHeld6 ?_
                          simp only [Act.put, List.setIfInBounds_toArray, List.set_cons_zero, List.set_cons_succ]
                          refine wpAnyH_take (i := 8) (oi := ⟨some 76, Op.fieldAddr 32 (Operand.tmp 1) 5, 0, _, _, some (4, false)⟩) (v := .pointer (some ⟨g, 5, none⟩)) rfl (by kernel_rfl) (by kernel_rfl) (by kernel_rfl) (fun _ _ _ h => h) (Or.inl ⟨by rfl, fun w hS => by go_simp⟩) hHeld6 ?_
                          simp only [Act.put, List.setIfInBounds_toArray, List.set_cons_zero, List.set_cons_succ]
                          refine wpAnyH_take (i := 9) (oi := ⟨some 77, Op.load 22 (Operand.tmp 76), 22, _, _, some (4, false)⟩) (v := .slice xa M.bk.length xk) rfl (by kernel_rfl) (by kernel_rfl) (by kernel_rfl) (fun _ _ _ h => h) (Or.inl ⟨by rfl, fun w hS => by go_simp⟩) hHeld6 ?_
                          simp only [Act.put, List.setIfInBounds_toArray, List.set_cons_zero, List.set_cons_succ]
                          refine wpAnyH_take (i := 10) (oi := ⟨some 78, Op.call { callee := Callee.builtin Builtin.len, args := #[Operand.tmp 77], argTypes := #[22] }, 3, _, _, some (4, false)⟩) (v := .int .i64 (M.bk.length : Int)) rfl (by kernel_rfl) (by kernel_rfl) (by kernel_rfl) (fun _ _ _ h => h) (Or.inl ⟨by rfl, fun w hS => by go_simp⟩) hHeld6 ?_
                          simp only [Act.put, List.setIfInBounds_toArray, List.set_cons_zero, List.set_cons_succ]
                          refine wpAnyH_ready (rs := [7]) (by kernel_rfl) (by simp) ?_
                          refine AllReadyH.cons (o := ⟨some 75, Op.call { callee := Callee.value (Operand.func 9), args := #[Operand.tmp 74], argTypes := #[22] }, 3, _, _, some (4, false)⟩) rfl (fun K hK => ?_) AllReadyH.nil
                          rw [if_pos (by rfl)]
                          refine wp_callF 9 _ _ rfl Try.in9 #[.slice xa M.bk.length xk] (by simp [Act.eval]) (fun v w' => v = .int .i64 (fit M.bk : Int) ∧ w' = w5.drew) (HC8.out.mono fun e w' h => ⟨_, h.1, rfl, h.2⟩) ?_
                          rintro v w6 ⟨rfl, rfl⟩
                          refine hK.out _ _ hD0 fun hHeld7 => ?_
                          clear hK HC8
                          simp only [Act.put, List.setIfInBounds_toArray, List.set_cons_zero, List.set_cons_succ]
                          refine wpAnyH_take (i := 11) (oi := ⟨some 79, Op.binOp BinOp.lss 3 (Operand.tmp 75) (Operand.tmp 78) 3, 4, _, _, some (4, false)⟩) (v := .bool true) rfl (by kernel_rfl) (by kernel_rfl) (by kernel_rfl) (fun _ _ _ h => h) (Or.inl ⟨by rfl, fun w hS => by go_simp⟩) hHeld7 ?_
                          simp only [Act.put, List.setIfInBounds_toArray, List.set_cons_zero, List.set_cons_succ]
                          refine wpAnyH_take (i := 12) (oi := ⟨some 80, Op.pick (Operand.tmp 72) (Operand.const (Value.bool true)) (Operand.tmp 79), 4, _, _, none⟩) (v := .bool true) rfl (by kernel_rfl) (by kernel_rfl) (by kernel_rfl) (fun _ _ _ h => h) (Or.inl ⟨by rfl, fun w hS => by go_simp⟩) hHeld7 ?_
                          simp only [Act.put, List.setIfInBounds_toArray, List.set_cons_zero, List.set_cons_succ]
                          refine wpAnyH_take (i := 13) (oi := ⟨some 67, Op.assign (Operand.tmp 80), 4, _, _, none⟩) (v := .bool true) rfl (by kernel_rfl) (by kernel_rfl) (by kernel_rfl) (fun _ _ _ h => h) (Or.inl ⟨by rfl, fun w hS => by go_simp⟩) hHeld7 ?_
                          simp only [Act.put, List.setIfInBounds_toArray, List.set_cons_zero, List.set_cons_succ]
                          refine wpAnyH_done (by kernel_rfl) ?_ _
                          refine hK37 _ _ ?_
                          refine wp_cond_true rfl ?_
                          refine wp_seq_k fun K38 hK38 => ?_
                          refine wp_region_list (WL.out ?_)
                          refine WL.val (by kernel_rfl) (.int .i64 4) (by go_simp) ?_
                          simp only [Act.put, List.setIfInBounds_toArray, List.set_cons_zero, List.set_cons_succ]
                          refine WL.nil ?_
                          refine hK38 _ _ ?_
                          refine wp_ret ?_
                          go_ret
                          first | exact ⟨by rw [HR.out]; (simp [*] <;> simp [hasI]), by rw [← HgE.out]; exact B2.out⟩ | exact ⟨by rw [HR.out]; (simp [*] <;> simp [hasI]), by rw [← HgE.out]; exact B3.out⟩ | exact ⟨by rw [HR.out]; (simp [*] <;> simp [hasI]), by rw [← HgE.out]; exact B4.out⟩ | exact ⟨by rw [HR.out]; (simp [*] <;> simp [hasI]), by rw [← HgE.out]; exact B5.out⟩ | exact ⟨by rw [HR.out]; (simp [*] <;> simp [hasI]), by rw [← HgE.out]; exact B5.out.drew⟩
                        · have hFi : ¬ (fit M.bk : Int) < (M.bk.length : Int) := by omega
                          refine wp_region_held_drew (S := fun wx => wx.cell? ⟨g, 5, none⟩ = some (.slice xa M.bk.length xk)) (by kernel_rfl) (hD0) (fun hHeld => ?_)
                          refine wpAnyH_take (i := 0) (oi := ⟨some 68, Op.fieldAddr 32 (Operand.tmp 1) 5, 0, _, _, none⟩) (v := .pointer (some ⟨g, 5, none⟩)) rfl (by kernel_rfl) (by kernel_rfl) (by kernel_rfl) (fun _ _ _ h => h) (Or.inl ⟨by rfl, fun w hS => by go_simp⟩) hHeld ?_
                          simp only [Act.put, List.setIfInBounds_toArray, List.set_cons_zero, List.set_cons_succ]
                          refine wpAnyH_take (i := 1) (oi := ⟨some 69, Op.load 22 (Operand.tmp 68), 22, _, _, none⟩) (v := .slice xa M.bk.length xk) rfl (by kernel_rfl) (by kernel_rfl) (by kernel_rfl) (fun _ _ _ h => h) (Or.inl ⟨by rfl, fun w hS => by go_simp⟩) hHeld ?_
                          simp only [Act.put, List.setIfInBounds_toArray, List.set_cons_zero, List.set_cons_succ]
                          refine wpAnyH_ready (rs := [2]) (by kernel_rfl) (by simp) ?_
                          refine AllReadyH.cons (o := ⟨some 70, Op.call { callee := Callee.value (Operand.func 8), args := #[Operand.tmp 69], argTypes := #[22] }, 4, _, _, none⟩) rfl (fun K hK => ?_) AllReadyH.nil
                          rw [if_pos (by rfl)]
                          refine wp_callF 8 _ _ rfl Try.in8 #[.slice xa M.bk.length xk] (by simp [Act.eval]) (fun v w' => v = .bool true ∧ w' = w5.drew) (HC7.out.mono fun e w' h => ⟨_, h.1, rfl, h.2⟩) ?_
                          rintro v w6 ⟨rfl, rfl⟩
                          refine hK.out _ _ hD0 fun hHeld6 => ?_
                          clear hK HC7
                          simp only [Act.put, List.setIfInBounds_toArray, List.set_cons_zero, List.set_cons_succ]
                          refine wpAnyH_take (i := 3) (oi := ⟨some 71, Op.unOp UnOp.not 4 (Operand.tmp 70), 4, _, _, none⟩) (v := .bool false) rfl (by kernel_rfl) (by kernel_rfl) (by kernel_rfl) (fun _ _ _ h => h) (Or.inl ⟨by rfl, fun w hS => by go_simp⟩) hHeld6 ?_
                          simp only [Act.put, List.setIfInBounds_toArray, List.set_cons_zero, List.set_cons_succ]
                          refine wpAnyH_take (i := 4) (oi := ⟨some 72, Op.move (Operand.tmp 71), 4, _, _, none⟩) (v := .bool false) rfl (by kernel_rfl) (by kernel_rfl) (by kernel_rfl) (fun _ _ _ h => h) (Or.inl ⟨by rfl, fun w hS => by go_simp⟩) hHeld6 ?_
                          simp only [Act.put, List.setIfInBounds_toArray, List.set_cons_zero, List.set_cons_succ]
                          refine wpAnyH_take (i := 5) (oi := ⟨some 73, Op.fieldAddr 32 (Operand.tmp 1) 5, 0, _, _, some (4, false)⟩) (v := .pointer (some ⟨g, 5, none⟩)) rfl (by kernel_rfl) (by kernel_rfl) (by kernel_rfl) (fun _ _ _ h => h) (Or.inl ⟨by rfl, fun w hS => by go_simp⟩) hHeld6 ?_
                          simp only [Act.put, List.setIfInBounds_toArray, List.set_cons_zero, List.set_cons_succ]
                          refine wpAnyH_take (i := 6) (oi := ⟨some 74, Op.load 22 (Operand.tmp 73), 22, _, _, some (4, false)⟩) (v := .slice xa M.bk.length xk) rfl (by kernel_rfl) (by kernel_rfl) (by kernel_rfl) (fun _ _ _ h => h) (Or.inl ⟨by rfl, fun w hS => by go_simp⟩) hHeld6 ?_
                          simp only [Act.put, List.setIfInBounds_toArray, List.set_cons_zero, List.set_cons_succ]
                          refine wpAnyH_take (i := 8) (oi := ⟨some 76, Op.fieldAddr 32 (Operand.tmp 1) 5, 0, _, _, some (4, false)⟩) (v := .pointer (some ⟨g, 5, none⟩)) rfl (by kernel_rfl) (by kernel_rfl) (by kernel_rfl) (fun _ _ _ h => h) (Or.inl ⟨by rfl, fun w hS => by go_simp⟩) hHeld6 ?_
                          simp only [Act.put, List.setIfInBounds_toArray, List.set_cons_zero, List.set_cons_succ]
                          refine wpAnyH_take (i := 9) (oi := ⟨some 77, Op.load 22 (Operand.tmp 76), 22, _, _, some (4, false)⟩) (v := .slice xa M.bk.length xk) rfl (by kernel_rfl) (by kernel_rfl) (by kernel_rfl) (fun _ _ _ h => h) (Or.inl ⟨by rfl, fun w hS => by go_simp⟩) hHeld6 ?_
                          simp only [Act.put, List.setIfInBounds_toArray, List.set_cons_zero, List.set_cons_succ]
                          refine wpAnyH_take (i := 10) (oi := ⟨some 78, Op.call { callee := Callee.builtin Builtin.len, args := #[Operand.tmp 77], argTypes := #[22] }, 3, _, _, some (4, false)⟩) (v := .int .i64 (M.bk.length : Int)) rfl (by kernel_rfl) (by kernel_rfl) (by kernel_rfl) (fun _ _ _ h => h) (Or.inl ⟨by rfl, fun w hS => by go_simp⟩) hHeld6 ?_
                          simp only [Act.put, List.setIfInBounds_toArray, List.set_cons_zero, List.set_cons_succ]
                          refine wpAnyH_ready (rs := [7]) (by kernel_rfl) (by simp) ?_
                          refine AllReadyH.cons (o := ⟨some 75, Op.call { callee := Callee.value (Operand.func 9), args := #[Operand.tmp 74], argTypes := #[22] }, 3, _, _, some (4, false)⟩) rfl (fun K hK => ?_) AllReadyH.nil
                          rw [if_pos (by rfl)]
                          refine wp_callF 9 _ _ rfl Try.in9 #[.slice xa M.bk.length xk] (by simp [Act.eval]) (fun v w' => v = .int .i64 (fit M.bk : Int) ∧ w' = w5.drew) (HC8.out.mono fun e w' h => ⟨_, h.1, rfl, h.2⟩) ?_
                          rintro v w6 ⟨rfl, rfl⟩
                          refine hK.out _ _ hD0 fun hHeld7 => ?_
                          clear hK HC8
                          simp only [Act.put, List.setIfInBounds_toArray, List.set_cons_zero, List.set_cons_succ]
                          refine wpAnyH_take (i := 11) (oi := ⟨some 79, Op.binOp BinOp.lss 3 (Operand.tmp 75) (Operand.tmp 78) 3, 4, _, _, some (4, false)⟩) (v := .bool false) rfl (by kernel_rfl) (by kernel_rfl) (by kernel_rfl) (fun _ _ _ h => h) (Or.inl ⟨by rfl, fun w hS => by go_simp⟩) hHeld7 ?_
                          simp only [Act.put, List.setIfInBounds_toArray, List.set_cons_zero, List.set_cons_succ]
                          refine wpAnyH_take (i := 12) (oi := ⟨some 80, Op.pick (Operand.tmp 72) (Operand.const (Value.bool true)) (Operand.tmp 79), 4, _, _, none⟩) (v := .bool false) rfl (by kernel_rfl) (by kernel_rfl) (by kernel_rfl) (fun _ _ _ h => h) (Or.inl ⟨by rfl, fun w hS => by go_simp⟩) hHeld7 ?_
                          simp only [Act.put, List.setIfInBounds_toArray, List.set_cons_zero, List.set_cons_succ]
                          refine wpAnyH_take (i := 13) (oi := ⟨some 67, Op.assign (Operand.tmp 80), 4, _, _, none⟩) (v := .bool false) rfl (by kernel_rfl) (by kernel_rfl) (by kernel_rfl) (fun _ _ _ h => h) (Or.inl ⟨by rfl, fun w hS => by go_simp⟩) hHeld7 ?_
                          simp only [Act.put, List.setIfInBounds_toArray, List.set_cons_zero, List.set_cons_succ]
                          refine wpAnyH_done (by kernel_rfl) ?_ _
                          refine hK37 _ _ ?_
                          refine wp_cond_false rfl ?_
                          refine wp_skip ?_
                          refine hK3 _ _ ?_
                          refine wp_seq_k fun K39 hK39 => ?_
                          refine wp_region_list (WL.out ?_)
                          refine WL.val (by kernel_rfl) (.int .i64 0) (by go_simp) ?_
                          simp only [Act.put, List.setIfInBounds_toArray, List.set_cons_zero, List.set_cons_succ]
                          refine WL.nil ?_
                          refine hK39 _ _ ?_
                          refine wp_ret ?_
                          go_ret
                          first | exact ⟨by rw [HR.out]; (simp [*] <;> simp [hasI]), by rw [← HgE.out]; exact B2.out⟩ | exact ⟨by rw [HR.out]; (simp [*] <;> simp [hasI]), by rw [← HgE.out]; exact B3.out⟩ | exact ⟨by rw [HR.out]; (simp [*] <;> simp [hasI]), by rw [← HgE.out]; exact B4.out⟩ | exact ⟨by rw [HR.out]; (simp [*] <;> simp [hasI]), by rw [← HgE.out]; exact B5.out⟩ | exact ⟨by rw [HR.out]; (simp [*] <;> simp [hasI]), by rw [← HgE.out]; exact B5.out.drew⟩
                      · have HC7 := Keep.mk (areBlocks_any (.slice xa M.bk.length xk) M.bk w5.drew (by have h := HA5.out.bk; rw [E5.out] at h; exact h.below (Below.refl _ _).drew) (by have := HOk.out.bk; omega) (fun i hi => by have := HOk.out.rows i hi; omega))
                        rw [hO] at HC7
                        have hD0 : w5.drew.cell? ⟨g, 5, none⟩ = some (.slice xa M.bk.length xk) := g5
                        refine wp_region_held_drew (S := fun wx => wx.cell? ⟨g, 5, none⟩ = some (.slice xa M.bk.length xk)) (by kernel_rfl) (hD0) (fun hHeld => ?_)
                        refine wpAnyH_take (i := 0) (oi := ⟨some 68, Op.fieldAddr 32 (Operand.tmp 1) 5, 0, _, _, none⟩) (v := .pointer (some ⟨g, 5, none⟩)) rfl (by kernel_rfl) (by kernel_rfl) (by kernel_rfl) (fun _ _ _ h => h) (Or.inl ⟨by rfl, fun w hS => by go_simp⟩) hHeld ?_
                        simp only [Act.put, List.setIfInBounds_toArray, List.set_cons_zero, List.set_cons_succ]
                        refine wpAnyH_take (i := 1) (oi := ⟨some 69, Op.load 22 (Operand.tmp 68), 22, _, _, none⟩) (v := .slice xa M.bk.length xk) rfl (by kernel_rfl) (by kernel_rfl) (by kernel_rfl) (fun _ _ _ h => h) (Or.inl ⟨by rfl, fun w hS => by go_simp⟩) hHeld ?_
                        simp only [Act.put, List.setIfInBounds_toArray, List.set_cons_zero, List.set_cons_succ]
                        refine wpAnyH_ready (rs := [2]) (by kernel_rfl) (by simp) ?_
                        refine AllReadyH.cons (o := ⟨some 70, Op.call { callee := Callee.value (Operand.func 8), args := #[Operand.tmp 69], argTypes := #[22] }, 4, _, _, none⟩) rfl (fun K hK => ?_) AllReadyH.nil
                        rw [if_pos (by rfl)]
                        refine wp_callF 8 _ _ rfl Try.in8 #[.slice xa M.bk.length xk] (by simp [Act.eval]) (fun v w' => v = .bool false ∧ w' = w5.drew) (HC7.out.mono fun e w' h => ⟨_, h.1, rfl, h.2⟩) ?_
                        rintro v w6 ⟨rfl, rfl⟩
                        refine hK.out _ _ hD0 fun hHeld6 => ?_
                        clear hK HC7
                        simp only [Act.put, List.setIfInBounds_toArray, List.set_cons_zero, List.set_cons_succ]
                        refine wpAnyH_take (i := 3) (oi := ⟨some 71, Op.unOp UnOp.not 4 (Operand.tmp 70), 4, _, _, none⟩) (v := .bool true) rfl (by kernel_rfl) (by kernel_rfl) (by kernel_rfl) (fun _ _ _ h => h) (Or.inl ⟨by rfl, fun w hS => by go_simp⟩) hHeld6 ?_
                        simp only [Act.put, List.setIfInBounds_toArray, List.set_cons_zero, List.set_cons_succ]
                        refine wpAnyH_take (i := 4) (oi := ⟨some 72, Op.move (Operand.tmp 71), 4, _, _, none⟩) (v := .bool true) rfl (by kernel_rfl) (by kernel_rfl) (by kernel_rfl) (fun _ _ _ h => h) (Or.inl ⟨by rfl, fun w hS => by go_simp⟩) hHeld6 ?_
                        simp only [Act.put, List.setIfInBounds_toArray, List.set_cons_zero, List.set_cons_succ]
                        refine wpAnyH_take (i := 5) (oi := ⟨some 73, Op.fieldAddr 32 (Operand.tmp 1) 5, 0, _, _, some (4, false)⟩) (v := undef) rfl (by kernel_rfl) (by kernel_rfl) (by kernel_rfl) (fun _ _ _ h => h) (Or.inr ⟨by rfl, rfl⟩) hHeld6 ?_
                        simp only [Act.put, List.setIfInBounds_toArray, List.set_cons_zero, List.set_cons_succ]
                        refine wpAnyH_take (i := 6) (oi := ⟨some 74, Op.load 22 (Operand.tmp 73), 22, _, _, some (4, false)⟩) (v := undef) rfl (by kernel_rfl) (by kernel_rfl) (by kernel_rfl) (fun _ _ _ h => h) (Or.inr ⟨by rfl, rfl⟩) hHeld6 ?_
                        simp only [Act.put, List.setIfInBounds_toArray, List.set_cons_zero, List.set_cons_succ]
                        refine wpAnyH_take (i := 7) (oi := ⟨some 75, Op.call { callee := Callee.value (Operand.func 9), args := #[Operand.tmp 74], argTypes := #[22] }, 3, _, _, some (4, false)⟩) (v := undef) rfl (by kernel_rfl) (by kernel_rfl) (by kernel_rfl) (fun _ _ _ h => h) (Or.inr ⟨by rfl, rfl⟩) hHeld6 ?_
                        simp only [Act.put, List.setIfInBounds_toArray, List.set_cons_zero, List.set_cons_succ]
                        refine wpAnyH_take (i := 8) (oi := ⟨some 76, Op.fieldAddr 32 (Operand.tmp 1) 5, 0, _, _, some (4, false)⟩) (v := undef) rfl (by kernel_rfl) (by kernel_rfl) (by kernel_rfl) (fun _ _ _ h => h) (Or.inr ⟨by rfl, rfl⟩) hHeld6 ?_
                        simp only [Act.put, List.setIfInBounds_toArray, List.set_cons_zero, List.set_cons_succ]
                        refine wpAnyH_take (i := 9) (oi := ⟨some 77, Op.load 22 (Operand.tmp 76), 22, _, _, some (4, false)⟩) (v := undef) rfl (by kernel_rfl) (by kernel_rfl) (by kernel_rfl) (fun _ _ _ h => h) (Or.inr ⟨by rfl, rfl⟩) hHeld6 ?_
                        simp only [Act.put, List.setIfInBounds_toArray, List.set_cons_zero, List.set_cons_succ]
                        refine wpAnyH_take (i := 10) (oi := ⟨some 78, Op.call { callee := Callee.builtin Builtin.len, args := #[Operand.tmp 77], argTypes := #[22] }, 3, _, _, some (4, false)⟩) (v := undef) rfl (by kernel_rfl) (by kernel_rfl) (by kernel_rfl) (fun _ _ _ h => h) (Or.inr ⟨by rfl, rfl⟩) hHeld6 ?_
                        simp only [Act.put, List.setIfInBounds_toArray, List.set_cons_zero, List.set_cons_succ]
                        refine wpAnyH_take (i := 11) (oi := ⟨some 79, Op.binOp BinOp.lss 3 (Operand.tmp 75) (Operand.tmp 78) 3, 4, _, _, some (4, false)⟩) (v := undef) rfl (by kernel_rfl) (by kernel_rfl) (by kernel_rfl) (fun _ _ _ h => h) (Or.inr ⟨by rfl, rfl⟩) hHeld6 ?_
                        simp only [Act.put, List.setIfInBounds_toArray, List.set_cons_zero, List.set_cons_succ]
                        refine wpAnyH_take (i := 12) (oi := ⟨some 80, Op.pick (Operand.tmp 72) (Operand.const (Value.bool true)) (Operand.tmp 79), 4, _, _, none⟩) (v := .bool true) rfl (by kernel_rfl) (by kernel_rfl) (by kernel_rfl) (fun _ _ _ h => h) (Or.inl ⟨by rfl, fun w hS => by go_simp⟩) hHeld6 ?_
                        simp only [Act.put, List.setIfInBounds_toArray, List.set_cons_zero, List.set_cons_succ]
                        refine wpAnyH_take (i := 13) (oi := ⟨some 67, Op.assign (Operand.tmp 80), 4, _, _, none⟩) (v := .bool true) rfl (by kernel_rfl) (by kernel_rfl) (by kernel_rfl) (fun _ _ _ h => h) (Or.inl ⟨by rfl, fun w hS => by go_simp⟩) hHeld6 ?_
                        simp only [Act.put, List.setIfInBounds_toArray, List.set_cons_zero, List.set_cons_succ]
                        refine wpAnyH_done (by kernel_rfl) ?_ _
                        refine hK37 _ _ ?_
                        refine wp_cond_true rfl ?_
                        refine wp_seq_k fun K40 hK40 => ?_
                        refine wp_region_list (WL.out ?_)
                        refine WL.val (by kernel_rfl) (.int .i64 4) (by go_simp) ?_
                        simp only [Act.put, List.setIfInBounds_toArray, List.set_cons_zero, List.set_cons_succ]
                        refine WL.nil ?_
                        refine hK40 _ _ ?_
                        refine wp_ret ?_
                        go_ret
                        first | exact ⟨by rw [HR.out]; (simp [*] <;> simp [hasI]), by rw [← HgE.out]; exact B2.out⟩ | exact ⟨by rw [HR.out]; (simp [*] <;> simp [hasI]), by rw [← HgE.out]; exact B3.out⟩ | exact ⟨by rw [HR.out]; (simp [*] <;> simp [hasI]), by rw [← HgE.out]; exact B4.out⟩ | exact ⟨by rw [HR.out]; (simp [*] <;> simp [hasI]), by rw [← HgE.out]; exact B5.out⟩ | exact ⟨by rw [HR.out]; (simp [*] <;> simp [hasI]), by rw [← HgE.out]; exact B5.out.drew⟩
                · skip
                  refine wp_region_list (WL.out ?_)
                  refine WL.val (by kernel_rfl) (.pointer (some ⟨g, 1, none⟩)) (by go_simp) ?_
                  simp only [Act.put, List.setIfInBounds_toArray, List.set_cons_zero, List.set_cons_succ]
                  refine WL.val (by kernel_rfl) (.slice ha M.hd.length hk) (by go_simp) ?_
                  simp only [Act.put, List.setIfInBounds_toArray, List.set_cons_zero, List.set_cons_succ]
                  refine WL.callF (by kernel_rfl) 15 _ _ rfl Try.in15 #[.slice ha M.hd.length hk] (by simp [Act.eval]) ?_
                  refine (HC4.out).mono ?_
                  rintro e w4 ⟨rfl, hb4⟩
                  refine ⟨_, rfl, ?_⟩
                  clear HC4
                  have HM4 := Keep.mk (HM3.out.below hb4 HM3.out.lt)
                  have HA4 := Keep.mk (HA3.out.below hb4)
                  have B4 : Keep (Below g w w4) := ⟨B3.out.trans (hb4.mono (by rw [HgE.out]; exact B3.out.size))⟩
                  clear g0 g1 g3 g4 g5
                  have g0 := HM4.out.c 0 (ms_0 c)
                  have g1 := HM4.out.c 1 (ms_1 c)
                  have g3 := HM4.out.c 3 (ms_3 c)
                  have g4 := HM4.out.c 4 (ms_4 c)
                  have g5 := HM4.out.c 5 (ms_5 c)
                  rw [Ek.out] at g0
                  rw [E1.out] at g1
                  rw [E3.out] at g3
                  rw [E4.out] at g4
                  rw [E5.out] at g5
                  clear hb4
                  simp only [Act.put, List.setIfInBounds_toArray, List.set_cons_zero, List.set_cons_succ]
                  refine WL.val (by kernel_rfl) (.bool false) (by go_simp) ?_
                  simp only [Act.put, List.setIfInBounds_toArray, List.set_cons_zero, List.set_cons_succ]
                  refine WL.val (by kernel_rfl) (.bool false) (by go_simp) ?_
                  simp only [Act.put, List.setIfInBounds_toArray, List.set_cons_zero, List.set_cons_succ]
                  refine WL.val (by kernel_rfl) (.pointer (some ⟨g, 4, none⟩)) (by go_simp) ?_
                  simp only [Act.put, List.setIfInBounds_toArray, List.set_cons_zero, List.set_cons_succ]
                  refine WL.val (by kernel_rfl) (.slice wa M.wt.length wk) (by go_simp) ?_
                  simp only [Act.put, List.setIfInBounds_toArray, List.set_cons_zero, List.set_cons_succ]
                  have HC5 := Keep.mk (rising_any (.slice wa M.wt.length wk) M.wt w4 (by have h := HA4.out.wt; rw [E4.out] at h; exact h) (by have := HOk.out.wt; omega))
                  rw [hD] at HC5
                  refine WL.callF (by kernel_rfl) 15 _ _ rfl Try.in15 #[.slice wa M.wt.length wk] (by simp [Act.eval]) ?_
                  refine (HC5.out).mono ?_
                  rintro e w5 ⟨rfl, hb5⟩
                  refine ⟨_, rfl, ?_⟩
                  clear HC5
                  have HM5 := Keep.mk (HM4.out.below hb5 HM4.out.lt)
                  have HA5 := Keep.mk (HA4.out.below hb5)
                  have B5 : Keep (Below g w w5) := ⟨B4.out.trans (hb5.mono (by rw [HgE.out]; exact B4.out.size))⟩
                  clear g0 g1 g3 g4 g5
                  have g0 := HM5.out.c 0 (ms_0 c)
                  have g1 := HM5.out.c 1 (ms_1 c)
                  have g3 := HM5.out.c 3 (ms_3 c)
                  have g4 := HM5.out.c 4 (ms_4 c)
                  have g5 := HM5.out.c 5 (ms_5 c)
                  rw [Ek.out] at g0
                  rw [E1.out] at g1
                  rw [E3.out] at g3
                  rw [E4.out] at g4
                  rw [E5.out] at g5
                  clear hb5
                  simp only [Act.put, List.setIfInBounds_toArray, List.set_cons_zero, List.set_cons_succ]
                  refine WL.val (by kernel_rfl) (.bool true) (by go_simp) ?_
                  simp only [Act.put, List.setIfInBounds_toArray, List.set_cons_zero, List.set_cons_succ]
                  refine WL.val (by kernel_rfl) (.bool true) (by go_simp) ?_
                  simp only [Act.put, List.setIfInBounds_toArray, List.set_cons_zero, List.set_cons_succ]
                  refine WL.val (by kernel_rfl) (.bool true) (by go_simp) ?_
                  simp only [Act.put, List.setIfInBounds_toArray, List.set_cons_zero, List.set_cons_succ]
                  refine WL.nil ?_
                  refine hK26 _ _ ?_
                  refine wp_cond_true rfl ?_
                  refine wp_seq_k fun K41 hK41 => ?_
                  refine wp_region_list (WL.out ?_)
                  refine WL.val (by kernel_rfl) (.int .i64 130) (by go_simp) ?_
                  simp only [Act.put, List.setIfInBounds_toArray, List.set_cons_zero, List.set_cons_succ]
                  refine WL.nil ?_
                  refine hK41 _ _ ?_
                  refine wp_ret ?_
                  go_ret
                  first | exact ⟨by rw [HR.out]; (simp [*] <;> simp [hasI]), by rw [← HgE.out]; exact B2.out⟩ | exact ⟨by rw [HR.out]; (simp [*] <;> simp [hasI]), by rw [← HgE.out]; exact B3.out⟩ | exact ⟨by rw [HR.out]; (simp [*] <;> simp [hasI]), by rw [← HgE.out]; exact B4.out⟩ | exact ⟨by rw [HR.out]; (simp [*] <;> simp [hasI]), by rw [← HgE.out]; exact B5.out⟩ | exact ⟨by rw [HR.out]; (simp [*] <;> simp [hasI]), by rw [← HgE.out]; exact B5.out.drew⟩
              · have HC4 := Keep.mk (rising_any (.slice ha M.hd.length hk) M.hd w3 (by have h := HA3.out.hd; rw [E1.out] at h; exact h) (by have := HOk.out.hd; omega))
                rw [hC] at HC4
                refine wp_region_list (WL.out ?_)
                refine WL.val (by kernel_rfl) (.pointer (some ⟨g, 1, none⟩)) (by go_simp) ?_
                simp only [Act.put, List.setIfInBounds_toArray, List.set_cons_zero, List.set_cons_succ]
                refine WL.val (by kernel_rfl) (.slice ha M.hd.length hk) (by go_simp) ?_
                simp only [Act.put, List.setIfInBounds_toArray, List.set_cons_zero, List.set_cons_succ]
                refine WL.callF (by kernel_rfl) 15 _ _ rfl Try.in15 #[.slice ha M.hd.length hk] (by simp [Act.eval]) ?_
                refine (HC4.out).mono ?_
                rintro e w4 ⟨rfl, hb4⟩
                refine ⟨_, rfl, ?_⟩
                clear HC4
                have HM4 := Keep.mk (HM3.out.below hb4 HM3.out.lt)
                have HA4 := Keep.mk (HA3.out.below hb4)
                have B4 : Keep (Below g w w4) := ⟨B3.out.trans (hb4.mono (by rw [HgE.out]; exact B3.out.size))⟩
                clear g0 g1 g3 g4 g5
                have g0 := HM4.out.c 0 (ms_0 c)
                have g1 := HM4.out.c 1 (ms_1 c)
                have g3 := HM4.out.c 3 (ms_3 c)
                have g4 := HM4.out.c 4 (ms_4 c)
                have g5 := HM4.out.c 5 (ms_5 c)
                rw [Ek.out] at g0
                rw [E1.out] at g1
                rw [E3.out] at g3
                rw [E4.out] at g4
                rw [E5.out] at g5
                clear hb4
                simp only [Act.put, List.setIfInBounds_toArray, List.set_cons_zero, List.set_cons_succ]
                refine WL.val (by kernel_rfl) (.bool true) (by go_simp) ?_
                simp only [Act.put, List.setIfInBounds_toArray, List.set_cons_zero, List.set_cons_succ]
                refine WL.val (by kernel_rfl) (.bool true) (by go_simp) ?_
                simp only [Act.put, List.setIfInBounds_toArray, List.set_cons_zero, List.set_cons_succ]
                refine WL.skip (by kernel_rfl) ?_
                simp only [Act.put, List.setIfInBounds_toArray, List.set_cons_zero, List.set_cons_succ]
                refine WL.skip (by kernel_rfl) ?_
                simp only [Act.put, List.setIfInBounds_toArray, List.set_cons_zero, List.set_cons_succ]
                refine WL.skip (by kernel_rfl) ?_
                simp only [Act.put, List.setIfInBounds_toArray, List.set_cons_zero, List.set_cons_succ]
                refine WL.skip (by kernel_rfl) ?_
                simp only [Act.put, List.setIfInBounds_toArray, List.set_cons_zero, List.set_cons_succ]
                refine WL.val (by kernel_rfl) (.bool true) (by go_simp) ?_
                simp only [Act.put, List.setIfInBounds_toArray, List.set_cons_zero, List.set_cons_succ]
                refine WL.val (by kernel_rfl) (.bool true) (by go_simp) ?_
                simp only [Act.put, List.setIfInBounds_toArray, List.set_cons_zero, List.set_cons_succ]
                refine WL.nil ?_
                refine hK26 _ _ ?_
                refine wp_cond_true rfl ?_
                refine wp_seq_k fun K42 hK42 => ?_
                refine wp_region_list (WL.out ?_)
                refine WL.val (by kernel_rfl) (.int .i64 130) (by go_simp) ?_
                simp only [Act.put, List.setIfInBounds_toArray, List.set_cons_zero, List.set_cons_succ]
                refine WL.nil ?_
                refine hK42 _ _ ?_
                refine wp_ret ?_
                go_ret
                first | exact ⟨by rw [HR.out]; (simp [*] <;> simp [hasI]), by rw [← HgE.out]; exact B2.out⟩ | exact ⟨by rw [HR.out]; (simp [*] <;> simp [hasI]), by rw [← HgE.out]; exact B3.out⟩ | exact ⟨by rw [HR.out]; (simp [*] <;> simp [hasI]), by rw [← HgE.out]; exact B4.out⟩ | exact ⟨by rw [HR.out]; (simp [*] <;> simp [hasI]), by rw [← HgE.out]; exact B5.out⟩ | exact ⟨by rw [HR.out]; (simp [*] <;> simp [hasI]), by rw [← HgE.out]; exact B5.out.drew⟩
end Go.Proofs.Ytkcdoamohiaiaaa
