import Derived.Test.YtdkhjeofjhcceaaGreatDoorB02
namespace Go.Proofs.YtdkhjeofjhcceaaGreatDoor
open Go.RowKit
set_option linter.unusedSimpArgs false
set_option linter.unusedVariables false

theorem Tryz.in60 (w : World) (vs : Array Value) : (callFunc 60 vs).run Tryz.prog w = .ok (.enter 60 vs) w := by kernel_rfl
theorem Tryz.in61 (w : World) (vs : Array Value) : (callFunc 61 vs).run Tryz.prog w = .ok (.enter 61 vs) w := by kernel_rfl
theorem Tryz.in59 (w : World) (vs : Array Value) : (callFunc 59 vs).run Tryz.prog w = .ok (.enter 59 vs) w := by kernel_rfl
theorem Tryz.in31 (w : World) (vs : Array Value) : (callFunc 31 vs).run Tryz.prog w = .ok (.enter 31 vs) w := by kernel_rfl
theorem Tryz.in89 (w : World) (vs : Array Value) : (callFunc 89 vs).run Tryz.prog w = .ok (.enter 89 vs) w := by kernel_rfl
def hasB (l : List VX) (x : Hs) : Bool := (l.find? (isV x)).isSome
def mxC (l : List VX) (ps : List Hs) : Int := ps.foldl (fun m h => if ckOf l h > m then ckOf l h else m) 0
def nextE (l : List VX) (v : VX) : Int := if v.ck ≠ mxC l v.ps + 1 then 51 else if 4096 ≤ l.length then 3 else 0
def chkV (v : VX) : Int := if 64 < v.ps.length ∨ risesB v.ps = false then 52 else if v.ck < 1 ∨ 4096 < v.ck ∨ ¬ (v.ck = 1 ↔ v.ps.length = 0) then 51 else 0
def fitV (l m : List VX) (v : VX) : Int × Int :=
  if hasB l v.id = true ∨ hasB m v.id = true then (1, 0) else if chkV v ≠ 0 then (0, chkV v) else if v.ps.all (hasB l) = false then (3, 0) else if nextE l v ≠ 0 then (0, nextE l v) else (2, 0)
theorem ckOf_le {l : List VX} (h : ∀ v ∈ l, 0 ≤ v.ck ∧ v.ck ≤ 4096) (x : Hs) : 0 ≤ ckOf l x ∧ ckOf l x ≤ 4096 := by
  unfold ckOf
  split
  · rename_i v hv
    exact h v (List.mem_of_find?_eq_some hv)
  · omega
theorem mxC_le {l : List VX} (h : ∀ v ∈ l, 0 ≤ v.ck ∧ v.ck ≤ 4096) (ps : List Hs) : 0 ≤ mxC l ps ∧ mxC l ps ≤ 4096 := by
  unfold mxC
  suffices H : ∀ (ps : List Hs) (m : Int), 0 ≤ m ∧ m ≤ 4096 → 0 ≤ ps.foldl (fun m h => if ckOf l h > m then ckOf l h else m) m ∧ ps.foldl (fun m h => if ckOf l h > m then ckOf l h else m) m ≤ 4096 from H ps 0 (by omega)
  intro ps
  induction ps with
  | nil => intro m hm; exact hm
  | cons x r ih =>
    intro m hm
    refine ih _ ?_
    have := ckOf_le h x
    show 0 ≤ (if ckOf l x > m then ckOf l x else m) ∧ (if ckOf l x > m then ckOf l x else m) ≤ 4096
    split <;> omega
theorem vtx_rng {w : World} {b : Nat} {c : Nat → Int} {k : Int} {p : Value} (h : Blk w b 61 (vtx c k p)) : w.rangeAt b 0 (bytesA 32 c).toList := fun j v hv => by
  have := (List.getElem?_eq_some_iff.1 hv).1
  rw [Nat.zero_add, h.cell]
  have hj : j < (bytesA 32 c).size := by simpa using this
  unfold vtx
  rw [Array.getElem?_append_left hj, ← Array.getElem?_toList]
  exact hv
theorem enc_load (h : Hs) : (encH h).toArray = bytesA 32 h.f := encH_arr h
set_option maxRecDepth 8000 in
set_option maxHeartbeats 1000000 in
theorem hasAll_any (d : Nat) (v : Value) (l : List Hs) (Av : Nat → Prop) (g : DG) (w : World) (hD : DagAt w Av d g) (hr : HRow w v l) (hL : (l.length : Int) ≤ 9223372036854775806) : Calls Tryz.prog 60 #[ptr d, v] w fun e w' => e = .returned (.bool (l.all (hasB g.held))) ∧ Below w.heap.size w w' := by
  obtain ⟨pa, pc, rfl⟩ := hr.form
  have HD := Keep.mk hD
  have HR := Keep.mk hr
  have HL := Keep.mk hL
  clear hD hr hL
  go_enter Tryz.func60, Tryz.ntmps60
  refine wp_seq_k fun K1 hK1 => ?_
  refine wp_region_list (WL.out ?_)
  refine WL.val (by kernel_rfl) (.bool false) (by go_simp) ?_
  simp only [Act.put, List.setIfInBounds_toArray, List.set_cons_zero, List.set_cons_succ]
  refine WL.nil ?_
  refine hK1 _ _ ?_
  refine wp_seq_k fun K2 hK2 => ?_
  refine wp_seq_k fun K3 hK3 => ?_
  refine wp_region_list (WL.out ?_)
  refine WL.val (by kernel_rfl) (.slice pa l.length pc) (by go_simp) ?_
  simp only [Act.put, List.setIfInBounds_toArray, List.set_cons_zero, List.set_cons_succ]
  refine WL.val (by kernel_rfl) (.int .i64 (l.length : Int)) (by go_simp) ?_
  simp only [Act.put, List.setIfInBounds_toArray, List.set_cons_zero, List.set_cons_succ]
  refine WL.val (by kernel_rfl) (.int .i64 0) (by go_simp) ?_
  simp only [Act.put, List.setIfInBounds_toArray, List.set_cons_zero, List.set_cons_succ]
  refine WL.nil ?_
  refine hK3 _ _ ?_
  refine wp_block ?_
  refine wp_loop (fun ac wr => ∃ (t : Nat) (u4 u6 u10 u11 u12 u13 u14 u15 u16 u17 : Value), ac = { tmps := #[.pointer (some ⟨d, 0, none⟩), .slice pa l.length pc, undef, undef, u4, undef, u6, .slice pa l.length pc, .int .i64 (l.length : Int), .int .i64 (t : Int), u10, u11, u12, u13, u14, u15, u16, u17], defers := [] } ∧ t ≤ l.length ∧ l.all (hasB g.held) = (l.drop t).all (hasB g.held) ∧ Below w.heap.size w wr) (fun a _ => l.length - (intOf (a.tmps.getD 9 undef)).toNat) ⟨0, .bool false, undef, undef, undef, undef, undef, undef, undef, undef, undef, rfl, by omega, rfl, Below.refl _ _⟩ ?_
  rintro ac wr ⟨t, u4, u6, u10, u11, u12, u13, u14, u15, u16, u17, rfl, ht, hA, hB⟩
  have JA := Keep.mk hA
  have JB := Keep.mk hB
  clear hA hB
  have HRr := Keep.mk (HR.out.below JB.out)
  have HDr := Keep.mk (HD.out.below JB.out)
  by_cases htl : t < l.length
  · have htl' : (t : Int) < (l.length : Int) := by omega
    have hwr1 : IntKind.i64.wrap ((t : Int) + 1) = (t : Int) + 1 := by rw [IntKind.wrap_i64]; have := HL.out; omega
    obtain ⟨gp, op, hpa, hlen, hcap, hrg⟩ := (HRr.out).at (by omega)
    have hel := rangeAt_elem hrg t htl
    obtain ⟨hh, hhh⟩ : ∃ hh, hh = l[t] := ⟨_, rfl⟩
    rw [← hhh] at hel
    have Jhh := Keep.mk hhh
    subst hpa
    clear hlen hcap hrg hhh
    refine wp_seq_k fun K4 hK4 => ?_
    refine wp_region_list (WL.out ?_)
    refine WL.val (by kernel_rfl) (.bool true) (by go_simp) ?_
    simp only [Act.put, List.setIfInBounds_toArray, List.set_cons_zero, List.set_cons_succ]
    refine WL.nil ?_
    refine hK4 _ _ ?_
    refine wp_seq_k fun K5 hK5 => ?_
    refine wp_cond_true rfl ?_
    refine wp_skip ?_
    refine hK5 _ _ ?_
    refine wp_seq_k fun K6 hK6 => ?_
    refine wp_block ?_
    refine wp_seq_k fun K7 hK7 => ?_
    refine wp_region_list (WL.out ?_)
    refine WL.val (by kernel_rfl) (.pointer (some ⟨gp, op + t * 32, none⟩)) (by go_simp) ?_
    simp only [Act.put, List.setIfInBounds_toArray, List.set_cons_zero, List.set_cons_succ]
    refine WL.mid (by kernel_rfl) 50 (.tmp 11) rfl gp (op + t * 32) rfl (encH hh) _ hel Tryz.underlying50 rfl (Tryz.size50L hh) ?_
    rw [enc_load]
    simp only [Act.put, List.setIfInBounds_toArray, List.set_cons_zero, List.set_cons_succ]
    refine WL.new (by kernel_rfl) 50 rfl _ Tryz.new50 ?_
    simp only [Act.put, List.setIfInBounds_toArray, List.set_cons_zero, List.set_cons_succ]
    refine WL.storeR (by kernel_rfl) 50 (.tmp 6) (.tmp 12) rfl wr.heap.size (bytesA 32 hh.f) rfl rfl 50 (bytesA 32 fun _ => 0) (Blk.new wr 50 _) (Tryz.size50B _) (bytesA_sizes _ _ _) (bytesA_one _ _) ?_
    have HY := Keep.mk ((Blk.new wr 50 (bytesA 32 fun _ => 0)).setRow (bytesA 32 hh.f))
    have BY : Keep (Below wr.heap.size wr ((wr.alloc (.cells (bytesA 32 fun _ => 0) 50)).setRow wr.heap.size (bytesA 32 hh.f))) := ⟨below_setRow (below_new wr _) (Nat.le_refl _) _⟩
    generalize (wr.alloc (.cells (bytesA 32 fun _ => 0) 50)).setRow wr.heap.size (bytesA 32 hh.f) = wy at *
    generalize hbb : wr.heap.size = bb at *
    clear hel
    simp only [Act.put]
    refine WL.nil ?_
    refine hK7 _ _ ?_
    refine wp_seq_k fun K8 hK8 => ?_
    refine wp_region_list (WL.out ?_)
    refine WL.val (by kernel_rfl) (.pointer (some ⟨d, 0, none⟩)) (by go_simp) ?_
    simp only [Act.put, List.setIfInBounds_toArray, List.set_cons_zero, List.set_cons_succ]
    refine WL.row (by kernel_rfl) 50 (.tmp 6) rfl bb rfl 50 (bytesA 32 hh.f) _ HY.out Tryz.underlying50 rfl (Tryz.size50B _) ?_
    simp only [Act.put, List.setIfInBounds_toArray, List.set_cons_zero, List.set_cons_succ]
    refine WL.callF (by kernel_rfl) 57 _ _ rfl Tryz.in57 #[ptr d, .agg (bytesA 32 hh.f)] (by simp [Act.eval]) ?_
    refine (has_any d hh Av g wy (HDr.out.below (hbb ▸ BY.out))).mono ?_
    rintro e wz ⟨rfl, hz⟩
    refine ⟨_, rfl, ?_⟩
    have BZ := Keep.mk hz
    clear hz
    change _ at hbb
    obtain ⟨bq, hbq⟩ : ∃ b, Keep (hasB g.held hh = b) := ⟨_, ⟨rfl⟩⟩
    rw [show (g.held.find? (isV hh)).isSome = bq from hbq.out]
    simp only [Act.put, List.setIfInBounds_toArray, List.set_cons_zero, List.set_cons_succ]
    by_cases h4_3 : bq = true
    · skip
      refine WL.val (by kernel_rfl) (.bool false) (by go_simp) ?_
      simp only [Act.put, List.setIfInBounds_toArray, List.set_cons_zero, List.set_cons_succ]
      refine WL.nil ?_
      refine hK8 _ _ ?_
      refine wp_cond_false rfl ?_
      refine wp_skip ?_
      refine hK6 _ _ ?_
      refine wp_region_list (WL.out ?_)
      refine WL.val (by kernel_rfl) (.int .i64 ((t : Int) + 1)) (by go_simp) ?_
      simp only [Act.put, List.setIfInBounds_toArray, List.set_cons_zero, List.set_cons_succ]
      refine WL.val (by kernel_rfl) (.int .i64 ((t : Int) + 1)) (by go_simp) ?_
      simp only [Act.put, List.setIfInBounds_toArray, List.set_cons_zero, List.set_cons_succ]
      refine WL.nil ?_
      have hA2 : l.all (hasB g.held) = (l.drop (t + 1)).all (hasB g.held) := by rw [JA.out, List.drop_eq_getElem_cons htl, List.all_cons, ← Jhh.out, hbq.out, h4_3, Bool.true_and]
      refine ⟨⟨t + 1, u4, .pointer (some ⟨bb, 0, none⟩), .bool true, .pointer (some ⟨gp, op + t * 32, none⟩), .agg (bytesA 32 hh.f), .pointer (some ⟨d, 0, none⟩), .agg (bytesA 32 hh.f), .bool bq, .bool false, .int .i64 ((t : Int) + 1), rfl, by omega, hA2, belowT JB.out (belowT (hbb ▸ BY.out) BZ.out)⟩, ?_⟩
      simp only [intOf]; show l.length - ((t : Int) + 1).toNat < l.length - ((t : Int)).toNat; omega
    · skip
      refine WL.val (by kernel_rfl) (.bool true) (by go_simp) ?_
      simp only [Act.put, List.setIfInBounds_toArray, List.set_cons_zero, List.set_cons_succ]
      refine WL.nil ?_
      refine hK8 _ _ ?_
      refine wp_cond_true rfl ?_
      refine wp_seq_k fun K9 hK9 => ?_
      refine wp_region_list (WL.out ?_)
      refine WL.val (by kernel_rfl) (.bool false) (by go_simp) ?_
      simp only [Act.put, List.setIfInBounds_toArray, List.set_cons_zero, List.set_cons_succ]
      refine WL.nil ?_
      refine hK9 _ _ ?_
      refine wp_ret ?_
      go_ret
      refine ⟨?_, belowT JB.out (belowT (hbb ▸ BY.out) BZ.out)⟩
      rw [JA.out, List.drop_eq_getElem_cons htl, List.all_cons, ← Jhh.out, hbq.out, Bool.eq_false_iff.2 h4_3, Bool.false_and]; rfl
  · have hte : Keep (t = l.length) := ⟨by omega⟩
    have htl' : ¬ (t : Int) < (l.length : Int) := by omega
    refine wp_seq_k fun K10 hK10 => ?_
    refine wp_region_list (WL.out ?_)
    refine WL.val (by kernel_rfl) (.bool false) (by go_simp) ?_
    simp only [Act.put, List.setIfInBounds_toArray, List.set_cons_zero, List.set_cons_succ]
    refine WL.nil ?_
    refine hK10 _ _ ?_
    refine wp_seq_k fun K11 hK11 => ?_
    refine wp_cond_false rfl ?_
    refine wp_exit ?_
    refine hK2 _ _ ?_
    refine wp_seq_k fun K12 hK12 => ?_
    refine wp_region_list (WL.out ?_)
    refine WL.val (by kernel_rfl) (.bool true) (by go_simp) ?_
    simp only [Act.put, List.setIfInBounds_toArray, List.set_cons_zero, List.set_cons_succ]
    refine WL.nil ?_
    refine hK12 _ _ ?_
    refine wp_ret ?_
    go_ret
    exact ⟨by rw [JA.out, hte.out, List.drop_length]; rfl, JB.out⟩
set_option maxRecDepth 8000 in
set_option maxHeartbeats 1000000 in
theorem next_any (d : Nat) (v : VX) (p : Value) (Av : Nat → Prop) (g : DG) (w : World) (hD : DagAt w Av d g) (hr : HRow w p v.ps) (hM : ∀ v ∈ g.held, 0 ≤ v.ck ∧ v.ck ≤ 4096) (hL : (v.ps.length : Int) ≤ 9223372036854775806) : Calls Tryz.prog 61 #[ptr d, .agg (vtx v.id.f v.ck p)] w fun e w' => e = .returned (.int .i64 (nextE g.held v)) ∧ Below w.heap.size w w' := by
  obtain ⟨pa, pc, rfl⟩ := hr.form
  obtain ⟨vv, hvv⟩ : ∃ a : Array Value, Keep (a = vtx v.id.f v.ck (.slice pa v.ps.length pc)) := ⟨_, ⟨rfl⟩⟩
  rw [← hvv.out]
  have HD := Keep.mk hD
  have HR := Keep.mk hr
  have HM := Keep.mk hM
  have HL := Keep.mk hL
  clear hD hr hM hL
  go_enter Tryz.func61, Tryz.ntmps61
  refine wp_seq_k fun K1 hK1 => ?_
  refine wp_region_list (WL.out ?_)
  refine WL.box (by kernel_rfl) 61 (.tmp 1) rfl (vv) rfl ?_
  obtain ⟨w1, hwn⟩ : ∃ wx, Keep (wx = w.alloc (.cells (vv) 61)) := ⟨_, ⟨rfl⟩⟩
  rw [← hwn.out]
  have HX1 : Keep (Blk w1 w.heap.size 61 (vv)) := ⟨by rw [hwn.out]; exact Blk.new _ _ _⟩
  have LB1 : Keep (Below w.heap.size w w1) := ⟨by rw [hwn.out]; exact below_new _ _⟩
  clear hwn
  simp only [Act.put, List.setIfInBounds_toArray, List.set_cons_zero, List.set_cons_succ]
  refine WL.val (by kernel_rfl) (.int .i64 0) (by go_simp) ?_
  simp only [Act.put, List.setIfInBounds_toArray, List.set_cons_zero, List.set_cons_succ]
  refine WL.nil ?_
  refine hK1 _ _ ?_
  refine wp_seq_k fun K2 hK2 => ?_
  have HD1 := Keep.mk (HD.out.below LB1.out)
  have HR1 := Keep.mk (HR.out.below LB1.out)
  refine wp_region_list (WL.out ?_)
  refine WL.val (by kernel_rfl) (.int .i64 0) (by go_simp) ?_
  simp only [Act.put, List.setIfInBounds_toArray, List.set_cons_zero, List.set_cons_succ]
  refine WL.nil ?_
  refine hK2 _ _ ?_
  refine wp_seq_k fun K3 hK3 => ?_
  refine wp_seq_k fun K4 hK4 => ?_
  have c33 : w1.cell? ⟨w.heap.size, 33, none⟩ = some (.slice pa v.ps.length pc) := HX1.out.c 33 (by rw [hvv.out]; exact vtx_ps _ _ _)
  refine wp_region_list (WL.out ?_)
  refine WL.val (by kernel_rfl) (.pointer (some ⟨w.heap.size, 33, none⟩)) (by go_simp) ?_
  simp only [Act.put, List.setIfInBounds_toArray, List.set_cons_zero, List.set_cons_succ]
  refine WL.val (by kernel_rfl) (.slice pa v.ps.length pc) (by go_simp) ?_
  simp only [Act.put, List.setIfInBounds_toArray, List.set_cons_zero, List.set_cons_succ]
  refine WL.val (by kernel_rfl) (.int .i64 (v.ps.length : Int)) (by go_simp) ?_
  simp only [Act.put, List.setIfInBounds_toArray, List.set_cons_zero, List.set_cons_succ]
  refine WL.val (by kernel_rfl) (.int .i64 0) (by go_simp) ?_
  simp only [Act.put, List.setIfInBounds_toArray, List.set_cons_zero, List.set_cons_succ]
  refine WL.nil ?_
  refine hK4 _ _ ?_
  refine wp_block ?_
  refine wp_loop (fun ac wr => ∃ (t : Nat) (u7 u12 u13 u14 u15 u16 u17 u18 u19 u20 : Value), ac = { tmps := #[.pointer (some ⟨d, 0, none⟩), .agg vv, undef, .pointer (some ⟨w.heap.size, 0, none⟩), .int .i64 0, .int .i64 (mxC g.held (v.ps.take t)), undef, u7, .pointer (some ⟨w.heap.size, 33, none⟩), .slice pa v.ps.length pc, .int .i64 (v.ps.length : Int), .int .i64 (t : Int), u12, u13, u14, u15, u16, u17, u18, u19, u20, undef, undef, undef, undef, undef, undef, undef, undef, undef, undef], defers := [] } ∧ t ≤ v.ps.length ∧ Below w1.heap.size w1 wr) (fun a _ => v.ps.length - (intOf (a.tmps.getD 11 undef)).toNat) ⟨0, undef, undef, undef, undef, undef, undef, undef, undef, undef, undef, rfl, by omega, Below.refl _ _⟩ ?_
  rintro ac wr ⟨t, u7, u12, u13, u14, u15, u16, u17, u18, u19, u20, rfl, ht, hB⟩
  have JB := Keep.mk hB
  clear hB
  have HRr := Keep.mk (HR1.out.below JB.out)
  have HDr := Keep.mk (HD1.out.below JB.out)
  by_cases htl : t < v.ps.length
  · have htl' : (t : Int) < (v.ps.length : Int) := by omega
    have hwr1 : IntKind.i64.wrap ((t : Int) + 1) = (t : Int) + 1 := by rw [IntKind.wrap_i64]; have := HL.out; omega
    obtain ⟨gp, op, hpa, hlen, hcap, hrg⟩ := (HRr.out).at (by omega)
    have hel := rangeAt_elem hrg t htl
    obtain ⟨hh, hhh⟩ : ∃ hh, hh = v.ps[t] := ⟨_, rfl⟩
    rw [← hhh] at hel
    have Jhh := Keep.mk hhh
    subst hpa
    clear hlen hcap hrg hhh
    refine wp_seq_k fun K5 hK5 => ?_
    refine wp_region_list (WL.out ?_)
    refine WL.val (by kernel_rfl) (.bool true) (by go_simp) ?_
    simp only [Act.put, List.setIfInBounds_toArray, List.set_cons_zero, List.set_cons_succ]
    refine WL.nil ?_
    refine hK5 _ _ ?_
    refine wp_seq_k fun K6 hK6 => ?_
    refine wp_cond_true rfl ?_
    refine wp_skip ?_
    refine hK6 _ _ ?_
    refine wp_seq_k fun K7 hK7 => ?_
    refine wp_block ?_
    refine wp_seq_k fun K8 hK8 => ?_
    refine wp_region_list (WL.out ?_)
    refine WL.val (by kernel_rfl) (.pointer (some ⟨gp, op + t * 32, none⟩)) (by go_simp) ?_
    simp only [Act.put, List.setIfInBounds_toArray, List.set_cons_zero, List.set_cons_succ]
    refine WL.mid (by kernel_rfl) 50 (.tmp 13) rfl gp (op + t * 32) rfl (encH hh) _ hel Tryz.underlying50 rfl (Tryz.size50L hh) ?_
    rw [enc_load]
    simp only [Act.put, List.setIfInBounds_toArray, List.set_cons_zero, List.set_cons_succ]
    refine WL.new (by kernel_rfl) 50 rfl _ Tryz.new50 ?_
    simp only [Act.put, List.setIfInBounds_toArray, List.set_cons_zero, List.set_cons_succ]
    refine WL.storeR (by kernel_rfl) 50 (.tmp 7) (.tmp 14) rfl wr.heap.size (bytesA 32 hh.f) rfl rfl 50 (bytesA 32 fun _ => 0) (Blk.new wr 50 _) (Tryz.size50B _) (bytesA_sizes _ _ _) (bytesA_one _ _) ?_
    have HY := Keep.mk ((Blk.new wr 50 (bytesA 32 fun _ => 0)).setRow (bytesA 32 hh.f))
    have BY : Keep (Below wr.heap.size wr ((wr.alloc (.cells (bytesA 32 fun _ => 0) 50)).setRow wr.heap.size (bytesA 32 hh.f))) := ⟨below_setRow (below_new wr _) (Nat.le_refl _) _⟩
    generalize (wr.alloc (.cells (bytesA 32 fun _ => 0) 50)).setRow wr.heap.size (bytesA 32 hh.f) = wy at *
    generalize hbb : wr.heap.size = bb at *
    clear hel
    simp only [Act.put]
    refine WL.nil ?_
    refine hK8 _ _ ?_
    refine wp_region_list (WL.out ?_)
    refine WL.val (by kernel_rfl) (.int .i64 (mxC g.held (v.ps.take t))) (by go_simp) ?_
    simp only [Act.put, List.setIfInBounds_toArray, List.set_cons_zero, List.set_cons_succ]
    refine WL.val (by kernel_rfl) (.pointer (some ⟨d, 0, none⟩)) (by go_simp) ?_
    simp only [Act.put, List.setIfInBounds_toArray, List.set_cons_zero, List.set_cons_succ]
    refine WL.row (by kernel_rfl) 50 (.tmp 7) rfl bb rfl 50 (bytesA 32 hh.f) _ HY.out Tryz.underlying50 rfl (Tryz.size50B _) ?_
    simp only [Act.put, List.setIfInBounds_toArray, List.set_cons_zero, List.set_cons_succ]
    refine WL.callF (by kernel_rfl) 90 _ _ rfl Tryz.in90 #[ptr d, .agg (bytesA 32 hh.f)] (by simp [Act.eval]) ?_
    refine (clock_any d hh Av g wy (HDr.out.below (hbb ▸ BY.out))).mono ?_
    rintro e wz ⟨rfl, hz⟩
    refine ⟨_, rfl, ?_⟩
    have BZ := Keep.mk hz
    clear hz
    have hmx : Keep (mxC g.held (v.ps.take (t + 1)) = if ckOf g.held hh > mxC g.held (v.ps.take t) then ckOf g.held hh else mxC g.held (v.ps.take t)) := ⟨by rw [List.take_succ_eq_append_getElem htl, ← Jhh.out]; unfold mxC; rw [List.foldl_append]; rfl⟩
    simp only [Act.put, List.setIfInBounds_toArray, List.set_cons_zero, List.set_cons_succ]
    refine WL.val (by kernel_rfl) (.int .i64 (if ckOf g.held hh > mxC g.held (v.ps.take t) then ckOf g.held hh else mxC g.held (v.ps.take t))) (by go_simp) ?_
    simp only [Act.put, List.setIfInBounds_toArray, List.set_cons_zero, List.set_cons_succ]
    refine WL.val (by kernel_rfl) (.int .i64 (if ckOf g.held hh > mxC g.held (v.ps.take t) then ckOf g.held hh else mxC g.held (v.ps.take t))) (by go_simp) ?_
    simp only [Act.put, List.setIfInBounds_toArray, List.set_cons_zero, List.set_cons_succ]
    refine WL.nil ?_
    refine hK7 _ _ ?_
    refine wp_region_list (WL.out ?_)
    refine WL.val (by kernel_rfl) (.int .i64 ((t : Int) + 1)) (by go_simp) ?_
    simp only [Act.put, List.setIfInBounds_toArray, List.set_cons_zero, List.set_cons_succ]
    refine WL.val (by kernel_rfl) (.int .i64 ((t : Int) + 1)) (by go_simp) ?_
    simp only [Act.put, List.setIfInBounds_toArray, List.set_cons_zero, List.set_cons_succ]
    refine WL.nil ?_
    rw [← hmx.out]
    refine ⟨⟨t + 1, .pointer (some ⟨bb, 0, none⟩), .bool true, .pointer (some ⟨gp, op + t * 32, none⟩), .agg (bytesA 32 hh.f), .int .i64 (mxC g.held (v.ps.take t)), .pointer (some ⟨d, 0, none⟩), .agg (bytesA 32 hh.f), .int .i64 (ckOf g.held hh), .int .i64 (mxC g.held (v.ps.take (t + 1))), .int .i64 ((t : Int) + 1), rfl, by omega, belowT JB.out (belowT (hbb ▸ BY.out) BZ.out)⟩, ?_⟩
    simp only [intOf]; show v.ps.length - ((t : Int) + 1).toNat < v.ps.length - ((t : Int)).toNat; omega
  · have hte : Keep (t = v.ps.length) := ⟨by omega⟩
    have htl' : ¬ (t : Int) < (v.ps.length : Int) := by omega
    have hmt : mxC g.held (v.ps.take t) = mxC g.held v.ps := by rw [hte.out, List.take_length]
    rw [hmt]
    have hmb := mxC_le HM.out v.ps
    have hwm : IntKind.i64.wrap (mxC g.held v.ps + 1) = mxC g.held v.ps + 1 := by rw [IntKind.wrap_i64]; omega
    have c32 : wr.cell? ⟨w.heap.size, 32, none⟩ = some (.int .i64 v.ck) := (HX1.out.below JB.out HX1.out.lt).c 32 (by rw [hvv.out]; exact vtx_ck _ _ _)
    refine wp_seq_k fun K9 hK9 => ?_
    refine wp_region_list (WL.out ?_)
    refine WL.val (by kernel_rfl) (.bool false) (by go_simp) ?_
    simp only [Act.put, List.setIfInBounds_toArray, List.set_cons_zero, List.set_cons_succ]
    refine WL.nil ?_
    refine hK9 _ _ ?_
    refine wp_seq_k fun K10 hK10 => ?_
    refine wp_cond_false rfl ?_
    refine wp_exit ?_
    refine hK3 _ _ ?_
    refine wp_seq_k fun K11 hK11 => ?_
    refine wp_block ?_
    refine wp_seq_k fun K12 hK12 => ?_
    refine wp_region_list (WL.out ?_)
    refine WL.val (by kernel_rfl) (.pointer (some ⟨w.heap.size, 32, none⟩)) (by go_simp) ?_
    simp only [Act.put, List.setIfInBounds_toArray, List.set_cons_zero, List.set_cons_succ]
    refine WL.val (by kernel_rfl) (.int .i64 v.ck) (by go_simp) ?_
    simp only [Act.put, List.setIfInBounds_toArray, List.set_cons_zero, List.set_cons_succ]
    refine WL.val (by kernel_rfl) (.int .i64 (mxC g.held v.ps)) (by go_simp) ?_
    simp only [Act.put, List.setIfInBounds_toArray, List.set_cons_zero, List.set_cons_succ]
    refine WL.val (by kernel_rfl) (.int .i64 (mxC g.held v.ps + 1)) (by go_simp) ?_
    simp only [Act.put, List.setIfInBounds_toArray, List.set_cons_zero, List.set_cons_succ]
    by_cases h7_4 : v.ck = mxC g.held v.ps + 1
    · skip
      refine WL.val (by kernel_rfl) (.bool false) (by go_simp) ?_
      simp only [Act.put, List.setIfInBounds_toArray, List.set_cons_zero, List.set_cons_succ]
      refine WL.val (by kernel_rfl) (.bool false) (by go_simp) ?_
      simp only [Act.put, List.setIfInBounds_toArray, List.set_cons_zero, List.set_cons_succ]
      refine WL.nil ?_
      refine hK12 _ _ ?_
      refine wp_cond_false rfl ?_
      refine wp_seq_k fun K13 hK13 => ?_
      refine wp_region_list (WL.out ?_)
      refine WL.val (by kernel_rfl) (.pointer (some ⟨d, 0, none⟩)) (by go_simp) ?_
      simp only [Act.put, List.setIfInBounds_toArray, List.set_cons_zero, List.set_cons_succ]
      refine WL.callF (by kernel_rfl) 36 _ _ rfl Tryz.in36 #[ptr d] (by simp [Act.eval]) ?_
      refine (dlen_any d Av g wr HDr.out).mono ?_
      rintro e wz ⟨rfl, hz⟩
      refine ⟨_, rfl, ?_⟩
      subst hz
      simp only [Act.put, List.setIfInBounds_toArray, List.set_cons_zero, List.set_cons_succ]
      by_cases h9_2 : (4096 : Int) ≤ (g.held.length : Int)
      · skip
        refine WL.val (by kernel_rfl) (.bool true) (by go_simp) ?_
        simp only [Act.put, List.setIfInBounds_toArray, List.set_cons_zero, List.set_cons_succ]
        refine WL.val (by kernel_rfl) (.bool true) (by go_simp) ?_
        simp only [Act.put, List.setIfInBounds_toArray, List.set_cons_zero, List.set_cons_succ]
        refine WL.nil ?_
        refine hK13 _ _ ?_
        refine wp_cond_true rfl ?_
        refine wp_seq_k fun K14 hK14 => ?_
        refine wp_region_list (WL.out ?_)
        refine WL.val (by kernel_rfl) (.int .i64 3) (by go_simp) ?_
        simp only [Act.put, List.setIfInBounds_toArray, List.set_cons_zero, List.set_cons_succ]
        refine WL.nil ?_
        refine hK14 _ _ ?_
        refine wp_ret ?_
        go_ret
        refine ⟨?_, belowT LB1.out JB.out⟩
        rw [nextE, if_neg (by simpa using h7_4), if_pos (by omega)]; rfl
      · skip
        refine WL.val (by kernel_rfl) (.bool false) (by go_simp) ?_
        simp only [Act.put, List.setIfInBounds_toArray, List.set_cons_zero, List.set_cons_succ]
        refine WL.val (by kernel_rfl) (.bool false) (by go_simp) ?_
        simp only [Act.put, List.setIfInBounds_toArray, List.set_cons_zero, List.set_cons_succ]
        refine WL.nil ?_
        refine hK13 _ _ ?_
        refine wp_cond_false rfl ?_
        refine wp_skip ?_
        refine hK11 _ _ ?_
        refine wp_seq_k fun K15 hK15 => ?_
        refine wp_region_list (WL.out ?_)
        refine WL.val (by kernel_rfl) (.int .i64 0) (by go_simp) ?_
        simp only [Act.put, List.setIfInBounds_toArray, List.set_cons_zero, List.set_cons_succ]
        refine WL.nil ?_
        refine hK15 _ _ ?_
        refine wp_ret ?_
        go_ret
        refine ⟨?_, belowT LB1.out JB.out⟩
        rw [nextE, if_neg (by simpa using h7_4), if_neg (by omega)]; rfl
    · skip
      refine WL.val (by kernel_rfl) (.bool true) (by go_simp) ?_
      simp only [Act.put, List.setIfInBounds_toArray, List.set_cons_zero, List.set_cons_succ]
      refine WL.val (by kernel_rfl) (.bool true) (by go_simp) ?_
      simp only [Act.put, List.setIfInBounds_toArray, List.set_cons_zero, List.set_cons_succ]
      refine WL.nil ?_
      refine hK12 _ _ ?_
      refine wp_cond_true rfl ?_
      refine wp_seq_k fun K16 hK16 => ?_
      refine wp_region_list (WL.out ?_)
      refine WL.val (by kernel_rfl) (.int .i64 51) (by go_simp) ?_
      simp only [Act.put, List.setIfInBounds_toArray, List.set_cons_zero, List.set_cons_succ]
      refine WL.nil ?_
      refine hK16 _ _ ?_
      refine wp_ret ?_
      go_ret
      refine ⟨?_, belowT LB1.out JB.out⟩
      rw [nextE, if_pos h7_4]; rfl
set_option maxRecDepth 8000 in
set_option maxHeartbeats 1000000 in
theorem check_any (v : VX) (p : Value) (w : World) (hr : HRow w p v.ps) (hL : (v.ps.length : Int) ≤ 9223372036854775806) : Calls Tryz.prog 59 #[.agg (vtx v.id.f v.ck p)] w fun e w' => e = .returned (.int .i64 (chkV v)) ∧ Below w.heap.size w w' := by
  obtain ⟨pa, pc, rfl⟩ := hr.form
  obtain ⟨vv, hvv⟩ : ∃ a : Array Value, Keep (a = vtx v.id.f v.ck (.slice pa v.ps.length pc)) := ⟨_, ⟨rfl⟩⟩
  rw [← hvv.out]
  have HR := Keep.mk hr
  have HL := Keep.mk hL
  clear hr hL
  go_enter Tryz.func59, Tryz.ntmps59
  refine wp_seq_k fun K1 hK1 => ?_
  refine wp_region_list (WL.out ?_)
  refine WL.box (by kernel_rfl) 61 (.tmp 0) rfl (vv) rfl ?_
  obtain ⟨w1, hwn⟩ : ∃ wx, Keep (wx = w.alloc (.cells (vv) 61)) := ⟨_, ⟨rfl⟩⟩
  rw [← hwn.out]
  have HX1 : Keep (Blk w1 w.heap.size 61 (vv)) := ⟨by rw [hwn.out]; exact Blk.new _ _ _⟩
  have LB1 : Keep (Below w.heap.size w w1) := ⟨by rw [hwn.out]; exact below_new _ _⟩
  clear hwn
  simp only [Act.put, List.setIfInBounds_toArray, List.set_cons_zero, List.set_cons_succ]
  refine WL.val (by kernel_rfl) (.int .i64 0) (by go_simp) ?_
  simp only [Act.put, List.setIfInBounds_toArray, List.set_cons_zero, List.set_cons_succ]
  refine WL.nil ?_
  refine hK1 _ _ ?_
  refine wp_seq_k fun K2 hK2 => ?_
  refine wp_block ?_
  refine wp_seq_k fun K3 hK3 => ?_
  have c33 : w1.cell? ⟨w.heap.size, 33, none⟩ = some (.slice pa v.ps.length pc) := HX1.out.c 33 (by rw [hvv.out]; exact vtx_ps _ _ _)
  refine wp_region_list (WL.out ?_)
  refine WL.val (by kernel_rfl) (.pointer (some ⟨w.heap.size, 33, none⟩)) (by go_simp) ?_
  simp only [Act.put, List.setIfInBounds_toArray, List.set_cons_zero, List.set_cons_succ]
  refine WL.val (by kernel_rfl) (.slice pa v.ps.length pc) (by go_simp) ?_
  simp only [Act.put, List.setIfInBounds_toArray, List.set_cons_zero, List.set_cons_succ]
  refine WL.val (by kernel_rfl) (.int .i64 (v.ps.length : Int)) (by go_simp) ?_
  simp only [Act.put, List.setIfInBounds_toArray, List.set_cons_zero, List.set_cons_succ]
  by_cases h1_3 : (64 : Int) < (v.ps.length : Int)
  · skip
    refine WL.val (by kernel_rfl) (.bool true) (by go_simp) ?_
    simp only [Act.put, List.setIfInBounds_toArray, List.set_cons_zero, List.set_cons_succ]
    refine WL.val (by kernel_rfl) (.bool true) (by go_simp) ?_
    simp only [Act.put, List.setIfInBounds_toArray, List.set_cons_zero, List.set_cons_succ]
    refine WL.skip (by kernel_rfl) ?_
    simp only [Act.put, List.setIfInBounds_toArray, List.set_cons_zero, List.set_cons_succ]
    refine WL.skip (by kernel_rfl) ?_
    simp only [Act.put, List.setIfInBounds_toArray, List.set_cons_zero, List.set_cons_succ]
    refine WL.skip (by kernel_rfl) ?_
    simp only [Act.put, List.setIfInBounds_toArray, List.set_cons_zero, List.set_cons_succ]
    refine WL.skip (by kernel_rfl) ?_
    simp only [Act.put, List.setIfInBounds_toArray, List.set_cons_zero, List.set_cons_succ]
    refine WL.val (by kernel_rfl) (.bool true) (by go_simp) ?_
    simp only [Act.put, List.setIfInBounds_toArray, List.set_cons_zero, List.set_cons_succ]
    refine WL.val (by kernel_rfl) (.bool true) (by go_simp) ?_
    simp only [Act.put, List.setIfInBounds_toArray, List.set_cons_zero, List.set_cons_succ]
    refine WL.nil ?_
    refine hK3 _ _ ?_
    refine wp_cond_true rfl ?_
    refine wp_seq_k fun K4 hK4 => ?_
    refine wp_region_list (WL.out ?_)
    refine WL.val (by kernel_rfl) (.int .i64 52) (by go_simp) ?_
    simp only [Act.put, List.setIfInBounds_toArray, List.set_cons_zero, List.set_cons_succ]
    refine WL.nil ?_
    refine hK4 _ _ ?_
    refine wp_ret ?_
    go_ret
    refine ⟨?_, LB1.out⟩
    rw [chkV, if_pos (.inl (by omega))]; rfl
  · skip
    refine WL.val (by kernel_rfl) (.bool false) (by go_simp) ?_
    simp only [Act.put, List.setIfInBounds_toArray, List.set_cons_zero, List.set_cons_succ]
    refine WL.val (by kernel_rfl) (.bool false) (by go_simp) ?_
    simp only [Act.put, List.setIfInBounds_toArray, List.set_cons_zero, List.set_cons_succ]
    refine WL.val (by kernel_rfl) (.pointer (some ⟨w.heap.size, 33, none⟩)) (by go_simp) ?_
    simp only [Act.put, List.setIfInBounds_toArray, List.set_cons_zero, List.set_cons_succ]
    refine WL.val (by kernel_rfl) (.slice pa v.ps.length pc) (by go_simp) ?_
    simp only [Act.put, List.setIfInBounds_toArray, List.set_cons_zero, List.set_cons_succ]
    have hrs := rising_any _ v.ps w1 (HR.out.below LB1.out) HL.out
    clear c33
    refine WL.callF (by kernel_rfl) 89 _ _ rfl Tryz.in89 #[.slice pa v.ps.length pc] (by simp [Act.eval]) ?_
    refine (hrs).mono ?_
    rintro e w2 ⟨rfl, hz⟩
    refine ⟨_, rfl, ?_⟩
    have B2 := Keep.mk hz
    clear hz hrs
    have c33 : w2.cell? ⟨w.heap.size, 33, none⟩ = some (.slice pa v.ps.length pc) := (HX1.out.below B2.out HX1.out.lt).c 33 (by rw [hvv.out]; exact vtx_ps _ _ _)
    have c32 : w2.cell? ⟨w.heap.size, 32, none⟩ = some (.int .i64 v.ck) := (HX1.out.below B2.out HX1.out.lt).c 32 (by rw [hvv.out]; exact vtx_ck _ _ _)
    obtain ⟨rb, hrb⟩ : ∃ b, Keep (risesB v.ps = b) := ⟨_, ⟨rfl⟩⟩
    rw [hrb.out]
    simp only [Act.put, List.setIfInBounds_toArray, List.set_cons_zero, List.set_cons_succ]
    by_cases h1_8 : rb = true
    · skip
      refine WL.val (by kernel_rfl) (.bool false) (by go_simp) ?_
      simp only [Act.put, List.setIfInBounds_toArray, List.set_cons_zero, List.set_cons_succ]
      refine WL.val (by kernel_rfl) (.bool false) (by go_simp) ?_
      simp only [Act.put, List.setIfInBounds_toArray, List.set_cons_zero, List.set_cons_succ]
      refine WL.val (by kernel_rfl) (.bool false) (by go_simp) ?_
      simp only [Act.put, List.setIfInBounds_toArray, List.set_cons_zero, List.set_cons_succ]
      refine WL.nil ?_
      refine hK3 _ _ ?_
      refine wp_cond_false rfl ?_
      refine wp_seq_k fun K5 hK5 => ?_
      refine wp_region_list (WL.out ?_)
      refine WL.val (by kernel_rfl) (.pointer (some ⟨w.heap.size, 32, none⟩)) (by go_simp) ?_
      simp only [Act.put, List.setIfInBounds_toArray, List.set_cons_zero, List.set_cons_succ]
      refine WL.val (by kernel_rfl) (.int .i64 v.ck) (by go_simp) ?_
      simp only [Act.put, List.setIfInBounds_toArray, List.set_cons_zero, List.set_cons_succ]
      by_cases h3_2 : v.ck < 1
      · skip
        refine WL.val (by kernel_rfl) (.bool true) (by go_simp) ?_
        simp only [Act.put, List.setIfInBounds_toArray, List.set_cons_zero, List.set_cons_succ]
        refine WL.val (by kernel_rfl) (.bool true) (by go_simp) ?_
        simp only [Act.put, List.setIfInBounds_toArray, List.set_cons_zero, List.set_cons_succ]
        refine WL.skip (by kernel_rfl) ?_
        simp only [Act.put, List.setIfInBounds_toArray, List.set_cons_zero, List.set_cons_succ]
        refine WL.skip (by kernel_rfl) ?_
        simp only [Act.put, List.setIfInBounds_toArray, List.set_cons_zero, List.set_cons_succ]
        refine WL.skip (by kernel_rfl) ?_
        simp only [Act.put, List.setIfInBounds_toArray, List.set_cons_zero, List.set_cons_succ]
        refine WL.val (by kernel_rfl) (.bool true) (by go_simp) ?_
        simp only [Act.put, List.setIfInBounds_toArray, List.set_cons_zero, List.set_cons_succ]
        refine WL.val (by kernel_rfl) (.bool true) (by go_simp) ?_
        simp only [Act.put, List.setIfInBounds_toArray, List.set_cons_zero, List.set_cons_succ]
        refine WL.skip (by kernel_rfl) ?_
        simp only [Act.put, List.setIfInBounds_toArray, List.set_cons_zero, List.set_cons_succ]
        refine WL.skip (by kernel_rfl) ?_
        simp only [Act.put, List.setIfInBounds_toArray, List.set_cons_zero, List.set_cons_succ]
        refine WL.skip (by kernel_rfl) ?_
        simp only [Act.put, List.setIfInBounds_toArray, List.set_cons_zero, List.set_cons_succ]
        refine WL.skip (by kernel_rfl) ?_
        simp only [Act.put, List.setIfInBounds_toArray, List.set_cons_zero, List.set_cons_succ]
        refine WL.skip (by kernel_rfl) ?_
        simp only [Act.put, List.setIfInBounds_toArray, List.set_cons_zero, List.set_cons_succ]
        refine WL.skip (by kernel_rfl) ?_
        simp only [Act.put, List.setIfInBounds_toArray, List.set_cons_zero, List.set_cons_succ]
        refine WL.skip (by kernel_rfl) ?_
        simp only [Act.put, List.setIfInBounds_toArray, List.set_cons_zero, List.set_cons_succ]
        refine WL.skip (by kernel_rfl) ?_
        simp only [Act.put, List.setIfInBounds_toArray, List.set_cons_zero, List.set_cons_succ]
        refine WL.val (by kernel_rfl) (.bool true) (by go_simp) ?_
        simp only [Act.put, List.setIfInBounds_toArray, List.set_cons_zero, List.set_cons_succ]
        refine WL.val (by kernel_rfl) (.bool true) (by go_simp) ?_
        simp only [Act.put, List.setIfInBounds_toArray, List.set_cons_zero, List.set_cons_succ]
        refine WL.nil ?_
        refine hK5 _ _ ?_
        refine wp_cond_true rfl ?_
        refine wp_seq_k fun K6 hK6 => ?_
        refine wp_region_list (WL.out ?_)
        refine WL.val (by kernel_rfl) (.int .i64 51) (by go_simp) ?_
        simp only [Act.put, List.setIfInBounds_toArray, List.set_cons_zero, List.set_cons_succ]
        refine WL.nil ?_
        refine hK6 _ _ ?_
        refine wp_ret ?_
        go_ret
        refine ⟨?_, belowT LB1.out B2.out⟩
        rw [chkV, if_neg (by rw [hrb.out]; simp only [h1_8]; simp; omega), if_pos (by omega)]; rfl
      · skip
        refine WL.val (by kernel_rfl) (.bool false) (by go_simp) ?_
        simp only [Act.put, List.setIfInBounds_toArray, List.set_cons_zero, List.set_cons_succ]
        refine WL.val (by kernel_rfl) (.bool false) (by go_simp) ?_
        simp only [Act.put, List.setIfInBounds_toArray, List.set_cons_zero, List.set_cons_succ]
        refine WL.val (by kernel_rfl) (.pointer (some ⟨w.heap.size, 32, none⟩)) (by go_simp) ?_
        simp only [Act.put, List.setIfInBounds_toArray, List.set_cons_zero, List.set_cons_succ]
        refine WL.val (by kernel_rfl) (.int .i64 v.ck) (by go_simp) ?_
        simp only [Act.put, List.setIfInBounds_toArray, List.set_cons_zero, List.set_cons_succ]
        by_cases h3_6 : 4096 < v.ck
        · skip
          refine WL.val (by kernel_rfl) (.bool true) (by go_simp) ?_
          simp only [Act.put, List.setIfInBounds_toArray, List.set_cons_zero, List.set_cons_succ]
          refine WL.val (by kernel_rfl) (.bool true) (by go_simp) ?_
          simp only [Act.put, List.setIfInBounds_toArray, List.set_cons_zero, List.set_cons_succ]
          refine WL.val (by kernel_rfl) (.bool true) (by go_simp) ?_
          simp only [Act.put, List.setIfInBounds_toArray, List.set_cons_zero, List.set_cons_succ]
          refine WL.skip (by kernel_rfl) ?_
          simp only [Act.put, List.setIfInBounds_toArray, List.set_cons_zero, List.set_cons_succ]
          refine WL.skip (by kernel_rfl) ?_
          simp only [Act.put, List.setIfInBounds_toArray, List.set_cons_zero, List.set_cons_succ]
          refine WL.skip (by kernel_rfl) ?_
          simp only [Act.put, List.setIfInBounds_toArray, List.set_cons_zero, List.set_cons_succ]
          refine WL.skip (by kernel_rfl) ?_
          simp only [Act.put, List.setIfInBounds_toArray, List.set_cons_zero, List.set_cons_succ]
          refine WL.skip (by kernel_rfl) ?_
          simp only [Act.put, List.setIfInBounds_toArray, List.set_cons_zero, List.set_cons_succ]
          refine WL.skip (by kernel_rfl) ?_
          simp only [Act.put, List.setIfInBounds_toArray, List.set_cons_zero, List.set_cons_succ]
          refine WL.skip (by kernel_rfl) ?_
          simp only [Act.put, List.setIfInBounds_toArray, List.set_cons_zero, List.set_cons_succ]
          refine WL.skip (by kernel_rfl) ?_
          simp only [Act.put, List.setIfInBounds_toArray, List.set_cons_zero, List.set_cons_succ]
          refine WL.val (by kernel_rfl) (.bool true) (by go_simp) ?_
          simp only [Act.put, List.setIfInBounds_toArray, List.set_cons_zero, List.set_cons_succ]
          refine WL.val (by kernel_rfl) (.bool true) (by go_simp) ?_
          simp only [Act.put, List.setIfInBounds_toArray, List.set_cons_zero, List.set_cons_succ]
          refine WL.nil ?_
          refine hK5 _ _ ?_
          refine wp_cond_true rfl ?_
          refine wp_seq_k fun K7 hK7 => ?_
          refine wp_region_list (WL.out ?_)
          refine WL.val (by kernel_rfl) (.int .i64 51) (by go_simp) ?_
          simp only [Act.put, List.setIfInBounds_toArray, List.set_cons_zero, List.set_cons_succ]
          refine WL.nil ?_
          refine hK7 _ _ ?_
          refine wp_ret ?_
          go_ret
          refine ⟨?_, belowT LB1.out B2.out⟩
          rw [chkV, if_neg (by rw [hrb.out]; simp only [h1_8]; simp; omega), if_pos (by omega)]; rfl
        · skip
          refine WL.val (by kernel_rfl) (.bool false) (by go_simp) ?_
          simp only [Act.put, List.setIfInBounds_toArray, List.set_cons_zero, List.set_cons_succ]
          refine WL.val (by kernel_rfl) (.bool false) (by go_simp) ?_
          simp only [Act.put, List.setIfInBounds_toArray, List.set_cons_zero, List.set_cons_succ]
          refine WL.val (by kernel_rfl) (.bool false) (by go_simp) ?_
          simp only [Act.put, List.setIfInBounds_toArray, List.set_cons_zero, List.set_cons_succ]
          refine WL.val (by kernel_rfl) (.pointer (some ⟨w.heap.size, 32, none⟩)) (by go_simp) ?_
          simp only [Act.put, List.setIfInBounds_toArray, List.set_cons_zero, List.set_cons_succ]
          refine WL.val (by kernel_rfl) (.int .i64 v.ck) (by go_simp) ?_
          simp only [Act.put, List.setIfInBounds_toArray, List.set_cons_zero, List.set_cons_succ]
          by_cases h3_11 : v.ck = 1
          · skip
            refine WL.val (by kernel_rfl) (.bool true) (by go_simp) ?_
            simp only [Act.put, List.setIfInBounds_toArray, List.set_cons_zero, List.set_cons_succ]
            refine WL.val (by kernel_rfl) (.pointer (some ⟨w.heap.size, 33, none⟩)) (by go_simp) ?_
            simp only [Act.put, List.setIfInBounds_toArray, List.set_cons_zero, List.set_cons_succ]
            refine WL.val (by kernel_rfl) (.slice pa v.ps.length pc) (by go_simp) ?_
            simp only [Act.put, List.setIfInBounds_toArray, List.set_cons_zero, List.set_cons_succ]
            refine WL.val (by kernel_rfl) (.int .i64 (v.ps.length : Int)) (by go_simp) ?_
            simp only [Act.put, List.setIfInBounds_toArray, List.set_cons_zero, List.set_cons_succ]
            by_cases h3_15 : (v.ps.length : Int) = 0
            · have hps : v.ps = [] := List.eq_nil_of_length_eq_zero (by omega)
              refine WL.val (by kernel_rfl) (.bool true) (by go_simp) ?_
              simp only [Act.put, List.setIfInBounds_toArray, List.set_cons_zero, List.set_cons_succ]
              refine WL.val (by kernel_rfl) (.bool false) (by go_simp) ?_
              simp only [Act.put, List.setIfInBounds_toArray, List.set_cons_zero, List.set_cons_succ]
              refine WL.val (by kernel_rfl) (.bool false) (by go_simp) ?_
              simp only [Act.put, List.setIfInBounds_toArray, List.set_cons_zero, List.set_cons_succ]
              refine WL.val (by kernel_rfl) (.bool false) (by go_simp) ?_
              simp only [Act.put, List.setIfInBounds_toArray, List.set_cons_zero, List.set_cons_succ]
              refine WL.nil ?_
              refine hK5 _ _ ?_
              refine wp_cond_false rfl ?_
              refine wp_skip ?_
              refine hK2 _ _ ?_
              refine wp_seq_k fun K8 hK8 => ?_
              refine wp_region_list (WL.out ?_)
              refine WL.val (by kernel_rfl) (.int .i64 0) (by go_simp) ?_
              simp only [Act.put, List.setIfInBounds_toArray, List.set_cons_zero, List.set_cons_succ]
              refine WL.nil ?_
              refine hK8 _ _ ?_
              refine wp_ret ?_
              go_ret
              refine ⟨?_, belowT LB1.out B2.out⟩
              rw [chkV, if_neg (by rw [hrb.out]; simp only [h1_8]; simp; omega), if_neg (by omega)]; rfl
            · have hps : ¬ v.ps = [] := fun h => by rw [h] at h3_15; simp at h3_15
              refine WL.val (by kernel_rfl) (.bool false) (by go_simp) ?_
              simp only [Act.put, List.setIfInBounds_toArray, List.set_cons_zero, List.set_cons_succ]
              refine WL.val (by kernel_rfl) (.bool true) (by go_simp) ?_
              simp only [Act.put, List.setIfInBounds_toArray, List.set_cons_zero, List.set_cons_succ]
              refine WL.val (by kernel_rfl) (.bool true) (by go_simp) ?_
              simp only [Act.put, List.setIfInBounds_toArray, List.set_cons_zero, List.set_cons_succ]
              refine WL.val (by kernel_rfl) (.bool true) (by go_simp) ?_
              simp only [Act.put, List.setIfInBounds_toArray, List.set_cons_zero, List.set_cons_succ]
              refine WL.nil ?_
              refine hK5 _ _ ?_
              refine wp_cond_true rfl ?_
              refine wp_seq_k fun K9 hK9 => ?_
              refine wp_region_list (WL.out ?_)
              refine WL.val (by kernel_rfl) (.int .i64 51) (by go_simp) ?_
              simp only [Act.put, List.setIfInBounds_toArray, List.set_cons_zero, List.set_cons_succ]
              refine WL.nil ?_
              refine hK9 _ _ ?_
              refine wp_ret ?_
              go_ret
              refine ⟨?_, belowT LB1.out B2.out⟩
              rw [chkV, if_neg (by rw [hrb.out]; simp only [h1_8]; simp; omega), if_pos (by omega)]; rfl
          · skip
            refine WL.val (by kernel_rfl) (.bool false) (by go_simp) ?_
            simp only [Act.put, List.setIfInBounds_toArray, List.set_cons_zero, List.set_cons_succ]
            refine WL.val (by kernel_rfl) (.pointer (some ⟨w.heap.size, 33, none⟩)) (by go_simp) ?_
            simp only [Act.put, List.setIfInBounds_toArray, List.set_cons_zero, List.set_cons_succ]
            refine WL.val (by kernel_rfl) (.slice pa v.ps.length pc) (by go_simp) ?_
            simp only [Act.put, List.setIfInBounds_toArray, List.set_cons_zero, List.set_cons_succ]
            refine WL.val (by kernel_rfl) (.int .i64 (v.ps.length : Int)) (by go_simp) ?_
            simp only [Act.put, List.setIfInBounds_toArray, List.set_cons_zero, List.set_cons_succ]
            by_cases h3_15 : (v.ps.length : Int) = 0
            · have hps : v.ps = [] := List.eq_nil_of_length_eq_zero (by omega)
              refine WL.val (by kernel_rfl) (.bool true) (by go_simp) ?_
              simp only [Act.put, List.setIfInBounds_toArray, List.set_cons_zero, List.set_cons_succ]
              refine WL.val (by kernel_rfl) (.bool true) (by go_simp) ?_
              simp only [Act.put, List.setIfInBounds_toArray, List.set_cons_zero, List.set_cons_succ]
              refine WL.val (by kernel_rfl) (.bool true) (by go_simp) ?_
              simp only [Act.put, List.setIfInBounds_toArray, List.set_cons_zero, List.set_cons_succ]
              refine WL.val (by kernel_rfl) (.bool true) (by go_simp) ?_
              simp only [Act.put, List.setIfInBounds_toArray, List.set_cons_zero, List.set_cons_succ]
              refine WL.nil ?_
              refine hK5 _ _ ?_
              refine wp_cond_true rfl ?_
              refine wp_seq_k fun K10 hK10 => ?_
              refine wp_region_list (WL.out ?_)
              refine WL.val (by kernel_rfl) (.int .i64 51) (by go_simp) ?_
              simp only [Act.put, List.setIfInBounds_toArray, List.set_cons_zero, List.set_cons_succ]
              refine WL.nil ?_
              refine hK10 _ _ ?_
              refine wp_ret ?_
              go_ret
              refine ⟨?_, belowT LB1.out B2.out⟩
              rw [chkV, if_neg (by rw [hrb.out]; simp only [h1_8]; simp; omega), if_pos (by omega)]; rfl
            · have hps : ¬ v.ps = [] := fun h => by rw [h] at h3_15; simp at h3_15
              refine WL.val (by kernel_rfl) (.bool false) (by go_simp) ?_
              simp only [Act.put, List.setIfInBounds_toArray, List.set_cons_zero, List.set_cons_succ]
              refine WL.val (by kernel_rfl) (.bool false) (by go_simp) ?_
              simp only [Act.put, List.setIfInBounds_toArray, List.set_cons_zero, List.set_cons_succ]
              refine WL.val (by kernel_rfl) (.bool false) (by go_simp) ?_
              simp only [Act.put, List.setIfInBounds_toArray, List.set_cons_zero, List.set_cons_succ]
              refine WL.val (by kernel_rfl) (.bool false) (by go_simp) ?_
              simp only [Act.put, List.setIfInBounds_toArray, List.set_cons_zero, List.set_cons_succ]
              refine WL.nil ?_
              refine hK5 _ _ ?_
              refine wp_cond_false rfl ?_
              refine wp_skip ?_
              refine hK2 _ _ ?_
              refine wp_seq_k fun K11 hK11 => ?_
              refine wp_region_list (WL.out ?_)
              refine WL.val (by kernel_rfl) (.int .i64 0) (by go_simp) ?_
              simp only [Act.put, List.setIfInBounds_toArray, List.set_cons_zero, List.set_cons_succ]
              refine WL.nil ?_
              refine hK11 _ _ ?_
              refine wp_ret ?_
              go_ret
              refine ⟨?_, belowT LB1.out B2.out⟩
              rw [chkV, if_neg (by rw [hrb.out]; simp only [h1_8]; simp; omega), if_neg (by omega)]; rfl
    · skip
      refine WL.val (by kernel_rfl) (.bool true) (by go_simp) ?_
      simp only [Act.put, List.setIfInBounds_toArray, List.set_cons_zero, List.set_cons_succ]
      refine WL.val (by kernel_rfl) (.bool true) (by go_simp) ?_
      simp only [Act.put, List.setIfInBounds_toArray, List.set_cons_zero, List.set_cons_succ]
      refine WL.val (by kernel_rfl) (.bool true) (by go_simp) ?_
      simp only [Act.put, List.setIfInBounds_toArray, List.set_cons_zero, List.set_cons_succ]
      refine WL.nil ?_
      refine hK3 _ _ ?_
      refine wp_cond_true rfl ?_
      refine wp_seq_k fun K12 hK12 => ?_
      refine wp_region_list (WL.out ?_)
      refine WL.val (by kernel_rfl) (.int .i64 52) (by go_simp) ?_
      simp only [Act.put, List.setIfInBounds_toArray, List.set_cons_zero, List.set_cons_succ]
      refine WL.nil ?_
      refine hK12 _ _ ?_
      refine wp_ret ?_
      go_ret
      refine ⟨?_, belowT LB1.out B2.out⟩
      rw [chkV, if_pos (.inr (by rw [hrb.out]; simpa using h1_8))]; rfl
set_option maxRecDepth 8000 in
set_option maxHeartbeats 1000000 in
theorem fit_any (d : Nat) (v : VX) (p : Value) (Av : Nat → Prop) (g : DG) (w : World) (hD : DagAt w Av d g) (hr : HRow w p v.ps) (hM : ∀ v ∈ g.held, 0 ≤ v.ck ∧ v.ck ≤ 4096) (hL : (v.ps.length : Int) ≤ 9223372036854775806) : Calls Tryz.prog 31 #[ptr d, .agg (vtx v.id.f v.ck p)] w fun e w' => e = .returned (.tuple #[.int .i64 (fitV g.held g.wait v).1, .int .i64 (fitV g.held g.wait v).2]) ∧ Below w.heap.size w w' := by
  obtain ⟨pa, pc, rfl⟩ := hr.form
  obtain ⟨vv, hvv⟩ : ∃ a : Array Value, Keep (a = vtx v.id.f v.ck (.slice pa v.ps.length pc)) := ⟨_, ⟨rfl⟩⟩
  rw [← hvv.out]
  have HD := Keep.mk hD
  have HR := Keep.mk hr
  have HM := Keep.mk hM
  have HL := Keep.mk hL
  clear hD hr hM hL
  go_enter Tryz.func31, Tryz.ntmps31
  refine wp_seq_k fun K1 hK1 => ?_
  refine wp_region_list (WL.out ?_)
  refine WL.box (by kernel_rfl) 61 (.tmp 1) rfl (vv) rfl ?_
  obtain ⟨w1, hwn⟩ : ∃ wx, Keep (wx = w.alloc (.cells (vv) 61)) := ⟨_, ⟨rfl⟩⟩
  rw [← hwn.out]
  have HX1 : Keep (Blk w1 w.heap.size 61 (vv)) := ⟨by rw [hwn.out]; exact Blk.new _ _ _⟩
  have LB1 : Keep (Below w.heap.size w w1) := ⟨by rw [hwn.out]; exact below_new _ _⟩
  clear hwn
  simp only [Act.put, List.setIfInBounds_toArray, List.set_cons_zero, List.set_cons_succ]
  refine WL.val (by kernel_rfl) (.int .i64 0) (by go_simp) ?_
  simp only [Act.put, List.setIfInBounds_toArray, List.set_cons_zero, List.set_cons_succ]
  refine WL.val (by kernel_rfl) (.int .i64 0) (by go_simp) ?_
  simp only [Act.put, List.setIfInBounds_toArray, List.set_cons_zero, List.set_cons_succ]
  refine WL.nil ?_
  refine hK1 _ _ ?_
  refine wp_seq_k fun K2 hK2 => ?_
  refine wp_seq_k fun K3 hK3 => ?_
  have HD1 := Keep.mk (HD.out.below LB1.out)
  have HR1 := Keep.mk (HR.out.below LB1.out)
  clear HD HR
  refine wp_region_list (WL.out ?_)
  refine WL.val (by kernel_rfl) (.pointer (some ⟨d, 0, none⟩)) (by go_simp) ?_
  simp only [Act.put, List.setIfInBounds_toArray, List.set_cons_zero, List.set_cons_succ]
  refine WL.val (by kernel_rfl) (.pointer (some ⟨w.heap.size, 0, none⟩)) (by go_simp) ?_
  simp only [Act.put, List.setIfInBounds_toArray, List.set_cons_zero, List.set_cons_succ]
  refine WL.midA (by kernel_rfl) 50 (.tmp 9) rfl w.heap.size 0 rfl (bytesA 32 v.id.f) _ (vtx_rng (hvv.out ▸ HX1.out)) Tryz.underlying50 rfl (Tryz.size50B _) ?_
  simp only [Act.put, List.setIfInBounds_toArray, List.set_cons_zero, List.set_cons_succ]
  refine WL.callF (by kernel_rfl) 57 _ _ rfl Tryz.in57 #[ptr d, .agg (bytesA 32 v.id.f)] (by simp [Act.eval]) ?_
  refine (has_any d v.id Av g w1 HD1.out).mono ?_
  rintro e w2 ⟨rfl, hz⟩
  refine ⟨_, rfl, ?_⟩
  have HX2 := Keep.mk (HX1.out.below hz HX1.out.lt)
  have LB2 := Keep.mk (belowT LB1.out hz)
  have HD2 := Keep.mk (HD1.out.below hz)
  have HR2 := Keep.mk (HR1.out.below hz)
  clear hz HX1 LB1 HD1 HR1
  obtain ⟨b1, Hb1⟩ : ∃ b, Keep (hasB g.held v.id = b) := ⟨_, ⟨rfl⟩⟩
  rw [show (g.held.find? (isV v.id)).isSome = b1 from Hb1.out]
  simp only [Act.put, List.setIfInBounds_toArray, List.set_cons_zero, List.set_cons_succ]
  by_cases h1_4 : b1 = true
  · skip
    refine WL.val (by kernel_rfl) (.bool true) (by go_simp) ?_
    simp only [Act.put, List.setIfInBounds_toArray, List.set_cons_zero, List.set_cons_succ]
    refine WL.skip (by kernel_rfl) ?_
    simp only [Act.put, List.setIfInBounds_toArray, List.set_cons_zero, List.set_cons_succ]
    refine WL.skip (by kernel_rfl) ?_
    simp only [Act.put, List.setIfInBounds_toArray, List.set_cons_zero, List.set_cons_succ]
    refine WL.skip (by kernel_rfl) ?_
    simp only [Act.put, List.setIfInBounds_toArray, List.set_cons_zero, List.set_cons_succ]
    refine WL.skip (by kernel_rfl) ?_
    simp only [Act.put, List.setIfInBounds_toArray, List.set_cons_zero, List.set_cons_succ]
    refine WL.val (by kernel_rfl) (.bool true) (by go_simp) ?_
    simp only [Act.put, List.setIfInBounds_toArray, List.set_cons_zero, List.set_cons_succ]
    refine WL.nil ?_
    refine hK3 _ _ ?_
    refine wp_cond_true rfl ?_
    refine wp_seq_k fun K4 hK4 => ?_
    refine wp_region_list (WL.out ?_)
    refine WL.val (by kernel_rfl) (.int .i64 1) (by go_simp) ?_
    simp only [Act.put, List.setIfInBounds_toArray, List.set_cons_zero, List.set_cons_succ]
    refine WL.val (by kernel_rfl) (.int .i64 0) (by go_simp) ?_
    simp only [Act.put, List.setIfInBounds_toArray, List.set_cons_zero, List.set_cons_succ]
    refine WL.nil ?_
    refine hK4 _ _ ?_
    refine wp_ret ?_
    go_ret2
    refine ⟨?_, LB2.out⟩
    unfold fitV
    rw [if_pos (.inl (by rw [Hb1.out]; exact h1_4))]; rfl
  · skip
    refine WL.val (by kernel_rfl) (.bool false) (by go_simp) ?_
    simp only [Act.put, List.setIfInBounds_toArray, List.set_cons_zero, List.set_cons_succ]
    refine WL.val (by kernel_rfl) (.pointer (some ⟨d, 0, none⟩)) (by go_simp) ?_
    simp only [Act.put, List.setIfInBounds_toArray, List.set_cons_zero, List.set_cons_succ]
    refine WL.val (by kernel_rfl) (.pointer (some ⟨w.heap.size, 0, none⟩)) (by go_simp) ?_
    simp only [Act.put, List.setIfInBounds_toArray, List.set_cons_zero, List.set_cons_succ]
    refine WL.midA (by kernel_rfl) 50 (.tmp 14) rfl w.heap.size 0 rfl (bytesA 32 v.id.f) _ (vtx_rng (hvv.out ▸ HX2.out)) Tryz.underlying50 rfl (Tryz.size50B _) ?_
    simp only [Act.put, List.setIfInBounds_toArray, List.set_cons_zero, List.set_cons_succ]
    refine WL.callF (by kernel_rfl) 58 _ _ rfl Tryz.in58 #[ptr d, .agg (bytesA 32 v.id.f)] (by simp [Act.eval]) ?_
    refine (waits_any d v.id Av g w2 HD2.out).mono ?_
    rintro e w3 ⟨rfl, hz⟩
    refine ⟨_, rfl, ?_⟩
    have HX3 := Keep.mk (HX2.out.below hz HX2.out.lt)
    have LB3 := Keep.mk (belowT LB2.out hz)
    have HD3 := Keep.mk (HD2.out.below hz)
    have HR3 := Keep.mk (HR2.out.below hz)
    clear hz HX2 LB2 HD2 HR2
    obtain ⟨b2, Hb2⟩ : ∃ b, Keep (hasB g.wait v.id = b) := ⟨_, ⟨rfl⟩⟩
    rw [show (g.wait.find? (isV v.id)).isSome = b2 from Hb2.out]
    simp only [Act.put, List.setIfInBounds_toArray, List.set_cons_zero, List.set_cons_succ]
    refine WL.val (by kernel_rfl) (.bool b2) (by go_simp) ?_
    simp only [Act.put, List.setIfInBounds_toArray, List.set_cons_zero, List.set_cons_succ]
    refine WL.nil ?_
    refine hK3 _ _ ?_
    rcases Bool.eq_false_or_eq_true b2 with hb2 | hb2
    · subst hb2
      refine wp_cond_true rfl ?_
      refine wp_seq_k fun K5 hK5 => ?_
      refine wp_region_list (WL.out ?_)
      refine WL.val (by kernel_rfl) (.int .i64 1) (by go_simp) ?_
      simp only [Act.put, List.setIfInBounds_toArray, List.set_cons_zero, List.set_cons_succ]
      refine WL.val (by kernel_rfl) (.int .i64 0) (by go_simp) ?_
      simp only [Act.put, List.setIfInBounds_toArray, List.set_cons_zero, List.set_cons_succ]
      refine WL.nil ?_
      refine hK5 _ _ ?_
      refine wp_ret ?_
      go_ret2
      refine ⟨?_, LB3.out⟩
      unfold fitV
      rw [if_pos (.inr Hb2.out)]; rfl
    · subst hb2
      refine wp_cond_false rfl ?_
      refine wp_skip ?_
      refine hK2 _ _ ?_
      refine wp_seq_k fun K6 hK6 => ?_
      refine wp_seq_k fun K7 hK7 => ?_
      refine wp_region_list (WL.out ?_)
      refine WL.row (by kernel_rfl) 61 (.tmp 3) rfl w.heap.size rfl 61 vv _ HX3.out Tryz.underlying61 rfl (by rw [hvv.out]; exact Tryz.info61s _ _ _) ?_
      simp only [Act.put, List.setIfInBounds_toArray, List.set_cons_zero, List.set_cons_succ]
      have hck := check_any v _ w3 HR3.out HL.out
      rw [← hvv.out] at hck
      refine WL.callF (by kernel_rfl) 59 _ _ rfl Tryz.in59 #[.agg vv] (by simp [Act.eval]) ?_
      refine (hck).mono ?_
      rintro e w4 ⟨rfl, hz⟩
      refine ⟨_, rfl, ?_⟩
      clear hck
      have HX4 := Keep.mk (HX3.out.below hz HX3.out.lt)
      have LB4 := Keep.mk (belowT LB3.out hz)
      have HD4 := Keep.mk (HD3.out.below hz)
      have HR4 := Keep.mk (HR3.out.below hz)
      clear hz HX3 LB3 HD3 HR3
      obtain ⟨ce, Hce⟩ : ∃ b, Keep (chkV v = b) := ⟨_, ⟨rfl⟩⟩
      rw [Hce.out]
      simp only [Act.put, List.setIfInBounds_toArray, List.set_cons_zero, List.set_cons_succ]
      refine WL.val (by kernel_rfl) (.int .i64 ce) (by go_simp) ?_
      simp only [Act.put, List.setIfInBounds_toArray, List.set_cons_zero, List.set_cons_succ]
      refine WL.nil ?_
      refine hK7 _ _ ?_
      refine wp_seq_k fun K8 hK8 => ?_
      refine wp_region_list (WL.out ?_)
      refine WL.val (by kernel_rfl) (.int .i64 ce) (by go_simp) ?_
      simp only [Act.put, List.setIfInBounds_toArray, List.set_cons_zero, List.set_cons_succ]
      by_cases h4_1 : ce = 0
      · skip
        refine WL.val (by kernel_rfl) (.bool false) (by go_simp) ?_
        simp only [Act.put, List.setIfInBounds_toArray, List.set_cons_zero, List.set_cons_succ]
        refine WL.nil ?_
        refine hK8 _ _ ?_
        refine wp_cond_false rfl ?_
        refine wp_skip ?_
        refine hK6 _ _ ?_
        refine wp_seq_k fun K9 hK9 => ?_
        refine wp_seq_k fun K10 hK10 => ?_
        have c33 : w4.cell? ⟨w.heap.size, 33, none⟩ = some (.slice pa v.ps.length pc) := HX4.out.c 33 (by rw [hvv.out]; exact vtx_ps _ _ _)
        refine wp_region_list (WL.out ?_)
        refine WL.val (by kernel_rfl) (.pointer (some ⟨d, 0, none⟩)) (by go_simp) ?_
        simp only [Act.put, List.setIfInBounds_toArray, List.set_cons_zero, List.set_cons_succ]
        refine WL.val (by kernel_rfl) (.pointer (some ⟨w.heap.size, 33, none⟩)) (by go_simp) ?_
        simp only [Act.put, List.setIfInBounds_toArray, List.set_cons_zero, List.set_cons_succ]
        refine WL.val (by kernel_rfl) (.slice pa v.ps.length pc) (by go_simp) ?_
        simp only [Act.put, List.setIfInBounds_toArray, List.set_cons_zero, List.set_cons_succ]
        clear c33
        have hal := hasAll_any d _ v.ps Av g w4 HD4.out HR4.out HL.out
        refine WL.callF (by kernel_rfl) 60 _ _ rfl Tryz.in60 #[ptr d, .slice pa v.ps.length pc] (by simp [Act.eval]) ?_
        refine (hal).mono ?_
        rintro e w5 ⟨rfl, hz⟩
        refine ⟨_, rfl, ?_⟩
        clear hal
        have HX5 := Keep.mk (HX4.out.below hz HX4.out.lt)
        have LB5 := Keep.mk (belowT LB4.out hz)
        have HD5 := Keep.mk (HD4.out.below hz)
        have HR5 := Keep.mk (HR4.out.below hz)
        clear hz HX4 LB4 HD4 HR4
        obtain ⟨ba, Hba⟩ : ∃ b, Keep (v.ps.all (hasB g.held) = b) := ⟨_, ⟨rfl⟩⟩
        rw [Hba.out]
        simp only [Act.put, List.setIfInBounds_toArray, List.set_cons_zero, List.set_cons_succ]
        by_cases h6_4 : ba = true
        · skip
          refine WL.val (by kernel_rfl) (.bool false) (by go_simp) ?_
          simp only [Act.put, List.setIfInBounds_toArray, List.set_cons_zero, List.set_cons_succ]
          refine WL.nil ?_
          refine hK10 _ _ ?_
          refine wp_cond_false rfl ?_
          refine wp_skip ?_
          refine hK9 _ _ ?_
          refine wp_seq_k fun K11 hK11 => ?_
          refine wp_seq_k fun K12 hK12 => ?_
          refine wp_region_list (WL.out ?_)
          refine WL.val (by kernel_rfl) (.pointer (some ⟨d, 0, none⟩)) (by go_simp) ?_
          simp only [Act.put, List.setIfInBounds_toArray, List.set_cons_zero, List.set_cons_succ]
          refine WL.row (by kernel_rfl) 61 (.tmp 3) rfl w.heap.size rfl 61 vv _ HX5.out Tryz.underlying61 rfl (by rw [hvv.out]; exact Tryz.info61s _ _ _) ?_
          simp only [Act.put, List.setIfInBounds_toArray, List.set_cons_zero, List.set_cons_succ]
          have hnx := next_any d v _ Av g w5 HD5.out HR5.out HM.out HL.out
          rw [← hvv.out] at hnx
          refine WL.callF (by kernel_rfl) 61 _ _ rfl Tryz.in61 #[ptr d, .agg vv] (by simp [Act.eval]) ?_
          refine (hnx).mono ?_
          rintro e w6 ⟨rfl, hz⟩
          refine ⟨_, rfl, ?_⟩
          clear hnx
          have HX6 := Keep.mk (HX5.out.below hz HX5.out.lt)
          have LB6 := Keep.mk (belowT LB5.out hz)
          have HD6 := Keep.mk (HD5.out.below hz)
          have HR6 := Keep.mk (HR5.out.below hz)
          clear hz HX5 LB5 HD5 HR5
          obtain ⟨ne, Hne⟩ : ∃ b, Keep (nextE g.held v = b) := ⟨_, ⟨rfl⟩⟩
          rw [Hne.out]
          simp only [Act.put, List.setIfInBounds_toArray, List.set_cons_zero, List.set_cons_succ]
          refine WL.val (by kernel_rfl) (.int .i64 ne) (by go_simp) ?_
          simp only [Act.put, List.setIfInBounds_toArray, List.set_cons_zero, List.set_cons_succ]
          refine WL.nil ?_
          refine hK12 _ _ ?_
          refine wp_seq_k fun K13 hK13 => ?_
          refine wp_region_list (WL.out ?_)
          refine WL.val (by kernel_rfl) (.int .i64 ne) (by go_simp) ?_
          simp only [Act.put, List.setIfInBounds_toArray, List.set_cons_zero, List.set_cons_succ]
          by_cases h9_1 : ne = 0
          · skip
            refine WL.val (by kernel_rfl) (.bool false) (by go_simp) ?_
            simp only [Act.put, List.setIfInBounds_toArray, List.set_cons_zero, List.set_cons_succ]
            refine WL.nil ?_
            refine hK13 _ _ ?_
            refine wp_cond_false rfl ?_
            refine wp_skip ?_
            refine hK11 _ _ ?_
            refine wp_seq_k fun K14 hK14 => ?_
            refine wp_region_list (WL.out ?_)
            refine WL.val (by kernel_rfl) (.int .i64 2) (by go_simp) ?_
            simp only [Act.put, List.setIfInBounds_toArray, List.set_cons_zero, List.set_cons_succ]
            refine WL.val (by kernel_rfl) (.int .i64 0) (by go_simp) ?_
            simp only [Act.put, List.setIfInBounds_toArray, List.set_cons_zero, List.set_cons_succ]
            refine WL.nil ?_
            refine hK14 _ _ ?_
            refine wp_ret ?_
            go_ret2
            refine ⟨?_, LB6.out⟩
            unfold fitV
            rw [if_neg (by rw [Hb1.out, Hb2.out]; simp [h1_4]), Hce.out]
            rw [if_neg (by simpa using h4_1), Hba.out]
            rw [if_neg (by simp [h6_4]), Hne.out]
            rw [if_neg (by simpa using h9_1)]; rfl
          · skip
            refine WL.val (by kernel_rfl) (.bool true) (by go_simp) ?_
            simp only [Act.put, List.setIfInBounds_toArray, List.set_cons_zero, List.set_cons_succ]
            refine WL.nil ?_
            refine hK13 _ _ ?_
            refine wp_cond_true rfl ?_
            refine wp_seq_k fun K15 hK15 => ?_
            refine wp_region_list (WL.out ?_)
            refine WL.val (by kernel_rfl) (.int .i64 ne) (by go_simp) ?_
            simp only [Act.put, List.setIfInBounds_toArray, List.set_cons_zero, List.set_cons_succ]
            refine WL.val (by kernel_rfl) (.int .i64 0) (by go_simp) ?_
            simp only [Act.put, List.setIfInBounds_toArray, List.set_cons_zero, List.set_cons_succ]
            refine WL.val (by kernel_rfl) (.int .i64 ne) (by go_simp) ?_
            simp only [Act.put, List.setIfInBounds_toArray, List.set_cons_zero, List.set_cons_succ]
            refine WL.nil ?_
            refine hK15 _ _ ?_
            refine wp_ret ?_
            go_ret2
            refine ⟨?_, LB6.out⟩
            unfold fitV
            rw [if_neg (by rw [Hb1.out, Hb2.out]; simp [h1_4]), Hce.out]
            rw [if_neg (by simpa using h4_1), Hba.out]
            rw [if_neg (by simp [h6_4]), Hne.out]
            rw [if_pos h9_1]; rfl
        · skip
          refine WL.val (by kernel_rfl) (.bool true) (by go_simp) ?_
          simp only [Act.put, List.setIfInBounds_toArray, List.set_cons_zero, List.set_cons_succ]
          refine WL.nil ?_
          refine hK10 _ _ ?_
          refine wp_cond_true rfl ?_
          refine wp_seq_k fun K16 hK16 => ?_
          refine wp_region_list (WL.out ?_)
          refine WL.val (by kernel_rfl) (.int .i64 3) (by go_simp) ?_
          simp only [Act.put, List.setIfInBounds_toArray, List.set_cons_zero, List.set_cons_succ]
          refine WL.val (by kernel_rfl) (.int .i64 0) (by go_simp) ?_
          simp only [Act.put, List.setIfInBounds_toArray, List.set_cons_zero, List.set_cons_succ]
          refine WL.nil ?_
          refine hK16 _ _ ?_
          refine wp_ret ?_
          go_ret2
          refine ⟨?_, LB5.out⟩
          unfold fitV
          rw [if_neg (by rw [Hb1.out, Hb2.out]; simp [h1_4]), Hce.out]
          rw [if_neg (by simpa using h4_1), Hba.out]
          rw [if_pos (by simpa using h6_4)]; rfl
      · skip
        refine WL.val (by kernel_rfl) (.bool true) (by go_simp) ?_
        simp only [Act.put, List.setIfInBounds_toArray, List.set_cons_zero, List.set_cons_succ]
        refine WL.nil ?_
        refine hK8 _ _ ?_
        refine wp_cond_true rfl ?_
        refine wp_seq_k fun K17 hK17 => ?_
        refine wp_region_list (WL.out ?_)
        refine WL.val (by kernel_rfl) (.int .i64 ce) (by go_simp) ?_
        simp only [Act.put, List.setIfInBounds_toArray, List.set_cons_zero, List.set_cons_succ]
        refine WL.val (by kernel_rfl) (.int .i64 0) (by go_simp) ?_
        simp only [Act.put, List.setIfInBounds_toArray, List.set_cons_zero, List.set_cons_succ]
        refine WL.val (by kernel_rfl) (.int .i64 ce) (by go_simp) ?_
        simp only [Act.put, List.setIfInBounds_toArray, List.set_cons_zero, List.set_cons_succ]
        refine WL.nil ?_
        refine hK17 _ _ ?_
        refine wp_ret ?_
        go_ret2
        refine ⟨?_, LB4.out⟩
        unfold fitV
        rw [if_neg (by rw [Hb1.out, Hb2.out]; simp [h1_4]), Hce.out]
        rw [if_pos h4_1]; rfl
theorem Tryz.in65 (w : World) (vs : Array Value) : (callFunc 65 vs).run Tryz.prog w = .ok (.enter 65 vs) w := by kernel_rfl
theorem Tryz.in92 (w : World) (vs : Array Value) : (callFunc 92 vs).run Tryz.prog w = .ok (.enter 92 vs) w := by kernel_rfl
theorem WL.appL {ops : Array Oper} {rest : List Oper} {o : Oper} {a : Act} {w : World} {Q : Exit → Act → World → Prop} (hw : Region.wanted o (yielded ops a.tmps) = true) (s x : Operand)
    (ho : o.op = .call { callee := .builtin .append, args := #[s, x], argTypes := #[25, 25] }) (base : Nat) (v vx : Value) (L M : List Hs)
    (hs : a.eval s = v) (hx : a.eval x = vx) (hown : w.ownsRow base 50 32 v L.length (flatH L)) (hrow : HRow w vx M) (hb : L.length + M.length ≤ 4398046511104) (hbase : base ≤ w.heap.size)
    (h : ∀ v' w', w'.ownsRow base 50 32 v' (L ++ M).length (flatH (L ++ M)) → w.grownBy w' v.ownBlock → WL Tryz.prog ops Q rest (a.put o.dst v') w') : WL Tryz.prog ops Q (o :: rest) a w :=
  ⟨wpList_wanted hw fun K hK => wp_appH s x ho base v vx L M hs hx hown hrow hb hbase fun v' w' h1 h2 => hK _ _ (h v' w' h1 h2).out⟩
theorem belowG {B : Nat} {a b c : World} {o : Option Nat} (h : Below B a b) (hg : b.grownBy c o) (hB : B ≤ b.heap.size) (ho : ∀ k, o = some k → B ≤ k) : Below B a c :=
  h.trans ⟨hg.os, hg.tape, hg.output, hg.size, fun k hk => hg.block k (by omega) fun e => by have := ho k e.symm; omega⟩
theorem OwnH.of {w : World} {base : Nat} {v : Value} {l : List Hs} (h : w.ownsRow base 50 32 v l.length (flatH l)) : OwnH w v l := ownsH_mono h (Nat.zero_le _)
theorem own_new (w : World) : (w.alloc (.cells #[] 50)).ownsRow w.heap.size 50 32 (.slice (some ⟨w.heap.size, 0, none⟩) 0 0) ([] : List Hs).length (flatH []) :=
  ⟨rfl, .inr ⟨w.heap.size, 0, #[], rfl, Nat.le_refl _, Blk.new w 50 #[], Nat.le_refl _, by decide, rfl, rfl⟩⟩
theorem eqn0 (w : World) : (binOp .eql 25 (.slice none 0 0) (.slice none 0 0)).run Tryz.prog w = .ok (.bool true) w := by kernel_rfl
theorem eqn1 (ad : Addr) (n c : Nat) (w : World) : (binOp .eql 25 (.slice (some ad) n c) (.slice none 0 0)).run Tryz.prog w = .ok (.bool false) w := by kernel_rfl
structure Fresh (w w' : World) (v : Value) (l : List Hs) : Prop where
  own : OwnH w' v l
  new : ∀ k, v.ownBlock = some k → w.heap.size ≤ k
  bel : Below w.heap.size w w'
set_option maxRecDepth 8000 in
theorem clone_any (v : Value) (l : List Hs) (w : World) (hr : HRow w v l) (hL : l.length ≤ 4398046511104) : Calls Tryz.prog 65 #[v] w fun e w' => ∃ v', e = .returned v' ∧ Fresh w w' v' l := by
  obtain ⟨pa, pc, rfl⟩ := hr.form
  have HL := Keep.mk hL
  have HR := Keep.mk hr
  rcases pa with _ | ad
  · obtain ⟨hl, hp⟩ : l = [] ∧ pc = 0 := by
      rcases hr with ⟨a, c, h1, h2, h3⟩ | ⟨b, off, cap, h1, h2, h3⟩
      · injection h1 with h4 h5 h6
        exact ⟨h2, by rw [h6]; exact h3 h4.symm⟩
      · injection h1 with h4; cases h4
    have hll : l.length = 0 := by rw [hl]; rfl
    rw [hll, hp]
    clear hr hL
    go_enter Tryz.func65, Tryz.ntmps65
    refine wp_seq_k fun K1 hK1 => ?_
    refine wp_region_list (WL.out ?_)
    refine WL.val (by kernel_rfl) (.slice none 0 0) (by go_simp) ?_
    simp only [Act.put, List.setIfInBounds_toArray, List.set_cons_zero, List.set_cons_succ]
    refine WL.nil ?_
    refine hK1 _ _ ?_
    refine wp_seq_k fun K2 hK2 => ?_
    refine wp_seq_k fun K3 hK3 => ?_
    refine wp_region_list (WL.out ?_)
    refine WL.val (by kernel_rfl) (.slice none 0 0) (by go_simp) ?_
    simp only [Act.put, List.setIfInBounds_toArray, List.set_cons_zero, List.set_cons_succ]
    refine WL.val (by kernel_rfl) (.bool true) (by go_simp; rw [eqn0]; rfl) ?_
    simp only [Act.put, List.setIfInBounds_toArray, List.set_cons_zero, List.set_cons_succ]
    refine WL.nil ?_
    refine hK3 _ _ ?_
    refine wp_cond_true rfl ?_
    refine wp_seq_k fun K4 hK4 => ?_
    refine wp_region_list (WL.out ?_)
    refine WL.val (by kernel_rfl) (.slice none 0 0) (by go_simp) ?_
    simp only [Act.put, List.setIfInBounds_toArray, List.set_cons_zero, List.set_cons_succ]
    refine WL.nil ?_
    refine hK4 _ _ ?_
    refine wp_ret ?_
    go_ret
    exact ⟨_, rfl, ⟨by subst hl; exact ownH_nil _, fun k hk => by simp [Value.ownBlock] at hk, Below.refl _ _⟩⟩
  · clear hr hL
    go_enter Tryz.func65, Tryz.ntmps65
    refine wp_seq_k fun K1 hK1 => ?_
    refine wp_region_list (WL.out ?_)
    refine WL.val (by kernel_rfl) (.slice none 0 0) (by go_simp) ?_
    simp only [Act.put, List.setIfInBounds_toArray, List.set_cons_zero, List.set_cons_succ]
    refine WL.nil ?_
    refine hK1 _ _ ?_
    refine wp_seq_k fun K2 hK2 => ?_
    refine wp_seq_k fun K3 hK3 => ?_
    refine wp_region_list (WL.out ?_)
    refine WL.val (by kernel_rfl) (.slice (some ad) l.length pc) (by go_simp) ?_
    simp only [Act.put, List.setIfInBounds_toArray, List.set_cons_zero, List.set_cons_succ]
    refine WL.val (by kernel_rfl) (.bool false) (by go_simp; rw [eqn1]; rfl) ?_
    simp only [Act.put, List.setIfInBounds_toArray, List.set_cons_zero, List.set_cons_succ]
    refine WL.nil ?_
    refine hK3 _ _ ?_
    refine wp_cond_false rfl ?_
    refine wp_skip ?_
    refine hK2 _ _ ?_
    refine wp_seq_k fun K4 hK4 => ?_
    refine wp_region_list (WL.out ?_)
    refine WL.bs (by kernel_rfl) 25 0 _ rfl #[] (by simp) _ _ (bsHE w) ?_
    have HN := Keep.mk (own_new w)
    have BN := Keep.mk (below_new w (.cells #[] 50))
    generalize w.alloc (.cells #[] 50) = w1 at *
    simp only [Act.put, List.setIfInBounds_toArray, List.set_cons_zero, List.set_cons_succ]
    refine WL.val (by kernel_rfl) (.slice (some ad) l.length pc) (by go_simp) ?_
    simp only [Act.put, List.setIfInBounds_toArray, List.set_cons_zero, List.set_cons_succ]
    refine WL.appL (by kernel_rfl) (.tmp 5) (.tmp 6) rfl w.heap.size _ _ [] l rfl rfl HN.out (HR.out.below BN.out) (by have := HL.out; simp; omega) BN.out.size fun v1 w2 h1 h2 => ?_
    have H1 := Keep.mk h1
    have B2 := Keep.mk (belowG BN.out h2 BN.out.size fun k hk => by cases hk; exact Nat.le_refl _)
    clear h1 h2
    simp only [Act.put, List.setIfInBounds_toArray, List.set_cons_zero, List.set_cons_succ]
    refine WL.val (by kernel_rfl) (v1) (by go_simp) ?_
    simp only [Act.put, List.setIfInBounds_toArray, List.set_cons_zero, List.set_cons_succ]
    refine WL.nil ?_
    refine hK4 _ _ ?_
    refine wp_ret ?_
    go_ret
    exact ⟨_, rfl, ⟨OwnH.of H1.out, ownsH_block H1.out, B2.out⟩⟩
theorem vtx_set (c : Nat → Int) (k : Int) (p q : Value) : (vtx c k p).setIfInBounds 33 q = vtx c k q := by
  apply Array.ext_getElem?
  intro i
  rw [Array.getElem?_setIfInBounds]
  by_cases e : 33 = i
  · subst e; rw [if_pos rfl, if_pos (by rw [vtx_size]; omega), vtx_ps]
  · rw [if_neg e]
    unfold vtx
    by_cases h : i < 32
    · rw [Array.getElem?_append_left (by rw [bytesA_size]; exact h), Array.getElem?_append_left (by rw [bytesA_size]; exact h)]
    · rw [Array.getElem?_append_right (by rw [bytesA_size]; omega), Array.getElem?_append_right (by rw [bytesA_size]; omega), bytesA_size]
      by_cases h2 : i = 32
      · subst h2; rfl
      · rw [Array.getElem?_eq_none (by simp; omega), Array.getElem?_eq_none (by simp; omega)]
set_option maxRecDepth 8000 in
set_option maxHeartbeats 1000000 in
theorem own_any (v : VX) (p : Value) (w : World) (hr : HRow w p v.ps) (hL : v.ps.length ≤ 4398046511104) : Calls Tryz.prog 92 #[.agg (vtx v.id.f v.ck p)] w fun e w' => ∃ p', e = .returned (.agg (vtx v.id.f v.ck p')) ∧ Fresh w w' p' v.ps := by
  obtain ⟨pa, pc, rfl⟩ := hr.form
  obtain ⟨vv, hvv⟩ : ∃ a : Array Value, Keep (a = vtx v.id.f v.ck (.slice pa v.ps.length pc)) := ⟨_, ⟨rfl⟩⟩
  rw [← hvv.out]
  have HR := Keep.mk hr
  have HL := Keep.mk hL
  clear hr hL
  go_enter Tryz.func92, Tryz.ntmps92
  refine wp_seq_k fun K1 hK1 => ?_
  refine wp_region_list (WL.out ?_)
  refine WL.box (by kernel_rfl) 61 (.tmp 0) rfl (vv) rfl ?_
  obtain ⟨w1, hwn⟩ : ∃ wx, Keep (wx = w.alloc (.cells (vv) 61)) := ⟨_, ⟨rfl⟩⟩
  rw [← hwn.out]
  have HX1 : Keep (Blk w1 w.heap.size 61 (vv)) := ⟨by rw [hwn.out]; exact Blk.new _ _ _⟩
  have LB1 : Keep (Below w.heap.size w w1) := ⟨by rw [hwn.out]; exact below_new _ _⟩
  clear hwn
  simp only [Act.put, List.setIfInBounds_toArray, List.set_cons_zero, List.set_cons_succ]
  refine WL.new (by kernel_rfl) 61 rfl _ Tryz.new61 ?_
  obtain ⟨vz, hvz⟩ : ∃ a : Array Value, Keep (a = vtx (fun _ => 0) 0 (.slice none 0 0)) := ⟨_, ⟨rfl⟩⟩
  rw [← hvz.out]
  have HZ2 := Keep.mk (Blk.new w1 61 vz)
  have B2 := Keep.mk (below_new w1 (.cells vz 61))
  generalize w1.alloc (.cells vz 61) = w2 at *
  have HX2 := Keep.mk (HX1.out.below B2.out HX1.out.lt)
  have LB2 := Keep.mk (belowT LB1.out B2.out)
  have hne : Keep (w.heap.size < w1.heap.size) := ⟨HX1.out.lt⟩
  have hl2 : Keep (w1.heap.size < w2.heap.size) := ⟨HZ2.out.lt⟩
  generalize w1.heap.size = b2 at *
  clear HX1 B2
  simp only [Act.put, List.setIfInBounds_toArray, List.set_cons_zero, List.set_cons_succ]
  refine WL.nil ?_
  refine hK1 _ _ ?_
  refine wp_seq_k fun K2 hK2 => ?_
  have c33 : w2.cell? ⟨w.heap.size, 33, none⟩ = some (.slice pa v.ps.length pc) := HX2.out.c 33 (by rw [hvv.out]; exact vtx_ps _ _ _)
  refine wp_region_list (WL.out ?_)
  refine WL.val (by kernel_rfl) (.pointer (some ⟨w.heap.size, 33, none⟩)) (by go_simp) ?_
  simp only [Act.put, List.setIfInBounds_toArray, List.set_cons_zero, List.set_cons_succ]
  refine WL.val (by kernel_rfl) (.slice pa v.ps.length pc) (by go_simp) ?_
  simp only [Act.put, List.setIfInBounds_toArray, List.set_cons_zero, List.set_cons_succ]
  clear c33
  refine WL.callF (by kernel_rfl) 65 _ _ rfl Tryz.in65 #[.slice pa v.ps.length pc] (by simp [Act.eval]) ?_
  refine (clone_any _ v.ps w2 (HR.out.below LB2.out) HL.out).mono ?_
  rintro e w3 ⟨v1, rfl, hf⟩
  refine ⟨_, rfl, ?_⟩
  have HF := Keep.mk hf
  have HX3 := Keep.mk (HX2.out.below hf.bel HX2.out.lt)
  have HZ3 := Keep.mk (HZ2.out.below hf.bel HZ2.out.lt)
  obtain ⟨qa, qc, rfl⟩ := hf.own.sl
  clear hf HX2 HZ2
  simp only [Act.put, List.setIfInBounds_toArray, List.set_cons_zero, List.set_cons_succ]
  refine WL.val (by kernel_rfl) (.pointer (some ⟨w.heap.size, 33, none⟩)) (by go_simp) ?_
  simp only [Act.put, List.setIfInBounds_toArray, List.set_cons_zero, List.set_cons_succ]
  have f_o := HX3.out.frozen 33
  have c_o : w3.cell? ⟨w.heap.size, 33, none⟩ = some (.slice pa v.ps.length pc) := HX3.out.c 33 (by rw [hvv.out]; exact vtx_ps _ _ _)
  refine WL.cell (by kernel_rfl) (w3.setCell ⟨w.heap.size, 33, none⟩ (.slice qa v.ps.length qc)) (by go_simp) ?_
  clear f_o c_o
  obtain ⟨vq, hvq⟩ : ∃ a : Array Value, Keep (a = vtx v.id.f v.ck (.slice qa v.ps.length qc)) := ⟨_, ⟨rfl⟩⟩
  have HX4 : Keep (Blk (w3.setCell ⟨w.heap.size, 33, none⟩ (.slice qa v.ps.length qc)) w.heap.size 61 vq) := ⟨by have h := HX3.out.set 33 (.slice qa v.ps.length qc); rw [hvv.out, vtx_set, ← hvq.out] at h; exact h⟩
  have HZ4 := Keep.mk (HZ3.out.set_ne (b' := w.heap.size) (j := 33) (by have := hne.out; omega) (.slice qa v.ps.length qc))
  have G4 : Keep (Grown w3 (w3.setCell ⟨w.heap.size, 33, none⟩ (.slice qa v.ps.length qc)) fun k => k = w.heap.size) := ⟨Grown.setCell w3 _ 33 _ fun _ => rfl⟩
  generalize w3.setCell ⟨w.heap.size, 33, none⟩ (.slice qa v.ps.length qc) = w4 at *
  clear HX3 HZ3
  simp only [Act.put]
  refine WL.nil ?_
  refine hK2 _ _ ?_
  refine wp_seq_k fun K3 hK3 => ?_
  refine wp_region_list (WL.out ?_)
  refine WL.row (by kernel_rfl) 61 (.tmp 1) rfl w.heap.size rfl 61 vq _ HX4.out Tryz.underlying61 rfl (by rw [hvq.out]; exact Tryz.info61s _ _ _) ?_
  simp only [Act.put, List.setIfInBounds_toArray, List.set_cons_zero, List.set_cons_succ]
  refine WL.storeR (by kernel_rfl) 61 (.tmp 2) (.tmp 7) rfl b2 vq rfl rfl 61 vz HZ4.out (by rw [hvq.out]; exact Tryz.info61s _ _ _) (by rw [hvq.out, hvz.out, vtx_size, vtx_size]) (by rw [hvq.out]; exact vtx_one _ _ _ (slice_one _ _ _)) ?_
  have HZ5 := Keep.mk (HZ4.out.setRow vq)
  have G5 : Keep (Grown w4 (w4.setRow b2 vq) fun k => k = b2) := ⟨Grown.setRow w4 b2 _ fun _ => rfl⟩
  generalize w4.setRow b2 vq = w5 at *
  clear HZ4
  simp only [Act.put]
  refine WL.nil ?_
  refine hK3 _ _ ?_
  refine wp_ret ?_
  refine bodyPost_ret (v := .agg vq) (results_cell_row Tryz.results92 _ _ b2 61 _ (0, 0) _ rfl HZ5.out Tryz.underlying61 rfl (by rw [hvq.out]; exact Tryz.info61s _ _ _)) rfl ?_
  refine ⟨_, by rw [hvq.out], ?_, fun k hk => Nat.le_trans LB2.out.size (HF.out.new k hk), ?_⟩
  · refine (HF.out.own.grown G4.out fun k hk e => ?_).grown G5.out fun k hk e => ?_
    · have := HF.out.new k hk; have := LB2.out.size; have := hne.out; have := hl2.out; omega
    · have := HF.out.new k hk; have := hl2.out; omega
  · refine LB2.out.trans ?_
    have g3 : Grown w2 w5 (fun k => k = w.heap.size ∨ k = b2) := ((Grown.below (S := fun k => k = w.heap.size ∨ k = b2) HF.out.bel).trans (G4.out.mono fun k _ e => .inl e)).trans (G5.out.mono fun k _ e => .inr e)
    exact g3.to_below (fun k hk e => by have := hne.out; omega) LB2.out.size
theorem Tryz.in81 (w : World) (vs : Array Value) : (callFunc 81 vs).run Tryz.prog w = .ok (.enter 81 vs) w := by kernel_rfl
theorem Tryz.in79 (w : World) (vs : Array Value) : (callFunc 79 vs).run Tryz.prog w = .ok (.enter 79 vs) w := by kernel_rfl
theorem Tryz.in80 (w : World) (vs : Array Value) : (callFunc 80 vs).run Tryz.prog w = .ok (.enter 80 vs) w := by kernel_rfl
theorem WL.slr {ops : Array Oper} {rest : List Oper} {o : Oper} {a : Act} {w : World} {Q : Exit → Act → World → Prop} (hw : Region.wanted o (yielded ops a.tmps) = true) (t : TypeId) (x : Operand) (lo hi : Option Operand) (ho : o.op = .slice t x lo hi none)
    (vx : Value) (vlo vhi : Option Value) (vs : Value) (hx : a.eval x = vx) (hl : lo.map a.eval = vlo) (hh : hi.map a.eval = vhi) (hr : (Instr.sliceAt t vx vlo vhi none).run Tryz.prog w = .ok vs w) (h : WL Tryz.prog ops Q rest (a.put o.dst vs) w) : WL Tryz.prog ops Q (o :: rest) a w :=
  WL.val hw vs (by unfold execOp; simp only [ho, hx, hl, hh, Option.map_none, Sem.run_bind, hr, Result.andThen_ok, Sem.run_pure]) h
theorem Tryz.elem25 : Tryz.prog.elem 25 = 50 := by kernel_rfl
theorem slH_u : Tryz.prog.underlying 25 = some (.slice (Tryz.prog.elem 25)) := by rw [Tryz.elem25]; exact Tryz.underlying25
theorem slH_l (a : Option Addr) (n c i : Nat) (hi : i ≤ n) (w : World) : (Instr.sliceAt 25 (.slice a n c) (some (.int .i64 (i : Int))) none none).run Tryz.prog w = .ok (sliced a i n c 32) w := by
  have h1 := run_slice_l (P := Tryz.prog) (w := w) 25 a n c slH_u .i64 (i : Int) (by omega) (by omega)
  have h2 := run_sliceAt_slice (P := Tryz.prog) (w := w) 25 (.slice a n c) (some (.int .i64 (i : Int))) none none slH_u
  rw [h2, h1, Tryz.elem25, Tryz.sizeOf50, Result.andThen_ok, Int.toNat_natCast]
theorem wp_callV {P : Program} {Q : Exit → Act → World → Prop} {o : Oper} {a : Act} {w : World} {K : Act → World → Prop} (f : FuncId) (x : Operand) (args : Array Operand) (ts : Array TypeId) (ho : o.op = .call { callee := .value x, args := args, argTypes := ts }) (hx : a.eval x = .func (.func f) #[] #[])
    (hf : ∀ (w : World) (vs : Array Value), (callFunc f vs).run P w = .ok (.enter f vs) w)
    (vs : Array Value) (hvs : args.map a.eval = vs)
    (R : Value → World → Prop) (hc : Calls P f vs w fun e w' => ∃ v, e = .returned v ∧ R v w')
    (h : ∀ v w', R v w' → K (a.put o.dst v) w') : o.wp P a w K Q := by
  unfold Oper.wp
  rw [run_callV a o f x args ts ho hx hf w, Oper.upon_enter, hvs]
  refine hc.mono ?_
  rintro e w' ⟨v, rfl, hr⟩
  exact h v w' hr
theorem cmp_any (x y : Hs) (w : World) : Calls Tryz.prog 80 #[.agg (bytesA 32 x.f), .agg (bytesA 32 y.f)] w fun e w' => ∃ v, e = .returned v ∧ (v = .int .i64 (cf x y) ∧ Below w.heap.size w w') := by
  refine (compare_any x y w).mono ?_
  rintro e w' ⟨h1, q, os, rfl⟩
  exact ⟨_, h1, rfl, grown_below w q os⟩
set_option maxRecDepth 8000 in
theorem ins_end (v : Value) (l : List Hs) (gx : Nat) (y : Hs) (w : World) (hO : OwnH w v l) (hG : Blk w gx 50 (bytesA 32 y.f)) (hL : l.length ≤ 1000000000000) : Calls Tryz.prog 81 #[v, .int .i64 (l.length : Int), .slice (some ⟨gx, 0, none⟩) 1 1] w fun e w' => ∃ v', e = .returned v' ∧ OwnH w' v' (l ++ [y]) ∧ (Grown w w' fun k => v.ownBlock = some k) ∧ Moved w v v' := by
  obtain ⟨pa, pc, rfl⟩ := hO.sl
  have HO := Keep.mk hO
  have HG := Keep.mk hG
  have HL := Keep.mk hL
  clear hO hG hL
  go_enter Tryz.func81, Tryz.ntmps81
  refine wp_seq_k fun K1 hK1 => ?_
  refine wp_region_list (WL.out ?_)
  refine WL.val (by kernel_rfl) (.slice none 0 0) (by go_simp) ?_
  simp only [Act.put, List.setIfInBounds_toArray, List.set_cons_zero, List.set_cons_succ]
  refine WL.nil ?_
  refine hK1 _ _ ?_
  refine wp_seq_k fun K2 hK2 => ?_
  refine wp_region_list (WL.out ?_)
  refine WL.val (by kernel_rfl) (.slice pa l.length pc) (by go_simp) ?_
  simp only [Act.put, List.setIfInBounds_toArray, List.set_cons_zero, List.set_cons_succ]
  refine WL.val (by kernel_rfl) (.int .i64 (l.length : Int)) (by go_simp) ?_
  simp only [Act.put, List.setIfInBounds_toArray, List.set_cons_zero, List.set_cons_succ]
  refine WL.slr (by kernel_rfl) 25 (.tmp 10) (some (.tmp 11)) none rfl _ (some (.int .i64 (l.length : Int))) none (sliced pa l.length l.length pc 32) rfl rfl rfl (slH_l pa l.length pc l.length (Nat.le_refl _) w) ?_
  simp only [Act.put, List.setIfInBounds_toArray, List.set_cons_zero, List.set_cons_succ]
  refine WL.nil ?_
  refine hK2 _ _ ?_
  refine wp_seq_k fun K3 hK3 => ?_
  refine wp_region_list (WL.out ?_)
  refine WL.val (by kernel_rfl) (.slice (some ⟨gx, 0, none⟩) 1 1) (by go_simp) ?_
  simp only [Act.put, List.setIfInBounds_toArray, List.set_cons_zero, List.set_cons_succ]
  refine WL.val (by kernel_rfl) (.int .i64 1) (by go_simp) ?_
  simp only [Act.put, List.setIfInBounds_toArray, List.set_cons_zero, List.set_cons_succ]
  refine WL.val (by kernel_rfl) (.int .i64 1) (by go_simp) ?_
  simp only [Act.put, List.setIfInBounds_toArray, List.set_cons_zero, List.set_cons_succ]
  refine WL.nil ?_
  refine hK3 _ _ ?_
  refine wp_seq_k fun K4 hK4 => ?_
  refine wp_seq_k fun K5 hK5 => ?_
  refine wp_region_list (WL.out ?_)
  refine WL.val (by kernel_rfl) (.int .i64 1) (by go_simp) ?_
  simp only [Act.put, List.setIfInBounds_toArray, List.set_cons_zero, List.set_cons_succ]
  refine WL.val (by kernel_rfl) (.bool false) (by go_simp) ?_
  simp only [Act.put, List.setIfInBounds_toArray, List.set_cons_zero, List.set_cons_succ]
  refine WL.nil ?_
  refine hK5 _ _ ?_
  refine wp_cond_false rfl ?_
  refine wp_skip ?_
  refine hK4 _ _ ?_
  refine wp_seq_k fun K6 hK6 => ?_
  refine wp_region_list (WL.out ?_)
  refine WL.val (by kernel_rfl) (.slice pa l.length pc) (by go_simp) ?_
  simp only [Act.put, List.setIfInBounds_toArray, List.set_cons_zero, List.set_cons_succ]
  refine WL.val (by kernel_rfl) (.int .i64 (l.length : Int)) (by go_simp) ?_
  simp only [Act.put, List.setIfInBounds_toArray, List.set_cons_zero, List.set_cons_succ]
  refine WL.val (by kernel_rfl) (.int .i64 (l.length : Int)) (by go_simp) ?_
  simp only [Act.put, List.setIfInBounds_toArray, List.set_cons_zero, List.set_cons_succ]
  refine WL.nil ?_
  refine hK6 _ _ ?_
  refine wp_seq_k fun K7 hK7 => ?_
  refine wp_seq_k fun K8 hK8 => ?_
  refine wp_region_list (WL.out ?_)
  refine WL.val (by kernel_rfl) (.int .i64 (l.length : Int)) (by go_simp) ?_
  simp only [Act.put, List.setIfInBounds_toArray, List.set_cons_zero, List.set_cons_succ]
  refine WL.val (by kernel_rfl) (.int .i64 (l.length : Int)) (by go_simp) ?_
  simp only [Act.put, List.setIfInBounds_toArray, List.set_cons_zero, List.set_cons_succ]
  refine WL.val (by kernel_rfl) (.bool true) (by go_simp) ?_
  simp only [Act.put, List.setIfInBounds_toArray, List.set_cons_zero, List.set_cons_succ]
  refine WL.nil ?_
  refine hK8 _ _ ?_
  refine wp_cond_true rfl ?_
  refine wp_seq_k fun K9 hK9 => ?_
  refine wp_region_list (WL.out ?_)
  refine WL.val (by kernel_rfl) (.slice pa l.length pc) (by go_simp) ?_
  simp only [Act.put, List.setIfInBounds_toArray, List.set_cons_zero, List.set_cons_succ]
  refine WL.val (by kernel_rfl) (.slice (some ⟨gx, 0, none⟩) 1 1) (by go_simp) ?_
  simp only [Act.put, List.setIfInBounds_toArray, List.set_cons_zero, List.set_cons_succ]
  refine WL.appH (by kernel_rfl) (.tmp 23) (.tmp 24) rfl _ l gx y rfl rfl HO.out HG.out (by have := HL.out; omega) fun v1 w1 h1 h2 h3 => ?_
  have H1 := Keep.mk h1
  have H2 := Keep.mk h2
  have H3 := Keep.mk h3
  clear h1 h2 h3
  simp only [Act.put, List.setIfInBounds_toArray, List.set_cons_zero, List.set_cons_succ]
  refine WL.val (by kernel_rfl) (v1) (by go_simp) ?_
  simp only [Act.put, List.setIfInBounds_toArray, List.set_cons_zero, List.set_cons_succ]
  refine WL.nil ?_
  refine hK9 _ _ ?_
  refine wp_ret ?_
  go_ret
  exact ⟨_, rfl, H1.out, H2.out, H3.out⟩
def Inc (l : List Hs) : Prop := ∀ i j, i < j → j < l.length → Lt (l.getD i default) (l.getD j default)
theorem yieldsIf_ldE {ops : Array Oper} {S : World → Prop} {op : Oper} {a : Act} (hw : Region.wanted op (yielded ops a.tmps) = true) (x : Operand) (ho : op.op = .load 50 x) (b o : Nat) (hx : a.eval x = .pointer (some ⟨b, o, none⟩)) (h : Hs) (hS : ∀ w, S w → w.rangeAt b o (encH h)) : YieldsIf Tryz.prog ops S op (.agg (bytesA 32 h.f)) a := by
  have h1 := yieldsIf_load_mid (P := Tryz.prog) (ops := ops) (S := S) (op := op) (a := a) hw 50 x ho b o hx (encH h) _ hS Tryz.underlying50 rfl (Tryz.size50L h)
  rw [encH_arr] at h1
  exact h1
theorem rangeAt_ltE {w : World} {b o : Nat} {h : Hs} (hr : w.rangeAt b o (encH h)) : b < w.heap.size := cell_lt (hr 0 _ (encH_get h 0 (by omega)))
set_option maxRecDepth 8000 in
set_option maxHeartbeats 1000000 in
theorem bsearch_any (v : Value) (l : List Hs) (x : Hs) (w : World) (hr : HRow w v l) (hI : Inc l) (hL : l.length ≤ 4398046511104) : Calls Tryz.prog 79 #[v, .agg (bytesA 32 x.f), .func (.func 80) #[] #[]] w fun e w' => ∃ (i : Nat) (fd : Bool), e = .returned (.tuple #[.int .i64 (i : Int), .bool fd]) ∧ i ≤ l.length ∧ (∀ k, k < i → Lt (l.getD k default) x) ∧ (∀ k, i ≤ k → k < l.length → ¬ Lt (l.getD k default) x) ∧ (fd = true ↔ i < l.length ∧ l.getD i default = x) ∧ Below w.heap.size w w' := by
  obtain ⟨pa, pc, rfl⟩ := hr.form
  have HR := Keep.mk hr
  have HI := Keep.mk hI
  have HL := Keep.mk hL
  clear hr hI hL
  go_enter Tryz.func79, Tryz.ntmps79
  refine wp_seq_k fun K1 hK1 => ?_
  refine wp_region_list (WL.out ?_)
  refine WL.box (by kernel_rfl) 50 (.tmp 1) rfl (bytesA 32 x.f) rfl ?_
  obtain ⟨w1, hwn⟩ : ∃ wx, Keep (wx = w.alloc (.cells (bytesA 32 x.f) 50)) := ⟨_, ⟨rfl⟩⟩
  rw [← hwn.out]
  have HX1 : Keep (Blk w1 w.heap.size 50 (bytesA 32 x.f)) := ⟨by rw [hwn.out]; exact Blk.new _ _ _⟩
  have LB1 : Keep (Below w.heap.size w w1) := ⟨by rw [hwn.out]; exact below_new _ _⟩
  clear hwn
  simp only [Act.put, List.setIfInBounds_toArray, List.set_cons_zero, List.set_cons_succ]
  refine WL.val (by kernel_rfl) (.int .i64 0) (by go_simp) ?_
  simp only [Act.put, List.setIfInBounds_toArray, List.set_cons_zero, List.set_cons_succ]
  refine WL.val (by kernel_rfl) (.bool false) (by go_simp) ?_
  simp only [Act.put, List.setIfInBounds_toArray, List.set_cons_zero, List.set_cons_succ]
  refine WL.nil ?_
  refine hK1 _ _ ?_
  refine wp_seq_k fun K2 hK2 => ?_
  have HR1 := Keep.mk (HR.out.below LB1.out)
  refine wp_region_list (WL.out ?_)
  refine WL.val (by kernel_rfl) (.slice pa l.length pc) (by go_simp) ?_
  simp only [Act.put, List.setIfInBounds_toArray, List.set_cons_zero, List.set_cons_succ]
  refine WL.val (by kernel_rfl) (.int .i64 (l.length : Int)) (by go_simp) ?_
  simp only [Act.put, List.setIfInBounds_toArray, List.set_cons_zero, List.set_cons_succ]
  refine WL.val (by kernel_rfl) (.int .i64 (l.length : Int)) (by go_simp) ?_
  simp only [Act.put, List.setIfInBounds_toArray, List.set_cons_zero, List.set_cons_succ]
  refine WL.nil ?_
  refine hK2 _ _ ?_
  refine wp_seq_k fun K3 hK3 => ?_
  refine wp_region_list (WL.out ?_)
  refine WL.val (by kernel_rfl) (.int .i64 (l.length : Int)) (by go_simp) ?_
  simp only [Act.put, List.setIfInBounds_toArray, List.set_cons_zero, List.set_cons_succ]
  refine WL.val (by kernel_rfl) (.int .i64 0) (by go_simp) ?_
  simp only [Act.put, List.setIfInBounds_toArray, List.set_cons_zero, List.set_cons_succ]
  refine WL.val (by kernel_rfl) (.int .i64 (l.length : Int)) (by go_simp) ?_
  simp only [Act.put, List.setIfInBounds_toArray, List.set_cons_zero, List.set_cons_succ]
  refine WL.nil ?_
  refine hK3 _ _ ?_
  refine wp_seq_k fun K4 hK4 => ?_
  refine wp_block ?_
  refine wp_loop (fun ac wr => ∃ (t : Nat) (u11 u15 u16 u17 u18 u19 u20 u21 u22 u23 u24 u25 u26 u27 u28 u29 u30 u31 u32 u33 u34 : Value) (i j : Nat), ac = { tmps := #[.slice pa l.length pc, .agg (bytesA 32 x.f), .func (.func 80) #[] #[], undef, .pointer (some ⟨w.heap.size, 0, none⟩), undef, .int .i64 0, .bool false, .int .i64 (l.length : Int), .int .i64 (i : Int), .int .i64 (j : Int), u11, .slice pa l.length pc, .int .i64 (l.length : Int), .int .i64 (l.length : Int), u15, u16, u17, u18, u19, u20, u21, u22, u23, u24, u25, u26, u27, u28, u29, u30, u31, u32, u33, u34, undef, undef, undef, undef, undef, undef, undef, undef, undef, undef, undef, undef, undef, undef], defers := [] } ∧ i ≤ j ∧ j ≤ l.length ∧ (∀ k, k < i → Lt (l.getD k default) x) ∧ (∀ k, j ≤ k → k < l.length → ¬ Lt (l.getD k default) x) ∧ Below w1.heap.size w1 wr) (fun a _ => (intOf (a.tmps.getD 10 undef) - intOf (a.tmps.getD 9 undef)).toNat) ⟨0, undef, undef, undef, undef, undef, undef, undef, undef, undef, undef, undef, undef, undef, undef, undef, undef, undef, undef, undef, undef, undef, 0, l.length, rfl, by omega, by omega, (fun k hk => by omega), (fun k hk hk2 => by omega), Below.refl _ _⟩ ?_
  rintro ac wr ⟨t, u11, u15, u16, u17, u18, u19, u20, u21, u22, u23, u24, u25, u26, u27, u28, u29, u30, u31, u32, u33, u34, i, j, rfl, hi1, hi2, hA, hC, hB⟩
  have JA := Keep.mk hA
  have JC := Keep.mk hC
  have JB := Keep.mk hB
  clear hA hC hB
  have HRr := Keep.mk (HR1.out.below JB.out)
  have HXr := Keep.mk (HX1.out.below JB.out HX1.out.lt)
  by_cases hij : i < j
  · have hij' : (i : Int) < (j : Int) := by omega
    have hll := HL.out
    obtain ⟨m, hm⟩ : ∃ m, m = (i + j) / 2 := ⟨_, rfl⟩
    have hmi : i ≤ m := by omega
    have hmj : m < j := by omega
    have hw1 : IntKind.i64.wrap ((i : Int) + (j : Int)) = (i : Int) + (j : Int) := by rw [IntKind.wrap_i64]; omega
    have hw2 : IntKind.u64.wrap ((i : Int) + (j : Int)) = (i : Int) + (j : Int) := by rw [IntKind.wrap_u64]; omega
    have hw3 : ((i : Int) + (j : Int)) / 2 = (m : Int) := by omega
    have hw4 : IntKind.i64.wrap (m : Int) = (m : Int) := by rw [IntKind.wrap_i64]; omega
    have hw5 : IntKind.i64.wrap ((m : Int) + 1) = (m : Int) + 1 := by rw [IntKind.wrap_i64]; omega
    have hml : m < l.length := by omega
    have hml' : (m : Int) < (l.length : Int) := by omega
    obtain ⟨gp, op, hpa, hlen, hcap, hrg⟩ := (HRr.out).at (by omega)
    have hel := rangeAt_elem hrg m hml
    obtain ⟨hh, hhh⟩ : ∃ hh, hh = l[m] := ⟨_, rfl⟩
    rw [← hhh] at hel
    have Jhh := Keep.mk hhh
    have Hel := Keep.mk hel
    subst hpa
    clear hlen hcap hrg hhh hel hm
    refine wp_seq_k fun K5 hK5 => ?_
    refine wp_seq_k fun K6 hK6 => ?_
    refine wp_region_list (WL.out ?_)
    refine WL.val (by kernel_rfl) (.int .i64 (i : Int)) (by go_simp) ?_
    simp only [Act.put, List.setIfInBounds_toArray, List.set_cons_zero, List.set_cons_succ]
    refine WL.val (by kernel_rfl) (.int .i64 (j : Int)) (by go_simp) ?_
    simp only [Act.put, List.setIfInBounds_toArray, List.set_cons_zero, List.set_cons_succ]
    refine WL.val (by kernel_rfl) (.bool true) (by go_simp) ?_
    simp only [Act.put, List.setIfInBounds_toArray, List.set_cons_zero, List.set_cons_succ]
    refine WL.nil ?_
    refine hK6 _ _ ?_
    refine wp_cond_true rfl ?_
    refine wp_skip ?_
    refine hK5 _ _ ?_
    refine wp_block ?_
    refine wp_seq_k fun K7 hK7 => ?_
    refine wp_region_list (WL.out ?_)
    refine WL.val (by kernel_rfl) (.int .i64 (i : Int)) (by go_simp) ?_
    simp only [Act.put, List.setIfInBounds_toArray, List.set_cons_zero, List.set_cons_succ]
    refine WL.val (by kernel_rfl) (.int .i64 (j : Int)) (by go_simp) ?_
    simp only [Act.put, List.setIfInBounds_toArray, List.set_cons_zero, List.set_cons_succ]
    refine WL.val (by kernel_rfl) (.int .i64 ((i : Int) + (j : Int))) (by go_simp) ?_
    simp only [Act.put, List.setIfInBounds_toArray, List.set_cons_zero, List.set_cons_succ]
    refine WL.val (by kernel_rfl) (.int .u64 ((i : Int) + (j : Int))) (by go_simp) ?_
    simp only [Act.put, List.setIfInBounds_toArray, List.set_cons_zero, List.set_cons_succ]
    refine WL.val (by kernel_rfl) (.int .u64 (m : Int)) (by go_simp) ?_
    simp only [Act.put, List.setIfInBounds_toArray, List.set_cons_zero, List.set_cons_succ]
    refine WL.val (by kernel_rfl) (.int .i64 (m : Int)) (by go_simp) ?_
    simp only [Act.put, List.setIfInBounds_toArray, List.set_cons_zero, List.set_cons_succ]
    refine WL.val (by kernel_rfl) (.int .i64 (m : Int)) (by go_simp) ?_
    simp only [Act.put, List.setIfInBounds_toArray, List.set_cons_zero, List.set_cons_succ]
    refine WL.nil ?_
    refine hK7 _ _ ?_
    refine wp_seq_k fun K8 hK8 => ?_
    have hS0 : Keep ((fun wx => wx.rangeAt gp (op + m * 32) (encH hh) ∧ wx.rangeAt w.heap.size 0 (bytesA 32 x.f).toList) wr.drew) := ⟨⟨rangeAt_drew Hel.out, blk_rng HXr.out.drew⟩⟩
    clear hw1 hw2 hw3 hw4
    obtain ⟨cb, hcb⟩ : ∃ b, decide (cf hh x < 0) = b := ⟨_, rfl⟩
    have Hcb := Keep.mk hcb
    refine wp_region_held_drew (S := fun wx => wx.rangeAt gp (op + m * 32) (encH hh) ∧ wx.rangeAt w.heap.size 0 (bytesA 32 x.f).toList) (by kernel_rfl) (hS0.out) (fun hHeld => ?_)
    refine wpAnyH_take (i := 0) (oi := ⟨some 24, Op.move (Operand.tmp 2), 149, _, _, none⟩) (v := .func (.func 80) #[] #[]) rfl (by kernel_rfl) (by kernel_rfl) (by kernel_rfl) (fun _ _ _ h => h) (Or.inl ⟨by rfl, fun w hS => by clear hS; go_simp⟩) hHeld ?_
    simp only [Act.put, List.setIfInBounds_toArray, List.set_cons_zero, List.set_cons_succ]
    refine wpAnyH_take (i := 1) (oi := ⟨some 25, Op.move (Operand.tmp 0), 25, _, _, none⟩) (v := .slice (some ⟨gp, op, none⟩) l.length pc) rfl (by kernel_rfl) (by kernel_rfl) (by kernel_rfl) (fun _ _ _ h => h) (Or.inl ⟨by rfl, fun w hS => by clear hS; go_simp⟩) hHeld ?_
    simp only [Act.put, List.setIfInBounds_toArray, List.set_cons_zero, List.set_cons_succ]
    refine wpAnyH_take (i := 2) (oi := ⟨some 26, Op.move (Operand.tmp 11), 3, _, _, none⟩) (v := .int .i64 (m : Int)) rfl (by kernel_rfl) (by kernel_rfl) (by kernel_rfl) (fun _ _ _ h => h) (Or.inl ⟨by rfl, fun w hS => by clear hS; go_simp⟩) hHeld ?_
    simp only [Act.put, List.setIfInBounds_toArray, List.set_cons_zero, List.set_cons_succ]
    refine wpAnyH_take (i := 3) (oi := ⟨some 27, Op.indexAddr 25 (Operand.tmp 25) (Operand.tmp 26), 0, _, _, none⟩) (v := .pointer (some ⟨gp, op + m * 32, none⟩)) rfl (by kernel_rfl) (by kernel_rfl) (by kernel_rfl) (fun _ _ _ h => h) (Or.inl ⟨by rfl, fun w hS => by go_simp⟩) hHeld ?_
    simp only [Act.put, List.setIfInBounds_toArray, List.set_cons_zero, List.set_cons_succ]
    refine wpAnyH_take (i := 4) (oi := ⟨some 28, Op.load 50 (Operand.tmp 27), 50, _, _, none⟩) (v := .agg (bytesA 32 hh.f)) rfl (by kernel_rfl) (by kernel_rfl) (by kernel_rfl) (fun _ _ _ h => h) (yieldsIf_ldE (by rfl) (Operand.tmp 27) rfl gp (op + m * 32) rfl hh fun w hS => hS.1) hHeld ?_
    simp only [Act.put, List.setIfInBounds_toArray, List.set_cons_zero, List.set_cons_succ]
    refine wpAnyH_take (i := 5) (oi := ⟨some 29, Op.load 50 (Operand.tmp 4), 50, _, _, none⟩) (v := .agg (bytesA 32 x.f)) rfl (by kernel_rfl) (by kernel_rfl) (by kernel_rfl) (fun _ _ _ h => h) (yieldsIf_ld (by rfl) (Operand.tmp 4) 50 rfl w.heap.size 0 rfl (bytesA 32 x.f) _ Tryz.underlying50 rfl (size36A _) fun w hS => hS.2) hHeld ?_
    simp only [Act.put, List.setIfInBounds_toArray, List.set_cons_zero, List.set_cons_succ]
    refine wpAnyH_ready (rs := [6]) (by kernel_rfl) (by simp) ?_
    refine AllReadyH.cons (o := ⟨some 30, Op.call { callee := Callee.value (Operand.tmp 24), args := #[Operand.tmp 28, Operand.tmp 29], argTypes := #[50, 50] }, 3, _, _, none⟩) rfl (fun K hK => ?_) AllReadyH.nil
    rw [if_pos (by rfl)]
    refine wp_callV 80 (Operand.tmp 24) _ _ rfl rfl Tryz.in80 #[.agg (bytesA 32 hh.f), .agg (bytesA 32 x.f)] (by simp [Act.eval]) _ (cmp_any hh x _) ?_
    rintro vq wq ⟨rfl, hq⟩
    have BQ : Keep (Below wr.heap.size wr wq) := ⟨belowT (Below.refl _ wr).drew hq⟩
    refine hK _ _ ⟨rangeAt_below hS0.out.1 hq (rangeAt_ltE hS0.out.1), rangeAt_below hS0.out.2 hq HXr.out.lt⟩ fun hH1 => ?_
    clear hK hq
    simp only [Act.put, List.setIfInBounds_toArray, List.set_cons_zero, List.set_cons_succ]
    refine wpAnyH_take (i := 7) (oi := ⟨some 31, Op.binOp BinOp.lss 3 (Operand.tmp 30) (Operand.const (Value.int IntKind.i64 0)) 3, 4, _, _, none⟩) (v := .bool cb) rfl (by kernel_rfl) (by kernel_rfl) (by kernel_rfl) (fun _ _ _ h => h) (Or.inl ⟨by rfl, fun w hS => by clear hS; go_simp⟩) hH1 ?_
    simp only [Act.put, List.setIfInBounds_toArray, List.set_cons_zero, List.set_cons_succ]
    refine wpAnyH_done (by kernel_rfl) ?_ _
    refine hK8 _ _ ?_
    rcases Bool.eq_false_or_eq_true cb with hcq | hcq
    · subst hcq
      refine wp_cond_true rfl ?_
      refine wp_region_list (WL.out ?_)
      refine WL.val (by kernel_rfl) (.int .i64 (m : Int)) (by go_simp) ?_
      simp only [Act.put, List.setIfInBounds_toArray, List.set_cons_zero, List.set_cons_succ]
      refine WL.val (by kernel_rfl) (.int .i64 ((m : Int) + 1)) (by go_simp) ?_
      simp only [Act.put, List.setIfInBounds_toArray, List.set_cons_zero, List.set_cons_succ]
      refine WL.val (by kernel_rfl) (.int .i64 ((m : Int) + 1)) (by go_simp) ?_
      simp only [Act.put, List.setIfInBounds_toArray, List.set_cons_zero, List.set_cons_succ]
      refine WL.nil ?_
      have h00 : cf hh x < 0 := of_decide_eq_true hcb
      have hlt : Lt hh x := h00
      refine ⟨⟨0, .int .i64 (m : Int), .int .i64 (i : Int), .int .i64 (j : Int), .bool true, .int .i64 (i : Int), .int .i64 (j : Int), .int .i64 ((i : Int) + (j : Int)), .int .u64 ((i : Int) + (j : Int)), .int .u64 (m : Int), .int .i64 (m : Int), .func (.func 80) #[] #[], .slice (some ⟨gp, op, none⟩) l.length pc, .int .i64 (m : Int), .pointer (some ⟨gp, op + m * 32, none⟩), .agg (bytesA 32 hh.f), .agg (bytesA 32 x.f), .int .i64 (cf hh x), .bool true, .int .i64 (m : Int), .int .i64 ((m : Int) + 1), u34, m + 1, j, rfl, by omega, by omega, fun k hk => ?_, JC.out, belowT JB.out BQ.out⟩, ?_⟩
      · by_cases e : k = m
        · subst e; rw [List.getD_eq_getElem?_getD, List.getElem?_eq_getElem hml, Option.getD_some, ← Jhh.out]; exact hlt
        · refine Lt.trans (HI.out k m (by omega) hml) ?_
          rw [List.getD_eq_getElem?_getD, List.getElem?_eq_getElem hml, Option.getD_some, ← Jhh.out]; exact hlt
      · simp only [intOf]; show ((j : Int) - ((m : Int) + 1)).toNat < ((j : Int) - (i : Int)).toNat; omega
    · subst hcq
      refine wp_cond_false rfl ?_
      refine wp_region_list (WL.out ?_)
      refine WL.val (by kernel_rfl) (.int .i64 (m : Int)) (by go_simp) ?_
      simp only [Act.put, List.setIfInBounds_toArray, List.set_cons_zero, List.set_cons_succ]
      refine WL.val (by kernel_rfl) (.int .i64 (m : Int)) (by go_simp) ?_
      simp only [Act.put, List.setIfInBounds_toArray, List.set_cons_zero, List.set_cons_succ]
      refine WL.nil ?_
      have h00 : ¬ cf hh x < 0 := of_decide_eq_false hcb
      have hlt : ¬ Lt hh x := h00
      refine ⟨⟨0, .int .i64 (m : Int), .int .i64 (i : Int), .int .i64 (j : Int), .bool true, .int .i64 (i : Int), .int .i64 (j : Int), .int .i64 ((i : Int) + (j : Int)), .int .u64 ((i : Int) + (j : Int)), .int .u64 (m : Int), .int .i64 (m : Int), .func (.func 80) #[] #[], .slice (some ⟨gp, op, none⟩) l.length pc, .int .i64 (m : Int), .pointer (some ⟨gp, op + m * 32, none⟩), .agg (bytesA 32 hh.f), .agg (bytesA 32 x.f), .int .i64 (cf hh x), .bool false, u32, u33, .int .i64 (m : Int), i, m, rfl, by omega, by omega, JA.out, fun k hk hkl h => ?_, belowT JB.out BQ.out⟩, ?_⟩
      · refine hlt ?_
        by_cases e : k = m
        · subst e; rw [List.getD_eq_getElem?_getD, List.getElem?_eq_getElem hml, Option.getD_some, ← Jhh.out] at h; exact h
        · have h2 := HI.out m k (by omega) hkl
          rw [List.getD_eq_getElem?_getD, List.getElem?_eq_getElem hml, Option.getD_some, ← Jhh.out] at h2
          exact h2.trans h
      · simp only [intOf]; show ((m : Int) - (i : Int)).toNat < ((j : Int) - (i : Int)).toNat; omega
  · obtain rfl : i = j := by omega
    have hij' : ¬ (i : Int) < (i : Int) := by omega
    refine wp_seq_k fun K9 hK9 => ?_
    refine wp_seq_k fun K10 hK10 => ?_
    refine wp_region_list (WL.out ?_)
    refine WL.val (by kernel_rfl) (.int .i64 (i : Int)) (by go_simp) ?_
    simp only [Act.put, List.setIfInBounds_toArray, List.set_cons_zero, List.set_cons_succ]
    refine WL.val (by kernel_rfl) (.int .i64 (i : Int)) (by go_simp) ?_
    simp only [Act.put, List.setIfInBounds_toArray, List.set_cons_zero, List.set_cons_succ]
    refine WL.val (by kernel_rfl) (.bool false) (by go_simp) ?_
    simp only [Act.put, List.setIfInBounds_toArray, List.set_cons_zero, List.set_cons_succ]
    refine WL.nil ?_
    refine hK10 _ _ ?_
    refine wp_cond_false rfl ?_
    refine wp_exit ?_
    refine hK4 _ _ ?_
    refine wp_seq_k fun K11 hK11 => ?_
    by_cases hil : i < l.length
    · have hil' : (i : Int) < (l.length : Int) := by omega
      obtain ⟨gp, op, hpa, hlen, hcap, hrg⟩ := (HRr.out).at (by omega)
      have hel := rangeAt_elem hrg i hil
      obtain ⟨hh, hhh⟩ : ∃ hh, hh = l[i] := ⟨_, rfl⟩
      rw [← hhh] at hel
      have Jhh := Keep.mk hhh
      have Hel := Keep.mk hel
      subst hpa
      clear hlen hcap hrg hhh hel
      have hS0 : Keep ((fun wx => wx.rangeAt gp (op + i * 32) (encH hh) ∧ wx.rangeAt w.heap.size 0 (bytesA 32 x.f).toList) wr.drew) := ⟨⟨rangeAt_drew Hel.out, blk_rng HXr.out.drew⟩⟩
      obtain ⟨cb, hcb⟩ : ∃ b, (cf hh x == 0) = b := ⟨_, rfl⟩
      have Hcb := Keep.mk hcb
      refine wp_region_held_drew (S := fun wx => wx.rangeAt gp (op + i * 32) (encH hh) ∧ wx.rangeAt w.heap.size 0 (bytesA 32 x.f).toList) (by kernel_rfl) (hS0.out) (fun hHeld => ?_)
      refine wpAnyH_take (i := 0) (oi := ⟨some 35, Op.move (Operand.tmp 9), 3, _, _, none⟩) (v := .int .i64 (i : Int)) rfl (by kernel_rfl) (by kernel_rfl) (by kernel_rfl) (fun _ _ _ h => h) (Or.inl ⟨by rfl, fun w hS => by clear hS; go_simp⟩) hHeld ?_
      simp only [Act.put, List.setIfInBounds_toArray, List.set_cons_zero, List.set_cons_succ]
      refine wpAnyH_take (i := 1) (oi := ⟨some 36, Op.move (Operand.tmp 9), 3, _, _, none⟩) (v := .int .i64 (i : Int)) rfl (by kernel_rfl) (by kernel_rfl) (by kernel_rfl) (fun _ _ _ h => h) (Or.inl ⟨by rfl, fun w hS => by clear hS; go_simp⟩) hHeld ?_
      simp only [Act.put, List.setIfInBounds_toArray, List.set_cons_zero, List.set_cons_succ]
      refine wpAnyH_take (i := 2) (oi := ⟨some 37, Op.move (Operand.tmp 8), 3, _, _, none⟩) (v := .int .i64 (l.length : Int)) rfl (by kernel_rfl) (by kernel_rfl) (by kernel_rfl) (fun _ _ _ h => h) (Or.inl ⟨by rfl, fun w hS => by clear hS; go_simp⟩) hHeld ?_
      simp only [Act.put, List.setIfInBounds_toArray, List.set_cons_zero, List.set_cons_succ]
      refine wpAnyH_take (i := 3) (oi := ⟨some 38, Op.binOp BinOp.lss 3 (Operand.tmp 36) (Operand.tmp 37) 3, 4, _, _, none⟩) (v := .bool true) rfl (by kernel_rfl) (by kernel_rfl) (by kernel_rfl) (fun _ _ _ h => h) (Or.inl ⟨by rfl, fun w hS => by clear hS; go_simp⟩) hHeld ?_
      simp only [Act.put, List.setIfInBounds_toArray, List.set_cons_zero, List.set_cons_succ]
      refine wpAnyH_take (i := 4) (oi := ⟨some 39, Op.move (Operand.tmp 38), 4, _, _, none⟩) (v := .bool true) rfl (by kernel_rfl) (by kernel_rfl) (by kernel_rfl) (fun _ _ _ h => h) (Or.inl ⟨by rfl, fun w hS => by clear hS; go_simp⟩) hHeld ?_
      simp only [Act.put, List.setIfInBounds_toArray, List.set_cons_zero, List.set_cons_succ]
      refine wpAnyH_take (i := 5) (oi := ⟨some 40, Op.move (Operand.tmp 2), 149, _, _, some (4, true)⟩) (v := .func (.func 80) #[] #[]) rfl (by kernel_rfl) (by kernel_rfl) (by kernel_rfl) (fun _ _ _ h => h) (Or.inl ⟨by rfl, fun w hS => by clear hS; go_simp⟩) hHeld ?_
      simp only [Act.put, List.setIfInBounds_toArray, List.set_cons_zero, List.set_cons_succ]
      refine wpAnyH_take (i := 6) (oi := ⟨some 41, Op.move (Operand.tmp 0), 25, _, _, some (4, true)⟩) (v := .slice (some ⟨gp, op, none⟩) l.length pc) rfl (by kernel_rfl) (by kernel_rfl) (by kernel_rfl) (fun _ _ _ h => h) (Or.inl ⟨by rfl, fun w hS => by clear hS; go_simp⟩) hHeld ?_
      simp only [Act.put, List.setIfInBounds_toArray, List.set_cons_zero, List.set_cons_succ]
      refine wpAnyH_take (i := 7) (oi := ⟨some 42, Op.move (Operand.tmp 9), 3, _, _, some (4, true)⟩) (v := .int .i64 (i : Int)) rfl (by kernel_rfl) (by kernel_rfl) (by kernel_rfl) (fun _ _ _ h => h) (Or.inl ⟨by rfl, fun w hS => by clear hS; go_simp⟩) hHeld ?_
      simp only [Act.put, List.setIfInBounds_toArray, List.set_cons_zero, List.set_cons_succ]
      refine wpAnyH_take (i := 8) (oi := ⟨some 43, Op.indexAddr 25 (Operand.tmp 41) (Operand.tmp 42), 0, _, _, some (4, true)⟩) (v := .pointer (some ⟨gp, op + i * 32, none⟩)) rfl (by kernel_rfl) (by kernel_rfl) (by kernel_rfl) (fun _ _ _ h => h) (Or.inl ⟨by rfl, fun w hS => by go_simp⟩) hHeld ?_
      simp only [Act.put, List.setIfInBounds_toArray, List.set_cons_zero, List.set_cons_succ]
      refine wpAnyH_take (i := 9) (oi := ⟨some 44, Op.load 50 (Operand.tmp 43), 50, _, _, some (4, true)⟩) (v := .agg (bytesA 32 hh.f)) rfl (by kernel_rfl) (by kernel_rfl) (by kernel_rfl) (fun _ _ _ h => h) (yieldsIf_ldE (by rfl) (Operand.tmp 43) rfl gp (op + i * 32) rfl hh fun w hS => hS.1) hHeld ?_
      simp only [Act.put, List.setIfInBounds_toArray, List.set_cons_zero, List.set_cons_succ]
      refine wpAnyH_take (i := 10) (oi := ⟨some 45, Op.load 50 (Operand.tmp 4), 50, _, _, some (4, true)⟩) (v := .agg (bytesA 32 x.f)) rfl (by kernel_rfl) (by kernel_rfl) (by kernel_rfl) (fun _ _ _ h => h) (yieldsIf_ld (by rfl) (Operand.tmp 4) 50 rfl w.heap.size 0 rfl (bytesA 32 x.f) _ Tryz.underlying50 rfl (size36A _) fun w hS => hS.2) hHeld ?_
      simp only [Act.put, List.setIfInBounds_toArray, List.set_cons_zero, List.set_cons_succ]
      refine wpAnyH_ready (rs := [11]) (by kernel_rfl) (by simp) ?_
      refine AllReadyH.cons (o := ⟨some 46, Op.call { callee := Callee.value (Operand.tmp 40), args := #[Operand.tmp 44, Operand.tmp 45], argTypes := #[50, 50] }, 3, _, _, some (4, true)⟩) rfl (fun K hK => ?_) AllReadyH.nil
      rw [if_pos (by rfl)]
      refine wp_callV 80 (Operand.tmp 40) _ _ rfl rfl Tryz.in80 #[.agg (bytesA 32 hh.f), .agg (bytesA 32 x.f)] (by simp [Act.eval]) _ (cmp_any hh x _) ?_
      rintro vq wq ⟨rfl, hq⟩
      have BQ : Keep (Below wr.heap.size wr wq) := ⟨belowT (Below.refl _ wr).drew hq⟩
      refine hK _ _ ⟨rangeAt_below hS0.out.1 hq (rangeAt_ltE hS0.out.1), rangeAt_below hS0.out.2 hq HXr.out.lt⟩ fun hH1 => ?_
      clear hK hq
      simp only [Act.put, List.setIfInBounds_toArray, List.set_cons_zero, List.set_cons_succ]
      refine wpAnyH_take (i := 12) (oi := ⟨some 47, Op.binOp BinOp.eql 3 (Operand.tmp 46) (Operand.const (Value.int IntKind.i64 0)) 3, 4, _, _, some (4, true)⟩) (v := .bool cb) rfl (by kernel_rfl) (by kernel_rfl) (by kernel_rfl) (fun _ _ _ h => h) (Or.inl ⟨by rfl, fun w hS => by clear hS; go_simp⟩) hH1 ?_
      simp only [Act.put, List.setIfInBounds_toArray, List.set_cons_zero, List.set_cons_succ]
      refine wpAnyH_take (i := 13) (oi := ⟨some 48, Op.pick (Operand.tmp 39) (Operand.tmp 47) (Operand.const (Value.bool false)), 4, _, _, none⟩) (v := .bool cb) rfl (by kernel_rfl) (by kernel_rfl) (by kernel_rfl) (fun _ _ _ h => h) (Or.inl ⟨by rfl, fun w hS => by clear hS; go_simp⟩) hH1 ?_
      simp only [Act.put, List.setIfInBounds_toArray, List.set_cons_zero, List.set_cons_succ]
      refine wpAnyH_take (i := 14) (oi := ⟨some 6, Op.assign (Operand.tmp 35), 3, _, _, none⟩) (v := .int .i64 (i : Int)) rfl (by kernel_rfl) (by kernel_rfl) (by kernel_rfl) (fun _ _ _ h => h) (Or.inl ⟨by rfl, fun w hS => by clear hS; go_simp⟩) hH1 ?_
      simp only [Act.put, List.setIfInBounds_toArray, List.set_cons_zero, List.set_cons_succ]
      refine wpAnyH_take (i := 15) (oi := ⟨some 7, Op.assign (Operand.tmp 48), 4, _, _, none⟩) (v := .bool cb) rfl (by kernel_rfl) (by kernel_rfl) (by kernel_rfl) (fun _ _ _ h => h) (Or.inl ⟨by rfl, fun w hS => by clear hS; go_simp⟩) hH1 ?_
      simp only [Act.put, List.setIfInBounds_toArray, List.set_cons_zero, List.set_cons_succ]
      refine wpAnyH_done (by kernel_rfl) ?_ _
      refine hK11 _ _ ?_
      refine wp_ret ?_
      go_ret2
      refine ⟨i, cb, rfl, by omega, JA.out, JC.out, ?_, belowT LB1.out (belowT JB.out BQ.out)⟩
      rw [← Hcb.out, beq_iff_eq, cf_zero]
      constructor
      · intro h; exact ⟨hil, by rw [List.getD_eq_getElem?_getD, List.getElem?_eq_getElem hil, Option.getD_some, ← Jhh.out]; exact h⟩
      · rintro ⟨_, h⟩; rw [List.getD_eq_getElem?_getD, List.getElem?_eq_getElem hil, Option.getD_some, ← Jhh.out] at h; exact h
    · have hil' : ¬ (i : Int) < (l.length : Int) := by omega
      refine wp_region_held_drew (S := fun _ => True) (by kernel_rfl) (trivial) (fun hHeld => ?_)
      refine wpAnyH_take (i := 0) (oi := ⟨some 35, Op.move (Operand.tmp 9), 3, _, _, none⟩) (v := .int .i64 (i : Int)) rfl (by kernel_rfl) (by kernel_rfl) (by kernel_rfl) (fun _ _ _ h => h) (Or.inl ⟨by rfl, fun w hS => by go_simp⟩) hHeld ?_
      simp only [Act.put, List.setIfInBounds_toArray, List.set_cons_zero, List.set_cons_succ]
      refine wpAnyH_take (i := 1) (oi := ⟨some 36, Op.move (Operand.tmp 9), 3, _, _, none⟩) (v := .int .i64 (i : Int)) rfl (by kernel_rfl) (by kernel_rfl) (by kernel_rfl) (fun _ _ _ h => h) (Or.inl ⟨by rfl, fun w hS => by go_simp⟩) hHeld ?_
      simp only [Act.put, List.setIfInBounds_toArray, List.set_cons_zero, List.set_cons_succ]
      refine wpAnyH_take (i := 2) (oi := ⟨some 37, Op.move (Operand.tmp 8), 3, _, _, none⟩) (v := .int .i64 (l.length : Int)) rfl (by kernel_rfl) (by kernel_rfl) (by kernel_rfl) (fun _ _ _ h => h) (Or.inl ⟨by rfl, fun w hS => by go_simp⟩) hHeld ?_
      simp only [Act.put, List.setIfInBounds_toArray, List.set_cons_zero, List.set_cons_succ]
      refine wpAnyH_take (i := 3) (oi := ⟨some 38, Op.binOp BinOp.lss 3 (Operand.tmp 36) (Operand.tmp 37) 3, 4, _, _, none⟩) (v := .bool false) rfl (by kernel_rfl) (by kernel_rfl) (by kernel_rfl) (fun _ _ _ h => h) (Or.inl ⟨by rfl, fun w hS => by go_simp⟩) hHeld ?_
      simp only [Act.put, List.setIfInBounds_toArray, List.set_cons_zero, List.set_cons_succ]
      refine wpAnyH_take (i := 4) (oi := ⟨some 39, Op.move (Operand.tmp 38), 4, _, _, none⟩) (v := .bool false) rfl (by kernel_rfl) (by kernel_rfl) (by kernel_rfl) (fun _ _ _ h => h) (Or.inl ⟨by rfl, fun w hS => by go_simp⟩) hHeld ?_
      simp only [Act.put, List.setIfInBounds_toArray, List.set_cons_zero, List.set_cons_succ]
      refine wpAnyH_take (i := 5) (oi := ⟨some 40, Op.move (Operand.tmp 2), 149, _, _, some (4, true)⟩) (v := undef) rfl (by kernel_rfl) (by kernel_rfl) (by kernel_rfl) (fun _ _ _ h => h) (Or.inr ⟨by rfl, rfl⟩) hHeld ?_
      simp only [Act.put, List.setIfInBounds_toArray, List.set_cons_zero, List.set_cons_succ]
      refine wpAnyH_take (i := 6) (oi := ⟨some 41, Op.move (Operand.tmp 0), 25, _, _, some (4, true)⟩) (v := undef) rfl (by kernel_rfl) (by kernel_rfl) (by kernel_rfl) (fun _ _ _ h => h) (Or.inr ⟨by rfl, rfl⟩) hHeld ?_
      simp only [Act.put, List.setIfInBounds_toArray, List.set_cons_zero, List.set_cons_succ]
      refine wpAnyH_take (i := 7) (oi := ⟨some 42, Op.move (Operand.tmp 9), 3, _, _, some (4, true)⟩) (v := undef) rfl (by kernel_rfl) (by kernel_rfl) (by kernel_rfl) (fun _ _ _ h => h) (Or.inr ⟨by rfl, rfl⟩) hHeld ?_
      simp only [Act.put, List.setIfInBounds_toArray, List.set_cons_zero, List.set_cons_succ]
      refine wpAnyH_take (i := 8) (oi := ⟨some 43, Op.indexAddr 25 (Operand.tmp 41) (Operand.tmp 42), 0, _, _, some (4, true)⟩) (v := undef) rfl (by kernel_rfl) (by kernel_rfl) (by kernel_rfl) (fun _ _ _ h => h) (Or.inr ⟨by rfl, rfl⟩) hHeld ?_
      simp only [Act.put, List.setIfInBounds_toArray, List.set_cons_zero, List.set_cons_succ]
      refine wpAnyH_take (i := 9) (oi := ⟨some 44, Op.load 50 (Operand.tmp 43), 50, _, _, some (4, true)⟩) (v := undef) rfl (by kernel_rfl) (by kernel_rfl) (by kernel_rfl) (fun _ _ _ h => h) (Or.inr ⟨by rfl, rfl⟩) hHeld ?_
      simp only [Act.put, List.setIfInBounds_toArray, List.set_cons_zero, List.set_cons_succ]
      refine wpAnyH_take (i := 10) (oi := ⟨some 45, Op.load 50 (Operand.tmp 4), 50, _, _, some (4, true)⟩) (v := undef) rfl (by kernel_rfl) (by kernel_rfl) (by kernel_rfl) (fun _ _ _ h => h) (Or.inr ⟨by rfl, rfl⟩) hHeld ?_
      simp only [Act.put, List.setIfInBounds_toArray, List.set_cons_zero, List.set_cons_succ]
      refine wpAnyH_take (i := 11) (oi := ⟨some 46, Op.call { callee := Callee.value (Operand.tmp 40), args := #[Operand.tmp 44, Operand.tmp 45], argTypes := #[50, 50] }, 3, _, _, some (4, true)⟩) (v := undef) rfl (by kernel_rfl) (by kernel_rfl) (by kernel_rfl) (fun _ _ _ h => h) (Or.inr ⟨by rfl, rfl⟩) hHeld ?_
      simp only [Act.put, List.setIfInBounds_toArray, List.set_cons_zero, List.set_cons_succ]
      refine wpAnyH_take (i := 12) (oi := ⟨some 47, Op.binOp BinOp.eql 3 (Operand.tmp 46) (Operand.const (Value.int IntKind.i64 0)) 3, 4, _, _, some (4, true)⟩) (v := undef) rfl (by kernel_rfl) (by kernel_rfl) (by kernel_rfl) (fun _ _ _ h => h) (Or.inr ⟨by rfl, rfl⟩) hHeld ?_
      simp only [Act.put, List.setIfInBounds_toArray, List.set_cons_zero, List.set_cons_succ]
      refine wpAnyH_take (i := 13) (oi := ⟨some 48, Op.pick (Operand.tmp 39) (Operand.tmp 47) (Operand.const (Value.bool false)), 4, _, _, none⟩) (v := .bool false) rfl (by kernel_rfl) (by kernel_rfl) (by kernel_rfl) (fun _ _ _ h => h) (Or.inl ⟨by rfl, fun w hS => by go_simp⟩) hHeld ?_
      simp only [Act.put, List.setIfInBounds_toArray, List.set_cons_zero, List.set_cons_succ]
      refine wpAnyH_take (i := 14) (oi := ⟨some 6, Op.assign (Operand.tmp 35), 3, _, _, none⟩) (v := .int .i64 (i : Int)) rfl (by kernel_rfl) (by kernel_rfl) (by kernel_rfl) (fun _ _ _ h => h) (Or.inl ⟨by rfl, fun w hS => by go_simp⟩) hHeld ?_
      simp only [Act.put, List.setIfInBounds_toArray, List.set_cons_zero, List.set_cons_succ]
      refine wpAnyH_take (i := 15) (oi := ⟨some 7, Op.assign (Operand.tmp 48), 4, _, _, none⟩) (v := .bool false) rfl (by kernel_rfl) (by kernel_rfl) (by kernel_rfl) (fun _ _ _ h => h) (Or.inl ⟨by rfl, fun w hS => by go_simp⟩) hHeld ?_
      simp only [Act.put, List.setIfInBounds_toArray, List.set_cons_zero, List.set_cons_succ]
      refine wpAnyH_done (by kernel_rfl) ?_ _
      refine hK11 _ _ ?_
      refine wp_ret ?_
      go_ret2
      refine ⟨i, false, rfl, by omega, JA.out, JC.out, ⟨(fun h => by cases h), (fun h => absurd h.1 hil)⟩, belowT LB1.out (belowT JB.out (Below.refl _ _).drew)⟩
theorem Tryz.in112 (w : World) (vs : Array Value) : (callFunc 112 vs).run Tryz.prog w = .ok (.enter 112 vs) w := by kernel_rfl
theorem Tryz.in113 (w : World) (vs : Array Value) : (callFunc 113 vs).run Tryz.prog w = .ok (.enter 113 vs) w := by kernel_rfl
theorem Tryz.in131 (w : World) (vs : Array Value) : (callFunc 131 vs).run Tryz.prog w = .ok (.enter 131 vs) w := by kernel_rfl
theorem MpAt.neT {w : World} {Av : Nat → Prop} {b k : Nat} {l : List VX} {T : TypeId} (h : MpAt w Av b l) (hb : Typ w k T) : k ≠ b := by
  obtain ⟨es, ck, h1, _⟩ := h
  obtain ⟨cs, fz, h2⟩ := hb
  rintro rfl
  rw [h1] at h2
  cases h2
theorem DagAt.dty {w : World} {Av : Nat → Prop} {d : Nat} {g : DG} (h : DagAt w Av d g) {v : Value} {l : List Hs} (hv : OwnH w v l) {k : Nat} (hk : v.ownBlock = some k) : k ≠ d := fun e => by
  subst e; have := (hv.typ hk).one h.blk.typ; revert this; decide
theorem DagAt.setH {w w9 : World} {Av : Nat → Prop} {d : Nat} {g : DG} {v9 : Value} {l9 : List Hs} (h : DagAt w Av d g) (ho : OwnH w9 v9 l9) (hg : Grown w w9 fun k => g.hv.ownBlock = some k) (hm : Moved w g.hv v9) :
    DagAt (w9.setCell ⟨d, 2, none⟩ v9) (fun k => Av k ∨ v9.ownBlock = some k) d { g with hv := v9, heads := l9 } := by
  have hS : ∀ k, g.hv.ownBlock = some k → Av k := fun k hk => h.av k (.inr (.inr (.inr (.inl hk))))
  have fr : ∀ k, v9.ownBlock = some k → g.hv.ownBlock = some k ∨ w.heap.size ≤ k := fun k hk => by
    rcases hm with e | ⟨q, e, hq⟩
    · left; rw [← e]; exact hk
    · right; rw [hk] at e; have := Option.some.inj e; omega
  have hA : ∀ k, k < w.heap.size → Av k ∨ v9.ownBlock = some k → Av k := fun k hk e => e.elim id fun e => (fr k e).elim (hS k) fun h2 => by omega
  have G2 : Grown w9 (w9.setCell ⟨d, 2, none⟩ v9) fun k => k = d := Grown.setCell w9 d 2 v9 fun _ => rfl
  have hb9 : Blk w9 d 82 (dgA g) := hg.blk h.blk fun e => h.dty h.oh e rfl
  have hd9 : Av d ∨ v9.ownBlock = some d := .inl (h.av d (.inl rfl))
  refine ⟨hb9.set 2 v9, (h.held.grown hg (fun e => h.held.neT (h.oh.typ e) rfl) (fun k _ e => hS k e) hA).grown G2 (fun e => h.held.ne h.blk e.symm) (fun k _ e => e ▸ hd9) (fun k _ e => e),
    (h.wait.grown hg (fun e => h.wait.neT (h.oh.typ e) rfl) (fun k _ e => hS k e) hA).grown G2 (fun e => h.wait.ne h.blk e.symm) (fun k _ e => e ▸ hd9) (fun k _ e => e),
    (ho.grown G2 fun k hk e => by subst e; have := (ho.typ hk).one hb9.typ; revert this; decide), ((h.oo.grown hg fun k hk e => (fun k hk e => h.ho k e hk) k hk e).grown G2 fun k hk e => h.dty h.oo hk e), ((h.oq.grown hg fun k hk e => (fun k hk e => h.hq k e hk) k hk e).grown G2 fun k hk e => h.dty h.oq hk e), h.mm, (fun k hk e => (fr k hk).elim (fun hs => h.ho k hs e) (fun hn => by have := h.oo.lt k e; omega)), (fun k hk e => (fr k hk).elim (fun hs => h.hq k hs e) (fun hn => by have := h.oq.lt k e; omega)), h.oq', ?_, ?_⟩
  · rintro k (hk | hk | hk | hk | hk | hk)
    · exact .inl (h.av k (.inl hk))
    · exact .inl (h.av k (.inr (.inl hk)))
    · exact .inl (h.av k (.inr (.inr (.inl hk))))
    · exact .inr hk
    · exact .inl (h.av k (.inr (.inr (.inr (.inr (.inl hk))))))
    · exact .inl (h.av k (.inr (.inr (.inr (.inr (.inr hk))))))
  · intro k hk
    have hsz := Nat.le_trans hg.size G2.size
    rcases hk with hk | hk
    · exact Nat.lt_of_lt_of_le (h.lt k hk) hsz
    · exact Nat.lt_of_lt_of_le (ho.lt k hk) G2.size
theorem DagAt.setO {w w9 : World} {Av : Nat → Prop} {d : Nat} {g : DG} {v9 : Value} {l9 : List Hs} (h : DagAt w Av d g) (ho : OwnH w9 v9 l9) (hg : Grown w w9 fun k => g.ov.ownBlock = some k) (hm : Moved w g.ov v9) :
    DagAt (w9.setCell ⟨d, 3, none⟩ v9) (fun k => Av k ∨ v9.ownBlock = some k) d { g with ov := v9, order := l9 } := by
  have hS : ∀ k, g.ov.ownBlock = some k → Av k := fun k hk => h.av k (.inr (.inr (.inr (.inr (.inl hk)))))
  have fr : ∀ k, v9.ownBlock = some k → g.ov.ownBlock = some k ∨ w.heap.size ≤ k := fun k hk => by
    rcases hm with e | ⟨q, e, hq⟩
    · left; rw [← e]; exact hk
    · right; rw [hk] at e; have := Option.some.inj e; omega
  have hA : ∀ k, k < w.heap.size → Av k ∨ v9.ownBlock = some k → Av k := fun k hk e => e.elim id fun e => (fr k e).elim (hS k) fun h2 => by omega
  have G2 : Grown w9 (w9.setCell ⟨d, 3, none⟩ v9) fun k => k = d := Grown.setCell w9 d 3 v9 fun _ => rfl
  have hb9 : Blk w9 d 82 (dgA g) := hg.blk h.blk fun e => h.dty h.oo e rfl
  have hd9 : Av d ∨ v9.ownBlock = some d := .inl (h.av d (.inl rfl))
  refine ⟨hb9.set 3 v9, (h.held.grown hg (fun e => h.held.neT (h.oo.typ e) rfl) (fun k _ e => hS k e) hA).grown G2 (fun e => h.held.ne h.blk e.symm) (fun k _ e => e ▸ hd9) (fun k _ e => e),
    (h.wait.grown hg (fun e => h.wait.neT (h.oo.typ e) rfl) (fun k _ e => hS k e) hA).grown G2 (fun e => h.wait.ne h.blk e.symm) (fun k _ e => e ▸ hd9) (fun k _ e => e),
    ((h.oh.grown hg fun k hk e => h.ho k hk e).grown G2 fun k hk e => h.dty h.oh hk e), (ho.grown G2 fun k hk e => by subst e; have := (ho.typ hk).one hb9.typ; revert this; decide), ((h.oq.grown hg fun k hk e => (fun k hk e => h.oq' k e hk) k hk e).grown G2 fun k hk e => h.dty h.oq hk e), h.mm, (fun k hk e => (fr k e).elim (fun hs => h.ho k hk hs) (fun hn => by have := h.oh.lt k hk; omega)), h.hq, (fun k hk e => (fr k hk).elim (fun hs => h.oq' k hs e) (fun hn => by have := h.oq.lt k e; omega)), ?_, ?_⟩
  · rintro k (hk | hk | hk | hk | hk | hk)
    · exact .inl (h.av k (.inl hk))
    · exact .inl (h.av k (.inr (.inl hk)))
    · exact .inl (h.av k (.inr (.inr (.inl hk))))
    · exact .inl (h.av k (.inr (.inr (.inr (.inl hk)))))
    · exact .inr hk
    · exact .inl (h.av k (.inr (.inr (.inr (.inr (.inr hk))))))
  · intro k hk
    have hsz := Nat.le_trans hg.size G2.size
    rcases hk with hk | hk
    · exact Nat.lt_of_lt_of_le (h.lt k hk) hsz
    · exact Nat.lt_of_lt_of_le (ho.lt k hk) G2.size
theorem DagAt.addHeld {w w9 : World} {Av : Nat → Prop} {d : Nat} {g : DG} {l9 : List VX} (h : DagAt w Av d g) (hm : MpAt w9 Av g.hb l9) (hg : Grown w w9 fun k => k = g.hb) : DagAt w9 Av d { g with held := l9 } := by
  have hA : Av g.hb := h.av _ (.inr (.inl rfl))
  have ht : ∀ {v : Value} {l : List Hs}, OwnH w v l → ∀ k, v.ownBlock = some k → ¬ k = g.hb := fun ho k hk e => h.held.neT (ho.typ hk) e
  exact ⟨hg.blk h.blk fun e => h.held.ne h.blk e, hm, h.wait.grown hg (fun e => h.mm e.symm) (fun k _ e => e ▸ hA) fun k _ e => e, h.oh.grown hg (ht h.oh), h.oo.grown hg (ht h.oo), h.oq.grown hg (ht h.oq), h.mm, h.ho, h.hq, h.oq', h.av, fun k hk => Nat.lt_of_lt_of_le (h.lt k hk) hg.size⟩
theorem DagAt.avInto {w : World} {Av Av' : Nat → Prop} {d : Nat} {g : DG} (h : DagAt w Av d g) (h1 : ∀ k, Av' k → Av k) (h2 : ∀ k, DgS d g k → Av' k) : DagAt w Av' d g :=
  h.grown (Grown.refl w fun _ => False) (fun _ e => e.elim) (fun _ _ e => e.elim) (fun k _ e => h1 k e) h2 fun k hk => h.lt k (h1 k hk)
theorem wp_upd {Q : Exit → Act → World → Prop} {o : Oper} {a : Act} {w : World} {K : Act → World → Prop} (m k x : Operand) (ho : o.op = .mapUpdate 80 m k x) (vm vk vx : Value) (hm : a.eval m = vm) (hk : a.eval k = vk) (hx : a.eval x = vx) (w' : World)
    (hr : (Instr.mapUpdate 80 vm vk vx).run Tryz.prog w = .ok () w') (h : K (a.put o.dst undef) w') : o.wp Tryz.prog a w K Q :=
  wp_cellS w' (by unfold execOp; simp only [ho, hm, hk, hx, Sem.run_bind, hr, Result.andThen_ok, Sem.run_pure]) h
set_option maxRecDepth 8000 in
theorem place_nil (d : Nat) (v : VX) (p : Value) (Av : Nat → Prop) (g : DG) (w : World) (hD : DagAt w Av d g) (hE : g.order = []) : Calls Tryz.prog 112 #[ptr d, .agg (vtx v.id.f v.ck p)] w fun e w' => e = .returned (.int .i64 0) ∧ Below w.heap.size w w' := by
  obtain ⟨vv, hvv⟩ : ∃ a : Array Value, Keep (a = vtx v.id.f v.ck p) := ⟨_, ⟨rfl⟩⟩
  rw [← hvv.out]
  have HD := Keep.mk hD
  have HE := Keep.mk hE
  clear hD hE
  go_enter Tryz.func112, Tryz.ntmps112
  refine wp_seq_k fun K1 hK1 => ?_
  refine wp_region_list (WL.out ?_)
  refine WL.box (by kernel_rfl) 61 (.tmp 1) rfl (vv) rfl ?_
  obtain ⟨w1, hwn⟩ : ∃ wx, Keep (wx = w.alloc (.cells (vv) 61)) := ⟨_, ⟨rfl⟩⟩
  rw [← hwn.out]
  have HX1 : Keep (Blk w1 w.heap.size 61 (vv)) := ⟨by rw [hwn.out]; exact Blk.new _ _ _⟩
  have LB1 : Keep (Below w.heap.size w w1) := ⟨by rw [hwn.out]; exact below_new _ _⟩
  clear hwn
  simp only [Act.put, List.setIfInBounds_toArray, List.set_cons_zero, List.set_cons_succ]
  refine WL.val (by kernel_rfl) (.int .i64 0) (by go_simp) ?_
  simp only [Act.put, List.setIfInBounds_toArray, List.set_cons_zero, List.set_cons_succ]
  refine WL.nil ?_
  refine hK1 _ _ ?_
  refine wp_seq_k fun K2 hK2 => ?_
  have HD1 := Keep.mk (HD.out.below LB1.out)
  obtain ⟨a2, c2, hov⟩ := HD1.out.oo.sl
  have hol : g.order.length = 0 := by rw [HE.out]; rfl
  rw [hol] at hov
  have c3 : w1.cell? ⟨d, 3, none⟩ = some (.slice a2 0 c2) := by have h := HD1.out.blk.c 3 (by rfl : (dgA g)[3]? = some g.ov); rw [hov] at h; exact h
  have hwm : IntKind.i64.wrap (-1) = -1 := by decide
  refine wp_region_list (WL.out ?_)
  refine WL.val (by kernel_rfl) (.pointer (some ⟨d, 0, none⟩)) (by go_simp) ?_
  simp only [Act.put, List.setIfInBounds_toArray, List.set_cons_zero, List.set_cons_succ]
  refine WL.val (by kernel_rfl) (.pointer (some ⟨d, 0, none⟩)) (by go_simp) ?_
  simp only [Act.put, List.setIfInBounds_toArray, List.set_cons_zero, List.set_cons_succ]
  refine WL.val (by kernel_rfl) (.pointer (some ⟨d, 3, none⟩)) (by go_simp) ?_
  simp only [Act.put, List.setIfInBounds_toArray, List.set_cons_zero, List.set_cons_succ]
  refine WL.val (by kernel_rfl) (.slice a2 0 c2) (by go_simp) ?_
  simp only [Act.put, List.setIfInBounds_toArray, List.set_cons_zero, List.set_cons_succ]
  refine WL.val (by kernel_rfl) (.int .i64 0) (by go_simp) ?_
  simp only [Act.put, List.setIfInBounds_toArray, List.set_cons_zero, List.set_cons_succ]
  refine WL.val (by kernel_rfl) (.int .i64 0) (by go_simp) ?_
  simp only [Act.put, List.setIfInBounds_toArray, List.set_cons_zero, List.set_cons_succ]
  refine WL.nil ?_
  refine hK2 _ _ ?_
  refine wp_seq_k fun K3 hK3 => ?_
  refine wp_seq_k fun K4 hK4 => ?_
  refine wp_region_list (WL.out ?_)
  refine WL.val (by kernel_rfl) (.pointer (some ⟨d, 0, none⟩)) (by go_simp) ?_
  simp only [Act.put, List.setIfInBounds_toArray, List.set_cons_zero, List.set_cons_succ]
  refine WL.val (by kernel_rfl) (.pointer (some ⟨d, 0, none⟩)) (by go_simp) ?_
  simp only [Act.put, List.setIfInBounds_toArray, List.set_cons_zero, List.set_cons_succ]
  refine WL.val (by kernel_rfl) (.pointer (some ⟨d, 3, none⟩)) (by go_simp) ?_
  simp only [Act.put, List.setIfInBounds_toArray, List.set_cons_zero, List.set_cons_succ]
  refine WL.val (by kernel_rfl) (.slice a2 0 c2) (by go_simp) ?_
  simp only [Act.put, List.setIfInBounds_toArray, List.set_cons_zero, List.set_cons_succ]
  refine WL.val (by kernel_rfl) (.int .i64 0) (by go_simp) ?_
  simp only [Act.put, List.setIfInBounds_toArray, List.set_cons_zero, List.set_cons_succ]
  refine WL.val (by kernel_rfl) (.int .i64 (-1)) (by go_simp) ?_
  simp only [Act.put, List.setIfInBounds_toArray, List.set_cons_zero, List.set_cons_succ]
  refine WL.val (by kernel_rfl) (.int .i64 (-1)) (by go_simp) ?_
  simp only [Act.put, List.setIfInBounds_toArray, List.set_cons_zero, List.set_cons_succ]
  refine WL.nil ?_
  refine hK4 _ _ ?_
  refine wp_block ?_
  refine wp_loop (fun ac wr => ∃ (t : Nat) (u18 u19 u20 u21 u22 u23 u24 u25 u26 u27 u28 u29 u30 u31 u32 u33 u34 u35 u36 u37 u38 u39 u40 u41 u42 u43 u44 u45 : Value), ac = { tmps := #[.pointer (some ⟨d, 0, none⟩), .agg vv, undef, .pointer (some ⟨w.heap.size, 0, none⟩), .int .i64 0, .int .i64 0, .int .i64 (-1), .pointer (some ⟨d, 0, none⟩), .pointer (some ⟨d, 0, none⟩), .pointer (some ⟨d, 3, none⟩), .slice a2 0 c2, .int .i64 0, .pointer (some ⟨d, 0, none⟩), .pointer (some ⟨d, 0, none⟩), .pointer (some ⟨d, 3, none⟩), .slice a2 0 c2, .int .i64 0, .int .i64 (-1), u18, u19, u20, u21, u22, u23, u24, u25, u26, u27, u28, u29, u30, u31, u32, u33, u34, u35, u36, u37, u38, u39, u40, u41, u42, u43, u44, u45, undef], defers := [] } ∧ w1 = wr) (fun a _ => 0) ⟨0, undef, undef, undef, undef, undef, undef, undef, undef, undef, undef, undef, undef, undef, undef, undef, undef, undef, undef, undef, undef, undef, undef, undef, undef, undef, undef, undef, undef, rfl, rfl⟩ ?_
  rintro ac wr ⟨t, u18, u19, u20, u21, u22, u23, u24, u25, u26, u27, u28, u29, u30, u31, u32, u33, u34, u35, u36, u37, u38, u39, u40, u41, u42, u43, u44, u45, rfl, hW⟩
  obtain rfl := hW
  refine wp_seq_k fun K5 hK5 => ?_
  refine wp_seq_k fun K6 hK6 => ?_
  refine wp_region_held_drew (S := fun _ => True) (by kernel_rfl) (trivial) (fun hHeld => ?_)
  refine wpAnyH_take (i := 0) (oi := ⟨some 18, Op.move (Operand.tmp 6), 3, _, _, none⟩) (v := .int .i64 (-1)) rfl (by kernel_rfl) (by kernel_rfl) (by kernel_rfl) (fun _ _ _ h => h) (Or.inl ⟨by rfl, fun w hS => by go_simp⟩) hHeld ?_
  simp only [Act.put, List.setIfInBounds_toArray, List.set_cons_zero, List.set_cons_succ]
  refine wpAnyH_take (i := 1) (oi := ⟨some 19, Op.binOp BinOp.geq 3 (Operand.tmp 18) (Operand.const (Value.int IntKind.i64 0)) 3, 4, _, _, none⟩) (v := .bool false) rfl (by kernel_rfl) (by kernel_rfl) (by kernel_rfl) (fun _ _ _ h => h) (Or.inl ⟨by rfl, fun w hS => by go_simp⟩) hHeld ?_
  simp only [Act.put, List.setIfInBounds_toArray, List.set_cons_zero, List.set_cons_succ]
  refine wpAnyH_take (i := 2) (oi := ⟨some 20, Op.move (Operand.tmp 19), 4, _, _, none⟩) (v := .bool false) rfl (by kernel_rfl) (by kernel_rfl) (by kernel_rfl) (fun _ _ _ h => h) (Or.inl ⟨by rfl, fun w hS => by go_simp⟩) hHeld ?_
  simp only [Act.put, List.setIfInBounds_toArray, List.set_cons_zero, List.set_cons_succ]
  refine wpAnyH_take (i := 3) (oi := ⟨some 21, Op.load 61 (Operand.tmp 3), 61, _, _, some (2, true)⟩) (v := undef) rfl (by kernel_rfl) (by kernel_rfl) (by kernel_rfl) (fun _ _ _ h => h) (Or.inr ⟨by rfl, rfl⟩) hHeld ?_
  simp only [Act.put, List.setIfInBounds_toArray, List.set_cons_zero, List.set_cons_succ]
  refine wpAnyH_take (i := 4) (oi := ⟨some 22, Op.move (Operand.tmp 0), 41, _, _, some (2, true)⟩) (v := undef) rfl (by kernel_rfl) (by kernel_rfl) (by kernel_rfl) (fun _ _ _ h => h) (Or.inr ⟨by rfl, rfl⟩) hHeld ?_
  simp only [Act.put, List.setIfInBounds_toArray, List.set_cons_zero, List.set_cons_succ]
  refine wpAnyH_take (i := 5) (oi := ⟨some 23, Op.nilCheck (Operand.tmp 22), 0, _, _, some (2, true)⟩) (v := undef) rfl (by kernel_rfl) (by kernel_rfl) (by kernel_rfl) (fun _ _ _ h => h) (Or.inr ⟨by rfl, rfl⟩) hHeld ?_
  simp only [Act.put, List.setIfInBounds_toArray, List.set_cons_zero, List.set_cons_succ]
  refine wpAnyH_take (i := 6) (oi := ⟨some 24, Op.fieldAddr 82 (Operand.tmp 23) 3, 0, _, _, some (2, true)⟩) (v := undef) rfl (by kernel_rfl) (by kernel_rfl) (by kernel_rfl) (fun _ _ _ h => h) (Or.inr ⟨by rfl, rfl⟩) hHeld ?_
  simp only [Act.put, List.setIfInBounds_toArray, List.set_cons_zero, List.set_cons_succ]
  refine wpAnyH_take (i := 7) (oi := ⟨some 25, Op.load 25 (Operand.tmp 24), 25, _, _, some (2, true)⟩) (v := undef) rfl (by kernel_rfl) (by kernel_rfl) (by kernel_rfl) (fun _ _ _ h => h) (Or.inr ⟨by rfl, rfl⟩) hHeld ?_
  simp only [Act.put, List.setIfInBounds_toArray, List.set_cons_zero, List.set_cons_succ]
  refine wpAnyH_take (i := 8) (oi := ⟨some 26, Op.move (Operand.tmp 6), 3, _, _, some (2, true)⟩) (v := undef) rfl (by kernel_rfl) (by kernel_rfl) (by kernel_rfl) (fun _ _ _ h => h) (Or.inr ⟨by rfl, rfl⟩) hHeld ?_
  simp only [Act.put, List.setIfInBounds_toArray, List.set_cons_zero, List.set_cons_succ]
  refine wpAnyH_take (i := 9) (oi := ⟨some 27, Op.indexAddr 25 (Operand.tmp 25) (Operand.tmp 26), 0, _, _, some (2, true)⟩) (v := undef) rfl (by kernel_rfl) (by kernel_rfl) (by kernel_rfl) (fun _ _ _ h => h) (Or.inr ⟨by rfl, rfl⟩) hHeld ?_
  simp only [Act.put, List.setIfInBounds_toArray, List.set_cons_zero, List.set_cons_succ]
  refine wpAnyH_take (i := 10) (oi := ⟨some 28, Op.load 50 (Operand.tmp 27), 50, _, _, some (2, true)⟩) (v := undef) rfl (by kernel_rfl) (by kernel_rfl) (by kernel_rfl) (fun _ _ _ h => h) (Or.inr ⟨by rfl, rfl⟩) hHeld ?_
  simp only [Act.put, List.setIfInBounds_toArray, List.set_cons_zero, List.set_cons_succ]
  refine wpAnyH_take (i := 11) (oi := ⟨some 29, Op.call { callee := Callee.value (Operand.func 115), args := #[Operand.tmp 21, Operand.tmp 28], argTypes := #[61, 50] }, 4, _, _, some (2, true)⟩) (v := undef) rfl (by kernel_rfl) (by kernel_rfl) (by kernel_rfl) (fun _ _ _ h => h) (Or.inr ⟨by rfl, rfl⟩) hHeld ?_
  simp only [Act.put, List.setIfInBounds_toArray, List.set_cons_zero, List.set_cons_succ]
  refine wpAnyH_take (i := 12) (oi := ⟨some 30, Op.unOp UnOp.not 4 (Operand.tmp 29), 4, _, _, some (2, true)⟩) (v := undef) rfl (by kernel_rfl) (by kernel_rfl) (by kernel_rfl) (fun _ _ _ h => h) (Or.inr ⟨by rfl, rfl⟩) hHeld ?_
  simp only [Act.put, List.setIfInBounds_toArray, List.set_cons_zero, List.set_cons_succ]
  refine wpAnyH_take (i := 13) (oi := ⟨some 31, Op.pick (Operand.tmp 20) (Operand.tmp 30) (Operand.const (Value.bool false)), 4, _, _, none⟩) (v := .bool false) rfl (by kernel_rfl) (by kernel_rfl) (by kernel_rfl) (fun _ _ _ h => h) (Or.inl ⟨by rfl, fun w hS => by go_simp⟩) hHeld ?_
  simp only [Act.put, List.setIfInBounds_toArray, List.set_cons_zero, List.set_cons_succ]
  refine wpAnyH_done (by kernel_rfl) ?_ _
  refine hK6 _ _ ?_
  refine wp_cond_false rfl ?_
  refine wp_exit ?_
  refine hK3 _ _ ?_
  refine wp_seq_k fun K7 hK7 => ?_
  refine wp_region_list (WL.out ?_)
  refine WL.val (by kernel_rfl) (.int .i64 0) (by go_simp) ?_
  simp only [Act.put, List.setIfInBounds_toArray, List.set_cons_zero, List.set_cons_succ]
  refine WL.val (by kernel_rfl) (.int .i64 0) (by go_simp) ?_
  simp only [Act.put, List.setIfInBounds_toArray, List.set_cons_zero, List.set_cons_succ]
  refine WL.nil ?_
  refine hK7 _ _ ?_
  refine wp_ret ?_
  go_ret
  exact ⟨rfl, LB1.out.drew⟩
theorem idx_nil (pa : Option Addr) (pc : Nat) (fv : Value) (w : World) : Calls Tryz.prog 131 #[.slice pa 0 pc, fv] w fun e w' => e = .returned (.int .i64 (-1)) ∧ w' = w := by
  go_enter Tryz.func131, Tryz.ntmps131
  refine wp_seq_k fun K1 hK1 => ?_
  refine wp_region_list (WL.out ?_)
  refine WL.val (by kernel_rfl) (.int .i64 0) (by go_simp) ?_
  simp only [Act.put, List.setIfInBounds_toArray, List.set_cons_zero, List.set_cons_succ]
  refine WL.nil ?_
  refine hK1 _ _ ?_
  refine wp_seq_k fun K2 hK2 => ?_
  refine wp_seq_k fun K3 hK3 => ?_
  refine wp_region_list (WL.out ?_)
  refine WL.val (by kernel_rfl) (.slice pa 0 pc) (by go_simp) ?_
  simp only [Act.put, List.setIfInBounds_toArray, List.set_cons_zero, List.set_cons_succ]
  refine WL.val (by kernel_rfl) (.int .i64 0) (by go_simp) ?_
  simp only [Act.put, List.setIfInBounds_toArray, List.set_cons_zero, List.set_cons_succ]
  refine WL.val (by kernel_rfl) (.int .i64 0) (by go_simp) ?_
  simp only [Act.put, List.setIfInBounds_toArray, List.set_cons_zero, List.set_cons_succ]
  refine WL.nil ?_
  refine hK3 _ _ ?_
  refine wp_block ?_
  refine wp_loop (fun ac wr => ∃ (t : Nat) (u4 u5 u9 u10 u11 u12 u13 u14 u15 u16 u17 u18 : Value), ac = { tmps := #[.slice pa 0 pc, fv, undef, undef, u4, u5, .slice pa 0 pc, .int .i64 0, .int .i64 0, u9, u10, u11, u12, u13, u14, u15, u16, u17, u18], defers := [] } ∧ w = wr) (fun a _ => 0) ⟨0, .int .i64 0, undef, undef, undef, undef, undef, undef, undef, undef, undef, undef, undef, rfl, rfl⟩ ?_
  rintro ac wr ⟨t, u4, u5, u9, u10, u11, u12, u13, u14, u15, u16, u17, u18, rfl, hW⟩
  obtain rfl := hW
  refine wp_seq_k fun K4 hK4 => ?_
  refine wp_region_list (WL.out ?_)
  refine WL.val (by kernel_rfl) (.bool false) (by go_simp) ?_
  simp only [Act.put, List.setIfInBounds_toArray, List.set_cons_zero, List.set_cons_succ]
  refine WL.nil ?_
  refine hK4 _ _ ?_
  refine wp_seq_k fun K5 hK5 => ?_
  refine wp_cond_false rfl ?_
  refine wp_exit ?_
  refine hK2 _ _ ?_
  refine wp_seq_k fun K6 hK6 => ?_
  refine wp_region_list (WL.out ?_)
  refine WL.val (by kernel_rfl) (.int .i64 (-1)) (by go_simp) ?_
  simp only [Act.put, List.setIfInBounds_toArray, List.set_cons_zero, List.set_cons_succ]
  refine WL.nil ?_
  refine hK6 _ _ ?_
  refine wp_ret ?_
  go_ret
  exact ⟨rfl, rfl⟩
set_option maxRecDepth 8000 in
theorem df_nil (pa : Option Addr) (pc : Nat) (fv : Value) (w : World) : Calls Tryz.prog 113 #[.slice pa 0 pc, fv] w fun e w' => e = .returned (.slice pa 0 pc) ∧ w' = w := by
  go_enter Tryz.func113, Tryz.ntmps113
  refine wp_seq_k fun K1 hK1 => ?_
  refine wp_region_list (WL.out ?_)
  refine WL.val (by kernel_rfl) (.slice none 0 0) (by go_simp) ?_
  simp only [Act.put, List.setIfInBounds_toArray, List.set_cons_zero, List.set_cons_succ]
  refine WL.nil ?_
  refine hK1 _ _ ?_
  refine wp_seq_k fun K2 hK2 => ?_
  refine wp_region_list (WL.out ?_)
  refine WL.val (by kernel_rfl) (.slice pa 0 pc) (by go_simp) ?_
  simp only [Act.put, List.setIfInBounds_toArray, List.set_cons_zero, List.set_cons_succ]
  refine WL.val (by kernel_rfl) (fv) (by go_simp) ?_
  simp only [Act.put, List.setIfInBounds_toArray, List.set_cons_zero, List.set_cons_succ]
  refine WL.callF (by kernel_rfl) 131 _ _ rfl Tryz.in131 #[.slice pa 0 pc, fv] (by simp [Act.eval]) ?_
  refine (idx_nil pa pc fv w).mono ?_
  rintro e w1 ⟨rfl, hz⟩
  refine ⟨_, rfl, ?_⟩
  subst hz
  simp only [Act.put, List.setIfInBounds_toArray, List.set_cons_zero, List.set_cons_succ]
  refine WL.val (by kernel_rfl) (.int .i64 (-1)) (by go_simp) ?_
  simp only [Act.put, List.setIfInBounds_toArray, List.set_cons_zero, List.set_cons_succ]
  refine WL.nil ?_
  refine hK2 _ _ ?_
  refine wp_seq_k fun K3 hK3 => ?_
  refine wp_seq_k fun K4 hK4 => ?_
  refine wp_region_list (WL.out ?_)
  refine WL.val (by kernel_rfl) (.int .i64 (-1)) (by go_simp) ?_
  simp only [Act.put, List.setIfInBounds_toArray, List.set_cons_zero, List.set_cons_succ]
  refine WL.val (by kernel_rfl) (.bool true) (by go_simp) ?_
  simp only [Act.put, List.setIfInBounds_toArray, List.set_cons_zero, List.set_cons_succ]
  refine WL.nil ?_
  refine hK4 _ _ ?_
  refine wp_cond_true rfl ?_
  refine wp_seq_k fun K5 hK5 => ?_
  refine wp_region_list (WL.out ?_)
  refine WL.val (by kernel_rfl) (.slice pa 0 pc) (by go_simp) ?_
  simp only [Act.put, List.setIfInBounds_toArray, List.set_cons_zero, List.set_cons_succ]
  refine WL.val (by kernel_rfl) (.slice pa 0 pc) (by go_simp) ?_
  simp only [Act.put, List.setIfInBounds_toArray, List.set_cons_zero, List.set_cons_succ]
  refine WL.nil ?_
  refine hK5 _ _ ?_
  refine wp_ret ?_
  go_ret
  exact ⟨rfl, rfl⟩
end Go.Proofs.YtdkhjeofjhcceaaGreatDoor
