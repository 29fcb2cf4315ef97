import Derived.Test.YtanmbbckkfkhpaaHdD
namespace Go.Proofs.Ytanmbbckkfkhpaa
open Go.RowKit

/-- A cell beside it is written. -/
theorem Mid.aside {wB : World} {hb p x : Nat} {s : ByteArray} {vB : Value} {aP : Nat} {whyP : Int} {badP : Option Nat} {aR : Nat} {whyR bR : Int} {first : Value} {F : Nat → Prop} {w w' : World} {g : Nat} {cs : Array Value} (h : Mid wB hb p x s vB aP whyP badP aR whyR bR first F w) (hk : Blk w g 56 cs) (hF : ¬ F g) (hB : wB.heap.size ≤ g) (hg : Grown w w' fun k => k = g) :
    Mid wB hb p x s vB aP whyP badP aR whyR bR first F w' where
  rd := ⟨hg.blk h.rd.blk (blk_ne h.rd.blk hk (by decide)), h.rd.le⟩
  rf := hg.blk h.rf (blk_ne h.rf hk (by decide))
  er := h.er.grown hg fun q _ hq hF => ⟨blk_ne hq hk (by decide), hF⟩
  bk := h.bk.grown hg (by obtain ⟨lv, gv, n, hh⟩ := h.hbk; exact blk_ne hh hk (by decide)) (fun k hk e => hF (e ▸ hk)) fun _ h => h
  sep k hk := by have := h.sep k hk; have := hg.size; exact ⟨by omega, by omega, by omega, by omega, by omega⟩
  lo := h.lo
  below := h.below.trans (hg.to_below (fun k hk e => by omega) h.below.size)
theorem Try.enter33 (w : World) (vs : Array Value) : (callFunc 33 vs).run Try.prog w = .ok (.enter 33 vs) w := by kernel_rfl
theorem Try.enter48 (w : World) (vs : Array Value) : (callFunc 48 vs).run Try.prog w = .ok (.enter 48 vs) w := by kernel_rfl
theorem Try.enter51 (w : World) (vs : Array Value) : (callFunc 51 vs).run Try.prog w = .ok (.enter 51 vs) w := by kernel_rfl
theorem Try.enter52 (w : World) (vs : Array Value) : (callFunc 52 vs).run Try.prog w = .ok (.enter 52 vs) w := by kernel_rfl
theorem Try.enter53 (w : World) (vs : Array Value) : (callFunc 53 vs).run Try.prog w = .ok (.enter 53 vs) w := by kernel_rfl
theorem Try.enter54 (w : World) (vs : Array Value) : (callFunc 54 vs).run Try.prog w = .ok (.enter 54 vs) w := by kernel_rfl
theorem Try.enter55 (w : World) (vs : Array Value) : (callFunc 55 vs).run Try.prog w = .ok (.enter 55 vs) w := by kernel_rfl
theorem Try.enter56 (w : World) (vs : Array Value) : (callFunc 56 vs).run Try.prog w = .ok (.enter 56 vs) w := by kernel_rfl
theorem Try.enter28 (w : World) (vs : Array Value) : (callFunc 28 vs).run Try.prog w = .ok (.enter 28 vs) w := by kernel_rfl
theorem Try.enter59 (w : World) (vs : Array Value) : (callFunc 59 vs).run Try.prog w = .ok (.enter 59 vs) w := by kernel_rfl
theorem Try.enter47 (w : World) (vs : Array Value) : (callFunc 47 vs).run Try.prog w = .ok (.enter 47 vs) w := by kernel_rfl
theorem Try.enter22 (w : World) (vs : Array Value) : (callFunc 22 vs).run Try.prog w = .ok (.enter 22 vs) w := by kernel_rfl
theorem Try.enter24 (w : World) (vs : Array Value) : (callFunc 24 vs).run Try.prog w = .ok (.enter 24 vs) w := by kernel_rfl
theorem Try.enter25 (w : World) (vs : Array Value) : (callFunc 25 vs).run Try.prog w = .ok (.enter 25 vs) w := by kernel_rfl

set_option maxRecDepth 4000 in
set_option maxHeartbeats 4000000 in
theorem step_num (wB : World) (hb p x : Nat) (s : ByteArray) (vB : Value) (a : Nat) (why : Int) (bad : Option Nat) (b : Int) (F : Nat → Prop) (w : World) (h : Mid wB hb p x s vB a why bad a why b (errV bad) F w) (hE : ErrB why a b) (hR : RowAt wB vB (lst s)) (hs : s.size ≤ 140737488355328) (X : Nat) (N : Int) (V : Value) :
    Calls Try.prog 22 #[ptr hb, .agg #[.int .i64 1, .int .u64 (X : Int), .int .i64 N, V]] w (StepPost wB hb p x s vB) := by
  obtain ⟨c, a', why', hP, hQ⟩ := pair_num p x s vB a why bad hs h.rd.le h.good X
  have HP := Keep.mk hP
  have HQ := Keep.mk hQ
  have HE := Keep.mk hE
  have HR := Keep.mk hR
  have HM1 := Keep.mk (h.later (below_new w (.cells #[.int .i64 1, .int .u64 (X : Int), .int .i64 N, V] 43)))
  have HX1 := Keep.mk (Blk.new w 43 #[.int .i64 1, .int .u64 (X : Int), .int .i64 N, V])
  clear h hE hR hP hQ hs
  go_enter Try.func22, Try.ntmps22
  go_wp2_with (first | (refine wpList_boxA rfl 43 (.tmp 1) rfl _ rfl ?_; refine Hid.out ?_))
  refine hid_in ?_
  generalize w.alloc (.cells #[.int .i64 1, .int .u64 (X : Int), .int .i64 N, V] 43) = w1 at *
  have o0 : w1.cell? ⟨w.heap.size, 0, none⟩ = some (.int .i64 1) := by rw [HX1.out.cell]; rfl
  have c0 := HM1.out.c0
  have hcl : True := trivial
  clear hcl
  have o1 : w1.cell? ⟨w.heap.size, 1, none⟩ = some (.int .u64 (X : Int)) := by rw [HX1.out.cell]; rfl
  have HS1 : Keep (∀ wx, (Grown w1 wx fun k => k = p) → wx.cell? ⟨hb, 0, none⟩ = some (ptr p) ∧ wx.cell? ⟨w.heap.size, 1, none⟩ = some (.int .u64 (X : Int))) := ⟨fun wx hg => ⟨hg.cell c0 (fun e => HM1.out.ne.2.1 e.symm), hg.cell o1 (fun e => blk_ne HX1.out HM1.out.rd.blk (by decide) e)⟩⟩
  have HX2 : Keep (∀ wx, (Grown w1 wx fun k => k = p) → Blk wx w.heap.size 43 #[.int .i64 1, .int .u64 (X : Int), .int .i64 N, V]) := ⟨fun wx hg => hg.blk HX1.out (fun e => blk_ne HX1.out HM1.out.rd.blk (by decide) e)⟩
  go_wp2_with fail
  refine wp_region_held_drew (S := fun wx => wx.cell? ⟨hb, 0, none⟩ = some (ptr p) ∧ wx.cell? ⟨w.heap.size, 1, none⟩ = some (.int .u64 (X : Int))) (by kernel_rfl) (HS1.out _ ((Grown.refl _ _).drew)) (fun hHeld => ?_)
  refine wpAnyH_take (i := 0) (oi := ⟨some 67, Op.move (Operand.tmp 0), 51, _, _, none⟩) (v := ptr hb) rfl (by kernel_rfl) (by kernel_rfl) (by kernel_rfl) (fun _ _ _ h => h) (Or.inl ⟨by rfl, fun w hS => by go_simp⟩) hHeld ?_
  simp only [Act.put, List.setIfInBounds_toArray, List.set_cons_zero, List.set_cons_succ]
  refine wpAnyH_take (i := 1) (oi := ⟨some 68, Op.nilCheck (Operand.tmp 67), 0, _, _, none⟩) (v := ptr hb) rfl (by kernel_rfl) (by kernel_rfl) (by kernel_rfl) (fun _ _ _ h => h) (Or.inl ⟨by rfl, fun w hS => by go_simp⟩) hHeld ?_
  simp only [Act.put, List.setIfInBounds_toArray, List.set_cons_zero, List.set_cons_succ]
  refine wpAnyH_take (i := 2) (oi := ⟨some 69, Op.fieldAddr 60 (Operand.tmp 68) 0, 0, _, _, none⟩) (v := ptr hb) rfl (by kernel_rfl) (by kernel_rfl) (by kernel_rfl) (fun _ _ _ h => h) (Or.inl ⟨by rfl, fun w hS => by go_simp⟩) hHeld ?_
  simp only [Act.put, List.setIfInBounds_toArray, List.set_cons_zero, List.set_cons_succ]
  refine wpAnyH_take (i := 3) (oi := ⟨some 70, Op.load 52 (Operand.tmp 69), 52, _, _, none⟩) (v := ptr p) rfl (by kernel_rfl) (by kernel_rfl) (by kernel_rfl) (fun _ _ _ h => h) (Or.inl ⟨by rfl, fun w hS => by (have hcx := hS.1; clear hS; go_simp)⟩) hHeld ?_
  simp only [Act.put, List.setIfInBounds_toArray, List.set_cons_zero, List.set_cons_succ]
  refine wpAnyH_take (i := 4) (oi := ⟨some 71, Op.fieldAddr 43 (Operand.tmp 3) 1, 0, _, _, none⟩) (v := .pointer (some ⟨w.heap.size, 1, none⟩)) rfl (by kernel_rfl) (by kernel_rfl) (by kernel_rfl) (fun _ _ _ h => h) (Or.inl ⟨by rfl, fun w hS => by go_simp⟩) hHeld ?_
  simp only [Act.put, List.setIfInBounds_toArray, List.set_cons_zero, List.set_cons_succ]
  refine wpAnyH_take (i := 5) (oi := ⟨some 72, Op.load 41 (Operand.tmp 71), 41, _, _, none⟩) (v := .int .u64 (X : Int)) rfl (by kernel_rfl) (by kernel_rfl) (by kernel_rfl) (fun _ _ _ h => h) (Or.inl ⟨by rfl, fun w hS => by (have hcx := hS.2; clear hS; go_simp)⟩) hHeld ?_
  simp only [Act.put, List.setIfInBounds_toArray, List.set_cons_zero, List.set_cons_succ]
  refine wpAnyH_ready (rs := [6]) (by kernel_rfl) (by simp) ?_
  refine AllReadyH.cons (o := ⟨some 73, Op.call { callee := Callee.value (Operand.func 33), args := #[Operand.tmp 70, Operand.tmp 72], argTypes := #[52, 41] }, 74, _, _, none⟩) rfl (fun K hK => ?_) AllReadyH.nil
  rw [if_pos (by rfl)]
  refine wp_callF 33 _ _ rfl Try.enter33 #[ptr p, .int .u64 (X : Int)] (by simp [Act.eval]) (fun vz wz => PPost p s why a bad a' why' (.int .u64 c) w1.drew (.returned vz) wz) ?_ ?_
  · refine (HP.out w1.drew HM1.out.drew.rd).mono ?_
    intro e wz hp
    obtain ⟨bad', rfl, hi, hg, he⟩ := hp
    exact ⟨_, rfl, bad', rfl, hi, hg, he⟩
  rintro vz w2 ⟨bad', he0, hi, hg, he⟩
  injection he0 with he0
  subst he0
  have hg1 := ((Grown.refl w1 fun k => k = p).drew).trans hg
  refine hK.out _ _ (HS1.out _ hg1) fun hHeld2 => ?_
  clear hK
  simp only [Act.put, List.setIfInBounds_toArray, List.set_cons_zero, List.set_cons_succ]
  refine wpAnyH_take (i := 7) (oi := ⟨some 66, Op.move (Operand.tmp 73), 74, _, _, none⟩) (v := .tuple #[.int .u64 c, errV bad']) rfl (by kernel_rfl) (by kernel_rfl) (by kernel_rfl) (fun _ _ _ h => h) (Or.inl ⟨by rfl, fun w hS => by go_simp⟩) hHeld2 ?_
  simp only [Act.put, List.setIfInBounds_toArray, List.set_cons_zero, List.set_cons_succ]
  refine wpAnyH_take (i := 8) (oi := ⟨some 74, Op.extract (Operand.tmp 66) 0, 41, _, _, none⟩) (v := .int .u64 c) rfl (by kernel_rfl) (by kernel_rfl) (by kernel_rfl) (fun _ _ _ h => h) (Or.inl ⟨by rfl, fun w hS => by go_simp⟩) hHeld2 ?_
  simp only [Act.put, List.setIfInBounds_toArray, List.set_cons_zero, List.set_cons_succ]
  refine wpAnyH_take (i := 9) (oi := ⟨some 75, Op.extract (Operand.tmp 66) 1, 27, _, _, none⟩) (v := errV bad') rfl (by kernel_rfl) (by kernel_rfl) (by kernel_rfl) (fun _ _ _ h => h) (Or.inl ⟨by rfl, fun w hS => by go_simp⟩) hHeld2 ?_
  simp only [Act.put, List.setIfInBounds_toArray, List.set_cons_zero, List.set_cons_succ]
  refine wpAnyH_take (i := 10) (oi := ⟨some 9, Op.assign (Operand.tmp 74), 41, _, _, none⟩) (v := .int .u64 c) rfl (by kernel_rfl) (by kernel_rfl) (by kernel_rfl) (fun _ _ _ h => h) (Or.inl ⟨by rfl, fun w hS => by go_simp⟩) hHeld2 ?_
  simp only [Act.put, List.setIfInBounds_toArray, List.set_cons_zero, List.set_cons_succ]
  refine wpAnyH_take (i := 11) (oi := ⟨some 10, Op.assign (Operand.tmp 75), 27, _, _, none⟩) (v := errV bad') rfl (by kernel_rfl) (by kernel_rfl) (by kernel_rfl) (fun _ _ _ h => h) (Or.inl ⟨by rfl, fun w hS => by go_simp⟩) hHeld2 ?_
  simp only [Act.put, List.setIfInBounds_toArray, List.set_cons_zero, List.set_cons_succ]
  refine wpAnyH_done (by kernel_rfl) ?_ _
  have HM2 := Keep.mk (HM1.out.drew.prog hi hg he)
  have Hk := Keep.mk he.keep
  have hX2 := HX2.out _ hg1
  clear hi hg he hHeld hHeld2 HS1 HX2 hg1 HM1 HX1 o0 o1 c0 HP
  have c1 := HM2.out.c1
  have o1 : w2.cell? ⟨w.heap.size, 1, none⟩ = some (.int .u64 (X : Int)) := by rw [hX2.cell]; rfl
  have HS2 : Keep (∀ wx, (Grown w2 wx fun k => k = x) → wx.cell? ⟨hb, 1, none⟩ = some (ptr x) ∧ wx.cell? ⟨w.heap.size, 1, none⟩ = some (.int .u64 (X : Int))) := ⟨fun wx hg => ⟨hg.cell c1 (fun e => HM2.out.ne.2.2 e.symm), hg.cell o1 (fun e => blk_ne hX2 HM2.out.rf (by decide) e)⟩⟩
  clear hX2
  go_wp2_with fail
  refine wp_region_held_drew (S := fun wx => wx.cell? ⟨hb, 1, none⟩ = some (ptr x) ∧ wx.cell? ⟨w.heap.size, 1, none⟩ = some (.int .u64 (X : Int))) (by kernel_rfl) (HS2.out _ ((Grown.refl _ _).drew)) (fun hHeld => ?_)
  refine wpAnyH_take (i := 0) (oi := ⟨some 77, Op.move (Operand.tmp 0), 51, _, _, none⟩) (v := ptr hb) rfl (by kernel_rfl) (by kernel_rfl) (by kernel_rfl) (fun _ _ _ h => h) (Or.inl ⟨by rfl, fun w hS => by go_simp⟩) hHeld ?_
  simp only [Act.put, List.setIfInBounds_toArray, List.set_cons_zero, List.set_cons_succ]
  refine wpAnyH_take (i := 1) (oi := ⟨some 78, Op.nilCheck (Operand.tmp 77), 0, _, _, none⟩) (v := ptr hb) rfl (by kernel_rfl) (by kernel_rfl) (by kernel_rfl) (fun _ _ _ h => h) (Or.inl ⟨by rfl, fun w hS => by go_simp⟩) hHeld ?_
  simp only [Act.put, List.setIfInBounds_toArray, List.set_cons_zero, List.set_cons_succ]
  refine wpAnyH_take (i := 2) (oi := ⟨some 79, Op.fieldAddr 60 (Operand.tmp 78) 1, 0, _, _, none⟩) (v := .pointer (some ⟨hb, 1, none⟩)) rfl (by kernel_rfl) (by kernel_rfl) (by kernel_rfl) (fun _ _ _ h => h) (Or.inl ⟨by rfl, fun w hS => by go_simp⟩) hHeld ?_
  simp only [Act.put, List.setIfInBounds_toArray, List.set_cons_zero, List.set_cons_succ]
  refine wpAnyH_take (i := 3) (oi := ⟨some 80, Op.load 54 (Operand.tmp 79), 54, _, _, none⟩) (v := ptr x) rfl (by kernel_rfl) (by kernel_rfl) (by kernel_rfl) (fun _ _ _ h => h) (Or.inl ⟨by rfl, fun w hS => by (have hcx := hS.1; clear hS; go_simp)⟩) hHeld ?_
  simp only [Act.put, List.setIfInBounds_toArray, List.set_cons_zero, List.set_cons_succ]
  refine wpAnyH_take (i := 4) (oi := ⟨some 81, Op.fieldAddr 43 (Operand.tmp 3) 1, 0, _, _, none⟩) (v := .pointer (some ⟨w.heap.size, 1, none⟩)) rfl (by kernel_rfl) (by kernel_rfl) (by kernel_rfl) (fun _ _ _ h => h) (Or.inl ⟨by rfl, fun w hS => by go_simp⟩) hHeld ?_
  simp only [Act.put, List.setIfInBounds_toArray, List.set_cons_zero, List.set_cons_succ]
  refine wpAnyH_take (i := 5) (oi := ⟨some 82, Op.load 41 (Operand.tmp 81), 41, _, _, none⟩) (v := .int .u64 (X : Int)) rfl (by kernel_rfl) (by kernel_rfl) (by kernel_rfl) (fun _ _ _ h => h) (Or.inl ⟨by rfl, fun w hS => by (have hcx := hS.2; clear hS; go_simp)⟩) hHeld ?_
  simp only [Act.put, List.setIfInBounds_toArray, List.set_cons_zero, List.set_cons_succ]
  refine wpAnyH_ready (rs := [6, 10]) (by kernel_rfl) (by simp) ?_
  refine AllReadyH.cons (o := ⟨some 83, Op.call { callee := Callee.value (Operand.func 48), args := #[Operand.tmp 80, Operand.tmp 82], argTypes := #[54, 41] }, 95, _, _, none⟩) rfl (fun K hK => ?_) (AllReadyH.cons (o := ⟨some 12, Op.alloc 56, 0, _, _, none⟩) rfl (fun K hK => ?_) AllReadyH.nil)
  all_goals rw [if_pos (by rfl)]
  · refine wp_callF 48 _ _ rfl Try.enter48 #[ptr x, .int .u64 (X : Int)] (by simp [Act.eval]) (fun vz wz => RfPost x vB why' a' (.int .u64 c) w2.drew (.returned vz) wz) ?_ ?_
    · refine (HQ.out w2.drew b HM2.out.drew.rf HE.out (HM2.out.drew.row HR.out)).mono ?_
      intro e wz hp
      obtain ⟨b', hE', rfl, hr, hg⟩ := hp
      exact ⟨_, rfl, b', hE', rfl, hr, hg⟩
    rintro vz w3 ⟨b', hE', he0, hr, hg⟩
    injection he0 with he0
    subst he0
    have hg1 := ((Grown.refl w2 fun k => k = x).drew).trans hg
    refine hK.out _ _ (HS2.out _ hg1) fun hHeld2 => ?_
    clear hK
    simp only [Act.put, List.setIfInBounds_toArray, List.set_cons_zero, List.set_cons_succ]
    refine wpAnyH_take (i := 7) (oi := ⟨some 76, Op.move (Operand.tmp 83), 95, _, _, none⟩) (v := .tuple #[.int .u64 c, .agg #[.int .i64 why', .int .i64 b']]) rfl (by kernel_rfl) (by kernel_rfl) (by kernel_rfl) (fun _ _ _ h => h) (Or.inl ⟨by rfl, fun w hS => by go_simp⟩) hHeld2 ?_
    simp only [Act.put, List.setIfInBounds_toArray, List.set_cons_zero, List.set_cons_succ]
    refine wpAnyH_take (i := 8) (oi := ⟨some 84, Op.extract (Operand.tmp 76) 0, 41, _, _, none⟩) (v := .int .u64 c) rfl (by kernel_rfl) (by kernel_rfl) (by kernel_rfl) (fun _ _ _ h => h) (Or.inl ⟨by rfl, fun w hS => by go_simp⟩) hHeld2 ?_
    simp only [Act.put, List.setIfInBounds_toArray, List.set_cons_zero, List.set_cons_succ]
    refine wpAnyH_take (i := 9) (oi := ⟨some 85, Op.extract (Operand.tmp 76) 1, 56, _, _, none⟩) (v := .agg #[.int .i64 why', .int .i64 b']) rfl (by kernel_rfl) (by kernel_rfl) (by kernel_rfl) (fun _ _ _ h => h) (Or.inl ⟨by rfl, fun w hS => by go_simp⟩) hHeld2 ?_
    simp only [Act.put, List.setIfInBounds_toArray, List.set_cons_zero, List.set_cons_succ]
    refine wpAnyH_ready (rs := [10]) (by kernel_rfl) (by simp) ?_
    refine AllReadyH.cons (o := ⟨some 12, Op.alloc 56, 0, _, _, none⟩) rfl (fun K hK => ?_) AllReadyH.nil
    rw [if_pos (by rfl)]
    go_simp
    have hg4 := hg1.trans (Grown.alloc w3 (.cells #[.int .i64 0, .int .i64 0] 56) fun k => k = x)
    refine hK.out _ _ (HS2.out _ hg4) fun hHeld3 => ?_
    clear hK hg4
    have HN := Keep.mk (Blk.new w3 56 #[.int .i64 0, .int .i64 0])
    have HA := Keep.mk (below_new w3 (.cells #[.int .i64 0, .int .i64 0] 56))
    have hb5 := below_two HA.out (Nat.le_refl _) (.int .i64 why') (.int .i64 b')
    have HM5 := Keep.mk ((HM2.out.drew.ref hr hg).later hb5)
    have HG5 := Keep.mk (hg1.trans (Grown.below (S := fun k => k = x) hb5))
    clear hb5 HA hr hg hg1
    generalize w3.alloc (.cells #[.int .i64 0, .int .i64 0] 56) = w4 at *
    have n0 : w4.cell? ⟨w3.heap.size, 0, none⟩ = some (.int .i64 0) := by rw [HN.out.cell]; rfl
    have n1 : w4.cell? ⟨w3.heap.size, 1, none⟩ = some (.int .i64 0) := by rw [HN.out.cell]; rfl
    have m0 := HN.out.frozen 0
    have m1 := HN.out.frozen 1
    refine wpAnyH_take (i := 11) (oi := ⟨some 11, Op.assign (Operand.tmp 84), 41, _, _, none⟩) (v := .int .u64 c) rfl (by kernel_rfl) (by kernel_rfl) (by kernel_rfl) (fun _ _ _ h => h) (Or.inl ⟨by rfl, fun w hS => by go_simp⟩) hHeld3 ?_
    simp only [Act.put, List.setIfInBounds_toArray, List.set_cons_zero, List.set_cons_succ]
    refine wpAnyH_ready (rs := [12]) (by kernel_rfl) (by simp) ?_
    refine AllReadyH.cons (o := ⟨none, Op.store 56 (Operand.tmp 12) (Operand.tmp 85), 0, _, _, none⟩) rfl (fun K hK => ?_) AllReadyH.nil
    rw [if_pos (by rfl)]
    go_simp
    refine hK.out _ _ (HS2.out _ HG5.out) fun _ => ?_
    clear hK
    refine wpAnyH_done (by kernel_rfl) ?_ _
    have HN5 := Keep.mk (show Blk ((w4.setCell ⟨w3.heap.size, 0, none⟩ (.int .i64 why')).setCell ⟨w3.heap.size, 1, none⟩ (.int .i64 b')) w3.heap.size 56 #[.int .i64 why', .int .i64 b'] from (HN.out.set 0 _).set 1 _)
    clear n0 n1 m0 m1 HN HG5
    generalize (w4.setCell ⟨w3.heap.size, 0, none⟩ (.int .i64 why')).setCell ⟨w3.heap.size, 1, none⟩ (.int .i64 b') = w5 at *
    have n0 : w5.cell? ⟨w3.heap.size, 0, none⟩ = some (.int .i64 why') := by rw [HN5.out.cell]; rfl
    have n1 : w5.cell? ⟨w3.heap.size, 1, none⟩ = some (.int .i64 b') := by rw [HN5.out.cell]; rfl
    have HE3 := Keep.mk hE'
    clear hE' hHeld hHeld2 HQ HS2 HM2 HE c1 o1
    clear hHeld3
    go_wp2_with fail
    refine (wrong_any HM5.out HE3.out Hk.out).mono ?_
    rintro e w6 ⟨rfl, hM6⟩
    have HM6 := Keep.mk hM6
    clear hM6
    go_wp2
    go_ret
    exact ⟨rfl, _, _, _, _, _, HE3.out, HM6.out⟩
  · go_simp
    have hg3 := (Grown.alloc w2 (.cells #[.int .i64 0, .int .i64 0] 56) fun k => k = x).drew
    have HM3 := Keep.mk (HM2.out.later (below_new w2 (.cells #[.int .i64 0, .int .i64 0] 56))).drew
    have hN0 := (Blk.new w2 56 #[.int .i64 0, .int .i64 0]).drew
    refine hK.out _ _ (HS2.out _ hg3) fun hHeld2 => ?_
    clear hK
    generalize (w2.alloc (.cells #[.int .i64 0, .int .i64 0] 56)).drew = w3 at *
    refine wpAnyH_ready (rs := [6]) (by kernel_rfl) (by simp) ?_
    refine AllReadyH.cons (o := ⟨some 83, Op.call { callee := Callee.value (Operand.func 48), args := #[Operand.tmp 80, Operand.tmp 82], argTypes := #[54, 41] }, 95, _, _, none⟩) rfl (fun K hK => ?_) AllReadyH.nil
    rw [if_pos (by rfl)]
    refine wp_callF 48 _ _ rfl Try.enter48 #[ptr x, .int .u64 (X : Int)] (by simp [Act.eval]) (fun vz wz => RfPost x vB why' a' (.int .u64 c) w3 (.returned vz) wz) ?_ ?_
    · refine (HQ.out w3 b HM3.out.rf HE.out (HM3.out.row HR.out)).mono ?_
      intro e wz hp
      obtain ⟨b', hE', rfl, hr, hg⟩ := hp
      exact ⟨_, rfl, b', hE', rfl, hr, hg⟩
    rintro vz w4 ⟨b', hE', he0, hr, hg⟩
    injection he0 with he0
    subst he0
    refine hK.out _ _ (HS2.out _ (hg3.trans hg)) fun hHeld3 => ?_
    clear hK
    simp only [Act.put, List.setIfInBounds_toArray, List.set_cons_zero, List.set_cons_succ]
    refine wpAnyH_take (i := 7) (oi := ⟨some 76, Op.move (Operand.tmp 83), 95, _, _, none⟩) (v := .tuple #[.int .u64 c, .agg #[.int .i64 why', .int .i64 b']]) rfl (by kernel_rfl) (by kernel_rfl) (by kernel_rfl) (fun _ _ _ h => h) (Or.inl ⟨by rfl, fun w hS => by go_simp⟩) hHeld3 ?_
    simp only [Act.put, List.setIfInBounds_toArray, List.set_cons_zero, List.set_cons_succ]
    refine wpAnyH_take (i := 8) (oi := ⟨some 84, Op.extract (Operand.tmp 76) 0, 41, _, _, none⟩) (v := .int .u64 c) rfl (by kernel_rfl) (by kernel_rfl) (by kernel_rfl) (fun _ _ _ h => h) (Or.inl ⟨by rfl, fun w hS => by go_simp⟩) hHeld3 ?_
    simp only [Act.put, List.setIfInBounds_toArray, List.set_cons_zero, List.set_cons_succ]
    refine wpAnyH_take (i := 9) (oi := ⟨some 85, Op.extract (Operand.tmp 76) 1, 56, _, _, none⟩) (v := .agg #[.int .i64 why', .int .i64 b']) rfl (by kernel_rfl) (by kernel_rfl) (by kernel_rfl) (fun _ _ _ h => h) (Or.inl ⟨by rfl, fun w hS => by go_simp⟩) hHeld3 ?_
    simp only [Act.put, List.setIfInBounds_toArray, List.set_cons_zero, List.set_cons_succ]
    have HN := Keep.mk (hg.blk hN0 fun e => blk_ne hN0 HM3.out.rf (by decide) e)
    have hg5 : Grown w4 ((w4.setCell ⟨w2.heap.size, 0, none⟩ (.int .i64 why')).setCell ⟨w2.heap.size, 1, none⟩ (.int .i64 b')) fun k => k = w2.heap.size := (Grown.setCell w4 w2.heap.size 0 (.int .i64 why') (S := fun k => k = w2.heap.size) fun _ => rfl).trans (Grown.setCell _ w2.heap.size 1 (.int .i64 b') (S := fun k => k = w2.heap.size) fun _ => rfl)
    have HM5 := Keep.mk ((HM3.out.ref hr hg).aside HN.out (fun hF => by have := (HM2.out.sep _ hF).2.2.2.2; omega) HM2.out.below.size hg5)
    have HG5 := Keep.mk ((hg3.trans hg).next hg5 fun i hi e => by omega)
    clear hg5 hr hg hg3 hN0
    have n0 : w4.cell? ⟨w2.heap.size, 0, none⟩ = some (.int .i64 0) := by rw [HN.out.cell]; rfl
    have n1 : w4.cell? ⟨w2.heap.size, 1, none⟩ = some (.int .i64 0) := by rw [HN.out.cell]; rfl
    have m0 := HN.out.frozen 0
    have m1 := HN.out.frozen 1
    refine wpAnyH_take (i := 11) (oi := ⟨some 11, Op.assign (Operand.tmp 84), 41, _, _, none⟩) (v := .int .u64 c) rfl (by kernel_rfl) (by kernel_rfl) (by kernel_rfl) (fun _ _ _ h => h) (Or.inl ⟨by rfl, fun w hS => by go_simp⟩) hHeld3 ?_
    simp only [Act.put, List.setIfInBounds_toArray, List.set_cons_zero, List.set_cons_succ]
    refine wpAnyH_ready (rs := [12]) (by kernel_rfl) (by simp) ?_
    refine AllReadyH.cons (o := ⟨none, Op.store 56 (Operand.tmp 12) (Operand.tmp 85), 0, _, _, none⟩) rfl (fun K hK => ?_) AllReadyH.nil
    rw [if_pos (by rfl)]
    go_simp
    refine hK.out _ _ (HS2.out _ HG5.out) fun _ => ?_
    clear hK
    refine wpAnyH_done (by kernel_rfl) ?_ _
    have HN5 := Keep.mk (show Blk ((w4.setCell ⟨w2.heap.size, 0, none⟩ (.int .i64 why')).setCell ⟨w2.heap.size, 1, none⟩ (.int .i64 b')) w2.heap.size 56 #[.int .i64 why', .int .i64 b'] from (HN.out.set 0 _).set 1 _)
    clear n0 n1 m0 m1 HN HG5
    generalize (w4.setCell ⟨w2.heap.size, 0, none⟩ (.int .i64 why')).setCell ⟨w2.heap.size, 1, none⟩ (.int .i64 b') = w5 at *
    have n0 : w5.cell? ⟨w2.heap.size, 0, none⟩ = some (.int .i64 why') := by rw [HN5.out.cell]; rfl
    have n1 : w5.cell? ⟨w2.heap.size, 1, none⟩ = some (.int .i64 b') := by rw [HN5.out.cell]; rfl
    have HE3 := Keep.mk hE'
    clear hE' hHeld hHeld2 HQ HS2 HM2 HE c1 o1
    clear hHeld3 HM3
    go_wp2_with fail
    refine (wrong_any HM5.out HE3.out Hk.out).mono ?_
    rintro e w6 ⟨rfl, hM6⟩
    have HM6 := Keep.mk hM6
    clear hM6
    go_wp2
    go_ret
    exact ⟨rfl, _, _, _, _, _, HE3.out, HM6.out⟩

set_option maxRecDepth 4000 in
set_option maxHeartbeats 4000000 in
theorem step_text (wB : World) (hb p x : Nat) (s : ByteArray) (vB : Value) (a : Nat) (why : Int) (bad : Option Nat) (b : Int) (F : Nat → Prop) (w : World) (h : Mid wB hb p x s vB a why bad a why b (errV bad) F w) (hE : ErrB why a b) (hR : RowAt wB vB (lst s)) (hs : s.size ≤ 140737488355328) (X : Nat) (N : Int) (V : Value) (hn1 : -9223372036854775808 ≤ N) (hn2 : N ≤ 9223372036854775807) :
    Calls Try.prog 22 #[ptr hb, .agg #[.int .i64 5, .int .u64 (X : Int), .int .i64 N, V]] w (StepPost wB hb p x s vB) := by
  obtain ⟨st, a', why', hP, hQ⟩ := pair_text p x s vB a why bad hs h.rd.le h.good N hn1 hn2
  have HP := Keep.mk hP
  have HQ := Keep.mk hQ
  have HE := Keep.mk hE
  have HR := Keep.mk hR
  have HM1 := Keep.mk (h.later (below_new w (.cells #[.int .i64 5, .int .u64 (X : Int), .int .i64 N, V] 43)))
  have HX1 := Keep.mk (Blk.new w 43 #[.int .i64 5, .int .u64 (X : Int), .int .i64 N, V])
  clear h hE hR hP hQ hs hn1 hn2
  go_enter Try.func22, Try.ntmps22
  go_wp2_with (first | (refine wpList_boxA rfl 43 (.tmp 1) rfl _ rfl ?_; refine Hid.out ?_))
  refine hid_in ?_
  generalize w.alloc (.cells #[.int .i64 5, .int .u64 (X : Int), .int .i64 N, V] 43) = w1 at *
  have o0 : w1.cell? ⟨w.heap.size, 0, none⟩ = some (.int .i64 5) := by rw [HX1.out.cell]; rfl
  have c0 := HM1.out.c0
  have o2 : w1.cell? ⟨w.heap.size, 2, none⟩ = some (.int .i64 N) := by rw [HX1.out.cell]; rfl
  have HS1 : Keep (∀ wx, (Grown w1 wx fun k => k = p) → wx.cell? ⟨hb, 0, none⟩ = some (ptr p) ∧ wx.cell? ⟨w.heap.size, 2, none⟩ = some (.int .i64 N)) := ⟨fun wx hg => ⟨hg.cell c0 (fun e => HM1.out.ne.2.1 e.symm), hg.cell o2 (fun e => blk_ne HX1.out HM1.out.rd.blk (by decide) e)⟩⟩
  have HX2 : Keep (∀ wx, (Grown w1 wx fun k => k = p) → Blk wx w.heap.size 43 #[.int .i64 5, .int .u64 (X : Int), .int .i64 N, V]) := ⟨fun wx hg => hg.blk HX1.out (fun e => blk_ne HX1.out HM1.out.rd.blk (by decide) e)⟩
  go_wp2_with fail
  refine wp_region_held_drew (S := fun wx => wx.cell? ⟨hb, 0, none⟩ = some (ptr p) ∧ wx.cell? ⟨w.heap.size, 2, none⟩ = some (.int .i64 N)) (by kernel_rfl) (HS1.out _ ((Grown.refl _ _).drew)) (fun hHeld => ?_)
  refine wpAnyH_take (i := 0) (oi := ⟨some 203, Op.move (Operand.tmp 0), 51, _, _, none⟩) (v := ptr hb) rfl (by kernel_rfl) (by kernel_rfl) (by kernel_rfl) (fun _ _ _ h => h) (Or.inl ⟨by rfl, fun w hS => by go_simp⟩) hHeld ?_
  simp only [Act.put, List.setIfInBounds_toArray, List.set_cons_zero, List.set_cons_succ]
  refine wpAnyH_take (i := 1) (oi := ⟨some 204, Op.nilCheck (Operand.tmp 203), 0, _, _, none⟩) (v := ptr hb) rfl (by kernel_rfl) (by kernel_rfl) (by kernel_rfl) (fun _ _ _ h => h) (Or.inl ⟨by rfl, fun w hS => by go_simp⟩) hHeld ?_
  simp only [Act.put, List.setIfInBounds_toArray, List.set_cons_zero, List.set_cons_succ]
  refine wpAnyH_take (i := 2) (oi := ⟨some 205, Op.fieldAddr 60 (Operand.tmp 204) 0, 0, _, _, none⟩) (v := ptr hb) rfl (by kernel_rfl) (by kernel_rfl) (by kernel_rfl) (fun _ _ _ h => h) (Or.inl ⟨by rfl, fun w hS => by go_simp⟩) hHeld ?_
  simp only [Act.put, List.setIfInBounds_toArray, List.set_cons_zero, List.set_cons_succ]
  refine wpAnyH_take (i := 3) (oi := ⟨some 206, Op.load 52 (Operand.tmp 205), 52, _, _, none⟩) (v := ptr p) rfl (by kernel_rfl) (by kernel_rfl) (by kernel_rfl) (fun _ _ _ h => h) (Or.inl ⟨by rfl, fun w hS => by (have hcx := hS.1; clear hS; go_simp)⟩) hHeld ?_
  simp only [Act.put, List.setIfInBounds_toArray, List.set_cons_zero, List.set_cons_succ]
  refine wpAnyH_take (i := 4) (oi := ⟨some 207, Op.fieldAddr 43 (Operand.tmp 3) 2, 0, _, _, none⟩) (v := .pointer (some ⟨w.heap.size, 2, none⟩)) rfl (by kernel_rfl) (by kernel_rfl) (by kernel_rfl) (fun _ _ _ h => h) (Or.inl ⟨by rfl, fun w hS => by go_simp⟩) hHeld ?_
  simp only [Act.put, List.setIfInBounds_toArray, List.set_cons_zero, List.set_cons_succ]
  refine wpAnyH_take (i := 5) (oi := ⟨some 208, Op.load 3 (Operand.tmp 207), 3, _, _, none⟩) (v := .int .i64 N) rfl (by kernel_rfl) (by kernel_rfl) (by kernel_rfl) (fun _ _ _ h => h) (Or.inl ⟨by rfl, fun w hS => by (have hcx := hS.2; clear hS; go_simp)⟩) hHeld ?_
  simp only [Act.put, List.setIfInBounds_toArray, List.set_cons_zero, List.set_cons_succ]
  refine wpAnyH_ready (rs := [6]) (by kernel_rfl) (by simp) ?_
  refine AllReadyH.cons (o := ⟨some 209, Op.call { callee := Callee.value (Operand.func 55), args := #[Operand.tmp 206, Operand.tmp 208], argTypes := #[52, 3] }, 105, _, _, none⟩) rfl (fun K hK => ?_) AllReadyH.nil
  rw [if_pos (by rfl)]
  refine wp_callF 55 _ _ rfl Try.enter55 #[ptr p, .int .i64 N] (by simp [Act.eval]) (fun vz wz => PPost p s why a bad a' why' (.string st) w1.drew (.returned vz) wz) ?_ ?_
  · refine (HP.out w1.drew HM1.out.drew.rd).mono ?_
    intro e wz hp
    obtain ⟨bad', rfl, hi, hg, he⟩ := hp
    exact ⟨_, rfl, bad', rfl, hi, hg, he⟩
  rintro vz w2 ⟨bad', he0, hi, hg, he⟩
  injection he0 with he0
  subst he0
  have hg1 := ((Grown.refl w1 fun k => k = p).drew).trans hg
  refine hK.out _ _ (HS1.out _ hg1) fun hHeld2 => ?_
  clear hK
  simp only [Act.put, List.setIfInBounds_toArray, List.set_cons_zero, List.set_cons_succ]
  refine wpAnyH_take (i := 7) (oi := ⟨some 202, Op.move (Operand.tmp 209), 105, _, _, none⟩) (v := .tuple #[.string st, errV bad']) rfl (by kernel_rfl) (by kernel_rfl) (by kernel_rfl) (fun _ _ _ h => h) (Or.inl ⟨by rfl, fun w hS => by go_simp⟩) hHeld2 ?_
  simp only [Act.put, List.setIfInBounds_toArray, List.set_cons_zero, List.set_cons_succ]
  refine wpAnyH_take (i := 8) (oi := ⟨some 210, Op.extract (Operand.tmp 202) 0, 9, _, _, none⟩) (v := .string st) rfl (by kernel_rfl) (by kernel_rfl) (by kernel_rfl) (fun _ _ _ h => h) (Or.inl ⟨by rfl, fun w hS => by go_simp⟩) hHeld2 ?_
  simp only [Act.put, List.setIfInBounds_toArray, List.set_cons_zero, List.set_cons_succ]
  refine wpAnyH_take (i := 9) (oi := ⟨some 211, Op.extract (Operand.tmp 202) 1, 27, _, _, none⟩) (v := errV bad') rfl (by kernel_rfl) (by kernel_rfl) (by kernel_rfl) (fun _ _ _ h => h) (Or.inl ⟨by rfl, fun w hS => by go_simp⟩) hHeld2 ?_
  simp only [Act.put, List.setIfInBounds_toArray, List.set_cons_zero, List.set_cons_succ]
  refine wpAnyH_take (i := 10) (oi := ⟨some 27, Op.assign (Operand.tmp 210), 9, _, _, none⟩) (v := .string st) rfl (by kernel_rfl) (by kernel_rfl) (by kernel_rfl) (fun _ _ _ h => h) (Or.inl ⟨by rfl, fun w hS => by go_simp⟩) hHeld2 ?_
  simp only [Act.put, List.setIfInBounds_toArray, List.set_cons_zero, List.set_cons_succ]
  refine wpAnyH_take (i := 11) (oi := ⟨some 28, Op.assign (Operand.tmp 211), 27, _, _, none⟩) (v := errV bad') rfl (by kernel_rfl) (by kernel_rfl) (by kernel_rfl) (fun _ _ _ h => h) (Or.inl ⟨by rfl, fun w hS => by go_simp⟩) hHeld2 ?_
  simp only [Act.put, List.setIfInBounds_toArray, List.set_cons_zero, List.set_cons_succ]
  refine wpAnyH_done (by kernel_rfl) ?_ _
  have HM2 := Keep.mk (HM1.out.drew.prog hi hg he)
  have Hk := Keep.mk he.keep
  have hX2 := HX2.out _ hg1
  clear hi hg he hHeld hHeld2 HS1 HX2 hg1 HM1 HX1 o0 o2 c0 HP
  have c1 := HM2.out.c1
  have o2 : w2.cell? ⟨w.heap.size, 2, none⟩ = some (.int .i64 N) := by rw [hX2.cell]; rfl
  have HS2 : Keep (∀ wx, (Grown w2 wx fun k => k = x) → wx.cell? ⟨hb, 1, none⟩ = some (ptr x) ∧ wx.cell? ⟨w.heap.size, 2, none⟩ = some (.int .i64 N)) := ⟨fun wx hg => ⟨hg.cell c1 (fun e => HM2.out.ne.2.2 e.symm), hg.cell o2 (fun e => blk_ne hX2 HM2.out.rf (by decide) e)⟩⟩
  clear hX2
  go_wp2_with fail
  refine wp_region_held_drew (S := fun wx => wx.cell? ⟨hb, 1, none⟩ = some (ptr x) ∧ wx.cell? ⟨w.heap.size, 2, none⟩ = some (.int .i64 N)) (by kernel_rfl) (HS2.out _ ((Grown.refl _ _).drew)) (fun hHeld => ?_)
  refine wpAnyH_take (i := 0) (oi := ⟨some 213, Op.move (Operand.tmp 0), 51, _, _, none⟩) (v := ptr hb) rfl (by kernel_rfl) (by kernel_rfl) (by kernel_rfl) (fun _ _ _ h => h) (Or.inl ⟨by rfl, fun w hS => by go_simp⟩) hHeld ?_
  simp only [Act.put, List.setIfInBounds_toArray, List.set_cons_zero, List.set_cons_succ]
  refine wpAnyH_take (i := 1) (oi := ⟨some 214, Op.nilCheck (Operand.tmp 213), 0, _, _, none⟩) (v := ptr hb) rfl (by kernel_rfl) (by kernel_rfl) (by kernel_rfl) (fun _ _ _ h => h) (Or.inl ⟨by rfl, fun w hS => by go_simp⟩) hHeld ?_
  simp only [Act.put, List.setIfInBounds_toArray, List.set_cons_zero, List.set_cons_succ]
  refine wpAnyH_take (i := 2) (oi := ⟨some 215, Op.fieldAddr 60 (Operand.tmp 214) 1, 0, _, _, none⟩) (v := .pointer (some ⟨hb, 1, none⟩)) rfl (by kernel_rfl) (by kernel_rfl) (by kernel_rfl) (fun _ _ _ h => h) (Or.inl ⟨by rfl, fun w hS => by go_simp⟩) hHeld ?_
  simp only [Act.put, List.setIfInBounds_toArray, List.set_cons_zero, List.set_cons_succ]
  refine wpAnyH_take (i := 3) (oi := ⟨some 216, Op.load 54 (Operand.tmp 215), 54, _, _, none⟩) (v := ptr x) rfl (by kernel_rfl) (by kernel_rfl) (by kernel_rfl) (fun _ _ _ h => h) (Or.inl ⟨by rfl, fun w hS => by (have hcx := hS.1; clear hS; go_simp)⟩) hHeld ?_
  simp only [Act.put, List.setIfInBounds_toArray, List.set_cons_zero, List.set_cons_succ]
  refine wpAnyH_take (i := 4) (oi := ⟨some 217, Op.fieldAddr 43 (Operand.tmp 3) 2, 0, _, _, none⟩) (v := .pointer (some ⟨w.heap.size, 2, none⟩)) rfl (by kernel_rfl) (by kernel_rfl) (by kernel_rfl) (fun _ _ _ h => h) (Or.inl ⟨by rfl, fun w hS => by go_simp⟩) hHeld ?_
  simp only [Act.put, List.setIfInBounds_toArray, List.set_cons_zero, List.set_cons_succ]
  refine wpAnyH_take (i := 5) (oi := ⟨some 218, Op.load 3 (Operand.tmp 217), 3, _, _, none⟩) (v := .int .i64 N) rfl (by kernel_rfl) (by kernel_rfl) (by kernel_rfl) (fun _ _ _ h => h) (Or.inl ⟨by rfl, fun w hS => by (have hcx := hS.2; clear hS; go_simp)⟩) hHeld ?_
  simp only [Act.put, List.setIfInBounds_toArray, List.set_cons_zero, List.set_cons_succ]
  refine wpAnyH_ready (rs := [6, 10]) (by kernel_rfl) (by simp) ?_
  refine AllReadyH.cons (o := ⟨some 219, Op.call { callee := Callee.value (Operand.func 56), args := #[Operand.tmp 216, Operand.tmp 218], argTypes := #[54, 3] }, 107, _, _, none⟩) rfl (fun K hK => ?_) (AllReadyH.cons (o := ⟨some 30, Op.alloc 56, 0, _, _, none⟩) rfl (fun K hK => ?_) AllReadyH.nil)
  all_goals rw [if_pos (by rfl)]
  · refine wp_callF 56 _ _ rfl Try.enter56 #[ptr x, .int .i64 N] (by simp [Act.eval]) (fun vz wz => RfPost x vB why' a' (.string st) w2.drew (.returned vz) wz) ?_ ?_
    · refine (HQ.out w2.drew b HM2.out.drew.rf HE.out (HM2.out.drew.row HR.out)).mono ?_
      intro e wz hp
      obtain ⟨b', hE', rfl, hr, hg⟩ := hp
      exact ⟨_, rfl, b', hE', rfl, hr, hg⟩
    rintro vz w3 ⟨b', hE', he0, hr, hg⟩
    injection he0 with he0
    subst he0
    have hg1 := ((Grown.refl w2 fun k => k = x).drew).trans hg
    refine hK.out _ _ (HS2.out _ hg1) fun hHeld2 => ?_
    clear hK
    simp only [Act.put, List.setIfInBounds_toArray, List.set_cons_zero, List.set_cons_succ]
    refine wpAnyH_take (i := 7) (oi := ⟨some 212, Op.move (Operand.tmp 219), 107, _, _, none⟩) (v := .tuple #[.string st, .agg #[.int .i64 why', .int .i64 b']]) rfl (by kernel_rfl) (by kernel_rfl) (by kernel_rfl) (fun _ _ _ h => h) (Or.inl ⟨by rfl, fun w hS => by go_simp⟩) hHeld2 ?_
    simp only [Act.put, List.setIfInBounds_toArray, List.set_cons_zero, List.set_cons_succ]
    refine wpAnyH_take (i := 8) (oi := ⟨some 220, Op.extract (Operand.tmp 212) 0, 9, _, _, none⟩) (v := .string st) rfl (by kernel_rfl) (by kernel_rfl) (by kernel_rfl) (fun _ _ _ h => h) (Or.inl ⟨by rfl, fun w hS => by go_simp⟩) hHeld2 ?_
    simp only [Act.put, List.setIfInBounds_toArray, List.set_cons_zero, List.set_cons_succ]
    refine wpAnyH_take (i := 9) (oi := ⟨some 221, Op.extract (Operand.tmp 212) 1, 56, _, _, none⟩) (v := .agg #[.int .i64 why', .int .i64 b']) rfl (by kernel_rfl) (by kernel_rfl) (by kernel_rfl) (fun _ _ _ h => h) (Or.inl ⟨by rfl, fun w hS => by go_simp⟩) hHeld2 ?_
    simp only [Act.put, List.setIfInBounds_toArray, List.set_cons_zero, List.set_cons_succ]
    refine wpAnyH_ready (rs := [10]) (by kernel_rfl) (by simp) ?_
    refine AllReadyH.cons (o := ⟨some 30, Op.alloc 56, 0, _, _, none⟩) rfl (fun K hK => ?_) AllReadyH.nil
    rw [if_pos (by rfl)]
    go_simp
    have hg4 := hg1.trans (Grown.alloc w3 (.cells #[.int .i64 0, .int .i64 0] 56) fun k => k = x)
    refine hK.out _ _ (HS2.out _ hg4) fun hHeld3 => ?_
    clear hK hg4
    have HN := Keep.mk (Blk.new w3 56 #[.int .i64 0, .int .i64 0])
    have HA := Keep.mk (below_new w3 (.cells #[.int .i64 0, .int .i64 0] 56))
    have hb5 := below_two HA.out (Nat.le_refl _) (.int .i64 why') (.int .i64 b')
    have HM5 := Keep.mk ((HM2.out.drew.ref hr hg).later hb5)
    have HG5 := Keep.mk (hg1.trans (Grown.below (S := fun k => k = x) hb5))
    clear hb5 HA hr hg hg1
    generalize w3.alloc (.cells #[.int .i64 0, .int .i64 0] 56) = w4 at *
    have n0 : w4.cell? ⟨w3.heap.size, 0, none⟩ = some (.int .i64 0) := by rw [HN.out.cell]; rfl
    have n1 : w4.cell? ⟨w3.heap.size, 1, none⟩ = some (.int .i64 0) := by rw [HN.out.cell]; rfl
    have m0 := HN.out.frozen 0
    have m1 := HN.out.frozen 1
    refine wpAnyH_take (i := 11) (oi := ⟨some 29, Op.assign (Operand.tmp 220), 9, _, _, none⟩) (v := .string st) rfl (by kernel_rfl) (by kernel_rfl) (by kernel_rfl) (fun _ _ _ h => h) (Or.inl ⟨by rfl, fun w hS => by go_simp⟩) hHeld3 ?_
    simp only [Act.put, List.setIfInBounds_toArray, List.set_cons_zero, List.set_cons_succ]
    refine wpAnyH_ready (rs := [12]) (by kernel_rfl) (by simp) ?_
    refine AllReadyH.cons (o := ⟨none, Op.store 56 (Operand.tmp 30) (Operand.tmp 221), 0, _, _, none⟩) rfl (fun K hK => ?_) AllReadyH.nil
    rw [if_pos (by rfl)]
    go_simp
    refine hK.out _ _ (HS2.out _ HG5.out) fun _ => ?_
    clear hK
    refine wpAnyH_done (by kernel_rfl) ?_ _
    have HN5 := Keep.mk (show Blk ((w4.setCell ⟨w3.heap.size, 0, none⟩ (.int .i64 why')).setCell ⟨w3.heap.size, 1, none⟩ (.int .i64 b')) w3.heap.size 56 #[.int .i64 why', .int .i64 b'] from (HN.out.set 0 _).set 1 _)
    clear n0 n1 m0 m1 HN HG5
    generalize (w4.setCell ⟨w3.heap.size, 0, none⟩ (.int .i64 why')).setCell ⟨w3.heap.size, 1, none⟩ (.int .i64 b') = w5 at *
    have n0 : w5.cell? ⟨w3.heap.size, 0, none⟩ = some (.int .i64 why') := by rw [HN5.out.cell]; rfl
    have n1 : w5.cell? ⟨w3.heap.size, 1, none⟩ = some (.int .i64 b') := by rw [HN5.out.cell]; rfl
    have HE3 := Keep.mk hE'
    clear hE' hHeld hHeld2 HQ HS2 HM2 HE c1 o2
    clear hHeld3
    go_wp2_with fail
    refine (wrong_any HM5.out HE3.out Hk.out).mono ?_
    rintro e w6 ⟨rfl, hM6⟩
    have HM6 := Keep.mk hM6
    clear hM6
    go_wp2
    go_ret
    exact ⟨rfl, _, _, _, _, _, HE3.out, HM6.out⟩
  · go_simp
    have hg3 := (Grown.alloc w2 (.cells #[.int .i64 0, .int .i64 0] 56) fun k => k = x).drew
    have HM3 := Keep.mk (HM2.out.later (below_new w2 (.cells #[.int .i64 0, .int .i64 0] 56))).drew
    have hN0 := (Blk.new w2 56 #[.int .i64 0, .int .i64 0]).drew
    refine hK.out _ _ (HS2.out _ hg3) fun hHeld2 => ?_
    clear hK
    generalize (w2.alloc (.cells #[.int .i64 0, .int .i64 0] 56)).drew = w3 at *
    refine wpAnyH_ready (rs := [6]) (by kernel_rfl) (by simp) ?_
    refine AllReadyH.cons (o := ⟨some 219, Op.call { callee := Callee.value (Operand.func 56), args := #[Operand.tmp 216, Operand.tmp 218], argTypes := #[54, 3] }, 107, _, _, none⟩) rfl (fun K hK => ?_) AllReadyH.nil
    rw [if_pos (by rfl)]
    refine wp_callF 56 _ _ rfl Try.enter56 #[ptr x, .int .i64 N] (by simp [Act.eval]) (fun vz wz => RfPost x vB why' a' (.string st) w3 (.returned vz) wz) ?_ ?_
    · refine (HQ.out w3 b HM3.out.rf HE.out (HM3.out.row HR.out)).mono ?_
      intro e wz hp
      obtain ⟨b', hE', rfl, hr, hg⟩ := hp
      exact ⟨_, rfl, b', hE', rfl, hr, hg⟩
    rintro vz w4 ⟨b', hE', he0, hr, hg⟩
    injection he0 with he0
    subst he0
    refine hK.out _ _ (HS2.out _ (hg3.trans hg)) fun hHeld3 => ?_
    clear hK
    simp only [Act.put, List.setIfInBounds_toArray, List.set_cons_zero, List.set_cons_succ]
    refine wpAnyH_take (i := 7) (oi := ⟨some 212, Op.move (Operand.tmp 219), 107, _, _, none⟩) (v := .tuple #[.string st, .agg #[.int .i64 why', .int .i64 b']]) rfl (by kernel_rfl) (by kernel_rfl) (by kernel_rfl) (fun _ _ _ h => h) (Or.inl ⟨by rfl, fun w hS => by go_simp⟩) hHeld3 ?_
    simp only [Act.put, List.setIfInBounds_toArray, List.set_cons_zero, List.set_cons_succ]
    refine wpAnyH_take (i := 8) (oi := ⟨some 220, Op.extract (Operand.tmp 212) 0, 9, _, _, none⟩) (v := .string st) rfl (by kernel_rfl) (by kernel_rfl) (by kernel_rfl) (fun _ _ _ h => h) (Or.inl ⟨by rfl, fun w hS => by go_simp⟩) hHeld3 ?_
    simp only [Act.put, List.setIfInBounds_toArray, List.set_cons_zero, List.set_cons_succ]
    refine wpAnyH_take (i := 9) (oi := ⟨some 221, Op.extract (Operand.tmp 212) 1, 56, _, _, none⟩) (v := .agg #[.int .i64 why', .int .i64 b']) rfl (by kernel_rfl) (by kernel_rfl) (by kernel_rfl) (fun _ _ _ h => h) (Or.inl ⟨by rfl, fun w hS => by go_simp⟩) hHeld3 ?_
    simp only [Act.put, List.setIfInBounds_toArray, List.set_cons_zero, List.set_cons_succ]
    have HN := Keep.mk (hg.blk hN0 fun e => blk_ne hN0 HM3.out.rf (by decide) e)
    have hg5 : Grown w4 ((w4.setCell ⟨w2.heap.size, 0, none⟩ (.int .i64 why')).setCell ⟨w2.heap.size, 1, none⟩ (.int .i64 b')) fun k => k = w2.heap.size := (Grown.setCell w4 w2.heap.size 0 (.int .i64 why') (S := fun k => k = w2.heap.size) fun _ => rfl).trans (Grown.setCell _ w2.heap.size 1 (.int .i64 b') (S := fun k => k = w2.heap.size) fun _ => rfl)
    have HM5 := Keep.mk ((HM3.out.ref hr hg).aside HN.out (fun hF => by have := (HM2.out.sep _ hF).2.2.2.2; omega) HM2.out.below.size hg5)
    have HG5 := Keep.mk ((hg3.trans hg).next hg5 fun i hi e => by omega)
    clear hg5 hr hg hg3 hN0
    have n0 : w4.cell? ⟨w2.heap.size, 0, none⟩ = some (.int .i64 0) := by rw [HN.out.cell]; rfl
    have n1 : w4.cell? ⟨w2.heap.size, 1, none⟩ = some (.int .i64 0) := by rw [HN.out.cell]; rfl
    have m0 := HN.out.frozen 0
    have m1 := HN.out.frozen 1
    refine wpAnyH_take (i := 11) (oi := ⟨some 29, Op.assign (Operand.tmp 220), 9, _, _, none⟩) (v := .string st) rfl (by kernel_rfl) (by kernel_rfl) (by kernel_rfl) (fun _ _ _ h => h) (Or.inl ⟨by rfl, fun w hS => by go_simp⟩) hHeld3 ?_
    simp only [Act.put, List.setIfInBounds_toArray, List.set_cons_zero, List.set_cons_succ]
    refine wpAnyH_ready (rs := [12]) (by kernel_rfl) (by simp) ?_
    refine AllReadyH.cons (o := ⟨none, Op.store 56 (Operand.tmp 30) (Operand.tmp 221), 0, _, _, none⟩) rfl (fun K hK => ?_) AllReadyH.nil
    rw [if_pos (by rfl)]
    go_simp
    refine hK.out _ _ (HS2.out _ HG5.out) fun _ => ?_
    clear hK
    refine wpAnyH_done (by kernel_rfl) ?_ _
    have HN5 := Keep.mk (show Blk ((w4.setCell ⟨w2.heap.size, 0, none⟩ (.int .i64 why')).setCell ⟨w2.heap.size, 1, none⟩ (.int .i64 b')) w2.heap.size 56 #[.int .i64 why', .int .i64 b'] from (HN.out.set 0 _).set 1 _)
    clear n0 n1 m0 m1 HN HG5
    generalize (w4.setCell ⟨w2.heap.size, 0, none⟩ (.int .i64 why')).setCell ⟨w2.heap.size, 1, none⟩ (.int .i64 b') = w5 at *
    have n0 : w5.cell? ⟨w2.heap.size, 0, none⟩ = some (.int .i64 why') := by rw [HN5.out.cell]; rfl
    have n1 : w5.cell? ⟨w2.heap.size, 1, none⟩ = some (.int .i64 b') := by rw [HN5.out.cell]; rfl
    have HE3 := Keep.mk hE'
    clear hE' hHeld hHeld2 HQ HS2 HM2 HE c1 o2
    clear hHeld3 HM3
    go_wp2_with fail
    refine (wrong_any HM5.out HE3.out Hk.out).mono ?_
    rintro e w6 ⟨rfl, hM6⟩
    have HM6 := Keep.mk hM6
    clear hM6
    go_wp2
    go_ret
    exact ⟨rfl, _, _, _, _, _, HE3.out, HM6.out⟩

set_option maxRecDepth 4000 in
set_option maxHeartbeats 4000000 in
theorem step_raw (wB : World) (hb p x : Nat) (s : ByteArray) (vB : Value) (a : Nat) (why : Int) (bad : Option Nat) (b : Int) (F : Nat → Prop) (w : World) (h : Mid wB hb p x s vB a why bad a why b (errV bad) F w) (hE : ErrB why a b) (hR : RowAt wB vB (lst s)) (hs : s.size ≤ 140737488351232) (X : Nat) (N : Int) (V : Value) (hn1 : -9223372036854775808 ≤ N) (hn2 : N ≤ 9223372036854775807) :
    Calls Try.prog 22 #[ptr hb, .agg #[.int .i64 3, .int .u64 (X : Int), .int .i64 N, V]] w (StepPost wB hb p x s vB) := by
  obtain ⟨l, a', why', hP, hQ, hln⟩ := pair_raw p x s vB a why bad (by omega) h.rd.le h.good N hn1 hn2
  have HP := Keep.mk hP
  have HQ := Keep.mk hQ
  have HE := Keep.mk hE
  have HR := Keep.mk hR
  have HM1 := Keep.mk (h.later (below_new w (.cells #[.int .i64 3, .int .u64 (X : Int), .int .i64 N, V] 43)))
  have HX1 := Keep.mk (Blk.new w 43 #[.int .i64 3, .int .u64 (X : Int), .int .i64 N, V])
  have HLn : Keep (l.length + 60 ≤ 140737488355328) := ⟨by omega⟩
  clear h hE hR hP hQ hs hn1 hn2 hln
  go_enter Try.func22, Try.ntmps22
  go_wp2_with (first | (refine wpList_boxA rfl 43 (.tmp 1) rfl _ rfl ?_; refine Hid.out ?_))
  refine hid_in ?_
  generalize w.alloc (.cells #[.int .i64 3, .int .u64 (X : Int), .int .i64 N, V] 43) = w1 at *
  have o0 : w1.cell? ⟨w.heap.size, 0, none⟩ = some (.int .i64 3) := by rw [HX1.out.cell]; rfl
  have c0 := HM1.out.c0
  have o2 : w1.cell? ⟨w.heap.size, 2, none⟩ = some (.int .i64 N) := by rw [HX1.out.cell]; rfl
  have HS1 : Keep (∀ wx, (Grown w1 wx fun k => k = p) → wx.cell? ⟨hb, 0, none⟩ = some (ptr p) ∧ wx.cell? ⟨w.heap.size, 2, none⟩ = some (.int .i64 N)) := ⟨fun wx hg => ⟨hg.cell c0 (fun e => HM1.out.ne.2.1 e.symm), hg.cell o2 (fun e => blk_ne HX1.out HM1.out.rd.blk (by decide) e)⟩⟩
  have HX2 : Keep (∀ wx, (Grown w1 wx fun k => k = p) → Blk wx w.heap.size 43 #[.int .i64 3, .int .u64 (X : Int), .int .i64 N, V]) := ⟨fun wx hg => hg.blk HX1.out (fun e => blk_ne HX1.out HM1.out.rd.blk (by decide) e)⟩
  go_wp2_with fail
  refine wp_region_held_drew (S := fun wx => wx.cell? ⟨hb, 0, none⟩ = some (ptr p) ∧ wx.cell? ⟨w.heap.size, 2, none⟩ = some (.int .i64 N)) (by kernel_rfl) (HS1.out _ ((Grown.refl _ _).drew)) (fun hHeld => ?_)
  refine wpAnyH_take (i := 0) (oi := ⟨some 125, Op.move (Operand.tmp 0), 51, _, _, none⟩) (v := ptr hb) rfl (by kernel_rfl) (by kernel_rfl) (by kernel_rfl) (fun _ _ _ h => h) (Or.inl ⟨by rfl, fun w hS => by go_simp⟩) hHeld ?_
  simp only [Act.put, List.setIfInBounds_toArray, List.set_cons_zero, List.set_cons_succ]
  refine wpAnyH_take (i := 1) (oi := ⟨some 126, Op.nilCheck (Operand.tmp 125), 0, _, _, none⟩) (v := ptr hb) rfl (by kernel_rfl) (by kernel_rfl) (by kernel_rfl) (fun _ _ _ h => h) (Or.inl ⟨by rfl, fun w hS => by go_simp⟩) hHeld ?_
  simp only [Act.put, List.setIfInBounds_toArray, List.set_cons_zero, List.set_cons_succ]
  refine wpAnyH_take (i := 2) (oi := ⟨some 127, Op.fieldAddr 60 (Operand.tmp 126) 0, 0, _, _, none⟩) (v := ptr hb) rfl (by kernel_rfl) (by kernel_rfl) (by kernel_rfl) (fun _ _ _ h => h) (Or.inl ⟨by rfl, fun w hS => by go_simp⟩) hHeld ?_
  simp only [Act.put, List.setIfInBounds_toArray, List.set_cons_zero, List.set_cons_succ]
  refine wpAnyH_take (i := 3) (oi := ⟨some 128, Op.load 52 (Operand.tmp 127), 52, _, _, none⟩) (v := ptr p) rfl (by kernel_rfl) (by kernel_rfl) (by kernel_rfl) (fun _ _ _ h => h) (Or.inl ⟨by rfl, fun w hS => by (have hcx := hS.1; clear hS; go_simp)⟩) hHeld ?_
  simp only [Act.put, List.setIfInBounds_toArray, List.set_cons_zero, List.set_cons_succ]
  refine wpAnyH_take (i := 4) (oi := ⟨some 129, Op.fieldAddr 43 (Operand.tmp 3) 2, 0, _, _, none⟩) (v := .pointer (some ⟨w.heap.size, 2, none⟩)) rfl (by kernel_rfl) (by kernel_rfl) (by kernel_rfl) (fun _ _ _ h => h) (Or.inl ⟨by rfl, fun w hS => by go_simp⟩) hHeld ?_
  simp only [Act.put, List.setIfInBounds_toArray, List.set_cons_zero, List.set_cons_succ]
  refine wpAnyH_take (i := 5) (oi := ⟨some 130, Op.load 3 (Operand.tmp 129), 3, _, _, none⟩) (v := .int .i64 N) rfl (by kernel_rfl) (by kernel_rfl) (by kernel_rfl) (fun _ _ _ h => h) (Or.inl ⟨by rfl, fun w hS => by (have hcx := hS.2; clear hS; go_simp)⟩) hHeld ?_
  simp only [Act.put, List.setIfInBounds_toArray, List.set_cons_zero, List.set_cons_succ]
  refine wpAnyH_ready (rs := [6]) (by kernel_rfl) (by simp) ?_
  refine AllReadyH.cons (o := ⟨some 131, Op.call { callee := Callee.value (Operand.func 51), args := #[Operand.tmp 128, Operand.tmp 130], argTypes := #[52, 3] }, 101, _, _, none⟩) rfl (fun K hK => ?_) AllReadyH.nil
  rw [if_pos (by rfl)]
  refine wp_callF 51 _ _ rfl Try.enter51 #[ptr p, .int .i64 N] (by simp [Act.eval]) (fun vz wz => PPostB p s why a bad a' why' l w1.drew (.returned vz) wz) ?_ ?_
  · refine (HP.out w1.drew HM1.out.drew.rd).mono ?_
    intro e wz hp
    obtain ⟨bad', va, rfl, hi, hg, he, hO, hfr⟩ := hp
    exact ⟨_, rfl, bad', va, rfl, hi, hg, he, hO, hfr⟩
  rintro vz w2 ⟨bad', va, he0, hi, hg, he, hO, hfr⟩
  injection he0 with he0
  subst he0
  have hg1 := ((Grown.refl w1 fun k => k = p).drew).trans hg
  refine hK.out _ _ (HS1.out _ hg1) fun hHeld2 => ?_
  clear hK
  simp only [Act.put, List.setIfInBounds_toArray, List.set_cons_zero, List.set_cons_succ]
  refine wpAnyH_take (i := 7) (oi := ⟨some 124, Op.move (Operand.tmp 131), 101, _, _, none⟩) (v := .tuple #[va, errV bad']) rfl (by kernel_rfl) (by kernel_rfl) (by kernel_rfl) (fun _ _ _ h => h) (Or.inl ⟨by rfl, fun w hS => by go_simp⟩) hHeld2 ?_
  simp only [Act.put, List.setIfInBounds_toArray, List.set_cons_zero, List.set_cons_succ]
  refine wpAnyH_take (i := 8) (oi := ⟨some 132, Op.extract (Operand.tmp 124) 0, 36, _, _, none⟩) (v := va) rfl (by kernel_rfl) (by kernel_rfl) (by kernel_rfl) (fun _ _ _ h => h) (Or.inl ⟨by rfl, fun w hS => by go_simp⟩) hHeld2 ?_
  simp only [Act.put, List.setIfInBounds_toArray, List.set_cons_zero, List.set_cons_succ]
  refine wpAnyH_take (i := 9) (oi := ⟨some 133, Op.extract (Operand.tmp 124) 1, 27, _, _, none⟩) (v := errV bad') rfl (by kernel_rfl) (by kernel_rfl) (by kernel_rfl) (fun _ _ _ h => h) (Or.inl ⟨by rfl, fun w hS => by go_simp⟩) hHeld2 ?_
  simp only [Act.put, List.setIfInBounds_toArray, List.set_cons_zero, List.set_cons_succ]
  refine wpAnyH_take (i := 10) (oi := ⟨some 17, Op.assign (Operand.tmp 132), 36, _, _, none⟩) (v := va) rfl (by kernel_rfl) (by kernel_rfl) (by kernel_rfl) (fun _ _ _ h => h) (Or.inl ⟨by rfl, fun w hS => by go_simp⟩) hHeld2 ?_
  simp only [Act.put, List.setIfInBounds_toArray, List.set_cons_zero, List.set_cons_succ]
  refine wpAnyH_take (i := 11) (oi := ⟨some 18, Op.assign (Operand.tmp 133), 27, _, _, none⟩) (v := errV bad') rfl (by kernel_rfl) (by kernel_rfl) (by kernel_rfl) (fun _ _ _ h => h) (Or.inl ⟨by rfl, fun w hS => by go_simp⟩) hHeld2 ?_
  simp only [Act.put, List.setIfInBounds_toArray, List.set_cons_zero, List.set_cons_succ]
  refine wpAnyH_done (by kernel_rfl) ?_ _
  have HM2 := Keep.mk (HM1.out.drew.prog hi hg he)
  have Hk := Keep.mk he.keep
  have hX2 := HX2.out _ hg1
  have HO2 := Keep.mk hO
  have HVF : Keep (∀ k, va.ownBlock = some k → ¬ F k ∧ wB.heap.size ≤ k) := ⟨fun k hk => by
    have h1 : w1.heap.size ≤ k := hfr k hk
    exact ⟨fun hF => by have h2 := (HM1.out.sep k hF).2.2.2.2; omega, Nat.le_trans HM1.out.below.size h1⟩⟩
  clear hi hg he hHeld hHeld2 HS1 HX2 hg1 HM1 HX1 o0 o2 c0 HP hO hfr
  have c1 := HM2.out.c1
  have o2 : w2.cell? ⟨w.heap.size, 2, none⟩ = some (.int .i64 N) := by rw [hX2.cell]; rfl
  have HS2 : Keep (∀ wx, (Grown w2 wx fun k => k = x) → wx.cell? ⟨hb, 1, none⟩ = some (ptr x) ∧ wx.cell? ⟨w.heap.size, 2, none⟩ = some (.int .i64 N)) := ⟨fun wx hg => ⟨hg.cell c1 (fun e => HM2.out.ne.2.2 e.symm), hg.cell o2 (fun e => blk_ne hX2 HM2.out.rf (by decide) e)⟩⟩
  clear hX2
  go_wp2_with fail
  refine wp_region_held_drew (S := fun wx => wx.cell? ⟨hb, 1, none⟩ = some (ptr x) ∧ wx.cell? ⟨w.heap.size, 2, none⟩ = some (.int .i64 N)) (by kernel_rfl) (HS2.out _ ((Grown.refl _ _).drew)) (fun hHeld => ?_)
  refine wpAnyH_take (i := 0) (oi := ⟨some 135, Op.move (Operand.tmp 0), 51, _, _, none⟩) (v := ptr hb) rfl (by kernel_rfl) (by kernel_rfl) (by kernel_rfl) (fun _ _ _ h => h) (Or.inl ⟨by rfl, fun w hS => by go_simp⟩) hHeld ?_
  simp only [Act.put, List.setIfInBounds_toArray, List.set_cons_zero, List.set_cons_succ]
  refine wpAnyH_take (i := 1) (oi := ⟨some 136, Op.nilCheck (Operand.tmp 135), 0, _, _, none⟩) (v := ptr hb) rfl (by kernel_rfl) (by kernel_rfl) (by kernel_rfl) (fun _ _ _ h => h) (Or.inl ⟨by rfl, fun w hS => by go_simp⟩) hHeld ?_
  simp only [Act.put, List.setIfInBounds_toArray, List.set_cons_zero, List.set_cons_succ]
  refine wpAnyH_take (i := 2) (oi := ⟨some 137, Op.fieldAddr 60 (Operand.tmp 136) 1, 0, _, _, none⟩) (v := .pointer (some ⟨hb, 1, none⟩)) rfl (by kernel_rfl) (by kernel_rfl) (by kernel_rfl) (fun _ _ _ h => h) (Or.inl ⟨by rfl, fun w hS => by go_simp⟩) hHeld ?_
  simp only [Act.put, List.setIfInBounds_toArray, List.set_cons_zero, List.set_cons_succ]
  refine wpAnyH_take (i := 3) (oi := ⟨some 138, Op.load 54 (Operand.tmp 137), 54, _, _, none⟩) (v := ptr x) rfl (by kernel_rfl) (by kernel_rfl) (by kernel_rfl) (fun _ _ _ h => h) (Or.inl ⟨by rfl, fun w hS => by (have hcx := hS.1; clear hS; go_simp)⟩) hHeld ?_
  simp only [Act.put, List.setIfInBounds_toArray, List.set_cons_zero, List.set_cons_succ]
  refine wpAnyH_take (i := 4) (oi := ⟨some 139, Op.fieldAddr 43 (Operand.tmp 3) 2, 0, _, _, none⟩) (v := .pointer (some ⟨w.heap.size, 2, none⟩)) rfl (by kernel_rfl) (by kernel_rfl) (by kernel_rfl) (fun _ _ _ h => h) (Or.inl ⟨by rfl, fun w hS => by go_simp⟩) hHeld ?_
  simp only [Act.put, List.setIfInBounds_toArray, List.set_cons_zero, List.set_cons_succ]
  refine wpAnyH_take (i := 5) (oi := ⟨some 140, Op.load 3 (Operand.tmp 139), 3, _, _, none⟩) (v := .int .i64 N) rfl (by kernel_rfl) (by kernel_rfl) (by kernel_rfl) (fun _ _ _ h => h) (Or.inl ⟨by rfl, fun w hS => by (have hcx := hS.2; clear hS; go_simp)⟩) hHeld ?_
  simp only [Act.put, List.setIfInBounds_toArray, List.set_cons_zero, List.set_cons_succ]
  refine wpAnyH_ready (rs := [6, 10]) (by kernel_rfl) (by simp) ?_
  refine AllReadyH.cons (o := ⟨some 141, Op.call { callee := Callee.value (Operand.func 52), args := #[Operand.tmp 138, Operand.tmp 140], argTypes := #[54, 3] }, 103, _, _, none⟩) rfl (fun K hK => ?_) (AllReadyH.cons (o := ⟨some 20, Op.alloc 56, 0, _, _, none⟩) rfl (fun K hK => ?_) AllReadyH.nil)
  all_goals rw [if_pos (by rfl)]
  · refine wp_callF 52 _ _ rfl Try.enter52 #[ptr x, .int .i64 N] (by simp [Act.eval]) (fun vz wz => RfPostB x vB why' a' l w2.drew (.returned vz) wz) ?_ ?_
    · refine (HQ.out w2.drew b HM2.out.drew.rf HE.out (HM2.out.drew.row HR.out)).mono ?_
      intro e wz hp
      obtain ⟨b', vr, hE', rfl, hr, hg, hRow, hfr⟩ := hp
      exact ⟨_, rfl, b', vr, hE', rfl, hr, hg, hRow, hfr⟩
    rintro vz w3 ⟨b', vr, hE', he0, hr, hg, hRow, hfr⟩
    injection he0 with he0
    subst he0
    have hg1 := ((Grown.refl w2 fun k => k = x).drew).trans hg
    refine hK.out _ _ (HS2.out _ hg1) fun hHeld2 => ?_
    clear hK
    simp only [Act.put, List.setIfInBounds_toArray, List.set_cons_zero, List.set_cons_succ]
    refine wpAnyH_take (i := 7) (oi := ⟨some 134, Op.move (Operand.tmp 141), 103, _, _, none⟩) (v := .tuple #[vr, .agg #[.int .i64 why', .int .i64 b']]) rfl (by kernel_rfl) (by kernel_rfl) (by kernel_rfl) (fun _ _ _ h => h) (Or.inl ⟨by rfl, fun w hS => by go_simp⟩) hHeld2 ?_
    simp only [Act.put, List.setIfInBounds_toArray, List.set_cons_zero, List.set_cons_succ]
    refine wpAnyH_take (i := 8) (oi := ⟨some 142, Op.extract (Operand.tmp 134) 0, 36, _, _, none⟩) (v := vr) rfl (by kernel_rfl) (by kernel_rfl) (by kernel_rfl) (fun _ _ _ h => h) (Or.inl ⟨by rfl, fun w hS => by go_simp⟩) hHeld2 ?_
    simp only [Act.put, List.setIfInBounds_toArray, List.set_cons_zero, List.set_cons_succ]
    refine wpAnyH_take (i := 9) (oi := ⟨some 143, Op.extract (Operand.tmp 134) 1, 56, _, _, none⟩) (v := .agg #[.int .i64 why', .int .i64 b']) rfl (by kernel_rfl) (by kernel_rfl) (by kernel_rfl) (fun _ _ _ h => h) (Or.inl ⟨by rfl, fun w hS => by go_simp⟩) hHeld2 ?_
    simp only [Act.put, List.setIfInBounds_toArray, List.set_cons_zero, List.set_cons_succ]
    refine wpAnyH_ready (rs := [10]) (by kernel_rfl) (by simp) ?_
    refine AllReadyH.cons (o := ⟨some 20, Op.alloc 56, 0, _, _, none⟩) rfl (fun K hK => ?_) AllReadyH.nil
    rw [if_pos (by rfl)]
    go_simp
    have hg4 := hg1.trans (Grown.alloc w3 (.cells #[.int .i64 0, .int .i64 0] 56) fun k => k = x)
    refine hK.out _ _ (HS2.out _ hg4) fun hHeld3 => ?_
    clear hK hg4
    have HN := Keep.mk (Blk.new w3 56 #[.int .i64 0, .int .i64 0])
    have HA := Keep.mk (below_new w3 (.cells #[.int .i64 0, .int .i64 0] 56))
    have hb5 := below_two HA.out (Nat.le_refl _) (.int .i64 why') (.int .i64 b')
    have HM5 := Keep.mk ((HM2.out.drew.ref hr hg).later hb5)
    have HG5 := Keep.mk (hg1.trans (Grown.below (S := fun k => k = x) hb5))
    have HO5 := Keep.mk ((HO2.out.grown hg1 fun k hk e => HO2.out.ne HM2.out.rf (by decide) (by rw [hk, e])).grown (Grown.below (S := fun _ => False) hb5) fun _ _ h => h)
    have HW5 := Keep.mk (hRow.below hb5)
    have HFg : Keep (¬ F w3.heap.size) := ⟨fun hF => by have h1 := (HM2.out.sep _ hF).2.2.2.2; have h2 := hg1.size; omega⟩
    clear hRow hfr HO2
    clear hb5 HA hr hg hg1
    generalize w3.alloc (.cells #[.int .i64 0, .int .i64 0] 56) = w4 at *
    have n0 : w4.cell? ⟨w3.heap.size, 0, none⟩ = some (.int .i64 0) := by rw [HN.out.cell]; rfl
    have n1 : w4.cell? ⟨w3.heap.size, 1, none⟩ = some (.int .i64 0) := by rw [HN.out.cell]; rfl
    have m0 := HN.out.frozen 0
    have m1 := HN.out.frozen 1
    refine wpAnyH_take (i := 11) (oi := ⟨some 19, Op.assign (Operand.tmp 142), 36, _, _, none⟩) (v := vr) rfl (by kernel_rfl) (by kernel_rfl) (by kernel_rfl) (fun _ _ _ h => h) (Or.inl ⟨by rfl, fun w hS => by go_simp⟩) hHeld3 ?_
    simp only [Act.put, List.setIfInBounds_toArray, List.set_cons_zero, List.set_cons_succ]
    refine wpAnyH_ready (rs := [12]) (by kernel_rfl) (by simp) ?_
    refine AllReadyH.cons (o := ⟨none, Op.store 56 (Operand.tmp 20) (Operand.tmp 143), 0, _, _, none⟩) rfl (fun K hK => ?_) AllReadyH.nil
    rw [if_pos (by rfl)]
    go_simp
    refine hK.out _ _ (HS2.out _ HG5.out) fun _ => ?_
    clear hK
    refine wpAnyH_done (by kernel_rfl) ?_ _
    have HN5 := Keep.mk (show Blk ((w4.setCell ⟨w3.heap.size, 0, none⟩ (.int .i64 why')).setCell ⟨w3.heap.size, 1, none⟩ (.int .i64 b')) w3.heap.size 56 #[.int .i64 why', .int .i64 b'] from (HN.out.set 0 _).set 1 _)
    clear n0 n1 m0 m1 HN HG5
    generalize (w4.setCell ⟨w3.heap.size, 0, none⟩ (.int .i64 why')).setCell ⟨w3.heap.size, 1, none⟩ (.int .i64 b') = w5 at *
    have n0 : w5.cell? ⟨w3.heap.size, 0, none⟩ = some (.int .i64 why') := by rw [HN5.out.cell]; rfl
    have n1 : w5.cell? ⟨w3.heap.size, 1, none⟩ = some (.int .i64 b') := by rw [HN5.out.cell]; rfl
    have HE3 := Keep.mk hE'
    clear hE' hHeld hHeld2 HQ HS2 HM2 HE c1 o2
    clear hHeld3
    obtain ⟨st, hst⟩ : ∃ st, Keep (st = strOfNums l) := ⟨_, ⟨rfl⟩⟩
    have hcv1 : (convert 36 9 va).run Try.prog w5 = .ok (.string st) w5 := by rw [hst.out]; exact conv_row _ l _ HO5.out.row
    have hcv2 : (convert 36 9 vr).run Try.prog w5 = .ok (.string st) w5 := by rw [hst.out]; exact conv_row _ l _ HW5.out
    clear HW5 n0 n1
    go_wp2_with fail
    refine (HM5.out.adds HO5.out (fun k hk => (HVF.out k hk).1) HLn.out).mono ?_
    intro e w6 hp
    have hN6 := hp.2.2.blk HN5.out (by
      obtain ⟨lv, gv, n, hh⟩ := HM5.out.hbk
      rintro (e | e | e)
      · exact blk_ne HN5.out hh (by decide) e
      · exact HFg.out e
      · exact HO5.out.ne HN5.out (by decide) e)
    obtain ⟨rfl, hM6⟩ := HM5.out.added HO5.out (fun k hk => (HVF.out k hk).2) hp
    have n0 : w6.cell? ⟨w3.heap.size, 0, none⟩ = some (.int .i64 why') := by rw [hN6.cell]; rfl
    have n1 : w6.cell? ⟨w3.heap.size, 1, none⟩ = some (.int .i64 b') := by rw [hN6.cell]; rfl
    have HM6 := Keep.mk hM6
    clear hM6 hp hN6 HN5 HM5 HO5 hcv1 hcv2 HVF HFg
    generalize (fun k => F k ∨ va.ownBlock = some k ∨ w5.heap.size ≤ k ∧ k < w6.heap.size) = F6 at *
    go_wp2_with fail
    refine (wrong_any HM6.out HE3.out Hk.out).mono ?_
    rintro e w7 ⟨rfl, hM7⟩
    have HM7 := Keep.mk hM7
    clear hM7
    go_wp2
    go_ret
    exact ⟨rfl, _, _, _, _, _, HE3.out, HM7.out⟩
  · go_simp
    have hg3 := (Grown.alloc w2 (.cells #[.int .i64 0, .int .i64 0] 56) fun k => k = x).drew
    have HM3 := Keep.mk (HM2.out.later (below_new w2 (.cells #[.int .i64 0, .int .i64 0] 56))).drew
    have hN0 := (Blk.new w2 56 #[.int .i64 0, .int .i64 0]).drew
    refine hK.out _ _ (HS2.out _ hg3) fun hHeld2 => ?_
    clear hK
    generalize (w2.alloc (.cells #[.int .i64 0, .int .i64 0] 56)).drew = w3 at *
    refine wpAnyH_ready (rs := [6]) (by kernel_rfl) (by simp) ?_
    refine AllReadyH.cons (o := ⟨some 141, Op.call { callee := Callee.value (Operand.func 52), args := #[Operand.tmp 138, Operand.tmp 140], argTypes := #[54, 3] }, 103, _, _, none⟩) rfl (fun K hK => ?_) AllReadyH.nil
    rw [if_pos (by rfl)]
    refine wp_callF 52 _ _ rfl Try.enter52 #[ptr x, .int .i64 N] (by simp [Act.eval]) (fun vz wz => RfPostB x vB why' a' l w3 (.returned vz) wz) ?_ ?_
    · refine (HQ.out w3 b HM3.out.rf HE.out (HM3.out.row HR.out)).mono ?_
      intro e wz hp
      obtain ⟨b', vr, hE', rfl, hr, hg, hRow, hfr⟩ := hp
      exact ⟨_, rfl, b', vr, hE', rfl, hr, hg, hRow, hfr⟩
    rintro vz w4 ⟨b', vr, hE', he0, hr, hg, hRow, hfr⟩
    injection he0 with he0
    subst he0
    refine hK.out _ _ (HS2.out _ (hg3.trans hg)) fun hHeld3 => ?_
    clear hK
    simp only [Act.put, List.setIfInBounds_toArray, List.set_cons_zero, List.set_cons_succ]
    refine wpAnyH_take (i := 7) (oi := ⟨some 134, Op.move (Operand.tmp 141), 103, _, _, none⟩) (v := .tuple #[vr, .agg #[.int .i64 why', .int .i64 b']]) rfl (by kernel_rfl) (by kernel_rfl) (by kernel_rfl) (fun _ _ _ h => h) (Or.inl ⟨by rfl, fun w hS => by go_simp⟩) hHeld3 ?_
    simp only [Act.put, List.setIfInBounds_toArray, List.set_cons_zero, List.set_cons_succ]
    refine wpAnyH_take (i := 8) (oi := ⟨some 142, Op.extract (Operand.tmp 134) 0, 36, _, _, none⟩) (v := vr) rfl (by kernel_rfl) (by kernel_rfl) (by kernel_rfl) (fun _ _ _ h => h) (Or.inl ⟨by rfl, fun w hS => by go_simp⟩) hHeld3 ?_
    simp only [Act.put, List.setIfInBounds_toArray, List.set_cons_zero, List.set_cons_succ]
    refine wpAnyH_take (i := 9) (oi := ⟨some 143, Op.extract (Operand.tmp 134) 1, 56, _, _, none⟩) (v := .agg #[.int .i64 why', .int .i64 b']) rfl (by kernel_rfl) (by kernel_rfl) (by kernel_rfl) (fun _ _ _ h => h) (Or.inl ⟨by rfl, fun w hS => by go_simp⟩) hHeld3 ?_
    simp only [Act.put, List.setIfInBounds_toArray, List.set_cons_zero, List.set_cons_succ]
    have HN := Keep.mk (hg.blk hN0 fun e => blk_ne hN0 HM3.out.rf (by decide) e)
    have hg5 : Grown w4 ((w4.setCell ⟨w2.heap.size, 0, none⟩ (.int .i64 why')).setCell ⟨w2.heap.size, 1, none⟩ (.int .i64 b')) fun k => k = w2.heap.size := (Grown.setCell w4 w2.heap.size 0 (.int .i64 why') (S := fun k => k = w2.heap.size) fun _ => rfl).trans (Grown.setCell _ w2.heap.size 1 (.int .i64 b') (S := fun k => k = w2.heap.size) fun _ => rfl)
    have HM5 := Keep.mk ((HM3.out.ref hr hg).aside HN.out (fun hF => by have := (HM2.out.sep _ hF).2.2.2.2; omega) HM2.out.below.size hg5)
    have HG5 := Keep.mk ((hg3.trans hg).next hg5 fun i hi e => by omega)
    have HO4 := Keep.mk (HO2.out.grown (hg3.trans hg) fun k hk e => HO2.out.ne HM2.out.rf (by decide) (by rw [hk, e]))
    have HO5 := Keep.mk (HO4.out.grown hg5 fun k hk e => HO4.out.ne HN.out (by decide) (by rw [hk, e]))
    have HW5 := Keep.mk (row_two (g := w2.heap.size) hRow (fun e => by have h1 := hfr _ e; have h2 := hN0.lt; omega) (.int .i64 why') (.int .i64 b'))
    have HFg : Keep (¬ F w2.heap.size) := ⟨fun hF => by have h1 := (HM2.out.sep _ hF).2.2.2.2; omega⟩
    clear hRow hfr HO2 HO4
    clear hg5 hr hg hg3 hN0
    have n0 : w4.cell? ⟨w2.heap.size, 0, none⟩ = some (.int .i64 0) := by rw [HN.out.cell]; rfl
    have n1 : w4.cell? ⟨w2.heap.size, 1, none⟩ = some (.int .i64 0) := by rw [HN.out.cell]; rfl
    have m0 := HN.out.frozen 0
    have m1 := HN.out.frozen 1
    refine wpAnyH_take (i := 11) (oi := ⟨some 19, Op.assign (Operand.tmp 142), 36, _, _, none⟩) (v := vr) rfl (by kernel_rfl) (by kernel_rfl) (by kernel_rfl) (fun _ _ _ h => h) (Or.inl ⟨by rfl, fun w hS => by go_simp⟩) hHeld3 ?_
    simp only [Act.put, List.setIfInBounds_toArray, List.set_cons_zero, List.set_cons_succ]
    refine wpAnyH_ready (rs := [12]) (by kernel_rfl) (by simp) ?_
    refine AllReadyH.cons (o := ⟨none, Op.store 56 (Operand.tmp 20) (Operand.tmp 143), 0, _, _, none⟩) rfl (fun K hK => ?_) AllReadyH.nil
    rw [if_pos (by rfl)]
    go_simp
    refine hK.out _ _ (HS2.out _ HG5.out) fun _ => ?_
    clear hK
    refine wpAnyH_done (by kernel_rfl) ?_ _
    have HN5 := Keep.mk (show Blk ((w4.setCell ⟨w2.heap.size, 0, none⟩ (.int .i64 why')).setCell ⟨w2.heap.size, 1, none⟩ (.int .i64 b')) w2.heap.size 56 #[.int .i64 why', .int .i64 b'] from (HN.out.set 0 _).set 1 _)
    clear n0 n1 m0 m1 HN HG5
    generalize (w4.setCell ⟨w2.heap.size, 0, none⟩ (.int .i64 why')).setCell ⟨w2.heap.size, 1, none⟩ (.int .i64 b') = w5 at *
    have n0 : w5.cell? ⟨w2.heap.size, 0, none⟩ = some (.int .i64 why') := by rw [HN5.out.cell]; rfl
    have n1 : w5.cell? ⟨w2.heap.size, 1, none⟩ = some (.int .i64 b') := by rw [HN5.out.cell]; rfl
    have HE3 := Keep.mk hE'
    clear hE' hHeld hHeld2 HQ HS2 HM2 HE c1 o2
    clear hHeld3 HM3
    obtain ⟨st, hst⟩ : ∃ st, Keep (st = strOfNums l) := ⟨_, ⟨rfl⟩⟩
    have hcv1 : (convert 36 9 va).run Try.prog w5 = .ok (.string st) w5 := by rw [hst.out]; exact conv_row _ l _ HO5.out.row
    have hcv2 : (convert 36 9 vr).run Try.prog w5 = .ok (.string st) w5 := by rw [hst.out]; exact conv_row _ l _ HW5.out
    clear HW5 n0 n1
    go_wp2_with fail
    refine (HM5.out.adds HO5.out (fun k hk => (HVF.out k hk).1) HLn.out).mono ?_
    intro e w6 hp
    have hN6 := hp.2.2.blk HN5.out (by
      obtain ⟨lv, gv, n, hh⟩ := HM5.out.hbk
      rintro (e | e | e)
      · exact blk_ne HN5.out hh (by decide) e
      · exact HFg.out e
      · exact HO5.out.ne HN5.out (by decide) e)
    obtain ⟨rfl, hM6⟩ := HM5.out.added HO5.out (fun k hk => (HVF.out k hk).2) hp
    have n0 : w6.cell? ⟨w2.heap.size, 0, none⟩ = some (.int .i64 why') := by rw [hN6.cell]; rfl
    have n1 : w6.cell? ⟨w2.heap.size, 1, none⟩ = some (.int .i64 b') := by rw [hN6.cell]; rfl
    have HM6 := Keep.mk hM6
    clear hM6 hp hN6 HN5 HM5 HO5 hcv1 hcv2 HVF HFg
    generalize (fun k => F k ∨ va.ownBlock = some k ∨ w5.heap.size ≤ k ∧ k < w6.heap.size) = F6 at *
    go_wp2_with fail
    refine (wrong_any HM6.out HE3.out Hk.out).mono ?_
    rintro e w7 ⟨rfl, hM7⟩
    have HM7 := Keep.mk hM7
    clear hM7
    go_wp2
    go_ret
    exact ⟨rfl, _, _, _, _, _, HE3.out, HM7.out⟩

set_option maxRecDepth 4000 in
set_option maxHeartbeats 4000000 in
theorem step_bytes (wB : World) (hb p x : Nat) (s : ByteArray) (vB : Value) (a : Nat) (why : Int) (bad : Option Nat) (b : Int) (F : Nat → Prop) (w : World) (h : Mid wB hb p x s vB a why bad a why b (errV bad) F w) (hE : ErrB why a b) (hR : RowAt wB vB (lst s)) (hs : s.size ≤ 140737488351232) (X : Nat) (N : Int) (V : Value) (hn1 : -9223372036854775808 ≤ N) (hn2 : N ≤ 9223372036854775807) :
    Calls Try.prog 22 #[ptr hb, .agg #[.int .i64 4, .int .u64 (X : Int), .int .i64 N, V]] w (StepPost wB hb p x s vB) := by
  obtain ⟨l, a', why', hP, hQ, hln⟩ := pair_bytes p x s vB a why bad (by omega) h.rd.le h.good N hn1 hn2
  have HP := Keep.mk hP
  have HQ := Keep.mk hQ
  have HE := Keep.mk hE
  have HR := Keep.mk hR
  have HM1 := Keep.mk (h.later (below_new w (.cells #[.int .i64 4, .int .u64 (X : Int), .int .i64 N, V] 43)))
  have HX1 := Keep.mk (Blk.new w 43 #[.int .i64 4, .int .u64 (X : Int), .int .i64 N, V])
  have HLn : Keep (l.length + 60 ≤ 140737488355328) := ⟨by omega⟩
  clear h hE hR hP hQ hs hn1 hn2 hln
  go_enter Try.func22, Try.ntmps22
  go_wp2_with (first | (refine wpList_boxA rfl 43 (.tmp 1) rfl _ rfl ?_; refine Hid.out ?_))
  refine hid_in ?_
  generalize w.alloc (.cells #[.int .i64 4, .int .u64 (X : Int), .int .i64 N, V] 43) = w1 at *
  have o0 : w1.cell? ⟨w.heap.size, 0, none⟩ = some (.int .i64 4) := by rw [HX1.out.cell]; rfl
  have c0 := HM1.out.c0
  have o2 : w1.cell? ⟨w.heap.size, 2, none⟩ = some (.int .i64 N) := by rw [HX1.out.cell]; rfl
  have HS1 : Keep (∀ wx, (Grown w1 wx fun k => k = p) → wx.cell? ⟨hb, 0, none⟩ = some (ptr p) ∧ wx.cell? ⟨w.heap.size, 2, none⟩ = some (.int .i64 N)) := ⟨fun wx hg => ⟨hg.cell c0 (fun e => HM1.out.ne.2.1 e.symm), hg.cell o2 (fun e => blk_ne HX1.out HM1.out.rd.blk (by decide) e)⟩⟩
  have HX2 : Keep (∀ wx, (Grown w1 wx fun k => k = p) → Blk wx w.heap.size 43 #[.int .i64 4, .int .u64 (X : Int), .int .i64 N, V]) := ⟨fun wx hg => hg.blk HX1.out (fun e => blk_ne HX1.out HM1.out.rd.blk (by decide) e)⟩
  go_wp2_with fail
  refine wp_region_held_drew (S := fun wx => wx.cell? ⟨hb, 0, none⟩ = some (ptr p) ∧ wx.cell? ⟨w.heap.size, 2, none⟩ = some (.int .i64 N)) (by kernel_rfl) (HS1.out _ ((Grown.refl _ _).drew)) (fun hHeld => ?_)
  refine wpAnyH_take (i := 0) (oi := ⟨some 164, Op.move (Operand.tmp 0), 51, _, _, none⟩) (v := ptr hb) rfl (by kernel_rfl) (by kernel_rfl) (by kernel_rfl) (fun _ _ _ h => h) (Or.inl ⟨by rfl, fun w hS => by go_simp⟩) hHeld ?_
  simp only [Act.put, List.setIfInBounds_toArray, List.set_cons_zero, List.set_cons_succ]
  refine wpAnyH_take (i := 1) (oi := ⟨some 165, Op.nilCheck (Operand.tmp 164), 0, _, _, none⟩) (v := ptr hb) rfl (by kernel_rfl) (by kernel_rfl) (by kernel_rfl) (fun _ _ _ h => h) (Or.inl ⟨by rfl, fun w hS => by go_simp⟩) hHeld ?_
  simp only [Act.put, List.setIfInBounds_toArray, List.set_cons_zero, List.set_cons_succ]
  refine wpAnyH_take (i := 2) (oi := ⟨some 166, Op.fieldAddr 60 (Operand.tmp 165) 0, 0, _, _, none⟩) (v := ptr hb) rfl (by kernel_rfl) (by kernel_rfl) (by kernel_rfl) (fun _ _ _ h => h) (Or.inl ⟨by rfl, fun w hS => by go_simp⟩) hHeld ?_
  simp only [Act.put, List.setIfInBounds_toArray, List.set_cons_zero, List.set_cons_succ]
  refine wpAnyH_take (i := 3) (oi := ⟨some 167, Op.load 52 (Operand.tmp 166), 52, _, _, none⟩) (v := ptr p) rfl (by kernel_rfl) (by kernel_rfl) (by kernel_rfl) (fun _ _ _ h => h) (Or.inl ⟨by rfl, fun w hS => by (have hcx := hS.1; clear hS; go_simp)⟩) hHeld ?_
  simp only [Act.put, List.setIfInBounds_toArray, List.set_cons_zero, List.set_cons_succ]
  refine wpAnyH_take (i := 4) (oi := ⟨some 168, Op.fieldAddr 43 (Operand.tmp 3) 2, 0, _, _, none⟩) (v := .pointer (some ⟨w.heap.size, 2, none⟩)) rfl (by kernel_rfl) (by kernel_rfl) (by kernel_rfl) (fun _ _ _ h => h) (Or.inl ⟨by rfl, fun w hS => by go_simp⟩) hHeld ?_
  simp only [Act.put, List.setIfInBounds_toArray, List.set_cons_zero, List.set_cons_succ]
  refine wpAnyH_take (i := 5) (oi := ⟨some 169, Op.load 3 (Operand.tmp 168), 3, _, _, none⟩) (v := .int .i64 N) rfl (by kernel_rfl) (by kernel_rfl) (by kernel_rfl) (fun _ _ _ h => h) (Or.inl ⟨by rfl, fun w hS => by (have hcx := hS.2; clear hS; go_simp)⟩) hHeld ?_
  simp only [Act.put, List.setIfInBounds_toArray, List.set_cons_zero, List.set_cons_succ]
  refine wpAnyH_ready (rs := [6]) (by kernel_rfl) (by simp) ?_
  refine AllReadyH.cons (o := ⟨some 170, Op.call { callee := Callee.value (Operand.func 53), args := #[Operand.tmp 167, Operand.tmp 169], argTypes := #[52, 3] }, 101, _, _, none⟩) rfl (fun K hK => ?_) AllReadyH.nil
  rw [if_pos (by rfl)]
  refine wp_callF 53 _ _ rfl Try.enter53 #[ptr p, .int .i64 N] (by simp [Act.eval]) (fun vz wz => PPostB p s why a bad a' why' l w1.drew (.returned vz) wz) ?_ ?_
  · refine (HP.out w1.drew HM1.out.drew.rd).mono ?_
    intro e wz hp
    obtain ⟨bad', va, rfl, hi, hg, he, hO, hfr⟩ := hp
    exact ⟨_, rfl, bad', va, rfl, hi, hg, he, hO, hfr⟩
  rintro vz w2 ⟨bad', va, he0, hi, hg, he, hO, hfr⟩
  injection he0 with he0
  subst he0
  have hg1 := ((Grown.refl w1 fun k => k = p).drew).trans hg
  refine hK.out _ _ (HS1.out _ hg1) fun hHeld2 => ?_
  clear hK
  simp only [Act.put, List.setIfInBounds_toArray, List.set_cons_zero, List.set_cons_succ]
  refine wpAnyH_take (i := 7) (oi := ⟨some 163, Op.move (Operand.tmp 170), 101, _, _, none⟩) (v := .tuple #[va, errV bad']) rfl (by kernel_rfl) (by kernel_rfl) (by kernel_rfl) (fun _ _ _ h => h) (Or.inl ⟨by rfl, fun w hS => by go_simp⟩) hHeld2 ?_
  simp only [Act.put, List.setIfInBounds_toArray, List.set_cons_zero, List.set_cons_succ]
  refine wpAnyH_take (i := 8) (oi := ⟨some 171, Op.extract (Operand.tmp 163) 0, 36, _, _, none⟩) (v := va) rfl (by kernel_rfl) (by kernel_rfl) (by kernel_rfl) (fun _ _ _ h => h) (Or.inl ⟨by rfl, fun w hS => by go_simp⟩) hHeld2 ?_
  simp only [Act.put, List.setIfInBounds_toArray, List.set_cons_zero, List.set_cons_succ]
  refine wpAnyH_take (i := 9) (oi := ⟨some 172, Op.extract (Operand.tmp 163) 1, 27, _, _, none⟩) (v := errV bad') rfl (by kernel_rfl) (by kernel_rfl) (by kernel_rfl) (fun _ _ _ h => h) (Or.inl ⟨by rfl, fun w hS => by go_simp⟩) hHeld2 ?_
  simp only [Act.put, List.setIfInBounds_toArray, List.set_cons_zero, List.set_cons_succ]
  refine wpAnyH_take (i := 10) (oi := ⟨some 22, Op.assign (Operand.tmp 171), 36, _, _, none⟩) (v := va) rfl (by kernel_rfl) (by kernel_rfl) (by kernel_rfl) (fun _ _ _ h => h) (Or.inl ⟨by rfl, fun w hS => by go_simp⟩) hHeld2 ?_
  simp only [Act.put, List.setIfInBounds_toArray, List.set_cons_zero, List.set_cons_succ]
  refine wpAnyH_take (i := 11) (oi := ⟨some 23, Op.assign (Operand.tmp 172), 27, _, _, none⟩) (v := errV bad') rfl (by kernel_rfl) (by kernel_rfl) (by kernel_rfl) (fun _ _ _ h => h) (Or.inl ⟨by rfl, fun w hS => by go_simp⟩) hHeld2 ?_
  simp only [Act.put, List.setIfInBounds_toArray, List.set_cons_zero, List.set_cons_succ]
  refine wpAnyH_done (by kernel_rfl) ?_ _
  have HM2 := Keep.mk (HM1.out.drew.prog hi hg he)
  have Hk := Keep.mk he.keep
  have hX2 := HX2.out _ hg1
  have HO2 := Keep.mk hO
  have HVF : Keep (∀ k, va.ownBlock = some k → ¬ F k ∧ wB.heap.size ≤ k) := ⟨fun k hk => by
    have h1 : w1.heap.size ≤ k := hfr k hk
    exact ⟨fun hF => by have h2 := (HM1.out.sep k hF).2.2.2.2; omega, Nat.le_trans HM1.out.below.size h1⟩⟩
  clear hi hg he hHeld hHeld2 HS1 HX2 hg1 HM1 HX1 o0 o2 c0 HP hO hfr
  have c1 := HM2.out.c1
  have o2 : w2.cell? ⟨w.heap.size, 2, none⟩ = some (.int .i64 N) := by rw [hX2.cell]; rfl
  have HS2 : Keep (∀ wx, (Grown w2 wx fun k => k = x) → wx.cell? ⟨hb, 1, none⟩ = some (ptr x) ∧ wx.cell? ⟨w.heap.size, 2, none⟩ = some (.int .i64 N)) := ⟨fun wx hg => ⟨hg.cell c1 (fun e => HM2.out.ne.2.2 e.symm), hg.cell o2 (fun e => blk_ne hX2 HM2.out.rf (by decide) e)⟩⟩
  clear hX2
  go_wp2_with fail
  refine wp_region_held_drew (S := fun wx => wx.cell? ⟨hb, 1, none⟩ = some (ptr x) ∧ wx.cell? ⟨w.heap.size, 2, none⟩ = some (.int .i64 N)) (by kernel_rfl) (HS2.out _ ((Grown.refl _ _).drew)) (fun hHeld => ?_)
  refine wpAnyH_take (i := 0) (oi := ⟨some 174, Op.move (Operand.tmp 0), 51, _, _, none⟩) (v := ptr hb) rfl (by kernel_rfl) (by kernel_rfl) (by kernel_rfl) (fun _ _ _ h => h) (Or.inl ⟨by rfl, fun w hS => by go_simp⟩) hHeld ?_
  simp only [Act.put, List.setIfInBounds_toArray, List.set_cons_zero, List.set_cons_succ]
  refine wpAnyH_take (i := 1) (oi := ⟨some 175, Op.nilCheck (Operand.tmp 174), 0, _, _, none⟩) (v := ptr hb) rfl (by kernel_rfl) (by kernel_rfl) (by kernel_rfl) (fun _ _ _ h => h) (Or.inl ⟨by rfl, fun w hS => by go_simp⟩) hHeld ?_
  simp only [Act.put, List.setIfInBounds_toArray, List.set_cons_zero, List.set_cons_succ]
  refine wpAnyH_take (i := 2) (oi := ⟨some 176, Op.fieldAddr 60 (Operand.tmp 175) 1, 0, _, _, none⟩) (v := .pointer (some ⟨hb, 1, none⟩)) rfl (by kernel_rfl) (by kernel_rfl) (by kernel_rfl) (fun _ _ _ h => h) (Or.inl ⟨by rfl, fun w hS => by go_simp⟩) hHeld ?_
  simp only [Act.put, List.setIfInBounds_toArray, List.set_cons_zero, List.set_cons_succ]
  refine wpAnyH_take (i := 3) (oi := ⟨some 177, Op.load 54 (Operand.tmp 176), 54, _, _, none⟩) (v := ptr x) rfl (by kernel_rfl) (by kernel_rfl) (by kernel_rfl) (fun _ _ _ h => h) (Or.inl ⟨by rfl, fun w hS => by (have hcx := hS.1; clear hS; go_simp)⟩) hHeld ?_
  simp only [Act.put, List.setIfInBounds_toArray, List.set_cons_zero, List.set_cons_succ]
  refine wpAnyH_take (i := 4) (oi := ⟨some 178, Op.fieldAddr 43 (Operand.tmp 3) 2, 0, _, _, none⟩) (v := .pointer (some ⟨w.heap.size, 2, none⟩)) rfl (by kernel_rfl) (by kernel_rfl) (by kernel_rfl) (fun _ _ _ h => h) (Or.inl ⟨by rfl, fun w hS => by go_simp⟩) hHeld ?_
  simp only [Act.put, List.setIfInBounds_toArray, List.set_cons_zero, List.set_cons_succ]
  refine wpAnyH_take (i := 5) (oi := ⟨some 179, Op.load 3 (Operand.tmp 178), 3, _, _, none⟩) (v := .int .i64 N) rfl (by kernel_rfl) (by kernel_rfl) (by kernel_rfl) (fun _ _ _ h => h) (Or.inl ⟨by rfl, fun w hS => by (have hcx := hS.2; clear hS; go_simp)⟩) hHeld ?_
  simp only [Act.put, List.setIfInBounds_toArray, List.set_cons_zero, List.set_cons_succ]
  refine wpAnyH_ready (rs := [6, 10]) (by kernel_rfl) (by simp) ?_
  refine AllReadyH.cons (o := ⟨some 180, Op.call { callee := Callee.value (Operand.func 54), args := #[Operand.tmp 177, Operand.tmp 179], argTypes := #[54, 3] }, 103, _, _, none⟩) rfl (fun K hK => ?_) (AllReadyH.cons (o := ⟨some 25, Op.alloc 56, 0, _, _, none⟩) rfl (fun K hK => ?_) AllReadyH.nil)
  all_goals rw [if_pos (by rfl)]
  · refine wp_callF 54 _ _ rfl Try.enter54 #[ptr x, .int .i64 N] (by simp [Act.eval]) (fun vz wz => RfPostB x vB why' a' l w2.drew (.returned vz) wz) ?_ ?_
    · refine (HQ.out w2.drew b HM2.out.drew.rf HE.out (HM2.out.drew.row HR.out)).mono ?_
      intro e wz hp
      obtain ⟨b', vr, hE', rfl, hr, hg, hRow, hfr⟩ := hp
      exact ⟨_, rfl, b', vr, hE', rfl, hr, hg, hRow, hfr⟩
    rintro vz w3 ⟨b', vr, hE', he0, hr, hg, hRow, hfr⟩
    injection he0 with he0
    subst he0
    have hg1 := ((Grown.refl w2 fun k => k = x).drew).trans hg
    refine hK.out _ _ (HS2.out _ hg1) fun hHeld2 => ?_
    clear hK
    simp only [Act.put, List.setIfInBounds_toArray, List.set_cons_zero, List.set_cons_succ]
    refine wpAnyH_take (i := 7) (oi := ⟨some 173, Op.move (Operand.tmp 180), 103, _, _, none⟩) (v := .tuple #[vr, .agg #[.int .i64 why', .int .i64 b']]) rfl (by kernel_rfl) (by kernel_rfl) (by kernel_rfl) (fun _ _ _ h => h) (Or.inl ⟨by rfl, fun w hS => by go_simp⟩) hHeld2 ?_
    simp only [Act.put, List.setIfInBounds_toArray, List.set_cons_zero, List.set_cons_succ]
    refine wpAnyH_take (i := 8) (oi := ⟨some 181, Op.extract (Operand.tmp 173) 0, 36, _, _, none⟩) (v := vr) rfl (by kernel_rfl) (by kernel_rfl) (by kernel_rfl) (fun _ _ _ h => h) (Or.inl ⟨by rfl, fun w hS => by go_simp⟩) hHeld2 ?_
    simp only [Act.put, List.setIfInBounds_toArray, List.set_cons_zero, List.set_cons_succ]
    refine wpAnyH_take (i := 9) (oi := ⟨some 182, Op.extract (Operand.tmp 173) 1, 56, _, _, none⟩) (v := .agg #[.int .i64 why', .int .i64 b']) rfl (by kernel_rfl) (by kernel_rfl) (by kernel_rfl) (fun _ _ _ h => h) (Or.inl ⟨by rfl, fun w hS => by go_simp⟩) hHeld2 ?_
    simp only [Act.put, List.setIfInBounds_toArray, List.set_cons_zero, List.set_cons_succ]
    refine wpAnyH_ready (rs := [10]) (by kernel_rfl) (by simp) ?_
    refine AllReadyH.cons (o := ⟨some 25, Op.alloc 56, 0, _, _, none⟩) rfl (fun K hK => ?_) AllReadyH.nil
    rw [if_pos (by rfl)]
    go_simp
    have hg4 := hg1.trans (Grown.alloc w3 (.cells #[.int .i64 0, .int .i64 0] 56) fun k => k = x)
    refine hK.out _ _ (HS2.out _ hg4) fun hHeld3 => ?_
    clear hK hg4
    have HN := Keep.mk (Blk.new w3 56 #[.int .i64 0, .int .i64 0])
    have HA := Keep.mk (below_new w3 (.cells #[.int .i64 0, .int .i64 0] 56))
    have hb5 := below_two HA.out (Nat.le_refl _) (.int .i64 why') (.int .i64 b')
    have HM5 := Keep.mk ((HM2.out.drew.ref hr hg).later hb5)
    have HG5 := Keep.mk (hg1.trans (Grown.below (S := fun k => k = x) hb5))
    have HO5 := Keep.mk ((HO2.out.grown hg1 fun k hk e => HO2.out.ne HM2.out.rf (by decide) (by rw [hk, e])).grown (Grown.below (S := fun _ => False) hb5) fun _ _ h => h)
    have HW5 := Keep.mk (hRow.below hb5)
    have HFg : Keep (¬ F w3.heap.size) := ⟨fun hF => by have h1 := (HM2.out.sep _ hF).2.2.2.2; have h2 := hg1.size; omega⟩
    clear hRow hfr HO2
    clear hb5 HA hr hg hg1
    generalize w3.alloc (.cells #[.int .i64 0, .int .i64 0] 56) = w4 at *
    have n0 : w4.cell? ⟨w3.heap.size, 0, none⟩ = some (.int .i64 0) := by rw [HN.out.cell]; rfl
    have n1 : w4.cell? ⟨w3.heap.size, 1, none⟩ = some (.int .i64 0) := by rw [HN.out.cell]; rfl
    have m0 := HN.out.frozen 0
    have m1 := HN.out.frozen 1
    refine wpAnyH_take (i := 11) (oi := ⟨some 24, Op.assign (Operand.tmp 181), 36, _, _, none⟩) (v := vr) rfl (by kernel_rfl) (by kernel_rfl) (by kernel_rfl) (fun _ _ _ h => h) (Or.inl ⟨by rfl, fun w hS => by go_simp⟩) hHeld3 ?_
    simp only [Act.put, List.setIfInBounds_toArray, List.set_cons_zero, List.set_cons_succ]
    refine wpAnyH_ready (rs := [12]) (by kernel_rfl) (by simp) ?_
    refine AllReadyH.cons (o := ⟨none, Op.store 56 (Operand.tmp 25) (Operand.tmp 182), 0, _, _, none⟩) rfl (fun K hK => ?_) AllReadyH.nil
    rw [if_pos (by rfl)]
    go_simp
    refine hK.out _ _ (HS2.out _ HG5.out) fun _ => ?_
    clear hK
    refine wpAnyH_done (by kernel_rfl) ?_ _
    have HN5 := Keep.mk (show Blk ((w4.setCell ⟨w3.heap.size, 0, none⟩ (.int .i64 why')).setCell ⟨w3.heap.size, 1, none⟩ (.int .i64 b')) w3.heap.size 56 #[.int .i64 why', .int .i64 b'] from (HN.out.set 0 _).set 1 _)
    clear n0 n1 m0 m1 HN HG5
    generalize (w4.setCell ⟨w3.heap.size, 0, none⟩ (.int .i64 why')).setCell ⟨w3.heap.size, 1, none⟩ (.int .i64 b') = w5 at *
    have n0 : w5.cell? ⟨w3.heap.size, 0, none⟩ = some (.int .i64 why') := by rw [HN5.out.cell]; rfl
    have n1 : w5.cell? ⟨w3.heap.size, 1, none⟩ = some (.int .i64 b') := by rw [HN5.out.cell]; rfl
    have HE3 := Keep.mk hE'
    clear hE' hHeld hHeld2 HQ HS2 HM2 HE c1 o2
    clear hHeld3
    obtain ⟨st, hst⟩ : ∃ st, Keep (st = strOfNums l) := ⟨_, ⟨rfl⟩⟩
    have hcv1 : (convert 36 9 va).run Try.prog w5 = .ok (.string st) w5 := by rw [hst.out]; exact conv_row _ l _ HO5.out.row
    have hcv2 : (convert 36 9 vr).run Try.prog w5 = .ok (.string st) w5 := by rw [hst.out]; exact conv_row _ l _ HW5.out
    clear HW5 n0 n1
    go_wp2_with fail
    refine (HM5.out.adds HO5.out (fun k hk => (HVF.out k hk).1) HLn.out).mono ?_
    intro e w6 hp
    have hN6 := hp.2.2.blk HN5.out (by
      obtain ⟨lv, gv, n, hh⟩ := HM5.out.hbk
      rintro (e | e | e)
      · exact blk_ne HN5.out hh (by decide) e
      · exact HFg.out e
      · exact HO5.out.ne HN5.out (by decide) e)
    obtain ⟨rfl, hM6⟩ := HM5.out.added HO5.out (fun k hk => (HVF.out k hk).2) hp
    have n0 : w6.cell? ⟨w3.heap.size, 0, none⟩ = some (.int .i64 why') := by rw [hN6.cell]; rfl
    have n1 : w6.cell? ⟨w3.heap.size, 1, none⟩ = some (.int .i64 b') := by rw [hN6.cell]; rfl
    have HM6 := Keep.mk hM6
    clear hM6 hp hN6 HN5 HM5 HO5 hcv1 hcv2 HVF HFg
    generalize (fun k => F k ∨ va.ownBlock = some k ∨ w5.heap.size ≤ k ∧ k < w6.heap.size) = F6 at *
    go_wp2_with fail
    refine (wrong_any HM6.out HE3.out Hk.out).mono ?_
    rintro e w7 ⟨rfl, hM7⟩
    have HM7 := Keep.mk hM7
    clear hM7
    go_wp2
    go_ret
    exact ⟨rfl, _, _, _, _, _, HE3.out, HM7.out⟩
  · go_simp
    have hg3 := (Grown.alloc w2 (.cells #[.int .i64 0, .int .i64 0] 56) fun k => k = x).drew
    have HM3 := Keep.mk (HM2.out.later (below_new w2 (.cells #[.int .i64 0, .int .i64 0] 56))).drew
    have hN0 := (Blk.new w2 56 #[.int .i64 0, .int .i64 0]).drew
    refine hK.out _ _ (HS2.out _ hg3) fun hHeld2 => ?_
    clear hK
    generalize (w2.alloc (.cells #[.int .i64 0, .int .i64 0] 56)).drew = w3 at *
    refine wpAnyH_ready (rs := [6]) (by kernel_rfl) (by simp) ?_
    refine AllReadyH.cons (o := ⟨some 180, Op.call { callee := Callee.value (Operand.func 54), args := #[Operand.tmp 177, Operand.tmp 179], argTypes := #[54, 3] }, 103, _, _, none⟩) rfl (fun K hK => ?_) AllReadyH.nil
    rw [if_pos (by rfl)]
    refine wp_callF 54 _ _ rfl Try.enter54 #[ptr x, .int .i64 N] (by simp [Act.eval]) (fun vz wz => RfPostB x vB why' a' l w3 (.returned vz) wz) ?_ ?_
    · refine (HQ.out w3 b HM3.out.rf HE.out (HM3.out.row HR.out)).mono ?_
      intro e wz hp
      obtain ⟨b', vr, hE', rfl, hr, hg, hRow, hfr⟩ := hp
      exact ⟨_, rfl, b', vr, hE', rfl, hr, hg, hRow, hfr⟩
    rintro vz w4 ⟨b', vr, hE', he0, hr, hg, hRow, hfr⟩
    injection he0 with he0
    subst he0
    refine hK.out _ _ (HS2.out _ (hg3.trans hg)) fun hHeld3 => ?_
    clear hK
    simp only [Act.put, List.setIfInBounds_toArray, List.set_cons_zero, List.set_cons_succ]
    refine wpAnyH_take (i := 7) (oi := ⟨some 173, Op.move (Operand.tmp 180), 103, _, _, none⟩) (v := .tuple #[vr, .agg #[.int .i64 why', .int .i64 b']]) rfl (by kernel_rfl) (by kernel_rfl) (by kernel_rfl) (fun _ _ _ h => h) (Or.inl ⟨by rfl, fun w hS => by go_simp⟩) hHeld3 ?_
    simp only [Act.put, List.setIfInBounds_toArray, List.set_cons_zero, List.set_cons_succ]
    refine wpAnyH_take (i := 8) (oi := ⟨some 181, Op.extract (Operand.tmp 173) 0, 36, _, _, none⟩) (v := vr) rfl (by kernel_rfl) (by kernel_rfl) (by kernel_rfl) (fun _ _ _ h => h) (Or.inl ⟨by rfl, fun w hS => by go_simp⟩) hHeld3 ?_
    simp only [Act.put, List.setIfInBounds_toArray, List.set_cons_zero, List.set_cons_succ]
    refine wpAnyH_take (i := 9) (oi := ⟨some 182, Op.extract (Operand.tmp 173) 1, 56, _, _, none⟩) (v := .agg #[.int .i64 why', .int .i64 b']) rfl (by kernel_rfl) (by kernel_rfl) (by kernel_rfl) (fun _ _ _ h => h) (Or.inl ⟨by rfl, fun w hS => by go_simp⟩) hHeld3 ?_
    simp only [Act.put, List.setIfInBounds_toArray, List.set_cons_zero, List.set_cons_succ]
    have HN := Keep.mk (hg.blk hN0 fun e => blk_ne hN0 HM3.out.rf (by decide) e)
    have hg5 : Grown w4 ((w4.setCell ⟨w2.heap.size, 0, none⟩ (.int .i64 why')).setCell ⟨w2.heap.size, 1, none⟩ (.int .i64 b')) fun k => k = w2.heap.size := (Grown.setCell w4 w2.heap.size 0 (.int .i64 why') (S := fun k => k = w2.heap.size) fun _ => rfl).trans (Grown.setCell _ w2.heap.size 1 (.int .i64 b') (S := fun k => k = w2.heap.size) fun _ => rfl)
    have HM5 := Keep.mk ((HM3.out.ref hr hg).aside HN.out (fun hF => by have := (HM2.out.sep _ hF).2.2.2.2; omega) HM2.out.below.size hg5)
    have HG5 := Keep.mk ((hg3.trans hg).next hg5 fun i hi e => by omega)
    have HO4 := Keep.mk (HO2.out.grown (hg3.trans hg) fun k hk e => HO2.out.ne HM2.out.rf (by decide) (by rw [hk, e]))
    have HO5 := Keep.mk (HO4.out.grown hg5 fun k hk e => HO4.out.ne HN.out (by decide) (by rw [hk, e]))
    have HW5 := Keep.mk (row_two (g := w2.heap.size) hRow (fun e => by have h1 := hfr _ e; have h2 := hN0.lt; omega) (.int .i64 why') (.int .i64 b'))
    have HFg : Keep (¬ F w2.heap.size) := ⟨fun hF => by have h1 := (HM2.out.sep _ hF).2.2.2.2; omega⟩
    clear hRow hfr HO2 HO4
    clear hg5 hr hg hg3 hN0
    have n0 : w4.cell? ⟨w2.heap.size, 0, none⟩ = some (.int .i64 0) := by rw [HN.out.cell]; rfl
    have n1 : w4.cell? ⟨w2.heap.size, 1, none⟩ = some (.int .i64 0) := by rw [HN.out.cell]; rfl
    have m0 := HN.out.frozen 0
    have m1 := HN.out.frozen 1
    refine wpAnyH_take (i := 11) (oi := ⟨some 24, Op.assign (Operand.tmp 181), 36, _, _, none⟩) (v := vr) rfl (by kernel_rfl) (by kernel_rfl) (by kernel_rfl) (fun _ _ _ h => h) (Or.inl ⟨by rfl, fun w hS => by go_simp⟩) hHeld3 ?_
    simp only [Act.put, List.setIfInBounds_toArray, List.set_cons_zero, List.set_cons_succ]
    refine wpAnyH_ready (rs := [12]) (by kernel_rfl) (by simp) ?_
    refine AllReadyH.cons (o := ⟨none, Op.store 56 (Operand.tmp 25) (Operand.tmp 182), 0, _, _, none⟩) rfl (fun K hK => ?_) AllReadyH.nil
    rw [if_pos (by rfl)]
    go_simp
    refine hK.out _ _ (HS2.out _ HG5.out) fun _ => ?_
    clear hK
    refine wpAnyH_done (by kernel_rfl) ?_ _
    have HN5 := Keep.mk (show Blk ((w4.setCell ⟨w2.heap.size, 0, none⟩ (.int .i64 why')).setCell ⟨w2.heap.size, 1, none⟩ (.int .i64 b')) w2.heap.size 56 #[.int .i64 why', .int .i64 b'] from (HN.out.set 0 _).set 1 _)
    clear n0 n1 m0 m1 HN HG5
    generalize (w4.setCell ⟨w2.heap.size, 0, none⟩ (.int .i64 why')).setCell ⟨w2.heap.size, 1, none⟩ (.int .i64 b') = w5 at *
    have n0 : w5.cell? ⟨w2.heap.size, 0, none⟩ = some (.int .i64 why') := by rw [HN5.out.cell]; rfl
    have n1 : w5.cell? ⟨w2.heap.size, 1, none⟩ = some (.int .i64 b') := by rw [HN5.out.cell]; rfl
    have HE3 := Keep.mk hE'
    clear hE' hHeld hHeld2 HQ HS2 HM2 HE c1 o2
    clear hHeld3 HM3
    obtain ⟨st, hst⟩ : ∃ st, Keep (st = strOfNums l) := ⟨_, ⟨rfl⟩⟩
    have hcv1 : (convert 36 9 va).run Try.prog w5 = .ok (.string st) w5 := by rw [hst.out]; exact conv_row _ l _ HO5.out.row
    have hcv2 : (convert 36 9 vr).run Try.prog w5 = .ok (.string st) w5 := by rw [hst.out]; exact conv_row _ l _ HW5.out
    clear HW5 n0 n1
    go_wp2_with fail
    refine (HM5.out.adds HO5.out (fun k hk => (HVF.out k hk).1) HLn.out).mono ?_
    intro e w6 hp
    have hN6 := hp.2.2.blk HN5.out (by
      obtain ⟨lv, gv, n, hh⟩ := HM5.out.hbk
      rintro (e | e | e)
      · exact blk_ne HN5.out hh (by decide) e
      · exact HFg.out e
      · exact HO5.out.ne HN5.out (by decide) e)
    obtain ⟨rfl, hM6⟩ := HM5.out.added HO5.out (fun k hk => (HVF.out k hk).2) hp
    have n0 : w6.cell? ⟨w2.heap.size, 0, none⟩ = some (.int .i64 why') := by rw [hN6.cell]; rfl
    have n1 : w6.cell? ⟨w2.heap.size, 1, none⟩ = some (.int .i64 b') := by rw [hN6.cell]; rfl
    have HM6 := Keep.mk hM6
    clear hM6 hp hN6 HN5 HM5 HO5 hcv1 hcv2 HVF HFg
    generalize (fun k => F k ∨ va.ownBlock = some k ∨ w5.heap.size ≤ k ∧ k < w6.heap.size) = F6 at *
    go_wp2_with fail
    refine (wrong_any HM6.out HE3.out Hk.out).mono ?_
    rintro e w7 ⟨rfl, hM7⟩
    have HM7 := Keep.mk hM7
    clear hM7
    go_wp2
    go_ret
    exact ⟨rfl, _, _, _, _, _, HE3.out, HM7.out⟩
end Go.Proofs.Ytanmbbckkfkhpaa
