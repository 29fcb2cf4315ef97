import Derived.Test.YtanmbbckkfkhpaaHdE
namespace Go.Proofs.Ytanmbbckkfkhpaa
open Go.RowKit


set_option maxRecDepth 4000 in
set_option maxHeartbeats 4000000 in
theorem step_hash (wB : World) (hb p x : Nat) (s : ByteArray) (vB : Value) (a : Nat) (why : Int) (bad : Option Nat) (b : Int) (F : Nat → Prop) (w : World) (h : Mid wB hb p x s vB a why bad a why b (errV bad) F w) (hE : ErrB why a b) (hR : RowAt wB vB (lst s)) (hs : s.size ≤ 140737488355328) (X : Nat) (N : Int) (V : Value) :
    Calls Try.prog 22 #[ptr hb, .agg #[.int .i64 6, .int .u64 (X : Int), .int .i64 N, V]] w (StepPost wB hb p x s vB) := by
  obtain ⟨c, a', why', hP, hQ⟩ := pair_hash p x s vB a why bad hs h.rd.le h.good
  have HP := Keep.mk hP
  have HQ := Keep.mk hQ
  have HE := Keep.mk hE
  have HR := Keep.mk hR
  have HM1 := Keep.mk (h.later (below_new w (.cells #[.int .i64 6, .int .u64 (X : Int), .int .i64 N, V] 43)))
  have HX1 := Keep.mk (Blk.new w 43 #[.int .i64 6, .int .u64 (X : Int), .int .i64 N, V])
  clear h hE hR hP hQ hs
  go_enter Try.func22, Try.ntmps22
  go_wp2_with (first | (refine wpList_boxA rfl 43 (.tmp 1) rfl _ rfl ?_; refine Hid.out ?_))
  refine hid_in ?_
  generalize w.alloc (.cells #[.int .i64 6, .int .u64 (X : Int), .int .i64 N, V] 43) = w1 at *
  have o0 : w1.cell? ⟨w.heap.size, 0, none⟩ = some (.int .i64 6) := by rw [HX1.out.cell]; rfl
  have c0 := HM1.out.c0
  obtain ⟨ca, hca⟩ : ∃ ca, Keep (ca = bytesA 32 c) := ⟨_, ⟨rfl⟩⟩
  have Heq := Keep.mk (run_eql_arr c)
  have HI84 : Keep ((Try.prog.info? 84).map (·.size) = some ca.size) := ⟨by rw [hca.out]; exact Try.size84B c⟩
  have HSz : Keep ((bytesA 32 fun _ => 0).size = ca.size) := ⟨by rw [hca.out]; exact bytesA_sizes _ _ _⟩
  have HOne : Keep (ca.all (·.oneCell') = true) := ⟨by rw [hca.out]; exact bytesA_one _ _⟩
  rw [← hca.out] at HP HQ Heq
  clear hca
  go_wp2_with fail
  refine (HP.out w1 HM1.out.rd).mono ?_
  rintro e w2 ⟨bad', rfl, hi, hg, he⟩
  have HM2 := Keep.mk (HM1.out.prog hi hg he)
  have Hk := Keep.mk he.keep
  clear hi hg he HM1 HX1 o0 c0 HP
  go_wp2_with (first | (refine wpList_new rfl 84 rfl _ Try.new84 ?_; refine Hid.out ?_))
  refine hid_in ?_
  have HN := Keep.mk (Blk.new w2 84 (bytesA 32 fun _ => 0))
  have HA := Keep.mk (below_new w2 (.cells (bytesA 32 fun _ => 0) 84))
  generalize w2.alloc (.cells (bytesA 32 fun _ => 0) 84) = w3 at *
  go_wp2_with (first | (refine wpList_store_row rfl 84 (.tmp 31) (.tmp 239) rfl w2.heap.size ca rfl rfl 84 (bytesA 32 fun _ => 0) HN.out HI84.out HSz.out HOne.out ?_; refine Hid.out ?_))
  refine hid_in ?_
  have HN4 := Keep.mk (HN.out.setRow ca)
  have HM4 := Keep.mk (HM2.out.later (below_setRow HA.out (Nat.le_refl _) ca))
  clear HN HA HM2
  generalize w3.setRow w2.heap.size ca = w4 at *
  have c1 := HM4.out.c1
  go_wp2_with fail
  refine (HQ.out w4 b HM4.out.rf HE.out (HM4.out.row HR.out)).mono ?_
  rintro e w5 ⟨b', hE', rfl, hr, hg⟩
  have HM5 := Keep.mk (HM4.out.ref hr hg)
  have HN5 := Keep.mk (hg.blk HN4.out fun e => blk_ne HN4.out HM4.out.rf (by decide) e)
  have HE3 := Keep.mk hE'
  clear hr hg hE' HM4 HN4 HQ HE c1
  go_wp2_with (first | (refine wpList_new rfl 84 rfl _ Try.new84 ?_; refine Hid.out ?_))
  refine hid_in ?_
  have HP6 := Keep.mk (Blk.new w5 84 (bytesA 32 fun _ => 0))
  have HA := Keep.mk (below_new w5 (.cells (bytesA 32 fun _ => 0) 84))
  have hl6 : w2.heap.size < w5.heap.size := HN5.out.lt
  generalize w5.alloc (.cells (bytesA 32 fun _ => 0) 84) = w6 at *
  go_wp2_with (first | (refine wpList_new rfl 56 rfl _ Try.new56 ?_; refine Hid.out ?_))
  refine hid_in ?_
  have HB7 := Keep.mk (Blk.new w6 56 #[.int .i64 0, .int .i64 0])
  have HA7 := Keep.mk (below_new w6 (.cells #[.int .i64 0, .int .i64 0] 56))
  have HP7 := Keep.mk (HP6.out.below HA7.out HP6.out.lt)
  have hl7 : w5.heap.size < w6.heap.size := HP6.out.lt
  generalize w6.alloc (.cells #[.int .i64 0, .int .i64 0] 56) = w7 at *
  go_wp2_with (first | (refine wpList_store_row rfl 84 (.tmp 33) (.tmp 247) rfl w5.heap.size ca rfl rfl 84 (bytesA 32 fun _ => 0) HP7.out HI84.out HSz.out HOne.out ?_; refine Hid.out ?_))
  refine hid_in ?_
  have HP8 := Keep.mk (HP7.out.setRow ca)
  have HB8 := Keep.mk (HB7.out.setRow_ne (b' := w5.heap.size) (by omega) ca)
  have HA8 := Keep.mk (below_setRow (HA.out.trans (HA7.out.mono HA.out.size)) (Nat.le_refl _) ca)
  clear HP7 HB7 HP6 HA7
  generalize w7.setRow w5.heap.size ca = w8 at *
  have n0 : w8.cell? ⟨w6.heap.size, 0, none⟩ = some (.int .i64 0) := by rw [HB8.out.cell]; rfl
  have n1 : w8.cell? ⟨w6.heap.size, 1, none⟩ = some (.int .i64 0) := by rw [HB8.out.cell]; rfl
  have m0 := HB8.out.frozen 0
  have m1 := HB8.out.frozen 1
  have HN8 := Keep.mk (HN5.out.below HA8.out HN5.out.lt)
  have HN9 := Keep.mk ((HN8.out.set_ne (b' := w6.heap.size) (j := 0) (by omega) (.int .i64 why')).set_ne (b' := w6.heap.size) (j := 1) (by omega) (.int .i64 b'))
  have HP9 := Keep.mk ((HP8.out.set_ne (b' := w6.heap.size) (j := 0) (by omega) (.int .i64 why')).set_ne (b' := w6.heap.size) (j := 1) (by omega) (.int .i64 b'))
  have HM9 := Keep.mk (HM5.out.later (below_two HA8.out (g := w6.heap.size) (by omega) (.int .i64 why') (.int .i64 b')))
  have heq := Heq.out
  clear HN8 HP8 HA8 HB8 HM5 HN5 HA hl6 hl7
  go_wp2_with (first | (refine wpList_load_row rfl 84 (.tmp 31) rfl w2.heap.size rfl 84 ca (0, 0) (.array 32 5) HN9.out Try.underlying84 rfl HI84.out ?_) | (refine wpList_load_row rfl 84 (.tmp 33) rfl w5.heap.size rfl 84 ca (0, 0) (.array 32 5) HP9.out Try.underlying84 rfl HI84.out ?_))
  refine (wrong_any HM9.out HE3.out Hk.out).mono ?_
  rintro e w10 ⟨rfl, hM10⟩
  have HM10 := Keep.mk hM10
  clear hM10 HN9 HP9 HM9 heq n0 n1 m0 m1
  go_wp2
  go_ret
  exact ⟨rfl, _, _, _, _, _, HE3.out, HM10.out⟩

set_option maxRecDepth 4000 in
set_option maxHeartbeats 4000000 in
theorem step_end (wB : World) (hb p x : Nat) (s : ByteArray) (vB : Value) (a : Nat) (why : Int) (bad : Option Nat) (b : Int) (F : Nat → Prop) (w : World) (h : Mid wB hb p x s vB a why bad a why b (errV bad) F w) (hE : ErrB why a b) (hR : RowAt wB vB (lst s)) (hs : s.size ≤ 140737488355328) (Kd : Int) (X : Nat) (N : Int) (V : Value) (k0 : (Kd == 0) = false) (k1 : (Kd == 1) = false) (k2 : (Kd == 2) = false) (k3 : (Kd == 3) = false) (k4 : (Kd == 4) = false) (k5 : (Kd == 5) = false) (k6 : (Kd == 6) = false) :
    Calls Try.prog 22 #[ptr hb, .agg #[.int .i64 Kd, .int .u64 (X : Int), .int .i64 N, V]] w (StepPost wB hb p x s vB) := by
  obtain ⟨why', hP, hQ⟩ := pair_end p x s vB a why bad hs h.rd.le h.good
  have HP := Keep.mk hP
  have HQ := Keep.mk hQ
  have HE := Keep.mk hE
  have HR := Keep.mk hR
  have HM1 := Keep.mk (h.later (below_new w (.cells #[.int .i64 Kd, .int .u64 (X : Int), .int .i64 N, V] 43)))
  have HX1 := Keep.mk (Blk.new w 43 #[.int .i64 Kd, .int .u64 (X : Int), .int .i64 N, V])
  clear h hE hR hP hQ hs
  go_enter Try.func22, Try.ntmps22
  go_wp2_with (first | (refine wpList_boxA rfl 43 (.tmp 1) rfl _ rfl ?_; refine Hid.out ?_))
  refine hid_in ?_
  generalize w.alloc (.cells #[.int .i64 Kd, .int .u64 (X : Int), .int .i64 N, V] 43) = w1 at *
  have o0 : w1.cell? ⟨w.heap.size, 0, none⟩ = some (.int .i64 Kd) := by rw [HX1.out.cell]; rfl
  have c0 := HM1.out.c0
  have HM0 := Keep.mk HM1.out.drew
  clear HX1
  go_wp2_with fail
  refine wp_region_held_drew (S := fun wx => wx.cell? ⟨hb, 0, none⟩ = some (ptr p) ∧ wx.cell? ⟨hb, 1, none⟩ = some (ptr x)) (by kernel_rfl) ⟨HM0.out.c0, HM0.out.c1⟩ (fun hHeld => ?_)
  generalize w1.drew = w2 at *
  refine wpAnyH_take (i := 0) (oi := ⟨some 258, Op.move (Operand.tmp 0), 51, _, _, none⟩) (v := ptr hb) rfl (by kernel_rfl) (by kernel_rfl) (by kernel_rfl) (fun _ _ _ h => h) (Or.inl ⟨by rfl, fun w hS => by go_simp⟩) hHeld ?_
  simp only [Act.put, List.setIfInBounds_toArray, List.set_cons_zero, List.set_cons_succ]
  refine wpAnyH_take (i := 1) (oi := ⟨some 259, Op.move (Operand.tmp 0), 51, _, _, none⟩) (v := ptr hb) rfl (by kernel_rfl) (by kernel_rfl) (by kernel_rfl) (fun _ _ _ h => h) (Or.inl ⟨by rfl, fun w hS => by go_simp⟩) hHeld ?_
  simp only [Act.put, List.setIfInBounds_toArray, List.set_cons_zero, List.set_cons_succ]
  refine wpAnyH_take (i := 2) (oi := ⟨some 260, Op.nilCheck (Operand.tmp 259), 0, _, _, none⟩) (v := ptr hb) rfl (by kernel_rfl) (by kernel_rfl) (by kernel_rfl) (fun _ _ _ h => h) (Or.inl ⟨by rfl, fun w hS => by go_simp⟩) hHeld ?_
  simp only [Act.put, List.setIfInBounds_toArray, List.set_cons_zero, List.set_cons_succ]
  refine wpAnyH_take (i := 3) (oi := ⟨some 261, Op.fieldAddr 60 (Operand.tmp 260) 0, 0, _, _, none⟩) (v := ptr hb) rfl (by kernel_rfl) (by kernel_rfl) (by kernel_rfl) (fun _ _ _ h => h) (Or.inl ⟨by rfl, fun w hS => by go_simp⟩) hHeld ?_
  simp only [Act.put, List.setIfInBounds_toArray, List.set_cons_zero, List.set_cons_succ]
  refine wpAnyH_take (i := 4) (oi := ⟨some 262, Op.load 52 (Operand.tmp 261), 52, _, _, none⟩) (v := ptr p) rfl (by kernel_rfl) (by kernel_rfl) (by kernel_rfl) (fun _ _ _ h => h) (Or.inl ⟨by rfl, fun w hS => by (have hcx := hS.1; clear hS; go_simp)⟩) hHeld ?_
  simp only [Act.put, List.setIfInBounds_toArray, List.set_cons_zero, List.set_cons_succ]
  refine wpAnyH_take (i := 6) (oi := ⟨some 264, Op.move (Operand.tmp 0), 51, _, _, none⟩) (v := ptr hb) rfl (by kernel_rfl) (by kernel_rfl) (by kernel_rfl) (fun _ _ _ h => h) (Or.inl ⟨by rfl, fun w hS => by go_simp⟩) hHeld ?_
  simp only [Act.put, List.setIfInBounds_toArray, List.set_cons_zero, List.set_cons_succ]
  refine wpAnyH_take (i := 7) (oi := ⟨some 265, Op.nilCheck (Operand.tmp 264), 0, _, _, none⟩) (v := ptr hb) rfl (by kernel_rfl) (by kernel_rfl) (by kernel_rfl) (fun _ _ _ h => h) (Or.inl ⟨by rfl, fun w hS => by go_simp⟩) hHeld ?_
  simp only [Act.put, List.setIfInBounds_toArray, List.set_cons_zero, List.set_cons_succ]
  refine wpAnyH_take (i := 8) (oi := ⟨some 266, Op.fieldAddr 60 (Operand.tmp 265) 1, 0, _, _, none⟩) (v := .pointer (some ⟨hb, 1, none⟩)) rfl (by kernel_rfl) (by kernel_rfl) (by kernel_rfl) (fun _ _ _ h => h) (Or.inl ⟨by rfl, fun w hS => by go_simp⟩) hHeld ?_
  simp only [Act.put, List.setIfInBounds_toArray, List.set_cons_zero, List.set_cons_succ]
  refine wpAnyH_take (i := 9) (oi := ⟨some 267, Op.load 54 (Operand.tmp 266), 54, _, _, none⟩) (v := ptr x) rfl (by kernel_rfl) (by kernel_rfl) (by kernel_rfl) (fun _ _ _ h => h) (Or.inl ⟨by rfl, fun w hS => by (have hcx := hS.2; clear hS; go_simp)⟩) hHeld ?_
  simp only [Act.put, List.setIfInBounds_toArray, List.set_cons_zero, List.set_cons_succ]
  refine wpAnyH_ready (rs := [5]) (by kernel_rfl) (by simp) ?_
  refine AllReadyH.cons (o := ⟨some 263, Op.call { callee := Callee.value (Operand.func 28), args := #[Operand.tmp 262], argTypes := #[52] }, 27, _, _, none⟩) rfl (fun K hK => ?_) AllReadyH.nil
  rw [if_pos (by rfl)]
  refine wp_callF 28 _ _ rfl Try.enter28 #[ptr p] (by simp [Act.eval]) (fun vz wz => ∃ bad', vz = errV bad' ∧ InAt wz p s a bad' ∧ (Grown w2 wz fun k => k = p) ∧ ErrN w2 wz why a bad why' a bad') ?_ ?_
  · refine (HP.out w2 HM0.out.rd).mono ?_
    rintro e wz ⟨bad', rfl, h1, h2, h3⟩
    exact ⟨_, rfl, bad', rfl, h1, h2, h3⟩
  rintro vz w3 ⟨bad', rfl, h1, h2, h3⟩
  have HM3 := Keep.mk (HM0.out.prog h1 h2 h3)
  have Hk := Keep.mk h3.keep
  clear h1 h2 h3
  refine hK.out _ _ ⟨HM3.out.c0, HM3.out.c1⟩ fun hHeld2 => ?_
  clear hK
  simp only [Act.put, List.setIfInBounds_toArray, List.set_cons_zero, List.set_cons_succ]
  refine wpAnyH_ready (rs := [10]) (by kernel_rfl) (by simp) ?_
  refine AllReadyH.cons (o := ⟨some 268, Op.call { callee := Callee.value (Operand.func 59), args := #[Operand.tmp 267], argTypes := #[54] }, 56, _, _, none⟩) rfl (fun K hK => ?_) AllReadyH.nil
  rw [if_pos (by rfl)]
  refine wp_callF 59 _ _ rfl Try.enter59 #[ptr x] (by simp [Act.eval]) (fun vz wz => ∃ b', ErrB why' a b' ∧ vz = .agg #[.int .i64 why', .int .i64 b'] ∧ RfAt wz x vB a why' b' ∧ Grown w3 wz fun k => k = x) ?_ ?_
  · refine (HQ.out w3 b HM3.out.rf HE.out (HM3.out.row HR.out _ (Grown.refl _ _))).mono ?_
    rintro e wz ⟨b', h0, rfl, h1, h2⟩
    exact ⟨_, rfl, b', h0, rfl, h1, h2⟩
  rintro vz w4 ⟨b', h0, rfl, h1, h2⟩
  have HM4 := Keep.mk (HM3.out.ref h1 h2)
  have HE3 := Keep.mk h0
  clear h0 h1 h2
  refine hK.out _ _ ⟨HM4.out.c0, HM4.out.c1⟩ fun hHeld3 => ?_
  clear hK
  simp only [Act.put, List.setIfInBounds_toArray, List.set_cons_zero, List.set_cons_succ]
  refine wpAnyH_ready (rs := [11]) (by kernel_rfl) (by simp) ?_
  refine AllReadyH.cons (o := ⟨some 269, Op.call { callee := Callee.value (Operand.func 47), args := #[Operand.tmp 258, Operand.tmp 263, Operand.tmp 268], argTypes := #[51, 27, 56] }, 4, _, _, none⟩) rfl (fun K hK => ?_) AllReadyH.nil
  rw [if_pos (by rfl)]
  refine wp_callF 47 _ _ rfl Try.enter47 #[ptr hb, errV bad', .agg #[.int .i64 why', .int .i64 b']] (by simp [Act.eval]) (fun vz wz => vz = .bool true ∧ Mid wB hb p x s vB a why' bad' a why' b' (errV bad') F wz) ?_ ?_
  · refine (wrong_any HM4.out HE3.out Hk.out).mono ?_
    rintro e wz ⟨rfl, h1⟩
    exact ⟨_, rfl, rfl, h1⟩
  rintro vz w5 ⟨rfl, h1⟩
  have HM5 := Keep.mk h1
  clear h1
  refine hK.out _ _ ⟨HM5.out.c0, HM5.out.c1⟩ fun hHeld4 => ?_
  clear hK
  simp only [Act.put, List.setIfInBounds_toArray, List.set_cons_zero, List.set_cons_succ]
  refine wpAnyH_take (i := 12) (oi := ⟨some 4, Op.assign (Operand.tmp 269), 4, _, _, none⟩) (v := .bool true) rfl (by kernel_rfl) (by kernel_rfl) (by kernel_rfl) (fun _ _ _ h => h) (Or.inl ⟨by rfl, fun w hS => by go_simp⟩) hHeld4 ?_
  simp only [Act.put, List.setIfInBounds_toArray, List.set_cons_zero, List.set_cons_succ]
  refine wpAnyH_done (by kernel_rfl) ?_ _
  clear hHeld hHeld2 hHeld3 hHeld4
  go_wp2
  go_ret
  exact ⟨rfl, _, _, _, _, _, HE3.out, HM5.out⟩

theorem step_any (wB : World) (hb p x : Nat) (s : ByteArray) (vB : Value) (a : Nat) (why : Int) (bad : Option Nat) (b : Int) (F : Nat → Prop) (w : World) (h : Mid wB hb p x s vB a why bad a why b (errV bad) F w) (hE : ErrB why a b) (hR : RowAt wB vB (lst s)) (hs : s.size ≤ 140737488351232) (Kd : Int) (X : Nat) (N : Int) (V : Value) (hn1 : -9223372036854775808 ≤ N) (hn2 : N ≤ 9223372036854775807) :
    Calls Try.prog 22 #[ptr hb, .agg #[.int .i64 Kd, .int .u64 (X : Int), .int .i64 N, V]] w (StepPost wB hb p x s vB) := by
  have hs' : s.size ≤ 140737488355328 := by omega
  by_cases h0 : Kd = 0
  · subst h0; exact step_byte wB hb p x s vB a why bad b F w h hE hR hs' X N V
  by_cases h1 : Kd = 1
  · subst h1; exact step_num wB hb p x s vB a why bad b F w h hE hR hs' X N V
  by_cases h2 : Kd = 2
  · subst h2; exact step_signed wB hb p x s vB a why bad b F w h hE hR hs' X N V
  by_cases h3 : Kd = 3
  · subst h3; exact step_raw wB hb p x s vB a why bad b F w h hE hR hs X N V hn1 hn2
  by_cases h4 : Kd = 4
  · subst h4; exact step_bytes wB hb p x s vB a why bad b F w h hE hR hs X N V hn1 hn2
  by_cases h5 : Kd = 5
  · subst h5; exact step_text wB hb p x s vB a why bad b F w h hE hR hs' X N V hn1 hn2
  by_cases h6 : Kd = 6
  · subst h6; exact step_hash wB hb p x s vB a why bad b F w h hE hR hs' X N V
  exact step_end wB hb p x s vB a why bad b F w h hE hR hs' Kd X N V (by simpa using h0) (by simpa using h1) (by simpa using h2) (by simpa using h3) (by simpa using h4) (by simpa using h5) (by simpa using h6)
end Go.Proofs.Ytanmbbckkfkhpaa
