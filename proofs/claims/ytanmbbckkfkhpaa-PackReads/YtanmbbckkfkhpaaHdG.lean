import Derived.Test.YtanmbbckkfkhpaaHdF
namespace Go.Proofs.Ytanmbbckkfkhpaa
open Go.RowKit

theorem Try.enter18 (w : World) (vs : Array Value) : (callFunc 18 vs).run Try.prog w = .ok (.enter 18 vs) w := by kernel_rfl
/-- A block beside it is written. -/
theorem Mid.beside {wB : World} {hb p x : Nat} {s : ByteArray} {vB : Value} {aP : Nat} {whyP : Int} {badP : Option Nat} {aR : Nat} {whyR bR : Int} {first : Value} {F : Nat → Prop} {w w' : World} {g : Nat} {cs : Array Value} (h : Mid wB hb p x s vB aP whyP badP aR whyR bR first F w) (hk : Blk w g 5 cs) (hF : ¬ F g) (hB : wB.heap.size ≤ g) (hg : Grown w w' fun k => k = g) :
    Mid wB hb p x s vB aP whyP badP aR whyR bR first F w' where
  rd := ⟨hg.blk h.rd.blk (blk_ne h.rd.blk hk (by decide)), h.rd.le⟩
  rf := hg.blk h.rf (blk_ne h.rf hk (by decide))
  er := h.er.grown hg fun q _ hq hF => ⟨blk_ne hq hk (by decide), hF⟩
  bk := h.bk.grown hg (by obtain ⟨lv, gv, n, hh⟩ := h.hbk; exact blk_ne hh hk (by decide)) (fun k hk e => hF (e ▸ hk)) fun _ h => h
  sep k hk := by have := h.sep k hk; have := hg.size; exact ⟨by omega, by omega, by omega, by omega, by omega⟩
  lo := h.lo
  below := h.below.trans (hg.to_below (fun k hk e => by omega) h.below.size)
theorem mid_new (w w2 w3 w4 w5 : World) (s : ByteArray) (vB : Value) (hb : Below w.heap.size w w2) (h3 : w3 = w2.alloc (.cells #[.string s, .int .i64 0, .pointer none] 89)) (h4 : w4 = w3.alloc (.cells #[vB, .int .i64 0, .int .i64 0, .int .i64 0] 58))
    (h5 : w5 = w4.alloc (.cells #[ptr w2.heap.size, ptr w3.heap.size, .nilIface, .slice none 0 0, .slice none 0 0, .int .i64 0, .bool false] 60)) :
    Mid w w4.heap.size w2.heap.size w3.heap.size s vB 0 0 none 0 0 0 .nilIface (fun _ => False) w5 := by
  have s3 : w3.heap.size = w2.heap.size + 1 := by rw [h3]; simp
  have s4 : w4.heap.size = w3.heap.size + 1 := by rw [h4]; simp
  have b3 : Blk w5 w2.heap.size 89 #[.string s, .int .i64 0, .pointer none] := by rw [h5, h4, h3]; exact ((Blk.new _ _ _).alloc _).alloc _
  have b4 : Blk w5 w3.heap.size 58 #[vB, .int .i64 0, .int .i64 0, .int .i64 0] := by rw [h5, h4]; exact (Blk.new _ _ _).alloc _
  have b5 : Blk w5 w4.heap.size 60 #[ptr w2.heap.size, ptr w3.heap.size, .nilIface, .slice none 0 0, .slice none 0 0, .int .i64 0, .bool false] := by rw [h5]; exact Blk.new _ _ _
  have hl := hb.size
  have hbl : Below w.heap.size w w5 := by
    rw [h5, h4, h3]
    exact ((hb.alloc hl _).alloc (by simp; omega) _).alloc (by simp; omega) _
  exact ⟨⟨b3, Nat.zero_le _⟩, b4, .inl ⟨rfl, rfl⟩, ⟨.slice none 0 0, .slice none 0 0, 0, fun _ => .slice none 0 0, fun _ => .slice none 0 0, 0, b5, BkL.nil _ _ _ _, by omega, by omega, by omega⟩, fun k hk => hk.elim, ⟨by omega, by omega, by omega⟩, hbl⟩

set_option maxRecDepth 4000 in
set_option maxHeartbeats 4000000 in
theorem reads_any (vB v : Value) (l : List Int) (m : Nat) (Kd : Nat → Int) (X : Nat → Nat) (N : Nat → Int) (V : Nat → Value) (rows : Nat → List Int) (w : World) (hr : RowAt w vB l) (hby : Byts l) (hbl : l.length ≤ 140737488351232) (hS : ScriptAt w v m Kd X N V rows) (hm : m ≤ 4398046511104) :
    Calls Try.prog 5 #[vB, v] w fun e w' => e = .returned (.bool true) ∧ Below w.heap.size w w' := by
  have HR := Keep.mk hr
  have HSc := Keep.mk hS
  have HBl := Keep.mk hbl
  have Hls : Keep (lst (strOfNums l) = l) := ⟨lst_nums hby⟩
  obtain ⟨pa, pc, rfl⟩ := script_form hS
  obtain ⟨va, vc, rfl⟩ := row_form hr
  have hmi : (m : Int) ≤ 4398046511104 := by omega
  have hli : (l.length : Int) ≤ 140737488355328 := by omega
  obtain ⟨s, hs⟩ : ∃ s, Keep (s = strOfNums l) := ⟨_, ⟨rfl⟩⟩
  have Hsl : Keep (lst s = l) := ⟨by rw [hs.out]; exact Hls.out⟩
  have Hss : Keep (s.size = l.length) := ⟨by rw [← lst_len, Hsl.out]⟩
  clear hr hby hbl hS hm Hls
  go_enter Try.func5, Try.ntmps5
  go_wp2_with fail
  refine (awake_any w).mono ?_
  rintro e w1 ⟨rfl, hb1⟩
  have HB1 := Keep.mk hb1
  have HR1 := Keep.mk (HR.out.below hb1)
  clear hb1
  go_wp2_with fail
  refine (wide_any _ l w1 HR1.out (by have := HBl.out; omega)).mono ?_
  rintro e w2 ⟨ow, rfl, hw, ⟨kg, hkg, hkl⟩, hb2⟩
  have HW2 := Keep.mk hw
  have HB2 := Keep.mk (HB1.out.trans (hb2.mono HB1.out.size))
  obtain ⟨g, cap, rfl, _⟩ := hw.cap
  have Hgl : Keep (w.heap.size ≤ g) := ⟨by have h1 := HB1.out.size; simp [Value.ownBlock] at hkg; omega⟩
  clear hw hb2 hkg hkl HR1
  go_wp2_with fail
  refine (newIn_any _ l w2 HW2.out.row).mono ?_
  rintro e w3 ⟨rfl, hw3⟩
  rw [← hs.out] at hw3
  have Hw3 := Keep.mk hw3
  clear hw3
  go_wp2_with (first | (refine wpList_boxA rfl 58 (.tmp 17) rfl _ rfl ?_; refine Hid.out ?_))
  refine hid_in ?_
  obtain ⟨w4, hw4⟩ : ∃ w4, Keep (w4 = w3.alloc (.cells #[.slice va l.length vc, .int .i64 0, .int .i64 0, .int .i64 0] 58)) := ⟨_, ⟨rfl⟩⟩
  rw [← hw4.out]
  go_wp2_with (first | (refine wpList_boxA rfl 60 (.tmp 19) rfl _ rfl ?_; refine Hid.out ?_))
  refine hid_in ?_
  obtain ⟨w5, hw5⟩ : ∃ w5, Keep (w5 = w4.alloc (.cells #[ptr w2.heap.size, ptr w3.heap.size, .nilIface, .slice none 0 0, .slice none 0 0, .int .i64 0, .bool false] 60)) := ⟨_, ⟨rfl⟩⟩
  rw [← hw5.out]
  have HM5 := Keep.mk (mid_new w w2 w3 w4 w5 s (.slice va l.length vc) HB2.out Hw3.out hw4.out hw5.out)
  have HW5 : Keep (WideAt w5 (.slice (some ⟨g, 0, none⟩) l.length cap) l) := ⟨HW2.out.grown (S := fun _ => False) (by rw [hw5.out, hw4.out, Hw3.out]; exact ((Grown.alloc _ _ _).trans (Grown.alloc _ _ _)).trans (Grown.alloc _ _ _)) fun _ _ h => h⟩
  obtain ⟨p, hp⟩ : ∃ p, Keep (p = w2.heap.size) := ⟨_, ⟨rfl⟩⟩
  obtain ⟨x, hx⟩ : ∃ x, Keep (x = w3.heap.size) := ⟨_, ⟨rfl⟩⟩
  obtain ⟨hb, hhb⟩ : ∃ hb, Keep (hb = w4.heap.size) := ⟨_, ⟨rfl⟩⟩
  rw [← hp.out, ← hx.out, ← hhb.out] at HM5
  rw [← hhb.out]
  clear hw5 hw4 Hw3 HW2 hp hx hhb HB2 HB1
  have c0 := HM5.out.c0
  go_wp2_with fail
  refine (kept_any _ _ l w5 HW5.out (HR.out.below HM5.out.below) (by have := HBl.out; omega)).mono ?_
  rintro e w6 ⟨rfl, hw6⟩
  rw [hw6]
  clear hw6 c0
  have hBy := HW5.out.bytes
  clear HW5
  go_wp2
  go_loopw [34] (fun i wr => ∃ t : Nat, t ≤ l.length ∧ i = .int .i64 t ∧ BytesIn wr g l.length ∧ Mid w hb p x s (.slice va l.length vc) 0 0 none 0 0 0 .nilIface (fun _ => False) wr) (fun i _ => l.length - (intOf i).toNat)
  case atStart => exact ⟨0, by omega, rfl, hBy, HM5.out⟩
  case round =>
    clear hBy HM5
    obtain ⟨t, ht, rfl, hBy, hM⟩ := hrel
    by_cases hlt : t < l.length
    · have hlt' : (t : Int) < (l.length : Int) := by omega
      obtain ⟨z, hz1, hz2⟩ := hBy.at hlt
      have HBy := Keep.mk (hBy.set (t := t) (bits .xor .u8 z 255))
      obtain ⟨cur, hcur, _⟩ := hBy
      have HM := Keep.mk (hM.beside hcur (fun h => h) Hgl.out (Grown.setCell wr g t (.int .u8 (bits .xor .u8 z 255)) (S := fun k => k = g) fun _ => rfl))
      clear hcur hM
      go_wp2
      go_roundw
      case rel => exact ⟨t + 1, by omega, by go_num, HBy.out, HM.out⟩
      case measure => simp only [intOf]; omega
    · obtain rfl : t = l.length := by omega
      have hlt' : ¬ ((l.length : Int) < (l.length : Int)) := by omega
      have HM0 := Keep.mk hM
      clear hBy hM hlt ht
      go_wp2
      go_loopw [46] (fun i wr => ∃ (t a : Nat) (why : Int) (bad : Option Nat) (b : Int) (F : Nat → Prop), t ≤ m ∧ i = .int .i64 (t : Int) ∧ ErrB why a b ∧ Mid w hb p x s (.slice va l.length vc) a why bad a why b (errV bad) F wr) (fun i _ => m - (intOf i).toNat)
      case atStart => exact ⟨0, 0, 0, none, 0, _, by omega, rfl, .inl ⟨rfl, rfl⟩, HM0.out⟩
      case round =>
        clear HM0
        obtain ⟨t, a, why, bad, b, F, ht, rfl, hE, hM⟩ := hrel
        by_cases hlt : t < m
        · have hlt' : (t : Int) < (m : Int) := by omega
          obtain ⟨q, o, rfl, hrg⟩ := HSc.out.at hlt
          have hrg2 := rangeAt_below hrg hM.below
          obtain ⟨ya, yc, hv⟩ := row_form (HSc.out.row t hlt)
          have c0 := hrg2 0 _ rfl
          have c1 := hrg2 1 _ rfl
          have c2 := hrg2 2 _ rfl
          have c3 := hrg2 3 _ rfl
          simp only [Nat.add_zero] at c0
          rw [hv] at c3
          have HNn := Keep.mk (HSc.out.nn t hlt)
          have HE := Keep.mk hE
          have HM := Keep.mk hM
          clear hrg hrg2 hM hE
          go_wp2_with fail
          have hbx := Blk.new wr 43 #[.int .i64 (Kd t), .int .u64 (X t : Int), .int .i64 (N t), .slice ya (rows t).length yc]
          have HM7 := Keep.mk (HM.out.later (below_new wr (.cells #[.int .i64 (Kd t), .int .u64 (X t : Int), .int .i64 (N t), .slice ya (rows t).length yc] 43)))
          generalize wr.alloc (.cells #[.int .i64 (Kd t), .int .u64 (X t : Int), .int .i64 (N t), .slice ya (rows t).length yc] 43) = w7 at *
          have b0 : w7.cell? ⟨wr.heap.size, 0, none⟩ = some (.int .i64 (Kd t)) := by rw [hbx.cell]; rfl
          have b1 : w7.cell? ⟨wr.heap.size, 1, none⟩ = some (.int .u64 (X t : Int)) := by rw [hbx.cell]; rfl
          have b2 : w7.cell? ⟨wr.heap.size, 2, none⟩ = some (.int .i64 (N t)) := by rw [hbx.cell]; rfl
          have b3 : w7.cell? ⟨wr.heap.size, 3, none⟩ = some (.slice ya (rows t).length yc) := by rw [hbx.cell]; rfl
          have HM8 := Keep.mk HM7.out.drew
          have HRs : Keep (RowAt w (.slice va l.length vc) (lst s)) := ⟨by rw [Hsl.out]; exact HR.out⟩
          have Hs2 : Keep (s.size ≤ 140737488351232) := ⟨by rw [Hss.out]; exact HBl.out⟩
          clear c0 c1 c2 c3 hbx HM HM7 hv
          refine wp_region_held_drew (S := fun wx => wx.cell? ⟨hb, 0, none⟩ = some (ptr p) ∧ wx.cell? ⟨hb, 1, none⟩ = some (ptr x)) (by kernel_rfl) ⟨HM8.out.c0, HM8.out.c1⟩ (fun hHeld => ?_)
          refine wpAnyH_take (i := 0) (oi := ⟨some 50, Op.move (Operand.tmp 6), 51, _, _, none⟩) (v := ptr hb) rfl (by kernel_rfl) (by kernel_rfl) (by kernel_rfl) (fun _ _ _ h => h) (Or.inl ⟨by rfl, fun w hS => by go_simp⟩) hHeld ?_
          simp only [Act.put, List.setIfInBounds_toArray, List.set_cons_zero, List.set_cons_succ]
          refine wpAnyH_ready (rs := [1]) (by kernel_rfl) (by simp) ?_
          refine AllReadyH.cons (o := ⟨some 51, Op.load 43 (Operand.tmp 9), 43, _, _, none⟩) rfl (fun K hK => ?_) AllReadyH.nil
          rw [if_pos (by rfl)]
          refine wp_val (.agg #[.int .i64 (Kd t), .int .u64 (X t : Int), .int .i64 (N t), .slice ya (rows t).length yc]) (by go_simp) ?_
          refine hK.out _ _ ⟨HM8.out.c0, HM8.out.c1⟩ fun hHeld1 => ?_
          clear hK b0 b1 b2 b3
          simp only [Act.put, List.setIfInBounds_toArray, List.set_cons_zero, List.set_cons_succ]
          refine wpAnyH_ready (rs := [2]) (by kernel_rfl) (by simp) ?_
          refine AllReadyH.cons (o := ⟨some 52, Op.call { callee := Callee.value (Operand.func 22), args := #[Operand.tmp 50, Operand.tmp 51], argTypes := #[51, 43] }, 4, _, _, none⟩) rfl (fun K hK => ?_) AllReadyH.nil
          rw [if_pos (by rfl)]
          refine wp_callF 22 _ _ rfl Try.enter22 #[ptr hb, .agg #[.int .i64 (Kd t), .int .u64 (X t : Int), .int .i64 (N t), .slice ya (rows t).length yc]] (by simp [Act.eval]) (fun vz wz => StepPost w hb p x s (.slice va l.length vc) (.returned vz) wz) ?_ ?_
          · refine (step_any w hb p x s (.slice va l.length vc) a why bad b F w7.drew HM8.out HE.out HRs.out Hs2.out (Kd t) (X t) (N t) (.slice ya (rows t).length yc) HNn.out.1 HNn.out.2).mono ?_
            intro e wz hp
            obtain ⟨rfl, hp2⟩ := hp
            exact ⟨_, rfl, rfl, hp2⟩
          rintro vz w8 ⟨he0, a', why', bad', b', F', hE', hM'⟩
          injection he0 with he0
          subst he0
          have HM9 := Keep.mk hM'
          have HE9 := Keep.mk hE'
          clear hM' hE' HM8 HE HNn HRs
          refine hK.out _ _ ⟨HM9.out.c0, HM9.out.c1⟩ fun hHeld2 => ?_
          clear hK
          simp only [Act.put, List.setIfInBounds_toArray, List.set_cons_zero, List.set_cons_succ]
          refine wpAnyH_take (i := 3) (oi := ⟨some 53, Op.unOp UnOp.not 4 (Operand.tmp 52), 4, _, _, none⟩) (v := .bool false) rfl (by kernel_rfl) (by kernel_rfl) (by kernel_rfl) (fun _ _ _ h => h) (Or.inl ⟨by rfl, fun w hS => by go_simp⟩) hHeld2 ?_
          simp only [Act.put, List.setIfInBounds_toArray, List.set_cons_zero, List.set_cons_succ]
          refine wpAnyH_take (i := 4) (oi := ⟨some 54, Op.move (Operand.tmp 53), 4, _, _, none⟩) (v := .bool false) rfl (by kernel_rfl) (by kernel_rfl) (by kernel_rfl) (fun _ _ _ h => h) (Or.inl ⟨by rfl, fun w hS => by go_simp⟩) hHeld2 ?_
          simp only [Act.put, List.setIfInBounds_toArray, List.set_cons_zero, List.set_cons_succ]
          refine wpAnyH_take (i := 5) (oi := ⟨some 55, Op.move (Operand.tmp 6), 51, _, _, some (4, false)⟩) (v := ptr hb) rfl (by kernel_rfl) (by kernel_rfl) (by kernel_rfl) (fun _ _ _ h => h) (Or.inl ⟨by rfl, fun w hS => by go_simp⟩) hHeld2 ?_
          simp only [Act.put, List.setIfInBounds_toArray, List.set_cons_zero, List.set_cons_succ]
          refine wpAnyH_take (i := 6) (oi := ⟨some 56, Op.nilCheck (Operand.tmp 55), 0, _, _, some (4, false)⟩) (v := ptr hb) rfl (by kernel_rfl) (by kernel_rfl) (by kernel_rfl) (fun _ _ _ h => h) (Or.inl ⟨by rfl, fun w hS => by go_simp⟩) hHeld2 ?_
          simp only [Act.put, List.setIfInBounds_toArray, List.set_cons_zero, List.set_cons_succ]
          refine wpAnyH_take (i := 7) (oi := ⟨some 57, Op.fieldAddr 60 (Operand.tmp 56) 0, 0, _, _, some (4, false)⟩) (v := ptr hb) rfl (by kernel_rfl) (by kernel_rfl) (by kernel_rfl) (fun _ _ _ h => h) (Or.inl ⟨by rfl, fun w hS => by go_simp⟩) hHeld2 ?_
          simp only [Act.put, List.setIfInBounds_toArray, List.set_cons_zero, List.set_cons_succ]
          refine wpAnyH_take (i := 8) (oi := ⟨some 58, Op.load 52 (Operand.tmp 57), 52, _, _, some (4, false)⟩) (v := ptr p) rfl (by kernel_rfl) (by kernel_rfl) (by kernel_rfl) (fun _ _ _ h => h) (Or.inl ⟨by rfl, fun w hS => by (have hcx := hS.1; clear hS; go_simp)⟩) hHeld2 ?_
          simp only [Act.put, List.setIfInBounds_toArray, List.set_cons_zero, List.set_cons_succ]
          refine wpAnyH_take (i := 10) (oi := ⟨some 60, Op.move (Operand.tmp 6), 51, _, _, some (4, false)⟩) (v := ptr hb) rfl (by kernel_rfl) (by kernel_rfl) (by kernel_rfl) (fun _ _ _ h => h) (Or.inl ⟨by rfl, fun w hS => by go_simp⟩) hHeld2 ?_
          simp only [Act.put, List.setIfInBounds_toArray, List.set_cons_zero, List.set_cons_succ]
          refine wpAnyH_take (i := 11) (oi := ⟨some 61, Op.nilCheck (Operand.tmp 60), 0, _, _, some (4, false)⟩) (v := ptr hb) rfl (by kernel_rfl) (by kernel_rfl) (by kernel_rfl) (fun _ _ _ h => h) (Or.inl ⟨by rfl, fun w hS => by go_simp⟩) hHeld2 ?_
          simp only [Act.put, List.setIfInBounds_toArray, List.set_cons_zero, List.set_cons_succ]
          refine wpAnyH_take (i := 12) (oi := ⟨some 62, Op.fieldAddr 60 (Operand.tmp 61) 1, 0, _, _, some (4, false)⟩) (v := .pointer (some ⟨hb, 1, none⟩)) rfl (by kernel_rfl) (by kernel_rfl) (by kernel_rfl) (fun _ _ _ h => h) (Or.inl ⟨by rfl, fun w hS => by go_simp⟩) hHeld2 ?_
          simp only [Act.put, List.setIfInBounds_toArray, List.set_cons_zero, List.set_cons_succ]
          refine wpAnyH_take (i := 13) (oi := ⟨some 63, Op.load 54 (Operand.tmp 62), 54, _, _, some (4, false)⟩) (v := ptr x) rfl (by kernel_rfl) (by kernel_rfl) (by kernel_rfl) (fun _ _ _ h => h) (Or.inl ⟨by rfl, fun w hS => by (have hcx := hS.2; clear hS; go_simp)⟩) hHeld2 ?_
          simp only [Act.put, List.setIfInBounds_toArray, List.set_cons_zero, List.set_cons_succ]
          refine wpAnyH_take (i := 14) (oi := ⟨some 64, Op.nilCheck (Operand.tmp 63), 0, _, _, some (4, false)⟩) (v := ptr x) rfl (by kernel_rfl) (by kernel_rfl) (by kernel_rfl) (fun _ _ _ h => h) (Or.inl ⟨by rfl, fun w hS => by go_simp⟩) hHeld2 ?_
          simp only [Act.put, List.setIfInBounds_toArray, List.set_cons_zero, List.set_cons_succ]
          refine wpAnyH_take (i := 15) (oi := ⟨some 65, Op.fieldAddr 58 (Operand.tmp 64) 1, 0, _, _, some (4, false)⟩) (v := .pointer (some ⟨x, 1, none⟩)) rfl (by kernel_rfl) (by kernel_rfl) (by kernel_rfl) (fun _ _ _ h => h) (Or.inl ⟨by rfl, fun w hS => by go_simp⟩) hHeld2 ?_
          simp only [Act.put, List.setIfInBounds_toArray, List.set_cons_zero, List.set_cons_succ]
          have hx1 : w8.cell? ⟨x, 1, none⟩ = some (.int .i64 (a' : Int)) := HM9.out.rf.c1
          obtain ⟨z, hz⟩ : ∃ z, Keep (z = (l.length : Int) - (a' : Int)) := ⟨_, ⟨rfl⟩⟩
          have Hal : Keep (a' ≤ l.length) := ⟨by rw [← Hss.out]; exact HM9.out.rd.le⟩
          refine wpAnyH_ready (rs := [9, 16]) (by kernel_rfl) (by simp) ?_
          refine AllReadyH.cons (o := ⟨some 59, Op.call { callee := Callee.value (Operand.func 23), args := #[Operand.tmp 58], argTypes := #[52] }, 3, _, _, some (4, false)⟩) rfl (fun K hK => ?_) (AllReadyH.cons (o := ⟨some 66, Op.load 3 (Operand.tmp 65), 3, _, _, some (4, false)⟩) rfl (fun K hK => ?_) AllReadyH.nil)
          all_goals rw [if_pos (by rfl)]
          · refine wp_callF 23 _ _ rfl Try.enter23 #[ptr p] (by simp [Act.eval]) (fun vz wz => vz = .int .i64 (a' : Int) ∧ wz = w8) ?_ ?_
            · refine (iat_any p s a' bad' w8 HM9.out.rd).mono ?_
              rintro e wz ⟨rfl, hz⟩
              exact ⟨_, rfl, rfl, hz⟩
            rintro vz w9 ⟨rfl, hwk⟩
            rw [hwk]
            clear hwk
            refine hK.out _ _ ⟨HM9.out.c0, HM9.out.c1⟩ fun hHeld3 => ?_
            clear hK
            simp only [Act.put, List.setIfInBounds_toArray, List.set_cons_zero, List.set_cons_succ]
            refine wpAnyH_ready (rs := [16]) (by kernel_rfl) (by simp) ?_
            refine AllReadyH.cons (o := ⟨some 66, Op.load 3 (Operand.tmp 65), 3, _, _, some (4, false)⟩) rfl (fun K hK => ?_) AllReadyH.nil
            rw [if_pos (by rfl)]
            refine wp_val (.int .i64 (a' : Int)) (by go_simp) ?_
            refine hK.out _ _ ⟨HM9.out.c0, HM9.out.c1⟩ fun hHeld4 => ?_
            clear hK
            simp only [Act.put, List.setIfInBounds_toArray, List.set_cons_zero, List.set_cons_succ]
            clear hx1
            refine wpAnyH_take (i := 17) (oi := ⟨some 67, Op.binOp BinOp.neq 3 (Operand.tmp 59) (Operand.tmp 66) 3, 4, _, _, some (4, false)⟩) (v := .bool false) rfl (by kernel_rfl) (by kernel_rfl) (by kernel_rfl) (fun _ _ _ h => h) (Or.inl ⟨by rfl, fun w hS => by go_simp⟩) hHeld4 ?_
            simp only [Act.put, List.setIfInBounds_toArray, List.set_cons_zero, List.set_cons_succ]
            refine wpAnyH_take (i := 18) (oi := ⟨some 68, Op.pick (Operand.tmp 54) (Operand.const (Value.bool true)) (Operand.tmp 67), 4, _, _, none⟩) (v := .bool false) rfl (by kernel_rfl) (by kernel_rfl) (by kernel_rfl) (fun _ _ _ h => h) (Or.inl ⟨by rfl, fun w hS => by go_simp⟩) hHeld4 ?_
            simp only [Act.put, List.setIfInBounds_toArray, List.set_cons_zero, List.set_cons_succ]
            refine wpAnyH_take (i := 19) (oi := ⟨some 69, Op.move (Operand.tmp 68), 4, _, _, none⟩) (v := .bool false) rfl (by kernel_rfl) (by kernel_rfl) (by kernel_rfl) (fun _ _ _ h => h) (Or.inl ⟨by rfl, fun w hS => by go_simp⟩) hHeld4 ?_
            simp only [Act.put, List.setIfInBounds_toArray, List.set_cons_zero, List.set_cons_succ]
            refine wpAnyH_take (i := 20) (oi := ⟨some 70, Op.move (Operand.tmp 6), 51, _, _, some (19, false)⟩) (v := ptr hb) rfl (by kernel_rfl) (by kernel_rfl) (by kernel_rfl) (fun _ _ _ h => h) (Or.inl ⟨by rfl, fun w hS => by go_simp⟩) hHeld4 ?_
            simp only [Act.put, List.setIfInBounds_toArray, List.set_cons_zero, List.set_cons_succ]
            refine wpAnyH_take (i := 21) (oi := ⟨some 71, Op.nilCheck (Operand.tmp 70), 0, _, _, some (19, false)⟩) (v := ptr hb) rfl (by kernel_rfl) (by kernel_rfl) (by kernel_rfl) (fun _ _ _ h => h) (Or.inl ⟨by rfl, fun w hS => by go_simp⟩) hHeld4 ?_
            simp only [Act.put, List.setIfInBounds_toArray, List.set_cons_zero, List.set_cons_succ]
            refine wpAnyH_take (i := 22) (oi := ⟨some 72, Op.fieldAddr 60 (Operand.tmp 71) 0, 0, _, _, some (19, false)⟩) (v := ptr hb) rfl (by kernel_rfl) (by kernel_rfl) (by kernel_rfl) (fun _ _ _ h => h) (Or.inl ⟨by rfl, fun w hS => by go_simp⟩) hHeld4 ?_
            simp only [Act.put, List.setIfInBounds_toArray, List.set_cons_zero, List.set_cons_succ]
            refine wpAnyH_take (i := 23) (oi := ⟨some 73, Op.load 52 (Operand.tmp 72), 52, _, _, some (19, false)⟩) (v := ptr p) rfl (by kernel_rfl) (by kernel_rfl) (by kernel_rfl) (fun _ _ _ h => h) (Or.inl ⟨by rfl, fun w hS => by (have hcx := hS.1; clear hS; go_simp)⟩) hHeld4 ?_
            simp only [Act.put, List.setIfInBounds_toArray, List.set_cons_zero, List.set_cons_succ]
            refine wpAnyH_take (i := 25) (oi := ⟨some 75, Op.move (Operand.tmp 6), 51, _, _, some (19, false)⟩) (v := ptr hb) rfl (by kernel_rfl) (by kernel_rfl) (by kernel_rfl) (fun _ _ _ h => h) (Or.inl ⟨by rfl, fun w hS => by go_simp⟩) hHeld4 ?_
            simp only [Act.put, List.setIfInBounds_toArray, List.set_cons_zero, List.set_cons_succ]
            refine wpAnyH_take (i := 26) (oi := ⟨some 76, Op.nilCheck (Operand.tmp 75), 0, _, _, some (19, false)⟩) (v := ptr hb) rfl (by kernel_rfl) (by kernel_rfl) (by kernel_rfl) (fun _ _ _ h => h) (Or.inl ⟨by rfl, fun w hS => by go_simp⟩) hHeld4 ?_
            simp only [Act.put, List.setIfInBounds_toArray, List.set_cons_zero, List.set_cons_succ]
            refine wpAnyH_take (i := 27) (oi := ⟨some 77, Op.fieldAddr 60 (Operand.tmp 76) 1, 0, _, _, some (19, false)⟩) (v := .pointer (some ⟨hb, 1, none⟩)) rfl (by kernel_rfl) (by kernel_rfl) (by kernel_rfl) (fun _ _ _ h => h) (Or.inl ⟨by rfl, fun w hS => by go_simp⟩) hHeld4 ?_
            simp only [Act.put, List.setIfInBounds_toArray, List.set_cons_zero, List.set_cons_succ]
            refine wpAnyH_take (i := 28) (oi := ⟨some 78, Op.load 54 (Operand.tmp 77), 54, _, _, some (19, false)⟩) (v := ptr x) rfl (by kernel_rfl) (by kernel_rfl) (by kernel_rfl) (fun _ _ _ h => h) (Or.inl ⟨by rfl, fun w hS => by (have hcx := hS.2; clear hS; go_simp)⟩) hHeld4 ?_
            simp only [Act.put, List.setIfInBounds_toArray, List.set_cons_zero, List.set_cons_succ]
            refine wpAnyH_ready (rs := [24]) (by kernel_rfl) (by simp) ?_
            refine AllReadyH.cons (o := ⟨some 74, Op.call { callee := Callee.value (Operand.func 24), args := #[Operand.tmp 73], argTypes := #[52] }, 3, _, _, some (19, false)⟩) rfl (fun K hK => ?_) AllReadyH.nil
            rw [if_pos (by rfl)]
            refine wp_callF 24 _ _ rfl Try.enter24 #[ptr p] (by simp [Act.eval]) (fun vz wz => vz = .int .i64 z ∧ ∃ n, wz = w8.drewN n) ?_ ?_
            · refine (ileft_any p s a' bad' w8 HM9.out.rd (by have := Hs2.out; omega)).mono ?_
              rintro e wz ⟨rfl, n, hn⟩
              exact ⟨_, rfl, by rw [hz.out, Hss.out], n, hn⟩
            rintro vz w9 ⟨rfl, nq, hw9⟩
            have HM10 : Keep (Mid w hb p x s (.slice va l.length vc) a' why' bad' a' why' b' (errV bad') F' w9) := ⟨by rw [hw9]; exact HM9.out.drewN nq⟩
            clear hw9
            refine hK.out _ _ ⟨HM10.out.c0, HM10.out.c1⟩ fun hHeld5 => ?_
            clear hK
            simp only [Act.put, List.setIfInBounds_toArray, List.set_cons_zero, List.set_cons_succ]
            refine wpAnyH_ready (rs := [29]) (by kernel_rfl) (by simp) ?_
            refine AllReadyH.cons (o := ⟨some 79, Op.call { callee := Callee.value (Operand.func 25), args := #[Operand.tmp 78], argTypes := #[54] }, 3, _, _, some (19, false)⟩) rfl (fun K hK => ?_) AllReadyH.nil
            rw [if_pos (by rfl)]
            refine wp_callF 25 _ _ rfl Try.enter25 #[ptr x] (by simp [Act.eval]) (fun vz wz => vz = .int .i64 z ∧ ∃ n, wz = w9.drewN n) ?_ ?_
            · refine (xleft_any x va l.length vc a' why' b' w9 HM10.out.rf Hal.out (by have := HBl.out; omega)).mono ?_
              rintro e wz ⟨rfl, n, hn⟩
              exact ⟨_, rfl, by rw [hz.out], n, hn⟩
            rintro vz w10 ⟨rfl, nq, hw10⟩
            have HM11 : Keep (Mid w hb p x s (.slice va l.length vc) a' why' bad' a' why' b' (errV bad') F' w10) := ⟨by rw [hw10]; exact HM10.out.drewN nq⟩
            clear hw10
            refine hK.out _ _ ⟨HM11.out.c0, HM11.out.c1⟩ fun hHeld6 => ?_
            clear hK
            simp only [Act.put, List.setIfInBounds_toArray, List.set_cons_zero, List.set_cons_succ]
            refine wpAnyH_take (i := 30) (oi := ⟨some 80, Op.binOp BinOp.neq 3 (Operand.tmp 74) (Operand.tmp 79) 3, 4, _, _, some (19, false)⟩) (v := .bool false) rfl (by kernel_rfl) (by kernel_rfl) (by kernel_rfl) (fun _ _ _ h => h) (Or.inl ⟨by rfl, fun w hS => by go_simp⟩) hHeld6 ?_
            simp only [Act.put, List.setIfInBounds_toArray, List.set_cons_zero, List.set_cons_succ]
            refine wpAnyH_take (i := 31) (oi := ⟨some 81, Op.pick (Operand.tmp 69) (Operand.const (Value.bool true)) (Operand.tmp 80), 4, _, _, none⟩) (v := .bool false) rfl (by kernel_rfl) (by kernel_rfl) (by kernel_rfl) (fun _ _ _ h => h) (Or.inl ⟨by rfl, fun w hS => by go_simp⟩) hHeld6 ?_
            simp only [Act.put, List.setIfInBounds_toArray, List.set_cons_zero, List.set_cons_succ]
            refine wpAnyH_take (i := 32) (oi := ⟨some 82, Op.move (Operand.tmp 81), 4, _, _, none⟩) (v := .bool false) rfl (by kernel_rfl) (by kernel_rfl) (by kernel_rfl) (fun _ _ _ h => h) (Or.inl ⟨by rfl, fun w hS => by go_simp⟩) hHeld6 ?_
            simp only [Act.put, List.setIfInBounds_toArray, List.set_cons_zero, List.set_cons_succ]
            refine wpAnyH_take (i := 33) (oi := ⟨some 83, Op.move (Operand.tmp 6), 51, _, _, some (32, false)⟩) (v := ptr hb) rfl (by kernel_rfl) (by kernel_rfl) (by kernel_rfl) (fun _ _ _ h => h) (Or.inl ⟨by rfl, fun w hS => by go_simp⟩) hHeld6 ?_
            simp only [Act.put, List.setIfInBounds_toArray, List.set_cons_zero, List.set_cons_succ]
            refine wpAnyH_take (i := 34) (oi := ⟨some 84, Op.nilCheck (Operand.tmp 83), 0, _, _, some (32, false)⟩) (v := ptr hb) rfl (by kernel_rfl) (by kernel_rfl) (by kernel_rfl) (fun _ _ _ h => h) (Or.inl ⟨by rfl, fun w hS => by go_simp⟩) hHeld6 ?_
            simp only [Act.put, List.setIfInBounds_toArray, List.set_cons_zero, List.set_cons_succ]
            refine wpAnyH_take (i := 35) (oi := ⟨some 85, Op.fieldAddr 60 (Operand.tmp 84) 3, 0, _, _, some (32, false)⟩) (v := .pointer (some ⟨hb, 3, none⟩)) rfl (by kernel_rfl) (by kernel_rfl) (by kernel_rfl) (fun _ _ _ h => h) (Or.inl ⟨by rfl, fun w hS => by go_simp⟩) hHeld6 ?_
            simp only [Act.put, List.setIfInBounds_toArray, List.set_cons_zero, List.set_cons_succ]
            refine wpAnyH_ready (rs := [36]) (by kernel_rfl) (by simp) ?_
            refine AllReadyH.cons (o := ⟨some 86, Op.call { callee := Callee.value (Operand.func 18), args := #[Operand.tmp 85], argTypes := #[40] }, 4, _, _, some (32, false)⟩) rfl (fun K hK => ?_) AllReadyH.nil
            rw [if_pos (by rfl)]
            refine wp_callF 18 _ _ rfl Try.enter18 #[.pointer (some ⟨hb, 3, none⟩)] (by simp [Act.eval]) (fun vz wz => vz = .bool true ∧ wz = w10) ?_ ?_
            · refine HM11.out.stays.mono ?_
              rintro e wz ⟨rfl, hz⟩
              exact ⟨_, rfl, rfl, hz⟩
            rintro vz w11 ⟨rfl, hwk⟩
            rw [hwk]
            clear hwk
            refine hK.out _ _ ⟨HM11.out.c0, HM11.out.c1⟩ fun hHeld7 => ?_
            clear hK
            simp only [Act.put, List.setIfInBounds_toArray, List.set_cons_zero, List.set_cons_succ]
            refine wpAnyH_take (i := 37) (oi := ⟨some 87, Op.unOp UnOp.not 4 (Operand.tmp 86), 4, _, _, some (32, false)⟩) (v := .bool false) rfl (by kernel_rfl) (by kernel_rfl) (by kernel_rfl) (fun _ _ _ h => h) (Or.inl ⟨by rfl, fun w hS => by go_simp⟩) hHeld7 ?_
            simp only [Act.put, List.setIfInBounds_toArray, List.set_cons_zero, List.set_cons_succ]
            refine wpAnyH_take (i := 38) (oi := ⟨some 88, Op.pick (Operand.tmp 82) (Operand.const (Value.bool true)) (Operand.tmp 87), 4, _, _, none⟩) (v := .bool false) rfl (by kernel_rfl) (by kernel_rfl) (by kernel_rfl) (fun _ _ _ h => h) (Or.inl ⟨by rfl, fun w hS => by go_simp⟩) hHeld7 ?_
            simp only [Act.put, List.setIfInBounds_toArray, List.set_cons_zero, List.set_cons_succ]
            refine wpAnyH_done (by kernel_rfl) ?_ _
            clear hHeld hHeld1 hHeld2 hHeld3 hHeld4 hHeld5 hHeld6 hHeld7 HM9 HM10
            go_wp2
            go_roundw
            case rel => exact ⟨t + 1, a', why', bad', b', F', by omega, by go_num, HE9.out, HM11.out⟩
            case measure => simp only [intOf]; omega
          · refine wp_val (.int .i64 (a' : Int)) (by go_simp) ?_
            refine hK.out _ _ ⟨HM9.out.c0, HM9.out.c1⟩ fun hHeld3 => ?_
            clear hK
            simp only [Act.put, List.setIfInBounds_toArray, List.set_cons_zero, List.set_cons_succ]
            refine wpAnyH_ready (rs := [9]) (by kernel_rfl) (by simp) ?_
            refine AllReadyH.cons (o := ⟨some 59, Op.call { callee := Callee.value (Operand.func 23), args := #[Operand.tmp 58], argTypes := #[52] }, 3, _, _, some (4, false)⟩) rfl (fun K hK => ?_) AllReadyH.nil
            rw [if_pos (by rfl)]
            refine wp_callF 23 _ _ rfl Try.enter23 #[ptr p] (by simp [Act.eval]) (fun vz wz => vz = .int .i64 (a' : Int) ∧ wz = w8) ?_ ?_
            · refine (iat_any p s a' bad' w8 HM9.out.rd).mono ?_
              rintro e wz ⟨rfl, hz⟩
              exact ⟨_, rfl, rfl, hz⟩
            rintro vz w9 ⟨rfl, hwk⟩
            rw [hwk]
            clear hwk
            refine hK.out _ _ ⟨HM9.out.c0, HM9.out.c1⟩ fun hHeld4 => ?_
            clear hK
            simp only [Act.put, List.setIfInBounds_toArray, List.set_cons_zero, List.set_cons_succ]
            clear hx1
            refine wpAnyH_take (i := 17) (oi := ⟨some 67, Op.binOp BinOp.neq 3 (Operand.tmp 59) (Operand.tmp 66) 3, 4, _, _, some (4, false)⟩) (v := .bool false) rfl (by kernel_rfl) (by kernel_rfl) (by kernel_rfl) (fun _ _ _ h => h) (Or.inl ⟨by rfl, fun w hS => by go_simp⟩) hHeld4 ?_
            simp only [Act.put, List.setIfInBounds_toArray, List.set_cons_zero, List.set_cons_succ]
            refine wpAnyH_take (i := 18) (oi := ⟨some 68, Op.pick (Operand.tmp 54) (Operand.const (Value.bool true)) (Operand.tmp 67), 4, _, _, none⟩) (v := .bool false) rfl (by kernel_rfl) (by kernel_rfl) (by kernel_rfl) (fun _ _ _ h => h) (Or.inl ⟨by rfl, fun w hS => by go_simp⟩) hHeld4 ?_
            simp only [Act.put, List.setIfInBounds_toArray, List.set_cons_zero, List.set_cons_succ]
            refine wpAnyH_take (i := 19) (oi := ⟨some 69, Op.move (Operand.tmp 68), 4, _, _, none⟩) (v := .bool false) rfl (by kernel_rfl) (by kernel_rfl) (by kernel_rfl) (fun _ _ _ h => h) (Or.inl ⟨by rfl, fun w hS => by go_simp⟩) hHeld4 ?_
            simp only [Act.put, List.setIfInBounds_toArray, List.set_cons_zero, List.set_cons_succ]
            refine wpAnyH_take (i := 20) (oi := ⟨some 70, Op.move (Operand.tmp 6), 51, _, _, some (19, false)⟩) (v := ptr hb) rfl (by kernel_rfl) (by kernel_rfl) (by kernel_rfl) (fun _ _ _ h => h) (Or.inl ⟨by rfl, fun w hS => by go_simp⟩) hHeld4 ?_
            simp only [Act.put, List.setIfInBounds_toArray, List.set_cons_zero, List.set_cons_succ]
            refine wpAnyH_take (i := 21) (oi := ⟨some 71, Op.nilCheck (Operand.tmp 70), 0, _, _, some (19, false)⟩) (v := ptr hb) rfl (by kernel_rfl) (by kernel_rfl) (by kernel_rfl) (fun _ _ _ h => h) (Or.inl ⟨by rfl, fun w hS => by go_simp⟩) hHeld4 ?_
            simp only [Act.put, List.setIfInBounds_toArray, List.set_cons_zero, List.set_cons_succ]
            refine wpAnyH_take (i := 22) (oi := ⟨some 72, Op.fieldAddr 60 (Operand.tmp 71) 0, 0, _, _, some (19, false)⟩) (v := ptr hb) rfl (by kernel_rfl) (by kernel_rfl) (by kernel_rfl) (fun _ _ _ h => h) (Or.inl ⟨by rfl, fun w hS => by go_simp⟩) hHeld4 ?_
            simp only [Act.put, List.setIfInBounds_toArray, List.set_cons_zero, List.set_cons_succ]
            refine wpAnyH_take (i := 23) (oi := ⟨some 73, Op.load 52 (Operand.tmp 72), 52, _, _, some (19, false)⟩) (v := ptr p) rfl (by kernel_rfl) (by kernel_rfl) (by kernel_rfl) (fun _ _ _ h => h) (Or.inl ⟨by rfl, fun w hS => by (have hcx := hS.1; clear hS; go_simp)⟩) hHeld4 ?_
            simp only [Act.put, List.setIfInBounds_toArray, List.set_cons_zero, List.set_cons_succ]
            refine wpAnyH_take (i := 25) (oi := ⟨some 75, Op.move (Operand.tmp 6), 51, _, _, some (19, false)⟩) (v := ptr hb) rfl (by kernel_rfl) (by kernel_rfl) (by kernel_rfl) (fun _ _ _ h => h) (Or.inl ⟨by rfl, fun w hS => by go_simp⟩) hHeld4 ?_
            simp only [Act.put, List.setIfInBounds_toArray, List.set_cons_zero, List.set_cons_succ]
            refine wpAnyH_take (i := 26) (oi := ⟨some 76, Op.nilCheck (Operand.tmp 75), 0, _, _, some (19, false)⟩) (v := ptr hb) rfl (by kernel_rfl) (by kernel_rfl) (by kernel_rfl) (fun _ _ _ h => h) (Or.inl ⟨by rfl, fun w hS => by go_simp⟩) hHeld4 ?_
            simp only [Act.put, List.setIfInBounds_toArray, List.set_cons_zero, List.set_cons_succ]
            refine wpAnyH_take (i := 27) (oi := ⟨some 77, Op.fieldAddr 60 (Operand.tmp 76) 1, 0, _, _, some (19, false)⟩) (v := .pointer (some ⟨hb, 1, none⟩)) rfl (by kernel_rfl) (by kernel_rfl) (by kernel_rfl) (fun _ _ _ h => h) (Or.inl ⟨by rfl, fun w hS => by go_simp⟩) hHeld4 ?_
            simp only [Act.put, List.setIfInBounds_toArray, List.set_cons_zero, List.set_cons_succ]
            refine wpAnyH_take (i := 28) (oi := ⟨some 78, Op.load 54 (Operand.tmp 77), 54, _, _, some (19, false)⟩) (v := ptr x) rfl (by kernel_rfl) (by kernel_rfl) (by kernel_rfl) (fun _ _ _ h => h) (Or.inl ⟨by rfl, fun w hS => by (have hcx := hS.2; clear hS; go_simp)⟩) hHeld4 ?_
            simp only [Act.put, List.setIfInBounds_toArray, List.set_cons_zero, List.set_cons_succ]
            refine wpAnyH_ready (rs := [24]) (by kernel_rfl) (by simp) ?_
            refine AllReadyH.cons (o := ⟨some 74, Op.call { callee := Callee.value (Operand.func 24), args := #[Operand.tmp 73], argTypes := #[52] }, 3, _, _, some (19, false)⟩) rfl (fun K hK => ?_) AllReadyH.nil
            rw [if_pos (by rfl)]
            refine wp_callF 24 _ _ rfl Try.enter24 #[ptr p] (by simp [Act.eval]) (fun vz wz => vz = .int .i64 z ∧ ∃ n, wz = w8.drewN n) ?_ ?_
            · refine (ileft_any p s a' bad' w8 HM9.out.rd (by have := Hs2.out; omega)).mono ?_
              rintro e wz ⟨rfl, n, hn⟩
              exact ⟨_, rfl, by rw [hz.out, Hss.out], n, hn⟩
            rintro vz w9 ⟨rfl, nq, hw9⟩
            have HM10 : Keep (Mid w hb p x s (.slice va l.length vc) a' why' bad' a' why' b' (errV bad') F' w9) := ⟨by rw [hw9]; exact HM9.out.drewN nq⟩
            clear hw9
            refine hK.out _ _ ⟨HM10.out.c0, HM10.out.c1⟩ fun hHeld5 => ?_
            clear hK
            simp only [Act.put, List.setIfInBounds_toArray, List.set_cons_zero, List.set_cons_succ]
            refine wpAnyH_ready (rs := [29]) (by kernel_rfl) (by simp) ?_
            refine AllReadyH.cons (o := ⟨some 79, Op.call { callee := Callee.value (Operand.func 25), args := #[Operand.tmp 78], argTypes := #[54] }, 3, _, _, some (19, false)⟩) rfl (fun K hK => ?_) AllReadyH.nil
            rw [if_pos (by rfl)]
            refine wp_callF 25 _ _ rfl Try.enter25 #[ptr x] (by simp [Act.eval]) (fun vz wz => vz = .int .i64 z ∧ ∃ n, wz = w9.drewN n) ?_ ?_
            · refine (xleft_any x va l.length vc a' why' b' w9 HM10.out.rf Hal.out (by have := HBl.out; omega)).mono ?_
              rintro e wz ⟨rfl, n, hn⟩
              exact ⟨_, rfl, by rw [hz.out], n, hn⟩
            rintro vz w10 ⟨rfl, nq, hw10⟩
            have HM11 : Keep (Mid w hb p x s (.slice va l.length vc) a' why' bad' a' why' b' (errV bad') F' w10) := ⟨by rw [hw10]; exact HM10.out.drewN nq⟩
            clear hw10
            refine hK.out _ _ ⟨HM11.out.c0, HM11.out.c1⟩ fun hHeld6 => ?_
            clear hK
            simp only [Act.put, List.setIfInBounds_toArray, List.set_cons_zero, List.set_cons_succ]
            refine wpAnyH_take (i := 30) (oi := ⟨some 80, Op.binOp BinOp.neq 3 (Operand.tmp 74) (Operand.tmp 79) 3, 4, _, _, some (19, false)⟩) (v := .bool false) rfl (by kernel_rfl) (by kernel_rfl) (by kernel_rfl) (fun _ _ _ h => h) (Or.inl ⟨by rfl, fun w hS => by go_simp⟩) hHeld6 ?_
            simp only [Act.put, List.setIfInBounds_toArray, List.set_cons_zero, List.set_cons_succ]
            refine wpAnyH_take (i := 31) (oi := ⟨some 81, Op.pick (Operand.tmp 69) (Operand.const (Value.bool true)) (Operand.tmp 80), 4, _, _, none⟩) (v := .bool false) rfl (by kernel_rfl) (by kernel_rfl) (by kernel_rfl) (fun _ _ _ h => h) (Or.inl ⟨by rfl, fun w hS => by go_simp⟩) hHeld6 ?_
            simp only [Act.put, List.setIfInBounds_toArray, List.set_cons_zero, List.set_cons_succ]
            refine wpAnyH_take (i := 32) (oi := ⟨some 82, Op.move (Operand.tmp 81), 4, _, _, none⟩) (v := .bool false) rfl (by kernel_rfl) (by kernel_rfl) (by kernel_rfl) (fun _ _ _ h => h) (Or.inl ⟨by rfl, fun w hS => by go_simp⟩) hHeld6 ?_
            simp only [Act.put, List.setIfInBounds_toArray, List.set_cons_zero, List.set_cons_succ]
            refine wpAnyH_take (i := 33) (oi := ⟨some 83, Op.move (Operand.tmp 6), 51, _, _, some (32, false)⟩) (v := ptr hb) rfl (by kernel_rfl) (by kernel_rfl) (by kernel_rfl) (fun _ _ _ h => h) (Or.inl ⟨by rfl, fun w hS => by go_simp⟩) hHeld6 ?_
            simp only [Act.put, List.setIfInBounds_toArray, List.set_cons_zero, List.set_cons_succ]
            refine wpAnyH_take (i := 34) (oi := ⟨some 84, Op.nilCheck (Operand.tmp 83), 0, _, _, some (32, false)⟩) (v := ptr hb) rfl (by kernel_rfl) (by kernel_rfl) (by kernel_rfl) (fun _ _ _ h => h) (Or.inl ⟨by rfl, fun w hS => by go_simp⟩) hHeld6 ?_
            simp only [Act.put, List.setIfInBounds_toArray, List.set_cons_zero, List.set_cons_succ]
            refine wpAnyH_take (i := 35) (oi := ⟨some 85, Op.fieldAddr 60 (Operand.tmp 84) 3, 0, _, _, some (32, false)⟩) (v := .pointer (some ⟨hb, 3, none⟩)) rfl (by kernel_rfl) (by kernel_rfl) (by kernel_rfl) (fun _ _ _ h => h) (Or.inl ⟨by rfl, fun w hS => by go_simp⟩) hHeld6 ?_
            simp only [Act.put, List.setIfInBounds_toArray, List.set_cons_zero, List.set_cons_succ]
            refine wpAnyH_ready (rs := [36]) (by kernel_rfl) (by simp) ?_
            refine AllReadyH.cons (o := ⟨some 86, Op.call { callee := Callee.value (Operand.func 18), args := #[Operand.tmp 85], argTypes := #[40] }, 4, _, _, some (32, false)⟩) rfl (fun K hK => ?_) AllReadyH.nil
            rw [if_pos (by rfl)]
            refine wp_callF 18 _ _ rfl Try.enter18 #[.pointer (some ⟨hb, 3, none⟩)] (by simp [Act.eval]) (fun vz wz => vz = .bool true ∧ wz = w10) ?_ ?_
            · refine HM11.out.stays.mono ?_
              rintro e wz ⟨rfl, hz⟩
              exact ⟨_, rfl, rfl, hz⟩
            rintro vz w11 ⟨rfl, hwk⟩
            rw [hwk]
            clear hwk
            refine hK.out _ _ ⟨HM11.out.c0, HM11.out.c1⟩ fun hHeld7 => ?_
            clear hK
            simp only [Act.put, List.setIfInBounds_toArray, List.set_cons_zero, List.set_cons_succ]
            refine wpAnyH_take (i := 37) (oi := ⟨some 87, Op.unOp UnOp.not 4 (Operand.tmp 86), 4, _, _, some (32, false)⟩) (v := .bool false) rfl (by kernel_rfl) (by kernel_rfl) (by kernel_rfl) (fun _ _ _ h => h) (Or.inl ⟨by rfl, fun w hS => by go_simp⟩) hHeld7 ?_
            simp only [Act.put, List.setIfInBounds_toArray, List.set_cons_zero, List.set_cons_succ]
            refine wpAnyH_take (i := 38) (oi := ⟨some 88, Op.pick (Operand.tmp 82) (Operand.const (Value.bool true)) (Operand.tmp 87), 4, _, _, none⟩) (v := .bool false) rfl (by kernel_rfl) (by kernel_rfl) (by kernel_rfl) (fun _ _ _ h => h) (Or.inl ⟨by rfl, fun w hS => by go_simp⟩) hHeld7 ?_
            simp only [Act.put, List.setIfInBounds_toArray, List.set_cons_zero, List.set_cons_succ]
            refine wpAnyH_done (by kernel_rfl) ?_ _
            clear hHeld hHeld1 hHeld2 hHeld3 hHeld4 hHeld5 hHeld6 hHeld7 HM9 HM10
            go_wp2
            go_roundw
            case rel => exact ⟨t + 1, a', why', bad', b', F', by omega, by go_num, HE9.out, HM11.out⟩
            case measure => simp only [intOf]; omega
        · obtain rfl : t = m := by omega
          have hlt' : ¬ ((t : Int) < (t : Int)) := by omega
          have HBz := Keep.mk hM.below
          clear hM hE
          go_wp2
          go_ret
          exact ⟨rfl, HBz.out⟩
end Go.Proofs.Ytanmbbckkfkhpaa
