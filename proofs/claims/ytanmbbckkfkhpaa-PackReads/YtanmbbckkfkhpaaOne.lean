import Derived.Test.YtanmbbckkfkhpaaAgain
namespace Go.Proofs.Ytanmbbckkfkhpaa
open Go.RowKit

theorem wp_val {P : Program} {Q : Exit → Act → World → Prop} {o : Oper} {a : Act} {w : World} {K : Act → World → Prop} (v : Value) (hrun : (execOp a.eval o).run P w = .ok (.value v) w) (h : K (a.put o.dst v) w) : o.wp P a w K Q := by
  unfold Oper.wp
  rw [hrun]
  exact h
theorem Try.enter15 (w : World) (vs : Array Value) : (callFunc 15 vs).run Try.prog w = .ok (.enter 15 vs) w := by kernel_rfl
theorem Try.enter23 (w : World) (vs : Array Value) : (callFunc 23 vs).run Try.prog w = .ok (.enter 23 vs) w := by kernel_rfl
theorem Try.elem36 : Try.prog.elem 36 = 5 := by kernel_rfl
theorem Try.sizeOf5 (w : World) : (sizeOf 5).run Try.prog w = .ok 1 w := by kernel_rfl
theorem yieldsIf_slice {P : Program} {ops : Array Oper} {S : World → Prop} {op : Oper} {a : Act} (hw : Region.wanted op (yielded ops a.tmps) = true) (t : TypeId) (x hi : Operand) (ho : op.op = .slice t x none (some hi) none)
    (vx vh vs : Value) (hx : a.eval x = vx) (hh : a.eval hi = vh) (hr : ∀ w : World, (Instr.sliceAt t vx none (some vh) none).run P w = .ok vs w) : YieldsIf P ops S op vs a :=
  .inl ⟨hw, fun w _ => by
    unfold execOp
    simp only [ho, hx, hh, Option.map_some, Option.map_none, Sem.run_bind, hr w, Result.andThen_ok, Sem.run_pure]⟩
theorem sl_run (base : Option Addr) (n cap a : Nat) (ha : a ≤ cap) (wx : World) : (Instr.sliceAt 36 (.slice base n cap) none (some (.int .i64 (a : Int))) none).run Try.prog wx = .ok (.slice base a cap) wx := by
  have hu : Try.prog.underlying 36 = some (.slice (Try.prog.elem 36)) := by rw [Try.elem36]; exact Try.underlying36
  have h1 := run_slice_h (P := Try.prog) (w := wx) 36 base n cap hu .i64 (a : Int) (by omega) (by omega)
  have h2 := run_sliceAt_slice (P := Try.prog) (w := wx) 36 (.slice base n cap) none (some (.int .i64 (a : Int))) none hu
  rw [Try.elem36] at h1
  have h3 : sliced base 0 (a : Int).toNat cap 1 = .slice base a cap := by
    have h4 : (if cap = 0 then base else base.map (·.add (0 * 1))) = base := by
      split
      · rfl
      · cases base <;> rfl
    unfold sliced
    rw [h4, Int.toNat_natCast, Nat.sub_zero, Nat.sub_zero]
  rw [h2, h1]
  refine (congrArg (fun z => Result.andThen z fun s w => Result.ok (sliced base 0 (a : Int).toNat cap s) w) (Try.sizeOf5 wx)).trans ?_
  show Result.ok (sliced base 0 (a : Int).toNat cap 1) wx = _
  rw [h3]
/-- The head of a row. -/
theorem sub_any (vb : Value) (lb : List Int) (w : World) (hr : RowAt w vb lb) (a : Nat) (ha : a ≤ lb.length) :
    ∃ vs, (∀ wx : World, (Instr.sliceAt 36 vb none (some (.int .i64 (a : Int))) none).run Try.prog wx = .ok vs wx) ∧ ∀ wx, RowAt wx vb lb → RowAt wx vs (lb.take a) := by
  rcases hr with ⟨rfl, rfl⟩ | ⟨ad, c, rfl, rfl⟩ | ⟨h, off, cap, rfl, hc, _⟩
  · obtain rfl : a = 0 := by simpa using ha
    exact ⟨_, sl_run none 0 0 0 (by omega), fun wx h => by simpa using h⟩
  · obtain rfl : a = 0 := by simpa using ha
    exact ⟨_, sl_run (some ad) 0 c 0 (by omega), fun wx h => by simpa using h⟩
  · refine ⟨_, sl_run (some ⟨h, off, none⟩) lb.length cap a (by omega), fun wx hx => ?_⟩
    rcases hx with ⟨e, _⟩ | ⟨ad, c, e, rfl⟩ | ⟨h', off', cap', e, _, h3⟩
    · cases e
    · obtain rfl : a = 0 := by simpa using ha
      exact .inr (.inl ⟨_, _, rfl, by simp⟩)
    · injection e with e1 e2 e3
      injection e1 with e1
      injection e1 with e1 e4
      subst e1 e3 e4
      have hl : (lb.take a).length = a := by rw [List.length_take]; omega
      refine .inr (.inr ⟨h, off, cap, by rw [hl], by omega, fun i hi => ?_⟩)
      rw [hl] at hi
      rw [h3 i (by omega)]
      simp [List.getD_eq_getElem?_getD, hi]
/-- Numbers in a slice. -/
structure IntsAt (w : World) (v : Value) (m : Nat) (K : Nat → Int) : Prop where
  form : (∃ a c, v = .slice a 0 c ∧ m = 0) ∨ ∃ q o cap, v = .slice (some ⟨q, o, none⟩) m cap ∧ ∀ i, i < m → w.cell? ⟨q, o + i, none⟩ = some (.int .i64 (K i))
theorem IntsAt.sl {w : World} {v : Value} {m : Nat} {K : Nat → Int} (h : IntsAt w v m K) : ∃ a c, v = .slice a m c := by
  rcases h.form with ⟨a, c, rfl, rfl⟩ | ⟨q, o, cap, rfl, _⟩
  · exact ⟨_, _, rfl⟩
  · exact ⟨_, _, rfl⟩
theorem IntsAt.at {w : World} {a : Option Addr} {m c : Nat} {K : Nat → Int} (h : IntsAt w (.slice a m c) m K) {t : Nat} (ht : t < m) : ∃ q o, a = some ⟨q, o, none⟩ ∧ w.cell? ⟨q, o + t, none⟩ = some (.int .i64 (K t)) := by
  rcases h.form with ⟨_, _, _, h2⟩ | ⟨q, o, cap, h1, h2⟩
  · omega
  · injection h1 with h1 h3 h4
    exact ⟨q, o, h1, h2 t ht⟩

set_option maxRecDepth 4000 in
set_option maxHeartbeats 4000000 in
theorem one_any (vb vk : Value) (lb : List Int) (m : Nat) (K : Nat → Int) (w : World) (hr : RowAt w vb lb) (hby : Byts lb) (hlb : lb.length ≤ 140737488351232) (hk : IntsAt w vk m K) (hm : (m : Int) ≤ 17592186044416) :
    Calls Try.prog 7 #[vb, vk] w fun e w' => e = .returned (.bool true) ∧ Below w.heap.size w w' := by
  have HR := Keep.mk hr
  have HBy := Keep.mk hby
  have Hlb := Keep.mk hlb
  have HK := Keep.mk hk
  obtain ⟨ka, kc, rfl⟩ := hk.sl
  obtain ⟨va, vc, hvb⟩ := row_form hr
  obtain ⟨s, hs⟩ : ∃ s, Keep (s = strOfNums lb) := ⟨_, ⟨rfl⟩⟩
  have HL : Keep (lst s = lb) := ⟨by rw [hs.out]; exact lst_nums hby⟩
  have HZ : Keep (s.size = lb.length) := ⟨by rw [← lst_len, HL.out]⟩
  have hlbi : (lb.length : Int) ≤ 140737488351232 := by omega
  subst hvb
  clear hr hk hby hlb
  go_enter Try.func7, Try.ntmps7
  go_wp2_with fail
  refine (awake_any w).mono ?_
  rintro e w1 ⟨rfl, hb1⟩
  have HB1 := Keep.mk hb1
  have HR1 := Keep.mk (HR.out.below hb1)
  clear hb1
  go_wp2_with fail
  refine (newIn_any _ lb w1 HR1.out).mono ?_
  rintro e w2 ⟨rfl, hw2⟩
  have HI2 : Keep (InAt w2 w1.heap.size s 0 none) := ⟨by rw [hw2, hs.out]; exact inAt_new _ _⟩
  have hb2 : Below w1.heap.size w1 w2 := by rw [hw2]; exact below_new _ _
  have HB2 := Keep.mk hb2
  clear hw2 hb2
  go_wp2_with fail
  refine (newOut_any w2).mono ?_
  rintro e w3 ⟨rfl, hw3⟩
  have hb3 : Below w2.heap.size w2 w3 := by rw [hw3]; exact below_new _ _
  have HO3 : Keep (OwnOut w1 w2.heap.size (.slice none 0 0) (lb.take 0) w3) := ⟨by
    refine ⟨by rw [hw3]; exact outAt_new w2, fun k hf => ?_, HB2.out.trans (hb3.mono HB2.out.size)⟩
    rcases hf with hf | hf
    · rw [hf]; exact HB2.out.size
    · simp [Value.ownBlock] at hf⟩
  have HI3 : Keep (InAt w3 w1.heap.size s 0 none) := ⟨⟨HI2.out.blk.below hb3 HI2.out.blk.lt, HI2.out.le⟩⟩
  clear hw3 hb3 HB2
  go_wp2_with fail
  refine (iat_any _ s 0 none w3 HI3.out).mono ?_
  rintro e w3' ⟨rfl, hw⟩
  rw [hw]
  clear hw
  go_wp2
  go_loopw [29] (fun i wr => ∃ (t a : Nat) (v : Value), t ≤ m ∧ i = .int .i64 (t : Int) ∧ a ≤ lb.length ∧ InAt wr w1.heap.size s a none ∧ OwnOut w1 w2.heap.size v (lb.take a) wr) (fun i _ => m - (intOf i).toNat)
  case atStart => exact ⟨0, 0, _, by omega, rfl, by omega, HI3.out, HO3.out⟩
  case round =>
    clear HI3 HO3 HI2
    obtain ⟨t, a, v, ht, rfl, hal, hI, hO⟩ := hrel
    have hai : (a : Int) ≤ (lb.length : Int) := by omega
    by_cases hlt : t < m
    · have hlt' : (t : Int) < (m : Int) := by omega
      obtain ⟨q, o, rfl, hc⟩ := HK.out.at hlt
      have hc1 := (HB1.out.trans (hO.below.mono HB1.out.size)).cell (p := ⟨q, o + t, none⟩) (cell_lt hc)
      rw [hc] at hc1
      have HI := Keep.mk hI
      have HO := Keep.mk hO
      clear hI hO hc
      go_wp2_with fail
      refine (iat_any _ s a none wr HI.out).mono ?_
      rintro e wr' ⟨rfl, hw⟩
      rw [hw]
      clear hw
      go_wp2_with fail
      have hag := again_any w1.heap.size w2.heap.size s a v (K t) wr HI.out (by rw [HZ.out]; exact Hlb.out) (by rw [HL.out]; exact HO.out.out)
      refine hag.mono ?_
      intro e w4 hpost
      clear hag hc1
      rcases hpost with ⟨rfl, n, v4, hn, hI4, hO4, hm4, hg4⟩ | ⟨rfl, bad, a', ha', hI4, hO4, hg4⟩
      · rw [HL.out] at hO4
        have HI4 := Keep.mk hI4
        have HW4 : Keep (OwnOut w1 w2.heap.size v4 (lb.take (a + n)) w4) := ⟨by
          have hsz := HO.out.below.size
          refine ⟨hO4, fun k hf => ?_, HO.out.below.trans (hg4.to_below (fun k hk hf => by
            rcases hf with hf | hf
            · omega
            · exact HO.out.lt k hk hf) hsz)⟩
          rcases hf with hf | hf
          · exact HO.out.own k (.inl hf)
          · rcases hm4 with e | ⟨j, e, hj⟩
            · exact HO.out.own k (.inr (e ▸ hf))
            · rw [e] at hf; injection hf with hf; omega⟩
        rw [HZ.out] at hn
        have hni : (a : Int) + (n : Int) ≤ (lb.length : Int) := by omega
        have htl : (lb.take (a + n)).length = a + n := by rw [List.length_take]; omega
        obtain ⟨LL, hLL⟩ : ∃ LL, Keep (LL = lb.take (a + n)) := ⟨_, ⟨rfl⟩⟩
        rw [← hLL.out] at HW4 htl
        have Htl := Keep.mk htl
        clear hI4 hO4 hm4 hg4 HI HO htl
        go_wp2_with fail
        refine (iat_any _ s (a + n) none w4 HI4.out).mono ?_
        rintro e w4' ⟨rfl, hw⟩
        rw [hw]
        clear hw
        go_wp2_with fail
        refine (olen_any w2.heap.size v4 LL w4 HW4.out.out).mono ?_
        rintro e w4' ⟨rfl, hw⟩
        rw [hw, Htl.out]
        clear hw
        go_wp2_with fail
        refine (iat_any _ s (a + n) none w4 HI4.out).mono ?_
        rintro e w4' ⟨rfl, hw⟩
        rw [hw]
        clear hw
        go_wp2_with fail
        refine (ileft_any _ s (a + n) none w4 HI4.out (by rw [HZ.out]; have := Hlb.out; omega)).mono ?_
        rintro e w5 ⟨rfl, qd, hw⟩
        have HI5 : Keep (InAt w5 w1.heap.size s (a + n) none) := ⟨by rw [hw]; exact ⟨HI4.out.blk.drewN qd, HI4.out.le⟩⟩
        have HW5 : Keep (OwnOut w1 w2.heap.size v4 LL w5) := ⟨by rw [hw]; exact HW4.out.later (below_drewN w4 qd)⟩
        rw [HZ.out]
        clear hw HI4 HW4
        go_wp2_with fail
        refine (iat_any _ s (a + n) none w5 HI5.out).mono ?_
        rintro e w5' ⟨rfl, hw⟩
        rw [hw]
        clear hw
        go_wp2
        go_roundw
        case rel => exact ⟨t + 1, a + n, v4, by omega, by go_num, by omega, HI5.out, by rw [← hLL.out]; exact HW5.out⟩
        case measure => simp only [intOf]; omega
      · rw [HL.out] at hO4
        have HI4 := Keep.mk hI4
        have HW4 : Keep (OwnOut w1 w2.heap.size v (lb.take a) w4) := ⟨⟨hO4, HO.out.own, HO.out.below.trans (hg4.to_below (fun k hk hf => by
            rcases hf with hf | hf
            · omega
            · exact HO.out.lt k hk hf) HO.out.below.size)⟩⟩
        obtain ⟨vs, hsl, hrs⟩ := sub_any _ lb w1 HR1.out a hal
        have HRs := Keep.mk hrs
        have hga : (a : Int) ≤ (a' : Int) := by omega
        obtain ⟨LL, hLL⟩ : ∃ LL, Keep (LL = lb.take a) := ⟨_, ⟨rfl⟩⟩
        have HLl : Keep (LL.length ≤ 140737488355328) := ⟨by rw [hLL.out, List.length_take]; have := Hlb.out; omega⟩
        rw [← hLL.out] at HW4 HRs
        obtain ⟨st, hst⟩ : ∃ st, Keep (st = strOfNums LL) := ⟨_, ⟨rfl⟩⟩
        have HcvB : Keep (∀ wx, Below w4.heap.size w4 wx → (convert 36 9 vs).run Try.prog wx = .ok (.string st) wx) := ⟨fun wx hx => by
          rw [hst.out]; exact conv_row vs LL wx (HRs.out wx (HR1.out.below (HW4.out.below.trans (hx.mono HW4.out.below.size))))⟩
        clear hI4 hO4 hg4 HI HO hrs
        have hD0 : Below w4.heap.size w4 w4.drew := (Below.refl _ _).drew
        go_wp2_with fail
        refine wp_region_held_drew (S := fun w' => Below w4.heap.size w4 w') (by kernel_rfl) hD0 (fun hHeld => ?_)
        refine wpAnyH_take (i := 0) (oi := ⟨some 41, Op.move (Operand.tmp 5), 52, _, _, none⟩) (v := ptr w1.heap.size) rfl (by kernel_rfl) (by kernel_rfl) (by kernel_rfl) (fun _ _ _ h => h) (Or.inl ⟨by rfl, fun w hS => by go_simp⟩) hHeld ?_
        simp only [Act.put, List.setIfInBounds_toArray, List.set_cons_zero, List.set_cons_succ]
        refine wpAnyH_take (i := 2) (oi := ⟨some 43, Op.move (Operand.tmp 9), 3, _, _, none⟩) (v := .int .i64 (a : Int)) rfl (by kernel_rfl) (by kernel_rfl) (by kernel_rfl) (fun _ _ _ h => h) (Or.inl ⟨by rfl, fun w hS => by go_simp⟩) hHeld ?_
        simp only [Act.put, List.setIfInBounds_toArray, List.set_cons_zero, List.set_cons_succ]
        refine wpAnyH_ready (rs := [1]) (by kernel_rfl) (by simp) ?_
        refine AllReadyH.cons (o := ⟨some 42, Op.call { callee := Callee.value (Operand.func 23), args := #[Operand.tmp 41], argTypes := #[52] }, 3, _, _, none⟩) rfl (fun K hK => ?_) AllReadyH.nil
        rw [if_pos (by rfl)]
        refine wp_callF 23 _ _ rfl Try.enter23 #[ptr w1.heap.size] (by simp [Act.eval]) (fun v w' => v = .int .i64 (a' : Int) ∧ w' = w4.drew) ?_ ?_
        · refine (iat_any _ s a' _ _ ⟨HI4.out.blk.below hD0 HI4.out.blk.lt, HI4.out.le⟩).mono ?_
          rintro e wz ⟨rfl, hz⟩
          exact ⟨_, rfl, rfl, hz⟩
        rintro vz wz ⟨rfl, rfl⟩
        refine hK.out _ _ hHeld fun hHeld2 => ?_
        clear hK
        simp only [Act.put, List.setIfInBounds_toArray, List.set_cons_zero, List.set_cons_succ]
        refine wpAnyH_take (i := 3) (oi := ⟨some 44, Op.binOp BinOp.geq 3 (Operand.tmp 42) (Operand.tmp 43) 3, 4, _, _, none⟩) (v := .bool true) rfl (by kernel_rfl) (by kernel_rfl) (by kernel_rfl) (fun _ _ _ h => h) (Or.inl ⟨by rfl, fun w hS => by go_simp⟩) hHeld2 ?_
        simp only [Act.put, List.setIfInBounds_toArray, List.set_cons_zero, List.set_cons_succ]
        refine wpAnyH_take (i := 4) (oi := ⟨some 45, Op.move (Operand.tmp 44), 4, _, _, none⟩) (v := .bool true) rfl (by kernel_rfl) (by kernel_rfl) (by kernel_rfl) (fun _ _ _ h => h) (Or.inl ⟨by rfl, fun w hS => by go_simp⟩) hHeld2 ?_
        simp only [Act.put, List.setIfInBounds_toArray, List.set_cons_zero, List.set_cons_succ]
        refine wpAnyH_take (i := 5) (oi := ⟨some 46, Op.move (Operand.tmp 6), 33, _, _, some (4, true)⟩) (v := ptr w2.heap.size) rfl (by kernel_rfl) (by kernel_rfl) (by kernel_rfl) (fun _ _ _ h => h) (Or.inl ⟨by rfl, fun w hS => by go_simp⟩) hHeld2 ?_
        simp only [Act.put, List.setIfInBounds_toArray, List.set_cons_zero, List.set_cons_succ]
        refine wpAnyH_take (i := 8) (oi := ⟨some 49, Op.move (Operand.tmp 0), 36, _, _, some (4, true)⟩) (v := Value.slice va lb.length vc) rfl (by kernel_rfl) (by kernel_rfl) (by kernel_rfl) (fun _ _ _ h => h) (Or.inl ⟨by rfl, fun w hS => by go_simp⟩) hHeld2 ?_
        simp only [Act.put, List.setIfInBounds_toArray, List.set_cons_zero, List.set_cons_succ]
        refine wpAnyH_take (i := 9) (oi := ⟨some 50, Op.move (Operand.tmp 9), 3, _, _, some (4, true)⟩) (v := .int .i64 (a : Int)) rfl (by kernel_rfl) (by kernel_rfl) (by kernel_rfl) (fun _ _ _ h => h) (Or.inl ⟨by rfl, fun w hS => by go_simp⟩) hHeld2 ?_
        simp only [Act.put, List.setIfInBounds_toArray, List.set_cons_zero, List.set_cons_succ]
        refine wpAnyH_take (i := 10) (oi := ⟨some 51, Op.slice 36 (Operand.tmp 49) none (some (Operand.tmp 50)) none, 36, _, _, some (4, true)⟩) (v := vs) rfl (by kernel_rfl) (by kernel_rfl) (by kernel_rfl) (fun _ _ _ h => h) (yieldsIf_slice (by rfl) 36 (.tmp 49) (.tmp 50) rfl (Value.slice va lb.length vc) (.int .i64 (a : Int)) vs rfl rfl hsl) hHeld2 ?_
        simp only [Act.put, List.setIfInBounds_toArray, List.set_cons_zero, List.set_cons_succ]
        refine wpAnyH_take (i := 11) (oi := ⟨some 52, Op.convert 36 9 (Operand.tmp 51), 9, _, _, some (4, true)⟩) (v := .string st) rfl (by kernel_rfl) (by kernel_rfl) (by kernel_rfl) (fun _ _ _ h => h) (Or.inl ⟨by rfl, fun w hS => by (have hcx := HcvB.out _ hS; go_simp)⟩) hHeld2 ?_
        simp only [Act.put, List.setIfInBounds_toArray, List.set_cons_zero, List.set_cons_succ]
        refine wpAnyH_ready (rs := [6]) (by kernel_rfl) (by simp) ?_
        refine AllReadyH.cons (o := ⟨some 47, Op.call { callee := Callee.value (Operand.func 15), args := #[Operand.tmp 46], argTypes := #[33] }, 36, _, _, some (4, true)⟩) rfl (fun K hK => ?_) AllReadyH.nil
        rw [if_pos (by rfl)]
        refine wp_callF 15 _ _ rfl Try.enter15 #[ptr w2.heap.size] (by simp [Act.eval]) (fun vz wz => (∃ ad c, vz = .slice ad LL.length c) ∧ (convert 36 9 vz).run Try.prog wz = .ok (.string st) wz ∧ Below w4.heap.size w4 wz) ?_ ?_
        · refine (odone_any w2.heap.size v LL _ (HW4.out.out.grown (Grown.below (S := fun _ => False) hD0) fun _ _ h => h) HLl.out).mono ?_
          rintro e wz ⟨rfl, hz⟩
          refine ⟨_, rfl, ⟨_, _, rfl⟩, ?_, ?_⟩
          · rw [hz, hst.out]; exact conv_row _ LL _ (own_done _ LL HLl.out).row
          · rw [hz]; exact hD0.trans ((below_new _ _).mono hD0.size)
        rintro vz w5 ⟨⟨zad, zc, rfl⟩, hcz, hb5⟩
        refine hK.out _ _ hb5 fun hHeld5 => ?_
        clear hK
        simp only [Act.put, List.setIfInBounds_toArray, List.set_cons_zero, List.set_cons_succ]
        refine wpAnyH_ready (rs := [7]) (by kernel_rfl) (by simp) ?_
        refine AllReadyH.cons (o := ⟨some 48, Op.convert 36 9 (Operand.tmp 47), 9, _, _, some (4, true)⟩) rfl (fun K hK => ?_) AllReadyH.nil
        rw [if_pos (by rfl)]
        refine wp_val (.string st) (by go_simp) ?_
        refine hK.out _ _ hb5 fun hHeld6 => ?_
        clear hK
        simp only [Act.put, List.setIfInBounds_toArray, List.set_cons_zero, List.set_cons_succ]
        refine wpAnyH_take (i := 12) (oi := ⟨some 53, Op.binOp BinOp.eql 9 (Operand.tmp 48) (Operand.tmp 52) 9, 4, _, _, some (4, true)⟩) (v := .bool true) rfl (by kernel_rfl) (by kernel_rfl) (by kernel_rfl) (fun _ _ _ h => h) (Or.inl ⟨by rfl, fun w hS => by go_simp⟩) hHeld6 ?_
        simp only [Act.put, List.setIfInBounds_toArray, List.set_cons_zero, List.set_cons_succ]
        refine wpAnyH_take (i := 13) (oi := ⟨some 54, Op.pick (Operand.tmp 45) (Operand.tmp 53) (Operand.const (Value.bool false)), 4, _, _, none⟩) (v := .bool true) rfl (by kernel_rfl) (by kernel_rfl) (by kernel_rfl) (fun _ _ _ h => h) (Or.inl ⟨by rfl, fun w hS => by go_simp⟩) hHeld6 ?_
        simp only [Act.put, List.setIfInBounds_toArray, List.set_cons_zero, List.set_cons_succ]
        refine wpAnyH_take (i := 14) (oi := ⟨some 4, Op.assign (Operand.tmp 54), 4, _, _, none⟩) (v := .bool true) rfl (by kernel_rfl) (by kernel_rfl) (by kernel_rfl) (fun _ _ _ h => h) (Or.inl ⟨by rfl, fun w hS => by go_simp⟩) hHeld6 ?_
        simp only [Act.put, List.setIfInBounds_toArray, List.set_cons_zero, List.set_cons_succ]
        refine wpAnyH_done (by kernel_rfl) ?_ _
        have HB5 := Keep.mk (HB1.out.trans ((HW4.out.below.trans (hb5.mono HW4.out.below.size)).mono HB1.out.size))
        clear hb5 hcz hsl
        go_wp2
        go_ret
        exact ⟨rfl, HB5.out⟩
    · obtain rfl : t = m := by omega
      have hlt' : ¬ ((t : Int) < (t : Int)) := by omega
      obtain ⟨vs, hsl, hrs⟩ := sub_any _ lb w1 HR1.out a hal
      have HRs := Keep.mk hrs
      have HI4 := Keep.mk hI
      have HW4 := Keep.mk hO
      obtain ⟨LL, hLL⟩ : ∃ LL, Keep (LL = lb.take a) := ⟨_, ⟨rfl⟩⟩
      have HLl : Keep (LL.length ≤ 140737488355328) := ⟨by rw [hLL.out, List.length_take]; have := Hlb.out; omega⟩
      rw [← hLL.out] at HW4 HRs
      obtain ⟨st, hst⟩ : ∃ st, Keep (st = strOfNums LL) := ⟨_, ⟨rfl⟩⟩
      obtain ⟨w4, rfl⟩ : ∃ w4, w4 = wr := ⟨_, rfl⟩
      have HcvB : Keep (∀ wx, Below w4.heap.size w4 wx → (convert 36 9 vs).run Try.prog wx = .ok (.string st) wx) := ⟨fun wx hx => by
        rw [hst.out]; exact conv_row vs LL wx (HRs.out wx (HR1.out.below (HW4.out.below.trans (hx.mono HW4.out.below.size))))⟩
      clear hI hO hrs
      have hD0 : Below w4.heap.size w4 w4.drew := (Below.refl _ _).drew
      go_wp2_with fail
      refine wp_region_held_drew (S := fun w' => Below w4.heap.size w4 w') (by kernel_rfl) hD0 (fun hHeld => ?_)
      refine wpAnyH_take (i := 0) (oi := ⟨some 78, Op.move (Operand.tmp 6), 33, _, _, none⟩) (v := ptr w2.heap.size) rfl (by kernel_rfl) (by kernel_rfl) (by kernel_rfl) (fun _ _ _ h => h) (Or.inl ⟨by rfl, fun w hS => by go_simp⟩) hHeld ?_
      simp only [Act.put, List.setIfInBounds_toArray, List.set_cons_zero, List.set_cons_succ]
      refine wpAnyH_take (i := 3) (oi := ⟨some 81, Op.move (Operand.tmp 0), 36, _, _, none⟩) (v := Value.slice va lb.length vc) rfl (by kernel_rfl) (by kernel_rfl) (by kernel_rfl) (fun _ _ _ h => h) (Or.inl ⟨by rfl, fun w hS => by go_simp⟩) hHeld ?_
      simp only [Act.put, List.setIfInBounds_toArray, List.set_cons_zero, List.set_cons_succ]
      refine wpAnyH_take (i := 4) (oi := ⟨some 82, Op.move (Operand.tmp 5), 52, _, _, none⟩) (v := ptr w1.heap.size) rfl (by kernel_rfl) (by kernel_rfl) (by kernel_rfl) (fun _ _ _ h => h) (Or.inl ⟨by rfl, fun w hS => by go_simp⟩) hHeld ?_
      simp only [Act.put, List.setIfInBounds_toArray, List.set_cons_zero, List.set_cons_succ]
      refine wpAnyH_ready (rs := [1]) (by kernel_rfl) (by simp) ?_
      refine AllReadyH.cons (o := ⟨some 79, Op.call { callee := Callee.value (Operand.func 15), args := #[Operand.tmp 78], argTypes := #[33] }, 36, _, _, none⟩) rfl (fun K hK => ?_) AllReadyH.nil
      rw [if_pos (by rfl)]
      refine wp_callF 15 _ _ rfl Try.enter15 #[ptr w2.heap.size] (by simp [Act.eval]) (fun vz wz => (∃ ad c, vz = .slice ad LL.length c) ∧ (convert 36 9 vz).run Try.prog wz = .ok (.string st) wz ∧ Below w4.heap.size w4 wz) ?_ ?_
      · refine (odone_any w2.heap.size v LL _ (HW4.out.out.grown (Grown.below (S := fun _ => False) hD0) fun _ _ h => h) HLl.out).mono ?_
        rintro e wz ⟨rfl, hz⟩
        refine ⟨_, rfl, ⟨_, _, rfl⟩, ?_, ?_⟩
        · rw [hz, hst.out]; exact conv_row _ LL _ (own_done _ LL HLl.out).row
        · rw [hz]; exact hD0.trans ((below_new _ _).mono hD0.size)
      rintro vz w5 ⟨⟨zad, zc, rfl⟩, hcz, hb5⟩
      refine hK.out _ _ hb5 fun hHeld5 => ?_
      clear hK
      simp only [Act.put, List.setIfInBounds_toArray, List.set_cons_zero, List.set_cons_succ]
      refine wpAnyH_ready (rs := [2, 5]) (by kernel_rfl) (by simp) ?_
      refine AllReadyH.cons (o := ⟨some 80, Op.convert 36 9 (Operand.tmp 79), 9, _, _, none⟩) rfl (fun K hK => ?_) (AllReadyH.cons (o := ⟨some 83, Op.call { callee := Callee.value (Operand.func 23), args := #[Operand.tmp 82], argTypes := #[52] }, 3, _, _, none⟩) rfl (fun K hK => ?_) AllReadyH.nil)
      · rw [if_pos (by rfl)]
        refine wp_val (.string st) (by go_simp) ?_
        refine hK.out _ _ hb5 fun hHeld6 => ?_
        clear hK
        simp only [Act.put, List.setIfInBounds_toArray, List.set_cons_zero, List.set_cons_succ]
        refine wpAnyH_ready (rs := [5]) (by kernel_rfl) (by simp) ?_
        refine AllReadyH.cons (o := ⟨some 83, Op.call { callee := Callee.value (Operand.func 23), args := #[Operand.tmp 82], argTypes := #[52] }, 3, _, _, none⟩) rfl (fun K hK => ?_) AllReadyH.nil
        rw [if_pos (by rfl)]
        refine wp_callF 23 _ _ rfl Try.enter23 #[ptr w1.heap.size] (by simp [Act.eval]) (fun v w' => v = .int .i64 (a : Int) ∧ w' = w5) ?_ ?_
        · refine (iat_any _ s a _ _ ⟨HI4.out.blk.below hb5 HI4.out.blk.lt, HI4.out.le⟩).mono ?_
          rintro e wz ⟨rfl, hz⟩
          exact ⟨_, rfl, rfl, hz⟩
        rintro vz wz ⟨rfl, rfl⟩
        refine hK.out _ _ hb5 fun hHeld7 => ?_
        clear hK
        simp only [Act.put, List.setIfInBounds_toArray, List.set_cons_zero, List.set_cons_succ]
        refine wpAnyH_take (i := 6) (oi := ⟨some 84, Op.slice 36 (Operand.tmp 81) none (some (Operand.tmp 83)) none, 36, _, _, none⟩) (v := vs) rfl (by kernel_rfl) (by kernel_rfl) (by kernel_rfl) (fun _ _ _ h => h) (yieldsIf_slice (by rfl) 36 (.tmp 81) (.tmp 83) rfl (Value.slice va lb.length vc) (.int .i64 (a : Int)) vs rfl rfl hsl) hHeld7 ?_
        simp only [Act.put, List.setIfInBounds_toArray, List.set_cons_zero, List.set_cons_succ]
        refine wpAnyH_take (i := 7) (oi := ⟨some 85, Op.convert 36 9 (Operand.tmp 84), 9, _, _, none⟩) (v := .string st) rfl (by kernel_rfl) (by kernel_rfl) (by kernel_rfl) (fun _ _ _ h => h) (Or.inl ⟨by rfl, fun w hS => by (have hcx := HcvB.out _ hS; go_simp)⟩) hHeld7 ?_
        simp only [Act.put, List.setIfInBounds_toArray, List.set_cons_zero, List.set_cons_succ]
        refine wpAnyH_take (i := 8) (oi := ⟨some 86, Op.binOp BinOp.eql 9 (Operand.tmp 80) (Operand.tmp 85) 9, 4, _, _, none⟩) (v := .bool true) rfl (by kernel_rfl) (by kernel_rfl) (by kernel_rfl) (fun _ _ _ h => h) (Or.inl ⟨by rfl, fun w hS => by go_simp⟩) hHeld7 ?_
        simp only [Act.put, List.setIfInBounds_toArray, List.set_cons_zero, List.set_cons_succ]
        refine wpAnyH_take (i := 9) (oi := ⟨some 4, Op.assign (Operand.tmp 86), 4, _, _, none⟩) (v := .bool true) rfl (by kernel_rfl) (by kernel_rfl) (by kernel_rfl) (fun _ _ _ h => h) (Or.inl ⟨by rfl, fun w hS => by go_simp⟩) hHeld7 ?_
        simp only [Act.put, List.setIfInBounds_toArray, List.set_cons_zero, List.set_cons_succ]
        refine wpAnyH_done (by kernel_rfl) ?_ _
        have HB5 := Keep.mk (HB1.out.trans ((HW4.out.below.trans (hb5.mono HW4.out.below.size)).mono HB1.out.size))
        clear hb5 hcz hsl
        go_wp2
        go_ret
        exact ⟨rfl, HB5.out⟩
      · rw [if_pos (by rfl)]
        refine wp_callF 23 _ _ rfl Try.enter23 #[ptr w1.heap.size] (by simp [Act.eval]) (fun v w' => v = .int .i64 (a : Int) ∧ w' = w5) ?_ ?_
        · refine (iat_any _ s a _ _ ⟨HI4.out.blk.below hb5 HI4.out.blk.lt, HI4.out.le⟩).mono ?_
          rintro e wz ⟨rfl, hz⟩
          exact ⟨_, rfl, rfl, hz⟩
        rintro vz wz ⟨rfl, rfl⟩
        refine hK.out _ _ hb5 fun hHeld7 => ?_
        clear hK
        simp only [Act.put, List.setIfInBounds_toArray, List.set_cons_zero, List.set_cons_succ]
        refine wpAnyH_take (i := 6) (oi := ⟨some 84, Op.slice 36 (Operand.tmp 81) none (some (Operand.tmp 83)) none, 36, _, _, none⟩) (v := vs) rfl (by kernel_rfl) (by kernel_rfl) (by kernel_rfl) (fun _ _ _ h => h) (yieldsIf_slice (by rfl) 36 (.tmp 81) (.tmp 83) rfl (Value.slice va lb.length vc) (.int .i64 (a : Int)) vs rfl rfl hsl) hHeld7 ?_
        simp only [Act.put, List.setIfInBounds_toArray, List.set_cons_zero, List.set_cons_succ]
        refine wpAnyH_take (i := 7) (oi := ⟨some 85, Op.convert 36 9 (Operand.tmp 84), 9, _, _, none⟩) (v := .string st) rfl (by kernel_rfl) (by kernel_rfl) (by kernel_rfl) (fun _ _ _ h => h) (Or.inl ⟨by rfl, fun w hS => by (have hcx := HcvB.out _ hS; go_simp)⟩) hHeld7 ?_
        simp only [Act.put, List.setIfInBounds_toArray, List.set_cons_zero, List.set_cons_succ]
        refine wpAnyH_ready (rs := [2]) (by kernel_rfl) (by simp) ?_
        refine AllReadyH.cons (o := ⟨some 80, Op.convert 36 9 (Operand.tmp 79), 9, _, _, none⟩) rfl (fun K hK => ?_) AllReadyH.nil
        rw [if_pos (by rfl)]
        refine wp_val (.string st) (by go_simp) ?_
        refine hK.out _ _ hb5 fun hHeld8 => ?_
        clear hK
        simp only [Act.put, List.setIfInBounds_toArray, List.set_cons_zero, List.set_cons_succ]
        refine wpAnyH_take (i := 8) (oi := ⟨some 86, Op.binOp BinOp.eql 9 (Operand.tmp 80) (Operand.tmp 85) 9, 4, _, _, none⟩) (v := .bool true) rfl (by kernel_rfl) (by kernel_rfl) (by kernel_rfl) (fun _ _ _ h => h) (Or.inl ⟨by rfl, fun w hS => by go_simp⟩) hHeld8 ?_
        simp only [Act.put, List.setIfInBounds_toArray, List.set_cons_zero, List.set_cons_succ]
        refine wpAnyH_take (i := 9) (oi := ⟨some 4, Op.assign (Operand.tmp 86), 4, _, _, none⟩) (v := .bool true) rfl (by kernel_rfl) (by kernel_rfl) (by kernel_rfl) (fun _ _ _ h => h) (Or.inl ⟨by rfl, fun w hS => by go_simp⟩) hHeld8 ?_
        simp only [Act.put, List.setIfInBounds_toArray, List.set_cons_zero, List.set_cons_succ]
        refine wpAnyH_done (by kernel_rfl) ?_ _
        have HB5 := Keep.mk (HB1.out.trans ((HW4.out.below.trans (hb5.mono HW4.out.below.size)).mono HB1.out.size))
        clear hb5 hcz hsl
        go_wp2
        go_ret
        exact ⟨rfl, HB5.out⟩
end Go.Proofs.Ytanmbbckkfkhpaa
