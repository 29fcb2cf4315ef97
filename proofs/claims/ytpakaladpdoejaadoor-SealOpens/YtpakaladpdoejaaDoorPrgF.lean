import Derived.Test.YtpakaladpdoejaaDoorPrgE
namespace Go.Proofs.YtpakaladpdoejaaDoor
open Go.RowKit

theorem sl_run3 (base : Option Addr) (n cap a : Nat) (ha : a ≤ n) (wx : World) : (Instr.sliceAt 22 (.slice base n cap) (some (.int .i64 (a : Int))) none none).run Tryd.prog wx = .ok (sliced base a n cap 1) wx := by
  have hu : Tryd.prog.underlying 22 = some (.slice (Tryd.prog.elem 22)) := by rw [Tryd.elem36]; exact Tryd.underlying22
  have h1 := run_slice_l (P := Tryd.prog) (w := wx) 22 base n cap hu .i64 (a : Int) (by omega) (by omega)
  have h2 := run_sliceAt_slice (P := Tryd.prog) (w := wx) 22 (.slice base n cap) (some (.int .i64 (a : Int))) none none hu
  rw [Tryd.elem36] at h1
  rw [h2, h1]
  refine (congrArg (fun z => Result.andThen z fun s w => Result.ok (sliced base (a : Int).toNat n cap s) w) (Tryd.sizeOf5 wx)).trans ?_
  show Result.ok (sliced base (a : Int).toNat n cap 1) wx = _
  rw [Int.toNat_natCast]
theorem row_cap {w : World} {a : Option Addr} {n c : Nat} {l : List Int} (h : RowAt w (.slice a n c) l) : n = l.length ∧ n ≤ c := by
  rcases h with ⟨e, rfl⟩ | ⟨ad, c', e, rfl⟩ | ⟨g, off, cap, e, hc, _⟩
  · injection e with e1 e2 e3; subst e2 e3; exact ⟨rfl, Nat.le_refl _⟩
  · injection e with e1 e2 e3; subst e2; exact ⟨rfl, Nat.zero_le _⟩
  · injection e with e1 e2 e3; subst e2 e3; exact ⟨rfl, hc⟩
/-- b[a:]. -/
theorem tail_any (vb : Value) (lb : List Int) (w : World) (hr : RowAt w vb lb) (a : Nat) (ha : a ≤ lb.length) :
    ∃ vs, (∀ wx : World, (Instr.sliceAt 22 vb (some (.int .i64 (a : Int))) none none).run Tryd.prog wx = .ok vs wx) ∧ ∀ wx, RowAt wx vb lb → RowAt wx vs (lb.drop a) := by
  obtain ⟨vs, h1, h2⟩ := mid_any vb lb w hr a (lb.length - a) (by omega)
  obtain ⟨ba, bc, rfl⟩ := row_form hr
  obtain ⟨_, hc⟩ := row_cap hr
  refine ⟨vs, fun wx => ?_, fun wx hx => ?_⟩
  · have h3 := h1 wx
    rw [show ((a : Int) + ((lb.length - a : Nat) : Int)) = (lb.length : Int) by omega, sl_run2 ba lb.length bc a lb.length ha hc wx] at h3
    rw [sl_run3 ba lb.length bc a ha wx]
    exact h3
  · have h4 := h2 wx hx
    rwa [List.take_of_length_le (by rw [List.length_drop]; omega)] at h4
theorem yieldsIf_slice3 {P : Program} {ops : Array Oper} {S : World → Prop} {op : Oper} {a : Act} (hw : Region.wanted op (yielded ops a.tmps) = true) (t : TypeId) (x lo : Operand) (ho : op.op = .slice t x (some lo) none none)
    (vx vl vs : Value) (hx : a.eval x = vx) (hl : a.eval lo = vl) (hr : ∀ w : World, (Instr.sliceAt t vx (some vl) none none).run P w = .ok vs w) : YieldsIf P ops S op vs a :=
  .inl ⟨hw, fun w _ => by
    unfold execOp
    simp only [ho, hx, hl, Option.map_some, Option.map_none, Sem.run_bind, hr w, Result.andThen_ok, Sem.run_pure]⟩
theorem run_items2 (c e : Nat → Int) (d : Nat) (w : World) : ∀ is : List Nat, (∀ i ∈ is, i < 32) → (Op.eqItems (d + 1) 5 1 (bytesA 32 c) (bytesA 32 e) is).run Tryd.prog w = .ok (is.all fun i => c i == e i) w
  | [], _ => by simp [Op.eqItems]
  | i :: is, h => by
    have hi := h i (by simp)
    have ih := run_items2 c e d w is (fun j hj => h j (by simp [hj]))
    simp only [Op.eqItems, Sem.run_bind, Nat.mul_one, run_part5 c i hi, run_part5 e i hi, Result.andThen_ok]
    rw [run_equalIn_int (P := Tryd.prog) (w := w) d 5 .u8 .u8 (c i) (e i) Tryd.underlying5]
    by_cases hh : c i = e i
    · simp [Result.andThen_ok, ih, hh]
    · simp [Result.andThen_ok, hh]
theorem hl_eq_iff (c e : Nat → Int) : ((List.range 32).all fun i => c i == e i) = decide (hl 32 c = hl 32 e) := by
  by_cases h : hl 32 c = hl 32 e
  · rw [decide_eq_true h, List.all_eq_true]
    intro i hi
    have h1 := hl_get 32 c i (List.mem_range.1 hi)
    have h2 := hl_get 32 e i (List.mem_range.1 hi)
    rw [h] at h1
    rw [beq_iff_eq, ← h1, ← h2]
  · rw [decide_eq_false h, Bool.eq_false_iff]
    intro h2
    refine h ?_
    unfold hl
    apply List.map_congr_left
    intro i hi
    have := List.all_eq_true.1 h2 i hi
    simpa using this
theorem neq_hash (c e : Nat → Int) (r : Bool) (hr : r = !decide (hl 32 c = hl 32 e)) (w : World) : (binOp .neq 40 (.agg (bytesA 32 c)) (.agg (bytesA 32 e))).run Tryd.prog w = .ok (.bool r) w := by
  have h : (Op.equalIn 10000 40 (.agg (bytesA 32 c)) (.agg (bytesA 32 e))).run Tryd.prog w = .ok ((List.range 32).all fun i => c i == e i) w := by
    obtain ⟨i, hi, _⟩ := Option.map_eq_some_iff.1 Tryd.size5
    rw [run_equalIn_array (P := Tryd.prog) w 9999 _ _ Tryd.underlying40 hi, Tryd.cells5]
    exact run_items2 c e 9998 w _ (fun j hj => List.mem_range.1 hj)
  rw [run_neq_struct, h, hl_eq_iff, hr]; rfl
/-- An error of Open: what it is. -/
def ErrV (e : Int × Int) (B : Nat) (er : Value) (w' : World) : Prop :=
  (e.1 = 0 ∧ er = .nilIface) ∨ (e.1 ≠ 0 ∧ e.2 = -1 ∧ er = .iface 27 (.int .i64 e.1)) ∨ (e.1 ≠ 0 ∧ 0 ≤ e.2 ∧ ∃ g, B ≤ g ∧ er = .iface 43 (ptr g) ∧ Blk w' g 46 #[.int .i64 e.1, .int .i64 e.2])
/-- What is left behind Open. -/
def OpenP (key b : List Int) (w : World) (e : Ending) (w' : World) : Prop :=
  ∃ v l f t er, e = .returned (.tuple #[.agg #[.int .i64 f, .int .i64 t, v], er]) ∧ Below w.heap.size w w' ∧ OwnT w' v l ∧ (∀ k, v.ownBlock = some k → w.heap.size ≤ k) ∧ ErrV (openE key b) w.heap.size er w' ∧
    (((openE key b).1 = 0 ∧ f = b.getD 4 0 ∧ t = b.getD 5 0 ∧ l = openB b) ∨ ((openE key b).1 ≠ 0 ∧ f = 0 ∧ t = 0 ∧ l = []))
theorem openE_form {key b : List Int} (h : key.length = 32) : openE key b = match formE b with | some e => e | none => if macE key b (lenN b) then (0, 0) else (30, (lenN b : Int) + 10) := by
  unfold openE formE sizeE
  rw [if_neg (by omega)]
  cases headE b with
  | some e => rfl
  | none =>
    dsimp only
    split
    · rfl
    · split
      · rfl
      · split
        · rfl
        · split
          · rfl
          · rfl
theorem formE_pos {b : List Int} {e : Int × Int} (h : formE b = some e) : e.1 ≠ 0 ∧ 0 ≤ e.2 := by
  unfold formE at h
  cases h2 : headE b with
  | some x =>
    rw [h2] at h
    cases h
    refine ⟨headE_ne h2, ?_⟩
    unfold headE at h2
    obtain ⟨i, _, h3⟩ := List.exists_of_findSome?_eq_some h2
    unfold stepE at h3
    split at h3
    · cases h3; exact Int.natCast_nonneg _
    · split at h3
      · cases h3; exact Int.natCast_nonneg _
      · split at h3
        · cases h3; exact Int.natCast_nonneg _
        · cases h3
  | none =>
    rw [h2] at h
    dsimp only at h
    unfold sizeE at h
    split at h
    · cases h; exact ⟨by decide, by decide⟩
    · split at h
      · cases h; exact ⟨by decide, by decide⟩
      · split at h
        · cases h; exact ⟨by decide, by decide⟩
        · split at h
          · cases h; exact ⟨show (23 : Int) ≠ 0 by decide, show 0 ≤ (lenN b : Int) + 42 by omega⟩
          · cases h
theorem formE_len {b : List Int} (h : formE b = none) : headE b = none ∧ lenN b ≤ 2097152 ∧ b.length = lenN b + 42 := by
  unfold formE at h
  cases h2 : headE b with
  | some x => rw [h2] at h; cases h
  | none =>
    rw [h2] at h
    dsimp only at h
    unfold sizeE at h
    split at h
    · cases h
    · split at h
      · cases h
      · split at h
        · cases h
        · split at h
          · cases h
          · exact ⟨rfl, by omega, by omega⟩
theorem Tryd.size26 : (Tryd.prog.info? 26).map (·.size) = some 3 := by kernel_rfl
def env3 (f t : Int) (v : Value) : Array Value := #[.int .i64 f, .int .i64 t, v]
theorem env3_info (f t : Int) (v : Value) : (Tryd.prog.info? 26).map (·.size) = some (env3 f t v).size := Tryd.size26
theorem env3_one (f t : Int) (a : Option Addr) (n c : Nat) : (env3 f t (.slice a n c)).all (·.oneCell') = true := by simp [env3, Value.oneCell']
theorem wp_copy {P : Program} {o : Oper} {a : Act} {w : World} {K : Act → World → Prop} {Q : Exit → Act → World → Prop} (d s : Operand) (ho : o.op = .call { callee := .builtin .copy, args := #[d, s], argTypes := #[22, 22] })
    (vd vs v : Value) (w' : World) (hd : a.eval d = vd) (hs : a.eval s = vs) (hrun : (Builtin.copy_ #[22, 22] o.type #[vd, vs]).run P w = .ok v w') (h : K (a.put o.dst v) w') : o.wp P a w K Q := by
  unfold Oper.wp execOp
  simp only [ho, resolve, invoke, builtin, Sem.run_bind, Sem.run_pure, Result.andThen_ok, List.map_toArray, List.map_cons, List.map_nil, hd, hs, hrun]
  exact h
theorem wpList_slice2 {ops : Array Oper} {rest : List Oper} {o : Oper} {a : Act} {w : World} {Q : Exit → Act → World → Prop} (hgd : o.guard = none) (x lo hi : Operand) (ho : o.op = .slice 22 x (some lo) (some hi) none) (vx vl vh vs : Value)
    (hx : a.eval x = vx) (hl : a.eval lo = vl) (hh : a.eval hi = vh) (hr : ∀ w : World, (Instr.sliceAt 22 vx (some vl) (some vh) none).run Tryd.prog w = .ok vs w) (h : wpList Tryd.prog ops Q rest (a.put o.dst vs) w) : wpList Tryd.prog ops Q (o :: rest) a w := by
  refine wpList_plain hgd fun K hK => ?_
  exact wp_val vs (by unfold execOp; simp only [ho, hx, hl, hh, Option.map_some, Option.map_none, Sem.run_bind, hr w, Result.andThen_ok, Sem.run_pure]) (hK _ _ h)
theorem own_copied {w : World} {g n : Nat} {m : List Int} (hm : m.length = n) (hn : n ≤ 2097152) (h : Blk w g 5 ((bytesA n fun _ => 0).toList.take 0 ++ bv m ++ (bytesA n fun _ => 0).toList.drop (0 + m.length)).toArray) : OwnT w (.slice (some ⟨g, 0, none⟩) n n) m := by
  rw [List.take_zero, List.nil_append, Nat.zero_add, hm, List.drop_of_length_le (by simp [bytesA_size]), List.append_nil] at h
  subst hm
  exact (Own.mk h (Nat.le_refl _) (by unfold maxLen; omega) (by simp [bv_len]) (by rw [List.take_of_length_le]; rw [bv_len]; exact Nat.le_refl _)).tail
theorem hl_drop (b : List Int) (n : Nat) (h : b.length = n + 42) : hl 32 (fun i => b.getD (n + 10 + i) 0) = b.drop (n + 10) := by
  apply List.ext_getElem?
  intro i
  unfold hl
  by_cases hi : i < 32
  · have h1 : n + 10 + i < b.length := by omega
    simp [hi, List.getElem?_drop, List.getD_eq_getElem?_getD, h1]
  · rw [List.getElem?_eq_none (by simp; omega), List.getElem?_eq_none (by simp; omega)]
theorem arr_of (c : Nat → Int) : ((bytesA 32 fun _ => 0).toList.take 0 ++ bv (hl 32 c) ++ (bytesA 32 fun _ => 0).toList.drop (0 + (hl 32 c).length)).toArray = bytesA 32 c := by
  rw [List.take_zero, List.nil_append, Nat.zero_add, hl_len, List.drop_of_length_le (by simp [bytesA_size]), List.append_nil, ← hl_bytesA]
theorem openP_some {key b : List Int} (h : key.length = 32) {e : Int × Int} (he : formE b = some e) : openE key b = e := by rw [openE_form h, he]
theorem openP_mac {key b : List Int} (h : key.length = 32) (he : formE b = none) : openE key b = if macE key b (lenN b) then (0, 0) else (30, (lenN b : Int) + 10) := by rw [openE_form h, he]
set_option maxRecDepth 8000 in
set_option maxHeartbeats 2000000 in
theorem openP_any (vk vb : Value) (key b : List Int) (w : World) (hk : RowAt w vk key) (hb : RowAt w vb b) (hkl : key.length ≤ 140737488351232) (hbl : b.length ≤ 140737500000000) (hby : Byts b) :
    Calls Tryd.prog 7 #[vk, vb] w (OpenP key b w) := by
  have HRk := Keep.mk hk
  have HRb := Keep.mk hb
  have HKl := Keep.mk hkl
  have HBl := Keep.mk hbl
  have HBy := Keep.mk hby
  obtain ⟨ka, kc, rfl⟩ := row_form hk
  obtain ⟨ba, bc, rfl⟩ := row_form hb
  have HN0 := Keep.mk (show Blk (w.alloc (.cells #[.int .i64 0, .int .i64 0, .slice none 0 0] 26)) w.heap.size 26 (env3 0 0 (.slice none 0 0)) from Blk.new w 26 _)
  have HB0 := Keep.mk (below_new w (.cells #[.int .i64 0, .int .i64 0, .slice none 0 0] 26))
  clear hk hb hkl hbl hby
  by_cases hk32 : key.length = 32
  · have hk32' : ((key.length : Int) == 32) = true := by simp; omega
    have hkI : (key.length : Int) = 32 := by omega
    have Hk32 := Keep.mk hk32
    clear hk32
    go_enter Tryd.func7, Tryd.ntmps7
    go_wp2_with (first | (refine wpList_new rfl 26 rfl _ Tryd.new26 ?_; refine Hid.out ?_))
    refine hid_in ?_
    generalize w.alloc (.cells #[.int .i64 0, .int .i64 0, .slice none 0 0] 26) = w1 at *
    go_wp2_with fail
    refine (wrong_any _ b w1 (HRb.out.below HB0.out) HBl.out HBy.out).mono ?_
    rintro e w2 ⟨pv, rfl, hb2, hv⟩
    have HB2 := Keep.mk (HB0.out.trans (hb2.mono HB0.out.size))
    have HN2 := Keep.mk (HN0.out.below hb2 HN0.out.lt)
    have HV := Keep.mk hv
    have Hlt := Keep.mk HN0.out.lt
    clear hb2 hv HN0
    rcases HV.out with ⟨hnone, rfl⟩ | ⟨y, p, g, hsome, hg, rfl, hG⟩
    · have HFn := Keep.mk hnone
      have HFl := Keep.mk (formE_len hnone)
      clear hnone HV
      obtain ⟨n, hn⟩ : ∃ n, Keep (n = lenN b) := ⟨_, ⟨rfl⟩⟩
      obtain ⟨E, hE⟩ : ∃ E, Keep (E = n + 10) := ⟨_, ⟨rfl⟩⟩
      have hEi : ((b.length : Int) - 32) = (E : Int) := by have h1 := hE.out; have h2 := hn.out; have h3 := HFl.out.2.2; omega
      have hE1 : (E : Int) ≤ (b.length : Int) := by omega
      have hE2 : (10 : Int) ≤ (E : Int) := by have h1 := hE.out; omega
      have hEb : (b.length : Int) ≤ 140737500000000 := by have := HBl.out; omega
      go_wp2_with (first | (refine wpList_new rfl 40 rfl _ Tryd.new40 ?_; refine Hid.out ?_))
      refine hid_in ?_
      have HN3 := Keep.mk (HN2.out.alloc (.cells (bytesA 32 fun _ => 0) 40))
      have HS3 := Keep.mk (Blk.new w2 40 (bytesA 32 fun _ => 0))
      have HB3 := Keep.mk (HB2.out.alloc HB2.out.size (.cells (bytesA 32 fun _ => 0) 40))
      obtain ⟨g8, hg8⟩ : ∃ g8, Keep (g8 = w2.heap.size) := ⟨_, ⟨rfl⟩⟩
      have Hg8 : Keep (w.heap.size < g8) := ⟨by rw [hg8.out]; exact HN2.out.lt⟩
      rw [← hg8.out] at HS3 ⊢
      generalize w2.alloc (.cells (bytesA 32 fun _ => 0) 40) = w3 at *
      clear HB2 HN2 hg8 hEi
      obtain ⟨vt, hvt, hrt⟩ := tail_any _ b w HRb.out E (by omega)
      have HRt := Keep.mk hrt
      obtain ⟨c, hc⟩ : ∃ c, Keep (c = fun i => b.getD (n + 10 + i) 0) := ⟨_, ⟨rfl⟩⟩
      have HcE : Keep (b.drop E = hl 32 c) := ⟨by rw [hc.out, hE.out]; exact (hl_drop b n (by rw [hn.out]; exact HFl.out.2.2)).symm⟩
      have hD0 : Below w3.heap.size w3 w3.drew := (Below.refl _ _).drew
      have HRd : Keep (RowAt w3.drew vt (hl 32 c)) := ⟨by rw [← HcE.out]; exact HRt.out _ (HRb.out.below (HB3.out.trans (hD0.mono HB3.out.size)))⟩
      have HSd := Keep.mk (HS3.out.below hD0 HS3.out.lt)
      have HND := Keep.mk (HN3.out.below hD0 HN3.out.lt)
      have HBd := Keep.mk (HB3.out.trans (hD0.mono HB3.out.size))
      clear hrt HS3 HN3 HB3 hD0
      go_wp2_with fail
      refine wp_region_held_drew (S := fun _ => True) (by kernel_rfl) trivial (fun hHeld => ?_)
      generalize w3.drew = w4 at *
      refine wpAnyH_take (i := 0) (oi := ⟨some 25, Op.slice 40 (Operand.tmp 8) none none none, 22, _, _, none⟩) (v := .slice (some ⟨g8, 0, none⟩) 32 32) rfl (by kernel_rfl) (by kernel_rfl) (by kernel_rfl) (fun _ _ _ h => h) (Or.inl ⟨by rfl, fun w hS => by go_simp⟩) hHeld ?_
      simp only [Act.put, List.setIfInBounds_toArray, List.set_cons_zero, List.set_cons_succ]
      refine wpAnyH_take (i := 1) (oi := ⟨some 26, Op.move (Operand.tmp 1), 22, _, _, none⟩) (v := .slice ba b.length bc) rfl (by kernel_rfl) (by kernel_rfl) (by kernel_rfl) (fun _ _ _ h => h) (Or.inl ⟨by rfl, fun w hS => by go_simp⟩) hHeld ?_
      simp only [Act.put, List.setIfInBounds_toArray, List.set_cons_zero, List.set_cons_succ]
      refine wpAnyH_take (i := 2) (oi := ⟨some 27, Op.move (Operand.tmp 7), 3, _, _, none⟩) (v := .int .i64 (E : Int)) rfl (by kernel_rfl) (by kernel_rfl) (by kernel_rfl) (fun _ _ _ h => h) (Or.inl ⟨by rfl, fun w hS => by go_simp⟩) hHeld ?_
      simp only [Act.put, List.setIfInBounds_toArray, List.set_cons_zero, List.set_cons_succ]
      refine wpAnyH_take (i := 3) (oi := ⟨some 28, Op.slice 22 (Operand.tmp 26) (some (Operand.tmp 27)) none none, 22, _, _, none⟩) (v := vt) rfl (by kernel_rfl) (by kernel_rfl) (by kernel_rfl) (fun _ _ _ h => h) (yieldsIf_slice3 (by rfl) 22 (Operand.tmp 26) (Operand.tmp 27) rfl _ _ _ rfl rfl hvt) hHeld ?_
      simp only [Act.put, List.setIfInBounds_toArray, List.set_cons_zero, List.set_cons_succ]
      refine wpAnyH_ready (rs := [4]) (by kernel_rfl) (by simp) ?_
      refine AllReadyH.cons (o := ⟨some 29, Op.call { callee := Callee.builtin Builtin.copy, args := #[Operand.tmp 25, Operand.tmp 28], argTypes := #[22, 22] }, 3, _, _, none⟩) rfl (fun K hK => ?_) AllReadyH.nil
      rw [if_pos (by rfl)]
      refine wp_copy (Operand.tmp 25) (Operand.tmp 28) rfl (.slice (some ⟨g8, 0, none⟩) 32 32) vt _ _ rfl rfl (run_copyG w4 g8 0 32 32 vt (hl 32 c) 3 40 _ HSd.out (by rw [hl_len]; exact Nat.le_refl _) (by rw [hl_len, bytesA_size]; exact Nat.le_refl _) HRd.out) ?_
      rw [arr_of]
      refine hK.out _ _ trivial fun _ => ?_
      clear hK
      refine wpAnyH_done (by kernel_rfl) ?_ _
      have HS5 := Keep.mk (HSd.out.setRow (bytesA 32 c))
      have HN5 := Keep.mk (HND.out.setRow_ne (show w.heap.size ≠ g8 by have := Hg8.out; omega) (bytesA 32 c))
      have HB5 := Keep.mk (below_setRow HBd.out (show w.heap.size ≤ g8 by have := Hg8.out; omega) (bytesA 32 c))
      generalize w4.setRow g8 (bytesA 32 c) = w5 at *
      clear hHeld hvt HRt HRd HSd HND HBd
      obtain ⟨vq, hsq, hrq⟩ := sub_any _ b w HRb.out E (by omega)
      have Hrq := Keep.mk hrq
      clear hrq
      obtain ⟨ca, Hca⟩ : ∃ ca, Keep (ca = bytesA 32 c) := ⟨_, ⟨rfl⟩⟩
      rw [← Hca.out] at HS5
      obtain ⟨CM, hCM⟩ : ∃ CM, Keep (CM = ca.toList) := ⟨_, ⟨rfl⟩⟩
      have hCA : CM.toArray = ca := by rw [hCM.out]
      have hi : (Tryd.prog.info? 40).map (·.size) = some CM.length := by rw [hCM.out, Array.length_toList, Hca.out]; exact Tryd.size40B _
      have hu := Tryd.underlying40
      have HSx : Keep (∀ wx, Below w5.heap.size w5 wx → wx.rangeAt g8 0 CM) := ⟨fun wx hx => by rw [hCM.out]; exact blk_range (HS5.out.below hx HS5.out.lt)⟩
      have hD0 : Below w5.heap.size w5 w5.drew := (Below.refl _ _).drew
      obtain ⟨cm, Hcm⟩ : ∃ cm, Keep (cm = bytesA 32 (macP key (b.take E))) := ⟨_, ⟨rfl⟩⟩
      obtain ⟨r, hr⟩ : ∃ r, Keep (r = !decide (hl 32 c = hl 32 (macP key (b.take E)))) := ⟨_, ⟨rfl⟩⟩
      have hnq : ∀ wx, (binOp .neq 40 (.agg ca) (.agg cm)).run Tryd.prog wx = .ok (.bool r) wx := fun wx => by rw [Hca.out, Hcm.out]; exact neq_hash _ _ _ hr.out wx
      go_wp2_with fail
      refine wp_region_held_drew (S := fun wx => wx.rangeAt g8 0 CM) (by kernel_rfl) (HSx.out _ hD0) (fun hHeld => ?_)
      refine wpAnyH_take (i := 0) (oi := ⟨some 30, Op.load 40 (Operand.tmp 8), 40, _, _, none⟩) (v := .agg (CM).toArray) rfl (by kernel_rfl) (by kernel_rfl) (by kernel_rfl) (fun _ _ _ h => h) (yieldsIf_load_mid (by rfl) 40 (Operand.tmp 8) rfl g8 0 rfl CM _ (fun w hS => hS) hu rfl hi) hHeld ?_
      simp only [Act.put, List.setIfInBounds_toArray, List.set_cons_zero, List.set_cons_succ]
      rw [hCA]
      refine wpAnyH_take (i := 1) (oi := ⟨some 31, Op.move (Operand.tmp 0), 22, _, _, none⟩) (v := .slice ka key.length kc) rfl (by kernel_rfl) (by kernel_rfl) (by kernel_rfl) (fun _ _ _ h => h) (Or.inl ⟨by rfl, fun w hS => by go_simp⟩) hHeld ?_
      simp only [Act.put, List.setIfInBounds_toArray, List.set_cons_zero, List.set_cons_succ]
      refine wpAnyH_take (i := 2) (oi := ⟨some 32, Op.move (Operand.tmp 1), 22, _, _, none⟩) (v := .slice ba b.length bc) rfl (by kernel_rfl) (by kernel_rfl) (by kernel_rfl) (fun _ _ _ h => h) (Or.inl ⟨by rfl, fun w hS => by go_simp⟩) hHeld ?_
      simp only [Act.put, List.setIfInBounds_toArray, List.set_cons_zero, List.set_cons_succ]
      refine wpAnyH_take (i := 3) (oi := ⟨some 33, Op.move (Operand.tmp 7), 3, _, _, none⟩) (v := .int .i64 (E : Int)) rfl (by kernel_rfl) (by kernel_rfl) (by kernel_rfl) (fun _ _ _ h => h) (Or.inl ⟨by rfl, fun w hS => by go_simp⟩) hHeld ?_
      simp only [Act.put, List.setIfInBounds_toArray, List.set_cons_zero, List.set_cons_succ]
      refine wpAnyH_take (i := 4) (oi := ⟨some 34, Op.slice 22 (Operand.tmp 32) none (some (Operand.tmp 33)) none, 22, _, _, none⟩) (v := vq) rfl (by kernel_rfl) (by kernel_rfl) (by kernel_rfl) (fun _ _ _ h => h) (yieldsIf_slice (by rfl) 22 (Operand.tmp 32) (Operand.tmp 33) rfl _ _ _ rfl rfl hsq) hHeld ?_
      simp only [Act.put, List.setIfInBounds_toArray, List.set_cons_zero, List.set_cons_succ]
      refine wpAnyH_ready (rs := [5]) (by kernel_rfl) (by simp) ?_
      refine AllReadyH.cons (o := ⟨some 35, Op.call { callee := Callee.value (Operand.func 13), args := #[Operand.tmp 31, Operand.tmp 34], argTypes := #[22, 22] }, 40, _, _, none⟩) rfl (fun K hK => ?_) AllReadyH.nil
      rw [if_pos (by rfl)]
      refine wp_callF 13 _ _ rfl Tryd.enter13 #[.slice ka key.length kc, vq] (by simp [Act.eval]) (fun vz wz => vz = .agg cm ∧ Below w5.heap.size w5 wz) ?_ ?_
      · refine (mac_ok _ vq key (b.take E) w5.drew (HRk.out.below (HB5.out.trans (hD0.mono HB5.out.size))) (Hrq.out _ (HRb.out.below (HB5.out.trans (hD0.mono HB5.out.size)))) HKl.out (by rw [List.length_take]; have h1 := hE.out; have h2 := hn.out; have h3 := HFl.out.2.1; omega)).mono ?_
        rintro e wz ⟨rfl, hbz⟩
        exact ⟨_, rfl, by rw [Hcm.out], hD0.trans (hbz.mono hD0.size)⟩
      rintro vz w6 ⟨rfl, hb6⟩
      have HB6 := Keep.mk (HB5.out.trans (hb6.mono HB5.out.size))
      have HN6 := Keep.mk (HN5.out.below hb6 HN5.out.lt)
      refine hK.out _ _ (HSx.out _ hb6) fun hHeld2 => ?_
      clear hK hb6
      simp only [Act.put, List.setIfInBounds_toArray, List.set_cons_zero, List.set_cons_succ]
      refine wpAnyH_take (i := 6) (oi := ⟨some 36, Op.binOp BinOp.neq 40 (Operand.tmp 30) (Operand.tmp 35) 40, 4, _, _, none⟩) (v := .bool r) rfl (by kernel_rfl) (by kernel_rfl) (by kernel_rfl) (fun _ _ _ h => h) (Or.inl ⟨by rfl, fun w hS => by go_simp⟩) hHeld2 ?_
      simp only [Act.put, List.setIfInBounds_toArray, List.set_cons_zero, List.set_cons_succ]
      refine wpAnyH_done (by kernel_rfl) ?_ _
      clear hHeld hHeld2 hsq hnq HSx hD0 hCA hi hu HS5 HN5 HB5
      have HOE : Keep (openE key b = if hl 32 c = hl 32 (macP key (b.take E)) then (0, 0) else (30, (E : Int))) := ⟨by
        have hE' : E = lenN b + 10 := by rw [hE.out, hn.out]
        rw [openP_mac Hk32.out HFn.out, ← HcE.out, hE']
        rfl⟩
      by_cases hm : hl 32 c = hl 32 (macP key (b.take E))
      · have hrf : r = false := by rw [hr.out, decide_eq_true hm]; rfl
        subst hrf
        have HO : Keep (openE key b = (0, 0)) := ⟨by rw [HOE.out, if_pos hm]⟩
        clear hm HOE hr
        have hE0 : ((E : Int) - 10) = (n : Int) := by have h1 := hE.out; omega
        have Hn2 : Keep (n ≤ 2097152) := ⟨by rw [hn.out]; exact HFl.out.2.1⟩
        go_wp2_with (first | (refine wpList_makeB rfl _ _ rfl n n (Nat.le_refl _) (by have := Hn2.out; omega) rfl rfl ?_; refine Hid.out ?_))
        refine hid_in ?_
        have HN7 := Keep.mk (HN6.out.alloc (.cells (bytesA n fun _ => 0) 5))
        have HS7 := Keep.mk (Blk.new w6 5 (bytesA n fun _ => 0))
        have HB7 := Keep.mk (HB6.out.alloc HB6.out.size (.cells (bytesA n fun _ => 0) 5))
        obtain ⟨g9, hg9⟩ : ∃ g9, Keep (g9 = w6.heap.size) := ⟨_, ⟨rfl⟩⟩
        have Hg9 : Keep (w.heap.size < g9) := ⟨by rw [hg9.out]; exact HN6.out.lt⟩
        rw [← hg9.out] at HS7 ⊢
        generalize w6.alloc (.cells (bytesA n fun _ => 0) 5) = w7 at *
        clear HB6 HN6 hg9 hE0
        obtain ⟨vm, hvm, hrm⟩ := mid_any _ b w HRb.out 10 n (by have h1 := hE.out; omega)
        rw [show ((10 : Nat) : Int) + (n : Int) = (E : Int) by have h1 := hE.out; omega] at hvm
        obtain ⟨m, hm⟩ : ∃ m, Keep (m = openB b) := ⟨_, ⟨rfl⟩⟩
        have Hml : Keep (m.length = n) := ⟨by rw [hm.out]; unfold openB; rw [List.length_take, List.length_drop, ← hn.out]; have h1 := hE.out; omega⟩
        have HRm : Keep (RowAt w7 vm m) := ⟨by rw [hm.out]; unfold openB; rw [← hn.out]; exact hrm _ (HRb.out.below HB7.out)⟩
        have Hvm : Keep (∀ wx, (Instr.sliceAt 22 (.slice ba b.length bc) (some (.int .i64 10)) (some (.int .i64 (E : Int))) none).run Tryd.prog wx = .ok vm wx) := ⟨hvm⟩
        clear hrm hvm
        go_wp2_with (first | (refine wpList_slice2 rfl (.tmp 46) (.const (.int .i64 10)) (.tmp 47) rfl (.slice ba b.length bc) (.int .i64 10) (.int .i64 (E : Int)) vm rfl rfl rfl Hvm.out ?_; refine Hid.out ?_))
        refine hid_in ?_
        refine wpList_copyG rfl (.tmp 45) (.tmp 48) rfl g9 0 n n vm m 5 _ rfl rfl HS7.out (by rw [Hml.out]; exact Nat.le_refl _) (by rw [Hml.out, bytesA_size]; omega) HRm.out ?_
        have HS8 := Keep.mk (own_copied Hml.out Hn2.out (HS7.out.setRow ((bytesA n fun _ => 0).toList.take 0 ++ bv m ++ (bytesA n fun _ => 0).toList.drop (0 + m.length)).toArray))
        have HN8 := Keep.mk (HN7.out.setRow_ne (show w.heap.size ≠ g9 by have := Hg9.out; omega) ((bytesA n fun _ => 0).toList.take 0 ++ bv m ++ (bytesA n fun _ => 0).toList.drop (0 + m.length)).toArray)
        have HB8 := Keep.mk (below_setRow HB7.out (show w.heap.size ≤ g9 by have := Hg9.out; omega) ((bytesA n fun _ => 0).toList.take 0 ++ bv m ++ (bytesA n fun _ => 0).toList.drop (0 + m.length)).toArray)
        generalize w7.setRow g9 ((bytesA n fun _ => 0).toList.take 0 ++ bv m ++ (bytesA n fun _ => 0).toList.drop (0 + m.length)).toArray = w8 at *
        clear HS7 HN7 HB7 HRm Hvm
        obtain ⟨gb, off, cap, e, hcc⟩ := row_cells HRb.out (by omega)
        injection e with e1 e2 e3
        subst e1 e3
        have Hc := Keep.mk hcc
        have hgb : gb < w.heap.size := cell_lt (hcc 4 (by omega))
        have Hgb := Keep.mk hgb
        clear hcc e2 hgb
        have HC4 : Keep (∀ wx, Below w.heap.size w wx → wx.cell? ⟨gb, off + 4, none⟩ = some (.int .u8 (b.getD 4 0)) ∧ wx.cell? ⟨gb, off + 5, none⟩ = some (.int .u8 (b.getD 5 0))) := ⟨fun wx hx => ⟨by rw [hx.cell (p := ⟨gb, off + 4, none⟩) Hgb.out]; exact Hc.out 4 (by omega), by rw [hx.cell (p := ⟨gb, off + 5, none⟩) Hgb.out]; exact Hc.out 5 (by omega)⟩⟩
        have x4 := HBy.out.getD 4
        have x5 := HBy.out.getD 5
        obtain ⟨f4, hf4⟩ : ∃ f4, Keep (f4 = b.getD 4 0) := ⟨_, ⟨rfl⟩⟩
        obtain ⟨f5, hf5⟩ : ∃ f5, Keep (f5 = b.getD 5 0) := ⟨_, ⟨rfl⟩⟩
        rw [← hf4.out, ← hf5.out] at HC4
        rw [← hf4.out] at x4
        rw [← hf5.out] at x5
        obtain ⟨x4a, x4b⟩ := x4
        obtain ⟨x5a, x5b⟩ := x5
        have hw4 : IntKind.i64.wrap f4 = f4 := by rw [IntKind.wrap_i64]; omega
        have hw5 : IntKind.i64.wrap f5 = f5 := by rw [IntKind.wrap_i64]; omega
        have hD0 : Below w8.heap.size w8 w8.drew := (Below.refl _ _).drew
        have hl5 : (5 : Int) < (b.length : Int) := by omega
        have hl4 : (4 : Int) < (b.length : Int) := by omega
        go_wp2_with fail
        refine wp_region_held_drew (S := fun wx => wx.cell? ⟨gb, off + 4, none⟩ = some (.int .u8 f4) ∧ wx.cell? ⟨gb, off + 5, none⟩ = some (.int .u8 f5)) (by kernel_rfl) (HC4.out _ (HB8.out.trans (hD0.mono HB8.out.size))) (fun hHeld => ?_)
        have HN9 := Keep.mk (HN8.out.below hD0 HN8.out.lt)
        have HB9 := Keep.mk (HB8.out.trans (hD0.mono HB8.out.size))
        have HS9 := Keep.mk (HS8.out.grown (Grown.below (S := fun _ => False) hD0) fun _ _ h => h)
        clear hD0 HN8 HB8 HS8
        generalize w8.drew = w9 at *
        refine wpAnyH_take (i := 0) (oi := ⟨some 50, Op.move (Operand.tmp 1), 22, _, _, none⟩) (v := .slice (some ⟨gb, off, none⟩) b.length bc) rfl (by kernel_rfl) (by kernel_rfl) (by kernel_rfl) (fun _ _ _ h => h) (Or.inl ⟨by rfl, fun w hS => by go_simp⟩) hHeld ?_
        simp only [Act.put, List.setIfInBounds_toArray, List.set_cons_zero, List.set_cons_succ]
        refine wpAnyH_take (i := 1) (oi := ⟨some 51, Op.indexAddr 22 (Operand.tmp 50) (Operand.const (Value.int IntKind.i64 4)), 0, _, _, none⟩) (v := .pointer (some ⟨gb, off + 4, none⟩)) rfl (by kernel_rfl) (by kernel_rfl) (by kernel_rfl) (fun _ _ _ h => h) (Or.inl ⟨by rfl, fun w hS => by go_simp⟩) hHeld ?_
        simp only [Act.put, List.setIfInBounds_toArray, List.set_cons_zero, List.set_cons_succ]
        refine wpAnyH_take (i := 2) (oi := ⟨some 52, Op.load 5 (Operand.tmp 51), 5, _, _, none⟩) (v := .int .u8 f4) rfl (by kernel_rfl) (by kernel_rfl) (by kernel_rfl) (fun _ _ _ h => h) (Or.inl ⟨by rfl, fun w hS => by obtain ⟨h1, h2⟩ := hS; go_simp⟩) hHeld ?_
        simp only [Act.put, List.setIfInBounds_toArray, List.set_cons_zero, List.set_cons_succ]
        refine wpAnyH_take (i := 3) (oi := ⟨some 53, Op.convert 5 3 (Operand.tmp 52), 3, _, _, none⟩) (v := .int .i64 f4) rfl (by kernel_rfl) (by kernel_rfl) (by kernel_rfl) (fun _ _ _ h => h) (Or.inl ⟨by rfl, fun w hS => by go_simp⟩) hHeld ?_
        simp only [Act.put, List.setIfInBounds_toArray, List.set_cons_zero, List.set_cons_succ]
        refine wpAnyH_take (i := 4) (oi := ⟨some 54, Op.move (Operand.tmp 1), 22, _, _, none⟩) (v := .slice (some ⟨gb, off, none⟩) b.length bc) rfl (by kernel_rfl) (by kernel_rfl) (by kernel_rfl) (fun _ _ _ h => h) (Or.inl ⟨by rfl, fun w hS => by go_simp⟩) hHeld ?_
        simp only [Act.put, List.setIfInBounds_toArray, List.set_cons_zero, List.set_cons_succ]
        refine wpAnyH_take (i := 5) (oi := ⟨some 55, Op.indexAddr 22 (Operand.tmp 54) (Operand.const (Value.int IntKind.i64 5)), 0, _, _, none⟩) (v := .pointer (some ⟨gb, off + 5, none⟩)) rfl (by kernel_rfl) (by kernel_rfl) (by kernel_rfl) (fun _ _ _ h => h) (Or.inl ⟨by rfl, fun w hS => by go_simp⟩) hHeld ?_
        simp only [Act.put, List.setIfInBounds_toArray, List.set_cons_zero, List.set_cons_succ]
        refine wpAnyH_take (i := 6) (oi := ⟨some 56, Op.load 5 (Operand.tmp 55), 5, _, _, none⟩) (v := .int .u8 f5) rfl (by kernel_rfl) (by kernel_rfl) (by kernel_rfl) (fun _ _ _ h => h) (Or.inl ⟨by rfl, fun w hS => by obtain ⟨h1, h2⟩ := hS; go_simp⟩) hHeld ?_
        simp only [Act.put, List.setIfInBounds_toArray, List.set_cons_zero, List.set_cons_succ]
        refine wpAnyH_take (i := 7) (oi := ⟨some 57, Op.convert 5 3 (Operand.tmp 56), 3, _, _, none⟩) (v := .int .i64 f5) rfl (by kernel_rfl) (by kernel_rfl) (by kernel_rfl) (fun _ _ _ h => h) (Or.inl ⟨by rfl, fun w hS => by go_simp⟩) hHeld ?_
        simp only [Act.put, List.setIfInBounds_toArray, List.set_cons_zero, List.set_cons_succ]
        refine wpAnyH_take (i := 8) (oi := ⟨some 58, Op.move (Operand.tmp 9), 22, _, _, none⟩) (v := .slice (some ⟨g9, 0, none⟩) n n) rfl (by kernel_rfl) (by kernel_rfl) (by kernel_rfl) (fun _ _ _ h => h) (Or.inl ⟨by rfl, fun w hS => by go_simp⟩) hHeld ?_
        simp only [Act.put, List.setIfInBounds_toArray, List.set_cons_zero, List.set_cons_succ]
        refine wpAnyH_take (i := 9) (oi := ⟨some 59, Op.build 26 #[(0, Operand.tmp 53), (1, Operand.tmp 57), (2, Operand.tmp 58)], 26, _, _, none⟩) (v := .agg (env3 f4 f5 (.slice (some ⟨g9, 0, none⟩) n n))) rfl (by kernel_rfl) (by kernel_rfl) (by kernel_rfl) (fun _ _ _ h => h) (Or.inl ⟨by rfl, fun w hS => by unfold env3; go_simp⟩) hHeld ?_
        simp only [Act.put, List.setIfInBounds_toArray, List.set_cons_zero, List.set_cons_succ]
        refine wpAnyH_ready (rs := [10]) (by kernel_rfl) (by simp) ?_
        refine AllReadyH.cons (o := ⟨none, Op.store 26 (Operand.tmp 4) (Operand.tmp 59), 0, _, _, none⟩) rfl (fun K hK => ?_) AllReadyH.nil
        rw [if_pos (by rfl)]
        refine wp_store_row 26 (.tmp 4) (.tmp 59) rfl w.heap.size (env3 f4 f5 (.slice (some ⟨g9, 0, none⟩) n n)) rfl rfl 26 (env3 0 0 (.slice none 0 0)) HN9.out (env3_info _ _ _) rfl (env3_one _ _ _ _ _) ?_
        have HNz := Keep.mk (HN9.out.setRow (env3 f4 f5 (.slice (some ⟨g9, 0, none⟩) n n)))
        have HBz := Keep.mk (below_setRow HB9.out (Nat.le_refl _) (env3 f4 f5 (.slice (some ⟨g9, 0, none⟩) n n)))
        have HSz : Keep (OwnT (w9.setRow w.heap.size (env3 f4 f5 (.slice (some ⟨g9, 0, none⟩) n n))) (.slice (some ⟨g9, 0, none⟩) n n) m) := ⟨HS9.out.grown (Grown.setRow (S := fun k => k = w.heap.size) _ _ _ fun _ => rfl) fun k hk e => by simp only [Value.ownBlock, Option.some.injEq] at hk; have := Hg9.out; omega⟩
        refine hK.out _ _ (HC4.out _ HBz.out) fun hHeld2 => ?_
        clear hK
        simp only [Act.put]
        refine wpAnyH_take (i := 11) (oi := ⟨some 5, Op.assign (Operand.const Value.nilIface), 31, _, _, none⟩) (v := .nilIface) rfl (by kernel_rfl) (by kernel_rfl) (by kernel_rfl) (fun _ _ _ h => h) (Or.inl ⟨by rfl, fun w hS => by go_simp⟩) hHeld2 ?_
        simp only [Act.put, List.setIfInBounds_toArray, List.set_cons_zero, List.set_cons_succ]
        refine wpAnyH_done (by kernel_rfl) ?_ _
        go_wp2
        exact bodyPost_ret (v := .tuple #[.agg (env3 f4 f5 (.slice (some ⟨g9, 0, none⟩) n n)), .nilIface]) (results_cell_row2 Tryd.results7 _ _ w.heap.size 26 _ (0, 0) _ _ rfl rfl HNz.out Tryd.underlying26 rfl (env3_info _ _ _)) rfl ⟨_, m, f4, f5, _, rfl, HBz.out, HSz.out, fun k hk => by simp only [Value.ownBlock, Option.some.injEq] at hk; have := Hg9.out; omega, .inl ⟨by rw [HO.out], rfl⟩, .inl ⟨by rw [HO.out], hf4.out, hf5.out, hm.out⟩⟩
      · have hrf : r = true := by rw [hr.out, decide_eq_false hm]; rfl
        subst hrf
        have HO : Keep (openE key b = (30, (E : Int))) := ⟨by rw [HOE.out, if_neg hm]⟩
        clear hm HOE hr
        have HX6 := Keep.mk (HN6.out.alloc (.cells #[.int .i64 30, .int .i64 (E : Int)] 46))
        have HY6 := Keep.mk (HB6.out.alloc HB6.out.size (.cells #[.int .i64 30, .int .i64 (E : Int)] 46))
        have HG6 := Keep.mk (Blk.new w6 46 #[.int .i64 30, .int .i64 (E : Int)])
        have Hg6 : Keep (w.heap.size < w6.heap.size) := ⟨HN6.out.lt⟩
        go_wp2_with (first | (refine wpList_store_row rfl 26 (.tmp 4) (.tmp 37) rfl w.heap.size (env3 0 0 (.slice none 0 0)) rfl rfl 26 (env3 0 0 (.slice none 0 0)) HX6.out (env3_info _ _ _) rfl (env3_one _ _ _ _ _) ?_; refine Hid.out ?_))
        refine hid_in ?_
        have HNz := Keep.mk (HX6.out.setRow (env3 0 0 (.slice none 0 0)))
        have HBz := Keep.mk (below_setRow HY6.out (Nat.le_refl _) (env3 0 0 (.slice none 0 0)))
        have HGz := Keep.mk (HG6.out.setRow_ne (show w6.heap.size ≠ w.heap.size by have := Hg6.out; omega) (env3 0 0 (.slice none 0 0)))
        go_wp2
        exact bodyPost_ret (v := .tuple #[.agg (env3 0 0 (.slice none 0 0)), .iface 43 (ptr w6.heap.size)]) (results_cell_row2 Tryd.results7 _ _ w.heap.size 26 _ (0, 0) _ _ rfl rfl HNz.out Tryd.underlying26 rfl (env3_info _ _ _)) rfl ⟨.slice none 0 0, [], 0, 0, _, rfl, HBz.out, .inl ⟨rfl, rfl⟩, by simp [Value.ownBlock], by rw [HO.out]; exact .inr (.inr ⟨show (30 : Int) ≠ 0 by decide, Int.natCast_nonneg _, _, Nat.le_of_lt Hg6.out, rfl, HGz.out⟩), by rw [HO.out]; exact .inr ⟨show (30 : Int) ≠ 0 by decide, rfl, rfl, rfl⟩⟩
    · have HO : Keep (openE key b = (y, p)) := ⟨openP_some Hk32.out hsome⟩
      have HP := Keep.mk (formE_pos hsome)
      have HG := Keep.mk hG
      have Hg : Keep (w.heap.size < g ∧ w.heap.size ≤ g) := ⟨by have := Hlt.out; omega, by have := Hlt.out; omega⟩
      clear hsome hG hg HV
      go_wp2_with (first | (refine wpList_store_row rfl 26 (.tmp 4) (.tmp 19) rfl w.heap.size (env3 0 0 (.slice none 0 0)) rfl rfl 26 (env3 0 0 (.slice none 0 0)) HN2.out (env3_info _ _ _) rfl (env3_one _ _ _ _ _) ?_; refine Hid.out ?_))
      refine hid_in ?_
      have HNz := Keep.mk (HN2.out.setRow (env3 0 0 (.slice none 0 0)))
      have HBz := Keep.mk (below_setRow HB2.out (Nat.le_refl _) (env3 0 0 (.slice none 0 0)))
      have HGz := Keep.mk (HG.out.setRow_ne (show g ≠ w.heap.size by have := Hg.out; omega) (env3 0 0 (.slice none 0 0)))
      go_wp2
      exact bodyPost_ret (v := .tuple #[.agg (env3 0 0 (.slice none 0 0)), .iface 43 (ptr g)]) (results_cell_row2 Tryd.results7 _ _ w.heap.size 26 _ (0, 0) _ _ rfl rfl HNz.out Tryd.underlying26 rfl (env3_info _ _ _)) rfl ⟨.slice none 0 0, [], 0, 0, _, rfl, HBz.out, .inl ⟨rfl, rfl⟩, by simp [Value.ownBlock], by rw [HO.out]; exact .inr (.inr ⟨HP.out.1, HP.out.2, g, Hg.out.2, rfl, HGz.out⟩), by rw [HO.out]; exact .inr ⟨HP.out.1, rfl, rfl, rfl⟩⟩
  · have hk32' : ((key.length : Int) == 32) = false := by simp; omega
    have hkI : ¬ (key.length : Int) = 32 := by omega
    have HE : Keep (openE key b = (1, -1)) := ⟨by unfold openE; rw [if_pos hk32]⟩
    clear hk32
    go_enter Tryd.func7, Tryd.ntmps7
    go_wp2_with (first | (refine wpList_new rfl 26 rfl _ Tryd.new26 ?_; refine Hid.out ?_))
    refine hid_in ?_
    generalize w.alloc (.cells #[.int .i64 0, .int .i64 0, .slice none 0 0] 26) = w1 at *
    go_wp2_with (first | (refine wpList_store_row rfl 26 (.tmp 4) (.tmp 13) rfl w.heap.size (env3 0 0 (.slice none 0 0)) rfl rfl 26 (env3 0 0 (.slice none 0 0)) HN0.out (env3_info _ _ _) rfl (env3_one _ _ _ _ _) ?_; refine Hid.out ?_))
    refine hid_in ?_
    have HNz := Keep.mk (HN0.out.setRow (env3 0 0 (.slice none 0 0)))
    have HBz := Keep.mk (below_setRow HB0.out (Nat.le_refl _) (env3 0 0 (.slice none 0 0)))
    go_wp2
    exact bodyPost_ret (v := .tuple #[.agg (env3 0 0 (.slice none 0 0)), .iface 27 (.int .i64 1)]) (results_cell_row2 Tryd.results7 _ _ w.heap.size 26 _ (0, 0) _ _ rfl rfl HNz.out Tryd.underlying26 rfl (env3_info _ _ _)) rfl ⟨.slice none 0 0, [], 0, 0, _, rfl, HBz.out, .inl ⟨rfl, rfl⟩, by simp [Value.ownBlock], by rw [HE.out]; exact .inr (.inl ⟨by decide, rfl, rfl⟩), by rw [HE.out]; exact .inr ⟨by decide, rfl, rfl, rfl⟩⟩
theorem open_ok : OpenOk := by
  intro vk vb key b w hk hb hkl hbl hby
  refine (openP_any vk vb key b w hk hb hkl hbl hby).mono ?_
  rintro e w' ⟨v, l, f, t, er, rfl, hB, hO, hf, hE, hc⟩
  refine ⟨v, l, f, t, er, rfl, hB, hO, hf, ?_⟩
  rcases hc with ⟨h0, h1, h2, h3⟩ | ⟨h0, h1, h2, h3⟩
  · rcases hE with ⟨_, rfl⟩ | ⟨h, _⟩ | ⟨h, _⟩
    · exact .inl ⟨h0, rfl, h1, h2, h3⟩
    · exact absurd h0 h
    · exact absurd h0 h
  · rcases hE with ⟨h, _⟩ | ⟨_, _, rfl⟩ | ⟨_, _, g, _, rfl, _⟩
    · exact absurd h h0
    · exact .inr ⟨h0, ⟨_, _, rfl⟩, h1, h2, h3⟩
    · exact .inr ⟨h0, ⟨_, _, rfl⟩, h1, h2, h3⟩
end Go.Proofs.YtpakaladpdoejaaDoor
