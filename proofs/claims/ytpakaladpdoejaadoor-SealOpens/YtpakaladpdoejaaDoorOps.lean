import Derived.Test.YtpakaladpdoejaaDoorRop
import Derived.Test.YtpakaladpdoejaaDoorTold
import Derived.Test.YtpakaladpdoejaaDoorGrwB
import Derived.Test.YtpakaladpdoejaaDoorRnd
namespace Go.Proofs.YtpakaladpdoejaaDoor
open Go.RowKit

theorem tnL_byts (l : List Int) : Byts (tnL l) := fun c hc => by
  unfold tnL at hc
  obtain ⟨x, hx, rfl⟩ := List.mem_map.1 hc
  exact xor_rng _ _ (by rw [IntKind.wrap_u8]; omega) (by omega)
def fO (key b : List Int) : Int := if (openE key b).1 = 0 then b.getD 4 0 else 0
def tO (key b : List Int) : Int := if (openE key b).1 = 0 then b.getD 5 0 else 0
def lO (key b : List Int) : List Int := if (openE key b).1 = 0 then openB b else []
theorem lO_len (key b : List Int) : (lO key b).length ≤ 2097152 := by
  unfold lO
  split
  · rename_i h
    obtain ⟨_, _, h3, _, _⟩ := openE_0 h
    unfold openB
    rw [List.length_take]; omega
  · simp
theorem refOpen_norm (vk vb : Value) (key b : List Int) (w : World) (hk : RowAt w vk key) (hb : RowAt w vb b) (hkl : key.length ≤ 140737488351232) (hbl : b.length ≤ 140737488351232) (hby : Byts b) :
    Calls Tryd.prog 6 #[vk, vb] w fun e w' => ∃ a n c, e = .returned (.tuple #[.agg (env3 (fO key b) (tO key b) (.slice a n c)), .int .i64 (openE key b).1, .int .i64 (openE key b).2]) ∧ Below w.heap.size w w' ∧ OwnT w' (.slice a n c) (lO key b) ∧ ∀ k, (Value.slice a n c).ownBlock = some k → w.heap.size ≤ k := by
  refine (refOpen_any vk vb key b w hk hb hkl hbl hby).mono ?_
  rintro e w' ⟨a, n, c, l, f, t, rfl, hB, hO, hf, hc⟩
  refine ⟨a, n, c, ?_, hB, ?_, hf⟩
  · rcases hc with ⟨h0, rfl, rfl, _⟩ | ⟨h0, rfl, rfl, _⟩
    · unfold fO tO; rw [if_pos h0, if_pos h0]
    · unfold fO tO; rw [if_neg h0, if_neg h0]
  · rcases hc with ⟨h0, _, _, rfl⟩ | ⟨h0, _, _, rfl⟩
    · unfold lO; rw [if_pos h0]; exact hO
    · unfold lO; rw [if_neg h0]; exact hO
theorem open_norm (vk vb : Value) (key b : List Int) (w : World) (hk : RowAt w vk key) (hb : RowAt w vb b) (hkl : key.length ≤ 140737488351232) (hbl : b.length ≤ 140737488351232) (hby : Byts b) :
    Calls Tryd.prog 7 #[vk, vb] w fun e w' => ∃ a n c er, e = .returned (.tuple #[.agg (env3 (fO key b) (tO key b) (.slice a n c)), er]) ∧ Below w.heap.size w w' ∧ OwnT w' (.slice a n c) (lO key b) ∧ (∀ k, (Value.slice a n c).ownBlock = some k → w.heap.size ≤ k) ∧ ErrV (openE key b) w.heap.size er w' := by
  refine (openP_any vk vb key b w hk hb hkl (by omega) hby).mono ?_
  rintro e w' ⟨v, l, f, t, er, rfl, hB, hO, hf, hE, hc⟩
  obtain ⟨a, n, c, rfl⟩ := hO.sl
  refine ⟨a, n, c, er, ?_, hB, ?_, hf, hE⟩
  · rcases hc with ⟨h0, rfl, rfl, _⟩ | ⟨h0, rfl, rfl, _⟩
    · unfold fO tO; rw [if_pos h0, if_pos h0]; rfl
    · unfold fO tO; rw [if_neg h0, if_neg h0]; rfl
  · rcases hc with ⟨h0, _, _, rfl⟩ | ⟨h0, _, _, rfl⟩
    · unfold lO; rw [if_pos h0]; exact hO
    · unfold lO; rw [if_neg h0]; exact hO
theorem ErrV.below {e : Int × Int} {B : Nat} {er : Value} {w w' : World} (h : ErrV e B er w) (hb : Below w.heap.size w w') : ErrV e B er w' := by
  rcases h with h | h | ⟨h1, h2, g, h3, h4, h5⟩
  · exact .inl h
  · exact .inr (.inl h)
  · exact .inr (.inr ⟨h1, h2, g, h3, h4, h5.below hb h5.lt⟩)
theorem told_any (e : Int × Int) (B : Nat) (er : Value) (w : World) (hE : ErrV e B er w) (hg : ErrT w) : Calls Tryd.prog 9 #[er, .int .i64 e.1, .int .i64 e.2] w fun ev w' => ev = .returned (.bool true) ∧ Below w.heap.size w w' := by
  rcases hE with ⟨h1, rfl⟩ | ⟨h1, h2, rfl⟩ | ⟨h1, h2, g, h3, rfl, h5⟩
  · rw [h1]
    refine (told_nil _ w).mono ?_
    rintro ev w' ⟨rfl, rfl⟩
    exact ⟨rfl, Below.refl _ _⟩
  · rw [h2]; exact told_num _ h1 w hg
  · exact told_bad _ _ h1 h2 g w h5 hg
/-- What was opened, in a variable. -/
structure Rs (w : World) (g : Nat) (f t : Int) (v : Value) (l : List Int) : Prop where
  blk : Blk w g 26 (env3 f t v)
  own : OwnT w v l
theorem Rs.next {w w' : World} {g : Nat} {f t : Int} {v : Value} {l : List Int} (h : Rs w g f t v l) (hb : Below w.heap.size w w') : Rs w' g f t v l :=
  ⟨h.blk.below hb h.blk.lt, h.own.grown (Grown.below (S := fun _ => False) hb) fun _ _ h => h⟩
theorem Rs.turn {w w' : World} {g gw : Nat} {f t : Int} {v : Value} {l m : List Int} (h : Rs w g f t v l) (hg : Grown w w' fun k => k = gw) (hw : Wd w gw m) (hv : ∀ k, v.ownBlock = some k → k ≠ gw) : Rs w' g f t v l :=
  ⟨hg.blk h.blk (blk_ne h.blk hw (by decide)), h.own.grown hg hv⟩
theorem Rs.cells {w : World} {g : Nat} {f t : Int} {v : Value} {l : List Int} (h : Rs w g f t v l) : w.cell? ⟨g, 0, none⟩ = some (.int .i64 f) ∧ w.cell? ⟨g, 1, none⟩ = some (.int .i64 t) ∧ w.cell? ⟨g, 2, none⟩ = some v := by
  refine ⟨?_, ?_, ?_⟩ <;> (rw [h.blk.cell]; rfl)
theorem Rs.stored {w : World} {g : Nat} {f t : Int} {a : Option Addr} {n c : Nat} {l : List Int} {old : Array Value} (hb : Blk w g 26 old) (ho : OwnT w (.slice a n c) l) : Rs (w.setRow g (env3 f t (.slice a n c))) g f t (.slice a n c) l :=
  ⟨hb.setRow _, ho.grown (Grown.setRow (S := fun k => k = g) _ _ _ fun _ => rfl) fun k hk e => (ho.ne hb (by decide)) (by rw [hk, e])⟩
/-- What stands between the calls of SealOpens. -/
structure Sp (w0 w : World) (gk gw : Nat) (kl bl : List Int) : Prop where
  k : Wd w gk kl
  d : Wd w gw bl
  low : Below w0.heap.size w0 w
  et : ErrT w
theorem Sp.next {w0 w w' : World} {gk gw : Nat} {kl bl : List Int} (h : Sp w0 w gk gw kl bl) (hb : Below w.heap.size w w') : Sp w0 w' gk gw kl bl :=
  ⟨h.k.below hb h.k.lt, h.d.below hb h.d.lt, h.low.trans (hb.mono h.low.size), h.et.below hb h.et.lt⟩
theorem Tryd.new26E (w : World) : (Instr.alloc 26 true (.tuple #[])).run Tryd.prog w = .ok (.pointer (some ⟨w.heap.size, 0, none⟩)) (w.alloc (.cells (env3 0 0 (.slice none 0 0)) 26)) := Tryd.new26 w
theorem Tryd.enter6 (w : World) (vs : Array Value) : (callFunc 6 vs).run Tryd.prog w = .ok (.enter 6 vs) w := by kernel_rfl
theorem Tryd.enter7 (w : World) (vs : Array Value) : (callFunc 7 vs).run Tryd.prog w = .ok (.enter 7 vs) w := by kernel_rfl
def three {α : Type} (x y z : α) : Nat → α := fun i => if i = 0 then x else if i = 1 then y else z
theorem ErrV.wider {e : Int × Int} {B B' : Nat} {er : Value} {w : World} (h : ErrV e B er w) (hb : B' ≤ B) : ErrV e B' er w := by
  rcases h with h | h | ⟨h1, h2, g, h3, h4, h5⟩
  · exact .inl h
  · exact .inr (.inl h)
  · exact .inr (.inr ⟨h1, h2, g, Nat.le_trans hb h3, h4, h5⟩)
theorem ErrV.setRow {e : Int × Int} {B : Nat} {er : Value} {w : World} {g' : Nat} {old : Array Value} (h : ErrV e B er w) (hb : Blk w g' 26 old) (cs : Array Value) : ErrV e B er (w.setRow g' cs) := by
  rcases h with h | h | ⟨h1, h2, g, h3, h4, h5⟩
  · exact .inl h
  · exact .inr (.inl h)
  · exact .inr (.inr ⟨h1, h2, g, h3, h4, h5.setRow_ne (blk_ne h5 hb (by decide)) cs⟩)
theorem ErrV.turn {e : Int × Int} {B : Nat} {er : Value} {w w' : World} {gw : Nat} {m : List Int} (h : ErrV e B er w) (hg : Grown w w' fun k => k = gw) (hw : Wd w gw m) : ErrV e B er w' := by
  rcases h with h | h | ⟨h1, h2, g, h3, h4, h5⟩
  · exact .inl h
  · exact .inr (.inl h)
  · exact .inr (.inr ⟨h1, h2, g, h3, h4, hg.blk h5 (blk_ne h5 hw (by decide))⟩)
set_option maxRecDepth 8000 in
set_option maxHeartbeats 8000000 in
theorem opens_any (vk vb : Value) (key b : List Int) (w : World) (hk : RowAt w vk key) (hb : RowAt w vb b) (hkl : key.length ≤ 140737488351232) (hbl : b.length ≤ 140737488351232) (hby : Byts b) (het : ErrT w) :
    Calls Tryd.prog 3 #[vk, vb] w fun e w' => e = .returned (.bool true) ∧ Below w.heap.size w w' := by
  have HRk := Keep.mk hk
  have HRb := Keep.mk hb
  have HKl := Keep.mk hkl
  have HBl := Keep.mk hbl
  have HBy := Keep.mk hby
  have HET := Keep.mk het
  obtain ⟨ka, kc, rfl⟩ := row_form hk
  obtain ⟨ba, bc, rfl⟩ := row_form hb
  have hsk : (key.length : Int) ≤ 140737488351232 := by omega
  have hsb : (b.length : Int) ≤ 140737488351232 := by omega
  clear hk hb hkl hbl hby het
  obtain ⟨f, hf⟩ : ∃ f, Keep (f = fO key b) := ⟨_, ⟨rfl⟩⟩
  obtain ⟨t, ht⟩ : ∃ t, Keep (t = tO key b) := ⟨_, ⟨rfl⟩⟩
  obtain ⟨L, hL⟩ : ∃ L, Keep (L = lO key b) := ⟨_, ⟨rfl⟩⟩
  obtain ⟨e1, he1⟩ : ∃ e1, Keep (e1 = (openE key b).1) := ⟨_, ⟨rfl⟩⟩
  obtain ⟨e2, he2⟩ : ∃ e2, Keep (e2 = (openE key b).2) := ⟨_, ⟨rfl⟩⟩
  have Hee : Keep (openE key b = (e1, e2)) := ⟨by rw [he1.out, he2.out]⟩
  go_enter Tryd.func3, Tryd.ntmps3
  go_wp2_with fail
  refine (fixed3_any mac_ok w).mono ?_
  rintro e w1 ⟨rfl, hb1⟩
  have HB1 := Keep.mk hb1
  clear hb1
  go_wp2_with fail
  refine (wide3_any _ key w1 (HRk.out.below HB1.out) (by have := HKl.out; omega)).mono ?_
  rintro e w2 ⟨rfl, hW, hb2⟩
  obtain ⟨gk, hgk⟩ : ∃ gk, Keep (gk = w1.heap.size) := ⟨_, ⟨rfl⟩⟩
  rw [← hgk.out] at hW
  rw [← hgk.out]
  have HB2 := Keep.mk (HB1.out.trans (hb2.mono HB1.out.size))
  have HK2 := Keep.mk hW
  have Hgk : Keep (w.heap.size ≤ gk) := ⟨by rw [hgk.out]; exact HB1.out.size⟩
  clear hW hb2 HB1 hgk
  go_wp2_with fail
  refine (wide3_any _ b w2 (HRb.out.below HB2.out) (by have := HBl.out; omega)).mono ?_
  rintro e w3 ⟨rfl, hW, hb3⟩
  obtain ⟨gw, hgw⟩ : ∃ gw, Keep (gw = w2.heap.size) := ⟨_, ⟨rfl⟩⟩
  rw [← hgw.out] at hW
  rw [← hgw.out]
  have HB3 := HB2.out.trans (hb3.mono HB2.out.size)
  have HS3 : Keep (Sp w w3 gk gw key b) := ⟨⟨HK2.out.below hb3 HK2.out.lt, hW, HB3, HET.out.below HB3 HET.out.lt⟩⟩
  have Hgkw : Keep (gk < gw) := ⟨by rw [hgw.out]; exact HK2.out.lt⟩
  clear hW hb3 HB2 HK2 hgw HB3
  obtain ⟨N, hN⟩ : ∃ N, Keep (N = w3.heap.size) := ⟨_, ⟨rfl⟩⟩
  have HNg : Keep (gw < N) := ⟨by rw [hN.out]; exact HS3.out.d.lt⟩
  go_wp2_with fail
  refine (refOpen_norm _ _ key b w3 (HRk.out.below HS3.out.low) (HRb.out.below HS3.out.low) HKl.out HBl.out HBy.out).mono ?_
  rintro e w4 ⟨wa, wn, wc, rfl, hb4, hO4, hf4⟩
  rw [← hf.out, ← ht.out, ← he1.out, ← he2.out]
  rw [← hL.out] at hO4
  have HS4 := Keep.mk (HS3.out.next hb4)
  have HO4 := Keep.mk hO4
  have Hfw : Keep (∀ k, (Value.slice wa wn wc).ownBlock = some k → N ≤ k) := ⟨fun k h => by rw [hN.out]; exact hf4 k h⟩
  have HN4 : Keep (N ≤ w4.heap.size) := ⟨by rw [hN.out]; exact hb4.size⟩
  clear hb4 hO4 hf4 HS3 hN
  obtain ⟨env, Henv⟩ : ∃ env, Keep (env = env3 f t (.slice wa wn wc)) := ⟨_, ⟨rfl⟩⟩
  rw [← Henv.out]
  have HIe : Keep ((Tryd.prog.info? 26).map (·.size) = some env.size) := ⟨by rw [Henv.out]; exact env3_info _ _ _⟩
  have HZe : Keep ((env3 0 0 (.slice none 0 0)).size = env.size) := ⟨by rw [Henv.out]; rfl⟩
  have HOe : Keep (env.all (·.oneCell') = true) := ⟨by rw [Henv.out]; exact env3_one _ _ _ _ _⟩
  go_wp2_with (first | (refine wpList_new rfl 26 rfl _ Tryd.new26E ?_; refine Hid.out ?_))
  refine hid_in ?_
  have HA5 := Keep.mk (Blk.new w4 26 (env3 0 0 (.slice none 0 0)))
  have HBe := Keep.mk (below_new w4 (.cells (env3 0 0 (.slice none 0 0)) 26))
  have HO5 := Keep.mk (HO4.out.box (.cells (env3 0 0 (.slice none 0 0)) 26))
  obtain ⟨g8, hg8⟩ : ∃ g8, Keep (g8 = w4.heap.size) := ⟨_, ⟨rfl⟩⟩
  rw [← hg8.out] at HA5 ⊢
  generalize w4.alloc (.cells (env3 0 0 (.slice none 0 0)) 26) = w5 at *
  go_wp2_with (first | (refine wpList_store_row rfl 26 (.tmp 8) (.tmp 38) rfl g8 env rfl rfl 26 (env3 0 0 (.slice none 0 0)) HA5.out HIe.out HZe.out HOe.out ?_; refine Hid.out ?_))
  refine hid_in ?_
  have hbs : Below w4.heap.size w4 (w5.setRow g8 env) := below_setRow HBe.out (Nat.le_of_eq hg8.out.symm) env
  have HS6 := Keep.mk (HS4.out.next hbs)
  have HW6 : Keep (Rs (w5.setRow g8 env) g8 f t (.slice wa wn wc) L) := ⟨by rw [Henv.out]; exact Rs.stored HA5.out HO5.out⟩
  have HN6 : Keep (N ≤ (w5.setRow g8 env).heap.size) := ⟨Nat.le_trans HN4.out hbs.size⟩
  generalize w5.setRow g8 env = w6 at *
  clear hbs HA5 HBe HO5 HIe HZe HOe HS4 HO4 HN4 hg8
  have hslk := sl_run (some ⟨gk, 0, none⟩) (key.length + 8) (key.length + 8) key.length (by omega)
  have hslw := sl_run (some ⟨gw, 0, none⟩) (b.length + 8) (b.length + 8) b.length (by omega)
  go_wp2_with fail
  try simp only [Act.put, List.setIfInBounds_toArray, List.set_cons_zero, List.set_cons_succ]
  go_cut [11, 12] from 41 to 52 (fun sx se wx => ∃ g a n c er, sx = ptr g ∧ er = se ∧ Rs wx g f t (.slice a n c) L ∧ (∀ k, (Value.slice a n c).ownBlock = some k → w6.heap.size ≤ k) ∧ ErrV (e1, e2) w6.heap.size er wx ∧ Below w6.heap.size w6 wx)
  case first =>
    have hD0 : Below w6.heap.size w6 w6.drew := (Below.refl _ _).drew
    refine wp_region_held_drew (S := fun _ => True) (by kernel_rfl) trivial (fun hHeld => ?_)
    refine wpAnyH_take (i := 0) (oi := ⟨some 42, Op.move (Operand.tmp 6), 22, _, _, none⟩) (v := .slice (some ⟨gk, 0, none⟩) (key.length + 8) (key.length + 8)) rfl (by kernel_rfl) (by kernel_rfl) (by kernel_rfl) (fun _ _ _ h => h) (Or.inl ⟨by rfl, fun w hS => by go_simp⟩) hHeld ?_
    simp only [Act.put, List.setIfInBounds_toArray, List.set_cons_zero, List.set_cons_succ]
    refine wpAnyH_take (i := 1) (oi := ⟨some 43, Op.move (Operand.tmp 0), 22, _, _, none⟩) (v := .slice ka key.length kc) rfl (by kernel_rfl) (by kernel_rfl) (by kernel_rfl) (fun _ _ _ h => h) (Or.inl ⟨by rfl, fun w hS => by go_simp⟩) hHeld ?_
    simp only [Act.put, List.setIfInBounds_toArray, List.set_cons_zero, List.set_cons_succ]
    refine wpAnyH_take (i := 2) (oi := ⟨some 44, Op.call { callee := Callee.builtin Builtin.len, args := #[Operand.tmp 43], argTypes := #[22] }, 3, _, _, none⟩) (v := .int .i64 (key.length : Int)) rfl (by kernel_rfl) (by kernel_rfl) (by kernel_rfl) (fun _ _ _ h => h) (Or.inl ⟨by rfl, fun w hS => by go_simp⟩) hHeld ?_
    simp only [Act.put, List.setIfInBounds_toArray, List.set_cons_zero, List.set_cons_succ]
    refine wpAnyH_take (i := 3) (oi := ⟨some 45, Op.slice 22 (Operand.tmp 42) none (some (Operand.tmp 44)) none, 22, _, _, none⟩) (v := .slice (some ⟨gk, 0, none⟩) key.length (key.length + 8)) rfl (by kernel_rfl) (by kernel_rfl) (by kernel_rfl) (fun _ _ _ h => h) (yieldsIf_slice (by rfl) 22 (Operand.tmp 42) (Operand.tmp 44) rfl _ _ _ rfl rfl hslk) hHeld ?_
    simp only [Act.put, List.setIfInBounds_toArray, List.set_cons_zero, List.set_cons_succ]
    refine wpAnyH_take (i := 4) (oi := ⟨some 46, Op.move (Operand.tmp 7), 22, _, _, none⟩) (v := .slice (some ⟨gw, 0, none⟩) (b.length + 8) (b.length + 8)) rfl (by kernel_rfl) (by kernel_rfl) (by kernel_rfl) (fun _ _ _ h => h) (Or.inl ⟨by rfl, fun w hS => by go_simp⟩) hHeld ?_
    simp only [Act.put, List.setIfInBounds_toArray, List.set_cons_zero, List.set_cons_succ]
    refine wpAnyH_take (i := 5) (oi := ⟨some 47, Op.move (Operand.tmp 1), 22, _, _, none⟩) (v := .slice ba b.length bc) rfl (by kernel_rfl) (by kernel_rfl) (by kernel_rfl) (fun _ _ _ h => h) (Or.inl ⟨by rfl, fun w hS => by go_simp⟩) hHeld ?_
    simp only [Act.put, List.setIfInBounds_toArray, List.set_cons_zero, List.set_cons_succ]
    refine wpAnyH_take (i := 6) (oi := ⟨some 48, Op.call { callee := Callee.builtin Builtin.len, args := #[Operand.tmp 47], argTypes := #[22] }, 3, _, _, none⟩) (v := .int .i64 (b.length : Int)) rfl (by kernel_rfl) (by kernel_rfl) (by kernel_rfl) (fun _ _ _ h => h) (Or.inl ⟨by rfl, fun w hS => by go_simp⟩) hHeld ?_
    simp only [Act.put, List.setIfInBounds_toArray, List.set_cons_zero, List.set_cons_succ]
    refine wpAnyH_take (i := 7) (oi := ⟨some 49, Op.slice 22 (Operand.tmp 46) none (some (Operand.tmp 48)) none, 22, _, _, none⟩) (v := .slice (some ⟨gw, 0, none⟩) b.length (b.length + 8)) rfl (by kernel_rfl) (by kernel_rfl) (by kernel_rfl) (fun _ _ _ h => h) (yieldsIf_slice (by rfl) 22 (Operand.tmp 46) (Operand.tmp 48) rfl _ _ _ rfl rfl hslw) hHeld ?_
    simp only [Act.put, List.setIfInBounds_toArray, List.set_cons_zero, List.set_cons_succ]
    generalize w6.drew = wd at *
    refine wpAnyH_ready (rs := [8, 12]) (by kernel_rfl) (by simp) ?_
    refine AllReadyH.cons (o := ⟨some 50, Op.call { callee := Callee.value (Operand.func 7), args := #[Operand.tmp 45, Operand.tmp 49], argTypes := #[22, 22] }, 32, _, _, none⟩) rfl (fun K hK => ?_) (AllReadyH.cons (o := ⟨some 11, Op.alloc 26, 0, _, _, none⟩) rfl (fun K hK => ?_) AllReadyH.nil)
    all_goals rw [if_pos (by rfl)]
    · refine wp_callF 7 _ _ rfl Tryd.enter7 #[.slice (some ⟨gk, 0, none⟩) key.length (key.length + 8), .slice (some ⟨gw, 0, none⟩) b.length (b.length + 8)] (by simp [Act.eval]) (fun vz wz => ∃ a n c er, vz = .tuple #[.agg (env3 f t (.slice a n c)), er] ∧ Below w6.heap.size w6 wz ∧ OwnT wz (.slice a n c) L ∧ (∀ k, (Value.slice a n c).ownBlock = some k → w6.heap.size ≤ k) ∧ ErrV (e1, e2) w6.heap.size er wz ∧ Below wd.heap.size wd wz) ?_ ?_
      · have hC := open_norm (.slice (some ⟨gk, 0, none⟩) key.length (key.length + 8)) (.slice (some ⟨gw, 0, none⟩) b.length (b.length + 8)) key b wd ((HS6.out.k.below hD0 HS6.out.k.lt).row _ (by omega)) ((HS6.out.d.below hD0 HS6.out.d.lt).row _ (by omega)) HKl.out HBl.out HBy.out
        rw [← hf.out, ← ht.out, ← hL.out, Hee.out] at hC
        refine hC.mono ?_
        rintro e wz ⟨a, n, c, er, rfl, hbz, hOz, hfz, hEz⟩
        exact ⟨_, rfl, a, n, c, er, rfl, hD0.trans (hbz.mono hD0.size), hOz, fun k hk => Nat.le_trans hD0.size (hfz k hk), hEz.wider hD0.size, hbz⟩
      rintro vz wo ⟨a, n, c, er, rfl, hbo, hOo, hfo, hEo, hbc⟩
      refine hK.out _ _ trivial fun hH1 => ?_
      clear hK
      simp only [Act.put, List.setIfInBounds_toArray, List.set_cons_zero, List.set_cons_succ]
      refine wpAnyH_take (i := 9) (oi := ⟨some 41, Op.move (Operand.tmp 50), 32, _, _, none⟩) (v := .tuple #[.agg (env3 f t (.slice a n c)), er]) rfl (by kernel_rfl) (by kernel_rfl) (by kernel_rfl) (fun _ _ _ h => h) (Or.inl ⟨by rfl, fun w hS => by go_simp⟩) hH1 ?_
      simp only [Act.put, List.setIfInBounds_toArray, List.set_cons_zero, List.set_cons_succ]
      refine wpAnyH_take (i := 10) (oi := ⟨some 51, Op.extract (Operand.tmp 41) 0, 26, _, _, none⟩) (v := .agg (env3 f t (.slice a n c))) rfl (by kernel_rfl) (by kernel_rfl) (by kernel_rfl) (fun _ _ _ h => h) (Or.inl ⟨by rfl, fun w hS => by go_simp⟩) hH1 ?_
      simp only [Act.put, List.setIfInBounds_toArray, List.set_cons_zero, List.set_cons_succ]
      refine wpAnyH_take (i := 11) (oi := ⟨some 52, Op.extract (Operand.tmp 41) 1, 31, _, _, none⟩) (v := er) rfl (by kernel_rfl) (by kernel_rfl) (by kernel_rfl) (fun _ _ _ h => h) (Or.inl ⟨by rfl, fun w hS => by go_simp⟩) hH1 ?_
      simp only [Act.put, List.setIfInBounds_toArray, List.set_cons_zero, List.set_cons_succ]
      refine wpAnyH_ready (rs := [12]) (by kernel_rfl) (by simp) ?_
      refine AllReadyH.cons (o := ⟨some 11, Op.alloc 26, 0, _, _, none⟩) rfl (fun K hK => ?_) AllReadyH.nil
      rw [if_pos (by rfl)]
      refine wp_newA 26 rfl _ Tryd.new26E ?_
      have hNn := Blk.new wo 26 (env3 0 0 (.slice none 0 0))
      have hBn := hbo.alloc hbo.size (.cells (env3 0 0 (.slice none 0 0)) 26)
      have hgN : w6.heap.size ≤ wo.heap.size := hbo.size
      replace hOo := hOo.box (.cells (env3 0 0 (.slice none 0 0)) 26)
      replace hEo := hEo.below (below_new wo (.cells (env3 0 0 (.slice none 0 0)) 26))
      refine hK.out _ _ trivial fun hH2 => ?_
      clear hK
      simp only [Act.put, List.setIfInBounds_toArray, List.set_cons_zero, List.set_cons_succ]
      refine wpAnyH_ready (rs := [13]) (by kernel_rfl) (by simp) ?_
      refine AllReadyH.cons (o := ⟨none, Op.store 26 (Operand.tmp 11) (Operand.tmp 51), 0, _, _, none⟩) rfl (fun K hK => ?_) AllReadyH.nil
      rw [if_pos (by rfl)]
      refine wp_store_row 26 (.tmp 11) (.tmp 51) rfl wo.heap.size (env3 f t (.slice a n c)) rfl rfl 26 (env3 0 0 (.slice none 0 0)) hNn (env3_info _ _ _) rfl (env3_one _ _ _ _ _) ?_
      have hRz : Rs ((wo.alloc (.cells (env3 0 0 (.slice none 0 0)) 26)).setRow wo.heap.size (env3 f t (.slice a n c))) wo.heap.size f t (.slice a n c) L := Rs.stored hNn hOo
      have hBz := below_setRow hBn hgN (env3 f t (.slice a n c))
      have hEz : ErrV (e1, e2) w6.heap.size er ((wo.alloc (.cells (env3 0 0 (.slice none 0 0)) 26)).setRow wo.heap.size (env3 f t (.slice a n c))) := hEo.setRow hNn _
      refine hK.out _ _ trivial fun hHz => ?_
      clear hK
      simp only [Act.put]
      refine wpAnyH_take (i := 14) (oi := ⟨some 12, Op.assign (Operand.tmp 52), 31, _, _, none⟩) (v := er) rfl (by kernel_rfl) (by kernel_rfl) (by kernel_rfl) (fun _ _ _ h => h) (Or.inl ⟨by rfl, fun w hS => by go_simp⟩) hHz ?_
      simp only [Act.put, List.setIfInBounds_toArray, List.set_cons_zero, List.set_cons_succ]
      refine wpAnyH_done (by kernel_rfl) ?_ _
      go_wp2_with fail
      go_meet
      case rel => exact ⟨_, a, n, c, er, rfl, rfl, hRz, hfo, hEz, hBz⟩
    · refine wp_newA 26 rfl _ Tryd.new26E ?_
      have hNn := Blk.new wd 26 (env3 0 0 (.slice none 0 0))
      have hBn := hD0.alloc hD0.size (.cells (env3 0 0 (.slice none 0 0)) 26)
      have hgN : w6.heap.size ≤ wd.heap.size := hD0.size
      refine hK.out _ _ trivial fun hH1 => ?_
      clear hK
      simp only [Act.put, List.setIfInBounds_toArray, List.set_cons_zero, List.set_cons_succ]
      obtain ⟨gn, hgn⟩ : ∃ gn, Keep (gn = wd.heap.size) := ⟨_, ⟨rfl⟩⟩
      rw [← hgn.out] at hNn hgN ⊢
      generalize wd.alloc (.cells (env3 0 0 (.slice none 0 0)) 26) = we at *
      refine wpAnyH_ready (rs := [8]) (by kernel_rfl) (by simp) ?_
      refine AllReadyH.cons (o := ⟨some 50, Op.call { callee := Callee.value (Operand.func 7), args := #[Operand.tmp 45, Operand.tmp 49], argTypes := #[22, 22] }, 32, _, _, none⟩) rfl (fun K hK => ?_) AllReadyH.nil
      rw [if_pos (by rfl)]
      refine wp_callF 7 _ _ rfl Tryd.enter7 #[.slice (some ⟨gk, 0, none⟩) key.length (key.length + 8), .slice (some ⟨gw, 0, none⟩) b.length (b.length + 8)] (by simp [Act.eval]) (fun vz wz => ∃ a n c er, vz = .tuple #[.agg (env3 f t (.slice a n c)), er] ∧ Below w6.heap.size w6 wz ∧ OwnT wz (.slice a n c) L ∧ (∀ k, (Value.slice a n c).ownBlock = some k → w6.heap.size ≤ k) ∧ ErrV (e1, e2) w6.heap.size er wz ∧ Below we.heap.size we wz) ?_ ?_
      · have hC := open_norm (.slice (some ⟨gk, 0, none⟩) key.length (key.length + 8)) (.slice (some ⟨gw, 0, none⟩) b.length (b.length + 8)) key b we ((HS6.out.k.below hBn HS6.out.k.lt).row _ (by omega)) ((HS6.out.d.below hBn HS6.out.d.lt).row _ (by omega)) HKl.out HBl.out HBy.out
        rw [← hf.out, ← ht.out, ← hL.out, Hee.out] at hC
        refine hC.mono ?_
        rintro e wz ⟨a, n, c, er, rfl, hbz, hOz, hfz, hEz⟩
        exact ⟨_, rfl, a, n, c, er, rfl, hBn.trans (hbz.mono hBn.size), hOz, fun k hk => Nat.le_trans hBn.size (hfz k hk), hEz.wider hBn.size, hbz⟩
      rintro vz wo ⟨a, n, c, er, rfl, hbo, hOo, hfo, hEo, hbc⟩
      refine hK.out _ _ trivial fun hH2 => ?_
      clear hK
      simp only [Act.put, List.setIfInBounds_toArray, List.set_cons_zero, List.set_cons_succ]
      refine wpAnyH_take (i := 9) (oi := ⟨some 41, Op.move (Operand.tmp 50), 32, _, _, none⟩) (v := .tuple #[.agg (env3 f t (.slice a n c)), er]) rfl (by kernel_rfl) (by kernel_rfl) (by kernel_rfl) (fun _ _ _ h => h) (Or.inl ⟨by rfl, fun w hS => by go_simp⟩) hH2 ?_
      simp only [Act.put, List.setIfInBounds_toArray, List.set_cons_zero, List.set_cons_succ]
      refine wpAnyH_take (i := 10) (oi := ⟨some 51, Op.extract (Operand.tmp 41) 0, 26, _, _, none⟩) (v := .agg (env3 f t (.slice a n c))) rfl (by kernel_rfl) (by kernel_rfl) (by kernel_rfl) (fun _ _ _ h => h) (Or.inl ⟨by rfl, fun w hS => by go_simp⟩) hH2 ?_
      simp only [Act.put, List.setIfInBounds_toArray, List.set_cons_zero, List.set_cons_succ]
      refine wpAnyH_take (i := 11) (oi := ⟨some 52, Op.extract (Operand.tmp 41) 1, 31, _, _, none⟩) (v := er) rfl (by kernel_rfl) (by kernel_rfl) (by kernel_rfl) (fun _ _ _ h => h) (Or.inl ⟨by rfl, fun w hS => by go_simp⟩) hH2 ?_
      simp only [Act.put, List.setIfInBounds_toArray, List.set_cons_zero, List.set_cons_succ]
      have hN2 := hNn.below hbc hNn.lt
      refine wpAnyH_ready (rs := [13]) (by kernel_rfl) (by simp) ?_
      refine AllReadyH.cons (o := ⟨none, Op.store 26 (Operand.tmp 11) (Operand.tmp 51), 0, _, _, none⟩) rfl (fun K hK => ?_) AllReadyH.nil
      rw [if_pos (by rfl)]
      refine wp_store_row 26 (.tmp 11) (.tmp 51) rfl gn (env3 f t (.slice a n c)) rfl rfl 26 (env3 0 0 (.slice none 0 0)) hN2 (env3_info _ _ _) rfl (env3_one _ _ _ _ _) ?_
      have hRz : Rs (wo.setRow gn (env3 f t (.slice a n c))) gn f t (.slice a n c) L := Rs.stored hN2 hOo
      have hBz := below_setRow hbo hgN (env3 f t (.slice a n c))
      have hEz : ErrV (e1, e2) w6.heap.size er (wo.setRow gn (env3 f t (.slice a n c))) := hEo.setRow hN2 _
      refine hK.out _ _ trivial fun hHz => ?_
      clear hK
      simp only [Act.put]
      refine wpAnyH_take (i := 14) (oi := ⟨some 12, Op.assign (Operand.tmp 52), 31, _, _, none⟩) (v := er) rfl (by kernel_rfl) (by kernel_rfl) (by kernel_rfl) (fun _ _ _ h => h) (Or.inl ⟨by rfl, fun w hS => by go_simp⟩) hHz ?_
      simp only [Act.put, List.setIfInBounds_toArray, List.set_cons_zero, List.set_cons_succ]
      refine wpAnyH_done (by kernel_rfl) ?_ _
      go_wp2_with fail
      go_meet
      case rel => exact ⟨_, a, n, c, er, rfl, rfl, hRz, hfo, hEz, hBz⟩
  case rest =>
    obtain ⟨gx, xa, xn, xc, ex, hs1, hs2, hR, hfr, hE, hbo⟩ := hcut
    subst hs1
    subst hs2
    obtain ⟨w7, hwo⟩ : ∃ w7, w7 = wc := ⟨_, rfl⟩
    rw [← hwo] at hR hE hbo ⊢
    clear hwo
    have HX7 := Keep.mk hR
    have HEx7 := Keep.mk hE
    have Hfx : Keep (∀ k, (Value.slice xa xn xc).ownBlock = some k → w6.heap.size ≤ k) := ⟨hfr⟩
    clear hR hE hfr
    have HS7 := Keep.mk (HS6.out.next hbo)
    have HW7 := Keep.mk (HW6.out.next hbo)
    have HNx := Keep.mk HN6.out
    have HN7 : Keep (N ≤ w7.heap.size) := ⟨Nat.le_trans HN6.out hbo.size⟩
    clear hbo HS6 HW6 HN6
    have hslk := sl_run (some ⟨gk, 0, none⟩) (key.length + 8) (key.length + 8) key.length (by omega)
    have hslw := sl_run (some ⟨gw, 0, none⟩) (b.length + 8) (b.length + 8) b.length (by omega)
    go_wp2_with fail
    try simp only [Act.put, List.setIfInBounds_toArray, List.set_cons_zero, List.set_cons_succ]
    go_cut [13, 14] from 53 to 64 (fun sx se wx => ∃ g a n c er, sx = ptr g ∧ er = se ∧ Rs wx g f t (.slice a n c) L ∧ (∀ k, (Value.slice a n c).ownBlock = some k → w7.heap.size ≤ k) ∧ ErrV (e1, e2) w7.heap.size er wx ∧ Below w7.heap.size w7 wx)
    case first =>
      have hD0 : Below w7.heap.size w7 w7.drew := (Below.refl _ _).drew
      refine wp_region_held_drew (S := fun _ => True) (by kernel_rfl) trivial (fun hHeld => ?_)
      refine wpAnyH_take (i := 0) (oi := ⟨some 54, Op.move (Operand.tmp 6), 22, _, _, none⟩) (v := .slice (some ⟨gk, 0, none⟩) (key.length + 8) (key.length + 8)) rfl (by kernel_rfl) (by kernel_rfl) (by kernel_rfl) (fun _ _ _ h => h) (Or.inl ⟨by rfl, fun w hS => by go_simp⟩) hHeld ?_
      simp only [Act.put, List.setIfInBounds_toArray, List.set_cons_zero, List.set_cons_succ]
      refine wpAnyH_take (i := 1) (oi := ⟨some 55, Op.move (Operand.tmp 0), 22, _, _, none⟩) (v := .slice ka key.length kc) rfl (by kernel_rfl) (by kernel_rfl) (by kernel_rfl) (fun _ _ _ h => h) (Or.inl ⟨by rfl, fun w hS => by go_simp⟩) hHeld ?_
      simp only [Act.put, List.setIfInBounds_toArray, List.set_cons_zero, List.set_cons_succ]
      refine wpAnyH_take (i := 2) (oi := ⟨some 56, Op.call { callee := Callee.builtin Builtin.len, args := #[Operand.tmp 55], argTypes := #[22] }, 3, _, _, none⟩) (v := .int .i64 (key.length : Int)) rfl (by kernel_rfl) (by kernel_rfl) (by kernel_rfl) (fun _ _ _ h => h) (Or.inl ⟨by rfl, fun w hS => by go_simp⟩) hHeld ?_
      simp only [Act.put, List.setIfInBounds_toArray, List.set_cons_zero, List.set_cons_succ]
      refine wpAnyH_take (i := 3) (oi := ⟨some 57, Op.slice 22 (Operand.tmp 54) none (some (Operand.tmp 56)) none, 22, _, _, none⟩) (v := .slice (some ⟨gk, 0, none⟩) key.length (key.length + 8)) rfl (by kernel_rfl) (by kernel_rfl) (by kernel_rfl) (fun _ _ _ h => h) (yieldsIf_slice (by rfl) 22 (Operand.tmp 54) (Operand.tmp 56) rfl _ _ _ rfl rfl hslk) hHeld ?_
      simp only [Act.put, List.setIfInBounds_toArray, List.set_cons_zero, List.set_cons_succ]
      refine wpAnyH_take (i := 4) (oi := ⟨some 58, Op.move (Operand.tmp 7), 22, _, _, none⟩) (v := .slice (some ⟨gw, 0, none⟩) (b.length + 8) (b.length + 8)) rfl (by kernel_rfl) (by kernel_rfl) (by kernel_rfl) (fun _ _ _ h => h) (Or.inl ⟨by rfl, fun w hS => by go_simp⟩) hHeld ?_
      simp only [Act.put, List.setIfInBounds_toArray, List.set_cons_zero, List.set_cons_succ]
      refine wpAnyH_take (i := 5) (oi := ⟨some 59, Op.move (Operand.tmp 1), 22, _, _, none⟩) (v := .slice ba b.length bc) rfl (by kernel_rfl) (by kernel_rfl) (by kernel_rfl) (fun _ _ _ h => h) (Or.inl ⟨by rfl, fun w hS => by go_simp⟩) hHeld ?_
      simp only [Act.put, List.setIfInBounds_toArray, List.set_cons_zero, List.set_cons_succ]
      refine wpAnyH_take (i := 6) (oi := ⟨some 60, Op.call { callee := Callee.builtin Builtin.len, args := #[Operand.tmp 59], argTypes := #[22] }, 3, _, _, none⟩) (v := .int .i64 (b.length : Int)) rfl (by kernel_rfl) (by kernel_rfl) (by kernel_rfl) (fun _ _ _ h => h) (Or.inl ⟨by rfl, fun w hS => by go_simp⟩) hHeld ?_
      simp only [Act.put, List.setIfInBounds_toArray, List.set_cons_zero, List.set_cons_succ]
      refine wpAnyH_take (i := 7) (oi := ⟨some 61, Op.slice 22 (Operand.tmp 58) none (some (Operand.tmp 60)) none, 22, _, _, none⟩) (v := .slice (some ⟨gw, 0, none⟩) b.length (b.length + 8)) rfl (by kernel_rfl) (by kernel_rfl) (by kernel_rfl) (fun _ _ _ h => h) (yieldsIf_slice (by rfl) 22 (Operand.tmp 58) (Operand.tmp 60) rfl _ _ _ rfl rfl hslw) hHeld ?_
      simp only [Act.put, List.setIfInBounds_toArray, List.set_cons_zero, List.set_cons_succ]
      generalize w7.drew = wd at *
      refine wpAnyH_ready (rs := [8, 12]) (by kernel_rfl) (by simp) ?_
      refine AllReadyH.cons (o := ⟨some 62, Op.call { callee := Callee.value (Operand.func 7), args := #[Operand.tmp 57, Operand.tmp 61], argTypes := #[22, 22] }, 32, _, _, none⟩) rfl (fun K hK => ?_) (AllReadyH.cons (o := ⟨some 13, Op.alloc 26, 0, _, _, none⟩) rfl (fun K hK => ?_) AllReadyH.nil)
      all_goals rw [if_pos (by rfl)]
      · refine wp_callF 7 _ _ rfl Tryd.enter7 #[.slice (some ⟨gk, 0, none⟩) key.length (key.length + 8), .slice (some ⟨gw, 0, none⟩) b.length (b.length + 8)] (by simp [Act.eval]) (fun vz wz => ∃ a n c er, vz = .tuple #[.agg (env3 f t (.slice a n c)), er] ∧ Below w7.heap.size w7 wz ∧ OwnT wz (.slice a n c) L ∧ (∀ k, (Value.slice a n c).ownBlock = some k → w7.heap.size ≤ k) ∧ ErrV (e1, e2) w7.heap.size er wz ∧ Below wd.heap.size wd wz) ?_ ?_
        · have hC := open_norm (.slice (some ⟨gk, 0, none⟩) key.length (key.length + 8)) (.slice (some ⟨gw, 0, none⟩) b.length (b.length + 8)) key b wd ((HS7.out.k.below hD0 HS7.out.k.lt).row _ (by omega)) ((HS7.out.d.below hD0 HS7.out.d.lt).row _ (by omega)) HKl.out HBl.out HBy.out
          rw [← hf.out, ← ht.out, ← hL.out, Hee.out] at hC
          refine hC.mono ?_
          rintro e wz ⟨a, n, c, er, rfl, hbz, hOz, hfz, hEz⟩
          exact ⟨_, rfl, a, n, c, er, rfl, hD0.trans (hbz.mono hD0.size), hOz, fun k hk => Nat.le_trans hD0.size (hfz k hk), hEz.wider hD0.size, hbz⟩
        rintro vz wo ⟨a, n, c, er, rfl, hbo, hOo, hfo, hEo, hbc⟩
        refine hK.out _ _ trivial fun hH1 => ?_
        clear hK
        simp only [Act.put, List.setIfInBounds_toArray, List.set_cons_zero, List.set_cons_succ]
        refine wpAnyH_take (i := 9) (oi := ⟨some 53, Op.move (Operand.tmp 62), 32, _, _, none⟩) (v := .tuple #[.agg (env3 f t (.slice a n c)), er]) rfl (by kernel_rfl) (by kernel_rfl) (by kernel_rfl) (fun _ _ _ h => h) (Or.inl ⟨by rfl, fun w hS => by go_simp⟩) hH1 ?_
        simp only [Act.put, List.setIfInBounds_toArray, List.set_cons_zero, List.set_cons_succ]
        refine wpAnyH_take (i := 10) (oi := ⟨some 63, Op.extract (Operand.tmp 53) 0, 26, _, _, none⟩) (v := .agg (env3 f t (.slice a n c))) rfl (by kernel_rfl) (by kernel_rfl) (by kernel_rfl) (fun _ _ _ h => h) (Or.inl ⟨by rfl, fun w hS => by go_simp⟩) hH1 ?_
        simp only [Act.put, List.setIfInBounds_toArray, List.set_cons_zero, List.set_cons_succ]
        refine wpAnyH_take (i := 11) (oi := ⟨some 64, Op.extract (Operand.tmp 53) 1, 31, _, _, none⟩) (v := er) rfl (by kernel_rfl) (by kernel_rfl) (by kernel_rfl) (fun _ _ _ h => h) (Or.inl ⟨by rfl, fun w hS => by go_simp⟩) hH1 ?_
        simp only [Act.put, List.setIfInBounds_toArray, List.set_cons_zero, List.set_cons_succ]
        refine wpAnyH_ready (rs := [12]) (by kernel_rfl) (by simp) ?_
        refine AllReadyH.cons (o := ⟨some 13, Op.alloc 26, 0, _, _, none⟩) rfl (fun K hK => ?_) AllReadyH.nil
        rw [if_pos (by rfl)]
        refine wp_newA 26 rfl _ Tryd.new26E ?_
        have hNn := Blk.new wo 26 (env3 0 0 (.slice none 0 0))
        have hBn := hbo.alloc hbo.size (.cells (env3 0 0 (.slice none 0 0)) 26)
        have hgN : w7.heap.size ≤ wo.heap.size := hbo.size
        replace hOo := hOo.box (.cells (env3 0 0 (.slice none 0 0)) 26)
        replace hEo := hEo.below (below_new wo (.cells (env3 0 0 (.slice none 0 0)) 26))
        refine hK.out _ _ trivial fun hH2 => ?_
        clear hK
        simp only [Act.put, List.setIfInBounds_toArray, List.set_cons_zero, List.set_cons_succ]
        refine wpAnyH_ready (rs := [13]) (by kernel_rfl) (by simp) ?_
        refine AllReadyH.cons (o := ⟨none, Op.store 26 (Operand.tmp 13) (Operand.tmp 63), 0, _, _, none⟩) rfl (fun K hK => ?_) AllReadyH.nil
        rw [if_pos (by rfl)]
        refine wp_store_row 26 (.tmp 13) (.tmp 63) rfl wo.heap.size (env3 f t (.slice a n c)) rfl rfl 26 (env3 0 0 (.slice none 0 0)) hNn (env3_info _ _ _) rfl (env3_one _ _ _ _ _) ?_
        have hRz : Rs ((wo.alloc (.cells (env3 0 0 (.slice none 0 0)) 26)).setRow wo.heap.size (env3 f t (.slice a n c))) wo.heap.size f t (.slice a n c) L := Rs.stored hNn hOo
        have hBz := below_setRow hBn hgN (env3 f t (.slice a n c))
        have hEz : ErrV (e1, e2) w7.heap.size er ((wo.alloc (.cells (env3 0 0 (.slice none 0 0)) 26)).setRow wo.heap.size (env3 f t (.slice a n c))) := hEo.setRow hNn _
        refine hK.out _ _ trivial fun hHz => ?_
        clear hK
        simp only [Act.put]
        refine wpAnyH_take (i := 14) (oi := ⟨some 14, Op.assign (Operand.tmp 64), 31, _, _, none⟩) (v := er) rfl (by kernel_rfl) (by kernel_rfl) (by kernel_rfl) (fun _ _ _ h => h) (Or.inl ⟨by rfl, fun w hS => by go_simp⟩) hHz ?_
        simp only [Act.put, List.setIfInBounds_toArray, List.set_cons_zero, List.set_cons_succ]
        refine wpAnyH_done (by kernel_rfl) ?_ _
        go_wp2_with fail
        go_meet
        case rel => exact ⟨_, a, n, c, er, rfl, rfl, hRz, hfo, hEz, hBz⟩
      · refine wp_newA 26 rfl _ Tryd.new26E ?_
        have hNn := Blk.new wd 26 (env3 0 0 (.slice none 0 0))
        have hBn := hD0.alloc hD0.size (.cells (env3 0 0 (.slice none 0 0)) 26)
        have hgN : w7.heap.size ≤ wd.heap.size := hD0.size
        refine hK.out _ _ trivial fun hH1 => ?_
        clear hK
        simp only [Act.put, List.setIfInBounds_toArray, List.set_cons_zero, List.set_cons_succ]
        obtain ⟨gn, hgn⟩ : ∃ gn, Keep (gn = wd.heap.size) := ⟨_, ⟨rfl⟩⟩
        rw [← hgn.out] at hNn hgN ⊢
        generalize wd.alloc (.cells (env3 0 0 (.slice none 0 0)) 26) = we at *
        refine wpAnyH_ready (rs := [8]) (by kernel_rfl) (by simp) ?_
        refine AllReadyH.cons (o := ⟨some 62, Op.call { callee := Callee.value (Operand.func 7), args := #[Operand.tmp 57, Operand.tmp 61], argTypes := #[22, 22] }, 32, _, _, none⟩) rfl (fun K hK => ?_) AllReadyH.nil
        rw [if_pos (by rfl)]
        refine wp_callF 7 _ _ rfl Tryd.enter7 #[.slice (some ⟨gk, 0, none⟩) key.length (key.length + 8), .slice (some ⟨gw, 0, none⟩) b.length (b.length + 8)] (by simp [Act.eval]) (fun vz wz => ∃ a n c er, vz = .tuple #[.agg (env3 f t (.slice a n c)), er] ∧ Below w7.heap.size w7 wz ∧ OwnT wz (.slice a n c) L ∧ (∀ k, (Value.slice a n c).ownBlock = some k → w7.heap.size ≤ k) ∧ ErrV (e1, e2) w7.heap.size er wz ∧ Below we.heap.size we wz) ?_ ?_
        · have hC := open_norm (.slice (some ⟨gk, 0, none⟩) key.length (key.length + 8)) (.slice (some ⟨gw, 0, none⟩) b.length (b.length + 8)) key b we ((HS7.out.k.below hBn HS7.out.k.lt).row _ (by omega)) ((HS7.out.d.below hBn HS7.out.d.lt).row _ (by omega)) HKl.out HBl.out HBy.out
          rw [← hf.out, ← ht.out, ← hL.out, Hee.out] at hC
          refine hC.mono ?_
          rintro e wz ⟨a, n, c, er, rfl, hbz, hOz, hfz, hEz⟩
          exact ⟨_, rfl, a, n, c, er, rfl, hBn.trans (hbz.mono hBn.size), hOz, fun k hk => Nat.le_trans hBn.size (hfz k hk), hEz.wider hBn.size, hbz⟩
        rintro vz wo ⟨a, n, c, er, rfl, hbo, hOo, hfo, hEo, hbc⟩
        refine hK.out _ _ trivial fun hH2 => ?_
        clear hK
        simp only [Act.put, List.setIfInBounds_toArray, List.set_cons_zero, List.set_cons_succ]
        refine wpAnyH_take (i := 9) (oi := ⟨some 53, Op.move (Operand.tmp 62), 32, _, _, none⟩) (v := .tuple #[.agg (env3 f t (.slice a n c)), er]) rfl (by kernel_rfl) (by kernel_rfl) (by kernel_rfl) (fun _ _ _ h => h) (Or.inl ⟨by rfl, fun w hS => by go_simp⟩) hH2 ?_
        simp only [Act.put, List.setIfInBounds_toArray, List.set_cons_zero, List.set_cons_succ]
        refine wpAnyH_take (i := 10) (oi := ⟨some 63, Op.extract (Operand.tmp 53) 0, 26, _, _, none⟩) (v := .agg (env3 f t (.slice a n c))) rfl (by kernel_rfl) (by kernel_rfl) (by kernel_rfl) (fun _ _ _ h => h) (Or.inl ⟨by rfl, fun w hS => by go_simp⟩) hH2 ?_
        simp only [Act.put, List.setIfInBounds_toArray, List.set_cons_zero, List.set_cons_succ]
        refine wpAnyH_take (i := 11) (oi := ⟨some 64, Op.extract (Operand.tmp 53) 1, 31, _, _, none⟩) (v := er) rfl (by kernel_rfl) (by kernel_rfl) (by kernel_rfl) (fun _ _ _ h => h) (Or.inl ⟨by rfl, fun w hS => by go_simp⟩) hH2 ?_
        simp only [Act.put, List.setIfInBounds_toArray, List.set_cons_zero, List.set_cons_succ]
        have hN2 := hNn.below hbc hNn.lt
        refine wpAnyH_ready (rs := [13]) (by kernel_rfl) (by simp) ?_
        refine AllReadyH.cons (o := ⟨none, Op.store 26 (Operand.tmp 13) (Operand.tmp 63), 0, _, _, none⟩) rfl (fun K hK => ?_) AllReadyH.nil
        rw [if_pos (by rfl)]
        refine wp_store_row 26 (.tmp 13) (.tmp 63) rfl gn (env3 f t (.slice a n c)) rfl rfl 26 (env3 0 0 (.slice none 0 0)) hN2 (env3_info _ _ _) rfl (env3_one _ _ _ _ _) ?_
        have hRz : Rs (wo.setRow gn (env3 f t (.slice a n c))) gn f t (.slice a n c) L := Rs.stored hN2 hOo
        have hBz := below_setRow hbo hgN (env3 f t (.slice a n c))
        have hEz : ErrV (e1, e2) w7.heap.size er (wo.setRow gn (env3 f t (.slice a n c))) := hEo.setRow hN2 _
        refine hK.out _ _ trivial fun hHz => ?_
        clear hK
        simp only [Act.put]
        refine wpAnyH_take (i := 14) (oi := ⟨some 14, Op.assign (Operand.tmp 64), 31, _, _, none⟩) (v := er) rfl (by kernel_rfl) (by kernel_rfl) (by kernel_rfl) (fun _ _ _ h => h) (Or.inl ⟨by rfl, fun w hS => by go_simp⟩) hHz ?_
        simp only [Act.put, List.setIfInBounds_toArray, List.set_cons_zero, List.set_cons_succ]
        refine wpAnyH_done (by kernel_rfl) ?_ _
        go_wp2_with fail
        go_meet
        case rel => exact ⟨_, a, n, c, er, rfl, rfl, hRz, hfo, hEz, hBz⟩
    case rest =>
      obtain ⟨gy, ya, yn, yc, ey, hs1, hs2, hR, hfr, hE, hbo⟩ := hcut
      subst hs1
      subst hs2
      obtain ⟨w8, hwo⟩ : ∃ w8, w8 = wc := ⟨_, rfl⟩
      rw [← hwo] at hR hE hbo ⊢
      clear hwo
      have HY8 := Keep.mk hR
      have HEy8 := Keep.mk hE
      have Hfy : Keep (∀ k, (Value.slice ya yn yc).ownBlock = some k → w7.heap.size ≤ k) := ⟨hfr⟩
      clear hR hE hfr
      have Hyx : Keep (∀ k, (Value.slice ya yn yc).ownBlock = some k → (Value.slice xa xn xc).ownBlock ≠ some k) := ⟨fun k h e => by have h1 := HX7.out.own.lt k e; have h2 := Hfy.out k h; omega⟩
      have HS8 := Keep.mk (HS7.out.next hbo)
      have HW8 := Keep.mk (HW7.out.next hbo)
      have HX8 := Keep.mk (HX7.out.next hbo)
      have HEx8 := Keep.mk (HEx7.out.below hbo)
      have HNy := Keep.mk HN7.out
      have HN8 : Keep (N ≤ w8.heap.size) := ⟨Nat.le_trans HN7.out hbo.size⟩
      clear hbo HS7 HW7 HX7 HEx7 HN7
      go_wp2_with fail
      refine (kept3_any gk _ key w8 HS8.out.k (HRk.out.below HS8.out.low) (by have := HKl.out; omega)).mono ?_
      rintro e w9 ⟨rfl, q, hq⟩
      have hbo : Below w8.heap.size w8 w9 := by rw [hq]; exact ⟨rfl, rfl, rfl, Nat.le_refl _, fun _ _ => rfl⟩
      clear hq
      have HS9 := Keep.mk (HS8.out.next hbo)
      have HW9 := Keep.mk (HW8.out.next hbo)
      have HX9 := Keep.mk (HX8.out.next hbo)
      have HY9 := Keep.mk (HY8.out.next hbo)
      have HEx9 := Keep.mk (HEx8.out.below hbo)
      have HEy9 := Keep.mk (HEy8.out.below hbo)
      have HN9 : Keep (N ≤ w9.heap.size) := ⟨Nat.le_trans HN8.out hbo.size⟩
      clear hbo HS8 HW8 HX8 HY8 HEx8 HEy8 HN8
      go_wp2_with fail
      refine (kept3_any gw _ b w9 HS9.out.d (HRb.out.below HS9.out.low) (by have := HBl.out; omega)).mono ?_
      rintro e w10 ⟨rfl, q, hq⟩
      have hbo : Below w9.heap.size w9 w10 := by rw [hq]; exact ⟨rfl, rfl, rfl, Nat.le_refl _, fun _ _ => rfl⟩
      clear hq
      have HS10 := Keep.mk (HS9.out.next hbo)
      have HW10 := Keep.mk (HW9.out.next hbo)
      have HX10 := Keep.mk (HX9.out.next hbo)
      have HY10 := Keep.mk (HY9.out.next hbo)
      have HEx10 := Keep.mk (HEx9.out.below hbo)
      have HEy10 := Keep.mk (HEy9.out.below hbo)
      have HN10 : Keep (N ≤ w10.heap.size) := ⟨Nat.le_trans HN9.out hbo.size⟩
      clear hbo HS9 HW9 HX9 HY9 HEx9 HEy9 HN9
      go_wp2_with fail
      refine (told_any (e1, e2) _ ex w10 HEx10.out HS10.out.et).mono ?_
      rintro e w11 ⟨rfl, hbo⟩
      have HS11 := Keep.mk (HS10.out.next hbo)
      have HW11 := Keep.mk (HW10.out.next hbo)
      have HX11 := Keep.mk (HX10.out.next hbo)
      have HY11 := Keep.mk (HY10.out.next hbo)
      have HEx11 := Keep.mk (HEx10.out.below hbo)
      have HEy11 := Keep.mk (HEy10.out.below hbo)
      have HN11 : Keep (N ≤ w11.heap.size) := ⟨Nat.le_trans HN10.out hbo.size⟩
      clear hbo HS10 HW10 HX10 HY10 HEx10 HEy10 HN10
      go_wp2_with fail
      refine (told_any (e1, e2) _ ey w11 HEy11.out HS11.out.et).mono ?_
      rintro e w12 ⟨rfl, hbo⟩
      have HS12 := Keep.mk (HS11.out.next hbo)
      have HW12 := Keep.mk (HW11.out.next hbo)
      have HX12 := Keep.mk (HX11.out.next hbo)
      have HY12 := Keep.mk (HY11.out.next hbo)
      have HEx12 := Keep.mk (HEx11.out.below hbo)
      have HEy12 := Keep.mk (HEy11.out.below hbo)
      have HN12 : Keep (N ≤ w12.heap.size) := ⟨Nat.le_trans HN11.out hbo.size⟩
      clear hbo HS11 HW11 HX11 HY11 HEx11 HEy11 HN11
      obtain ⟨cx0, cx1, cx2⟩ := HX12.out.cells
      obtain ⟨cy0, cy1, cy2⟩ := HY12.out.cells
      obtain ⟨cw0, cw1, cw2⟩ := HW12.out.cells
      go_wp2_with fail
      refine (same3_any _ _ L L w12 HX12.out.own.row HW12.out.own.row true (by rw [beq_toListBytes, beq_self_eq_true])).mono ?_
      rintro e wq ⟨rfl, hq⟩
      rw [hq]
      clear hq
      go_wp2_with fail
      refine (same3_any _ _ L L w12 HY12.out.own.row HW12.out.own.row true (by rw [beq_toListBytes, beq_self_eq_true])).mono ?_
      rintro e wq ⟨rfl, hq⟩
      rw [hq]
      clear hq
      go_wp2_with fail
      refine (turn3_any gw b w12 HS12.out.d (by have := HBl.out; omega)).mono ?_
      rintro e w13 ⟨rfl, hK, hg⟩
      clear cx0 cx1 cx2 cy0 cy1 cy2 cw0 cw1 cw2
      have Hxn : Keep (∀ k, (Value.slice xa xn xc).ownBlock = some k → N ≤ k) := ⟨fun k h => Nat.le_trans HNx.out (Hfx.out k h)⟩
      have Hyn : Keep (∀ k, (Value.slice ya yn yc).ownBlock = some k → N ≤ k) := ⟨fun k h => Nat.le_trans HNy.out (Hfy.out k h)⟩
      have HS13 : Keep (Sp w w13 gk gw key (tnL b)) := ⟨⟨hg.blk HS12.out.k (fun e => by have := Hgkw.out; omega), hK, HS12.out.low.trans (hg.to_below (fun k hk e => by have h1 := Hgk.out; have h2 := Hgkw.out; omega) HS12.out.low.size), HS12.out.et.grown hg (fun e => by have h1 := HET.out.lt; have h2 := Hgk.out; have h3 := Hgkw.out; omega)⟩⟩
      have HX13 := Keep.mk (HX12.out.turn hg HS12.out.d fun k h e => by have h1 := Hxn.out k h; have h2 := HNg.out; omega)
      have HY13 := Keep.mk (HY12.out.turn hg HS12.out.d fun k h e => by have h1 := Hyn.out k h; have h2 := HNg.out; omega)
      have HW13 := Keep.mk (HW12.out.turn hg HS12.out.d fun k h e => by have h1 := Hfw.out k h; have h2 := HNg.out; omega)
      have HN13 : Keep (N ≤ w13.heap.size) := ⟨Nat.le_trans HN12.out hg.size⟩
      clear hK hg HS12 HX12 HY12 HW12 HN12 HEx12 HEy12
      obtain ⟨b2, hb2⟩ : ∃ b2, Keep (b2 = tnL b) := ⟨_, ⟨rfl⟩⟩
      rw [← hb2.out] at HS13
      have Hb2 : Keep (b2.length = b.length) := ⟨by rw [hb2.out, tnL_len]⟩
      have Hby2 : Keep (Byts b2) := ⟨by rw [hb2.out]; exact tnL_byts _⟩
      have HRb2 : Keep (∀ wx, Wd wx gw b2 → RowAt wx (.slice (some ⟨gw, 0, none⟩) b.length (b.length + 8)) b2) := ⟨fun wx h => by rw [← Hb2.out]; exact h.row _ (by omega)⟩
      have HBl2 : Keep (b2.length ≤ 140737488351232) := ⟨by rw [Hb2.out]; exact HBl.out⟩
      obtain ⟨f', hf'⟩ : ∃ f', Keep (f' = fO key b2) := ⟨_, ⟨rfl⟩⟩
      obtain ⟨t', ht'⟩ : ∃ t', Keep (t' = tO key b2) := ⟨_, ⟨rfl⟩⟩
      obtain ⟨L', hL'⟩ : ∃ L', Keep (L' = lO key b2) := ⟨_, ⟨rfl⟩⟩
      obtain ⟨d1, hd1⟩ : ∃ d1, Keep (d1 = (openE key b2).1) := ⟨_, ⟨rfl⟩⟩
      obtain ⟨d2, hd2⟩ : ∃ d2, Keep (d2 = (openE key b2).2) := ⟨_, ⟨rfl⟩⟩
      have Hdd : Keep (openE key b2 = (d1, d2)) := ⟨by rw [hd1.out, hd2.out]⟩
      have hslk := sl_run (some ⟨gk, 0, none⟩) (key.length + 8) (key.length + 8) key.length (by omega)
      have hslw := sl_run (some ⟨gw, 0, none⟩) (b.length + 8) (b.length + 8) b.length (by omega)
      go_wp2_with fail
      try simp only [Act.put, List.setIfInBounds_toArray, List.set_cons_zero, List.set_cons_succ]
      go_cut [21, 22, 23] from 145 to 157 (fun sx s1 s2 wx => ∃ g a n c, sx = ptr g ∧ s1 = .int .i64 d1 ∧ s2 = .int .i64 d2 ∧ Rs wx g f' t' (.slice a n c) L' ∧ (∀ k, (Value.slice a n c).ownBlock = some k → w13.heap.size ≤ k) ∧ Below w13.heap.size w13 wx)
      case first =>
        have hD0 : Below w13.heap.size w13 w13.drew := (Below.refl _ _).drew
        refine wp_region_held_drew (S := fun _ => True) (by kernel_rfl) trivial (fun hHeld => ?_)
        refine wpAnyH_take (i := 0) (oi := ⟨some 146, Op.move (Operand.tmp 6), 22, _, _, none⟩) (v := .slice (some ⟨gk, 0, none⟩) (key.length + 8) (key.length + 8)) rfl (by kernel_rfl) (by kernel_rfl) (by kernel_rfl) (fun _ _ _ h => h) (Or.inl ⟨by rfl, fun w hS => by go_simp⟩) hHeld ?_
        simp only [Act.put, List.setIfInBounds_toArray, List.set_cons_zero, List.set_cons_succ]
        refine wpAnyH_take (i := 1) (oi := ⟨some 147, Op.move (Operand.tmp 0), 22, _, _, none⟩) (v := .slice ka key.length kc) rfl (by kernel_rfl) (by kernel_rfl) (by kernel_rfl) (fun _ _ _ h => h) (Or.inl ⟨by rfl, fun w hS => by go_simp⟩) hHeld ?_
        simp only [Act.put, List.setIfInBounds_toArray, List.set_cons_zero, List.set_cons_succ]
        refine wpAnyH_take (i := 2) (oi := ⟨some 148, Op.call { callee := Callee.builtin Builtin.len, args := #[Operand.tmp 147], argTypes := #[22] }, 3, _, _, none⟩) (v := .int .i64 (key.length : Int)) rfl (by kernel_rfl) (by kernel_rfl) (by kernel_rfl) (fun _ _ _ h => h) (Or.inl ⟨by rfl, fun w hS => by go_simp⟩) hHeld ?_
        simp only [Act.put, List.setIfInBounds_toArray, List.set_cons_zero, List.set_cons_succ]
        refine wpAnyH_take (i := 3) (oi := ⟨some 149, Op.slice 22 (Operand.tmp 146) none (some (Operand.tmp 148)) none, 22, _, _, none⟩) (v := .slice (some ⟨gk, 0, none⟩) key.length (key.length + 8)) rfl (by kernel_rfl) (by kernel_rfl) (by kernel_rfl) (fun _ _ _ h => h) (yieldsIf_slice (by rfl) 22 (Operand.tmp 146) (Operand.tmp 148) rfl _ _ _ rfl rfl hslk) hHeld ?_
        simp only [Act.put, List.setIfInBounds_toArray, List.set_cons_zero, List.set_cons_succ]
        refine wpAnyH_take (i := 4) (oi := ⟨some 150, Op.move (Operand.tmp 7), 22, _, _, none⟩) (v := .slice (some ⟨gw, 0, none⟩) (b.length + 8) (b.length + 8)) rfl (by kernel_rfl) (by kernel_rfl) (by kernel_rfl) (fun _ _ _ h => h) (Or.inl ⟨by rfl, fun w hS => by go_simp⟩) hHeld ?_
        simp only [Act.put, List.setIfInBounds_toArray, List.set_cons_zero, List.set_cons_succ]
        refine wpAnyH_take (i := 5) (oi := ⟨some 151, Op.move (Operand.tmp 1), 22, _, _, none⟩) (v := .slice ba b.length bc) rfl (by kernel_rfl) (by kernel_rfl) (by kernel_rfl) (fun _ _ _ h => h) (Or.inl ⟨by rfl, fun w hS => by go_simp⟩) hHeld ?_
        simp only [Act.put, List.setIfInBounds_toArray, List.set_cons_zero, List.set_cons_succ]
        refine wpAnyH_take (i := 6) (oi := ⟨some 152, Op.call { callee := Callee.builtin Builtin.len, args := #[Operand.tmp 151], argTypes := #[22] }, 3, _, _, none⟩) (v := .int .i64 (b.length : Int)) rfl (by kernel_rfl) (by kernel_rfl) (by kernel_rfl) (fun _ _ _ h => h) (Or.inl ⟨by rfl, fun w hS => by go_simp⟩) hHeld ?_
        simp only [Act.put, List.setIfInBounds_toArray, List.set_cons_zero, List.set_cons_succ]
        refine wpAnyH_take (i := 7) (oi := ⟨some 153, Op.slice 22 (Operand.tmp 150) none (some (Operand.tmp 152)) none, 22, _, _, none⟩) (v := .slice (some ⟨gw, 0, none⟩) b.length (b.length + 8)) rfl (by kernel_rfl) (by kernel_rfl) (by kernel_rfl) (fun _ _ _ h => h) (yieldsIf_slice (by rfl) 22 (Operand.tmp 150) (Operand.tmp 152) rfl _ _ _ rfl rfl hslw) hHeld ?_
        simp only [Act.put, List.setIfInBounds_toArray, List.set_cons_zero, List.set_cons_succ]
        generalize w13.drew = wd at *
        refine wpAnyH_ready (rs := [8, 13]) (by kernel_rfl) (by simp) ?_
        refine AllReadyH.cons (o := ⟨some 154, Op.call { callee := Callee.value (Operand.func 6), args := #[Operand.tmp 149, Operand.tmp 153], argTypes := #[22, 22] }, 28, _, _, none⟩) rfl (fun K hK => ?_) (AllReadyH.cons (o := ⟨some 21, Op.alloc 26, 0, _, _, none⟩) rfl (fun K hK => ?_) AllReadyH.nil)
        all_goals rw [if_pos (by rfl)]
        · refine wp_callF 6 _ _ rfl Tryd.enter6 #[.slice (some ⟨gk, 0, none⟩) key.length (key.length + 8), .slice (some ⟨gw, 0, none⟩) b.length (b.length + 8)] (by simp [Act.eval]) (fun vz wz => ∃ a n c, vz = .tuple #[.agg (env3 f' t' (.slice a n c)), .int .i64 d1, .int .i64 d2] ∧ Below w13.heap.size w13 wz ∧ OwnT wz (.slice a n c) L' ∧ (∀ k, (Value.slice a n c).ownBlock = some k → w13.heap.size ≤ k) ∧ Below wd.heap.size wd wz) ?_ ?_
          · have hC := refOpen_norm (.slice (some ⟨gk, 0, none⟩) key.length (key.length + 8)) (.slice (some ⟨gw, 0, none⟩) b.length (b.length + 8)) key b2 wd ((HS13.out.k.below hD0 HS13.out.k.lt).row _ (by omega)) (HRb2.out _ (HS13.out.d.below hD0 HS13.out.d.lt)) HKl.out HBl2.out Hby2.out
            rw [← hf'.out, ← ht'.out, ← hL'.out, ← hd1.out, ← hd2.out] at hC
            refine hC.mono ?_
            rintro e wz ⟨a, n, c, rfl, hbz, hOz, hfz⟩
            exact ⟨_, rfl, a, n, c, rfl, hD0.trans (hbz.mono hD0.size), hOz, fun k hk => Nat.le_trans hD0.size (hfz k hk), hbz⟩
          rintro vz wo ⟨a, n, c, rfl, hbo, hOo, hfo, hbc⟩
          refine hK.out _ _ trivial fun hH1 => ?_
          clear hK
          simp only [Act.put, List.setIfInBounds_toArray, List.set_cons_zero, List.set_cons_succ]
          refine wpAnyH_take (i := 9) (oi := ⟨some 145, Op.move (Operand.tmp 154), 28, _, _, none⟩) (v := .tuple #[.agg (env3 f' t' (.slice a n c)), .int .i64 d1, .int .i64 d2]) rfl (by kernel_rfl) (by kernel_rfl) (by kernel_rfl) (fun _ _ _ h => h) (Or.inl ⟨by rfl, fun w hS => by go_simp⟩) hH1 ?_
          simp only [Act.put, List.setIfInBounds_toArray, List.set_cons_zero, List.set_cons_succ]
          refine wpAnyH_take (i := 10) (oi := ⟨some 155, Op.extract (Operand.tmp 145) 0, 26, _, _, none⟩) (v := .agg (env3 f' t' (.slice a n c))) rfl (by kernel_rfl) (by kernel_rfl) (by kernel_rfl) (fun _ _ _ h => h) (Or.inl ⟨by rfl, fun w hS => by go_simp⟩) hH1 ?_
          simp only [Act.put, List.setIfInBounds_toArray, List.set_cons_zero, List.set_cons_succ]
          refine wpAnyH_take (i := 11) (oi := ⟨some 156, Op.extract (Operand.tmp 145) 1, 27, _, _, none⟩) (v := .int .i64 d1) rfl (by kernel_rfl) (by kernel_rfl) (by kernel_rfl) (fun _ _ _ h => h) (Or.inl ⟨by rfl, fun w hS => by go_simp⟩) hH1 ?_
          simp only [Act.put, List.setIfInBounds_toArray, List.set_cons_zero, List.set_cons_succ]
          refine wpAnyH_take (i := 12) (oi := ⟨some 157, Op.extract (Operand.tmp 145) 2, 3, _, _, none⟩) (v := .int .i64 d2) rfl (by kernel_rfl) (by kernel_rfl) (by kernel_rfl) (fun _ _ _ h => h) (Or.inl ⟨by rfl, fun w hS => by go_simp⟩) hH1 ?_
          simp only [Act.put, List.setIfInBounds_toArray, List.set_cons_zero, List.set_cons_succ]
          refine wpAnyH_ready (rs := [13]) (by kernel_rfl) (by simp) ?_
          refine AllReadyH.cons (o := ⟨some 21, Op.alloc 26, 0, _, _, none⟩) rfl (fun K hK => ?_) AllReadyH.nil
          rw [if_pos (by rfl)]
          refine wp_newA 26 rfl _ Tryd.new26E ?_
          have hNn := Blk.new wo 26 (env3 0 0 (.slice none 0 0))
          have hBn := hbo.alloc hbo.size (.cells (env3 0 0 (.slice none 0 0)) 26)
          have hgN : w13.heap.size ≤ wo.heap.size := hbo.size
          replace hOo := hOo.box (.cells (env3 0 0 (.slice none 0 0)) 26)
          refine hK.out _ _ trivial fun hH2 => ?_
          clear hK
          simp only [Act.put, List.setIfInBounds_toArray, List.set_cons_zero, List.set_cons_succ]
          refine wpAnyH_ready (rs := [14]) (by kernel_rfl) (by simp) ?_
          refine AllReadyH.cons (o := ⟨none, Op.store 26 (Operand.tmp 21) (Operand.tmp 155), 0, _, _, none⟩) rfl (fun K hK => ?_) AllReadyH.nil
          rw [if_pos (by rfl)]
          refine wp_store_row 26 (.tmp 21) (.tmp 155) rfl wo.heap.size (env3 f' t' (.slice a n c)) rfl rfl 26 (env3 0 0 (.slice none 0 0)) hNn (env3_info _ _ _) rfl (env3_one _ _ _ _ _) ?_
          have hRz : Rs ((wo.alloc (.cells (env3 0 0 (.slice none 0 0)) 26)).setRow wo.heap.size (env3 f' t' (.slice a n c))) wo.heap.size f' t' (.slice a n c) L' := Rs.stored hNn hOo
          have hBz := below_setRow hBn hgN (env3 f' t' (.slice a n c))
          refine hK.out _ _ trivial fun hHz => ?_
          clear hK
          simp only [Act.put]
          refine wpAnyH_take (i := 15) (oi := ⟨some 22, Op.assign (Operand.tmp 156), 27, _, _, none⟩) (v := .int .i64 d1) rfl (by kernel_rfl) (by kernel_rfl) (by kernel_rfl) (fun _ _ _ h => h) (Or.inl ⟨by rfl, fun w hS => by go_simp⟩) hHz ?_
          simp only [Act.put, List.setIfInBounds_toArray, List.set_cons_zero, List.set_cons_succ]
          refine wpAnyH_take (i := 16) (oi := ⟨some 23, Op.assign (Operand.tmp 157), 3, _, _, none⟩) (v := .int .i64 d2) rfl (by kernel_rfl) (by kernel_rfl) (by kernel_rfl) (fun _ _ _ h => h) (Or.inl ⟨by rfl, fun w hS => by go_simp⟩) hHz ?_
          simp only [Act.put, List.setIfInBounds_toArray, List.set_cons_zero, List.set_cons_succ]
          refine wpAnyH_done (by kernel_rfl) ?_ _
          go_wp2_with fail
          go_meet
          case rel => exact ⟨_, a, n, c, rfl, rfl, rfl, hRz, hfo, hBz⟩
        · refine wp_newA 26 rfl _ Tryd.new26E ?_
          have hNn := Blk.new wd 26 (env3 0 0 (.slice none 0 0))
          have hBn := hD0.alloc hD0.size (.cells (env3 0 0 (.slice none 0 0)) 26)
          have hgN : w13.heap.size ≤ wd.heap.size := hD0.size
          refine hK.out _ _ trivial fun hH1 => ?_
          clear hK
          simp only [Act.put, List.setIfInBounds_toArray, List.set_cons_zero, List.set_cons_succ]
          obtain ⟨gn, hgn⟩ : ∃ gn, Keep (gn = wd.heap.size) := ⟨_, ⟨rfl⟩⟩
          rw [← hgn.out] at hNn hgN ⊢
          generalize wd.alloc (.cells (env3 0 0 (.slice none 0 0)) 26) = we at *
          refine wpAnyH_ready (rs := [8]) (by kernel_rfl) (by simp) ?_
          refine AllReadyH.cons (o := ⟨some 154, Op.call { callee := Callee.value (Operand.func 6), args := #[Operand.tmp 149, Operand.tmp 153], argTypes := #[22, 22] }, 28, _, _, none⟩) rfl (fun K hK => ?_) AllReadyH.nil
          rw [if_pos (by rfl)]
          refine wp_callF 6 _ _ rfl Tryd.enter6 #[.slice (some ⟨gk, 0, none⟩) key.length (key.length + 8), .slice (some ⟨gw, 0, none⟩) b.length (b.length + 8)] (by simp [Act.eval]) (fun vz wz => ∃ a n c, vz = .tuple #[.agg (env3 f' t' (.slice a n c)), .int .i64 d1, .int .i64 d2] ∧ Below w13.heap.size w13 wz ∧ OwnT wz (.slice a n c) L' ∧ (∀ k, (Value.slice a n c).ownBlock = some k → w13.heap.size ≤ k) ∧ Below we.heap.size we wz) ?_ ?_
          · have hC := refOpen_norm (.slice (some ⟨gk, 0, none⟩) key.length (key.length + 8)) (.slice (some ⟨gw, 0, none⟩) b.length (b.length + 8)) key b2 we ((HS13.out.k.below hBn HS13.out.k.lt).row _ (by omega)) (HRb2.out _ (HS13.out.d.below hBn HS13.out.d.lt)) HKl.out HBl2.out Hby2.out
            rw [← hf'.out, ← ht'.out, ← hL'.out, ← hd1.out, ← hd2.out] at hC
            refine hC.mono ?_
            rintro e wz ⟨a, n, c, rfl, hbz, hOz, hfz⟩
            exact ⟨_, rfl, a, n, c, rfl, hBn.trans (hbz.mono hBn.size), hOz, fun k hk => Nat.le_trans hBn.size (hfz k hk), hbz⟩
          rintro vz wo ⟨a, n, c, rfl, hbo, hOo, hfo, hbc⟩
          refine hK.out _ _ trivial fun hH2 => ?_
          clear hK
          simp only [Act.put, List.setIfInBounds_toArray, List.set_cons_zero, List.set_cons_succ]
          refine wpAnyH_take (i := 9) (oi := ⟨some 145, Op.move (Operand.tmp 154), 28, _, _, none⟩) (v := .tuple #[.agg (env3 f' t' (.slice a n c)), .int .i64 d1, .int .i64 d2]) rfl (by kernel_rfl) (by kernel_rfl) (by kernel_rfl) (fun _ _ _ h => h) (Or.inl ⟨by rfl, fun w hS => by go_simp⟩) hH2 ?_
          simp only [Act.put, List.setIfInBounds_toArray, List.set_cons_zero, List.set_cons_succ]
          refine wpAnyH_take (i := 10) (oi := ⟨some 155, Op.extract (Operand.tmp 145) 0, 26, _, _, none⟩) (v := .agg (env3 f' t' (.slice a n c))) rfl (by kernel_rfl) (by kernel_rfl) (by kernel_rfl) (fun _ _ _ h => h) (Or.inl ⟨by rfl, fun w hS => by go_simp⟩) hH2 ?_
          simp only [Act.put, List.setIfInBounds_toArray, List.set_cons_zero, List.set_cons_succ]
          refine wpAnyH_take (i := 11) (oi := ⟨some 156, Op.extract (Operand.tmp 145) 1, 27, _, _, none⟩) (v := .int .i64 d1) rfl (by kernel_rfl) (by kernel_rfl) (by kernel_rfl) (fun _ _ _ h => h) (Or.inl ⟨by rfl, fun w hS => by go_simp⟩) hH2 ?_
          simp only [Act.put, List.setIfInBounds_toArray, List.set_cons_zero, List.set_cons_succ]
          refine wpAnyH_take (i := 12) (oi := ⟨some 157, Op.extract (Operand.tmp 145) 2, 3, _, _, none⟩) (v := .int .i64 d2) rfl (by kernel_rfl) (by kernel_rfl) (by kernel_rfl) (fun _ _ _ h => h) (Or.inl ⟨by rfl, fun w hS => by go_simp⟩) hH2 ?_
          simp only [Act.put, List.setIfInBounds_toArray, List.set_cons_zero, List.set_cons_succ]
          have hN2 := hNn.below hbc hNn.lt
          refine wpAnyH_ready (rs := [14]) (by kernel_rfl) (by simp) ?_
          refine AllReadyH.cons (o := ⟨none, Op.store 26 (Operand.tmp 21) (Operand.tmp 155), 0, _, _, none⟩) rfl (fun K hK => ?_) AllReadyH.nil
          rw [if_pos (by rfl)]
          refine wp_store_row 26 (.tmp 21) (.tmp 155) rfl gn (env3 f' t' (.slice a n c)) rfl rfl 26 (env3 0 0 (.slice none 0 0)) hN2 (env3_info _ _ _) rfl (env3_one _ _ _ _ _) ?_
          have hRz : Rs (wo.setRow gn (env3 f' t' (.slice a n c))) gn f' t' (.slice a n c) L' := Rs.stored hN2 hOo
          have hBz := below_setRow hbo hgN (env3 f' t' (.slice a n c))
          refine hK.out _ _ trivial fun hHz => ?_
          clear hK
          simp only [Act.put]
          refine wpAnyH_take (i := 15) (oi := ⟨some 22, Op.assign (Operand.tmp 156), 27, _, _, none⟩) (v := .int .i64 d1) rfl (by kernel_rfl) (by kernel_rfl) (by kernel_rfl) (fun _ _ _ h => h) (Or.inl ⟨by rfl, fun w hS => by go_simp⟩) hHz ?_
          simp only [Act.put, List.setIfInBounds_toArray, List.set_cons_zero, List.set_cons_succ]
          refine wpAnyH_take (i := 16) (oi := ⟨some 23, Op.assign (Operand.tmp 157), 3, _, _, none⟩) (v := .int .i64 d2) rfl (by kernel_rfl) (by kernel_rfl) (by kernel_rfl) (fun _ _ _ h => h) (Or.inl ⟨by rfl, fun w hS => by go_simp⟩) hHz ?_
          simp only [Act.put, List.setIfInBounds_toArray, List.set_cons_zero, List.set_cons_succ]
          refine wpAnyH_done (by kernel_rfl) ?_ _
          go_wp2_with fail
          go_meet
          case rel => exact ⟨_, a, n, c, rfl, rfl, rfl, hRz, hfo, hBz⟩
      case rest =>
        obtain ⟨gv, va, vn, vc, hs1, hs2, hs3, hR, hfr, hbo⟩ := hcut
        subst hs1
        subst hs2
        subst hs3
        obtain ⟨w14, hwo⟩ : ∃ w14, w14 = wc := ⟨_, rfl⟩
        rw [← hwo] at hR hbo ⊢
        clear hwo
        have HV14 := Keep.mk hR
        clear hR hfr
        have HS14 := Keep.mk (HS13.out.next hbo)
        have HW14 := Keep.mk (HW13.out.next hbo)
        have HX14 := Keep.mk (HX13.out.next hbo)
        have HY14 := Keep.mk (HY13.out.next hbo)
        have HN14 : Keep (N ≤ w14.heap.size) := ⟨Nat.le_trans HN13.out hbo.size⟩
        clear hbo HS13 HW13 HX13 HY13 HN13
        have hslk := sl_run (some ⟨gk, 0, none⟩) (key.length + 8) (key.length + 8) key.length (by omega)
        have hslw := sl_run (some ⟨gw, 0, none⟩) (b.length + 8) (b.length + 8) b.length (by omega)
        go_wp2_with fail
        try simp only [Act.put, List.setIfInBounds_toArray, List.set_cons_zero, List.set_cons_succ]
        go_cut [24, 25] from 158 to 169 (fun sx se wx => ∃ g a n c er, sx = ptr g ∧ er = se ∧ Rs wx g f' t' (.slice a n c) L' ∧ (∀ k, (Value.slice a n c).ownBlock = some k → w14.heap.size ≤ k) ∧ ErrV (d1, d2) w14.heap.size er wx ∧ Below w14.heap.size w14 wx)
        case first =>
          have hD0 : Below w14.heap.size w14 w14.drew := (Below.refl _ _).drew
          refine wp_region_held_drew (S := fun _ => True) (by kernel_rfl) trivial (fun hHeld => ?_)
          refine wpAnyH_take (i := 0) (oi := ⟨some 159, Op.move (Operand.tmp 6), 22, _, _, none⟩) (v := .slice (some ⟨gk, 0, none⟩) (key.length + 8) (key.length + 8)) rfl (by kernel_rfl) (by kernel_rfl) (by kernel_rfl) (fun _ _ _ h => h) (Or.inl ⟨by rfl, fun w hS => by go_simp⟩) hHeld ?_
          simp only [Act.put, List.setIfInBounds_toArray, List.set_cons_zero, List.set_cons_succ]
          refine wpAnyH_take (i := 1) (oi := ⟨some 160, Op.move (Operand.tmp 0), 22, _, _, none⟩) (v := .slice ka key.length kc) rfl (by kernel_rfl) (by kernel_rfl) (by kernel_rfl) (fun _ _ _ h => h) (Or.inl ⟨by rfl, fun w hS => by go_simp⟩) hHeld ?_
          simp only [Act.put, List.setIfInBounds_toArray, List.set_cons_zero, List.set_cons_succ]
          refine wpAnyH_take (i := 2) (oi := ⟨some 161, Op.call { callee := Callee.builtin Builtin.len, args := #[Operand.tmp 160], argTypes := #[22] }, 3, _, _, none⟩) (v := .int .i64 (key.length : Int)) rfl (by kernel_rfl) (by kernel_rfl) (by kernel_rfl) (fun _ _ _ h => h) (Or.inl ⟨by rfl, fun w hS => by go_simp⟩) hHeld ?_
          simp only [Act.put, List.setIfInBounds_toArray, List.set_cons_zero, List.set_cons_succ]
          refine wpAnyH_take (i := 3) (oi := ⟨some 162, Op.slice 22 (Operand.tmp 159) none (some (Operand.tmp 161)) none, 22, _, _, none⟩) (v := .slice (some ⟨gk, 0, none⟩) key.length (key.length + 8)) rfl (by kernel_rfl) (by kernel_rfl) (by kernel_rfl) (fun _ _ _ h => h) (yieldsIf_slice (by rfl) 22 (Operand.tmp 159) (Operand.tmp 161) rfl _ _ _ rfl rfl hslk) hHeld ?_
          simp only [Act.put, List.setIfInBounds_toArray, List.set_cons_zero, List.set_cons_succ]
          refine wpAnyH_take (i := 4) (oi := ⟨some 163, Op.move (Operand.tmp 7), 22, _, _, none⟩) (v := .slice (some ⟨gw, 0, none⟩) (b.length + 8) (b.length + 8)) rfl (by kernel_rfl) (by kernel_rfl) (by kernel_rfl) (fun _ _ _ h => h) (Or.inl ⟨by rfl, fun w hS => by go_simp⟩) hHeld ?_
          simp only [Act.put, List.setIfInBounds_toArray, List.set_cons_zero, List.set_cons_succ]
          refine wpAnyH_take (i := 5) (oi := ⟨some 164, Op.move (Operand.tmp 1), 22, _, _, none⟩) (v := .slice ba b.length bc) rfl (by kernel_rfl) (by kernel_rfl) (by kernel_rfl) (fun _ _ _ h => h) (Or.inl ⟨by rfl, fun w hS => by go_simp⟩) hHeld ?_
          simp only [Act.put, List.setIfInBounds_toArray, List.set_cons_zero, List.set_cons_succ]
          refine wpAnyH_take (i := 6) (oi := ⟨some 165, Op.call { callee := Callee.builtin Builtin.len, args := #[Operand.tmp 164], argTypes := #[22] }, 3, _, _, none⟩) (v := .int .i64 (b.length : Int)) rfl (by kernel_rfl) (by kernel_rfl) (by kernel_rfl) (fun _ _ _ h => h) (Or.inl ⟨by rfl, fun w hS => by go_simp⟩) hHeld ?_
          simp only [Act.put, List.setIfInBounds_toArray, List.set_cons_zero, List.set_cons_succ]
          refine wpAnyH_take (i := 7) (oi := ⟨some 166, Op.slice 22 (Operand.tmp 163) none (some (Operand.tmp 165)) none, 22, _, _, none⟩) (v := .slice (some ⟨gw, 0, none⟩) b.length (b.length + 8)) rfl (by kernel_rfl) (by kernel_rfl) (by kernel_rfl) (fun _ _ _ h => h) (yieldsIf_slice (by rfl) 22 (Operand.tmp 163) (Operand.tmp 165) rfl _ _ _ rfl rfl hslw) hHeld ?_
          simp only [Act.put, List.setIfInBounds_toArray, List.set_cons_zero, List.set_cons_succ]
          generalize w14.drew = wd at *
          refine wpAnyH_ready (rs := [8, 12]) (by kernel_rfl) (by simp) ?_
          refine AllReadyH.cons (o := ⟨some 167, Op.call { callee := Callee.value (Operand.func 7), args := #[Operand.tmp 162, Operand.tmp 166], argTypes := #[22, 22] }, 32, _, _, none⟩) rfl (fun K hK => ?_) (AllReadyH.cons (o := ⟨some 24, Op.alloc 26, 0, _, _, none⟩) rfl (fun K hK => ?_) AllReadyH.nil)
          all_goals rw [if_pos (by rfl)]
          · refine wp_callF 7 _ _ rfl Tryd.enter7 #[.slice (some ⟨gk, 0, none⟩) key.length (key.length + 8), .slice (some ⟨gw, 0, none⟩) b.length (b.length + 8)] (by simp [Act.eval]) (fun vz wz => ∃ a n c er, vz = .tuple #[.agg (env3 f' t' (.slice a n c)), er] ∧ Below w14.heap.size w14 wz ∧ OwnT wz (.slice a n c) L' ∧ (∀ k, (Value.slice a n c).ownBlock = some k → w14.heap.size ≤ k) ∧ ErrV (d1, d2) w14.heap.size er wz ∧ Below wd.heap.size wd wz) ?_ ?_
            · have hC := open_norm (.slice (some ⟨gk, 0, none⟩) key.length (key.length + 8)) (.slice (some ⟨gw, 0, none⟩) b.length (b.length + 8)) key b2 wd ((HS14.out.k.below hD0 HS14.out.k.lt).row _ (by omega)) (HRb2.out _ (HS14.out.d.below hD0 HS14.out.d.lt)) HKl.out HBl2.out Hby2.out
              rw [← hf'.out, ← ht'.out, ← hL'.out, Hdd.out] at hC
              refine hC.mono ?_
              rintro e wz ⟨a, n, c, er, rfl, hbz, hOz, hfz, hEz⟩
              exact ⟨_, rfl, a, n, c, er, rfl, hD0.trans (hbz.mono hD0.size), hOz, fun k hk => Nat.le_trans hD0.size (hfz k hk), hEz.wider hD0.size, hbz⟩
            rintro vz wo ⟨a, n, c, er, rfl, hbo, hOo, hfo, hEo, hbc⟩
            refine hK.out _ _ trivial fun hH1 => ?_
            clear hK
            simp only [Act.put, List.setIfInBounds_toArray, List.set_cons_zero, List.set_cons_succ]
            refine wpAnyH_take (i := 9) (oi := ⟨some 158, Op.move (Operand.tmp 167), 32, _, _, none⟩) (v := .tuple #[.agg (env3 f' t' (.slice a n c)), er]) rfl (by kernel_rfl) (by kernel_rfl) (by kernel_rfl) (fun _ _ _ h => h) (Or.inl ⟨by rfl, fun w hS => by go_simp⟩) hH1 ?_
            simp only [Act.put, List.setIfInBounds_toArray, List.set_cons_zero, List.set_cons_succ]
            refine wpAnyH_take (i := 10) (oi := ⟨some 168, Op.extract (Operand.tmp 158) 0, 26, _, _, none⟩) (v := .agg (env3 f' t' (.slice a n c))) rfl (by kernel_rfl) (by kernel_rfl) (by kernel_rfl) (fun _ _ _ h => h) (Or.inl ⟨by rfl, fun w hS => by go_simp⟩) hH1 ?_
            simp only [Act.put, List.setIfInBounds_toArray, List.set_cons_zero, List.set_cons_succ]
            refine wpAnyH_take (i := 11) (oi := ⟨some 169, Op.extract (Operand.tmp 158) 1, 31, _, _, none⟩) (v := er) rfl (by kernel_rfl) (by kernel_rfl) (by kernel_rfl) (fun _ _ _ h => h) (Or.inl ⟨by rfl, fun w hS => by go_simp⟩) hH1 ?_
            simp only [Act.put, List.setIfInBounds_toArray, List.set_cons_zero, List.set_cons_succ]
            refine wpAnyH_ready (rs := [12]) (by kernel_rfl) (by simp) ?_
            refine AllReadyH.cons (o := ⟨some 24, Op.alloc 26, 0, _, _, none⟩) rfl (fun K hK => ?_) AllReadyH.nil
            rw [if_pos (by rfl)]
            refine wp_newA 26 rfl _ Tryd.new26E ?_
            have hNn := Blk.new wo 26 (env3 0 0 (.slice none 0 0))
            have hBn := hbo.alloc hbo.size (.cells (env3 0 0 (.slice none 0 0)) 26)
            have hgN : w14.heap.size ≤ wo.heap.size := hbo.size
            replace hOo := hOo.box (.cells (env3 0 0 (.slice none 0 0)) 26)
            replace hEo := hEo.below (below_new wo (.cells (env3 0 0 (.slice none 0 0)) 26))
            refine hK.out _ _ trivial fun hH2 => ?_
            clear hK
            simp only [Act.put, List.setIfInBounds_toArray, List.set_cons_zero, List.set_cons_succ]
            refine wpAnyH_ready (rs := [13]) (by kernel_rfl) (by simp) ?_
            refine AllReadyH.cons (o := ⟨none, Op.store 26 (Operand.tmp 24) (Operand.tmp 168), 0, _, _, none⟩) rfl (fun K hK => ?_) AllReadyH.nil
            rw [if_pos (by rfl)]
            refine wp_store_row 26 (.tmp 24) (.tmp 168) rfl wo.heap.size (env3 f' t' (.slice a n c)) rfl rfl 26 (env3 0 0 (.slice none 0 0)) hNn (env3_info _ _ _) rfl (env3_one _ _ _ _ _) ?_
            have hRz : Rs ((wo.alloc (.cells (env3 0 0 (.slice none 0 0)) 26)).setRow wo.heap.size (env3 f' t' (.slice a n c))) wo.heap.size f' t' (.slice a n c) L' := Rs.stored hNn hOo
            have hBz := below_setRow hBn hgN (env3 f' t' (.slice a n c))
            have hEz : ErrV (d1, d2) w14.heap.size er ((wo.alloc (.cells (env3 0 0 (.slice none 0 0)) 26)).setRow wo.heap.size (env3 f' t' (.slice a n c))) := hEo.setRow hNn _
            refine hK.out _ _ trivial fun hHz => ?_
            clear hK
            simp only [Act.put]
            refine wpAnyH_take (i := 14) (oi := ⟨some 25, Op.assign (Operand.tmp 169), 31, _, _, none⟩) (v := er) rfl (by kernel_rfl) (by kernel_rfl) (by kernel_rfl) (fun _ _ _ h => h) (Or.inl ⟨by rfl, fun w hS => by go_simp⟩) hHz ?_
            simp only [Act.put, List.setIfInBounds_toArray, List.set_cons_zero, List.set_cons_succ]
            refine wpAnyH_done (by kernel_rfl) ?_ _
            go_wp2_with fail
            go_meet
            case rel => exact ⟨_, a, n, c, er, rfl, rfl, hRz, hfo, hEz, hBz⟩
          · refine wp_newA 26 rfl _ Tryd.new26E ?_
            have hNn := Blk.new wd 26 (env3 0 0 (.slice none 0 0))
            have hBn := hD0.alloc hD0.size (.cells (env3 0 0 (.slice none 0 0)) 26)
            have hgN : w14.heap.size ≤ wd.heap.size := hD0.size
            refine hK.out _ _ trivial fun hH1 => ?_
            clear hK
            simp only [Act.put, List.setIfInBounds_toArray, List.set_cons_zero, List.set_cons_succ]
            obtain ⟨gn, hgn⟩ : ∃ gn, Keep (gn = wd.heap.size) := ⟨_, ⟨rfl⟩⟩
            rw [← hgn.out] at hNn hgN ⊢
            generalize wd.alloc (.cells (env3 0 0 (.slice none 0 0)) 26) = we at *
            refine wpAnyH_ready (rs := [8]) (by kernel_rfl) (by simp) ?_
            refine AllReadyH.cons (o := ⟨some 167, Op.call { callee := Callee.value (Operand.func 7), args := #[Operand.tmp 162, Operand.tmp 166], argTypes := #[22, 22] }, 32, _, _, none⟩) rfl (fun K hK => ?_) AllReadyH.nil
            rw [if_pos (by rfl)]
            refine wp_callF 7 _ _ rfl Tryd.enter7 #[.slice (some ⟨gk, 0, none⟩) key.length (key.length + 8), .slice (some ⟨gw, 0, none⟩) b.length (b.length + 8)] (by simp [Act.eval]) (fun vz wz => ∃ a n c er, vz = .tuple #[.agg (env3 f' t' (.slice a n c)), er] ∧ Below w14.heap.size w14 wz ∧ OwnT wz (.slice a n c) L' ∧ (∀ k, (Value.slice a n c).ownBlock = some k → w14.heap.size ≤ k) ∧ ErrV (d1, d2) w14.heap.size er wz ∧ Below we.heap.size we wz) ?_ ?_
            · have hC := open_norm (.slice (some ⟨gk, 0, none⟩) key.length (key.length + 8)) (.slice (some ⟨gw, 0, none⟩) b.length (b.length + 8)) key b2 we ((HS14.out.k.below hBn HS14.out.k.lt).row _ (by omega)) (HRb2.out _ (HS14.out.d.below hBn HS14.out.d.lt)) HKl.out HBl2.out Hby2.out
              rw [← hf'.out, ← ht'.out, ← hL'.out, Hdd.out] at hC
              refine hC.mono ?_
              rintro e wz ⟨a, n, c, er, rfl, hbz, hOz, hfz, hEz⟩
              exact ⟨_, rfl, a, n, c, er, rfl, hBn.trans (hbz.mono hBn.size), hOz, fun k hk => Nat.le_trans hBn.size (hfz k hk), hEz.wider hBn.size, hbz⟩
            rintro vz wo ⟨a, n, c, er, rfl, hbo, hOo, hfo, hEo, hbc⟩
            refine hK.out _ _ trivial fun hH2 => ?_
            clear hK
            simp only [Act.put, List.setIfInBounds_toArray, List.set_cons_zero, List.set_cons_succ]
            refine wpAnyH_take (i := 9) (oi := ⟨some 158, Op.move (Operand.tmp 167), 32, _, _, none⟩) (v := .tuple #[.agg (env3 f' t' (.slice a n c)), er]) rfl (by kernel_rfl) (by kernel_rfl) (by kernel_rfl) (fun _ _ _ h => h) (Or.inl ⟨by rfl, fun w hS => by go_simp⟩) hH2 ?_
            simp only [Act.put, List.setIfInBounds_toArray, List.set_cons_zero, List.set_cons_succ]
            refine wpAnyH_take (i := 10) (oi := ⟨some 168, Op.extract (Operand.tmp 158) 0, 26, _, _, none⟩) (v := .agg (env3 f' t' (.slice a n c))) rfl (by kernel_rfl) (by kernel_rfl) (by kernel_rfl) (fun _ _ _ h => h) (Or.inl ⟨by rfl, fun w hS => by go_simp⟩) hH2 ?_
            simp only [Act.put, List.setIfInBounds_toArray, List.set_cons_zero, List.set_cons_succ]
            refine wpAnyH_take (i := 11) (oi := ⟨some 169, Op.extract (Operand.tmp 158) 1, 31, _, _, none⟩) (v := er) rfl (by kernel_rfl) (by kernel_rfl) (by kernel_rfl) (fun _ _ _ h => h) (Or.inl ⟨by rfl, fun w hS => by go_simp⟩) hH2 ?_
            simp only [Act.put, List.setIfInBounds_toArray, List.set_cons_zero, List.set_cons_succ]
            have hN2 := hNn.below hbc hNn.lt
            refine wpAnyH_ready (rs := [13]) (by kernel_rfl) (by simp) ?_
            refine AllReadyH.cons (o := ⟨none, Op.store 26 (Operand.tmp 24) (Operand.tmp 168), 0, _, _, none⟩) rfl (fun K hK => ?_) AllReadyH.nil
            rw [if_pos (by rfl)]
            refine wp_store_row 26 (.tmp 24) (.tmp 168) rfl gn (env3 f' t' (.slice a n c)) rfl rfl 26 (env3 0 0 (.slice none 0 0)) hN2 (env3_info _ _ _) rfl (env3_one _ _ _ _ _) ?_
            have hRz : Rs (wo.setRow gn (env3 f' t' (.slice a n c))) gn f' t' (.slice a n c) L' := Rs.stored hN2 hOo
            have hBz := below_setRow hbo hgN (env3 f' t' (.slice a n c))
            have hEz : ErrV (d1, d2) w14.heap.size er (wo.setRow gn (env3 f' t' (.slice a n c))) := hEo.setRow hN2 _
            refine hK.out _ _ trivial fun hHz => ?_
            clear hK
            simp only [Act.put]
            refine wpAnyH_take (i := 14) (oi := ⟨some 25, Op.assign (Operand.tmp 169), 31, _, _, none⟩) (v := er) rfl (by kernel_rfl) (by kernel_rfl) (by kernel_rfl) (fun _ _ _ h => h) (Or.inl ⟨by rfl, fun w hS => by go_simp⟩) hHz ?_
            simp only [Act.put, List.setIfInBounds_toArray, List.set_cons_zero, List.set_cons_succ]
            refine wpAnyH_done (by kernel_rfl) ?_ _
            go_wp2_with fail
            go_meet
            case rel => exact ⟨_, a, n, c, er, rfl, rfl, hRz, hfo, hEz, hBz⟩
        case rest =>
          obtain ⟨gz, za, zn, zc, ez, hs1, hs2, hR, hfr, hE, hbo⟩ := hcut
          subst hs1
          subst hs2
          obtain ⟨w15, hwo⟩ : ∃ w15, w15 = wc := ⟨_, rfl⟩
          rw [← hwo] at hR hE hbo ⊢
          clear hwo
          have HZ15 := Keep.mk hR
          have HEz15 := Keep.mk hE
          have Hfz : Keep (∀ k, (Value.slice za zn zc).ownBlock = some k → w14.heap.size ≤ k) := ⟨hfr⟩
          clear hR hE hfr
          have Hzn : Keep (∀ k, (Value.slice za zn zc).ownBlock = some k → N ≤ k ∧ (Value.slice xa xn xc).ownBlock ≠ some k ∧ (Value.slice ya yn yc).ownBlock ≠ some k) := ⟨fun k h => ⟨Nat.le_trans HN14.out (Hfz.out k h), fun e => by have h1 := HX14.out.own.lt k e; have h2 := Hfz.out k h; omega, fun e => by have h1 := HY14.out.own.lt k e; have h2 := Hfz.out k h; omega⟩⟩
          have HS15 := Keep.mk (HS14.out.next hbo)
          have HW15 := Keep.mk (HW14.out.next hbo)
          have HX15 := Keep.mk (HX14.out.next hbo)
          have HY15 := Keep.mk (HY14.out.next hbo)
          have HV15 := Keep.mk (HV14.out.next hbo)
          have HN15 : Keep (N ≤ w15.heap.size) := ⟨Nat.le_trans HN14.out hbo.size⟩
          clear hbo HS14 HW14 HX14 HY14 HV14 HN14
          go_wp2_with fail
          refine (told_any (d1, d2) _ ez w15 HEz15.out HS15.out.et).mono ?_
          rintro e w16 ⟨rfl, hbo⟩
          have HS16 := Keep.mk (HS15.out.next hbo)
          have HW16 := Keep.mk (HW15.out.next hbo)
          have HX16 := Keep.mk (HX15.out.next hbo)
          have HY16 := Keep.mk (HY15.out.next hbo)
          have HV16 := Keep.mk (HV15.out.next hbo)
          have HZ16 := Keep.mk (HZ15.out.next hbo)
          clear hbo HS15 HW15 HX15 HY15 HV15 HZ15
          clear HEz15
          obtain ⟨cx0, cx1, cx2⟩ := HX16.out.cells
          obtain ⟨cy0, cy1, cy2⟩ := HY16.out.cells
          obtain ⟨cw0, cw1, cw2⟩ := HW16.out.cells
          obtain ⟨cv0, cv1, cv2⟩ := HV16.out.cells
          obtain ⟨cz0, cz1, cz2⟩ := HZ16.out.cells
          go_wp2_with fail
          refine (same3_any _ _ L' L' w16 HZ16.out.own.row HV16.out.own.row true (by rw [beq_toListBytes, beq_self_eq_true])).mono ?_
          rintro e wq ⟨rfl, hq⟩
          rw [hq]
          clear hq
          go_wp2_with fail
          refine (same3_any _ _ L L w16 HX16.out.own.row HW16.out.own.row true (by rw [beq_toListBytes, beq_self_eq_true])).mono ?_
          rintro e wq ⟨rfl, hq⟩
          rw [hq]
          clear hq
          have HLl : Keep (L.length ≤ 2097152) := ⟨by rw [hL.out]; exact lO_len _ _⟩
          have HLm : Keep (L'.length ≤ 2097152) := ⟨by rw [hL'.out]; exact lO_len _ _⟩
          go_wp2_with fail
          have hbo := below_new w16 (.cells #[Value.slice xa xn xc, .slice ya yn yc, .slice za zn zc] 22)
          have hT := Blk.new w16 22 #[Value.slice xa xn xc, .slice ya yn yc, .slice za zn zc]
          obtain ⟨gl, hgl⟩ : ∃ gl, Keep (gl = w16.heap.size) := ⟨_, ⟨rfl⟩⟩
          rw [← hgl.out] at hT ⊢
          generalize w16.alloc (.cells #[Value.slice xa xn xc, .slice ya yn yc, .slice za zn zc] 22) = w17 at *
          have hX := (HX16.out.next hbo).own
          have hY := (HY16.out.next hbo).own
          have hZ := (HZ16.out.next hbo).own
          have hlow : Below w.heap.size w w17 := HS16.out.low.trans (hbo.mono HS16.out.low.size)
          have hFil : Fil w17 gl 3 (three (.slice xa xn xc) (.slice ya yn yc) (.slice za zn zc)) (three L L L') w17 := ⟨hT, fun j hj => by
            match j, hj with
            | 0, _ => exact hX
            | 1, _ => exact hY
            | 2, _ => exact hZ, Grown.refl _ _⟩
          have hSep : Sep 3 (three (.slice xa xn xc) (.slice ya yn yc) (.slice za zn zc)) := fun i j hi hj hij k hk => by
            match i, hi, j, hj with
            | 0, _, 0, _ => exact absurd rfl hij
            | 0, _, 1, _ => exact fun e => Hyx.out k e hk
            | 0, _, 2, _ => exact fun e => (Hzn.out k e).2.1 hk
            | 1, _, 0, _ => exact Hyx.out k hk
            | 1, _, 1, _ => exact absurd rfl hij
            | 1, _, 2, _ => exact fun e => (Hzn.out k e).2.2 hk
            | 2, _, 0, _ => exact (Hzn.out k hk).2.1
            | 2, _, 1, _ => exact (Hzn.out k hk).2.2
            | 2, _, 2, _ => exact absurd rfl hij
          have hFr : ∀ j, j < 3 → ∀ k, (three (Value.slice xa xn xc) (.slice ya yn yc) (.slice za zn zc) j).ownBlock = some k → N ≤ k := fun j hj k hk => by
            match j, hj with
            | 0, _ => exact Hxn.out k hk
            | 1, _ => exact Hyn.out k hk
            | 2, _ => exact (Hzn.out k hk).1
          have hNw : w.heap.size ≤ N := by have h1 := Hgk.out; have h2 := Hgkw.out; have h3 := HNg.out; omega
          refine (grown_any gl 3 _ _ w17 hFil hSep (by omega) (fun j hj => by
            match j, hj with
            | 0, _ => show L.length + 71 ≤ _; have := HLl.out; omega
            | 1, _ => show L.length + 71 ≤ _; have := HLl.out; omega
            | 2, _ => show L'.length + 71 ≤ _; have := HLm.out; omega)).mono ?_
          rintro e w18 ⟨rfl, hg⟩
          have HBz := Keep.mk (hlow.trans (hg.to_below (fun k hk ⟨j, hj, e⟩ => by have := hFr j hj k e; omega) hlow.size))
          clear hg hFil hSep hFr hX hY hZ hT hbo hlow
          go_wp2
          go_ret
          exact ⟨rfl, HBz.out⟩
end Go.Proofs.YtpakaladpdoejaaDoor
