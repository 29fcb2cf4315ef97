import Derived.Test.YtbbhjgflaiacaaaPcs
import Derived.Deep.QuietTactic
import Derived.BigQuiet
import Derived.Deep.RegionHeld3
namespace Go.Proofs.Ytbbhjgflaiacaaa
open Go.RowKit

/-- w' is w with more behind it; of the old blocks only those that S names may have changed. -/
structure Grown (w w' : World) (S : Nat → Prop) : Prop where
  os : w'.os = w.os
  tape : w'.tape = w.tape
  output : w'.output = w.output
  size : w.heap.size ≤ w'.heap.size
  block : ∀ k, k < w.heap.size → ¬ S k → w'.heap[k]? = w.heap[k]?
theorem Grown.refl (w : World) (S : Nat → Prop) : Grown w w S := ⟨rfl, rfl, rfl, Nat.le_refl _, fun _ _ _ => rfl⟩
theorem Grown.trans {a b c : World} {S : Nat → Prop} (h : Grown a b S) (k : Grown b c S) : Grown a c S :=
  ⟨k.os.trans h.os, k.tape.trans h.tape, k.output.trans h.output, Nat.le_trans h.size k.size, fun i hi hs => (k.block i (Nat.lt_of_lt_of_le hi h.size) hs).trans (h.block i hi hs)⟩
theorem Grown.by {a b : World} {S : Nat → Prop} {o : Option Nat} (h : a.grownBy b o) (ho : ∀ k, o = some k → S k ∨ a.heap.size ≤ k) : Grown a b S :=
  ⟨h.os, h.tape, h.output, h.size, fun i hi hs => h.block i hi (fun e => by
    rcases ho i e.symm with h1 | h1
    · exact hs h1
    · omega)⟩
theorem Grown.below {a b : World} {S : Nat → Prop} (h : Below a.heap.size a b) : Grown a b S := ⟨h.os, h.tape, h.output, h.size, fun i hi _ => h.block i hi⟩
theorem Grown.blk {a b : World} {S : Nat → Prop} (h : Grown a b S) {k : Nat} {T : TypeId} {cs : Array Value} (hk : Blk a k T cs) (hs : ¬ S k) : Blk b k T cs := by
  unfold Blk; rw [h.block k hk.lt hs]; exact hk
theorem Grown.to_below {a b c : World} {S : Nat → Prop} {B : Nat} (h : Grown b c S) (hb : Below B a b) (hs : ∀ k, k < B → ¬ S k) (hB : B ≤ b.heap.size) : Below B a c :=
  ⟨h.os.trans hb.os, h.tape.trans hb.tape, h.output.trans hb.output, Nat.le_trans hb.size h.size, fun i hi => (h.block i (by omega) (hs i hi)).trans (hb.block i hi)⟩
/-- The book at p with its digest at g. -/
def PG (p g : Nat) : Nat → Prop := fun k => k = p ∨ k = g
theorem owns_grown {a b : World} {S : Nat → Prop} {base : Nat} {v : Value} {n : Nat} {xs : List Value} (h : a.ownsRow base 5 1 v n xs) (hg : Grown a b S) (hs : ∀ k cs, Blk a k 5 cs → ¬ S k) : b.ownsRow base 5 1 v n xs := by
  refine ⟨h.1, ?_⟩
  rcases h.2 with h1 | ⟨g, cap, cur, rfl, h2, h3, h4⟩
  · exact .inl h1
  · exact .inr ⟨g, cap, cur, rfl, h2, hg.blk h3 (hs g cur h3), h4⟩

/-- What a step leaves of a book. -/
def StepPost (base p g : Nat) (nb : Nat) (w : World) (e : Ending) (w' : World) : Prop :=
  e = .returned (.bool true) ∧ ∃ v' b', Blk w' p 37 #[ptr g, v'] ∧ Blk w' g 66 (digA (absorbL dg0 b').s (absorbL dg0 b').r (absorbL dg0 b').n) ∧ w'.ownsRow base 5 1 v' b'.length (bv b') ∧ b'.length ≤ nb ∧ Grown w w' (PG p g)

/-- The book before a step. -/
structure BookAt (base p g : Nat) (v : Value) (b : List Int) (w : World) : Prop where
  book : Blk w p 37 #[ptr g, v]
  dig : Blk w g 66 (digA (absorbL dg0 b).s (absorbL dg0 b).r (absorbL dg0 b).n)
  row : w.ownsRow base 5 1 v b.length (bv b)
theorem BookAt.ne {base p g : Nat} {v : Value} {b : List Int} {w : World} (h : BookAt base p g v b w) : p ≠ g := by
  rintro rfl
  have h1 := h.book
  have h2 := h.dig
  unfold Blk at h1 h2
  rw [h1] at h2
  simp at h2
theorem BookAt.no5 {base p g : Nat} {v : Value} {b : List Int} {w : World} (h : BookAt base p g v b w) : ∀ k cs, Blk w k 5 cs → ¬ PG p g k := by
  rintro k cs hk (rfl | rfl)
  · have h1 := h.book; unfold Blk at h1 hk; rw [h1] at hk; simp at hk
  · have h1 := h.dig; unfold Blk at h1 hk; rw [h1] at hk; simp at hk

set_option maxHeartbeats 1000000 in
theorem step_reset (base p g : Nat) (v : Value) (b : List Int) (on : Int) (vB : Value) (nb : Nat) (w : World) (hB : BookAt base p g v b w) :
    Calls Try.prog 19 #[ptr p, .agg #[.int .i64 4, .int .i64 on, vB]] w (StepPost base p g nb w) := by
  have hne := hB.ne
  have hp1 := hB.book.alloc (.cells #[.int .i64 4, .int .i64 on, vB] 40)
  have hg1 := hB.dig.alloc (.cells #[.int .i64 4, .int .i64 on, vB] 40)
  have hbx := Blk.new w 40 #[.int .i64 4, .int .i64 on, vB]
  have hgw : Grown w (w.alloc (.cells #[.int .i64 4, .int .i64 on, vB] 40)) (PG p g) := Grown.below (below_new _ _)
  clear hB
  go_enter Try.func19, Try.ntmps19
  go_wp2_with (refine wpList_boxA rfl 40 (.tmp 1) rfl _ rfl ?_; refine Hid.out ?_)
  refine hid_in ?_
  generalize w.alloc (.cells #[.int .i64 4, .int .i64 on, vB] 40) = w1 at *
  have c0 : w1.cell? ⟨w.heap.size, 0, none⟩ = some (.int .i64 4) := by rw [hbx.cell]; rfl
  have cp : w1.cell? ⟨p, 0, none⟩ = some (ptr g) := by rw [hp1.cell]; rfl
  clear hbx
  go_wp2_with fail
  refine (reset_any g (absorbL dg0 b) w1 hg1).mono ?_
  rintro e w2 ⟨rfl, hg2, hgr2⟩
  have hgw2 := hgw.trans (Grown.by hgr2 fun k e => by injection e with e; exact .inl (.inr e.symm))
  have hp2 : Blk w2 p 37 #[ptr g, v] := by unfold Blk; rw [hgr2.block _ hp1.lt (by simpa using hne)]; exact hp1
  have c1 : w2.cell? ⟨p, 1, none⟩ = some v := by rw [hp2.cell]; rfl
  have f1 := hp2.frozen 1
  go_wp2
  go_ret
  refine ⟨rfl, .slice none 0 0, [], hp2.set 1 _, hg2.set_ne (fun e => hne e.symm) _, ⟨rfl, .inl ⟨rfl, rfl⟩⟩, Nat.zero_le _, hgw2.trans (Grown.by (grownBy_setCell _ _ _ _) fun k e => by injection e with e; exact .inl (.inl e.symm))⟩

theorem BookAt.alloc {base p g : Nat} {v : Value} {b : List Int} {w : World} (h : BookAt base p g v b w) (o : Obj) : BookAt base p g v b (w.alloc o) :=
  ⟨h.book.alloc o, h.dig.alloc o, h.row.alloc o⟩
theorem BookAt.below {base p g : Nat} {v : Value} {b : List Int} {w w' : World} (h : BookAt base p g v b w) (hb : Below w.heap.size w w') : BookAt base p g v b w' :=
  ⟨h.book.below hb h.book.lt, h.dig.below hb h.dig.lt, owns_grown h.row (Grown.below (S := fun _ => False) hb) (fun _ _ _ h => h)⟩

set_option maxHeartbeats 1000000 in
theorem step_len (base p g : Nat) (v : Value) (b : List Int) (on : Int) (vB : Value) (nb : Nat) (w : World) (hB : BookAt base p g v b w) (hnb : b.length ≤ nb) :
    Calls Try.prog 19 #[ptr p, .agg #[.int .i64 3, .int .i64 on, vB]] w (StepPost base p g nb w) := by
  have hB1 := hB.alloc (.cells #[.int .i64 3, .int .i64 on, vB] 40)
  have hbx := Blk.new w 40 #[.int .i64 3, .int .i64 on, vB]
  have hgw : Grown w (w.alloc (.cells #[.int .i64 3, .int .i64 on, vB] 40)) (PG p g) := Grown.below (below_new _ _)
  clear hB
  go_enter Try.func19, Try.ntmps19
  go_wp2_with (refine wpList_boxA rfl 40 (.tmp 1) rfl _ rfl ?_; refine Hid.out ?_)
  refine hid_in ?_
  generalize w.alloc (.cells #[.int .i64 3, .int .i64 on, vB] 40) = w1 at *
  have c0 : w1.cell? ⟨w.heap.size, 0, none⟩ = some (.int .i64 3) := by rw [hbx.cell]; rfl
  have cp : w1.cell? ⟨p, 0, none⟩ = some (ptr g) := by rw [hB1.book.cell]; rfl
  have cv : w1.cell? ⟨p, 1, none⟩ = some v := by rw [hB1.book.cell]; rfl
  obtain ⟨a, c, rfl⟩ := row_form (owns_row hB1.row)
  have HB : Keep (BookAt base p g (.slice a b.length c) b w1) := ⟨hB1⟩
  have HN : Keep ((absorbL dg0 b).n = b.length) := ⟨by rw [absorbL_n]; show 0 + _ = _; omega⟩
  clear hbx hB1
  go_wp2_with fail
  go_quiet (first | (go_at_call 21; refine Calls.quiet_of_same (len_any g (absorbL dg0 b) _ HB.out.dig)))
  rw [HN.out]
  go_wp2
  go_ret
  refine ⟨?_, _, b, HB.out.book, HB.out.dig, HB.out.row, hnb, hgw.trans ⟨rfl, rfl, rfl, Nat.le_refl _, fun _ _ _ => rfl⟩⟩
  show Ending.returned (.bool ((b.length : Int) == b.length)) = _
  simp

theorem sum_sha (g : Nat) (b : List Int) (w : World) (hg : Blk w g 66 (digA (absorbL dg0 b).s (absorbL dg0 b).r (absorbL dg0 b).n)) (hn : b.length ≤ 2147483647) :
    Calls Try.prog 20 #[ptr g] w fun e w' => e = .returned (.agg (bytesA 32 (shaP b))) ∧ Below w.heap.size w w' :=
  sum_any g (absorbL dg0 b) w hg (by rw [absorbL_n]; show ((0 + b.length : Nat) : Int) ≤ _; omega)

set_option maxHeartbeats 2000000 in
theorem step_sum (base p g : Nat) (v : Value) (b : List Int) (k on : Int) (vB : Value) (nb : Nat) (w : World) (hB : BookAt base p g v b w) (hnb : b.length ≤ nb) (h31 : nb ≤ 2147483647)
    (k2 : (k == 2) = false) (k3 : (k == 3) = false) (k4 : (k == 4) = false) :
    Calls Try.prog 19 #[ptr p, .agg #[.int .i64 k, .int .i64 on, vB]] w (StepPost base p g nb w) := by
  have hB1 := hB.alloc (.cells #[.int .i64 k, .int .i64 on, vB] 40)
  have hbx := Blk.new w 40 #[.int .i64 k, .int .i64 on, vB]
  have hgw : Grown w (w.alloc (.cells #[.int .i64 k, .int .i64 on, vB] 40)) (PG p g) := Grown.below (below_new _ _)
  clear hB
  go_enter Try.func19, Try.ntmps19
  go_wp2_with (refine wpList_boxA rfl 40 (.tmp 1) rfl _ rfl ?_; refine Hid.out ?_)
  refine hid_in ?_
  generalize w.alloc (.cells #[.int .i64 k, .int .i64 on, vB] 40) = w1 at *
  have c0 : w1.cell? ⟨w.heap.size, 0, none⟩ = some (.int .i64 k) := by rw [hbx.cell]; rfl
  have cp : w1.cell? ⟨p, 0, none⟩ = some (ptr g) := by rw [hB1.book.cell]; rfl
  have cv : w1.cell? ⟨p, 1, none⟩ = some v := by rw [hB1.book.cell]; rfl
  have HB : Keep (BookAt base p g v b w1) := ⟨hB1⟩
  have heq := run_eql_arr (shaP b)
  have HBe : Keep (∀ wx, Below w1.heap.size w1 wx → BookAt base p g v b wx ∧ wx.cell? ⟨p, 0, none⟩ = some (ptr g) ∧ wx.cell? ⟨p, 1, none⟩ = some v) := ⟨fun wx hx => by
    have h := HB.out.below hx
    exact ⟨h, by rw [h.book.cell]; rfl, by rw [h.book.cell]; rfl⟩⟩
  have hR0 : Below w1.heap.size w1 w1.drew := (Below.refl _ _).drew
  clear hbx hB1 cp cv
  go_wp2_with fail
  go_region_held3 (fun w' => (w'.cell? ⟨p, 0, none⟩ = some (ptr g) ∧ w'.cell? ⟨p, 1, none⟩ = some v) ∧ Below w1.heap.size w1 w')
    ((first | exact ⟨(HBe.out _ hR0).2, hR0⟩ | exact ⟨(HBe.out _ (hR0.trans (hb1.mono hR0.size))).2, hR0.trans (hb1.mono hR0.size)⟩ | exact ⟨(HBe.out _ ((hR0.trans (hb1.mono hR0.size)).trans (hb2.mono (hR0.trans (hb1.mono hR0.size)).size))).2, ((hR0.trans (hb1.mono hR0.size)).trans (hb2.mono (hR0.trans (hb1.mono hR0.size)).size))⟩))
    (first | (go_at_call 20; refine (sum_sha g b _ (HBe.out _ hR0).1.dig (by omega)).mono ?_; rintro e w' ⟨rfl, hb1⟩)
           | (go_at_call 12; refine (refOf_sha v b _ (owns_row (HBe.out _ (hR0.trans (hb1.mono hR0.size))).1.row) (by omega)).mono ?_; rintro e w' ⟨rfl, hb2⟩))
  have hBn : Below w1.heap.size w1 w' := ((hR0.trans (hb1.mono hR0.size)).trans (hb2.mono (hR0.trans (hb1.mono hR0.size)).size))
  go_wp2
  go_ret
  have h := (HBe.out _ hBn).1
  exact ⟨rfl, _, b, h.book, h.dig, h.row, hnb, hgw.trans (Grown.below hBn)⟩

theorem write_own (base g : Nat) (d : Dg) (v : Value) (l : List Int) (w : World) (hown : w.ownsRow base 5 1 v l.length (bv l)) (hg : Blk w g 66 (digA d.s d.r d.n)) (hlen : (d.n : Int) + l.length ≤ 1152921504606846976) :
    Calls Try.prog 37 #[ptr g, v] w fun e w' => e = .returned (.tuple #[]) ∧ Blk w' g 66 (digA (absorbL d l).s (absorbL d l).r (absorbL d l).n) ∧ w.grownBy w' (some g) := by
  have hr := owns_row hown
  rcases hown.2 with ⟨rfl, h0⟩ | ⟨h, cap, cur, rfl, hb, hh, hc, _⟩
  · obtain rfl := List.eq_nil_of_length_eq_zero h0
    refine (write_none g none 0 w).mono ?_
    rintro e w' ⟨rfl, rfl⟩
    exact ⟨rfl, hg, grownBy_refl _ _⟩
  · have hne : h ≠ g := by
      rintro rfl
      unfold Blk at hg; rw [hg] at hh; simp at hh
    have hcells : ∀ i, i < l.length → w.cell? ⟨h, 0 + i, none⟩ = some (.int .u8 (l.getD i 0)) := fun i hi => by
      rw [Nat.zero_add, hown.cellAt i (by omega), bv_get l i hi]
    refine (write_any g d (fun i => l.getD i 0) l.length cap h 0 w hg hne hcells hlen hc).mono ?_
    rintro e w' ⟨rfl, h1, h2⟩
    rw [absorbN_all] at h1
    exact ⟨rfl, h1, h2⟩

/-- In the midst of a step that writes. -/
structure Mid (base p g z : Nat) (v : Value) (b b2 : List Int) (op : Array Value) (w0 w : World) : Prop where
  book : Blk w p 37 #[ptr g, v]
  dig : Blk w g 66 (digA (absorbL dg0 b2).s (absorbL dg0 b2).r (absorbL dg0 b2).n)
  row : w.ownsRow base 5 1 v b.length (bv b)
  box : Blk w z 40 op
  plt : p < z
  glt : g < z
  rlt : ∀ k, v.ownBlock = some k → k < z
  grown : Grown w0 w (PG p g)
  lt0 : w0.heap.size ≤ z
theorem Mid.next {base p g z : Nat} {v : Value} {b b2 : List Int} {op : Array Value} {w0 w w' : World} {o : Option Nat} (h : Mid base p g z v b b2 op w0 w) (hg : w.grownBy w' o) (ho : ∀ k, o = some k → z < k) : Mid base p g z v b b2 op w0 w' where
  book := by unfold Blk; rw [hg.block p h.book.lt (fun e => by have := ho p e.symm; have := h.plt; omega)]; exact h.book
  dig := by unfold Blk; rw [hg.block g h.dig.lt (fun e => by have := ho g e.symm; have := h.glt; omega)]; exact h.dig
  row := h.row.kept hg (by
    cases hv : v.ownBlock with
    | none => exact .inl rfl
    | some k => exact .inr (fun e => by have := ho k e.symm; have := h.rlt k hv; omega))
  box := by unfold Blk; rw [hg.block z h.box.lt (fun e => by have := ho z e.symm; omega)]; exact h.box
  plt := h.plt
  glt := h.glt
  rlt := h.rlt
  grown := ⟨hg.os.trans h.grown.os, hg.tape.trans h.grown.tape, hg.output.trans h.grown.output, Nat.le_trans h.grown.size hg.size, fun i hi hs =>
    (hg.block i (Nat.lt_of_lt_of_le hi h.grown.size) (fun e => by have := ho i e.symm; have := h.lt0; omega)).trans (h.grown.block i hi hs)⟩
  lt0 := h.lt0

/-- append of bytes, in a region that draws. -/
theorem wp_app {o : Oper} {a : Act} {w : World} {K : Act → World → Prop} {Q : Exit → Act → World → Prop} (s x : Operand)
    (ho : o.op = .call { callee := .builtin .append, args := #[s, x], argTypes := #[28, 28] }) (base : Nat) (v vx : Value) (n : Nat) (xs : List Value) (l : List Int)
    (hs : a.eval s = v) (hx : a.eval x = vx) (hown : w.ownsRow base 5 1 v n xs) (hrow : RowAt w vx l) (hb : n + l.length ≤ 70368744177664) (hbase : base ≤ w.heap.size)
    (h : ∀ v' w', w'.ownsRow base 5 1 v' (n + l.length) (xs ++ bv l) → w.grownBy w' v.ownBlock → K (a.put o.dst v') w') : o.wp Try.prog a w K Q := by
  obtain ⟨i, hi, hzz⟩ := Option.map_eq_some_iff.1 Try.info5
  simp only [Prod.mk.injEq] at hzz
  obtain ⟨hz, hsz, hby⟩ := hzz
  rcases hrow with ⟨rfl, rfl⟩ | ⟨ad, c, rfl, rfl⟩ | ⟨b, off, cap, rfl, hcap, hc⟩
  · have hrun := run_append_owned_none (P := Try.prog) (w := w) base 28 o.type 5 i 1 Try.underlying28 hi v n xs hown
    unfold Oper.wp
    simp [execOp, ho, resolve, invoke, builtin, hs, hx, hrun, Result.andThen]
    exact h v w (by simpa [bv] using hown) (World.grownBy.refl w _)
  · refine wp_append_own w s x 28 ho base 5 i (.int .u8 0) 1 1 Try.underlying28 hi hz hsz hby rfl (by omega) v n xs hs hown ad 0 c [] hx rfl (fun j u hu => by simp at hu) (fun u hu => by simp at hu) (by unfold maxLen; simp at hb; omega) (by simp at hb; omega) hbase ?_
    intro v' w' h1 h2 _
    exact h v' w' h1 h2
  · refine wp_append_own w s x 28 ho base 5 i (.int .u8 0) 1 1 Try.underlying28 hi hz hsz hby rfl (by omega) v n xs hs hown ⟨b, off, none⟩ l.length cap (bv l) hx (by rw [bv_len]; omega)
      (fun j u hu => by
        have hj : j < l.length := by have := (List.getElem?_eq_some_iff.1 hu).1; rwa [bv_len] at this
        rw [bv_get l j hj] at hu
        rw [Addr.add_mid, hc j hj]; exact hu)
      (fun u hu => by simp [bv] at hu; obtain ⟨_, _, rfl⟩ := hu; rfl) (by unfold maxLen; omega) (by omega) hbase ?_
    intro v' w' h1 h2 _
    exact h v' w' h1 h2

set_option maxRecDepth 20000 in
set_option maxHeartbeats 2000000 in
theorem step_write (base p g : Nat) (v : Value) (b l : List Int) (on : Int) (vB : Value) (nb : Nat) (w : World) (hB : BookAt base p g v b w) (hnb : b.length + l.length ≤ nb) (h31 : nb ≤ 2147483647)
    (hbase : base ≤ w.heap.size) (hl : ∀ wx, Grown w wx (PG p g) → RowAt wx vB l) :
    Calls Try.prog 19 #[ptr p, .agg #[.int .i64 2, .int .i64 on, vB]] w (StepPost base p g nb w) := by
  have hne := hB.ne
  have hplt := hB.book.lt
  have hglt := hB.dig.lt
  have hrlt : ∀ k, v.ownBlock = some k → k < w.heap.size := fun k hk => (hB.row.lt k hk).2
  have hB1 := hB.alloc (.cells #[.int .i64 2, .int .i64 on, vB] 40)
  have hbx := Blk.new w 40 #[.int .i64 2, .int .i64 on, vB]
  have hgw : Grown w (w.alloc (.cells #[.int .i64 2, .int .i64 on, vB] 40)) (PG p g) := Grown.below (below_new _ _)
  have HL : Keep (∀ wx, Grown w wx (PG p g) → RowAt wx vB l) := ⟨hl⟩
  obtain ⟨pa, pc, rfl⟩ := row_form (hl w (Grown.refl _ _))
  clear hB hl
  go_enter Try.func19, Try.ntmps19
  go_wp2_with (refine wpList_boxA rfl 40 (.tmp 1) rfl _ rfl ?_; refine Hid.out ?_)
  refine hid_in ?_
  have hs1 : (w.alloc (.cells #[.int .i64 2, .int .i64 on, .slice pa l.length pc] 40)).heap.size = w.heap.size + 1 := by simp
  generalize w.alloc (.cells #[.int .i64 2, .int .i64 on, .slice pa l.length pc] 40) = w1 at *
  have c0 : w1.cell? ⟨w.heap.size, 0, none⟩ = some (.int .i64 2) := by rw [hbx.cell]; rfl
  have c2 : w1.cell? ⟨w.heap.size, 2, none⟩ = some (.slice pa l.length pc) := by rw [hbx.cell]; rfl
  have HB : Keep (BookAt base p g v b w1) := ⟨hB1⟩
  clear hB1
  go_wp2_with (first | (at_builtin; refine wpList_app rfl _ (.tmp 23) rfl (w.heap.size + 1) (.slice none 0 0) (.slice pa l.length pc) 0 [] l rfl rfl (owns_nil _ _) (HL.out _ hgw) (by omega) (by omega) ?_; intro v1 w2 hown2 hgr2; refine Hid.out ?_))
  refine hid_in ?_
  rw [Nat.zero_add, List.nil_append] at hown2
  have hM : Mid base p g w.heap.size v b b #[.int .i64 2, .int .i64 on, .slice pa l.length pc] w w1 :=
    ⟨HB.out.book, HB.out.dig, HB.out.row, hbx, hplt, hglt, hrlt, hgw, Nat.le_refl _⟩
  have hM2 := hM.next hgr2 (fun k e => by simp [Value.ownBlock] at e)
  clear hM hgr2 HB hbx c0 c2 hgw
  have HO2 : Keep (w2.ownsRow (w.heap.size + 1) 5 1 v1 l.length (bv l)) := ⟨hown2⟩
  have cp : w2.cell? ⟨p, 0, none⟩ = some (ptr g) := by rw [hM2.book.cell]; rfl
  have HM2 : Keep (Mid base p g w.heap.size v b b #[.int .i64 2, .int .i64 on, .slice pa l.length pc] w w2) := ⟨hM2⟩
  clear hown2 hM2
  go_wp2_with fail
  refine (write_own (w.heap.size + 1) g (absorbL dg0 b) v1 l w2 HO2.out HM2.out.dig (by rw [absorbL_n]; show ((0 + b.length : Nat) : Int) + _ ≤ _; omega)).mono ?_
  rintro e w3 ⟨rfl, hg3, hgr3⟩
  rw [← absorbL_append] at hg3
  have HO3 : Keep (w3.ownsRow (w.heap.size + 1) 5 1 v1 l.length (bv l)) := ⟨HO2.out.kept hgr3 (by
    cases hv : v1.ownBlock with
    | none => exact .inl rfl
    | some k => exact .inr (fun e => by injection e with e; have := (HO2.out.lt k hv).1; omega))⟩
  have HM3 : Keep (Mid base p g w.heap.size v b (b ++ l) #[.int .i64 2, .int .i64 on, .slice pa l.length pc] w w3) := ⟨by
    have h := HM2.out
    exact ⟨by unfold Blk; rw [hgr3.block p h.book.lt (by simpa using hne)]; exact h.book, hg3, h.row.kept hgr3 (by
      cases hv : v.ownBlock with
      | none => exact .inl rfl
      | some k => exact .inr (fun e => by
          injection e with e
          subst e
          rcases h.row.2 with ⟨rfl, _⟩ | ⟨h', _, _, rfl, _, hh, _⟩
          · simp [Value.ownBlock] at hv
          · simp [Value.ownBlock] at hv
            subst hv
            have hd := h.dig
            unfold Blk at hd; rw [hd] at hh; simp at hh)), by unfold Blk; rw [hgr3.block _ h.box.lt (by simp; omega)]; exact h.box, h.plt, h.glt, h.rlt, h.grown.trans (Grown.by hgr3 fun k e => by injection e with e; exact .inl (.inr e.symm)), h.lt0⟩⟩
  obtain ⟨a1, k1, rfl⟩ := row_form (owns_row HO3.out)
  clear HM2 HO2 cp hg3 hgr3
  have hl31 : (l.length : Int) ≤ 2147483647 := by omega
  go_wp2
  go_loopw [6] (fun i wr => ∃ t : Nat, t ≤ l.length ∧ i = .int .i64 (t : Int) ∧ Mid base p g w.heap.size v b (b ++ l) #[.int .i64 2, .int .i64 on, .slice pa l.length pc] w wr ∧ ∀ h, a1 = some ⟨h, 0, none⟩ → w.heap.size < h ∧ ∃ cur, Blk wr h 5 cur ∧ ∀ i, i < l.length → ∃ c, cur[i]? = some (.int .u8 c)) (fun i _ => l.length - (intOf i).toNat)
  case atStart =>
    refine ⟨0, by omega, rfl, HM3.out, ?_⟩
    rintro h rfl
    rcases HO3.out.2 with ⟨h1, _⟩ | ⟨h', cap, cur, h1, h2, h3, h4, _, _, h5⟩
    · simp at h1
    · simp at h1
      obtain ⟨rfl, rfl⟩ := h1
      refine ⟨by omega, cur, h3, fun i hi => ⟨l.getD i 0, ?_⟩⟩
      have := bv_get l i hi
      rw [← h5] at this
      rw [List.getElem?_take, if_pos (by omega)] at this
      simpa using this
  case round =>
    obtain ⟨t, ht, rfl, hM, hC⟩ := hrel
    by_cases hlt : t < l.length
    · obtain ⟨h, rfl⟩ : ∃ h, a1 = some ⟨h, 0, none⟩ := by
        rcases HO3.out.2 with ⟨h1, _⟩ | ⟨h', cap, cur, h1, _⟩
        · simp at h1; omega
        · simp at h1; exact ⟨h', h1.1⟩
      obtain ⟨hwh, cur, hb, hcur⟩ := hC h rfl
      obtain ⟨c, hc⟩ := hcur t hlt
      have cc : wr.cell? ⟨h, t, none⟩ = some (.int .u8 c) := by rw [hb.cell, hc]
      have cf := hb.frozen t
      have hlt' : (t : Int) < (l.length : Int) := by omega
      have HC : Keep (∀ i, i < l.length → ∃ c, cur[i]? = some (.int .u8 c)) := ⟨hcur⟩
      have HM : Keep (Mid base p g w.heap.size v b (b ++ l) #[.int .i64 2, .int .i64 on, .slice pa l.length pc] w wr) := ⟨hM⟩
      have Hb : Keep (Blk wr h 5 cur) := ⟨hb⟩
      clear hC hcur hM hb hc
      go_wp2
      go_roundw
      case rel =>
        refine ⟨t + 1, by omega, by go_num, HM.out.next (grownBy_setCell _ _ _ _) (fun k e => by injection e with e; omega), ?_⟩
        intro h' e
        simp at e
        subst e
        refine ⟨hwh, _, Hb.out.set t _, fun i hi => ?_⟩
        rw [Array.getElem?_setIfInBounds]
        split
        · split
          · exact ⟨_, rfl⟩
          · rename_i h1 h2
            subst h1
            obtain ⟨c', hc'⟩ := HC.out t hlt
            rw [Array.getElem?_eq_none (by omega)] at hc'
            cases hc'
        · exact HC.out i hi
      case measure => simp [intOf]; omega
    · obtain rfl : t = l.length := by omega
      have hlt' : ¬ ((l.length : Int) < (l.length : Int)) := by omega
      have hMd : Mid base p g w.heap.size v b (b ++ l) #[.int .i64 2, .int .i64 on, .slice pa l.length pc] w wr.drew := hM.next (o := none) ⟨rfl, rfl, rfl, Nat.le_refl _, fun _ _ _ => rfl⟩ (fun k e => by cases e)
      have HMd : Keep (Mid base p g w.heap.size v b (b ++ l) #[.int .i64 2, .int .i64 on, .slice pa l.length pc] w wr.drew) := ⟨hMd⟩
      have HCe : Keep (∀ wx, Mid base p g w.heap.size v b (b ++ l) #[.int .i64 2, .int .i64 on, .slice pa l.length pc] w wx → (wx.cell? ⟨p, 1, none⟩ = some v ∧ wx.frozen? ⟨p, 1, none⟩ = false ∧ wx.cell? ⟨w.heap.size, 2, none⟩ = some (.slice pa l.length pc))) := ⟨fun wx h => ⟨by rw [h.book.cell]; rfl, h.book.frozen 1, by rw [h.box.cell]; rfl⟩⟩
      have hbl : b.length + l.length ≤ 70368744177664 := by omega
      have hbd : base ≤ wr.drew.heap.size := Nat.le_trans hbase hMd.grown.size
      have hzd : w.heap.size < wr.drew.heap.size := hMd.box.lt
      clear hC hM HO3 HM3
      go_wp2_with fail
      have cv0 := (HCe.out _ HMd.out).1
      have hzp : w.heap.size ≠ p := by omega
      refine wp_region_held_drew (S := fun w' => w'.cell? ⟨w.heap.size, 2, none⟩ = some (.slice pa l.length pc)) (by kernel_rfl) (HCe.out _ HMd.out).2.2 (fun hHeld => ?_)
      refine wpAnyH_take (i := 0) (oi := ⟨some 43, .move (.tmp 0), 33, _, _, none⟩) (v := ptr p) rfl (by kernel_rfl) (by kernel_rfl) (by kernel_rfl) (fun _ _ _ h => h) (Or.inl ⟨by rfl, fun w hS => by go_simp⟩) hHeld ?_
      simp only [Act.put, List.setIfInBounds_toArray, List.set_cons_zero, List.set_cons_succ]
      refine wpAnyH_take (i := 1) (oi := ⟨some 44, .move (.tmp 0), 33, _, _, none⟩) (v := ptr p) rfl (by kernel_rfl) (by kernel_rfl) (by kernel_rfl) (fun _ _ _ h => h) (Or.inl ⟨by rfl, fun w hS => by go_simp⟩) hHeld ?_
      simp only [Act.put, List.setIfInBounds_toArray, List.set_cons_zero, List.set_cons_succ]
      refine wpAnyH_take (i := 2) (oi := ⟨some 45, .nilCheck (.tmp 44), 0, _, _, none⟩) (v := ptr p) rfl (by kernel_rfl) (by kernel_rfl) (by kernel_rfl) (fun _ _ _ h => h) (Or.inl ⟨by rfl, fun w hS => by go_simp⟩) hHeld ?_
      simp only [Act.put, List.setIfInBounds_toArray, List.set_cons_zero, List.set_cons_succ]
      refine wpAnyH_take (i := 3) (oi := ⟨some 46, .fieldAddr 37 (.tmp 45) 1, 0, _, _, none⟩) (v := .pointer (some ⟨p, 1, none⟩)) rfl (by kernel_rfl) (by kernel_rfl) (by kernel_rfl) (fun _ _ _ h => h) (Or.inl ⟨by rfl, fun w hS => by go_simp⟩) hHeld ?_
      simp only [Act.put, List.setIfInBounds_toArray, List.set_cons_zero, List.set_cons_succ]
      refine wpAnyH_take (i := 6) (oi := ⟨some 49, .fieldAddr 40 (.tmp 3) 2, 0, _, _, none⟩) (v := .pointer (some ⟨w.heap.size, 2, none⟩)) rfl (by kernel_rfl) (by kernel_rfl) (by kernel_rfl) (fun _ _ _ h => h) (Or.inl ⟨by rfl, fun w hS => by go_simp⟩) hHeld ?_
      simp only [Act.put, List.setIfInBounds_toArray, List.set_cons_zero, List.set_cons_succ]
      refine wpAnyH_take (i := 7) (oi := ⟨some 50, .load 28 (.tmp 49), 28, _, _, none⟩) (v := .slice pa l.length pc) rfl (by kernel_rfl) (by kernel_rfl) (by kernel_rfl) (fun _ _ _ h => h) (Or.inl ⟨by rfl, fun w hS => by go_simp⟩) hHeld ?_
      simp only [Act.put, List.setIfInBounds_toArray, List.set_cons_zero, List.set_cons_succ]
      refine wpAnyH_ready (rs := [4]) (by kernel_rfl) (by simp) ?_
      refine AllReadyH.cons (o := ⟨some 47, .load 28 (.tmp 46), 28, _, _, none⟩) rfl (fun K hK => ?_) AllReadyH.nil
      rw [if_pos (by rfl)]
      refine wp_val v (by go_simp) (hK.out _ _ hHeld fun _ => ?_)
      clear hK
      simp only [Act.put, List.setIfInBounds_toArray, List.set_cons_zero, List.set_cons_succ]
      refine wpAnyH_ready (rs := [5]) (by kernel_rfl) (by simp) ?_
      refine AllReadyH.cons (o := ⟨some 48, .call { callee := .builtin .append, args := #[.const (.slice none 0 0), .tmp 47], argTypes := #[28, 28] }, 28, _, _, none⟩) rfl (fun K hK => ?_) AllReadyH.nil
      rw [if_pos (by rfl)]
      refine wp_app _ (.tmp 47) rfl (w.heap.size + 1) (.slice none 0 0) v 0 [] b rfl rfl (owns_nil _ _) (owns_row HMd.out.row) (by omega) (by omega) ?_
      intro v5 w5 hown5 hgr5
      have HM5 : Keep (Mid base p g w.heap.size v b (b ++ l) #[.int .i64 2, .int .i64 on, .slice pa l.length pc] w w5) := ⟨HMd.out.next hgr5 (fun k e => by simp [Value.ownBlock] at e)⟩
      have hz5 := HM5.out.box.lt
      refine hK.out _ _ (HCe.out _ HM5.out).2.2 fun hHeld5 => ?_
      clear hK
      simp only [Act.put, List.setIfInBounds_toArray, List.set_cons_zero, List.set_cons_succ]
      refine wpAnyH_ready (rs := [8]) (by kernel_rfl) (by simp) ?_
      refine AllReadyH.cons (o := ⟨some 51, .call { callee := .builtin .append, args := #[.tmp 48, .tmp 50], argTypes := #[28, 28] }, 28, _, _, none⟩) rfl (fun K hK => ?_) AllReadyH.nil
      rw [if_pos (by rfl)]
      refine wp_app (.tmp 48) (.tmp 50) rfl (w.heap.size + 1) v5 (.slice pa l.length pc) _ _ l rfl rfl hown5 (HL.out _ HM5.out.grown) (by omega) (by omega) ?_
      intro v6 w6 hown6 hgr6
      rw [show ([] : List Value) ++ bv b ++ bv l = bv (b ++ l) by simp [bv]] at hown6
      obtain ⟨a6, k6, rfl⟩ := row_form (owns_row hown6)
      have HM6 : Keep (Mid base p g w.heap.size v b (b ++ l) #[.int .i64 2, .int .i64 on, .slice pa l.length pc] w w6) := ⟨HM5.out.next hgr6 (fun k e => by have := (hown5.lt k e).1; omega)⟩
      have cv6 := (HCe.out _ HM6.out).1
      have cf6 := (HCe.out _ HM6.out).2.1
      refine hK.out _ _ (HCe.out _ HM6.out).2.2 fun hHeld6 => ?_
      clear hK
      simp only [Act.put, List.setIfInBounds_toArray, List.set_cons_zero, List.set_cons_succ]
      refine wpAnyH_take (i := 9) (oi := ⟨some 52, .nilCheck (.tmp 43), 0, _, _, none⟩) (v := ptr p) rfl (by kernel_rfl) (by kernel_rfl) (by kernel_rfl) (fun _ _ _ h => h) (Or.inl ⟨by rfl, fun w hS => by go_simp⟩) hHeld6 ?_
      simp only [Act.put, List.setIfInBounds_toArray, List.set_cons_zero, List.set_cons_succ]
      refine wpAnyH_take (i := 10) (oi := ⟨some 53, .fieldAddr 37 (.tmp 52) 1, 0, _, _, none⟩) (v := .pointer (some ⟨p, 1, none⟩)) rfl (by kernel_rfl) (by kernel_rfl) (by kernel_rfl) (fun _ _ _ h => h) (Or.inl ⟨by rfl, fun w hS => by go_simp⟩) hHeld6 ?_
      simp only [Act.put, List.setIfInBounds_toArray, List.set_cons_zero, List.set_cons_succ]
      refine wpAnyH_ready (rs := [11]) (by kernel_rfl) (by simp) ?_
      refine AllReadyH.cons (o := ⟨none, .store 28 (.tmp 53) (.tmp 51), 0, _, _, none⟩) rfl (fun K hK => ?_) AllReadyH.nil
      rw [if_pos (by rfl)]
      go_simp
      refine hK.out _ _ (by rw [(HM6.out.box.set_ne hzp _).cell]; rfl) fun _ => ?_
      clear hK
      refine wpAnyH_done (by kernel_rfl) ?_ _
      go_wp2
      go_ret
      have hM6 := HM6.out
      rw [Nat.zero_add, ← List.length_append] at hown6
      have hown7 : w6.ownsRow base 5 1 (.slice a6 (b ++ l).length k6) (b ++ l).length (bv (b ++ l)) := ⟨hown6.1, by
        rcases hown6.2 with h1 | ⟨h1, h2, h3, h4, h5, h6⟩
        · exact .inl h1
        · exact .inr ⟨h1, h2, h3, h4, by omega, h6⟩⟩
      refine ⟨rfl, .slice a6 (b ++ l).length k6, b ++ l, ?_, hM6.dig.set_ne (fun e => hne e.symm) _, ?_, by rw [List.length_append]; exact hnb, hM6.grown.trans (Grown.by (grownBy_setCell _ _ _ _) fun k e => by injection e with e; exact .inl (.inl e.symm))⟩
      · have h := hM6.book.set 1 (.slice a6 (b ++ l).length k6)
        rw [List.length_append] at h ⊢
        exact h
      · rw [List.length_append] at hown7 ⊢
        refine hown7.kept (grownBy_setCell _ _ _ _) (.inr fun e => ?_)
        rw [← List.length_append] at e
        have := (hown6.lt p e).1
        omega
end Go.Proofs.Ytbbhjgflaiacaaa
