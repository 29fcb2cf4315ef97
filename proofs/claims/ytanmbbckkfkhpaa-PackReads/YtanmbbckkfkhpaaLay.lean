import Derived.Test.YtanmbbckkfkhpaaBookB
namespace Go.Proofs.Ytanmbbckkfkhpaa
open Go.RowKit

/-- What a call of kind K lays. -/
def frm (K : Int) (X : Nat) (m : List Int) : List Int :=
  if K = 0 then [((X % 256 : Nat) : Int)] else if K = 1 then numL X else if K = 2 then numL (zig (wrap64 (X : Int))) else if K = 3 then m else if K = 4 then bform m else if K = 5 then bform m else if K = 6 then hl 32 (hof m) else []
theorem frm_0 (X : Nat) (m : List Int) : frm 0 X m = [((X % 256 : Nat) : Int)] := by unfold frm; rw [if_pos rfl]
theorem frm_1 (X : Nat) (m : List Int) : frm 1 X m = numL X := by unfold frm; rw [if_neg (by decide), if_pos rfl]
theorem frm_2 (X : Nat) (m : List Int) : frm 2 X m = numL (zig (wrap64 (X : Int))) := by unfold frm; rw [if_neg (by decide), if_neg (by decide), if_pos rfl]
theorem frm_3 (X : Nat) (m : List Int) : frm 3 X m = m := by unfold frm; rw [if_neg (by decide), if_neg (by decide), if_neg (by decide), if_pos rfl]
theorem frm_4 (X : Nat) (m : List Int) : frm 4 X m = bform m := by unfold frm; rw [if_neg (by decide), if_neg (by decide), if_neg (by decide), if_neg (by decide), if_pos rfl]
theorem frm_5 (X : Nat) (m : List Int) : frm 5 X m = bform m := by unfold frm; rw [if_neg (by decide), if_neg (by decide), if_neg (by decide), if_neg (by decide), if_neg (by decide), if_pos rfl]
theorem frm_6 (X : Nat) (m : List Int) : frm 6 X m = hl 32 (hof m) := by unfold frm; rw [if_neg (by decide), if_neg (by decide), if_neg (by decide), if_neg (by decide), if_neg (by decide), if_neg (by decide), if_pos rfl]
theorem frm_n (K : Int) (X : Nat) (m : List Int) (k0 : ¬ K = 0) (k1 : ¬ K = 1) (k2 : ¬ K = 2) (k3 : ¬ K = 3) (k4 : ¬ K = 4) (k5 : ¬ K = 5) (k6 : ¬ K = 6) : frm K X m = [] := by
  unfold frm; rw [if_neg k0, if_neg k1, if_neg k2, if_neg k3, if_neg k4, if_neg k5, if_neg k6]
theorem frm_len (K : Int) (X : Nat) (m : List Int) : (frm K X m).length ≤ 32 + m.length := by
  unfold frm
  have h1 := numL_len X
  have h2 := numL_len (zig (wrap64 (X : Int)))
  have h3 := numL_len m.length
  repeat' split
  all_goals (try simp only [bform, List.length_append, List.length_cons, List.length_nil, hl_len])
  all_goals omega

/-- In the midst of lay: own is the copy of the call's bytes, the box holds the call. -/
structure LT (w : World) (p : Nat) (v wv : Value) (own : Value) (m : List Int) (op : Array Value) (l wl : List Int) (v3 wv3 : Value) (w3 : World) : Prop where
  out : OutAt w3 p v3 l
  row : Own w3 wv3 wl
  mv : Moved w v v3
  mw : Moved w wv wv3
  sep : ∀ k, wv3.ownBlock = some k → ¬ OF p v3 k
  gr : Grown w w3 fun k => OF p v k ∨ wv.ownBlock = some k
  wide : WideAt w3 own m
  og : ∃ g, own.ownBlock = some g ∧ w.heap.size ≤ g ∧ ¬ OF p v3 g ∧ wv3.ownBlock ≠ some g
  box : Blk w3 w.heap.size 43 op

theorem LT.start {w w1 : World} {p : Nat} {v wv own : Value} {m : List Int} {op : Array Value} {l wl : List Int} (hO : OutAt w p v l) (hR : Own w wv wl) (hs : ∀ k, wv.ownBlock = some k → ¬ OF p v k)
    (hw : WideAt w1 own m) (hg : ∃ k, own.ownBlock = some k ∧ (w.alloc (.cells op 43)).heap.size ≤ k) (hb : Below (w.alloc (.cells op 43)).heap.size (w.alloc (.cells op 43)) w1) : LT w p v wv own m op l wl v wv w1 := by
  have hG : Grown w w1 (fun _ => False) := (Grown.alloc w _ _).next (Grown.below (S := fun _ => False) hb) fun _ _ h => h
  obtain ⟨g, hg1, hg2⟩ := hg
  have hsz : (w.alloc (.cells op 43)).heap.size = w.heap.size + 1 := by simp
  refine ⟨hO.grown hG fun _ _ h => h, hR.grown hG fun _ _ h => h, Moved.refl _ _, Moved.refl _ _, hs, hG.mono fun _ _ h => h.elim, hw, ⟨g, hg1, by omega, fun h => ?_, fun h => ?_⟩, ?_⟩
  · have := hO.lt h; omega
  · have := hR.lt g h; omega
  · exact (Blk.new w 43 op).below hb (by omega)
theorem LT.outStep {w w1 w2 : World} {p : Nat} {v wv own v1 wv1 : Value} {m : List Int} {op : Array Value} {l wl l' : List Int} {e : Ending} (h : LT w p v wv own m op l wl v1 wv1 w1) (hp : OutPost p v1 l' w1 e w2) :
    e = .returned (.tuple #[]) ∧ ∃ v2, LT w p v wv own m op l' wl v2 wv1 w2 := by
  obtain ⟨rfl, v2, h1, h2, h3⟩ := hp
  obtain ⟨g, g1, g2, g3, g4⟩ := h.og
  refine ⟨rfl, v2, h1, h.row.grown h3 h.sep, h.mv.trans h.gr.size h2, h.mw, fun k hk hf => ?_, h.gr.next h3 fun i hi hf => ?_, h.wide.grown h3 fun k hk => ?_, ⟨g, g1, g2, fun hf => ?_, g4⟩, h3.blk h.box ?_⟩
  · have hlt := h.row.lt k hk
    refine h.sep k hk ?_
    rcases hf with hf | hf
    · exact .inl hf
    · exact .inr (h2.old hlt hf)
  · rcases hf with hf | hf
    · exact .inl (.inl hf)
    · exact .inl (.inr (h.mv.old hi hf))
  · rw [g1] at hk; injection hk with hk; subst hk; exact g3
  · refine g3 ?_
    have hlt : g < w1.heap.size := by
      obtain ⟨b, cap, hb, ho⟩ := h.wide
      have : own.ownBlock = some b := by rw [hb]; rfl
      rw [g1] at this; injection this with this; subst this
      exact ho.lt g rfl
    rcases hf with hf | hf
    · exact .inl hf
    · exact .inr (h2.old hlt hf)
  · rintro (hf | hf)
    · have h5 := h.out.blk; rw [← hf] at h5; exact absurd (blk_type h.box h5) (by decide)
    · exact absurd (h.box.typ.one (h.out.own.typ hf)) (by decide)
theorem LT.rowStep {w w1 w2 : World} {p : Nat} {v wv own v1 wv1 wv2 : Value} {m : List Int} {op : Array Value} {l wl wl' : List Int} (h : LT w p v wv own m op l wl v1 wv1 w1)
    (h1 : Own w2 wv2 wl') (h2 : Moved w1 wv1 wv2) (h3 : Grown w1 w2 fun k => wv1.ownBlock = some k) : LT w p v wv own m op l wl' v1 wv2 w2 := by
  obtain ⟨g, g1, g2, g3, g4⟩ := h.og
  have hlt : g < w1.heap.size := by
    obtain ⟨b, cap, hb, ho⟩ := h.wide
    have : own.ownBlock = some b := by rw [hb]; rfl
    rw [g1] at this; injection this with this; subst this
    exact ho.lt g rfl
  refine ⟨h.out.grown h3 fun k hk e => h.sep k e hk, h1, h.mv, h.mw.trans h.gr.size h2, fun k hk hf => ?_, h.gr.next h3 fun i hi hf => .inr (h.mw.old hi hf), h.wide.grown h3 fun k hk => ?_, ⟨g, g1, g2, g3, fun hf => g4 (h2.old hlt hf)⟩, h3.blk h.box fun hf => ?_⟩
  · exact h.sep k (h2.old (h.out.lt hf) hk) hf
  · rw [g1] at hk; injection hk with hk; subst hk; exact g4
  · exact absurd (h.box.typ.one (h.row.typ hf)) (by decide)
theorem LT.bB {w w3 : World} {p : Nat} {v wv own v3 wv3 vB : Value} {m : List Int} {op : Array Value} {l wl : List Int} (h : LT w p v wv own m op l wl v3 wv3 w3) (hB : ∀ wx, (Grown w wx fun k => OF p v k ∨ wv.ownBlock = some k) → RowAt wx vB m) : RowAt w3 vB m := hB w3 h.gr
/-- A quiet step. -/
theorem LT.below {w w1 w2 : World} {p : Nat} {v wv own v1 wv1 : Value} {m : List Int} {op : Array Value} {l wl : List Int} (h : LT w p v wv own m op l wl v1 wv1 w1) (hb : Below w1.heap.size w1 w2) : LT w p v wv own m op l wl v1 wv1 w2 :=
  let hg : Grown w1 w2 (fun _ => False) := Grown.below hb
  ⟨h.out.grown hg fun _ _ h => h, h.row.grown hg fun _ _ h => h, h.mv, h.mw, h.sep, h.gr.next hg fun _ _ h => h.elim, h.wide.grown hg fun _ _ h => h, h.og, hg.blk h.box fun h => h⟩

set_option maxHeartbeats 1000000 in
theorem rbytesS_any (v vx : Value) (l m : List Int) (w : World) (h : Own w v l) (hx : RowAt w vx m) (hsep : ∀ wx, (Grown w wx fun k => v.ownBlock = some k) → RowAt wx vx m) (hb : l.length + (bform m).length ≤ 140737488355328) :
    Calls Try.prog 39 #[v, vx] w (LayPost v (l ++ bform m) w) := by
  have HO : Keep (Own w v l) := ⟨h⟩
  have HS := Keep.mk hsep
  have HB : Keep (l.length + (numL m.length).length + m.length ≤ 140737488355328) := ⟨by simpa [bform, Nat.add_assoc] using hb⟩
  obtain ⟨xa, xc, rfl⟩ := row_form hx
  have hw := wrap64_len m.length (by have := HB.out; omega)
  clear h hx hb hsep
  go_enter Try.func39, Try.ntmps39
  go_wp2_with fail
  refine (rnum_any v l m.length w HO.out (by have := HB.out; omega) (by have := HB.out; omega)).mono ?_
  rintro e w1 ⟨v1, rfl, hO1, hm1, hg1⟩
  have HX1 : Keep (RowAt w1 (.slice xa m.length xc) m) := ⟨HS.out w1 hg1⟩
  have HO1 := Keep.mk hO1
  have HB1 : Keep ((l ++ numL m.length).length + m.length ≤ 140737488355328) := ⟨by simpa using HB.out⟩
  clear hO1
  go_wp2_with (first | (at_builtin; refine wpList_app rfl (.tmp 10) (.tmp 11) rfl v1 _ (l ++ numL m.length) m rfl rfl HO1.out HX1.out HB1.out ?_; intro v' w' hp; refine Hid.out ?_))
  refine hid_in ?_
  have HP : Keep (AppPost w1 v1 (l ++ bform m) v' w') := ⟨by rw [List.append_assoc] at hp; exact hp⟩
  clear hp
  go_wp2
  go_ret
  exact HP.out.lay.trans hm1 hg1
/-- What lay leaves. -/
def LayedPost (p : Nat) (v wv : Value) (l wl : List Int) (w : World) (e : Ending) (w' : World) : Prop :=
  ∃ v' wv', e = .returned wv' ∧ OutAt w' p v' l ∧ Own w' wv' wl ∧ Moved w v v' ∧ Moved w wv wv' ∧ (∀ k, wv'.ownBlock = some k → ¬ OF p v' k) ∧ Grown w w' fun k => OF p v k ∨ wv.ownBlock = some k
/-- Bytes in a block. -/
def BytesIn (w : World) (g n : Nat) : Prop := ∃ cur, Blk w g 5 cur ∧ ∀ i, i < n → ∃ z : Int, cur[i]? = some (.int .u8 z)
theorem BytesIn.set {w : World} {g n t : Nat} (h : BytesIn w g n) (z : Int) : BytesIn (w.setCell ⟨g, t, none⟩ (.int .u8 z)) g n := by
  obtain ⟨cur, hb, hc⟩ := h
  refine ⟨_, hb.set t (.int .u8 z), fun i hi => ?_⟩
  obtain ⟨y, hy⟩ := hc i hi
  rw [Array.getElem?_setIfInBounds]
  by_cases e : t = i
  · subst e
    exact ⟨z, by rw [if_pos rfl, if_pos (Array.getElem?_eq_some_iff.1 hy).1]⟩
  · exact ⟨y, by rw [if_neg e]; exact hy⟩
theorem BytesIn.at {w : World} {g n t : Nat} (h : BytesIn w g n) (ht : t < n) : ∃ z : Int, w.cell? ⟨g, t, none⟩ = some (.int .u8 z) ∧ w.frozen? ⟨g, t, none⟩ = false := by
  obtain ⟨cur, hb, hc⟩ := h
  obtain ⟨z, hz⟩ := hc t ht
  exact ⟨z, by rw [hb.cell]; exact hz, hb.frozen _⟩
theorem WideAt.bytes {w : World} {g cap : Nat} {l : List Int} (h : WideAt w (.slice (some ⟨g, 0, none⟩) l.length cap) l) : BytesIn w g l.length := by
  obtain ⟨g', cap', e, h1, _, h2, cur, hb, hs⟩ := h.cap
  injection e with e1 e2 e3
  injection e1 with e1
  injection e1 with e1
  subst e1
  refine ⟨cur, hb, fun i hi => ⟨(l ++ marks 7).getD i 0, ?_⟩⟩
  rw [← hb.cell, h2 i (by omega)]
/-- The end of lay. -/
theorem LT.done {w w3 w4 : World} {p : Nat} {v wv v3 wv3 : Value} {m : List Int} {op : Array Value} {l wl : List Int} {g n cap : Nat} (h : LT w p v wv (.slice (some ⟨g, 0, none⟩) n cap) m op l wl v3 wv3 w3) (hg : Grown w3 w4 fun k => k = g) : LayedPost p v wv l wl w (.returned wv3) w4 := by
  obtain ⟨g', g1, g2, g3, g4⟩ := h.og
  have e : g = g' := by simpa [Value.ownBlock] using g1
  subst e
  exact ⟨v3, wv3, rfl, h.out.grown hg fun k hk e => g3 (e ▸ hk), h.row.grown hg fun k hk e => g4 (e ▸ hk), h.mv, h.mw, h.sep, h.gr.next hg fun i hi e => by omega⟩
end Go.Proofs.Ytanmbbckkfkhpaa
