import Derived.Test.YtpakaladpdoejaaDoorShaSpread
import Derived.Test.YtpakaladpdoejaaDoorShaInv
namespace Go.Proofs.YtpakaladpdoejaaDoor
open Go.RowKit

/-- What holds in the first statement of mix, whatever has been carried out of it. -/
structure MixJ (N : Nat) (w0 : World) (s b : Nat → Int) (w : World) (b0 b1 b2 b3 b4 b5 b6 : Bool) (v5 v6 v18 v19 v20 : Value) : Prop where
  below : Below N w0 w
  hN : N + 3 ≤ w.heap.size
  k0 : Blk w N 73 (wordsA 8 s)
  k1 : Blk w (N + 1) 49 (bytesA 64 b)
  k2 : Blk w (N + 1 + 1) 73 (wordsA 8 fun _ => 0)
  e18 : b0 = true → v18 = .agg (wordsA 64 roundsF)
  e19 : b1 = true → v19 = .agg (bytesA 64 b)
  e20 : b2 = true → v20 = .agg (wordsA 64 (sched b 64))
  e5 : b3 = true → ∃ g c, v5 = ptr g ∧ N + 3 ≤ g ∧ Blk w g 75 (wordsA 64 c) ∧ (b5 = true → c = roundsF)
  e6 : b4 = true → ∃ g c, v6 = ptr g ∧ N + 3 ≤ g ∧ Blk w g 75 (wordsA 64 c) ∧ (b6 = true → c = sched b 64)
  ne : b3 = true → b4 = true → v5 ≠ v6
  w5 : b5 = true → b3 = true
  w6 : b6 = true → b4 = true

theorem MixJ.later {N : Nat} {w0 : World} {s b : Nat → Int} {w w' : World} {b0 b1 b2 b3 b4 b5 b6 : Bool} {v5 v6 v18 v19 v20 : Value}
    (h : MixJ N w0 s b w b0 b1 b2 b3 b4 b5 b6 v5 v6 v18 v19 v20) (hb : Below w.heap.size w w') : MixJ N w0 s b w' b0 b1 b2 b3 b4 b5 b6 v5 v6 v18 v19 v20 where
  below := h.below.trans (hb.mono (by have := h.hN; omega))
  hN := Nat.le_trans h.hN hb.size
  k0 := h.k0.below hb h.k0.lt
  k1 := h.k1.below hb h.k1.lt
  k2 := h.k2.below hb h.k2.lt
  e18 := h.e18
  e19 := h.e19
  e20 := h.e20
  e5 h3 := by obtain ⟨g, c, h1, h2, h3, h4⟩ := h.e5 h3; exact ⟨g, c, h1, h2, h3.below hb h3.lt, h4⟩
  e6 h3 := by obtain ⟨g, c, h1, h2, h3, h4⟩ := h.e6 h3; exact ⟨g, c, h1, h2, h3.below hb h3.lt, h4⟩
  ne := h.ne
  w5 := h.w5
  w6 := h.w6

theorem MixJ.new3 {N : Nat} {w0 : World} {s b : Nat → Int} {w : World} {b0 b1 b2 b4 b5 b6 : Bool} {v5 v6 v18 v19 v20 : Value}
    (h : MixJ N w0 s b w b0 b1 b2 false b4 b5 b6 v5 v6 v18 v19 v20) :
    MixJ N w0 s b (w.alloc (.cells (wordsA 64 fun _ => 0) 75)) b0 b1 b2 true b4 b5 b6 (ptr w.heap.size) v6 v18 v19 v20 :=
  { h.later (below_new w _) with
    e5 := fun _ => ⟨w.heap.size, _, rfl, h.hN, Blk.new _ _ _, fun e => by have := h.w5 e; simp at this⟩
    w5 := fun _ => rfl
    ne := fun _ h4 => by
      obtain ⟨g, c, h1, h2, h3, h4⟩ := h.e6 h4
      have := h3.lt
      rw [h1]; intro e; simp at e; try omega }
theorem MixJ.new4 {N : Nat} {w0 : World} {s b : Nat → Int} {w : World} {b0 b1 b2 b3 b5 b6 : Bool} {v5 v6 v18 v19 v20 : Value}
    (h : MixJ N w0 s b w b0 b1 b2 b3 false b5 b6 v5 v6 v18 v19 v20) :
    MixJ N w0 s b (w.alloc (.cells (wordsA 64 fun _ => 0) 75)) b0 b1 b2 b3 true b5 b6 v5 (ptr w.heap.size) v18 v19 v20 :=
  { h.later (below_new w _) with
    e6 := fun _ => ⟨w.heap.size, _, rfl, h.hN, Blk.new _ _ _, fun e => by have := h.w6 e; simp at this⟩
    w6 := fun _ => rfl
    ne := fun h3 _ => by
      obtain ⟨g, c, h1, h2, h3, h4⟩ := h.e5 h3
      have := h3.lt
      rw [h1]; intro e; simp at e; try omega }
theorem MixJ.store5 {N : Nat} {w0 : World} {s b : Nat → Int} {w : World} {b0 b1 b2 b4 b5 b6 : Bool} {g : Nat} {c : Nat → Int} {v6 v18 v19 v20 : Value}
    (h : MixJ N w0 s b w b0 b1 b2 true b4 b5 b6 (ptr g) v6 v18 v19 v20) (hg : N + 3 ≤ g) (hb : Blk w g 75 (wordsA 64 c)) :
    MixJ N w0 s b (w.setRow g (wordsA 64 roundsF)) b0 b1 b2 true b4 true b6 (ptr g) v6 v18 v19 v20 :=
  { h with
    below := below_setRow h.below (by omega) _
    hN := by rw [setRow_size]; exact h.hN
    k0 := h.k0.setRow_ne (by omega) _
    k1 := h.k1.setRow_ne (by omega) _
    k2 := h.k2.setRow_ne (by omega) _
    e5 := fun _ => ⟨g, roundsF, rfl, hg, hb.setRow _, fun _ => rfl⟩
    w5 := fun _ => rfl
    e6 := fun h4 => by
      obtain ⟨g', c', h1, h2, h3, h5⟩ := h.e6 h4
      exact ⟨g', c', h1, h2, h3.setRow_ne (fun e => h.ne rfl h4 (by rw [h1, e])) _, h5⟩ }
theorem MixJ.store6 {N : Nat} {w0 : World} {s b : Nat → Int} {w : World} {b0 b1 b2 b3 b5 b6 : Bool} {g : Nat} {c : Nat → Int} {v5 v18 v19 v20 : Value}
    (h : MixJ N w0 s b w b0 b1 b2 b3 true b5 b6 v5 (ptr g) v18 v19 v20) (hg : N + 3 ≤ g) (hb : Blk w g 75 (wordsA 64 c)) :
    MixJ N w0 s b (w.setRow g (wordsA 64 (sched b 64))) b0 b1 b2 b3 true b5 true v5 (ptr g) v18 v19 v20 :=
  { h with
    below := below_setRow h.below (by omega) _
    hN := by rw [setRow_size]; exact h.hN
    k0 := h.k0.setRow_ne (by omega) _
    k1 := h.k1.setRow_ne (by omega) _
    k2 := h.k2.setRow_ne (by omega) _
    e6 := fun _ => ⟨g, sched b 64, rfl, hg, hb.setRow _, fun _ => rfl⟩
    w6 := fun _ => rfl
    e5 := fun h4 => by
      obtain ⟨g', c', h1, h2, h3, h5⟩ := h.e5 h4
      exact ⟨g', c', h1, h2, h3.setRow_ne (fun e => h.ne h4 rfl (by rw [h1, e])) _, h5⟩ }

/-- The frame of mix in that statement. -/
def fr5 (a0 : Act) (v5 v6 v18 v19 v20 : Value) : Act := ((((a0.put (some 5) v5).put (some 6) v6).put (some 18) v18).put (some 19) v19).put (some 20) v20

theorem put_none (a : Act) (v : Value) : a.put none v = a := rfl
theorem put_put (a : Act) (d : Nat) (v u : Value) : (a.put (some d) v).put (some d) u = a.put (some d) u := by
  simp [Act.put]
theorem put_swap (a : Act) (d e : Nat) (v u : Value) (h : d ≠ e) : (a.put (some d) v).put (some e) u = (a.put (some e) u).put (some d) v :=
  Act.put_comm a v u (fun x hx => by injection hx with hx; subst hx; simpa using Ne.symm h)
theorem eval_same (a : Act) (d : Nat) (v : Value) (h : d < a.tmps.size) : (a.put (some d) v).eval (.tmp d) = v := by
  simp [Act.put, Act.eval, Array.getD, h]
theorem eval_other (a : Act) (d j : Nat) (v : Value) (h : d ≠ j) : (a.put (some d) v).eval (.tmp j) = a.eval (.tmp j) :=
  Act.eval_put (fun x hx => by injection hx with hx; subst hx; simpa using Ne.symm h)
theorem size_put (a : Act) (d : Option Tmp) (v : Value) : (a.put d v).tmps.size = a.tmps.size := by cases d <;> simp [Act.put]

theorem fr5_p5 (a0 : Act) (v5 v6 v18 v19 v20 u : Value) : (fr5 a0 v5 v6 v18 v19 v20).put (some 5) u = fr5 a0 u v6 v18 v19 v20 := by
  unfold fr5
  rw [put_swap _ 20 5 _ _ (by decide), put_swap _ 19 5 _ _ (by decide), put_swap _ 18 5 _ _ (by decide), put_swap _ 6 5 _ _ (by decide), put_put]
theorem fr5_p6 (a0 : Act) (v5 v6 v18 v19 v20 u : Value) : (fr5 a0 v5 v6 v18 v19 v20).put (some 6) u = fr5 a0 v5 u v18 v19 v20 := by
  unfold fr5
  rw [put_swap _ 20 6 _ _ (by decide), put_swap _ 19 6 _ _ (by decide), put_swap _ 18 6 _ _ (by decide), put_put]
theorem fr5_p18 (a0 : Act) (v5 v6 v18 v19 v20 u : Value) : (fr5 a0 v5 v6 v18 v19 v20).put (some 18) u = fr5 a0 v5 v6 u v19 v20 := by
  unfold fr5
  rw [put_swap _ 20 18 _ _ (by decide), put_swap _ 19 18 _ _ (by decide), put_put]
theorem fr5_p19 (a0 : Act) (v5 v6 v18 v19 v20 u : Value) : (fr5 a0 v5 v6 v18 v19 v20).put (some 19) u = fr5 a0 v5 v6 v18 u v20 := by
  unfold fr5
  rw [put_swap _ 20 19 _ _ (by decide), put_put]
theorem fr5_p20 (a0 : Act) (v5 v6 v18 v19 v20 u : Value) : (fr5 a0 v5 v6 v18 v19 v20).put (some 20) u = fr5 a0 v5 v6 v18 v19 u := by
  unfold fr5
  rw [put_put]
theorem fr5_e3 (a0 : Act) (v5 v6 v18 v19 v20 : Value) : (fr5 a0 v5 v6 v18 v19 v20).eval (.tmp 3) = a0.eval (.tmp 3) := by
  unfold fr5
  rw [eval_other _ 20 3 _ (by decide), eval_other _ 19 3 _ (by decide), eval_other _ 18 3 _ (by decide), eval_other _ 6 3 _ (by decide), eval_other _ 5 3 _ (by decide)]
theorem fr5_e5 (a0 : Act) (v5 v6 v18 v19 v20 : Value) (h : 20 < a0.tmps.size) : (fr5 a0 v5 v6 v18 v19 v20).eval (.tmp 5) = v5 := by
  unfold fr5
  rw [eval_other _ 20 5 _ (by decide), eval_other _ 19 5 _ (by decide), eval_other _ 18 5 _ (by decide), eval_other _ 6 5 _ (by decide), eval_same _ _ _ (by omega)]
theorem fr5_e6 (a0 : Act) (v5 v6 v18 v19 v20 : Value) (h : 20 < a0.tmps.size) : (fr5 a0 v5 v6 v18 v19 v20).eval (.tmp 6) = v6 := by
  unfold fr5
  rw [eval_other _ 20 6 _ (by decide), eval_other _ 19 6 _ (by decide), eval_other _ 18 6 _ (by decide), eval_same _ _ _ (by rw [size_put]; omega)]
theorem fr5_e18 (a0 : Act) (v5 v6 v18 v19 v20 : Value) (h : 20 < a0.tmps.size) : (fr5 a0 v5 v6 v18 v19 v20).eval (.tmp 18) = v18 := by
  unfold fr5
  rw [eval_other _ 20 18 _ (by decide), eval_other _ 19 18 _ (by decide), eval_same _ _ _ (by rw [size_put, size_put]; omega)]
theorem fr5_e19 (a0 : Act) (v5 v6 v18 v19 v20 : Value) (h : 20 < a0.tmps.size) : (fr5 a0 v5 v6 v18 v19 v20).eval (.tmp 19) = v19 := by
  unfold fr5
  rw [eval_other _ 20 19 _ (by decide), eval_same _ _ _ (by rw [size_put, size_put, size_put]; omega)]
theorem fr5_e20 (a0 : Act) (v5 v6 v18 v19 v20 : Value) (h : 20 < a0.tmps.size) : (fr5 a0 v5 v6 v18 v19 v20).eval (.tmp 20) = v20 := by
  unfold fr5
  rw [eval_same _ _ _ (by rw [size_put, size_put, size_put, size_put]; omega)]

def mo0 (q : String) : Oper := { dst := some 18, op := Op.call { callee := Callee.value (Operand.func 47), args := #[], argTypes := #[] }, type := 75, pos := q, after := #[], guard := none }
def mo1 (q : String) : Oper := { dst := some 19, op := Op.load 49 (Operand.tmp 3), type := 49, pos := q, after := #[], guard := none }
def mo2 (q : String) : Oper := { dst := some 20, op := Op.call { callee := Callee.value (Operand.func 48), args := #[Operand.tmp 19], argTypes := #[49] }, type := 75, pos := q, after := #[{ on := 1, ground := Ground.data }, { on := 0, ground := Ground.chain }], guard := none }
def mo3 (q : String) : Oper := { dst := some 5, op := Op.alloc 75, type := 0, pos := q, after := #[], guard := none }
def mo4 (q : String) : Oper := { dst := some 6, op := Op.alloc 75, type := 0, pos := q, after := #[], guard := none }
def mo5 (q : String) : Oper := { dst := none, op := Op.store 75 (Operand.tmp 5) (Operand.tmp 18), type := 0, pos := q, after := #[{ on := 3, ground := Ground.data }, { on := 0, ground := Ground.data }, { on := 2, ground := Ground.chain }, { on := 0, ground := Ground.phase }, { on := 1, ground := Ground.textOnly Departure.lateStores }, { on := 2, ground := Ground.textOnly Departure.lateStoresUnsure }, { on := 3, ground := Ground.phase }, { on := 4, ground := Ground.phase }], guard := none }
def mo6 (q : String) : Oper := { dst := none, op := Op.store 75 (Operand.tmp 6) (Operand.tmp 20), type := 0, pos := q, after := #[{ on := 4, ground := Ground.data }, { on := 2, ground := Ground.data }, { on := 5, ground := Ground.chain }, { on := 0, ground := Ground.phase }, { on := 1, ground := Ground.phase }, { on := 2, ground := Ground.phase }, { on := 3, ground := Ground.phase }, { on := 4, ground := Ground.phase }, { on := 5, ground := Ground.phase }], guard := none }

/-- What holds of the frame, the world and what has been carried out. -/
def MixI (N : Nat) (w : World) (s b : Nat → Int) (a0 : Act) (l : Array Bool) (a : Act) (wc : World) : Prop :=
  ∃ b0 b1 b2 b3 b4 b5 b6 : Bool, l = #[b0, b1, b2, b3, b4, b5, b6] ∧ ∃ v5 v6 v18 v19 v20, a = fr5 a0 v5 v6 v18 v19 v20 ∧ MixJ N w s b wc b0 b1 b2 b3 b4 b5 b6 v5 v6 v18 v19 v20

section
variable {N : Nat} {w wc : World} {s b : Nat → Int} {a0 : Act} {b0 b1 b2 b3 b4 b5 b6 : Bool} {v5 v6 v18 v19 v20 : Value} {Q : Exit → Act → World → Prop}
theorem mix_s0 {o : Oper} (ho : o.op = .call { callee := .value (.func 47), args := #[], argTypes := #[] }) (hd : o.dst = some 18) (hJ : MixJ N w s b wc b0 b1 b2 b3 b4 b5 b6 v5 v6 v18 v19 v20) :
    o.wp Tryd.prog (fr5 a0 v5 v6 v18 v19 v20) wc (MixI N w s b a0 #[true, b1, b2, b3, b4, b5, b6]) Q :=
  wp_callF 47 #[] #[] ho Tryd.enter47 #[] (by simp) (fun v w' => v = .agg (wordsA 64 roundsF) ∧ w' = wc.alloc (.cells (wordsA 64 roundsF) 75))
    ((rounds_any wc).mono (by rintro e w' ⟨rfl, rfl⟩; exact ⟨_, rfl, rfl, rfl⟩))
    (by rintro v w' ⟨rfl, rfl⟩; rw [hd]; exact ⟨true, b1, b2, b3, b4, b5, b6, rfl, v5, v6, _, v19, v20, fr5_p18 _ _ _ _ _ _ _, { hJ.later (below_new wc _) with e18 := fun _ => rfl }⟩)
theorem mix_s1 {o : Oper} (ho : o.op = .load 49 (.tmp 3)) (hd : o.dst = some 19) (h3 : a0.eval (.tmp 3) = ptr (N + 1)) (hJ : MixJ N w s b wc b0 b1 b2 b3 b4 b5 b6 v5 v6 v18 v19 v20) :
    o.wp Tryd.prog (fr5 a0 v5 v6 v18 v19 v20) wc (MixI N w s b a0 #[b0, true, b2, b3, b4, b5, b6]) Q :=
  wp_load_row 49 (.tmp 3) ho (N + 1) (by rw [fr5_e3]; exact h3) 49 (bytesA 64 b) (0, 0) (.array 64 5) hJ.k1 Tryd.underlying49 rfl (Tryd.size49B _)
    (by rw [hd]; exact ⟨b0, true, b2, b3, b4, b5, b6, rfl, v5, v6, v18, _, v20, fr5_p19 _ _ _ _ _ _ _, { hJ with e19 := fun _ => rfl }⟩)
theorem mix_s2 {o : Oper} (ho : o.op = .call { callee := .value (.func 48), args := #[.tmp 19], argTypes := #[49] }) (hd : o.dst = some 20) (hsz : 20 < a0.tmps.size) (hJ : MixJ N w s b wc b0 true b2 b3 b4 b5 b6 v5 v6 v18 v19 v20) :
    o.wp Tryd.prog (fr5 a0 v5 v6 v18 v19 v20) wc (MixI N w s b a0 #[b0, true, true, b3, b4, b5, b6]) Q :=
  wp_callF 48 #[.tmp 19] #[49] ho Tryd.enter48 #[.agg (bytesA 64 b)] (by rw [hJ.e19 rfl]; simp only [List.map_toArray, List.map_cons, List.map_nil, fr5_e19 _ _ _ _ _ _ hsz])
    (fun v w' => v = .agg (wordsA 64 (sched b 64)) ∧ Below wc.heap.size wc w') ((spread_any b wc).mono (by rintro e w' ⟨rfl, hb⟩; exact ⟨_, rfl, rfl, hb⟩))
    (by rintro v w' ⟨rfl, hb⟩; rw [hd]; exact ⟨b0, true, true, b3, b4, b5, b6, rfl, v5, v6, v18, _, _, fr5_p20 _ _ _ _ _ _ _, { hJ.later hb with e20 := fun _ => rfl }⟩)
theorem mix_s3 {o : Oper} (ho : o.op = .alloc 75) (hd : o.dst = some 5) (hJ : MixJ N w s b wc b0 b1 b2 false b4 b5 b6 v5 v6 v18 v19 v20) :
    o.wp Tryd.prog (fr5 a0 v5 v6 v18 v19 v20) wc (MixI N w s b a0 #[b0, b1, b2, true, b4, b5, b6]) Q :=
  wp_new 75 ho _ Tryd.new75 (by rw [hd]; exact ⟨b0, b1, b2, true, b4, b5, b6, rfl, _, v6, v18, v19, v20, fr5_p5 _ _ _ _ _ _ _, hJ.new3⟩)
theorem mix_s4 {o : Oper} (ho : o.op = .alloc 75) (hd : o.dst = some 6) (hJ : MixJ N w s b wc b0 b1 b2 b3 false b5 b6 v5 v6 v18 v19 v20) :
    o.wp Tryd.prog (fr5 a0 v5 v6 v18 v19 v20) wc (MixI N w s b a0 #[b0, b1, b2, b3, true, b5, b6]) Q :=
  wp_new 75 ho _ Tryd.new75 (by rw [hd]; exact ⟨b0, b1, b2, b3, true, b5, b6, rfl, v5, _, v18, v19, v20, fr5_p6 _ _ _ _ _ _ _, hJ.new4⟩)
theorem mix_s5 {o : Oper} (ho : o.op = .store 75 (.tmp 5) (.tmp 18)) (hd : o.dst = none) (hsz : 20 < a0.tmps.size) (hJ : MixJ N w s b wc true b1 b2 true b4 b5 b6 v5 v6 v18 v19 v20) :
    o.wp Tryd.prog (fr5 a0 v5 v6 v18 v19 v20) wc (MixI N w s b a0 #[true, b1, b2, true, b4, true, b6]) Q := by
  obtain rfl := hJ.e18 rfl
  obtain ⟨g, c, rfl, hg, hb, _⟩ := hJ.e5 rfl
  exact wp_store_row 75 (.tmp 5) (.tmp 18) ho g (wordsA 64 roundsF) (fr5_e5 _ _ _ _ _ _ hsz) (fr5_e18 _ _ _ _ _ _ hsz) 75 (wordsA 64 c) hb (Tryd.size75W _) (wordsA_sizes _ _ _) (wordsA_one _ _)
    (by rw [hd]; exact ⟨true, b1, b2, true, b4, true, b6, rfl, ptr g, v6, .agg (wordsA 64 roundsF), v19, v20, put_none _ _, hJ.store5 hg hb⟩)
theorem mix_s6 {o : Oper} (ho : o.op = .store 75 (.tmp 6) (.tmp 20)) (hd : o.dst = none) (hsz : 20 < a0.tmps.size) (hJ : MixJ N w s b wc b0 b1 true b3 true b5 b6 v5 v6 v18 v19 v20) :
    o.wp Tryd.prog (fr5 a0 v5 v6 v18 v19 v20) wc (MixI N w s b a0 #[b0, b1, true, b3, true, b5, true]) Q := by
  obtain rfl := hJ.e20 rfl
  obtain ⟨g, c, rfl, hg, hb, _⟩ := hJ.e6 rfl
  exact wp_store_row 75 (.tmp 6) (.tmp 20) ho g (wordsA 64 (sched b 64)) (fr5_e6 _ _ _ _ _ _ hsz) (fr5_e20 _ _ _ _ _ _ hsz) 75 (wordsA 64 c) hb (Tryd.size75W _) (wordsA_sizes _ _ _) (wordsA_one _ _)
    (by rw [hd]; exact ⟨b0, b1, true, b3, true, b5, true, rfl, v5, ptr g, v18, v19, .agg (wordsA 64 (sched b 64)), put_none _ _, hJ.store6 hg hb⟩)
end

theorem mix_step (q : String) {N : Nat} {w : World} {s b : Nat → Int} {a0 : Act} {Q : Exit → Act → World → Prop} (hsz : 20 < a0.tmps.size) (h3 : a0.eval (.tmp 3) = ptr (N + 1))
    (l : Array Bool) (a : Act) (wc : World) (i : Nat) (o : Oper) (hI : MixI N w s b a0 l a wc) (hi : l.getD i true = false) (ho : (#[mo0 q, mo1 q, mo2 q, mo3 q, mo4 q, mo5 q, mo6 q] : Array Oper)[i]? = some o)
    (he : ∀ e ∈ o.after, Region.binds .any e = true → l.getD e.on false = true) :
    o.guard = none ∧ o.wp Tryd.prog a wc (MixI N w s b a0 (l.setIfInBounds i true)) Q := by
  obtain ⟨b0, b1, b2, b3, b4, b5, b6, rfl, v5, v6, v18, v19, v20, rfl, hJ⟩ := hI
  match i, hi, ho with
  | 0, hi, ho =>
    have e : mo0 q = o := Option.some.inj ho
    exact ⟨by rw [← e]; rfl, mix_s0 (by rw [← e]; rfl) (by rw [← e]; rfl) hJ⟩
  | 1, hi, ho =>
    have e : mo1 q = o := Option.some.inj ho
    exact ⟨by rw [← e]; rfl, mix_s1 (by rw [← e]; rfl) (by rw [← e]; rfl) h3 hJ⟩
  | 2, hi, ho =>
    have e : mo2 q = o := Option.some.inj ho
    obtain rfl : b1 = true := he ⟨1, .data⟩ (by rw [← e]; simp [mo2]) rfl
    exact ⟨by rw [← e]; rfl, mix_s2 (by rw [← e]; rfl) (by rw [← e]; rfl) hsz hJ⟩
  | 3, hi, ho =>
    have e : mo3 q = o := Option.some.inj ho
    obtain rfl : b3 = false := hi
    exact ⟨by rw [← e]; rfl, mix_s3 (by rw [← e]; rfl) (by rw [← e]; rfl) hJ⟩
  | 4, hi, ho =>
    have e : mo4 q = o := Option.some.inj ho
    obtain rfl : b4 = false := hi
    exact ⟨by rw [← e]; rfl, mix_s4 (by rw [← e]; rfl) (by rw [← e]; rfl) hJ⟩
  | 5, hi, ho =>
    have e : mo5 q = o := Option.some.inj ho
    obtain rfl : b0 = true := he ⟨0, .data⟩ (by rw [← e]; simp [mo5]) rfl
    obtain rfl : b3 = true := he ⟨3, .data⟩ (by rw [← e]; simp [mo5]) rfl
    exact ⟨by rw [← e]; rfl, mix_s5 (by rw [← e]; rfl) (by rw [← e]; rfl) hsz hJ⟩
  | 6, hi, ho =>
    have e : mo6 q = o := Option.some.inj ho
    obtain rfl : b2 = true := he ⟨2, .data⟩ (by rw [← e]; simp [mo6]) rfl
    obtain rfl : b4 = true := he ⟨4, .data⟩ (by rw [← e]; simp [mo6]) rfl
    exact ⟨by rw [← e]; rfl, mix_s6 (by rw [← e]; rfl) (by rw [← e]; rfl) hsz hJ⟩
  | n + 7, hi, ho => simp at ho

theorem mix_back (q : String) (i : Nat) (o : Oper) (ho : (#[mo0 q, mo1 q, mo2 q, mo3 q, mo4 q, mo5 q, mo6 q] : Array Oper)[i]? = some o) (e : Edge) (he : e ∈ o.after) (_ : Region.binds .any e = true) : e.on < i := by
  match i, ho with
  | 0, ho => obtain rfl : mo0 q = o := Option.some.inj ho; simp [mo0] at he
  | 1, ho => obtain rfl : mo1 q = o := Option.some.inj ho; simp [mo1] at he
  | 2, ho => obtain rfl : mo2 q = o := Option.some.inj ho; simp [mo2] at he; rcases he with rfl | rfl <;> decide
  | 3, ho => obtain rfl : mo3 q = o := Option.some.inj ho; simp [mo3] at he
  | 4, ho => obtain rfl : mo4 q = o := Option.some.inj ho; simp [mo4] at he
  | 5, ho => obtain rfl : mo5 q = o := Option.some.inj ho; simp [mo5] at he; rcases he with rfl | rfl | rfl | rfl | rfl | rfl | rfl | rfl <;> decide
  | 6, ho => obtain rfl : mo6 q = o := Option.some.inj ho; simp [mo6] at he; rcases he with rfl | rfl | rfl | rfl | rfl | rfl | rfl | rfl | rfl <;> decide
  | n + 7, ho => simp at ho

/-- The first statement of mix, in whatever order. -/
theorem mix_region1 (q : String) (N : Nat) (w w0 : World) (s b : Nat → Int) (a0 : Act) (hsz : 20 < a0.tmps.size) (h3 : a0.eval (.tmp 3) = ptr (N + 1))
    (hu : a0 = fr5 a0 undef undef undef undef undef) (hJ0 : MixJ N w s b w0.drew false false false false false false false undef undef undef undef undef)
    (Q : Exit → Act → World → Prop)
    (hQ : ∀ (g k : Nat) (v18 v19 v20 : Value) (wc : World), N + 3 ≤ g → N + 3 ≤ k → g ≠ k → Blk wc g 75 (wordsA 64 roundsF) → Blk wc k 75 (wordsA 64 (sched b 64)) →
      Blk wc N 73 (wordsA 8 s) → Blk wc (N + 1 + 1) 73 (wordsA 8 fun _ => 0) → Below N w wc → Q .normal (fr5 a0 (ptr g) (ptr k) v18 v19 v20) wc) :
    (Code.region 1 #[mo0 q, mo1 q, mo2 q, mo3 q, mo4 q, mo5 q, mo6 q] true).wp Tryd.prog Q a0 w0 := by
  refine wp_region_inv (by kernel_rfl) (MixI N w s b a0) ?_ (mix_step q hsz h3) (mix_back q) ?_ ?_
  · rintro _ _ _ ⟨b0, b1, b2, b3, b4, b5, b6, rfl, _⟩; rfl
  · rintro _ _ wc ⟨b0, b1, b2, b3, b4, b5, b6, rfl, v5, v6, v18, v19, v20, rfl, hJ⟩ hall
    have q3 : b3 = true := hall 3 (by simp)
    have q4 : b4 = true := hall 4 (by simp)
    have q5 : b5 = true := hall 5 (by simp)
    have q6 : b6 = true := hall 6 (by simp)
    obtain ⟨g, c, rfl, hg, hb, hc⟩ := hJ.e5 q3
    obtain ⟨k, d, rfl, hk, hd, hdd⟩ := hJ.e6 q4
    obtain rfl := hc q5
    obtain rfl := hdd q6
    exact hQ g k v18 v19 v20 wc hg hk (fun e => hJ.ne q3 q4 (by rw [e])) hb hd hJ.k0 hJ.k2 hJ.below
  · exact ⟨false, false, false, false, false, false, false, rfl, _, _, _, _, _, hu, hJ0⟩

end Go.Proofs.YtpakaladpdoejaaDoor
