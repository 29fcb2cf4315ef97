import Derived.Test.YtpakaladpdoejaaDoorShaRefC
namespace Go.Proofs.YtpakaladpdoejaaDoor
open Go.RowKit

def ro0 (q : String) : Oper := { dst := some 19, op := Op.load 73 (Operand.tmp 4), type := 73, pos := q, after := #[], guard := none }
def ro1 (q : String) : Oper := { dst := some 20, op := Op.move (Operand.tmp 3), type := 22, pos := q, after := #[], guard := none }
def ro2 (q : String) : Oper := { dst := some 21, op := Op.move (Operand.tmp 6), type := 3, pos := q, after := #[], guard := none }
def ro3 (q : String) : Oper := { dst := some 22, op := Op.move (Operand.tmp 6), type := 3, pos := q, after := #[], guard := none }
def ro4 (q : String) : Oper := { dst := some 23, op := Op.binOp BinOp.add 3 (Operand.tmp 22) (Operand.const (Value.int IntKind.i64 64)) 3, type := 3, pos := q, after := #[{ on := 3, ground := Ground.data }], guard := none }
def ro5 (q : String) : Oper := { dst := some 24, op := Op.slice 22 (Operand.tmp 20) (some (Operand.tmp 21)) (some (Operand.tmp 23)) none, type := 22, pos := q, after := #[{ on := 1, ground := Ground.data }, { on := 2, ground := Ground.data }, { on := 4, ground := Ground.data }], guard := none }
def ro6 (q : String) : Oper := { dst := some 25, op := Op.load 75 (Operand.tmp 5), type := 75, pos := q, after := #[], guard := none }
def ro7 (q : String) : Oper := { dst := some 26, op := Op.call { callee := Callee.value (Operand.func 37), args := #[Operand.tmp 19, Operand.tmp 24, Operand.tmp 25], argTypes := #[73, 22, 75] }, type := 73, pos := q, after := #[{ on := 0, ground := Ground.data }, { on := 5, ground := Ground.data }, { on := 6, ground := Ground.data }], guard := none }
def ro8 (q : String) : Oper := { dst := none, op := Op.store 73 (Operand.tmp 4) (Operand.tmp 26), type := 0, pos := q, after := #[{ on := 7, ground := Ground.data }, { on := 7, ground := Ground.chain }, { on := 0, ground := Ground.phase }, { on := 1, ground := Ground.phase }, { on := 2, ground := Ground.phase }, { on := 3, ground := Ground.phase }, { on := 4, ground := Ground.phase }, { on := 5, ground := Ground.phase }, { on := 6, ground := Ground.phase }, { on := 7, ground := Ground.phase }], guard := none }
def roA (q : String) : Array Oper := #[ro0 q, ro1 q, ro2 q, ro3 q, ro4 q, ro5 q, ro6 q, ro7 q, ro8 q]
theorem Tryd.enter37 (w : World) (vs : Array Value) : (callFunc 37 vs).run Tryd.prog w = .ok (.enter 37 vs) w := by kernel_rfl
theorem Tryd.elem28 : Tryd.prog.elem 22 = 5 := by kernel_rfl

theorem slice28 (w : World) (g n cap at_ : Nat) (h1 : at_ + 64 ≤ n) (h2 : n ≤ cap) :
    (Instr.sliceAt 22 (.slice (some ⟨g, 0, none⟩) n cap) (some (.int .i64 (at_ : Int))) (some (.int .i64 ((at_ : Int) + 64))) none).run Tryd.prog w = .ok (.slice (some ⟨g, at_, none⟩) 64 (cap - at_)) w := by
  rw [run_sliceAt_slice (P := Tryd.prog) (w := w) 22 _ _ _ _ (by rw [Tryd.elem28]; exact Tryd.underlying22)]
  rw [run_slice_lh (P := Tryd.prog) (w := w) (t := 22) (ht := by rw [Tryd.elem28]; exact Tryd.underlying22) (kl := .i64) (kh := .i64) (h0 := by omega) (h1 := by omega) (h2 := by omega), Tryd.elem28, Tryd.sizeOf5]
  have e1 : ((at_ : Int) + 64).toNat = at_ + 64 := by omega
  have e2 : ¬ cap = at_ := by omega
  simp [sliced, Result.andThen, e1, e2, Addr.add_mid]

def roV (g n cap at_ : Nat) (s p : Nat → Int) : Nat → Value
  | 0 => .agg (wordsA 8 s)
  | 1 => .slice (some ⟨g, 0, none⟩) n cap
  | 2 => .int .i64 (at_ : Int)
  | 3 => .int .i64 (at_ : Int)
  | 4 => .int .i64 ((at_ : Int) + 64)
  | 5 => .slice (some ⟨g, at_, none⟩) 64 (cap - at_)
  | 6 => .agg (wordsA 64 roundsF)
  | 7 => .agg (wordsA 8 (mixF s p))
  | _ => undef
structure RoW (b4 b5 g at_ : Nat) (w0 : World) (s p : Nat → Int) (l : Array Bool) (w : World) : Prop where
  gr : w0.grownBy w (some b4)
  a : l.getD 8 false = false → Blk w b4 73 (wordsA 8 s)
  b : l.getD 8 false = true → Blk w b4 73 (wordsA 8 (mixF s p))
  c : l.getD 8 false = true → l.getD 0 false = true
  k : Blk w b5 75 (wordsA 64 roundsF)
  x : ∀ i, i < 64 → w.cell? ⟨g, at_ + i, none⟩ = some (.int .u8 (p i))
theorem RoW.next {b4 b5 g at_ : Nat} {w0 w w' : World} {s p : Nat → Int} {l : Array Bool} (h : RoW b4 b5 g at_ w0 s p l w) (hb : Below w.heap.size w w') (i : Nat) (hi : i ≠ 8) : RoW b4 b5 g at_ w0 s p (l.setIfInBounds i true) w' where
  gr := grownBy_trans h.gr (grownBy_below hb _)
  a e := by rw [getD_set_ne false hi] at e; exact (h.a e).below hb (h.a e).lt
  b e := by rw [getD_set_ne false hi] at e; exact (h.b e).below hb (h.b e).lt
  c e := by rw [getD_set_ne false hi] at e; exact getD_set_true (h.c e)
  k := h.k.below hb h.k.lt
  x j hj := by rw [hb.cell (p := ⟨g, at_ + j, none⟩) (cell_lt (h.x j hj))]; exact h.x j hj

theorem wp_sliceOp {P : Program} {Q : Exit → Act → World → Prop} {o : Oper} {a : Act} {w : World} {K : Act → World → Prop} (t : TypeId) (x lo hi : Operand) (ho : o.op = .slice t x (some lo) (some hi) none) (vx vl vh v : Value) (hx : a.eval x = vx) (hl : a.eval lo = vl) (hh : a.eval hi = vh)
    (hrun : (Instr.sliceAt t vx (some vl) (some vh) none).run P w = .ok v w) (h : K (a.put o.dst v) w) : o.wp P a w K Q := by
  refine wp_val v ?_ h
  unfold execOp
  simp only [ho, Option.map_some, Option.map_none, hx, hl, hh, Sem.run_bind, hrun, Result.andThen_ok]
  rfl

theorem add64 (at_ : Nat) (h : at_ ≤ 1152921504606846976) (w : World) (a : Act) (o : Oper) (ho : o.op = .binOp .add 3 (.tmp 22) (.const (.int .i64 64)) 3) (hx : a.eval (.tmp 22) = .int .i64 (at_ : Int)) :
    (execOp a.eval o).run Tryd.prog w = .ok (.value (.int .i64 ((at_ : Int) + 64))) w := by
  have hw : IntKind.i64.wrap ((at_ : Int) + 64) = (at_ : Int) + 64 := by rw [IntKind.wrap_i64]; omega
  have hc : a.eval (.const (.int .i64 64)) = .int .i64 64 := rfl
  unfold execOp
  simp only [ho, hx, hc]
  simp [go_sem, hw]

set_option maxRecDepth 8000 in
set_option maxHeartbeats 1000000 in
theorem ro_step (q : String) (b4 b5 g n cap at_ : Nat) (w0 : World) (s p : Nat → Int) (a0 : Act) (h3 : a0.eval (.tmp 3) = .slice (some ⟨g, 0, none⟩) n cap) (h4 : a0.eval (.tmp 4) = ptr b4) (h5 : a0.eval (.tmp 5) = ptr b5) (h6 : a0.eval (.tmp 6) = .int .i64 (at_ : Int))
    (hn : at_ + 64 ≤ n) (hcap : n ≤ cap) (hsm : at_ ≤ 1152921504606846976) (hne5 : b5 ≠ b4) (hneg : g ≠ b4) (Q : Exit → Act → World → Prop)
    (l : Array Bool) (a : Act) (w : World) (i : Nat) (o : Oper)
    (hold : ∀ t : Nat, (∀ (j : Nat) (o' : Oper), (roA q)[j]? = some o' → o'.dst ≠ some t) → a.eval (.tmp t) = a0.eval (.tmp t))
    (hval : ∀ (j : Nat) (o' : Oper) (d : Nat), (roA q)[j]? = some o' → o'.dst = some d → l.getD j false = true → a.eval (.tmp d) = roV g n cap at_ s p j)
    (hW : RoW b4 b5 g at_ w0 s p l w) (_ : l.size = (roA q).size) (hi : l.getD i true = false) (ho : (roA q)[i]? = some o) (he : ∀ e ∈ o.after, Region.binds .any e = true → l.getD e.on false = true) :
    o.guard = none ∧ o.wp Tryd.prog a w (fun a' w' => a' = a.put o.dst (roV g n cap at_ s p i) ∧ RoW b4 b5 g at_ w0 s p (l.setIfInBounds i true) w') Q := by
  have hfree : ∀ t : Nat, t < 19 → a.eval (.tmp t) = a0.eval (.tmp t) := by
    intro t ht
    refine hold t ?_
    intro j o' hj hd
    match j, hj with
    | 0, hj => have e : ro0 q = o' := Option.some.inj hj; rw [← e] at hd; simp [ro0] at hd; subst hd; exact absurd ht (by decide)
    | 1, hj => have e : ro1 q = o' := Option.some.inj hj; rw [← e] at hd; simp [ro1] at hd; subst hd; exact absurd ht (by decide)
    | 2, hj => have e : ro2 q = o' := Option.some.inj hj; rw [← e] at hd; simp [ro2] at hd; subst hd; exact absurd ht (by decide)
    | 3, hj => have e : ro3 q = o' := Option.some.inj hj; rw [← e] at hd; simp [ro3] at hd; subst hd; exact absurd ht (by decide)
    | 4, hj => have e : ro4 q = o' := Option.some.inj hj; rw [← e] at hd; simp [ro4] at hd; subst hd; exact absurd ht (by decide)
    | 5, hj => have e : ro5 q = o' := Option.some.inj hj; rw [← e] at hd; simp [ro5] at hd; subst hd; exact absurd ht (by decide)
    | 6, hj => have e : ro6 q = o' := Option.some.inj hj; rw [← e] at hd; simp [ro6] at hd; subst hd; exact absurd ht (by decide)
    | 7, hj => have e : ro7 q = o' := Option.some.inj hj; rw [← e] at hd; simp [ro7] at hd; subst hd; exact absurd ht (by decide)
    | 8, hj => have e : ro8 q = o' := Option.some.inj hj; rw [← e] at hd; simp [ro8] at hd
    | m + 9, hj => simp [roA] at hj
  have f3 := (hfree 3 (by omega)).trans h3
  have f4 := (hfree 4 (by omega)).trans h4
  have f5 := (hfree 5 (by omega)).trans h5
  have f6 := (hfree 6 (by omega)).trans h6
  have v := fun (j d : Nat) (o' : Oper) (h1 : (roA q)[j]? = some o') (h2 : o'.dst = some d) (h3 : l.getD j false = true) => hval j o' d h1 h2 h3
  match i, hi, ho with
  | 0, hi, ho =>
    have e : ro0 q = o := Option.some.inj ho
    have hb : Blk w b4 73 (wordsA 8 s) := hW.a (by
      cases h : l.getD 8 false with
      | false => rfl
      | true => have := hW.c h; rw [getD_ft hi] at this; cases this)
    exact ⟨by rw [← e]; rfl, wp_load_row 73 (.tmp 4) (by rw [← e]; rfl) b4 f4 73 (wordsA 8 s) (0, 0) (.array 8 72) hb Tryd.underlying73 rfl (Tryd.size73W _) ⟨rfl, hW.next (Below.refl _ _) 0 (by decide)⟩⟩
  | 1, hi, ho =>
    have e : ro1 q = o := Option.some.inj ho
    exact ⟨by rw [← e]; rfl, wp_move (.tmp 3) (by rw [← e]; rfl) _ f3 ⟨rfl, hW.next (Below.refl _ _) 1 (by decide)⟩⟩
  | 2, hi, ho =>
    have e : ro2 q = o := Option.some.inj ho
    exact ⟨by rw [← e]; rfl, wp_move (.tmp 6) (by rw [← e]; rfl) _ f6 ⟨rfl, hW.next (Below.refl _ _) 2 (by decide)⟩⟩
  | 3, hi, ho =>
    have e : ro3 q = o := Option.some.inj ho
    exact ⟨by rw [← e]; rfl, wp_move (.tmp 6) (by rw [← e]; rfl) _ f6 ⟨rfl, hW.next (Below.refl _ _) 3 (by decide)⟩⟩
  | 4, hi, ho =>
    have e : ro4 q = o := Option.some.inj ho
    have qq : a.eval (.tmp 22) = .int .i64 (at_ : Int) := v 3 22 (ro3 q) rfl rfl (he ⟨3, .data⟩ (by rw [← e]; simp [ro4]) rfl)
    exact ⟨by rw [← e]; rfl, wp_val (.int .i64 ((at_ : Int) + 64)) (add64 at_ hsm w a o (by rw [← e]; rfl) qq) ⟨rfl, hW.next (Below.refl _ _) 4 (by decide)⟩⟩
  | 5, hi, ho =>
    have e : ro5 q = o := Option.some.inj ho
    have q1 : a.eval (.tmp 20) = .slice (some ⟨g, 0, none⟩) n cap := v 1 20 (ro1 q) rfl rfl (he ⟨1, .data⟩ (by rw [← e]; simp [ro5]) rfl)
    have q2 : a.eval (.tmp 21) = .int .i64 (at_ : Int) := v 2 21 (ro2 q) rfl rfl (he ⟨2, .data⟩ (by rw [← e]; simp [ro5]) rfl)
    have q3 : a.eval (.tmp 23) = .int .i64 ((at_ : Int) + 64) := v 4 23 (ro4 q) rfl rfl (he ⟨4, .data⟩ (by rw [← e]; simp [ro5]) rfl)
    exact ⟨by rw [← e]; rfl, wp_sliceOp 22 (.tmp 20) (.tmp 21) (.tmp 23) (by rw [← e]; rfl) _ _ _ _ q1 q2 q3 (slice28 w g n cap at_ hn hcap) ⟨rfl, hW.next (Below.refl _ _) 5 (by decide)⟩⟩
  | 6, hi, ho =>
    have e : ro6 q = o := Option.some.inj ho
    exact ⟨by rw [← e]; rfl, wp_load_row 75 (.tmp 5) (by rw [← e]; rfl) b5 f5 75 (wordsA 64 roundsF) (0, 0) (.array 64 72) hW.k Tryd.underlying75 rfl (Tryd.size75W _) ⟨rfl, hW.next (Below.refl _ _) 6 (by decide)⟩⟩
  | 7, hi, ho =>
    have e : ro7 q = o := Option.some.inj ho
    have q1 : a.eval (.tmp 19) = .agg (wordsA 8 s) := v 0 19 (ro0 q) rfl rfl (he ⟨0, .data⟩ (by rw [← e]; simp [ro7]) rfl)
    have q2 : a.eval (.tmp 24) = .slice (some ⟨g, at_, none⟩) 64 (cap - at_) := v 5 24 (ro5 q) rfl rfl (he ⟨5, .data⟩ (by rw [← e]; simp [ro7]) rfl)
    have q3 : a.eval (.tmp 25) = .agg (wordsA 64 roundsF) := v 6 25 (ro6 q) rfl rfl (he ⟨6, .data⟩ (by rw [← e]; simp [ro7]) rfl)
    exact ⟨by rw [← e]; rfl, wp_callF 37 #[.tmp 19, .tmp 24, .tmp 25] #[73, 22, 75] (by rw [← e]; rfl) Tryd.enter37 #[.agg (wordsA 8 s), .slice (some ⟨g, at_, none⟩) 64 (cap - at_), .agg (wordsA 64 roundsF)] (by simp only [List.map_toArray, List.map_cons, List.map_nil, q1, q2, q3])
      (fun v w' => v = .agg (wordsA 8 (mixF s p)) ∧ Below w.heap.size w w') ((piece_any s p g at_ (cap - at_) w hW.x).mono (by rintro e w' ⟨rfl, hb⟩; exact ⟨_, rfl, rfl, hb⟩))
      (by rintro v w' ⟨rfl, hb⟩; exact ⟨rfl, hW.next hb 7 (by decide)⟩)⟩
  | 8, hi, ho =>
    have e : ro8 q = o := Option.some.inj ho
    have q2 : a.eval (.tmp 26) = .agg (wordsA 8 (mixF s p)) := v 7 26 (ro7 q) rfl rfl (he ⟨7, .data⟩ (by rw [← e]; simp [ro8]) rfl)
    have l0 := he ⟨0, .phase⟩ (by rw [← e]; simp [ro8]) rfl
    have hb := hW.a (getD_ft hi)
    refine ⟨by rw [← e]; rfl, wp_store_row 73 (.tmp 4) (.tmp 26) (by rw [← e]; rfl) b4 (wordsA 8 (mixF s p)) f4 q2 73 (wordsA 8 s) hb (Tryd.size73W _) (wordsA_sizes _ _ _) (wordsA_one _ _) ?_⟩
    have h8 : (l.setIfInBounds 8 true).getD 8 false = true := by
      obtain ⟨h1, _⟩ := getD_lt hi
      simp [Array.getD, h1]
    exact ⟨rfl, { gr := grownBy_trans hW.gr (grownBy_setRow _ _ _), a := fun e => (by rw [h8] at e; cases e), b := fun _ => Blk.setRow hb _, c := fun _ => getD_set_true l0, k := hW.k.setRow_ne hne5 _, x := fun j hj => (by rw [cell_setRow_other w b4 _ ⟨g, at_ + j, none⟩ hneg]; exact hW.x j hj) }⟩
  | m + 9, hi, ho => simp [roA] at ho

/-- The statement that calls piece, in whatever order. -/
theorem ro_region (q : String) (b4 b5 g n cap at_ : Nat) (w0 : World) (s p : Nat → Int) (a0 : Act) (hsz : a0.tmps.size = 45) (h3 : a0.eval (.tmp 3) = .slice (some ⟨g, 0, none⟩) n cap) (h4 : a0.eval (.tmp 4) = ptr b4) (h5 : a0.eval (.tmp 5) = ptr b5) (h6 : a0.eval (.tmp 6) = .int .i64 (at_ : Int))
    (hn : at_ + 64 ≤ n) (hcap : n ≤ cap) (hsm : at_ ≤ 1152921504606846976) (hne5 : b5 ≠ b4) (hneg : g ≠ b4) (hb4 : Blk w0 b4 73 (wordsA 8 s)) (hb5 : Blk w0 b5 75 (wordsA 64 roundsF)) (hx : ∀ i, i < 64 → w0.cell? ⟨g, at_ + i, none⟩ = some (.int .u8 (p i))) (Q : Exit → Act → World → Prop)
    (hQ : ∀ wc, w0.grownBy wc (some b4) → Blk wc b4 73 (wordsA 8 (mixF s p)) → Q .normal (putsTo (roA q) (roV g n cap at_ s p) a0 9) wc) :
    (Code.region 7 (roA q) true).wp Tryd.prog Q a0 w0 := by
  refine wp_region_vals (by kernel_rfl) (roV g n cap at_ s p) (RoW b4 b5 g at_ w0 s p) (by rw [hsz]; kernel_rfl) (by kernel_rfl) (ro_step q b4 b5 g n cap at_ w0 s p a0 h3 h4 h5 h6 hn hcap hsm hne5 hneg Q) ?_ ?_
  · intro l wc hW hall
    exact hQ wc hW.gr (hW.b (hall 8 (by simp [roA])))
  · exact ⟨⟨rfl, rfl, rfl, Nat.le_refl _, fun _ _ _ => rfl⟩, fun _ => hb4.drew, fun h => by simp [Array.getD] at h, fun h => by simp [Array.getD] at h, hb5.drew, hx⟩
theorem putsTo_ro (q : String) (g n cap at_ : Nat) (s p : Nat → Int) (a0 : Act) : putsTo (roA q) (roV g n cap at_ s p) a0 9 =
    ((((((((a0.put (some 19) (.agg (wordsA 8 s))).put (some 20) (.slice (some ⟨g, 0, none⟩) n cap)).put (some 21) (.int .i64 (at_ : Int))).put (some 22) (.int .i64 (at_ : Int))).put (some 23) (.int .i64 ((at_ : Int) + 64))).put (some 24) (.slice (some ⟨g, at_, none⟩) 64 (cap - at_))).put (some 25) (.agg (wordsA 64 roundsF))).put (some 26) (.agg (wordsA 8 (mixF s p)))) := by kernel_rfl
end Go.Proofs.YtpakaladpdoejaaDoor
