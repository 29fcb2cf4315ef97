import Derived.Test.YtpakaladpdoejaaDoorShaVals
import Derived.Test.YtpakaladpdoejaaDoorShaDigA
namespace Go.Proofs.YtpakaladpdoejaaDoor
open Go.RowKit

def wo0 (q : String) : Oper := { dst := some 36, op := Op.move (Operand.tmp 0), type := 69, pos := q, after := #[], guard := none }
def wo1 (q : String) : Oper := { dst := some 37, op := Op.move (Operand.tmp 0), type := 69, pos := q, after := #[], guard := none }
def wo2 (q : String) : Oper := { dst := some 38, op := Op.nilCheck (Operand.tmp 37), type := 0, pos := q, after := #[{ on := 1, ground := Ground.data }], guard := none }
def wo3 (q : String) : Oper := { dst := some 39, op := Op.fieldAddr 94 (Operand.tmp 38) 0, type := 0, pos := q, after := #[{ on := 2, ground := Ground.data }], guard := none }
def wo4 (q : String) : Oper := { dst := some 40, op := Op.load 73 (Operand.tmp 39), type := 73, pos := q, after := #[{ on := 3, ground := Ground.data }], guard := none }
def wo5 (q : String) : Oper := { dst := some 41, op := Op.move (Operand.tmp 0), type := 69, pos := q, after := #[], guard := none }
def wo6 (q : String) : Oper := { dst := some 42, op := Op.nilCheck (Operand.tmp 41), type := 0, pos := q, after := #[{ on := 5, ground := Ground.data }], guard := none }
def wo7 (q : String) : Oper := { dst := some 43, op := Op.fieldAddr 94 (Operand.tmp 42) 1, type := 0, pos := q, after := #[{ on := 6, ground := Ground.data }], guard := none }
def wo8 (q : String) : Oper := { dst := some 44, op := Op.load 49 (Operand.tmp 43), type := 49, pos := q, after := #[{ on := 7, ground := Ground.data }], guard := none }
def wo9 (q : String) : Oper := { dst := some 45, op := Op.call { callee := Callee.value (Operand.func 42), args := #[Operand.tmp 40, Operand.tmp 44], argTypes := #[73, 49] }, type := 73, pos := q, after := #[{ on := 4, ground := Ground.data }, { on := 8, ground := Ground.data }], guard := none }
def wo10 (q : String) : Oper := { dst := some 46, op := Op.nilCheck (Operand.tmp 36), type := 0, pos := q, after := #[{ on := 0, ground := Ground.data }, { on := 0, ground := Ground.phase }, { on := 1, ground := Ground.phase }, { on := 2, ground := Ground.phase }, { on := 3, ground := Ground.phase }, { on := 4, ground := Ground.phase }, { on := 5, ground := Ground.phase }, { on := 6, ground := Ground.phase }, { on := 7, ground := Ground.phase }, { on := 8, ground := Ground.phase }, { on := 9, ground := Ground.phase }], guard := none }
def wo11 (q : String) : Oper := { dst := some 47, op := Op.fieldAddr 94 (Operand.tmp 46) 0, type := 0, pos := q, after := #[{ on := 10, ground := Ground.data }, { on := 0, ground := Ground.phase }, { on := 1, ground := Ground.phase }, { on := 2, ground := Ground.phase }, { on := 3, ground := Ground.phase }, { on := 4, ground := Ground.phase }, { on := 5, ground := Ground.phase }, { on := 6, ground := Ground.phase }, { on := 7, ground := Ground.phase }, { on := 8, ground := Ground.phase }, { on := 9, ground := Ground.phase }], guard := none }
def wo12 (q : String) : Oper := { dst := none, op := Op.store 73 (Operand.tmp 47) (Operand.tmp 45), type := 0, pos := q, after := #[{ on := 11, ground := Ground.data }, { on := 9, ground := Ground.data }, { on := 9, ground := Ground.chain }, { on := 0, ground := Ground.phase }, { on := 1, ground := Ground.phase }, { on := 2, ground := Ground.phase }, { on := 3, ground := Ground.phase }, { on := 4, ground := Ground.phase }, { on := 5, ground := Ground.phase }, { on := 6, ground := Ground.phase }, { on := 7, ground := Ground.phase }, { on := 8, ground := Ground.phase }, { on := 9, ground := Ground.phase }], guard := none }
def woA (q : String) : Array Oper := #[wo0 q, wo1 q, wo2 q, wo3 q, wo4 q, wo5 q, wo6 q, wo7 q, wo8 q, wo9 q, wo10 q, wo11 q, wo12 q]
theorem Tryd.enter42 (w : World) (vs : Array Value) : (callFunc 42 vs).run Tryd.prog w = .ok (.enter 42 vs) w := by kernel_rfl
theorem Tryd.field67_0 (g : Nat) (w : World) : (Instr.fieldAt 94 (ptr g) 0).run Tryd.prog w = .ok (ptr g) w := by kernel_rfl
theorem Tryd.field67_1 (g : Nat) (w : World) : (Instr.fieldAt 94 (ptr g) 1).run Tryd.prog w = .ok (.pointer (some ⟨g, 8, none⟩)) w := by kernel_rfl

def woV (g : Nat) (s p : Nat → Int) : Nat → Value
  | 4 => .agg (wordsA 8 s)
  | 7 => .pointer (some ⟨g, 8, none⟩)
  | 8 => .agg (bytesA 64 p)
  | 9 => .agg (wordsA 8 (mixF s p))
  | 12 => undef
  | _ => ptr g
structure WoW (g : Nat) (w0 : World) (s p : Nat → Int) (m : Int) (l : Array Bool) (w : World) : Prop where
  gr : w0.grownBy w (some g)
  a : l.getD 12 false = false → Blk w g 94 (digA s p m)
  b : l.getD 12 false = true → Blk w g 94 (digA (mixF s p) p m)
  c : l.getD 12 false = true → l.getD 4 false = true ∧ l.getD 8 false = true

theorem digA_words (s p c : Nat → Int) (m : Int) : ((digA s p m).toList.take 0 ++ (wordsA 8 c).toList ++ (digA s p m).toList.drop (0 + (wordsA 8 c).size)).toArray = digA c p m := by
  have hl : (digA s p m).toList.length = 73 := by simp [digA_size]
  apply Array.ext_getElem?
  intro i
  rw [wordsA_size, List.take_zero, List.nil_append, List.getElem?_toArray, List.getElem?_append, Array.length_toList, wordsA_size]
  by_cases h8 : i < 8
  · rw [if_pos h8, Array.getElem?_toList, wordsA_get _ _ _ h8, digA_w _ _ _ _ h8]
  · rw [if_neg h8, List.getElem?_drop, Array.getElem?_toList, show 0 + 8 + (i - 8) = i by omega]
    by_cases h72 : i < 72
    · obtain ⟨j, rfl⟩ : ∃ j, i = 8 + j := ⟨i - 8, by omega⟩
      rw [digA_r _ _ _ _ (by omega), digA_r _ _ _ _ (by omega)]
    · by_cases h73 : i = 72
      · subst h73; rw [digA_n, digA_n]
      · rw [Array.getElem?_eq_none (by rw [digA_size]; omega), Array.getElem?_eq_none (by rw [digA_size]; omega)]
theorem dig_range8 {w : World} {g : Nat} {s p : Nat → Int} {m : Int} (h : Blk w g 94 (digA s p m)) : w.rangeAt g 8 (bytesA 64 p).toList := by
  intro j v hv
  have hj : j < 64 := by have := (List.getElem?_eq_some_iff.1 hv).1; simpa [bytesA_size] using this
  rw [h.cell, digA_r _ _ _ _ hj, ← hv, Array.getElem?_toList, bytesA_get _ _ _ hj]
theorem dig_range0 {w : World} {g : Nat} {s p : Nat → Int} {m : Int} (h : Blk w g 94 (digA s p m)) : w.rangeAt g 0 (wordsA 8 s).toList := by
  intro j v hv
  have hj : j < 8 := by have := (List.getElem?_eq_some_iff.1 hv).1; simpa [wordsA_size] using this
  rw [Nat.zero_add, h.cell, digA_w _ _ _ _ hj, ← hv, Array.getElem?_toList, wordsA_get _ _ _ hj]
theorem grownBy_trans {a b c : World} {o : Option Nat} (h : a.grownBy b o) (k : b.grownBy c o) : a.grownBy c o :=
  ⟨k.os.trans h.os, k.tape.trans h.tape, k.output.trans h.output, Nat.le_trans h.size k.size, fun i hi hn => (k.block i (Nat.lt_of_lt_of_le hi h.size) hn).trans (h.block i hi hn)⟩
theorem WoW.next {g : Nat} {w0 w w' : World} {s p : Nat → Int} {m : Int} {l : Array Bool} (h : WoW g w0 s p m l w) (hb : Below w.heap.size w w') (i : Nat) (hi : i ≠ 12) : WoW g w0 s p m (l.setIfInBounds i true) w' where
  gr := grownBy_trans h.gr (grownBy_below hb _)
  a e := by rw [getD_set_ne false hi] at e; exact (h.a e).below hb (h.a e).lt
  b e := by rw [getD_set_ne false hi] at e; exact (h.b e).below hb (h.b e).lt
  c e := by rw [getD_set_ne false hi] at e; exact ⟨getD_set_true (h.c e).1, getD_set_true (h.c e).2⟩
theorem getD_ft {l : Array Bool} {i : Nat} (h : l.getD i true = false) : l.getD i false = false := by
  obtain ⟨h1, h2⟩ := getD_lt h
  simp [Array.getD, h1, h2]

set_option maxRecDepth 8000 in
set_option maxHeartbeats 1000000 in
theorem wo_step (q : String) (g : Nat) (w0 : World) (s p : Nat → Int) (m : Int) (a0 : Act) (h0 : a0.eval (.tmp 0) = ptr g) (Q : Exit → Act → World → Prop)
    (l : Array Bool) (a : Act) (w : World) (i : Nat) (o : Oper)
    (hold : ∀ t : Nat, (∀ (j : Nat) (o' : Oper), (woA q)[j]? = some o' → o'.dst ≠ some t) → a.eval (.tmp t) = a0.eval (.tmp t))
    (hval : ∀ (j : Nat) (o' : Oper) (d : Nat), (woA q)[j]? = some o' → o'.dst = some d → l.getD j false = true → a.eval (.tmp d) = woV g s p j)
    (hW : WoW g w0 s p m l w) (_ : l.size = (woA q).size) (hi : l.getD i true = false) (ho : (woA q)[i]? = some o) (he : ∀ e ∈ o.after, Region.binds .any e = true → l.getD e.on false = true) :
    o.guard = none ∧ o.wp Tryd.prog a w (fun a' w' => a' = a.put o.dst (woV g s p i) ∧ WoW g w0 s p m (l.setIfInBounds i true) w') Q := by
  have a0e : a.eval (.tmp 0) = ptr g := by
    rw [hold 0 ?_, h0]
    intro j o' hj
    have : ∀ j : Fin 13, ((woA q)[j.val]?.bind (·.dst)) ≠ some 0 := by
      have h : ∀ j : Fin 13, ((woA (String.ofList []))[j.val]?.bind (·.dst)) ≠ some 0 := by decide
      intro j
      have e : ((woA q)[j.val]?.bind (·.dst)) = ((woA (String.ofList []))[j.val]?.bind (·.dst)) := by
        match j with
        | ⟨0, _⟩ => rfl
        | ⟨1, _⟩ => rfl
        | ⟨2, _⟩ => rfl
        | ⟨3, _⟩ => rfl
        | ⟨4, _⟩ => rfl
        | ⟨5, _⟩ => rfl
        | ⟨6, _⟩ => rfl
        | ⟨7, _⟩ => rfl
        | ⟨8, _⟩ => rfl
        | ⟨9, _⟩ => rfl
        | ⟨10, _⟩ => rfl
        | ⟨11, _⟩ => rfl
        | ⟨12, _⟩ => rfl
      rw [e]; exact h j
    have hlt : j < 13 := (Array.getElem?_eq_some_iff.1 hj).1
    have := this ⟨j, hlt⟩
    rw [hj] at this; exact this
  have v := fun (j d : Nat) (o' : Oper) (h1 : (woA q)[j]? = some o') (h2 : o'.dst = some d) (h3 : l.getD j false = true) => hval j o' d h1 h2 h3
  match i, hi, ho with
  | 0, hi, ho =>
    have e : wo0 q = o := Option.some.inj ho
    exact ⟨by rw [← e]; rfl, wp_move (.tmp 0) (by rw [← e]; rfl) (ptr g) a0e ⟨rfl, hW.next (Below.refl _ _) 0 (by decide)⟩⟩
  | 1, hi, ho =>
    have e : wo1 q = o := Option.some.inj ho
    exact ⟨by rw [← e]; rfl, wp_move (.tmp 0) (by rw [← e]; rfl) (ptr g) a0e ⟨rfl, hW.next (Below.refl _ _) 1 (by decide)⟩⟩
  | 2, hi, ho =>
    have e : wo2 q = o := Option.some.inj ho
    have qq := v 1 37 (wo1 q) rfl rfl (he ⟨1, .data⟩ (by rw [← e]; simp [wo2]) rfl)
    exact ⟨by rw [← e]; rfl, wp_nilCheck (.tmp 37) (by rw [← e]; rfl) ⟨g, 0, none⟩ qq ⟨rfl, hW.next (Below.refl _ _) 2 (by decide)⟩⟩
  | 3, hi, ho =>
    have e : wo3 q = o := Option.some.inj ho
    have qq := v 2 38 (wo2 q) rfl rfl (he ⟨2, .data⟩ (by rw [← e]; simp [wo3]) rfl)
    exact ⟨by rw [← e]; rfl, wp_fieldAddr 94 (.tmp 38) 0 (by rw [← e]; rfl) (ptr g) (ptr g) qq (Tryd.field67_0 g) ⟨rfl, hW.next (Below.refl _ _) 3 (by decide)⟩⟩
  | 4, hi, ho =>
    have e : wo4 q = o := Option.some.inj ho
    have qq := v 3 39 (wo3 q) rfl rfl (he ⟨3, .data⟩ (by rw [← e]; simp [wo4]) rfl)
    have hb : Blk w g 94 (digA s p m) := hW.a (by
      cases h : l.getD 12 false with
      | false => rfl
      | true => have := (hW.c h).1; rw [getD_ft hi] at this; cases this)
    refine ⟨by rw [← e]; rfl, wp_load_mid 73 (.tmp 39) (by rw [← e]; rfl) g 0 qq (wordsA 8 s).toList (.array 8 72) (dig_range0 hb) Tryd.underlying73 rfl (by rw [Array.length_toList]; exact Tryd.size73W s) ?_⟩
    rw [Array.toArray_toList]
    exact ⟨rfl, hW.next (Below.refl _ _) 4 (by decide)⟩
  | 5, hi, ho =>
    have e : wo5 q = o := Option.some.inj ho
    exact ⟨by rw [← e]; rfl, wp_move (.tmp 0) (by rw [← e]; rfl) (ptr g) a0e ⟨rfl, hW.next (Below.refl _ _) 5 (by decide)⟩⟩
  | 6, hi, ho =>
    have e : wo6 q = o := Option.some.inj ho
    have qq := v 5 41 (wo5 q) rfl rfl (he ⟨5, .data⟩ (by rw [← e]; simp [wo6]) rfl)
    exact ⟨by rw [← e]; rfl, wp_nilCheck (.tmp 41) (by rw [← e]; rfl) ⟨g, 0, none⟩ qq ⟨rfl, hW.next (Below.refl _ _) 6 (by decide)⟩⟩
  | 7, hi, ho =>
    have e : wo7 q = o := Option.some.inj ho
    have qq := v 6 42 (wo6 q) rfl rfl (he ⟨6, .data⟩ (by rw [← e]; simp [wo7]) rfl)
    exact ⟨by rw [← e]; rfl, wp_fieldAddr 94 (.tmp 42) 1 (by rw [← e]; rfl) (ptr g) (.pointer (some ⟨g, 8, none⟩)) qq (Tryd.field67_1 g) ⟨rfl, hW.next (Below.refl _ _) 7 (by decide)⟩⟩
  | 8, hi, ho =>
    have e : wo8 q = o := Option.some.inj ho
    have qq := v 7 43 (wo7 q) rfl rfl (he ⟨7, .data⟩ (by rw [← e]; simp [wo8]) rfl)
    have hb : Blk w g 94 (digA s p m) := hW.a (by
      cases h : l.getD 12 false with
      | false => rfl
      | true => have := (hW.c h).2; rw [getD_ft hi] at this; cases this)
    refine ⟨by rw [← e]; rfl, wp_load_mid 49 (.tmp 43) (by rw [← e]; rfl) g 8 qq (bytesA 64 p).toList (.array 64 5) (dig_range8 hb) Tryd.underlying49 rfl (by rw [Array.length_toList]; exact Tryd.size49B p) ?_⟩
    rw [Array.toArray_toList]
    exact ⟨rfl, hW.next (Below.refl _ _) 8 (by decide)⟩
  | 9, hi, ho =>
    have e : wo9 q = o := Option.some.inj ho
    have q1 : a.eval (.tmp 40) = .agg (wordsA 8 s) := v 4 40 (wo4 q) rfl rfl (he ⟨4, .data⟩ (by rw [← e]; simp [wo9]) rfl)
    have q2 : a.eval (.tmp 44) = .agg (bytesA 64 p) := v 8 44 (wo8 q) rfl rfl (he ⟨8, .data⟩ (by rw [← e]; simp [wo9]) rfl)
    exact ⟨by rw [← e]; rfl, wp_callF 42 #[.tmp 40, .tmp 44] #[73, 49] (by rw [← e]; rfl) Tryd.enter42 #[.agg (wordsA 8 s), .agg (bytesA 64 p)] (by simp only [List.map_toArray, List.map_cons, List.map_nil, q1, q2])
      (fun v w' => v = .agg (wordsA 8 (mixF s p)) ∧ Below w.heap.size w w') ((mix_any s p w).mono (by rintro e w' ⟨rfl, hb⟩; exact ⟨_, rfl, rfl, hb⟩))
      (by rintro v w' ⟨rfl, hb⟩; exact ⟨rfl, hW.next hb 9 (by decide)⟩)⟩
  | 10, hi, ho =>
    have e : wo10 q = o := Option.some.inj ho
    have qq := v 0 36 (wo0 q) rfl rfl (he ⟨0, .data⟩ (by rw [← e]; simp [wo10]) rfl)
    exact ⟨by rw [← e]; rfl, wp_nilCheck (.tmp 36) (by rw [← e]; rfl) ⟨g, 0, none⟩ qq ⟨rfl, hW.next (Below.refl _ _) 10 (by decide)⟩⟩
  | 11, hi, ho =>
    have e : wo11 q = o := Option.some.inj ho
    have qq := v 10 46 (wo10 q) rfl rfl (he ⟨10, .data⟩ (by rw [← e]; simp [wo11]) rfl)
    exact ⟨by rw [← e]; rfl, wp_fieldAddr 94 (.tmp 46) 0 (by rw [← e]; rfl) (ptr g) (ptr g) qq (Tryd.field67_0 g) ⟨rfl, hW.next (Below.refl _ _) 11 (by decide)⟩⟩
  | 12, hi, ho =>
    have e : wo12 q = o := Option.some.inj ho
    have q1 := v 11 47 (wo11 q) rfl rfl (he ⟨11, .data⟩ (by rw [← e]; simp [wo12]) rfl)
    have q2 : a.eval (.tmp 45) = .agg (wordsA 8 (mixF s p)) := v 9 45 (wo9 q) rfl rfl (he ⟨9, .data⟩ (by rw [← e]; simp [wo12]) rfl)
    have l4 := he ⟨4, .phase⟩ (by rw [← e]; simp [wo12]) rfl
    have l8 := he ⟨8, .phase⟩ (by rw [← e]; simp [wo12]) rfl
    have hb := hW.a (getD_ft hi)
    refine ⟨by rw [← e]; rfl, wp_store_part 73 (.tmp 47) (.tmp 45) (by rw [← e]; rfl) g 0 (wordsA 8 (mixF s p)) q1 q2 94 (digA s p m) hb (Tryd.size73W _) (by rw [wordsA_size, digA_size]; omega) (wordsA_one _ _) ?_⟩
    rw [digA_words]
    have h12 : (l.setIfInBounds 12 true).getD 12 false = true := by
      obtain ⟨h1, _⟩ := getD_lt hi
      simp [Array.getD, h1]
    exact ⟨rfl, { gr := grownBy_trans hW.gr (grownBy_setRow _ _ _), a := fun e => (by rw [h12] at e; cases e), b := fun _ => Blk.setRow hb _, c := fun _ => ⟨getD_set_true l4, getD_set_true l8⟩ }⟩
  | n + 13, hi, ho => simp [woA] at ho

theorem putsTo_wo (q : String) (g : Nat) (s p : Nat → Int) (a0 : Act) : putsTo (woA q) (woV g s p) a0 13 =
    ((((((((((((a0.put (some 36) (ptr g)).put (some 37) (ptr g)).put (some 38) (ptr g)).put (some 39) (ptr g)).put (some 40) (.agg (wordsA 8 s))).put (some 41) (ptr g)).put (some 42) (ptr g)).put (some 43) (.pointer (some ⟨g, 8, none⟩))).put (some 44) (.agg (bytesA 64 p))).put (some 45) (.agg (wordsA 8 (mixF s p)))).put (some 46) (ptr g)).put (some 47) (ptr g)) := by kernel_rfl

/-- The statement that calls mix, in whatever order. -/
theorem wo_region (q : String) (g : Nat) (w0 : World) (s p : Nat → Int) (m : Int) (a0 : Act) (hsz : a0.tmps.size = 48) (h0 : a0.eval (.tmp 0) = ptr g) (hb : Blk w0 g 94 (digA s p m)) (Q : Exit → Act → World → Prop)
    (hQ : ∀ wc, w0.grownBy wc (some g) → Blk wc g 94 (digA (mixF s p) p m) → Q .normal (putsTo (woA q) (woV g s p) a0 13) wc) :
    (Code.region 6 (woA q) true).wp Tryd.prog Q a0 w0 := by
  refine wp_region_vals (by kernel_rfl) (woV g s p) (WoW g w0 s p m) (by rw [hsz]; kernel_rfl) (by kernel_rfl) (wo_step q g w0 s p m a0 h0 Q) ?_ ?_
  · intro l wc hW hall
    exact hQ wc hW.gr (hW.b (hall 12 (by simp [woA])))
  · exact ⟨⟨rfl, rfl, rfl, Nat.le_refl _, fun _ _ _ => rfl⟩, fun _ => hb.drew, fun h => by simp [Array.getD] at h, fun h => by simp [Array.getD] at h⟩
end Go.Proofs.YtpakaladpdoejaaDoor
