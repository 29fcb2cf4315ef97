import Derived.Test.YtibaindbnemlcaaGreatDoorB04
import Derived.Test.YtibaindbnemlcaaGreatDoorB03
import Derived.Deep.RegionHeld3
namespace Go.Proofs.YtibaindbnemlcaaGreatDoor.Nd.Sh
open Go.RowKit

def wo0 (q : String) : Oper := { dst := some 36, op := Op.move (Operand.tmp 0), type := 138, pos := q, after := #[], guard := none }
def wo1 (q : String) : Oper := { dst := some 37, op := Op.move (Operand.tmp 0), type := 138, pos := q, after := #[], guard := none }
def wo2 (q : String) : Oper := { dst := some 38, op := Op.nilCheck (Operand.tmp 37), type := 0, pos := q, after := #[{ on := 1, ground := Ground.data }], guard := none }
def wo3 (q : String) : Oper := { dst := some 39, op := Op.fieldAddr 172 (Operand.tmp 38) 0, type := 0, pos := q, after := #[{ on := 2, ground := Ground.data }], guard := none }
def wo4 (q : String) : Oper := { dst := some 40, op := Op.load 168 (Operand.tmp 39), type := 168, pos := q, after := #[{ on := 3, ground := Ground.data }], guard := none }
def wo5 (q : String) : Oper := { dst := some 41, op := Op.move (Operand.tmp 0), type := 138, pos := q, after := #[], guard := none }
def wo6 (q : String) : Oper := { dst := some 42, op := Op.nilCheck (Operand.tmp 41), type := 0, pos := q, after := #[{ on := 5, ground := Ground.data }], guard := none }
def wo7 (q : String) : Oper := { dst := some 43, op := Op.fieldAddr 172 (Operand.tmp 42) 1, type := 0, pos := q, after := #[{ on := 6, ground := Ground.data }], guard := none }
def wo8 (q : String) : Oper := { dst := some 44, op := Op.load 170 (Operand.tmp 43), type := 170, pos := q, after := #[{ on := 7, ground := Ground.data }], guard := none }
def wo9 (q : String) : Oper := { dst := some 45, op := Op.call { callee := Callee.value (Operand.func 80), args := #[Operand.tmp 40, Operand.tmp 44], argTypes := #[168, 170] }, type := 168, pos := q, after := #[{ on := 4, ground := Ground.data }, { on := 8, ground := Ground.data }], guard := none }
def wo10 (q : String) : Oper := { dst := some 46, op := Op.nilCheck (Operand.tmp 36), type := 0, pos := q, after := #[{ on := 0, ground := Ground.data }, { on := 0, ground := Ground.phase }, { on := 1, ground := Ground.phase }, { on := 2, ground := Ground.phase }, { on := 3, ground := Ground.phase }, { on := 4, ground := Ground.phase }, { on := 5, ground := Ground.phase }, { on := 6, ground := Ground.phase }, { on := 7, ground := Ground.phase }, { on := 8, ground := Ground.phase }, { on := 9, ground := Ground.phase }], guard := none }
def wo11 (q : String) : Oper := { dst := some 47, op := Op.fieldAddr 172 (Operand.tmp 46) 0, type := 0, pos := q, after := #[{ on := 10, ground := Ground.data }, { on := 0, ground := Ground.phase }, { on := 1, ground := Ground.phase }, { on := 2, ground := Ground.phase }, { on := 3, ground := Ground.phase }, { on := 4, ground := Ground.phase }, { on := 5, ground := Ground.phase }, { on := 6, ground := Ground.phase }, { on := 7, ground := Ground.phase }, { on := 8, ground := Ground.phase }, { on := 9, ground := Ground.phase }], guard := none }
def wo12 (q : String) : Oper := { dst := none, op := Op.store 168 (Operand.tmp 47) (Operand.tmp 45), type := 0, pos := q, after := #[{ on := 11, ground := Ground.data }, { on := 9, ground := Ground.data }, { on := 9, ground := Ground.chain }, { on := 0, ground := Ground.phase }, { on := 1, ground := Ground.phase }, { on := 2, ground := Ground.phase }, { on := 3, ground := Ground.phase }, { on := 4, ground := Ground.phase }, { on := 5, ground := Ground.phase }, { on := 6, ground := Ground.phase }, { on := 7, ground := Ground.phase }, { on := 8, ground := Ground.phase }, { on := 9, ground := Ground.phase }], guard := none }
def woA (q : String) : Array Oper := #[wo0 q, wo1 q, wo2 q, wo3 q, wo4 q, wo5 q, wo6 q, wo7 q, wo8 q, wo9 q, wo10 q, wo11 q, wo12 q]
theorem Tryz.enter80 (w : World) (vs : Array Value) : (callFunc 80 vs).run Tryz.prog w = .ok (.enter 80 vs) w := by kernel_rfl
theorem Tryz.field67_0 (g : Nat) (w : World) : (Instr.fieldAt 172 (ptr g) 0).run Tryz.prog w = .ok (ptr g) w := by kernel_rfl
theorem Tryz.field67_1 (g : Nat) (w : World) : (Instr.fieldAt 172 (ptr g) 1).run Tryz.prog w = .ok (.pointer (some ⟨g, 8, none⟩)) w := by kernel_rfl

def woV (g : Nat) (s p : Nat → Int) : Nat → Value
  | 4 => .agg (wordsA 8 s)
  | 7 => .pointer (some ⟨g, 8, none⟩)
  | 8 => .agg (bytesA 64 p)
  | 9 => .agg (wordsA 8 (mixF s p))
  | 12 => undef
  | _ => ptr g
structure WoW (g : Nat) (w0 : World) (s p : Nat → Int) (m : Int) (l : Array Bool) (w : World) : Prop where
  gr : w0.grownBy w (some g)
  a : l.getD 12 false = false → Blk w g 172 (digA s p m)
  b : l.getD 12 false = true → Blk w g 172 (digA (mixF s p) p m)
  c : l.getD 12 false = true → l.getD 4 false = true ∧ l.getD 8 false = true

theorem digA_words (s p c : Nat → Int) (m : Int) : ((digA s p m).toList.take 0 ++ (wordsA 8 c).toList ++ (digA s p m).toList.drop (0 + (wordsA 8 c).size)).toArray = digA c p m := by
  have hl : (digA s p m).toList.length = 73 := by simp [digA_size]
  apply Array.ext_getElem?
  intro i
  rw [wordsA_size, List.take_zero, List.nil_append, List.getElem?_toArray, List.getElem?_append, Array.length_toList, wordsA_size]
  by_cases h8 : i < 8
  · rw [if_pos h8, Array.getElem?_toList, wordsA_get _ _ _ h8, digA_w _ _ _ _ h8]
  · rw [if_neg h8, List.getElem?_drop, Array.getElem?_toList, show 0 + 8 + (i - 8) = i by omega]
    by_cases h72 : i < 72
    · obtain ⟨j, rfl⟩ : ∃ j, i = 8 + j := ⟨i - 8, by omega⟩
      rw [digA_r _ _ _ _ (by omega), digA_r _ _ _ _ (by omega)]
    · by_cases h73 : i = 72
      · subst h73; rw [digA_n, digA_n]
      · rw [Array.getElem?_eq_none (by rw [digA_size]; omega), Array.getElem?_eq_none (by rw [digA_size]; omega)]
theorem dig_range8 {w : World} {g : Nat} {s p : Nat → Int} {m : Int} (h : Blk w g 172 (digA s p m)) : w.rangeAt g 8 (bytesA 64 p).toList := by
  intro j v hv
  have hj : j < 64 := by have := (List.getElem?_eq_some_iff.1 hv).1; simpa [bytesA_size] using this
  rw [h.cell, digA_r _ _ _ _ hj, ← hv, Array.getElem?_toList, bytesA_get _ _ _ hj]
theorem dig_range0 {w : World} {g : Nat} {s p : Nat → Int} {m : Int} (h : Blk w g 172 (digA s p m)) : w.rangeAt g 0 (wordsA 8 s).toList := by
  intro j v hv
  have hj : j < 8 := by have := (List.getElem?_eq_some_iff.1 hv).1; simpa [wordsA_size] using this
  rw [Nat.zero_add, h.cell, digA_w _ _ _ _ hj, ← hv, Array.getElem?_toList, wordsA_get _ _ _ hj]
theorem grownBy_trans {a b c : World} {o : Option Nat} (h : a.grownBy b o) (k : b.grownBy c o) : a.grownBy c o :=
  ⟨k.os.trans h.os, k.tape.trans h.tape, k.output.trans h.output, Nat.le_trans h.size k.size, fun i hi hn => (k.block i (Nat.lt_of_lt_of_le hi h.size) hn).trans (h.block i hi hn)⟩
theorem grownBy_setRow (w : World) (g : Nat) (cs : Array Value) : w.grownBy (w.setRow g cs) (some g) :=
  ⟨rfl, rfl, rfl, by simp, fun i _ hn => setRow_other w g i cs (fun e => hn (by rw [e]))⟩
theorem grownBy_below {w w' : World} (h : Below w.heap.size w w') (o : Option Nat) : w.grownBy w' o := ⟨h.os, h.tape, h.output, h.size, fun i hi _ => h.block i hi⟩

theorem WoW.next {g : Nat} {w0 w w' : World} {s p : Nat → Int} {m : Int} {l : Array Bool} (h : WoW g w0 s p m l w) (hb : Below w.heap.size w w') (i : Nat) (hi : i ≠ 12) : WoW g w0 s p m (l.setIfInBounds i true) w' where
  gr := grownBy_trans h.gr (grownBy_below hb _)
  a e := by rw [getD_set_ne false hi] at e; exact (h.a e).below hb (h.a e).lt
  b e := by rw [getD_set_ne false hi] at e; exact (h.b e).below hb (h.b e).lt
  c e := by rw [getD_set_ne false hi] at e; exact ⟨getD_set_true (h.c e).1, getD_set_true (h.c e).2⟩
theorem getD_ft {l : Array Bool} {i : Nat} (h : l.getD i true = false) : l.getD i false = false := by
  obtain ⟨h1, h2⟩ := getD_lt h
  simp [Array.getD, h1, h2]

set_option maxRecDepth 8000 in
set_option maxHeartbeats 1000000 in
theorem wo_step (q : String) (g : Nat) (w0 : World) (s p : Nat → Int) (m : Int) (a0 : Act) (h0 : a0.eval (.tmp 0) = ptr g) (Q : Exit → Act → World → Prop)
    (l : Array Bool) (a : Act) (w : World) (i : Nat) (o : Oper)
    (hold : ∀ t : Nat, (∀ (j : Nat) (o' : Oper), (woA q)[j]? = some o' → o'.dst ≠ some t) → a.eval (.tmp t) = a0.eval (.tmp t))
    (hval : ∀ (j : Nat) (o' : Oper) (d : Nat), (woA q)[j]? = some o' → o'.dst = some d → l.getD j false = true → a.eval (.tmp d) = woV g s p j)
    (hW : WoW g w0 s p m l w) (_ : l.size = (woA q).size) (hi : l.getD i true = false) (ho : (woA q)[i]? = some o) (he : ∀ e ∈ o.after, Region.binds .any e = true → l.getD e.on false = true) :
    o.guard = none ∧ o.wp Tryz.prog a w (fun a' w' => a' = a.put o.dst (woV g s p i) ∧ WoW g w0 s p m (l.setIfInBounds i true) w') Q := by
  have a0e : a.eval (.tmp 0) = ptr g := by
    rw [hold 0 ?_, h0]
    intro j o' hj
    have : ∀ j : Fin 13, ((woA q)[j.val]?.bind (·.dst)) ≠ some 0 := by
      have h : ∀ j : Fin 13, ((woA (String.ofList []))[j.val]?.bind (·.dst)) ≠ some 0 := by decide
      intro j
      have e : ((woA q)[j.val]?.bind (·.dst)) = ((woA (String.ofList []))[j.val]?.bind (·.dst)) := by
        match j with
        | ⟨0, _⟩ => rfl
        | ⟨1, _⟩ => rfl
        | ⟨2, _⟩ => rfl
        | ⟨3, _⟩ => rfl
        | ⟨4, _⟩ => rfl
        | ⟨5, _⟩ => rfl
        | ⟨6, _⟩ => rfl
        | ⟨7, _⟩ => rfl
        | ⟨8, _⟩ => rfl
        | ⟨9, _⟩ => rfl
        | ⟨10, _⟩ => rfl
        | ⟨11, _⟩ => rfl
        | ⟨12, _⟩ => rfl
      rw [e]; exact h j
    have hlt : j < 13 := (Array.getElem?_eq_some_iff.1 hj).1
    have := this ⟨j, hlt⟩
    rw [hj] at this; exact this
  have v := fun (j d : Nat) (o' : Oper) (h1 : (woA q)[j]? = some o') (h2 : o'.dst = some d) (h3 : l.getD j false = true) => hval j o' d h1 h2 h3
  match i, hi, ho with
  | 0, hi, ho =>
    have e : wo0 q = o := Option.some.inj ho
    exact ⟨by rw [← e]; rfl, wp_move (.tmp 0) (by rw [← e]; rfl) (ptr g) a0e ⟨rfl, hW.next (Below.refl _ _) 0 (by decide)⟩⟩
  | 1, hi, ho =>
    have e : wo1 q = o := Option.some.inj ho
    exact ⟨by rw [← e]; rfl, wp_move (.tmp 0) (by rw [← e]; rfl) (ptr g) a0e ⟨rfl, hW.next (Below.refl _ _) 1 (by decide)⟩⟩
  | 2, hi, ho =>
    have e : wo2 q = o := Option.some.inj ho
    have qq := v 1 37 (wo1 q) rfl rfl (he ⟨1, .data⟩ (by rw [← e]; simp [wo2]) rfl)
    exact ⟨by rw [← e]; rfl, wp_nilCheck (.tmp 37) (by rw [← e]; rfl) ⟨g, 0, none⟩ qq ⟨rfl, hW.next (Below.refl _ _) 2 (by decide)⟩⟩
  | 3, hi, ho =>
    have e : wo3 q = o := Option.some.inj ho
    have qq := v 2 38 (wo2 q) rfl rfl (he ⟨2, .data⟩ (by rw [← e]; simp [wo3]) rfl)
    exact ⟨by rw [← e]; rfl, wp_fieldAddr 172 (.tmp 38) 0 (by rw [← e]; rfl) (ptr g) (ptr g) qq (Tryz.field67_0 g) ⟨rfl, hW.next (Below.refl _ _) 3 (by decide)⟩⟩
  | 4, hi, ho =>
    have e : wo4 q = o := Option.some.inj ho
    have qq := v 3 39 (wo3 q) rfl rfl (he ⟨3, .data⟩ (by rw [← e]; simp [wo4]) rfl)
    have hb : Blk w g 172 (digA s p m) := hW.a (by
      cases h : l.getD 12 false with
      | false => rfl
      | true => have := (hW.c h).1; rw [getD_ft hi] at this; cases this)
    refine ⟨by rw [← e]; rfl, wp_load_mid 168 (.tmp 39) (by rw [← e]; rfl) g 0 qq (wordsA 8 s).toList (.array 8 167) (dig_range0 hb) Tryz.underlying168 rfl (by rw [Array.length_toList]; exact Tryz.size168W s) ?_⟩
    rw [Array.toArray_toList]
    exact ⟨rfl, hW.next (Below.refl _ _) 4 (by decide)⟩
  | 5, hi, ho =>
    have e : wo5 q = o := Option.some.inj ho
    exact ⟨by rw [← e]; rfl, wp_move (.tmp 0) (by rw [← e]; rfl) (ptr g) a0e ⟨rfl, hW.next (Below.refl _ _) 5 (by decide)⟩⟩
  | 6, hi, ho =>
    have e : wo6 q = o := Option.some.inj ho
    have qq := v 5 41 (wo5 q) rfl rfl (he ⟨5, .data⟩ (by rw [← e]; simp [wo6]) rfl)
    exact ⟨by rw [← e]; rfl, wp_nilCheck (.tmp 41) (by rw [← e]; rfl) ⟨g, 0, none⟩ qq ⟨rfl, hW.next (Below.refl _ _) 6 (by decide)⟩⟩
  | 7, hi, ho =>
    have e : wo7 q = o := Option.some.inj ho
    have qq := v 6 42 (wo6 q) rfl rfl (he ⟨6, .data⟩ (by rw [← e]; simp [wo7]) rfl)
    exact ⟨by rw [← e]; rfl, wp_fieldAddr 172 (.tmp 42) 1 (by rw [← e]; rfl) (ptr g) (.pointer (some ⟨g, 8, none⟩)) qq (Tryz.field67_1 g) ⟨rfl, hW.next (Below.refl _ _) 7 (by decide)⟩⟩
  | 8, hi, ho =>
    have e : wo8 q = o := Option.some.inj ho
    have qq := v 7 43 (wo7 q) rfl rfl (he ⟨7, .data⟩ (by rw [← e]; simp [wo8]) rfl)
    have hb : Blk w g 172 (digA s p m) := hW.a (by
      cases h : l.getD 12 false with
      | false => rfl
      | true => have := (hW.c h).2; rw [getD_ft hi] at this; cases this)
    refine ⟨by rw [← e]; rfl, wp_load_mid 170 (.tmp 43) (by rw [← e]; rfl) g 8 qq (bytesA 64 p).toList (.array 64 5) (dig_range8 hb) Tryz.underlying170 rfl (by rw [Array.length_toList]; exact Tryz.size170B p) ?_⟩
    rw [Array.toArray_toList]
    exact ⟨rfl, hW.next (Below.refl _ _) 8 (by decide)⟩
  | 9, hi, ho =>
    have e : wo9 q = o := Option.some.inj ho
    have q1 : a.eval (.tmp 40) = .agg (wordsA 8 s) := v 4 40 (wo4 q) rfl rfl (he ⟨4, .data⟩ (by rw [← e]; simp [wo9]) rfl)
    have q2 : a.eval (.tmp 44) = .agg (bytesA 64 p) := v 8 44 (wo8 q) rfl rfl (he ⟨8, .data⟩ (by rw [← e]; simp [wo9]) rfl)
    exact ⟨by rw [← e]; rfl, wp_callF 80 #[.tmp 40, .tmp 44] #[168, 170] (by rw [← e]; rfl) Tryz.enter80 #[.agg (wordsA 8 s), .agg (bytesA 64 p)] (by simp only [List.map_toArray, List.map_cons, List.map_nil, q1, q2])
      (fun v w' => v = .agg (wordsA 8 (mixF s p)) ∧ Below w.heap.size w w') ((mix_any s p w).mono (by rintro e w' ⟨rfl, hb⟩; exact ⟨_, rfl, rfl, hb⟩))
      (by rintro v w' ⟨rfl, hb⟩; exact ⟨rfl, hW.next hb 9 (by decide)⟩)⟩
  | 10, hi, ho =>
    have e : wo10 q = o := Option.some.inj ho
    have qq := v 0 36 (wo0 q) rfl rfl (he ⟨0, .data⟩ (by rw [← e]; simp [wo10]) rfl)
    exact ⟨by rw [← e]; rfl, wp_nilCheck (.tmp 36) (by rw [← e]; rfl) ⟨g, 0, none⟩ qq ⟨rfl, hW.next (Below.refl _ _) 10 (by decide)⟩⟩
  | 11, hi, ho =>
    have e : wo11 q = o := Option.some.inj ho
    have qq := v 10 46 (wo10 q) rfl rfl (he ⟨10, .data⟩ (by rw [← e]; simp [wo11]) rfl)
    exact ⟨by rw [← e]; rfl, wp_fieldAddr 172 (.tmp 46) 0 (by rw [← e]; rfl) (ptr g) (ptr g) qq (Tryz.field67_0 g) ⟨rfl, hW.next (Below.refl _ _) 11 (by decide)⟩⟩
  | 12, hi, ho =>
    have e : wo12 q = o := Option.some.inj ho
    have q1 := v 11 47 (wo11 q) rfl rfl (he ⟨11, .data⟩ (by rw [← e]; simp [wo12]) rfl)
    have q2 : a.eval (.tmp 45) = .agg (wordsA 8 (mixF s p)) := v 9 45 (wo9 q) rfl rfl (he ⟨9, .data⟩ (by rw [← e]; simp [wo12]) rfl)
    have l4 := he ⟨4, .phase⟩ (by rw [← e]; simp [wo12]) rfl
    have l8 := he ⟨8, .phase⟩ (by rw [← e]; simp [wo12]) rfl
    have hb := hW.a (getD_ft hi)
    refine ⟨by rw [← e]; rfl, wp_store_part 168 (.tmp 47) (.tmp 45) (by rw [← e]; rfl) g 0 (wordsA 8 (mixF s p)) q1 q2 172 (digA s p m) hb (Tryz.size168W _) (by rw [wordsA_size, digA_size]; omega) (wordsA_one _ _) ?_⟩
    rw [digA_words]
    have h12 : (l.setIfInBounds 12 true).getD 12 false = true := by
      obtain ⟨h1, _⟩ := getD_lt hi
      simp [Array.getD, h1]
    exact ⟨rfl, { gr := grownBy_trans hW.gr (grownBy_setRow _ _ _), a := fun e => (by rw [h12] at e; cases e), b := fun _ => Blk.setRow hb _, c := fun _ => ⟨getD_set_true l4, getD_set_true l8⟩ }⟩
  | n + 13, hi, ho => simp [woA] at ho

theorem putsTo_wo (q : String) (g : Nat) (s p : Nat → Int) (a0 : Act) : putsTo (woA q) (woV g s p) a0 13 =
    ((((((((((((a0.put (some 36) (ptr g)).put (some 37) (ptr g)).put (some 38) (ptr g)).put (some 39) (ptr g)).put (some 40) (.agg (wordsA 8 s))).put (some 41) (ptr g)).put (some 42) (ptr g)).put (some 43) (.pointer (some ⟨g, 8, none⟩))).put (some 44) (.agg (bytesA 64 p))).put (some 45) (.agg (wordsA 8 (mixF s p)))).put (some 46) (ptr g)).put (some 47) (ptr g)) := by kernel_rfl

theorem wo_region (q : String) (g : Nat) (w0 : World) (s p : Nat → Int) (m : Int) (a0 : Act) (hsz : a0.tmps.size = 48) (h0 : a0.eval (.tmp 0) = ptr g) (hb : Blk w0 g 172 (digA s p m)) (Q : Exit → Act → World → Prop)
    (hQ : ∀ wc, w0.grownBy wc (some g) → Blk wc g 172 (digA (mixF s p) p m) → Q .normal (putsTo (woA q) (woV g s p) a0 13) wc) :
    (Code.region 6 (woA q) true).wp Tryz.prog Q a0 w0 := by
  refine wp_region_vals (by kernel_rfl) (woV g s p) (WoW g w0 s p m) (by rw [hsz]; kernel_rfl) (by kernel_rfl) (wo_step q g w0 s p m a0 h0 Q) ?_ ?_
  · intro l wc hW hall
    exact hQ wc hW.gr (hW.b (hall 12 (by simp [woA])))
  · exact ⟨⟨rfl, rfl, rfl, Nat.le_refl _, fun _ _ _ => rfl⟩, fun _ => hb.drew, fun h => by simp [Array.getD] at h, fun h => by simp [Array.getD] at h⟩
end Go.Proofs.YtibaindbnemlcaaGreatDoor.Nd.Sh
namespace Go.Proofs.YtibaindbnemlcaaGreatDoor.Nd.Sh
open Go.RowKit

structure Dg where
  s : Nat → Int
  r : Nat → Int
  n : Nat
def absorb (d : Dg) (x : Int) : Dg := ⟨if d.n % 64 = 63 then mixF d.s (upd d.r (d.n % 64) x) else d.s, upd d.r (d.n % 64) x, d.n + 1⟩
def absorbN (d : Dg) (x : Nat → Int) : Nat → Dg
  | 0 => d
  | i + 1 => absorb (absorbN d x i) (x i)
theorem absorbN_n (d : Dg) (x : Nat → Int) (i : Nat) : (absorbN d x i).n = d.n + i := by
  induction i with
  | zero => rfl
  | succ i ih => simp only [absorbN, absorb, ih]; omega
theorem absorbN_add (d : Dg) (x : Nat → Int) (i k : Nat) : absorbN d x (i + k) = absorbN (absorbN d x i) (fun j => x (i + j)) k := by
  induction k with
  | zero => rfl
  | succ k ih => rw [← Nat.add_assoc]; simp only [absorbN, ih]
theorem putN_succ (r : Nat → Int) (u k : Nat) (y : Nat → Int) : upd (putN r u k y) (u + k) (y k) = putN r u (k + 1) y := by
  funext j
  simp only [upd, putN]
  by_cases h1 : j = u + k
  · subst h1; simp
  · by_cases h2 : u ≤ j ∧ j < u + k
    · rw [if_neg h1, if_pos h2, if_pos (by omega)]
    · rw [if_neg h1, if_neg h2, if_neg (by omega)]
theorem putN_zero (r : Nat → Int) (u : Nat) (y : Nat → Int) : putN r u 0 y = r := by
  funext j; simp only [putN]; rw [if_neg (by omega)]
theorem absorb_chunk (d : Dg) (y : Nat → Int) (k : Nat) (h : d.n % 64 + k ≤ 64) :
    absorbN d y k = ⟨if d.n % 64 + k = 64 then mixF d.s (putN d.r (d.n % 64) k y) else d.s, putN d.r (d.n % 64) k y, d.n + k⟩ := by
  induction k with
  | zero => simp only [absorbN, putN_zero]; rw [if_neg (by omega)]; rfl
  | succ k ih =>
    simp only [absorbN]
    rw [ih (by omega), if_neg (by omega)]
    have e : (d.n + k) % 64 = d.n % 64 + k := by omega
    simp only [absorb, e, putN_succ]
    by_cases h63 : d.n % 64 + k = 63
    · rw [if_pos h63, if_pos (by omega)]; rfl
    · rw [if_neg h63, if_neg (by omega)]; rfl

theorem Tryz.size5 : (Tryz.prog.info? 5).map (·.size) = some 1 := by kernel_rfl
theorem Tryz.elemSl : Tryz.prog.elem 170 = 5 := by kernel_rfl
theorem Tryz.alen65 : Tryz.prog.arrayLen 170 = 64 := by kernel_rfl
theorem Tryz.sizeOf5 (w : World) : (sizeOf 5).run Tryz.prog w = .ok 1 w := by kernel_rfl
theorem slice65 (w : World) (g u : Nat) (h : u < 64) : (Instr.sliceAt 170 (.pointer (some ⟨g, 8, none⟩)) (some (.int .i64 (u : Int))) none none).run Tryz.prog w = .ok (.slice (some ⟨g, 8 + u, none⟩) (64 - u) (64 - u)) w := by
  rw [run_sliceAt_array_l (P := Tryz.prog) (w := w) (t := 170) (a := ⟨g, 8, none⟩) (by rw [Tryz.elemSl, Tryz.alen65]; exact Tryz.underlying170) .i64 (u : Int) (by omega) (by rw [Tryz.alen65]; omega), Tryz.elemSl, Tryz.alen65, Tryz.sizeOf5]
  have : ¬ 64 = u := by omega
  simp [slicedAt, Result.andThen, Addr.add_mid, this]


theorem hid_in {p : Prop} (h : p) : Hid p := h
structure Keep (p : Prop) : Prop where
  out : p
theorem grownBy_refl (w : World) (o : Option Nat) : w.grownBy w o := ⟨rfl, rfl, rfl, Nat.le_refl _, fun _ _ _ => rfl⟩
theorem grownBy_setCell (w : World) (g j : Nat) (v : Value) : w.grownBy (w.setCell ⟨g, j, none⟩ v) (some g) :=
  ⟨rfl, rfl, rfl, by simp [World.setCell], fun i _ hn => Below.heap_setCell w _ v i (fun e => hn (by rw [e]))⟩
theorem grownBy_cell {w w' : World} {g h j : Nat} {v : Value} (hg : w.grownBy w' (some g)) (hne : h ≠ g) (hc : w.cell? ⟨h, j, none⟩ = some v) : w'.cell? ⟨h, j, none⟩ = some v := by
  have hlt : h < w.heap.size := by
    apply Nat.lt_of_not_le; intro hle
    simp [World.cell?, Array.getElem?_eq_none hle] at hc
  rw [World.cell?_of_block (w := w) (hg.block h hlt (by simpa using hne))]; exact hc

set_option maxRecDepth 8000 in
set_option maxHeartbeats 1000000 in
theorem write_any (g : Nat) (d : Dg) (x : Nat → Int) (len cap h off : Nat) (w : World) (hg : Blk w g 172 (digA d.s d.r d.n)) (hgh : h ≠ g)
    (hx : ∀ i, i < len → w.cell? ⟨h, off + i, none⟩ = some (.int .u8 (x i))) (hlen : (d.n : Int) + len ≤ 1152921504606846976) (hcap : len ≤ cap) :
    Calls Tryz.prog 58 #[ptr g, .slice (some ⟨h, off, none⟩) len cap] w fun e w' => e = .returned (.tuple #[]) ∧ Blk w' g 172 (digA (absorbN d x len).s (absorbN d x len).r (absorbN d x len).n) ∧ w.grownBy w' (some g) := by
  have HX : Keep (∀ i, i < len → w.cell? ⟨h, off + i, none⟩ = some (.int .u8 (x i))) := ⟨hx⟩
  clear hx
  go_enter Tryz.func58, Tryz.ntmps58
  go_wp2
  go_loopw [1] (fun b wr => ∃ i o c : Nat, i ≤ len ∧ b = .slice (some ⟨h, o, none⟩) (len - i) c ∧ len - i ≤ c ∧ Hid (i < len → o = off + i) ∧ Blk wr g 172 (digA (absorbN d x i).s (absorbN d x i).r (absorbN d x i).n) ∧ w.grownBy wr (some g)) (fun b _ => match b with | .slice _ l _ => l | _ => 0)
  case atStart => exact ⟨0, off, cap, by omega, rfl, by omega, fun _ => rfl, hg, grownBy_refl _ _⟩
  case round =>
    obtain ⟨i, o, c, hi, rfl, hc, HO, hD, hgr⟩ := hrel
    clear hg
    have hni := absorbN_n d x i
    obtain ⟨D, hDD⟩ : ∃ D, Keep (D = absorbN d x i) := ⟨_, ⟨rfl⟩⟩
    rw [← hDD.out] at hD hni
    obtain ⟨s, r, n⟩ := D
    dsimp only at hD hni
    by_cases hlt : i < len
    · have c72 : wr.cell? ⟨g, 72, none⟩ = some (.int .i64 n) := by rw [hD.cell, digA_n]
      have hn0 : (n : Int) + (len - i : Nat) ≤ 1152921504606846976 := by omega
      clear hni
      obtain rfl := HO.out hlt
      obtain ⟨u, hu0⟩ : ∃ u, u = n % 64 := ⟨_, rfl⟩
      have hu : (n : Int) % 64 = (u : Int) := by omega
      have hu64 : u < 64 := by omega
      have hu64' : (u : Int) < 64 := by omega
      have HU : Keep (u = n % 64) := ⟨hu0⟩
      clear hu0
      have hsl := slice65 wr g u hu64
      obtain ⟨k, hk0⟩ : ∃ k, k = Nat.min (len - i) (64 - u) := ⟨_, rfl⟩
      have hk1 : k ≤ len - i := by rw [hk0]; exact Nat.min_le_left _ _
      have hk2' : k ≤ 64 - u := by rw [hk0]; exact Nat.min_le_right _ _
      have hk2 : u + k ≤ 64 := by omega
      clear hk2'
      have hk3 : 0 < k := by rw [hk0]; exact Nat.lt_min.2 ⟨by omega, by omega⟩
      have HK : Keep (k = Nat.min (len - i) (64 - u)) := ⟨hk0⟩
      clear hk0
      have HS : Keep (∀ j v, ((List.range k).map fun j => Value.int .u8 (x (i + j)))[j]? = some v → wr.cell? ((⟨h, off + i, none⟩ : Addr).add j) = some v) := by
        refine ⟨?_⟩
        intro j v hv
        have hj : j < k := by have := (List.getElem?_eq_some_iff.1 hv).1; simpa using this
        rw [List.getElem?_map, List.getElem?_range hj] at hv
        rw [Addr.add_mid, Nat.add_assoc]
        refine grownBy_cell hgr hgh ?_
        rw [HX.out _ (by omega)]
        simpa using hv
      have HL : Keep (((List.range k).map fun j => Value.int .u8 (x (i + j))).length = Nat.min (len - i) (64 - u)) := by
        refine ⟨?_⟩; rw [← HK.out]; simp
      have HF : Keep (8 + u + ((List.range k).map fun j => Value.int .u8 (x (i + j))).length ≤ (digA s r n).size) := by
        refine ⟨?_⟩; rw [digA_size]; simp; omega
      have H1 : Keep (∀ v ∈ ((List.range k).map fun j => Value.int .u8 (x (i + j))), v.oneCell' = true) := by
        refine ⟨?_⟩; intro v hv; simp at hv; obtain ⟨_, _, rfl⟩ := hv; rfl
      obtain ⟨w1, hw1⟩ : ∃ w1, Keep (w1 = wr.setRow g ((digA s r n).toList.take (8 + u) ++ (((List.range k).map fun j => Value.int .u8 (x (i + j))) ++ (digA s r n).toList.drop (8 + u + ((List.range k).map fun j => Value.int .u8 (x (i + j))).length))).toArray) := ⟨_, ⟨rfl⟩⟩
      have hD1 : Blk w1 g 172 (digA s (putN r u k (fun j => x (i + j))) n) := by
        have := hD.setRow (digA s (putN r u k (fun j => x (i + j))) n)
        rw [← digA_splice s r n u k (fun j => x (i + j)) hk2] at this ⊢
        rw [hw1.out, List.length_map, List.length_range]; exact this
      have hgr1 : w.grownBy w1 (some g) := by rw [hw1.out]; exact grownBy_trans hgr (grownBy_setRow _ _ _)
      have c72' : w1.cell? ⟨g, 72, none⟩ = some (.int .i64 n) := by rw [hD1.cell, digA_n]
      have f72' : w1.frozen? ⟨g, 72, none⟩ = false := hD1.frozen 72
      go_wp2_with (refine wpList_copy_own rfl (.tmp 18) (.tmp 19) 32 32 rfl 5 Tryz.underlying32 Tryz.size5 g (8 + u) (64 - u) (64 - u) ⟨h, off + i, none⟩ (len - i) c rfl rfl (digA s r n) 172 hD ((List.range k).map fun j => Value.int .u8 (x (i + j))) HL.out HS.out HF.out H1.out ?_; rw [← hw1.out, List.length_map, List.length_range]; refine Hid.out ?_)
      clear c72 hsl hD
      refine hid_in ?_
      have hch : Keep (absorbN d x (i + k) = ⟨if u + k = 64 then mixF s (putN r u k fun j => x (i + j)) else s, putN r u k fun j => x (i + j), n + k⟩) := by
        refine ⟨?_⟩
        rw [absorbN_add, ← hDD.out]
        have := absorb_chunk ⟨s, r, n⟩ (fun j => x (i + j)) k (by rw [← HU.out]; exact hk2)
        rw [← HU.out] at this
        exact this
      have hcc : Keep ((if c = k then some (⟨h, off + i, none⟩ : Addr) else some ⟨h, off + i + k, none⟩) = some ⟨h, if c = k then off + i else off + i + k, none⟩) := ⟨by split <;> rfl⟩
      have hoo : Keep (i + k < len → (if c = k then off + i else off + i + k) = off + (i + k)) := ⟨fun hl => by rw [if_neg (by omega)]; omega⟩
      clear HX HS HL HF H1 hw1 HO
      by_cases huk : u + k = 64
      · have hukb : ((u : Int) + (k : Int) == 64) = true := by simp; omega
        by_cases hck : c = k
        · have hck' := hck.symm
          subst hck'
          go_wp2
          have hD2 := hD1.set 72 (.int .i64 ((n : Int) + k))
          rw [digA_setn] at hD2
          have hgr2 := grownBy_trans hgr1 (grownBy_setCell w1 g 72 (.int .i64 ((n : Int) + k)))
          generalize w1.setCell ⟨g, 72, none⟩ (.int .i64 ((n : Int) + k)) = w2 at *
          clear hD1 hgr1 c72' f72' hgr
          refine wo_region _ g w2 s _ ((n : Int) + k) _ (by simp) rfl hD2 _ ?_
          intro wc hgr3 hD3
          rw [putsTo_wo]
          simp only [Act.put, List.setIfInBounds_toArray, List.set_cons_succ, List.set_cons_zero]
          go_wp2
          have hx3 : Blk wc g 172 (digA (absorbN d x (i + k)).s (absorbN d x (i + k)).r (absorbN d x (i + k)).n) := by
            rw [hch.out, if_pos huk]
            simpa using hD3
          refine ⟨⟨i + k, off + i, 0, by omega, by rw [show len - (i + k) = 0 by omega], by omega, fun hl => absurd hl (by omega), hx3, grownBy_trans hgr2 hgr3⟩, by dsimp only; omega⟩
        · go_wp2
          have hD2 := hD1.set 72 (.int .i64 ((n : Int) + k))
          rw [digA_setn] at hD2
          have hgr2 := grownBy_trans hgr1 (grownBy_setCell w1 g 72 (.int .i64 ((n : Int) + k)))
          generalize w1.setCell ⟨g, 72, none⟩ (.int .i64 ((n : Int) + k)) = w2 at *
          clear hD1 hgr1 c72' f72' hgr
          refine wo_region _ g w2 s _ ((n : Int) + k) _ (by simp) rfl hD2 _ ?_
          intro wc hgr3 hD3
          rw [putsTo_wo]
          simp only [Act.put, List.setIfInBounds_toArray, List.set_cons_succ, List.set_cons_zero]
          go_wp2
          have hx3 : Blk wc g 172 (digA (absorbN d x (i + k)).s (absorbN d x (i + k)).r (absorbN d x (i + k)).n) := by
            rw [hch.out, if_pos huk]
            simpa using hD3
          refine ⟨⟨i + k, off + i + k, c - k, by omega, by rw [Nat.sub_sub], by omega, fun _ => Nat.add_assoc _ _ _, hx3, grownBy_trans hgr2 hgr3⟩, by dsimp only; omega⟩
      · have hukb : ((u : Int) + (k : Int) == 64) = false := by simp; omega
        go_wp2
        refine ⟨⟨i + k, _, c - k, by omega, by rw [hcc.out, Nat.sub_sub], by omega, hoo.out, ?_, grownBy_trans hgr1 (grownBy_setCell _ _ _ _)⟩, by dsimp only; omega⟩
        have h2 := hD1.set 72 (.int .i64 ((n : Int) + k))
        rw [digA_setn] at h2
        rw [hch.out, if_neg huk]
        simpa using h2
    · obtain rfl : i = len := by omega
      rw [Nat.sub_self]
      have hfin : Blk wr g 172 (digA (absorbN d x i).s (absorbN d x i).r (absorbN d x i).n) := by rw [← hDD.out]; exact hD
      go_wp2
      go_end0
      exact ⟨rfl, hfin, hgr⟩
end Go.Proofs.YtibaindbnemlcaaGreatDoor.Nd.Sh
namespace Go.Proofs.YtibaindbnemlcaaGreatDoor.Nd.Sh
open Go.RowKit

def zerosF (n : Nat) : Nat := (119 - n % 64) % 64
def endL (n : Nat) (j : Nat) : List Value := (Value.int .u8 128 :: List.replicate (zerosF n) (.int .u8 0)) ++ (List.range j).map fun t => .int .u8 (8 * (n : Int) / 2 ^ (56 - 8 * t) % 256)

theorem Tryz.info5 : (Tryz.prog.info? 5).map (fun i => (i.zero, i.size, i.bytes)) = some (some (.int .u8 0), 1, 1) := by kernel_rfl

theorem made_bytes (n : Nat) : madeCells #[.int .u8 0] n = bytesA n fun _ => 0 := by
  apply Array.ext_getElem?
  intro i
  by_cases h : i < n <;> simp [madeCells, bytesA, h, Nat.mod_one]

theorem run_make28 (l c : Nat) (hlc : l ≤ c) (hc : c ≤ 1000) (w : World) : (Instr.makeSlice 32 (.int .i64 (l : Int)) (.int .i64 (c : Int))).run Tryz.prog w = .ok (.slice (some ⟨w.heap.size, 0, none⟩) l c) (w.alloc (.cells (bytesA c fun _ => 0) 5)) := by
  obtain ⟨i, hi, hzz⟩ := Option.map_eq_some_iff.1 Tryz.info5
  simp only [Prod.mk.injEq] at hzz
  obtain ⟨hz, hs, hb⟩ := hzz
  have hr := run_make (P := Tryz.prog) w 32 5 i (.int .u8 0) Tryz.underlying32 hi hz .i64 .i64 (l : Int) (c : Int) (by omega) (by omega) (by rw [hb]; omega) (by omega)
  simp only [Int.toNat_natCast, hs, Nat.mul_one, Value.cells] at hr
  rw [made_bytes] at hr
  exact hr

set_option maxRecDepth 8000 in
set_option maxHeartbeats 1000000 in
theorem end_any (n : Nat) (w : World) (hn : (n : Int) ≤ 1152921504606846976) :
    Calls Tryz.prog 81 #[.int .i64 (n : Int)] w fun e w' => ∃ g, e = .returned (.slice (some ⟨g, 0, none⟩) (zerosF n + 9) (zerosF n + 9)) ∧ w.heap.size ≤ g ∧
      (∀ i v, (endL n 8)[i]? = some v → w'.cell? ⟨g, i, none⟩ = some v) ∧ Below w.heap.size w w' := by
  have hz : (119 - (n : Int) % 64) % 64 = (zerosF n : Int) := by unfold zerosF; omega
  have hzl : zerosF n < 64 := by unfold zerosF; omega
  obtain ⟨z, hzz⟩ : ∃ z, Keep (z = zerosF n) := ⟨_, ⟨rfl⟩⟩
  rw [← hzz.out] at hz hzl ⊢
  have hmk : ∀ w : World, (Instr.makeSlice 32 (.int .i64 (1 + (z : Int))) (.int .i64 (1 + (z : Int) + 8))).run Tryz.prog w = .ok (.slice (some ⟨w.heap.size, 0, none⟩) (z + 1) (z + 9)) (w.alloc (.cells (bytesA (z + 9) fun _ => 0) 5)) := by
    intro w
    have := run_make28 (z + 1) (z + 9) (by omega) (by omega) w
    rwa [show ((z + 1 : Nat) : Int) = 1 + (z : Int) by omega, show ((z + 9 : Nat) : Int) = 1 + (z : Int) + 8 by omega] at this
  have w1 : IntKind.u64.wrap (n : Int) = n := by rw [IntKind.wrap_u64]; omega
  have w2 : IntKind.u64.wrap (8 * (n : Int)) = 8 * n := by rw [IntKind.wrap_u64]; omega
  have hK := Blk.new w 5 (bytesA (z + 9) fun _ => 0)
  have c0 : (w.alloc (.cells (bytesA (z + 9) fun _ => 0) 5)).cell? ⟨w.heap.size, 0, none⟩ = some (.int .u8 0) := by rw [hK.cell, bytesA_get _ _ _ (by omega)]
  have f0 : (w.alloc (.cells (bytesA (z + 9) fun _ => 0) 5)).frozen? ⟨w.heap.size, 0, none⟩ = false := hK.frozen 0
  go_enter Tryz.func81, Tryz.ntmps81
  go_wp2
  have hown : (w.alloc (.cells ((bytesA (z + 9) fun _ => 0).setIfInBounds 0 (.int .u8 128)) 5)).ownsRow w.heap.size 5 1 (.slice (some ⟨w.heap.size, 0, none⟩) (z + 1) (z + 9)) (z + 1) (endL n 0) := by
    have hl : (endL n 0).length = z + 1 := by simp [endL, ← hzz.out]
    refine ⟨by rw [hl]; omega, .inr ⟨w.heap.size, z + 9, _, rfl, Nat.le_refl _, heap_alloc_new _ _, by omega, by unfold maxLen; omega, by simp [bytesA_size], ?_⟩⟩
    rw [bytesA_set]
    apply List.ext_getElem?
    intro i
    rw [List.getElem?_take, Array.getElem?_toList]
    by_cases h : i < (z + 1) * 1
    · rw [if_pos h, bytesA_get _ _ _ (by omega)]
      simp only [endL, List.range_zero, List.map_nil, List.append_nil, ← hzz.out, upd]
      cases i with
      | zero => rfl
      | succ i => rw [if_neg (by omega), List.getElem?_cons_succ, List.getElem?_replicate, if_pos (by omega)]
    · rw [if_neg h, List.getElem?_eq_none (by rw [hl]; omega)]
  have hB : Below w.heap.size w (w.alloc (.cells ((bytesA (z + 9) fun _ => 0).setIfInBounds 0 (.int .u8 128)) 5)) := below_new _ _
  clear c0 f0 hK
  generalize w.alloc (.cells ((bytesA (z + 9) fun _ => 0).setIfInBounds 0 (.int .u8 128)) 5) = w0 at *
  simp only [hz]
  go_loopw [4, 6] (fun b sh wr => ∃ j : Nat, j ≤ 8 ∧ sh = .int .i64 (56 - 8 * (j : Int)) ∧ b = .slice (some ⟨w.heap.size, 0, none⟩) (z + 1 + j) (z + 9) ∧ wr.ownsRow w.heap.size 5 1 (.slice (some ⟨w.heap.size, 0, none⟩) (z + 1 + j) (z + 9)) (z + 1 + j) (endL n j) ∧ Below w.heap.size w wr) (fun _ sh _ => (intOf sh + 8).toNat)
  case atStart => exact ⟨0, by omega, by simp, rfl, hown, hB⟩
  case round =>
    clear hown hB
    obtain ⟨j, hj, rfl, rfl, hown, hB⟩ := hrel
    by_cases hlt : j < 8
    · have hs0 : 0 ≤ 56 - 8 * (j : Int) := by omega
      have hs1 : 56 - 8 * (j : Int) ≤ 64 := by omega
      obtain ⟨i5, hi5, hzz5⟩ := Option.map_eq_some_iff.1 Tryz.info5
      simp only [Prod.mk.injEq] at hzz5
      have hone : Keep (∀ u ∈ [Value.int .u8 (8 * (n : Int) / 2 ^ (56 - 8 * j) % 256)], u.oneCell' = true) := ⟨by intro u hu; simp at hu; subst hu; rfl⟩
      have hownA : Keep ((wr.alloc (.cells #[Value.int .u8 (8 * (n : Int) / 2 ^ (56 - 8 * j) % 256)] 5)).ownsRow w.heap.size 5 1 (.slice (some ⟨w.heap.size, 0, none⟩) (z + 1 + j) (z + 9)) (z + 1 + j) (endL n j)) := ⟨by
        obtain ⟨h1, h2⟩ := hown
        refine ⟨h1, ?_⟩
        rcases h2 with h2 | ⟨g, cap, cur, e, hg, hh, r⟩
        · exact .inl h2
        · exact .inr ⟨g, cap, cur, e, hg, by rw [Below.heap_alloc _ _ _ (Array.getElem?_eq_some_iff.1 hh).1]; exact hh, r⟩⟩
      have hKi : Keep (Tryz.prog.info? 5 = some i5) := ⟨hi5⟩
      have hKs : Keep (i5.size = 1) := ⟨hzz5.2.1⟩
      clear hi5 hzz5
      go_wp2_with (at_builtin; refine wpList_append_fits _ rfl (.tmp 26) (.tmp 31) 32 rfl w.heap.size 5 i5 1 Tryz.underlying32 hKi.out hKs.out w.heap.size (z + 1 + j) (z + 9) (endL n j) rfl hownA.out ⟨wr.heap.size, 0, none⟩ 1 1 [Value.int .u8 (8 * (n : Int) / 2 ^ (56 - 8 * j) % 256)] rfl rfl (cell_one_new _ _ _) hone.out (by omega) ?_; intro w' hown' hgr')
      have hlz : w.heap.size ≤ wr.heap.size := hB.size
      have hB' : Below w.heap.size w w' := (hB.alloc hlz (.cells #[Value.int .u8 (8 * (n : Int) / 2 ^ (56 - 8 * j) % 256)] 5)).grown hgr' (by simp; omega) (fun k e => by injection e with e; omega)
      have hL : endL n j ++ [Value.int .u8 (8 * (n : Int) / 2 ^ (56 - 8 * j) % 256)] = endL n (j + 1) := by simp only [endL, List.range_succ, List.map_append, List.map_cons, List.map_nil, List.append_assoc]
      rw [hL] at hown'
      go_roundw
      case rel =>
        exact ⟨j + 1, by omega, by congr 1; omega, rfl, hown', hB'⟩
      case measure => simp [intOf]; omega
    · obtain rfl : j = 8 := by omega
      go_wp2
      go_ret
      refine ⟨w.heap.size, rfl, Nat.le_refl _, fun i v hv => ?_, hB⟩
      have hi : i < (endL n 8).length := (List.getElem?_eq_some_iff.1 hv).1
      rw [hown.cellAt i (by rw [← hown.1]; exact hi)]
      exact hv
end Go.Proofs.YtibaindbnemlcaaGreatDoor.Nd.Sh
namespace Go.Proofs.YtibaindbnemlcaaGreatDoor.Nd.Sh
open Go.RowKit

def layUp (s : Nat → Int) : Nat → (Nat → Int)
  | 0 => fun _ => 0
  | t + 1 => upd (upd (upd (upd (layUp s t) (4 * t) (s t / 16777216 % 256)) (4 * t + 1) (s t / 65536 % 256)) (4 * t + 2) (s t / 256 % 256)) (4 * t + 3) (s t % 256)

theorem index60_0 (s : Nat → Int) (w : World) : (Instr.index 168 (.agg (wordsA 8 s)) (.int .i64 0)).run Tryz.prog w = .ok (.int .u32 (s 0)) w := by kernel_rfl
theorem index60_1 (s : Nat → Int) (w : World) : (Instr.index 168 (.agg (wordsA 8 s)) (.int .i64 1)).run Tryz.prog w = .ok (.int .u32 (s 1)) w := by kernel_rfl
theorem index60_2 (s : Nat → Int) (w : World) : (Instr.index 168 (.agg (wordsA 8 s)) (.int .i64 2)).run Tryz.prog w = .ok (.int .u32 (s 2)) w := by kernel_rfl
theorem index60_3 (s : Nat → Int) (w : World) : (Instr.index 168 (.agg (wordsA 8 s)) (.int .i64 3)).run Tryz.prog w = .ok (.int .u32 (s 3)) w := by kernel_rfl
theorem index60_4 (s : Nat → Int) (w : World) : (Instr.index 168 (.agg (wordsA 8 s)) (.int .i64 4)).run Tryz.prog w = .ok (.int .u32 (s 4)) w := by kernel_rfl
theorem index60_5 (s : Nat → Int) (w : World) : (Instr.index 168 (.agg (wordsA 8 s)) (.int .i64 5)).run Tryz.prog w = .ok (.int .u32 (s 5)) w := by kernel_rfl
theorem index60_6 (s : Nat → Int) (w : World) : (Instr.index 168 (.agg (wordsA 8 s)) (.int .i64 6)).run Tryz.prog w = .ok (.int .u32 (s 6)) w := by kernel_rfl
theorem index60_7 (s : Nat → Int) (w : World) : (Instr.index 168 (.agg (wordsA 8 s)) (.int .i64 7)).run Tryz.prog w = .ok (.int .u32 (s 7)) w := by kernel_rfl
theorem index60 (s : Nat → Int) (t : Nat) (ht : t < 8) (w : World) : (Instr.index 168 (.agg (wordsA 8 s)) (.int .i64 (t : Int))).run Tryz.prog w = .ok (.int .u32 (s t)) w := by
  match t, ht with
  | 0, _ => exact index60_0 s w
  | 1, _ => exact index60_1 s w
  | 2, _ => exact index60_2 s w
  | 3, _ => exact index60_3 s w
  | 4, _ => exact index60_4 s w
  | 5, _ => exact index60_5 s w
  | 6, _ => exact index60_6 s w
  | 7, _ => exact index60_7 s w
  | n + 8, h => omega

set_option maxRecDepth 8000 in
set_option maxHeartbeats 1000000 in
theorem lay_any (s : Nat → Int) (w : World) :
    Calls Tryz.prog 82 #[.agg (wordsA 8 s)] w fun e w' => e = .returned (.agg (bytesA 32 (layUp s 8))) ∧ Below w.heap.size w w' := by
  go_enter Tryz.func82, Tryz.ntmps82
  go_wp2_with (first | (refine wpList_boxA rfl 168 (.tmp 0) rfl (wordsA 8 s) rfl ?_; refine wpList_new rfl 51 rfl _ Tryz.new51 ?_) | (refine wpList_new rfl 51 rfl _ Tryz.new51 ?_) | (refine wpList_load_row rfl 168 (.tmp 1) rfl w.heap.size rfl 168 (wordsA 8 s) (0, 0) (.array 8 167) (((Blk.new w 168 (wordsA 8 s)).alloc _).alloc _) Tryz.underlying168 rfl (Tryz.size168W _) ?_))
  have hR := (Blk.new (w.alloc (.cells (wordsA 8 s) 168)) 51 (bytesA 32 fun _ => 0)).alloc (.cells (bytesA 32 fun _ => 0) 51)
  have hH := Blk.new ((w.alloc (.cells (wordsA 8 s) 168)).alloc (.cells (bytesA 32 fun _ => 0) 51)) 51 (bytesA 32 fun _ => 0)
  have hB : Below w.heap.size w (((w.alloc (.cells (wordsA 8 s) 168)).alloc (.cells (bytesA 32 fun _ => 0) 51)).alloc (.cells (bytesA 32 fun _ => 0) 51)) :=
    (((Below.refl _ _).alloc (Nat.le_refl _) _).alloc (by simp) _).alloc (by simp; omega) _
  simp only [World.size_alloc] at hR hH
  generalize (((w.alloc (.cells (wordsA 8 s) 168)).alloc (.cells (bytesA 32 fun _ => 0) 51)).alloc (.cells (bytesA 32 fun _ => 0) 51)) = w0 at *
  go_loopw [7] (fun i wr => ∃ t : Nat, t ≤ 8 ∧ i = .int .i64 t ∧ Blk wr (w.heap.size + 1) 51 (bytesA 32 fun _ => 0) ∧ Blk wr (w.heap.size + 1 + 1) 51 (bytesA 32 (layUp s t)) ∧ Below w.heap.size w wr) (fun i _ => 8 - (intOf i).toNat)
  case atStart => exact ⟨0, by omega, rfl, hR, hH, hB⟩
  case round =>
    clear hR hH hB
    obtain ⟨t, ht, rfl, hR, hH, hB⟩ := hrel
    by_cases hlt : t < 8
    · have hix := index60 s t hlt
      have hlt' : (t : Int) < 8 := by omega
      have c0 : wr.cell? ⟨w.heap.size + 1 + 1, 4 * t, none⟩ = some (.int .u8 (layUp s t (4 * t))) := by rw [hH.cell, bytesA_get _ _ _ (by omega)]
      have f0 : wr.frozen? ⟨w.heap.size + 1 + 1, 4 * t, none⟩ = false := hH.frozen _
      have c1 : wr.cell? ⟨w.heap.size + 1 + 1, 4 * t + 1, none⟩ = some (.int .u8 (layUp s t (4 * t + 1))) := by rw [hH.cell, bytesA_get _ _ _ (by omega)]
      have f1 : wr.frozen? ⟨w.heap.size + 1 + 1, 4 * t + 1, none⟩ = false := hH.frozen _
      have c2 : wr.cell? ⟨w.heap.size + 1 + 1, 4 * t + 2, none⟩ = some (.int .u8 (layUp s t (4 * t + 2))) := by rw [hH.cell, bytesA_get _ _ _ (by omega)]
      have f2 : wr.frozen? ⟨w.heap.size + 1 + 1, 4 * t + 2, none⟩ = false := hH.frozen _
      have c3 : wr.cell? ⟨w.heap.size + 1 + 1, 4 * t + 3, none⟩ = some (.int .u8 (layUp s t (4 * t + 3))) := by rw [hH.cell, bytesA_get _ _ _ (by omega)]
      have f3 : wr.frozen? ⟨w.heap.size + 1 + 1, 4 * t + 3, none⟩ = false := hH.frozen _
      go_wp2
      go_roundw
      case rel =>
        have ne : w.heap.size + 1 ≠ w.heap.size + 1 + 1 := by omega
        have le : w.heap.size ≤ w.heap.size + 1 + 1 := by omega
        have h := (((hH.set (4 * t) (.int .u8 (s t / 16777216 % 256))).set (4 * t + 1) (.int .u8 (s t / 65536 % 256))).set (4 * t + 2) (.int .u8 (s t / 256 % 256))).set (4 * t + 3) (.int .u8 (s t % 256))
        rw [bytesA_set, bytesA_set, bytesA_set, bytesA_set] at h
        exact ⟨t + 1, by omega, by go_num, (((hR.set_ne ne _).set_ne ne _).set_ne ne _).set_ne ne _, h, (((hB.setCell le _).setCell le _).setCell le _).setCell le _⟩
      case measure => simp [intOf]; omega
    · obtain rfl : t = 8 := by omega
      clear hlt ht
      obtain ⟨c, hc⟩ : ∃ c, Keep (c = layUp s 8) := ⟨_, ⟨rfl⟩⟩
      rw [← hc.out] at hH
      go_wp2_with (refine wpList_load_row rfl 51 (.tmp 3) rfl (w.heap.size + 1 + 1) rfl 51 (bytesA 32 c) (0, 0) (.array 32 5) hH Tryz.underlying51 rfl (Tryz.size51B _) ?_; refine wpList_store_row rfl 51 (.tmp 2) (.tmp 38) rfl (w.heap.size + 1) (bytesA 32 c) rfl rfl 51 (bytesA 32 fun _ => 0) hR (Tryz.size51B _) (bytesA_sizes _ _ _) (bytesA_one _ _) ?_)
      exact bodyPost_ret (v := .agg (bytesA 32 c)) (results_cell_row Tryz.results82 _ _ (w.heap.size + 1) 51 _ (0, 0) _ rfl (hR.setRow _) Tryz.underlying51 rfl (Tryz.size51B _)) rfl ⟨by rw [hc.out], below_setRow hB (by omega) _⟩
end Go.Proofs.YtibaindbnemlcaaGreatDoor.Nd.Sh
namespace Go.Proofs.YtibaindbnemlcaaGreatDoor.Nd.Sh
open Go.RowKit

def endX (n i : Nat) : Int := if i = 0 then 128 else if i ≤ zerosF n then 0 else 8 * (n : Int) / 2 ^ (56 - 8 * (i - zerosF n - 1)) % 256
theorem endL_get (n i : Nat) (h : i < zerosF n + 9) : (endL n 8)[i]? = some (.int .u8 (endX n i)) := by
  unfold endL endX
  rw [List.getElem?_append, List.length_cons, List.length_replicate]
  by_cases h1 : i < zerosF n + 1
  · rw [if_pos h1]
    cases i with
    | zero => rfl
    | succ i => rw [List.getElem?_cons_succ, List.getElem?_replicate, if_pos (by omega), if_neg (by omega), if_pos (by omega)]
  · rw [if_neg h1, if_neg (by omega), if_neg (by omega), List.getElem?_map, List.getElem?_range (by omega)]
    simp only [Option.map_some]
    rw [show i - (zerosF n + 1) = i - zerosF n - 1 by omega]

def dg0 : Dg := ⟨beginF, fun _ => 0, 0⟩
def sumF (d : Dg) : Nat → Int := layUp (absorbN d (endX d.n) (zerosF d.n + 9)).s 8

theorem Tryz.new172 (w : World) : (Instr.alloc 172 true (.tuple #[])).run Tryz.prog w = .ok (.pointer (some ⟨w.heap.size, 0, none⟩)) (w.alloc (.cells (digA (fun _ => 0) (fun _ => 0) 0) 172)) := by kernel_rfl
theorem digA_sizes (s r s' r' : Nat → Int) (n n' : Int) : (digA s r n).size = (digA s' r' n').size := by rw [digA_size, digA_size]

set_option maxRecDepth 8000 in
set_option maxHeartbeats 1000000 in
theorem sum_any (g : Nat) (d : Dg) (w : World) (hg : Blk w g 172 (digA d.s d.r d.n)) (hn : (d.n : Int) ≤ 576460752303423488) :
    Calls Tryz.prog 59 #[ptr g] w fun e w' => e = .returned (.agg (bytesA 32 (sumF d))) ∧ Below w.heap.size w w' := by
  have hlt := hg.lt
  obtain ⟨s, r, n⟩ := d
  dsimp only at hg hn
  have hg1 := (hg.alloc (.cells (bytesA 32 fun _ => 0) 51))
  have hc1 := Blk.new (w.alloc (.cells (bytesA 32 fun _ => 0) 51)) 172 (digA (fun _ => 0) (fun _ => 0) 0)
  have HG : Keep (Blk (w.alloc (.cells (bytesA 32 fun _ => 0) 51)) g 172 (digA s r n)) := ⟨hg1⟩
  have HC : Keep (Blk ((w.alloc (.cells (bytesA 32 fun _ => 0) 51)).alloc (.cells (digA (fun _ => 0) (fun _ => 0) 0) 172)) (w.heap.size + 1) 172 (digA (fun _ => 0) (fun _ => 0) 0)) := ⟨by simpa using hc1⟩
  have hg2 := (hg1.alloc (.cells (digA (fun _ => 0) (fun _ => 0) 0) 172)).setRow_ne (b' := w.heap.size + 1) (by omega) (digA s r n)
  have hc2 := HC.out.setRow (digA s r n)
  have hr2 := ((Blk.new w 51 (bytesA 32 fun _ => 0)).alloc (.cells (digA (fun _ => 0) (fun _ => 0) 0) 172)).setRow_ne (b' := w.heap.size + 1) (by omega) (digA s r n)
  have hB2 : Below w.heap.size w (((w.alloc (.cells (bytesA 32 fun _ => 0) 51)).alloc (.cells (digA (fun _ => 0) (fun _ => 0) 0) 172)).setRow (w.heap.size + 1) (digA s r n)) :=
    below_setRow (((Below.refl _ _).alloc (Nat.le_refl _) _).alloc (by simp) _) (by omega) _
  clear hg hg1 hc1
  obtain ⟨w2, hw2⟩ : ∃ w2, Keep (w2 = ((w.alloc (.cells (bytesA 32 fun _ => 0) 51)).alloc (.cells (digA (fun _ => 0) (fun _ => 0) 0) 172)).setRow (w.heap.size + 1) (digA s r n)) := ⟨_, ⟨rfl⟩⟩
  rw [← hw2.out] at hg2 hc2 hr2 hB2
  have c72 : w2.cell? ⟨g, 72, none⟩ = some (.int .i64 n) := by rw [hg2.cell, digA_n]
  go_enter Tryz.func59, Tryz.ntmps59
  go_wp2_with (first | (refine wpList_new rfl 51 rfl _ Tryz.new51 ?_) | (refine wpList_load_row rfl 172 (.tmp 5) rfl g rfl 172 (digA s r n) (0, 0) _ HG.out Tryz.underlying172 rfl (Tryz.size172D _ _ _) ?_; refine wpList_new rfl 172 rfl _ Tryz.new172 ?_; refine wpList_store_row rfl 172 (.tmp 3) (.tmp 6) rfl (w.heap.size + 1) (digA s r n) (by simp [Act.put, Act.eval]) rfl 172 (digA (fun _ => 0) (fun _ => 0) 0) HC.out (Tryz.size172D _ _ _) (digA_sizes _ _ _ _ _ _) (digA_one _ _ _) ?_; rw [← hw2.out]))
  refine (end_any n _ (by omega)).mono ?_
  rintro e w3 ⟨h, rfl, hle, hcells, hB3⟩
  have hsz2 := hB2.size
  have hc3 := hc2.below hB3 hc2.lt
  have hr3 := hr2.below hB3 hr2.lt
  have hltc := hc2.lt
  have hz9 : zerosF n + 9 ≤ 72 := by unfold zerosF; omega
  have HX : Keep (∀ i, i < zerosF n + 9 → w3.cell? ⟨h, 0 + i, none⟩ = some (.int .u8 (endX n i))) := ⟨fun i hi => by rw [Nat.zero_add]; exact hcells i _ (endL_get n i hi)⟩
  clear hcells c72
  have HB3 : Keep (Below w.heap.size w w3) := ⟨hB2.trans (hB3.mono hsz2)⟩
  go_wp2_with fail
  refine (write_any (w.heap.size + 1) ⟨s, r, n⟩ (endX n) (zerosF n + 9) (zerosF n + 9) h 0 w3 hc3 (by omega) HX.out (by dsimp only; omega) (Nat.le_refl _)).mono ?_
  rintro e w4 ⟨rfl, hc4, hgr4⟩
  have hr4 : Blk w4 w.heap.size 51 (bytesA 32 fun _ => 0) := by
    unfold Blk; rw [hgr4.block _ hr3.lt (by simp)]; exact hr3
  have hB4 : Below w.heap.size w w4 := HB3.out.grown hgr4 (by have := HB3.out.size; omega) (fun k e => by injection e with e; omega)
  obtain ⟨D, hD⟩ : ∃ D, Keep (D = absorbN ⟨s, r, n⟩ (endX n) (zerosF n + 9)) := ⟨_, ⟨rfl⟩⟩
  rw [← hD.out] at hc4
  obtain ⟨s', r', n'⟩ := D
  dsimp only at hc4
  have hrng := dig_range0 hc4
  go_wp2_with (refine wpList_load_mid rfl 168 (.tmp 13) rfl (w.heap.size + 1) 0 rfl (wordsA 8 s').toList (.array 8 167) hrng Tryz.underlying168 rfl (by rw [Array.length_toList]; exact Tryz.size168W s') ?_; rw [Array.toArray_toList])
  refine (lay_any s' _).mono ?_
  rintro e w5 ⟨rfl, hB5⟩
  have hr5 := hr4.below hB5 hr4.lt
  have hB5' := hB4.trans (hB5.mono hB4.size)
  obtain ⟨c, hc⟩ : ∃ c, Keep (c = layUp s' 8) := ⟨_, ⟨rfl⟩⟩
  rw [← hc.out]
  go_wp2_with (refine wpList_store_row rfl 51 (.tmp 2) (.tmp 15) rfl w.heap.size (bytesA 32 c) rfl rfl 51 (bytesA 32 fun _ => 0) hr5 (Tryz.size51B _) (bytesA_sizes _ _ _) (bytesA_one _ _) ?_)
  exact bodyPost_ret (v := .agg (bytesA 32 c)) (results_cell_row Tryz.results59 _ _ w.heap.size 51 _ (0, 0) _ rfl (hr5.setRow _) Tryz.underlying51 rfl (Tryz.size51B _)) rfl ⟨by rw [hc.out]; unfold sumF; rw [← hD.out], below_setRow hB5' (Nat.le_refl _) _⟩
end Go.Proofs.YtibaindbnemlcaaGreatDoor.Nd.Sh
namespace Go.Proofs.YtibaindbnemlcaaGreatDoor.Nd.Sh
open Go.RowKit

def absorbL (d : Dg) (l : List Int) : Dg := l.foldl absorb d
theorem absorbL_append (d : Dg) (l m : List Int) : absorbL d (l ++ m) = absorbL (absorbL d l) m := by simp [absorbL]
theorem absorbN_L (d : Dg) (l : List Int) (k : Nat) (hk : k ≤ l.length) : absorbN d (fun i => l.getD i 0) k = absorbL d (l.take k) := by
  induction k with
  | zero => rfl
  | succ k ih =>
    rw [List.take_succ_eq_append_getElem (by omega), absorbL_append, ← ih (by omega)]
    simp [absorbN, absorbL, List.getD, show k < l.length by omega]
theorem absorbN_all (d : Dg) (l : List Int) : absorbN d (fun i => l.getD i 0) l.length = absorbL d l := by
  rw [absorbN_L d l l.length (Nat.le_refl _), List.take_length]
theorem absorbL_n (d : Dg) (l : List Int) : (absorbL d l).n = d.n + l.length := by rw [← absorbN_all, absorbN_n]

def RowAt (w : World) (v : Value) (l : List Int) : Prop :=
  (v = .slice none 0 0 ∧ l = []) ∨ (∃ a c, v = .slice (some a) 0 c ∧ l = []) ∨ ∃ h off cap, v = .slice (some ⟨h, off, none⟩) l.length cap ∧ l.length ≤ cap ∧ ∀ i, i < l.length → w.cell? ⟨h, off + i, none⟩ = some (.int .u8 (l.getD i 0))

theorem cell_lt {w : World} {h j : Nat} {v : Value} (hc : w.cell? ⟨h, j, none⟩ = some v) : h < w.heap.size := by
  apply Nat.lt_of_not_le; intro hle
  simp [World.cell?, Array.getElem?_eq_none hle] at hc

theorem RowAt.below {w w' : World} {v : Value} {l : List Int} (h : RowAt w v l) (hb : Below w.heap.size w w') : RowAt w' v l := by
  rcases h with h | h | ⟨b, off, cap, h1, h2, h3⟩
  · exact .inl h
  · exact .inr (.inl h)
  · exact .inr <| .inr ⟨b, off, cap, h1, h2, fun i hi => by rw [hb.cell (p := ⟨b, off + i, none⟩) (cell_lt (h3 i hi))]; exact h3 i hi⟩

set_option maxRecDepth 8000 in
set_option maxHeartbeats 400000 in
theorem write_none (g : Nat) (a : Option Addr) (c : Nat) (w : World) :
    Calls Tryz.prog 58 #[ptr g, .slice a 0 c] w fun e w' => e = .returned (.tuple #[]) ∧ w' = w := by
  go_enter Tryz.func58, Tryz.ntmps58
  go_wp2
  refine wp_loop_rounds 1 ?_; rw [rounds_succ]
  go_wp2
  go_end0
  exact ⟨rfl, rfl⟩

theorem write_row (g : Nat) (d : Dg) (v : Value) (l : List Int) (w0 w : World) (hb : Below w0.heap.size w0 w) (hg0 : w0.heap.size ≤ g) (hrow : RowAt w0 v l) (hg : Blk w g 172 (digA d.s d.r d.n))
    (hlen : (d.n : Int) + l.length ≤ 1152921504606846976) :
    Calls Tryz.prog 58 #[ptr g, v] w fun e w' => e = .returned (.tuple #[]) ∧ Blk w' g 172 (digA (absorbL d l).s (absorbL d l).r (absorbL d l).n) ∧ Below w0.heap.size w0 w' := by
  rcases hrow with ⟨rfl, rfl⟩ | ⟨a, c, rfl, rfl⟩ | ⟨h, off, cap, rfl, hcap, hx⟩
  · refine (write_none g none 0 w).mono ?_
    rintro e w' ⟨rfl, rfl⟩
    exact ⟨rfl, hg, hb⟩
  · refine (write_none g (some a) c w).mono ?_
    rintro e w' ⟨rfl, rfl⟩
    exact ⟨rfl, hg, hb⟩
  · by_cases h0 : l.length = 0
    · obtain rfl := List.eq_nil_of_length_eq_zero h0
      refine (write_none g (some ⟨h, off, none⟩) cap w).mono ?_
      rintro e w' ⟨rfl, rfl⟩
      exact ⟨rfl, hg, hb⟩
    · have hlt := cell_lt (hx 0 (by omega))
      refine (write_any g d (fun i => l.getD i 0) l.length cap h off w hg (by omega) (fun i hi => by rw [hb.cell (p := ⟨h, off + i, none⟩) hlt]; exact hx i hi) hlen hcap).mono ?_
      rintro e w' ⟨rfl, h1, h2⟩
      rw [absorbN_all] at h1
      exact ⟨rfl, h1, hb.grown h2 (by have := hb.size; omega) (fun k e => by injection e with e; omega)⟩

def shaP (l : List Int) : Nat → Int := sumF (absorbL dg0 l)

def concat (rows : Nat → List Int) : Nat → List Int
  | 0 => []
  | i + 1 => concat rows i ++ rows i

theorem concat_le (rows : Nat → List Int) (i m : Nat) (hi : i ≤ m) : (concat rows i).length ≤ (concat rows m).length := by
  obtain ⟨k, rfl⟩ : ∃ k, m = i + k := ⟨m - i, by omega⟩
  clear hi
  induction k with
  | zero => exact Nat.le_refl _
  | succ k ih => rw [← Nat.add_assoc]; simp only [concat, List.length_append]; exact Nat.le_trans ih (Nat.le_add_right _ _)

set_option maxRecDepth 8000 in
set_option maxHeartbeats 1000000 in
theorem ofAll_any (q o m cap : Nat) (V : Nat → Value) (rows : Nat → List Int) (w : World) (hV : ∀ i, i < m → w.cell? ⟨q, o + i, none⟩ = some (V i)) (hrow : ∀ i, i < m → RowAt w (V i) (rows i))
    (hm : (m : Int) ≤ 9223372036854775807) (hlen : ((concat rows m).length : Int) ≤ 576460752303423488) :
    Calls Tryz.prog 32 #[.slice (some ⟨q, o, none⟩) m cap] w fun e w' => e = .returned (.agg (bytesA 32 (shaP (concat rows m)))) ∧ Below w.heap.size w w' := by
  have hbA := below_new w (.cells (bytesA 32 fun _ => 0) 51)
  have HV : Keep (∀ i, i < m → (w.alloc (.cells (bytesA 32 fun _ => 0) 51)).cell? ⟨q, o + i, none⟩ = some (V i)) := ⟨fun i hi => by rw [hbA.cell (p := ⟨q, o + i, none⟩) (cell_lt (hV i hi))]; exact hV i hi⟩
  have HR : Keep (∀ i, i < m → RowAt (w.alloc (.cells (bytesA 32 fun _ => 0) 51)) (V i) (rows i)) := ⟨fun i hi => (hrow i hi).below hbA⟩
  clear hV hrow
  go_enter Tryz.func32, Tryz.ntmps32
  go_wp2_with (first | (refine wpList_new rfl 51 rfl _ Tryz.new51 ?_))
  refine (new_any _).mono ?_
  rintro e w1 ⟨rfl, rfl⟩
  simp only [World.size_alloc]
  go_wp2_with fail
  have hG := Blk.new ((w.alloc (.cells (bytesA 32 fun _ => 0) 51)).alloc (.cells (wordsA 8 beginF) 168)) 172 (digA beginF (fun _ => 0) 0)
  have hR := Blk.new w 51 (bytesA 32 fun _ => 0)
  have hsA : (w.alloc (.cells (bytesA 32 fun _ => 0) 51)).heap.size = w.heap.size + 1 := by simp
  have hB : Below (w.heap.size + 1) (w.alloc (.cells (bytesA 32 fun _ => 0) 51)) (((w.alloc (.cells (bytesA 32 fun _ => 0) 51)).alloc (.cells (wordsA 8 beginF) 168)).alloc (.cells (digA beginF (fun _ => 0) 0) 172)) :=
    ((Below.refl _ _).alloc (by simp) _).alloc (by simp) _
  simp only [World.size_alloc] at hG
  generalize (((w.alloc (.cells (bytesA 32 fun _ => 0) 51)).alloc (.cells (wordsA 8 beginF) 168)).alloc (.cells (digA beginF (fun _ => 0) 0) 172)) = w0 at *
  generalize w.alloc (.cells (bytesA 32 fun _ => 0) 51) = wA at *
  have HL : Keep (∀ i, i ≤ m → (concat rows i).length ≤ (concat rows m).length) := ⟨fun i hi => concat_le rows i m hi⟩
  have HA : Keep (wA.heap.size = w.heap.size + 1) := ⟨hsA⟩
  clear hsA
  go_loopw [9] (fun i wr => ∃ t : Nat, t ≤ m ∧ i = .int .i64 t ∧ Blk wr (w.heap.size + 1 + 1) 172 (digA (absorbL dg0 (concat rows t)).s (absorbL dg0 (concat rows t)).r (absorbL dg0 (concat rows t)).n) ∧ Below (w.heap.size + 1) wA wr) (fun i _ => m - (intOf i).toNat)
  case atStart => exact ⟨0, by omega, rfl, hG, hB⟩
  case round =>
    clear hG hB
    obtain ⟨t, ht, rfl, hGr, hBr⟩ := hrel
    by_cases hlt : t < m
    · have hlt' : (t : Int) < (m : Int) := by omega
      have hcell := HV.out t hlt
      have hc : wr.cell? ⟨q, o + t, none⟩ = some (V t) := by rw [hBr.cell (p := ⟨q, o + t, none⟩) (by rw [← HA.out]; exact cell_lt hcell)]; exact hcell
      clear hcell
      have hLt := HL.out (t + 1) hlt
      simp only [concat, List.length_append] at hLt
      have HRow : Keep (RowAt wA (V t) (rows t)) := ⟨HR.out t hlt⟩
      go_wp2_with fail
      refine (write_row (w.heap.size + 1 + 1) (absorbL dg0 (concat rows t)) (V t) (rows t) wA wr (by rw [HA.out]; exact hBr) (by rw [HA.out]; omega) HRow.out hGr (by rw [absorbL_n]; show ((0 + (concat rows t).length : Nat) : Int) + _ ≤ _; omega)).mono ?_
      rintro e w' ⟨rfl, hG', hB'⟩
      rw [HA.out] at hB'
      rw [← absorbL_append] at hG'
      go_wp2
      go_roundw
      case rel => exact ⟨t + 1, by omega, by go_num, hG', hB'⟩
      case measure => simp [intOf]; omega
    · obtain rfl : t = m := by omega
      go_wp2_with fail
      refine (sum_any (w.heap.size + 1 + 1) (absorbL dg0 (concat rows t)) wr hGr (by rw [absorbL_n]; show ((0 + (concat rows t).length : Nat) : Int) ≤ _; omega)).mono ?_
      rintro e w5 ⟨rfl, hB5⟩
      have hr5 : Blk w5 w.heap.size 51 (bytesA 32 fun _ => 0) := (hR.below hBr (by omega)).below hB5 (by have := hGr.lt; omega)
      have hB5' : Below w.heap.size w w5 := hbA.trans ((hBr.mono (by omega)).trans (hB5.mono (by have := hGr.lt; omega)))
      obtain ⟨c, hc⟩ : ∃ c, Keep (c = sumF (absorbL dg0 (concat rows t))) := ⟨_, ⟨rfl⟩⟩
      rw [← hc.out]
      go_wp2_with (refine wpList_store_row rfl 51 (.tmp 2) (.tmp 18) rfl w.heap.size (bytesA 32 c) rfl rfl 51 (bytesA 32 fun _ => 0) hr5 (Tryz.size51B _) (bytesA_sizes _ _ _) (bytesA_one _ _) ?_)
      exact bodyPost_ret (v := .agg (bytesA 32 c)) (results_cell_row Tryz.results32 _ _ w.heap.size 51 _ (0, 0) _ rfl (hr5.setRow _) Tryz.underlying51 rfl (Tryz.size51B _)) rfl ⟨by rw [hc.out]; rfl, below_setRow hB5' (Nat.le_refl _) _⟩

set_option maxRecDepth 8000 in
set_option maxHeartbeats 1000000 in
theorem of_any (v : Value) (l : List Int) (w : World) (hrow : RowAt w v l) (hlen : (l.length : Int) ≤ 576460752303423488) :
    Calls Tryz.prog 20 #[v] w fun e w' => e = .returned (.agg (bytesA 32 (shaP l))) ∧ Below w.heap.size w w' := by
  obtain ⟨pa, pn, pc, rfl⟩ : ∃ a n c, v = .slice a n c := by
    rcases hrow with ⟨rfl, _⟩ | ⟨a, c, rfl, _⟩ | ⟨h, off, cap, rfl, _⟩
    · exact ⟨_, _, _, rfl⟩
    · exact ⟨_, _, _, rfl⟩
    · exact ⟨_, _, _, rfl⟩
  have HRow : Keep (RowAt ((w.alloc (.cells (bytesA 32 fun _ => 0) 51)).alloc (.cells #[.slice pa pn pc] 32)) (.slice pa pn pc) l) := ⟨hrow.below (((Below.refl _ _).alloc (Nat.le_refl _) _).alloc (by simp) _)⟩
  have hR := (Blk.new w 51 (bytesA 32 fun _ => 0)).alloc (.cells #[.slice pa pn pc] 32)
  have hB : Below w.heap.size w ((w.alloc (.cells (bytesA 32 fun _ => 0) 51)).alloc (.cells #[.slice pa pn pc] 32)) := ((Below.refl _ _).alloc (Nat.le_refl _) _).alloc (by simp) _
  have HV : Keep (((w.alloc (.cells (bytesA 32 fun _ => 0) 51)).alloc (.cells #[.slice pa pn pc] 32)).cell? ⟨w.heap.size + 1, 0, none⟩ = some (.slice pa pn pc)) := ⟨by
    have h := Blk.new (w.alloc (.cells (bytesA 32 fun _ => 0) 51)) 32 #[.slice pa pn pc]
    simp only [World.size_alloc] at h
    rw [h.cell]; rfl⟩
  clear hrow
  go_enter Tryz.func20, Tryz.ntmps20
  go_wp2_with (first | (refine wpList_new rfl 51 rfl _ Tryz.new51 ?_))
  generalize ((w.alloc (.cells (bytesA 32 fun _ => 0) 51)).alloc (.cells #[.slice pa pn pc] 32)) = w0 at *
  refine (ofAll_any (w.heap.size + 1) 0 1 1 (fun _ => .slice pa pn pc) (fun _ => l) w0 (fun i hi => by have e : i = 0 := (by omega); rw [e]; exact HV.out) (fun i _ => HRow.out) (by omega) (by simpa [concat] using hlen)).mono ?_
  rintro e w5 ⟨rfl, hB5⟩
  have hr5 := hR.below hB5 hR.lt
  have hB5' := hB.trans (hB5.mono hB.size)
  obtain ⟨c, hc⟩ : ∃ c, Keep (c = shaP (concat (fun _ => l) 1)) := ⟨_, ⟨rfl⟩⟩
  rw [← hc.out]
  go_wp2_with (refine wpList_store_row rfl 51 (.tmp 2) (.tmp 5) rfl w.heap.size (bytesA 32 c) rfl rfl 51 (bytesA 32 fun _ => 0) hr5 (Tryz.size51B _) (bytesA_sizes _ _ _) (bytesA_one _ _) ?_)
  exact bodyPost_ret (v := .agg (bytesA 32 c)) (results_cell_row Tryz.results20 _ _ w.heap.size 51 _ (0, 0) _ rfl (hr5.setRow _) Tryz.underlying51 rfl (Tryz.size51B _)) rfl ⟨by rw [hc.out]; simp [concat], below_setRow hB5' (Nat.le_refl _) _⟩
end Go.Proofs.YtibaindbnemlcaaGreatDoor.Nd.Sh
namespace Go.Proofs.YtibaindbnemlcaaGreatDoor.Nd
open Go.RowKit
set_option linter.unusedSimpArgs false
set_option linter.unusedVariables false

theorem of_any (v : Value) (l : List Int) (w : World) (h : RowAt w v l) (hl : (l.length : Int) ≤ 576460752303423488) : Calls Tryz.prog 20 #[v] w fun e w' => e = .returned (.agg (bytesA 32 (Sh.shaP l))) ∧ Below w.heap.size w w' := Sh.of_any v l w h hl
end Go.Proofs.YtibaindbnemlcaaGreatDoor.Nd
namespace Go.Proofs.YtibaindbnemlcaaGreatDoor.Nd
open Go.RowKit
set_option linter.unusedSimpArgs false
set_option linter.unusedVariables false

theorem of_is (v : Value) (l : List Int) (w : World) (h : RowAt w v l) (hl : (l.length : Int) ≤ 576460752303423488) (c : Nat → Int) (hc : Sh.shaP l = c) : Calls Tryz.prog 20 #[v] w fun e w' => e = .returned (.agg (bytesA 32 c)) ∧ Below w.heap.size w w' := by
  have := of_any v l w h hl
  rw [hc] at this
  exact this
def EntP (l : List Int) (w : World) (e : Ending) (w' : World) : Prop :=
  (l.length ≤ 1048576 ∧ (decR l).1 = 0 ∧ ∃ vp vo, e = .returned (.tuple #[.agg (enA (Sh.shaP l) (ndA (decR l).2.2.au (decR l).2.2.ck vp vo)), .nilIface]) ∧ OwnH w' vp (decR l).2.2.ps ∧ OwnO w' vo (decR l).2.2.ops ∧ (∀ x ∈ (decR l).2.2.ops, OpOk x) ∧ (decR l).2.2.ops.length ≤ 1024 ∧ Below w.heap.size w w')
  ∨ ((1048576 < l.length ∨ (¬ 1048576 < l.length ∧ (decR l).1 ≠ 0)) ∧ ∃ q, w.heap.size ≤ q ∧ e = .returned (.tuple #[.agg zEn, err q]) ∧ BadAt w' q (badR l).1 (badR l).2 ∧ Below w.heap.size w w')
theorem Tryz.in20 (w : World) (vs : Array Value) : (callFunc 20 vs).run Tryz.prog w = .ok (.enter 20 vs) w := by kernel_rfl
set_option maxRecDepth 8000 in
set_option maxHeartbeats 2000000 in
theorem entry_any (v : Value) (l : List Int) (w : World) (hr : RowAt w v l) (hB : Byts l) : Calls Tryz.prog 13 #[v] w (EntP l w) := by
  obtain ⟨va, vc, rfl⟩ := row_form hr
  have HR := Keep.mk hr
  have HBy := Keep.mk hB
  clear hr hB
  go_enter Tryz.func13, Tryz.ntmps13
  refine wp_seq_k fun K1 hK1 => ?_
  refine wp_region_list (WL.out ?_)
  refine WL.new (by kernel_rfl) 56 rfl _ Tryz.new56 ?_
  have HE1 := Keep.mk (Blk.new w 56 zEn)
  have B1 := Keep.mk (below_new w (.cells zEn 56))
  generalize w.alloc (.cells zEn 56) = w1 at *
  have HR1 := Keep.mk (HR.out.below B1.out)
  have Bx1 : Keep (w.heap.size ≤ w1.heap.size) := ⟨B1.out.size⟩
  have Hlt : Keep (w.heap.size < w1.heap.size) := ⟨HE1.out.lt⟩
  simp only [Act.put, List.setIfInBounds_toArray, List.set_cons_zero, List.set_cons_succ]
  refine WL.val (by kernel_rfl) (.nilIface) (by go_simp) ?_
  simp only [Act.put, List.setIfInBounds_toArray, List.set_cons_zero, List.set_cons_succ]
  refine WL.nil ?_
  refine hK1 _ _ ?_
  refine wp_seq_k fun K2 hK2 => ?_
  refine wp_region_list (WL.out ?_)
  refine WL.val (by kernel_rfl) (.slice va l.length vc) (by go_simp) ?_
  simp only [Act.put, List.setIfInBounds_toArray, List.set_cons_zero, List.set_cons_succ]
  refine WL.callF (by kernel_rfl) 19 _ _ rfl Tryz.in19 #[.slice va l.length vc] (by simp [Act.eval]) ?_
  refine (decode_any _ l w1 HR1.out HBy.out).mono ?_
  rintro e w2 (⟨h1, h2, vp, vo, rfl, h3, h4, h5, h6, h7, h8, hb2⟩ | ⟨h1, q, hq, rfl, hbad, hb2⟩)
  · refine ⟨_, rfl, ?_⟩
    have H1 := Keep.mk h1
    have H2 := Keep.mk h2
    have HO2 := Keep.mk h3
    have HQ2 := Keep.mk h4
    have Hok := Keep.mk h7
    have Hol := Keep.mk h8
    have BD := Keep.mk hb2
    clear h1 h2 h3 h4 h5 h6 h7 h8 hb2
    obtain ⟨pa, pc, rfl⟩ := HO2.out.sl
    obtain ⟨qa, qc, rfl⟩ := HQ2.out.sl
    obtain ⟨N, hN⟩ : ∃ N, N = (decR l).2.2 := ⟨_, rfl⟩
    rw [← hN] at HO2 HQ2 Hok Hol ⊢
    have HNN := Keep.mk hN
    clear hN
    have HE2 := Keep.mk (HE1.out.below BD.out HE1.out.lt)
    have HR2 := Keep.mk (HR1.out.below BD.out)
    have B2 : Keep (Below w.heap.size w w2) := ⟨B1.out.trans (BD.out.mono Bx1.out)⟩
    simp only [Act.put, List.setIfInBounds_toArray, List.set_cons_zero, List.set_cons_succ]
    refine WL.val (by kernel_rfl) (.tuple #[.agg (ndA N.au N.ck (.slice pa N.ps.length pc) (.slice qa N.ops.length qc)), .nilIface]) (by go_simp) ?_
    simp only [Act.put, List.setIfInBounds_toArray, List.set_cons_zero, List.set_cons_succ]
    refine WL.val (by kernel_rfl) (.agg (ndA N.au N.ck (.slice pa N.ps.length pc) (.slice qa N.ops.length qc))) (by go_simp) ?_
    simp only [Act.put, List.setIfInBounds_toArray, List.set_cons_zero, List.set_cons_succ]
    refine WL.val (by kernel_rfl) (.nilIface) (by go_simp) ?_
    simp only [Act.put, List.setIfInBounds_toArray, List.set_cons_zero, List.set_cons_succ]
    refine WL.new (by kernel_rfl) 54 rfl _ Tryz.new54N ?_
    simp only [Act.put, List.setIfInBounds_toArray, List.set_cons_zero, List.set_cons_succ]
    refine WL.storeR (by kernel_rfl) 54 (.tmp 4) (.tmp 9) rfl w2.heap.size (ndA N.au N.ck (.slice pa N.ps.length pc) (.slice qa N.ops.length qc)) rfl rfl 54 (ndA 0 0 noS noS) (Blk.new w2 54 _) (Tryz.size54B _ _ _ _) rfl (nd_one _ _ _ _ _ _ _ _) ?_
    have HN3 := Keep.mk ((Blk.new w2 54 (ndA 0 0 noS noS)).setRow (ndA N.au N.ck (.slice pa N.ps.length pc) (.slice qa N.ops.length qc)))
    have BS3 : Keep (Below w2.heap.size w2 ((w2.alloc (.cells (ndA 0 0 noS noS) 54)).setRow w2.heap.size (ndA N.au N.ck (.slice pa N.ps.length pc) (.slice qa N.ops.length qc)))) := ⟨below_setRow (below_new w2 _) (Nat.le_refl _) _⟩
    generalize (w2.alloc (.cells (ndA 0 0 noS noS) 54)).setRow w2.heap.size (ndA N.au N.ck (.slice pa N.ps.length pc) (.slice qa N.ops.length qc)) = w3 at *
    have B3 : Keep (Below w.heap.size w w3) := ⟨B2.out.trans (BS3.out.mono B2.out.size)⟩
    have HE3 := Keep.mk (HE2.out.below BS3.out HE2.out.lt)
    have HR3 := Keep.mk (HR2.out.below BS3.out)
    have HO3 := Keep.mk (HO2.out.below BS3.out)
    have HQ3 := Keep.mk (HQ2.out.below BS3.out)
    simp only [Act.put]
    refine WL.val (by kernel_rfl) (.nilIface) (by go_simp) ?_
    simp only [Act.put, List.setIfInBounds_toArray, List.set_cons_zero, List.set_cons_succ]
    refine WL.nil ?_
    refine hK2 _ _ ?_
    refine wp_seq_k fun K3 hK3 => ?_
    refine wp_seq_k fun K4 hK4 => ?_
    refine wp_region_list (WL.out ?_)
    refine WL.val (by kernel_rfl) (.nilIface) (by go_simp) ?_
    simp only [Act.put, List.setIfInBounds_toArray, List.set_cons_zero, List.set_cons_succ]
    refine WL.val (by kernel_rfl) (.bool false) (by go_simp) ?_
    simp only [Act.put, List.setIfInBounds_toArray, List.set_cons_zero, List.set_cons_succ]
    refine WL.nil ?_
    refine hK4 _ _ ?_
    refine wp_cond_false rfl ?_
    refine wp_skip ?_
    refine hK3 _ _ ?_
    refine wp_seq_k fun K5 hK5 => ?_
    have hD0 : Below w3.heap.size w3 w3.drew := (Below.refl _ _).drew
    obtain ⟨hc, hhc⟩ : ∃ hc, Sh.shaP l = hc := ⟨_, rfl⟩
    have Hhc := Keep.mk hhc
    clear hhc
    obtain ⟨EN, hEN⟩ : ∃ EN, EN = enA hc (ndA N.au N.ck (.slice pa N.ps.length pc) (.slice qa N.ops.length qc)) := ⟨_, rfl⟩
    have HEs : Keep (EN.size = 36) := ⟨by rw [hEN]; exact enA_size _ _ _ _ _⟩
    have HEo : Keep (EN.all (·.oneCell') = true) := ⟨by rw [hEN]; exact enA_one _ _ _ _ _ _ _ _ _⟩
    have HEr : Keep (∀ w : World, (Next.value <$> Instr.build 56 #[(0, .agg (bytesA 32 hc)), (1, .agg (ndA N.au N.ck (.slice pa N.ps.length pc) (.slice qa N.ops.length qc)).toList.toArray)]).run Tryz.prog w = .ok (.value (.agg EN)) w) := ⟨fun w => by rw [hEN]; exact run_bldEn _ _ _ _ _ w⟩
    have HEe := Keep.mk hEN
    clear hEN
    have HS0 : Keep (∀ wx, Below w3.heap.size w3 wx → wx.rangeAt w2.heap.size 0 (ndA N.au N.ck (.slice pa N.ps.length pc) (.slice qa N.ops.length qc)).toList) := ⟨fun wx hb => blk_range (HN3.out.below hb HN3.out.lt)⟩
    refine wp_region_held_drew (S := fun wx => wx.rangeAt w2.heap.size 0 (ndA N.au N.ck (.slice pa N.ps.length pc) (.slice qa N.ops.length qc)).toList) (by kernel_rfl) (HS0.out _ hD0) (fun hHeld => ?_)
    refine wpAnyH_take (i := 0) (oi := ⟨some 15, Op.move (Operand.tmp 0), 32, _, _, none⟩) (v := .slice va l.length vc) rfl (by kernel_rfl) (by kernel_rfl) (by kernel_rfl) (fun _ _ _ h => h) (Or.inl ⟨by rfl, fun w hS => by go_simp⟩) hHeld ?_
    simp only [Act.put, List.setIfInBounds_toArray, List.set_cons_zero, List.set_cons_succ]
    refine wpAnyH_take (i := 2) (oi := ⟨some 17, Op.load 54 (Operand.tmp 4), 54, _, _, none⟩) (v := .agg (ndA N.au N.ck (.slice pa N.ps.length pc) (.slice qa N.ops.length qc)).toList.toArray) rfl (by kernel_rfl) (by kernel_rfl) (by kernel_rfl) (fun _ _ _ h => h) (yieldsIf_load_mid (by rfl) 54 (Operand.tmp 4) rfl w2.heap.size 0 rfl (ndA N.au N.ck (.slice pa N.ps.length pc) (.slice qa N.ops.length qc)).toList _ (fun w hS => hS) Tryz.underlying54 rfl (Tryz.size54B _ _ _ _)) hHeld ?_
    simp only [Act.put, List.setIfInBounds_toArray, List.set_cons_zero, List.set_cons_succ]
    refine wpAnyH_ready (rs := [1]) (by kernel_rfl) (by simp) ?_
    refine AllReadyH.cons (o := ⟨some 16, Op.call { callee := Callee.value (Operand.func 20), args := #[Operand.tmp 15], argTypes := #[32] }, 51, _, _, none⟩) rfl (fun K hK => ?_) AllReadyH.nil
    rw [if_pos (by rfl)]
    refine wp_callF 20 _ _ rfl Tryz.in20 #[.slice va l.length vc] (by simp [Act.eval]) (fun vz wz => vz = .agg (bytesA 32 hc) ∧ Below w3.heap.size w3 wz) ?_ ?_
    · refine (of_is _ l w3.drew (HR3.out.below hD0) (by have := H1.out; omega) hc Hhc.out).mono ?_
      rintro e wz ⟨rfl, h⟩
      exact ⟨_, rfl, rfl, hD0.trans (h.mono hD0.size)⟩
    rintro vz w7 ⟨rfl, h7⟩
    have HB7 := Keep.mk h7
    clear h7
    refine hK.out _ _ (HS0.out _ HB7.out) fun hHeld2 => ?_
    clear hK
    simp only [Act.put, List.setIfInBounds_toArray, List.set_cons_zero, List.set_cons_succ]
    refine wpAnyH_take (i := 3) (oi := ⟨some 18, Op.build 56 #[(0, Operand.tmp 16), (1, Operand.tmp 17)], 56, _, _, none⟩) (v := .agg EN) rfl (by kernel_rfl) (by kernel_rfl) (by kernel_rfl) (fun _ _ _ h => h) (yieldsIf_bld (by rfl) 56 _ rfl _ (by simp [Act.eval]) _ HEr.out) hHeld2 ?_
    simp only [Act.put, List.setIfInBounds_toArray, List.set_cons_zero, List.set_cons_succ]
    refine wpAnyH_ready (rs := [4]) (by kernel_rfl) (by simp) ?_
    refine AllReadyH.cons (o := ⟨none, Op.store 56 (Operand.tmp 2) (Operand.tmp 18), 0, _, _, none⟩) rfl (fun K hK => ?_) AllReadyH.nil
    rw [if_pos (by rfl)]
    refine wp_store_row 56 (.tmp 2) (.tmp 18) rfl w.heap.size EN rfl rfl 56 zEn (HE3.out.below HB7.out HE3.out.lt) (by rw [HEs.out]; exact Tryz.size56) (zEn_size.trans HEs.out.symm) HEo.out ?_
    refine hK.out _ _ (blk_range ((HN3.out.below HB7.out HN3.out.lt).setRow_ne (by have := B2.out.size; have := Hlt.out; have := BD.out.size; omega) _)) fun hH3 => ?_
    clear hK
    simp only [Act.put, List.setIfInBounds_toArray, List.set_cons_zero, List.set_cons_succ]
    refine wpAnyH_take (i := 5) (oi := ⟨some 3, Op.assign (Operand.const Value.nilIface), 29, _, _, none⟩) (v := .nilIface) rfl (by kernel_rfl) (by kernel_rfl) (by kernel_rfl) (fun _ _ _ h => h) (Or.inl ⟨by rfl, fun w hS => by go_simp⟩) hH3 ?_
    simp only [Act.put, List.setIfInBounds_toArray, List.set_cons_zero, List.set_cons_succ]
    refine wpAnyH_done (by kernel_rfl) ?_ _
    refine hK5 _ _ ?_
    refine wp_ret ?_
    try simp only [Exit.then]
    have HZ := (HE3.out.below HB7.out HE3.out.lt).setRow EN
    refine bodyPost_ret (v := .tuple #[.agg EN, .nilIface]) (results_cell_row2 Tryz.results13 _ _ w.heap.size 56 _ (0, 0) _ _ rfl rfl HZ Tryz.underlying56 rfl (by rw [HEs.out]; exact Tryz.size56)) rfl ?_
    have B7 : Below w.heap.size w w7 := B3.out.trans (HB7.out.mono B3.out.size)
    have Gs : Grown w7 (w7.setRow w.heap.size EN) fun k => k = w.heap.size := Grown.setRow w7 w.heap.size _ fun _ => rfl
    refine .inl ⟨H1.out, H2.out, .slice pa N.ps.length pc, .slice qa N.ops.length qc, by rw [HEe.out, ← HNN.out, Hhc.out], ?_, ?_, by rw [← HNN.out]; exact Hok.out, by rw [← HNN.out]; exact Hol.out, below_setRow B7 (Nat.le_refl _) _⟩
    · rw [← HNN.out]; exact (HO3.out.below HB7.out).grown Gs (fun k hk e => (HO3.out.below HB7.out).ne (HE3.out.below HB7.out HE3.out.lt) (by decide) (e ▸ hk))
    · rw [← HNN.out]; exact (HQ3.out.below HB7.out).grown Gs (fun k hk e => (HQ3.out.below HB7.out).ne (HE3.out.below HB7.out HE3.out.lt) (by decide) (e ▸ hk))
  · refine ⟨_, rfl, ?_⟩
    have H1 := Keep.mk h1
    have HB2 := Keep.mk hbad
    have BD := Keep.mk hb2
    have Hq := Keep.mk (Nat.le_trans Bx1.out hq)
    clear h1 hbad hb2 hq
    unfold err
    have HE2 := Keep.mk (HE1.out.below BD.out HE1.out.lt)
    have B2 : Keep (Below w.heap.size w w2) := ⟨B1.out.trans (BD.out.mono Bx1.out)⟩
    simp only [Act.put, List.setIfInBounds_toArray, List.set_cons_zero, List.set_cons_succ]
    refine WL.val (by kernel_rfl) (.tuple #[.agg (ndA 0 0 noS noS), .iface 64 (ptr q)]) (by go_simp) ?_
    simp only [Act.put, List.setIfInBounds_toArray, List.set_cons_zero, List.set_cons_succ]
    refine WL.val (by kernel_rfl) (.agg (ndA 0 0 noS noS)) (by go_simp) ?_
    simp only [Act.put, List.setIfInBounds_toArray, List.set_cons_zero, List.set_cons_succ]
    refine WL.val (by kernel_rfl) (.iface 64 (ptr q)) (by go_simp) ?_
    simp only [Act.put, List.setIfInBounds_toArray, List.set_cons_zero, List.set_cons_succ]
    refine WL.new (by kernel_rfl) 54 rfl _ Tryz.new54N ?_
    simp only [Act.put, List.setIfInBounds_toArray, List.set_cons_zero, List.set_cons_succ]
    refine WL.storeR (by kernel_rfl) 54 (.tmp 4) (.tmp 9) rfl w2.heap.size (ndA 0 0 noS noS) rfl rfl 54 (ndA 0 0 noS noS) (Blk.new w2 54 _) (Tryz.size54B _ _ _ _) rfl (nd_one 0 0 none 0 0 none 0 0) ?_
    have BS3 : Keep (Below w2.heap.size w2 ((w2.alloc (.cells (ndA 0 0 noS noS) 54)).setRow w2.heap.size (ndA 0 0 noS noS))) := ⟨below_setRow (below_new w2 _) (Nat.le_refl _) _⟩
    generalize (w2.alloc (.cells (ndA 0 0 noS noS) 54)).setRow w2.heap.size (ndA 0 0 noS noS) = w3 at *
    have B3 : Keep (Below w.heap.size w w3) := ⟨B2.out.trans (BS3.out.mono B2.out.size)⟩
    have HE3 := Keep.mk (HE2.out.below BS3.out HE2.out.lt)
    have HB3 : Keep (BadAt w3 q (badR l).1 (badR l).2) := ⟨HB2.out.below BS3.out HB2.out.lt⟩
    simp only [Act.put]
    refine WL.val (by kernel_rfl) (.iface 64 (ptr q)) (by go_simp) ?_
    simp only [Act.put, List.setIfInBounds_toArray, List.set_cons_zero, List.set_cons_succ]
    refine WL.nil ?_
    refine hK2 _ _ ?_
    refine wp_seq_k fun K6 hK6 => ?_
    refine wp_seq_k fun K7 hK7 => ?_
    refine wp_region_list (WL.out ?_)
    refine WL.val (by kernel_rfl) (.iface 64 (ptr q)) (by go_simp) ?_
    simp only [Act.put, List.setIfInBounds_toArray, List.set_cons_zero, List.set_cons_succ]
    refine WL.val (by kernel_rfl) (.bool true) (by go_simp) ?_
    simp only [Act.put, List.setIfInBounds_toArray, List.set_cons_zero, List.set_cons_succ]
    refine WL.nil ?_
    refine hK7 _ _ ?_
    refine wp_cond_true rfl ?_
    refine wp_seq_k fun K8 hK8 => ?_
    refine wp_region_list (WL.out ?_)
    refine WL.bld (by kernel_rfl) 56 _ rfl [] (by simp) _ en_built0 ?_
    simp only [Act.put, List.setIfInBounds_toArray, List.set_cons_zero, List.set_cons_succ]
    refine WL.val (by kernel_rfl) (.iface 64 (ptr q)) (by go_simp) ?_
    simp only [Act.put, List.setIfInBounds_toArray, List.set_cons_zero, List.set_cons_succ]
    refine WL.storeR (by kernel_rfl) 56 (.tmp 2) (.tmp 13) rfl w.heap.size zEn rfl rfl 56 zEn HE3.out (Tryz.size56B _ _ _ _ _) rfl (enA_one _ 0 0 none 0 0 none 0 0) ?_
    simp only [Act.put]
    refine WL.val (by kernel_rfl) (.iface 64 (ptr q)) (by go_simp) ?_
    simp only [Act.put, List.setIfInBounds_toArray, List.set_cons_zero, List.set_cons_succ]
    refine WL.nil ?_
    refine hK8 _ _ ?_
    refine wp_ret ?_
    try simp only [Exit.then]
    refine bodyPost_ret (v := .tuple #[.agg zEn, .iface 64 (ptr q)]) (results_cell_row2 Tryz.results13 _ _ w.heap.size 56 _ (0, 0) _ _ rfl rfl (HE3.out.setRow _) Tryz.underlying56 rfl (Tryz.size56B _ _ _ _ _)) rfl ?_
    exact .inr ⟨H1.out, q, Hq.out, rfl, HB3.out.setRow_ne (blk_ne HB3.out HE3.out (by decide)) _, below_setRow B3.out (Nat.le_refl _) _⟩
end Go.Proofs.YtibaindbnemlcaaGreatDoor.Nd
