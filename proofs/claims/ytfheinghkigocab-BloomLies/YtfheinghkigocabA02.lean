import Derived.Test.YtfheinghkigocabA01
import Derived.Laws.CopyOwn
import Derived.ChangeKeysEq
import Derived.Laws.AppendOwnNone
import Derived.Lib.EndianBits
namespace Go.Proofs.Ytfheinghkigocab
open Go.RowKit

/-- The cells of a Digest: the words, the rest, the number of bytes. -/
def digA (s r : Nat → Int) (n : Int) : Array Value := Array.ofFn (n := 73) fun i => if i.val < 8 then .int .u32 (s i.val) else if i.val < 72 then .int .u8 (r (i.val - 8)) else .int .i64 n

theorem digA_size (s r : Nat → Int) (n : Int) : (digA s r n).size = 73 := by simp [digA]
theorem digA_w (s r : Nat → Int) (n : Int) (j : Nat) (h : j < 8) : (digA s r n)[j]? = some (.int .u32 (s j)) := by
  have h' : j < 73 := by omega
  simp [digA, h, h']
theorem digA_r (s r : Nat → Int) (n : Int) (j : Nat) (h : j < 64) : (digA s r n)[8 + j]? = some (.int .u8 (r j)) := by
  have h1 : ¬ 8 + j < 8 := by omega
  have h2 : 8 + j < 72 := by omega
  have h' : 8 + j < 73 := by omega
  simp [digA, h2, h']
theorem digA_n (s r : Nat → Int) (n : Int) : (digA s r n)[72]? = some (.int .i64 n) := by simp [digA]
theorem digA_setn (s r : Nat → Int) (n m : Int) : (digA s r n).setIfInBounds 72 (.int .i64 m) = digA s r m := by
  apply Array.ext_getElem?
  intro i
  rw [Array.getElem?_setIfInBounds]
  by_cases e : 72 = i
  · subst e; simp [digA]
  · by_cases hi : i < 73
    · have : i < 72 := by omega
      simp [digA, e, hi, this]
    · simp [digA, e, hi]
theorem digA_one (s r : Nat → Int) (n : Int) : (digA s r n).all (·.oneCell') = true := by
  rw [Array.all_eq_true_iff_forall_mem]; intro v hv; simp [digA] at hv; obtain ⟨i, rfl⟩ := hv; split <;> (try split) <;> rfl

/-- y laid over r from u on, k of them. -/
def putN (r : Nat → Int) (u k : Nat) (y : Nat → Int) : Nat → Int := fun j => if u ≤ j ∧ j < u + k then y (j - u) else r j
theorem digA_splice (s r : Nat → Int) (n : Int) (u k : Nat) (y : Nat → Int) (h : u + k ≤ 64) :
    ((digA s r n).toList.take (8 + u) ++ ((List.range k).map (fun j => Value.int .u8 (y j)) ++ (digA s r n).toList.drop (8 + u + k))).toArray = digA s (putN r u k y) n := by
  have hl : (digA s r n).toList.length = 73 := by simp [digA_size]
  apply Array.ext_getElem?
  intro i
  rw [List.getElem?_toArray, List.getElem?_append, List.length_take, hl, show min (8 + u) 73 = 8 + u by omega]
  by_cases h1 : i < 8 + u
  · rw [if_pos h1, List.getElem?_take, if_pos h1, Array.getElem?_toList]
    have hi : i < 73 := by omega
    by_cases h8 : i < 8
    · rw [digA_w _ _ _ _ h8, digA_w _ _ _ _ h8]
    · obtain ⟨j, rfl⟩ : ∃ j, i = 8 + j := ⟨i - 8, by omega⟩
      rw [digA_r _ _ _ _ (by omega), digA_r _ _ _ _ (by omega)]
      simp only [putN]; rw [if_neg (by omega)]
  · rw [if_neg h1, List.getElem?_append, List.length_map, List.length_range]
    by_cases h2 : i - (8 + u) < k
    · rw [if_pos h2, List.getElem?_map, List.getElem?_range h2]
      obtain ⟨j, rfl⟩ : ∃ j, i = 8 + j := ⟨i - 8, by omega⟩
      rw [digA_r _ _ _ _ (by omega)]
      simp only [putN, Option.map_some]; rw [if_pos (by omega), show 8 + j - (8 + u) = j - u by omega]
    · rw [if_neg h2, List.getElem?_drop, Array.getElem?_toList, show 8 + u + k + (i - (8 + u) - k) = i by omega]
      by_cases h72 : i < 72
      · obtain ⟨j, rfl⟩ : ∃ j, i = 8 + j := ⟨i - 8, by omega⟩
        rw [digA_r _ _ _ _ (by omega), digA_r _ _ _ _ (by omega)]
        simp only [putN]; rw [if_neg (by omega)]
      · by_cases h73 : i = 72
        · subst h73; rw [digA_n, digA_n]
        · rw [Array.getElem?_eq_none (by rw [digA_size]; omega), Array.getElem?_eq_none (by rw [digA_size]; omega)]

theorem Try.size58 : (Try.prog.info? 58).map (·.size) = some 73 := by kernel_rfl
theorem Try.size58D (s r : Nat → Int) (n : Int) : (Try.prog.info? 58).map (·.size) = some (digA s r n).size := by rw [digA_size]; exact Try.size58

set_option maxRecDepth 10000 in
theorem new_any (w : World) :
    Calls Try.prog 16 #[] w fun e w' => e = .returned (ptr (w.heap.size + 1)) ∧ w' = (w.alloc (.cells (wordsA 8 beginF) 54)).alloc (.cells (digA beginF (fun _ => 0) 0) 58) := by
  go_enter Try.func16, Try.ntmps16
  go_wp2_with fail
  refine (begin_any _).mono ?_
  rintro e w' ⟨rfl, rfl⟩
  go_wp2_with (refine wpList_bld rfl 58 _ rfl (digA beginF (fun _ => 0) 0) (by kernel_rfl) ?_; refine wpList_boxA rfl 58 (.tmp 2) rfl (digA beginF (fun _ => 0) 0) rfl ?_)
  go_ret
  exact ⟨by simp, rfl⟩

end Go.Proofs.Ytfheinghkigocab
namespace Go.Proofs.Ytfheinghkigocab
open Go.RowKit

def wo0 (q : String) : Oper := { dst := some 36, op := Op.move (Operand.tmp 0), type := 49, pos := q, after := #[], guard := none }
def wo1 (q : String) : Oper := { dst := some 37, op := Op.move (Operand.tmp 0), type := 49, pos := q, after := #[], guard := none }
def wo2 (q : String) : Oper := { dst := some 38, op := Op.nilCheck (Operand.tmp 37), type := 0, pos := q, after := #[{ on := 1, ground := Ground.data }], guard := none }
def wo3 (q : String) : Oper := { dst := some 39, op := Op.fieldAddr 58 (Operand.tmp 38) 0, type := 0, pos := q, after := #[{ on := 2, ground := Ground.data }], guard := none }
def wo4 (q : String) : Oper := { dst := some 40, op := Op.load 54 (Operand.tmp 39), type := 54, pos := q, after := #[{ on := 3, ground := Ground.data }], guard := none }
def wo5 (q : String) : Oper := { dst := some 41, op := Op.move (Operand.tmp 0), type := 49, pos := q, after := #[], guard := none }
def wo6 (q : String) : Oper := { dst := some 42, op := Op.nilCheck (Operand.tmp 41), type := 0, pos := q, after := #[{ on := 5, ground := Ground.data }], guard := none }
def wo7 (q : String) : Oper := { dst := some 43, op := Op.fieldAddr 58 (Operand.tmp 42) 1, type := 0, pos := q, after := #[{ on := 6, ground := Ground.data }], guard := none }
def wo8 (q : String) : Oper := { dst := some 44, op := Op.load 56 (Operand.tmp 43), type := 56, pos := q, after := #[{ on := 7, ground := Ground.data }], guard := none }
def wo9 (q : String) : Oper := { dst := some 45, op := Op.call { callee := Callee.value (Operand.func 20), args := #[Operand.tmp 40, Operand.tmp 44], argTypes := #[54, 56] }, type := 54, pos := q, after := #[{ on := 4, ground := Ground.data }, { on := 8, ground := Ground.data }], guard := none }
def wo10 (q : String) : Oper := { dst := some 46, op := Op.nilCheck (Operand.tmp 36), type := 0, pos := q, after := #[{ on := 0, ground := Ground.data }, { on := 0, ground := Ground.phase }, { on := 1, ground := Ground.phase }, { on := 2, ground := Ground.phase }, { on := 3, ground := Ground.phase }, { on := 4, ground := Ground.phase }, { on := 5, ground := Ground.phase }, { on := 6, ground := Ground.phase }, { on := 7, ground := Ground.phase }, { on := 8, ground := Ground.phase }, { on := 9, ground := Ground.phase }], guard := none }
def wo11 (q : String) : Oper := { dst := some 47, op := Op.fieldAddr 58 (Operand.tmp 46) 0, type := 0, pos := q, after := #[{ on := 10, ground := Ground.data }, { on := 0, ground := Ground.phase }, { on := 1, ground := Ground.phase }, { on := 2, ground := Ground.phase }, { on := 3, ground := Ground.phase }, { on := 4, ground := Ground.phase }, { on := 5, ground := Ground.phase }, { on := 6, ground := Ground.phase }, { on := 7, ground := Ground.phase }, { on := 8, ground := Ground.phase }, { on := 9, ground := Ground.phase }], guard := none }
def wo12 (q : String) : Oper := { dst := none, op := Op.store 54 (Operand.tmp 47) (Operand.tmp 45), type := 0, pos := q, after := #[{ on := 11, ground := Ground.data }, { on := 9, ground := Ground.data }, { on := 9, ground := Ground.chain }, { on := 0, ground := Ground.phase }, { on := 1, ground := Ground.phase }, { on := 2, ground := Ground.phase }, { on := 3, ground := Ground.phase }, { on := 4, ground := Ground.phase }, { on := 5, ground := Ground.phase }, { on := 6, ground := Ground.phase }, { on := 7, ground := Ground.phase }, { on := 8, ground := Ground.phase }, { on := 9, ground := Ground.phase }], guard := none }
def woA (q : String) : Array Oper := #[wo0 q, wo1 q, wo2 q, wo3 q, wo4 q, wo5 q, wo6 q, wo7 q, wo8 q, wo9 q, wo10 q, wo11 q, wo12 q]
theorem Try.enter20 (w : World) (vs : Array Value) : (callFunc 20 vs).run Try.prog w = .ok (.enter 20 vs) w := by kernel_rfl
theorem Try.field67_0 (g : Nat) (w : World) : (Instr.fieldAt 58 (ptr g) 0).run Try.prog w = .ok (ptr g) w := by kernel_rfl
theorem Try.field67_1 (g : Nat) (w : World) : (Instr.fieldAt 58 (ptr g) 1).run Try.prog w = .ok (.pointer (some ⟨g, 8, none⟩)) w := by kernel_rfl

def woV (g : Nat) (s p : Nat → Int) : Nat → Value
  | 4 => .agg (wordsA 8 s)
  | 7 => .pointer (some ⟨g, 8, none⟩)
  | 8 => .agg (bytesA 64 p)
  | 9 => .agg (wordsA 8 (mixF s p))
  | 12 => undef
  | _ => ptr g
structure WoW (g : Nat) (w0 : World) (s p : Nat → Int) (m : Int) (l : Array Bool) (w : World) : Prop where
  gr : w0.grownBy w (some g)
  a : l.getD 12 false = false → Blk w g 58 (digA s p m)
  b : l.getD 12 false = true → Blk w g 58 (digA (mixF s p) p m)
  c : l.getD 12 false = true → l.getD 4 false = true ∧ l.getD 8 false = true

theorem digA_words (s p c : Nat → Int) (m : Int) : ((digA s p m).toList.take 0 ++ (wordsA 8 c).toList ++ (digA s p m).toList.drop (0 + (wordsA 8 c).size)).toArray = digA c p m := by
  have hl : (digA s p m).toList.length = 73 := by simp [digA_size]
  apply Array.ext_getElem?
  intro i
  rw [wordsA_size, List.take_zero, List.nil_append, List.getElem?_toArray, List.getElem?_append, Array.length_toList, wordsA_size]
  by_cases h8 : i < 8
  · rw [if_pos h8, Array.getElem?_toList, wordsA_get _ _ _ h8, digA_w _ _ _ _ h8]
  · rw [if_neg h8, List.getElem?_drop, Array.getElem?_toList, show 0 + 8 + (i - 8) = i by omega]
    by_cases h72 : i < 72
    · obtain ⟨j, rfl⟩ : ∃ j, i = 8 + j := ⟨i - 8, by omega⟩
      rw [digA_r _ _ _ _ (by omega), digA_r _ _ _ _ (by omega)]
    · by_cases h73 : i = 72
      · subst h73; rw [digA_n, digA_n]
      · rw [Array.getElem?_eq_none (by rw [digA_size]; omega), Array.getElem?_eq_none (by rw [digA_size]; omega)]
theorem dig_range8 {w : World} {g : Nat} {s p : Nat → Int} {m : Int} (h : Blk w g 58 (digA s p m)) : w.rangeAt g 8 (bytesA 64 p).toList := by
  intro j v hv
  have hj : j < 64 := by have := (List.getElem?_eq_some_iff.1 hv).1; simpa [bytesA_size] using this
  rw [h.cell, digA_r _ _ _ _ hj, ← hv, Array.getElem?_toList, bytesA_get _ _ _ hj]
theorem dig_range0 {w : World} {g : Nat} {s p : Nat → Int} {m : Int} (h : Blk w g 58 (digA s p m)) : w.rangeAt g 0 (wordsA 8 s).toList := by
  intro j v hv
  have hj : j < 8 := by have := (List.getElem?_eq_some_iff.1 hv).1; simpa [wordsA_size] using this
  rw [Nat.zero_add, h.cell, digA_w _ _ _ _ hj, ← hv, Array.getElem?_toList, wordsA_get _ _ _ hj]
theorem grownBy_trans {a b c : World} {o : Option Nat} (h : a.grownBy b o) (k : b.grownBy c o) : a.grownBy c o :=
  ⟨k.os.trans h.os, k.tape.trans h.tape, k.output.trans h.output, Nat.le_trans h.size k.size, fun i hi hn => (k.block i (Nat.lt_of_lt_of_le hi h.size) hn).trans (h.block i hi hn)⟩
theorem WoW.next {g : Nat} {w0 w w' : World} {s p : Nat → Int} {m : Int} {l : Array Bool} (h : WoW g w0 s p m l w) (hb : Below w.heap.size w w') (i : Nat) (hi : i ≠ 12) : WoW g w0 s p m (l.setIfInBounds i true) w' where
  gr := grownBy_trans h.gr (grownBy_below hb _)
  a e := by rw [getD_set_ne false hi] at e; exact (h.a e).below hb (h.a e).lt
  b e := by rw [getD_set_ne false hi] at e; exact (h.b e).below hb (h.b e).lt
  c e := by rw [getD_set_ne false hi] at e; exact ⟨getD_set_true (h.c e).1, getD_set_true (h.c e).2⟩
theorem getD_ft {l : Array Bool} {i : Nat} (h : l.getD i true = false) : l.getD i false = false := by
  obtain ⟨h1, h2⟩ := getD_lt h
  simp [Array.getD, h1, h2]

set_option maxRecDepth 8000 in
set_option maxHeartbeats 1000000 in
theorem wo_step (q : String) (g : Nat) (w0 : World) (s p : Nat → Int) (m : Int) (a0 : Act) (h0 : a0.eval (.tmp 0) = ptr g) (Q : Exit → Act → World → Prop)
    (l : Array Bool) (a : Act) (w : World) (i : Nat) (o : Oper)
    (hold : ∀ t : Nat, (∀ (j : Nat) (o' : Oper), (woA q)[j]? = some o' → o'.dst ≠ some t) → a.eval (.tmp t) = a0.eval (.tmp t))
    (hval : ∀ (j : Nat) (o' : Oper) (d : Nat), (woA q)[j]? = some o' → o'.dst = some d → l.getD j false = true → a.eval (.tmp d) = woV g s p j)
    (hW : WoW g w0 s p m l w) (_ : l.size = (woA q).size) (hi : l.getD i true = false) (ho : (woA q)[i]? = some o) (he : ∀ e ∈ o.after, Region.binds .any e = true → l.getD e.on false = true) :
    o.guard = none ∧ o.wp Try.prog a w (fun a' w' => a' = a.put o.dst (woV g s p i) ∧ WoW g w0 s p m (l.setIfInBounds i true) w') Q := by
  have a0e : a.eval (.tmp 0) = ptr g := by
    rw [hold 0 ?_, h0]
    intro j o' hj
    have : ∀ j : Fin 13, ((woA q)[j.val]?.bind (·.dst)) ≠ some 0 := by
      have h : ∀ j : Fin 13, ((woA (String.ofList []))[j.val]?.bind (·.dst)) ≠ some 0 := by decide
      intro j
      have e : ((woA q)[j.val]?.bind (·.dst)) = ((woA (String.ofList []))[j.val]?.bind (·.dst)) := by
        match j with
        | ⟨0, _⟩ => rfl
        | ⟨1, _⟩ => rfl
        | ⟨2, _⟩ => rfl
        | ⟨3, _⟩ => rfl
        | ⟨4, _⟩ => rfl
        | ⟨5, _⟩ => rfl
        | ⟨6, _⟩ => rfl
        | ⟨7, _⟩ => rfl
        | ⟨8, _⟩ => rfl
        | ⟨9, _⟩ => rfl
        | ⟨10, _⟩ => rfl
        | ⟨11, _⟩ => rfl
        | ⟨12, _⟩ => rfl
      rw [e]; exact h j
    have hlt : j < 13 := (Array.getElem?_eq_some_iff.1 hj).1
    have := this ⟨j, hlt⟩
    rw [hj] at this; exact this
  have v := fun (j d : Nat) (o' : Oper) (h1 : (woA q)[j]? = some o') (h2 : o'.dst = some d) (h3 : l.getD j false = true) => hval j o' d h1 h2 h3
  match i, hi, ho with
  | 0, hi, ho =>
    have e : wo0 q = o := Option.some.inj ho
    exact ⟨by rw [← e]; rfl, wp_move (.tmp 0) (by rw [← e]; rfl) (ptr g) a0e ⟨rfl, hW.next (Below.refl _ _) 0 (by decide)⟩⟩
  | 1, hi, ho =>
    have e : wo1 q = o := Option.some.inj ho
    exact ⟨by rw [← e]; rfl, wp_move (.tmp 0) (by rw [← e]; rfl) (ptr g) a0e ⟨rfl, hW.next (Below.refl _ _) 1 (by decide)⟩⟩
  | 2, hi, ho =>
    have e : wo2 q = o := Option.some.inj ho
    have qq := v 1 37 (wo1 q) rfl rfl (he ⟨1, .data⟩ (by rw [← e]; simp [wo2]) rfl)
    exact ⟨by rw [← e]; rfl, wp_nilCheck (.tmp 37) (by rw [← e]; rfl) ⟨g, 0, none⟩ qq ⟨rfl, hW.next (Below.refl _ _) 2 (by decide)⟩⟩
  | 3, hi, ho =>
    have e : wo3 q = o := Option.some.inj ho
    have qq := v 2 38 (wo2 q) rfl rfl (he ⟨2, .data⟩ (by rw [← e]; simp [wo3]) rfl)
    exact ⟨by rw [← e]; rfl, wp_fieldAddr 58 (.tmp 38) 0 (by rw [← e]; rfl) (ptr g) (ptr g) qq (Try.field67_0 g) ⟨rfl, hW.next (Below.refl _ _) 3 (by decide)⟩⟩
  | 4, hi, ho =>
    have e : wo4 q = o := Option.some.inj ho
    have qq := v 3 39 (wo3 q) rfl rfl (he ⟨3, .data⟩ (by rw [← e]; simp [wo4]) rfl)
    have hb : Blk w g 58 (digA s p m) := hW.a (by
      cases h : l.getD 12 false with
      | false => rfl
      | true => have := (hW.c h).1; rw [getD_ft hi] at this; cases this)
    refine ⟨by rw [← e]; rfl, wp_load_mid 54 (.tmp 39) (by rw [← e]; rfl) g 0 qq (wordsA 8 s).toList (.array 8 53) (dig_range0 hb) Try.underlying54 rfl (by rw [Array.length_toList]; exact Try.size54W s) ?_⟩
    rw [Array.toArray_toList]
    exact ⟨rfl, hW.next (Below.refl _ _) 4 (by decide)⟩
  | 5, hi, ho =>
    have e : wo5 q = o := Option.some.inj ho
    exact ⟨by rw [← e]; rfl, wp_move (.tmp 0) (by rw [← e]; rfl) (ptr g) a0e ⟨rfl, hW.next (Below.refl _ _) 5 (by decide)⟩⟩
  | 6, hi, ho =>
    have e : wo6 q = o := Option.some.inj ho
    have qq := v 5 41 (wo5 q) rfl rfl (he ⟨5, .data⟩ (by rw [← e]; simp [wo6]) rfl)
    exact ⟨by rw [← e]; rfl, wp_nilCheck (.tmp 41) (by rw [← e]; rfl) ⟨g, 0, none⟩ qq ⟨rfl, hW.next (Below.refl _ _) 6 (by decide)⟩⟩
  | 7, hi, ho =>
    have e : wo7 q = o := Option.some.inj ho
    have qq := v 6 42 (wo6 q) rfl rfl (he ⟨6, .data⟩ (by rw [← e]; simp [wo7]) rfl)
    exact ⟨by rw [← e]; rfl, wp_fieldAddr 58 (.tmp 42) 1 (by rw [← e]; rfl) (ptr g) (.pointer (some ⟨g, 8, none⟩)) qq (Try.field67_1 g) ⟨rfl, hW.next (Below.refl _ _) 7 (by decide)⟩⟩
  | 8, hi, ho =>
    have e : wo8 q = o := Option.some.inj ho
    have qq := v 7 43 (wo7 q) rfl rfl (he ⟨7, .data⟩ (by rw [← e]; simp [wo8]) rfl)
    have hb : Blk w g 58 (digA s p m) := hW.a (by
      cases h : l.getD 12 false with
      | false => rfl
      | true => have := (hW.c h).2; rw [getD_ft hi] at this; cases this)
    refine ⟨by rw [← e]; rfl, wp_load_mid 56 (.tmp 43) (by rw [← e]; rfl) g 8 qq (bytesA 64 p).toList (.array 64 5) (dig_range8 hb) Try.underlying56 rfl (by rw [Array.length_toList]; exact Try.size56B p) ?_⟩
    rw [Array.toArray_toList]
    exact ⟨rfl, hW.next (Below.refl _ _) 8 (by decide)⟩
  | 9, hi, ho =>
    have e : wo9 q = o := Option.some.inj ho
    have q1 : a.eval (.tmp 40) = .agg (wordsA 8 s) := v 4 40 (wo4 q) rfl rfl (he ⟨4, .data⟩ (by rw [← e]; simp [wo9]) rfl)
    have q2 : a.eval (.tmp 44) = .agg (bytesA 64 p) := v 8 44 (wo8 q) rfl rfl (he ⟨8, .data⟩ (by rw [← e]; simp [wo9]) rfl)
    exact ⟨by rw [← e]; rfl, wp_callF 20 #[.tmp 40, .tmp 44] #[54, 56] (by rw [← e]; rfl) Try.enter20 #[.agg (wordsA 8 s), .agg (bytesA 64 p)] (by simp only [List.map_toArray, List.map_cons, List.map_nil, q1, q2])
      (fun v w' => v = .agg (wordsA 8 (mixF s p)) ∧ Below w.heap.size w w') ((mix_any s p w).mono (by rintro e w' ⟨rfl, hb⟩; exact ⟨_, rfl, rfl, hb⟩))
      (by rintro v w' ⟨rfl, hb⟩; exact ⟨rfl, hW.next hb 9 (by decide)⟩)⟩
  | 10, hi, ho =>
    have e : wo10 q = o := Option.some.inj ho
    have qq := v 0 36 (wo0 q) rfl rfl (he ⟨0, .data⟩ (by rw [← e]; simp [wo10]) rfl)
    exact ⟨by rw [← e]; rfl, wp_nilCheck (.tmp 36) (by rw [← e]; rfl) ⟨g, 0, none⟩ qq ⟨rfl, hW.next (Below.refl _ _) 10 (by decide)⟩⟩
  | 11, hi, ho =>
    have e : wo11 q = o := Option.some.inj ho
    have qq := v 10 46 (wo10 q) rfl rfl (he ⟨10, .data⟩ (by rw [← e]; simp [wo11]) rfl)
    exact ⟨by rw [← e]; rfl, wp_fieldAddr 58 (.tmp 46) 0 (by rw [← e]; rfl) (ptr g) (ptr g) qq (Try.field67_0 g) ⟨rfl, hW.next (Below.refl _ _) 11 (by decide)⟩⟩
  | 12, hi, ho =>
    have e : wo12 q = o := Option.some.inj ho
    have q1 := v 11 47 (wo11 q) rfl rfl (he ⟨11, .data⟩ (by rw [← e]; simp [wo12]) rfl)
    have q2 : a.eval (.tmp 45) = .agg (wordsA 8 (mixF s p)) := v 9 45 (wo9 q) rfl rfl (he ⟨9, .data⟩ (by rw [← e]; simp [wo12]) rfl)
    have l4 := he ⟨4, .phase⟩ (by rw [← e]; simp [wo12]) rfl
    have l8 := he ⟨8, .phase⟩ (by rw [← e]; simp [wo12]) rfl
    have hb := hW.a (getD_ft hi)
    refine ⟨by rw [← e]; rfl, wp_store_part 54 (.tmp 47) (.tmp 45) (by rw [← e]; rfl) g 0 (wordsA 8 (mixF s p)) q1 q2 58 (digA s p m) hb (Try.size54W _) (by rw [wordsA_size, digA_size]; omega) (wordsA_one _ _) ?_⟩
    rw [digA_words]
    have h12 : (l.setIfInBounds 12 true).getD 12 false = true := by
      obtain ⟨h1, _⟩ := getD_lt hi
      simp [Array.getD, h1]
    exact ⟨rfl, { gr := grownBy_trans hW.gr (grownBy_setRow _ _ _), a := fun e => (by rw [h12] at e; cases e), b := fun _ => Blk.setRow hb _, c := fun _ => ⟨getD_set_true l4, getD_set_true l8⟩ }⟩
  | n + 13, hi, ho => simp [woA] at ho

theorem putsTo_wo (q : String) (g : Nat) (s p : Nat → Int) (a0 : Act) : putsTo (woA q) (woV g s p) a0 13 =
    ((((((((((((a0.put (some 36) (ptr g)).put (some 37) (ptr g)).put (some 38) (ptr g)).put (some 39) (ptr g)).put (some 40) (.agg (wordsA 8 s))).put (some 41) (ptr g)).put (some 42) (ptr g)).put (some 43) (.pointer (some ⟨g, 8, none⟩))).put (some 44) (.agg (bytesA 64 p))).put (some 45) (.agg (wordsA 8 (mixF s p)))).put (some 46) (ptr g)).put (some 47) (ptr g)) := by kernel_rfl

/-- The statement that calls mix, in whatever order. -/
theorem wo_region (q : String) (g : Nat) (w0 : World) (s p : Nat → Int) (m : Int) (a0 : Act) (hsz : a0.tmps.size = 48) (h0 : a0.eval (.tmp 0) = ptr g) (hb : Blk w0 g 58 (digA s p m)) (Q : Exit → Act → World → Prop)
    (hQ : ∀ wc, w0.grownBy wc (some g) → Blk wc g 58 (digA (mixF s p) p m) → Q .normal (putsTo (woA q) (woV g s p) a0 13) wc) :
    (Code.region 6 (woA q) true).wp Try.prog Q a0 w0 := by
  refine wp_region_vals (by kernel_rfl) (woV g s p) (WoW g w0 s p m) (by rw [hsz]; kernel_rfl) (by kernel_rfl) (wo_step q g w0 s p m a0 h0 Q) ?_ ?_
  · intro l wc hW hall
    exact hQ wc hW.gr (hW.b (hall 12 (by simp [woA])))
  · exact ⟨⟨rfl, rfl, rfl, Nat.le_refl _, fun _ _ _ => rfl⟩, fun _ => hb.drew, fun h => by simp [Array.getD] at h, fun h => by simp [Array.getD] at h⟩
end Go.Proofs.Ytfheinghkigocab
namespace Go.Proofs.Ytfheinghkigocab
open Go.RowKit

structure Dg where
  s : Nat → Int
  r : Nat → Int
  n : Nat
def absorb (d : Dg) (x : Int) : Dg := ⟨if d.n % 64 = 63 then mixF d.s (upd d.r (d.n % 64) x) else d.s, upd d.r (d.n % 64) x, d.n + 1⟩
def absorbN (d : Dg) (x : Nat → Int) : Nat → Dg
  | 0 => d
  | i + 1 => absorb (absorbN d x i) (x i)
theorem absorbN_n (d : Dg) (x : Nat → Int) (i : Nat) : (absorbN d x i).n = d.n + i := by
  induction i with
  | zero => rfl
  | succ i ih => simp only [absorbN, absorb, ih]; omega
theorem absorbN_add (d : Dg) (x : Nat → Int) (i k : Nat) : absorbN d x (i + k) = absorbN (absorbN d x i) (fun j => x (i + j)) k := by
  induction k with
  | zero => rfl
  | succ k ih => rw [← Nat.add_assoc]; simp only [absorbN, ih]
theorem putN_succ (r : Nat → Int) (u k : Nat) (y : Nat → Int) : upd (putN r u k y) (u + k) (y k) = putN r u (k + 1) y := by
  funext j
  simp only [upd, putN]
  by_cases h1 : j = u + k
  · subst h1; simp
  · by_cases h2 : u ≤ j ∧ j < u + k
    · rw [if_neg h1, if_pos h2, if_pos (by omega)]
    · rw [if_neg h1, if_neg h2, if_neg (by omega)]
theorem putN_zero (r : Nat → Int) (u : Nat) (y : Nat → Int) : putN r u 0 y = r := by
  funext j; simp only [putN]; rw [if_neg (by omega)]
theorem absorb_chunk (d : Dg) (y : Nat → Int) (k : Nat) (h : d.n % 64 + k ≤ 64) :
    absorbN d y k = ⟨if d.n % 64 + k = 64 then mixF d.s (putN d.r (d.n % 64) k y) else d.s, putN d.r (d.n % 64) k y, d.n + k⟩ := by
  induction k with
  | zero => simp only [absorbN, putN_zero]; rw [if_neg (by omega)]; rfl
  | succ k ih =>
    simp only [absorbN]
    rw [ih (by omega), if_neg (by omega)]
    have e : (d.n + k) % 64 = d.n % 64 + k := by omega
    simp only [absorb, e, putN_succ]
    by_cases h63 : d.n % 64 + k = 63
    · rw [if_pos h63, if_pos (by omega)]; rfl
    · rw [if_neg h63, if_neg (by omega)]; rfl

theorem Try.elem65 : Try.prog.elem 56 = 5 := by kernel_rfl
theorem Try.alen65 : Try.prog.arrayLen 56 = 64 := by kernel_rfl
theorem slice65 (w : World) (g u : Nat) (h : u < 64) : (Instr.sliceAt 56 (.pointer (some ⟨g, 8, none⟩)) (some (.int .i64 (u : Int))) none none).run Try.prog w = .ok (.slice (some ⟨g, 8 + u, none⟩) (64 - u) (64 - u)) w := by
  rw [run_sliceAt_array_l (P := Try.prog) (w := w) (t := 56) (a := ⟨g, 8, none⟩) (by rw [Try.elem65, Try.alen65]; exact Try.underlying56) .i64 (u : Int) (by omega) (by rw [Try.alen65]; omega), Try.elem65, Try.alen65, Try.sizeOf5]
  have : ¬ 64 = u := by omega
  simp [slicedAt, Result.andThen, Addr.add_mid, this]

theorem lit8 (c : Nat → Int) : (#[.int .u32 (c 0), .int .u32 (c 1), .int .u32 (c 2), .int .u32 (c 3), .int .u32 (c 4), .int .u32 (c 5), .int .u32 (c 6), .int .u32 (c 7)] : Array Value) = wordsA 8 c := by kernel_rfl

theorem grownBy_drewN (w : World) (n : Nat) (o : Option Nat) : w.grownBy (w.drewN n) o := ⟨rfl, rfl, rfl, Nat.le_refl _, fun _ _ _ => rfl⟩
theorem grownBy_cell {w w' : World} {g h j : Nat} {v : Value} (hg : w.grownBy w' (some g)) (hne : h ≠ g) (hc : w.cell? ⟨h, j, none⟩ = some v) : w'.cell? ⟨h, j, none⟩ = some v := by
  have hlt : h < w.heap.size := by
    apply Nat.lt_of_not_le; intro hle
    simp [World.cell?, Array.getElem?_eq_none hle] at hc
  rw [World.cell?_of_block (w := w) (hg.block h hlt (by simpa using hne))]; exact hc

set_option maxRecDepth 8000 in
set_option maxHeartbeats 1000000 in
theorem write_any (g : Nat) (d : Dg) (x : Nat → Int) (len cap h off : Nat) (w : World) (hg : Blk w g 58 (digA d.s d.r d.n)) (hgh : h ≠ g)
    (hx : ∀ i, i < len → w.cell? ⟨h, off + i, none⟩ = some (.int .u8 (x i))) (hlen : (d.n : Int) + len ≤ 1152921504606846976) (hcap : len ≤ cap) :
    Calls Try.prog 17 #[ptr g, .slice (some ⟨h, off, none⟩) len cap] w fun e w' => e = .returned (.tuple #[]) ∧ Blk w' g 58 (digA (absorbN d x len).s (absorbN d x len).r (absorbN d x len).n) ∧ w.grownBy w' (some g) := by
  have HX : Keep (∀ i, i < len → w.cell? ⟨h, off + i, none⟩ = some (.int .u8 (x i))) := ⟨hx⟩
  clear hx
  go_enter Try.func17, Try.ntmps17
  go_wp2
  go_loopw [1] (fun b wr => ∃ i o c : Nat, i ≤ len ∧ b = .slice (some ⟨h, o, none⟩) (len - i) c ∧ len - i ≤ c ∧ Hid (i < len → o = off + i) ∧ Blk wr g 58 (digA (absorbN d x i).s (absorbN d x i).r (absorbN d x i).n) ∧ w.grownBy wr (some g)) (fun b _ => match b with | .slice _ l _ => l | _ => 0)
  case atStart => exact ⟨0, off, cap, by omega, rfl, by omega, fun _ => rfl, hg, grownBy_refl _ _⟩
  case round =>
    obtain ⟨i, o, c, hi, rfl, hc, HO, hD, hgr⟩ := hrel
    clear hg
    have hni := absorbN_n d x i
    obtain ⟨D, hDD⟩ : ∃ D, Keep (D = absorbN d x i) := ⟨_, ⟨rfl⟩⟩
    rw [← hDD.out] at hD hni
    obtain ⟨s, r, n⟩ := D
    dsimp only at hD hni
    by_cases hlt : i < len
    · have c72 : wr.cell? ⟨g, 72, none⟩ = some (.int .i64 n) := by rw [hD.cell, digA_n]
      have hn0 : (n : Int) + (len - i : Nat) ≤ 1152921504606846976 := by omega
      clear hni
      obtain rfl := HO.out hlt
      obtain ⟨u, hu0⟩ : ∃ u, u = n % 64 := ⟨_, rfl⟩
      have hu : (n : Int) % 64 = (u : Int) := by omega
      have hu64 : u < 64 := by omega
      have hu64' : (u : Int) < 64 := by omega
      have HU : Keep (u = n % 64) := ⟨hu0⟩
      clear hu0
      have hsl := slice65 wr g u hu64
      obtain ⟨k, hk0⟩ : ∃ k, k = Nat.min (len - i) (64 - u) := ⟨_, rfl⟩
      have hk1 : k ≤ len - i := by rw [hk0]; exact Nat.min_le_left _ _
      have hk2' : k ≤ 64 - u := by rw [hk0]; exact Nat.min_le_right _ _
      have hk2 : u + k ≤ 64 := by omega
      clear hk2'
      have hk3 : 0 < k := by rw [hk0]; exact Nat.lt_min.2 ⟨by omega, by omega⟩
      have HK : Keep (k = Nat.min (len - i) (64 - u)) := ⟨hk0⟩
      clear hk0
      have HS : Keep (∀ j v, ((List.range k).map fun j => Value.int .u8 (x (i + j)))[j]? = some v → wr.cell? ((⟨h, off + i, none⟩ : Addr).add j) = some v) := by
        refine ⟨?_⟩
        intro j v hv
        have hj : j < k := by have := (List.getElem?_eq_some_iff.1 hv).1; simpa using this
        rw [List.getElem?_map, List.getElem?_range hj] at hv
        rw [Addr.add_mid, Nat.add_assoc]
        refine grownBy_cell hgr hgh ?_
        rw [HX.out _ (by omega)]
        simpa using hv
      have HL : Keep (((List.range k).map fun j => Value.int .u8 (x (i + j))).length = Nat.min (len - i) (64 - u)) := by
        refine ⟨?_⟩; rw [← HK.out]; simp
      have HF : Keep (8 + u + ((List.range k).map fun j => Value.int .u8 (x (i + j))).length ≤ (digA s r n).size) := by
        refine ⟨?_⟩; rw [digA_size]; simp; omega
      have H1 : Keep (∀ v ∈ ((List.range k).map fun j => Value.int .u8 (x (i + j))), v.oneCell' = true) := by
        refine ⟨?_⟩; intro v hv; simp at hv; obtain ⟨_, _, rfl⟩ := hv; rfl
      obtain ⟨w1, hw1⟩ : ∃ w1, Keep (w1 = wr.setRow g ((digA s r n).toList.take (8 + u) ++ (((List.range k).map fun j => Value.int .u8 (x (i + j))) ++ (digA s r n).toList.drop (8 + u + ((List.range k).map fun j => Value.int .u8 (x (i + j))).length))).toArray) := ⟨_, ⟨rfl⟩⟩
      have hD1 : Blk w1 g 58 (digA s (putN r u k (fun j => x (i + j))) n) := by
        have := hD.setRow (digA s (putN r u k (fun j => x (i + j))) n)
        rw [← digA_splice s r n u k (fun j => x (i + j)) hk2] at this ⊢
        rw [hw1.out, List.length_map, List.length_range]; exact this
      have hgr1 : w.grownBy w1 (some g) := by rw [hw1.out]; exact grownBy_trans hgr (grownBy_setRow _ _ _)
      have c72' : w1.cell? ⟨g, 72, none⟩ = some (.int .i64 n) := by rw [hD1.cell, digA_n]
      have f72' : w1.frozen? ⟨g, 72, none⟩ = false := hD1.frozen 72
      go_wp2_with (refine wpList_copy_own rfl (.tmp 18) (.tmp 19) 28 28 rfl 5 Try.underlying28 Try.size5 g (8 + u) (64 - u) (64 - u) ⟨h, off + i, none⟩ (len - i) c rfl rfl (digA s r n) 58 hD ((List.range k).map fun j => Value.int .u8 (x (i + j))) HL.out HS.out HF.out H1.out ?_; rw [← hw1.out, List.length_map, List.length_range]; refine Hid.out ?_)
      clear c72 hsl hD
      refine hid_in ?_
      have hch : Keep (absorbN d x (i + k) = ⟨if u + k = 64 then mixF s (putN r u k fun j => x (i + j)) else s, putN r u k fun j => x (i + j), n + k⟩) := by
        refine ⟨?_⟩
        rw [absorbN_add, ← hDD.out]
        have := absorb_chunk ⟨s, r, n⟩ (fun j => x (i + j)) k (by rw [← HU.out]; exact hk2)
        rw [← HU.out] at this
        exact this
      have hcc : Keep ((if c = k then some (⟨h, off + i, none⟩ : Addr) else some ⟨h, off + i + k, none⟩) = some ⟨h, if c = k then off + i else off + i + k, none⟩) := ⟨by split <;> rfl⟩
      have hoo : Keep (i + k < len → (if c = k then off + i else off + i + k) = off + (i + k)) := ⟨fun hl => by rw [if_neg (by omega)]; omega⟩
      clear HX HS HL HF H1 hw1 HO
      by_cases huk : u + k = 64
      · have hukb : ((u : Int) + (k : Int) == 64) = true := by simp; omega
        by_cases hck : c = k
        · have hck' := hck.symm
          subst hck'
          go_wp2
          have hD2 := hD1.set 72 (.int .i64 ((n : Int) + k))
          rw [digA_setn] at hD2
          have hgr2 := grownBy_trans hgr1 (grownBy_setCell w1 g 72 (.int .i64 ((n : Int) + k)))
          generalize w1.setCell ⟨g, 72, none⟩ (.int .i64 ((n : Int) + k)) = w2 at *
          clear hD1 hgr1 c72' f72' hgr
          refine wo_region _ g w2 s _ ((n : Int) + k) _ (by simp) rfl hD2 _ ?_
          intro wc hgr3 hD3
          rw [putsTo_wo]
          simp only [Act.put, List.setIfInBounds_toArray, List.set_cons_succ, List.set_cons_zero]
          go_wp2
          have hx3 : Blk wc g 58 (digA (absorbN d x (i + k)).s (absorbN d x (i + k)).r (absorbN d x (i + k)).n) := by
            rw [hch.out, if_pos huk]
            simpa using hD3
          refine ⟨⟨i + k, off + i, 0, by omega, by rw [show len - (i + k) = 0 by omega], by omega, fun hl => absurd hl (by omega), hx3, grownBy_trans hgr2 hgr3⟩, by dsimp only; omega⟩
        · go_wp2
          have hD2 := hD1.set 72 (.int .i64 ((n : Int) + k))
          rw [digA_setn] at hD2
          have hgr2 := grownBy_trans hgr1 (grownBy_setCell w1 g 72 (.int .i64 ((n : Int) + k)))
          generalize w1.setCell ⟨g, 72, none⟩ (.int .i64 ((n : Int) + k)) = w2 at *
          clear hD1 hgr1 c72' f72' hgr
          refine wo_region _ g w2 s _ ((n : Int) + k) _ (by simp) rfl hD2 _ ?_
          intro wc hgr3 hD3
          rw [putsTo_wo]
          simp only [Act.put, List.setIfInBounds_toArray, List.set_cons_succ, List.set_cons_zero]
          go_wp2
          have hx3 : Blk wc g 58 (digA (absorbN d x (i + k)).s (absorbN d x (i + k)).r (absorbN d x (i + k)).n) := by
            rw [hch.out, if_pos huk]
            simpa using hD3
          refine ⟨⟨i + k, off + i + k, c - k, by omega, by rw [Nat.sub_sub], by omega, fun _ => Nat.add_assoc _ _ _, hx3, grownBy_trans hgr2 hgr3⟩, by dsimp only; omega⟩
      · have hukb : ((u : Int) + (k : Int) == 64) = false := by simp; omega
        go_wp2
        refine ⟨⟨i + k, _, c - k, by omega, by rw [hcc.out, Nat.sub_sub], by omega, hoo.out, ?_, grownBy_trans hgr1 (grownBy_setCell _ _ _ _)⟩, by dsimp only; omega⟩
        have h2 := hD1.set 72 (.int .i64 ((n : Int) + k))
        rw [digA_setn] at h2
        rw [hch.out, if_neg huk]
        simpa using h2
    · obtain rfl : i = len := by omega
      rw [Nat.sub_self]
      have hfin : Blk wr g 58 (digA (absorbN d x i).s (absorbN d x i).r (absorbN d x i).n) := by rw [← hDD.out]; exact hD
      go_wp2
      go_end0
      exact ⟨rfl, hfin, hgr⟩
end Go.Proofs.Ytfheinghkigocab
namespace Go.Proofs.Ytfheinghkigocab
open Go.RowKit

/-- How many zeros stand behind the first byte of the end. -/
def zerosF (n : Nat) : Nat := (119 - n % 64) % 64
/-- What comes behind a row of n bytes. -/
def endL (n : Nat) (j : Nat) : List Value := (Value.int .u8 128 :: List.replicate (zerosF n) (.int .u8 0)) ++ (List.range j).map fun t => .int .u8 (8 * (n : Int) / 2 ^ (56 - 8 * t) % 256)

theorem run_make28 (l c : Nat) (hlc : l ≤ c) (hc : c ≤ 1000) (w : World) : (Instr.makeSlice 28 (.int .i64 (l : Int)) (.int .i64 (c : Int))).run Try.prog w = .ok (.slice (some ⟨w.heap.size, 0, none⟩) l c) (w.alloc (.cells (bytesA c fun _ => 0) 5)) := by
  obtain ⟨i, hi, hzz⟩ := Option.map_eq_some_iff.1 Try.info5
  simp only [Prod.mk.injEq] at hzz
  obtain ⟨hz, hs, hb⟩ := hzz
  have hr := run_make (P := Try.prog) w 28 5 i (.int .u8 0) Try.underlying28 hi hz .i64 .i64 (l : Int) (c : Int) (by omega) (by omega) (by rw [hb]; omega) (by omega)
  simp only [Int.toNat_natCast, hs, Nat.mul_one, Value.cells] at hr
  rw [made_bytes] at hr
  exact hr

set_option maxRecDepth 8000 in
set_option maxHeartbeats 1000000 in
theorem end_any (n : Nat) (w : World) (hn : (n : Int) ≤ 1152921504606846976) :
    Calls Try.prog 21 #[.int .i64 (n : Int)] w fun e w' => ∃ g, e = .returned (.slice (some ⟨g, 0, none⟩) (zerosF n + 9) (zerosF n + 9)) ∧ w.heap.size ≤ g ∧
      (∀ i v, (endL n 8)[i]? = some v → w'.cell? ⟨g, i, none⟩ = some v) ∧ Below w.heap.size w w' := by
  have hz : (119 - (n : Int) % 64) % 64 = (zerosF n : Int) := by unfold zerosF; omega
  have hzl : zerosF n < 64 := by unfold zerosF; omega
  obtain ⟨z, hzz⟩ : ∃ z, Keep (z = zerosF n) := ⟨_, ⟨rfl⟩⟩
  rw [← hzz.out] at hz hzl ⊢
  have hmk : ∀ w : World, (Instr.makeSlice 28 (.int .i64 (1 + (z : Int))) (.int .i64 (1 + (z : Int) + 8))).run Try.prog w = .ok (.slice (some ⟨w.heap.size, 0, none⟩) (z + 1) (z + 9)) (w.alloc (.cells (bytesA (z + 9) fun _ => 0) 5)) := by
    intro w
    have := run_make28 (z + 1) (z + 9) (by omega) (by omega) w
    rwa [show ((z + 1 : Nat) : Int) = 1 + (z : Int) by omega, show ((z + 9 : Nat) : Int) = 1 + (z : Int) + 8 by omega] at this
  have w1 : IntKind.u64.wrap (n : Int) = n := by rw [IntKind.wrap_u64]; omega
  have w2 : IntKind.u64.wrap (8 * (n : Int)) = 8 * n := by rw [IntKind.wrap_u64]; omega
  have hK := Blk.new w 5 (bytesA (z + 9) fun _ => 0)
  have c0 : (w.alloc (.cells (bytesA (z + 9) fun _ => 0) 5)).cell? ⟨w.heap.size, 0, none⟩ = some (.int .u8 0) := by rw [hK.cell, bytesA_get _ _ _ (by omega)]
  have f0 : (w.alloc (.cells (bytesA (z + 9) fun _ => 0) 5)).frozen? ⟨w.heap.size, 0, none⟩ = false := hK.frozen 0
  go_enter Try.func21, Try.ntmps21
  go_wp2
  have hown : (w.alloc (.cells ((bytesA (z + 9) fun _ => 0).setIfInBounds 0 (.int .u8 128)) 5)).ownsRow w.heap.size 5 1 (.slice (some ⟨w.heap.size, 0, none⟩) (z + 1) (z + 9)) (z + 1) (endL n 0) := by
    have hl : (endL n 0).length = z + 1 := by simp [endL, ← hzz.out]
    refine ⟨by rw [hl]; omega, .inr ⟨w.heap.size, z + 9, _, rfl, Nat.le_refl _, heap_alloc_new _ _, by omega, by unfold maxLen; omega, by simp [bytesA_size], ?_⟩⟩
    rw [bytesA_set]
    apply List.ext_getElem?
    intro i
    rw [List.getElem?_take, Array.getElem?_toList]
    by_cases h : i < (z + 1) * 1
    · rw [if_pos h, bytesA_get _ _ _ (by omega)]
      simp only [endL, List.range_zero, List.map_nil, List.append_nil, ← hzz.out, upd]
      cases i with
      | zero => rfl
      | succ i => rw [if_neg (by omega), List.getElem?_cons_succ, List.getElem?_replicate, if_pos (by omega)]
    · rw [if_neg h, List.getElem?_eq_none (by rw [hl]; omega)]
  have hB : Below w.heap.size w (w.alloc (.cells ((bytesA (z + 9) fun _ => 0).setIfInBounds 0 (.int .u8 128)) 5)) := below_new _ _
  clear c0 f0 hK
  generalize w.alloc (.cells ((bytesA (z + 9) fun _ => 0).setIfInBounds 0 (.int .u8 128)) 5) = w0 at *
  simp only [hz]
  go_loopw [4, 6] (fun b sh wr => ∃ j : Nat, j ≤ 8 ∧ sh = .int .i64 (56 - 8 * (j : Int)) ∧ b = .slice (some ⟨w.heap.size, 0, none⟩) (z + 1 + j) (z + 9) ∧ wr.ownsRow w.heap.size 5 1 (.slice (some ⟨w.heap.size, 0, none⟩) (z + 1 + j) (z + 9)) (z + 1 + j) (endL n j) ∧ Below w.heap.size w wr) (fun _ sh _ => (intOf sh + 8).toNat)
  case atStart => exact ⟨0, by omega, by simp, rfl, hown, hB⟩
  case round =>
    clear hown hB
    obtain ⟨j, hj, rfl, rfl, hown, hB⟩ := hrel
    by_cases hlt : j < 8
    · have hs0 : 0 ≤ 56 - 8 * (j : Int) := by omega
      have hs1 : 56 - 8 * (j : Int) ≤ 64 := by omega
      obtain ⟨i5, hi5, hzz5⟩ := Option.map_eq_some_iff.1 Try.info5
      simp only [Prod.mk.injEq] at hzz5
      have hone : Keep (∀ u ∈ [Value.int .u8 (8 * (n : Int) / 2 ^ (56 - 8 * j) % 256)], u.oneCell' = true) := ⟨by intro u hu; simp at hu; subst hu; rfl⟩
      have hownA : Keep ((wr.alloc (.cells #[Value.int .u8 (8 * (n : Int) / 2 ^ (56 - 8 * j) % 256)] 5)).ownsRow w.heap.size 5 1 (.slice (some ⟨w.heap.size, 0, none⟩) (z + 1 + j) (z + 9)) (z + 1 + j) (endL n j)) := ⟨by
        obtain ⟨h1, h2⟩ := hown
        refine ⟨h1, ?_⟩
        rcases h2 with h2 | ⟨g, cap, cur, e, hg, hh, r⟩
        · exact .inl h2
        · exact .inr ⟨g, cap, cur, e, hg, by rw [Below.heap_alloc _ _ _ (Array.getElem?_eq_some_iff.1 hh).1]; exact hh, r⟩⟩
      have hKi : Keep (Try.prog.info? 5 = some i5) := ⟨hi5⟩
      have hKs : Keep (i5.size = 1) := ⟨hzz5.2.1⟩
      clear hi5 hzz5
      go_wp2_with (at_builtin; refine wpList_append_fits _ rfl (.tmp 26) (.tmp 31) 28 rfl w.heap.size 5 i5 1 Try.underlying28 hKi.out hKs.out w.heap.size (z + 1 + j) (z + 9) (endL n j) rfl hownA.out ⟨wr.heap.size, 0, none⟩ 1 1 [Value.int .u8 (8 * (n : Int) / 2 ^ (56 - 8 * j) % 256)] rfl rfl (cell_one_new _ _ _) hone.out (by omega) ?_; intro w' hown' hgr')
      have hlz : w.heap.size ≤ wr.heap.size := hB.size
      have hB' : Below w.heap.size w w' := (hB.alloc hlz (.cells #[Value.int .u8 (8 * (n : Int) / 2 ^ (56 - 8 * j) % 256)] 5)).grown hgr' (by simp; omega) (fun k e => by injection e with e; omega)
      have hL : endL n j ++ [Value.int .u8 (8 * (n : Int) / 2 ^ (56 - 8 * j) % 256)] = endL n (j + 1) := by simp only [endL, List.range_succ, List.map_append, List.map_cons, List.map_nil, List.append_assoc]
      rw [hL] at hown'
      go_roundw
      case rel =>
        exact ⟨j + 1, by omega, by congr 1; omega, rfl, hown', hB'⟩
      case measure => simp [intOf]; omega
    · obtain rfl : j = 8 := by omega
      go_wp2
      go_ret
      refine ⟨w.heap.size, rfl, Nat.le_refl _, fun i v hv => ?_, hB⟩
      have hi : i < (endL n 8).length := (List.getElem?_eq_some_iff.1 hv).1
      rw [hown.cellAt i (by rw [← hown.1]; exact hi)]
      exact hv
end Go.Proofs.Ytfheinghkigocab
namespace Go.Proofs.Ytfheinghkigocab
open Go.RowKit

/-- The words as bytes, the highest byte of each first: the first t words laid. -/
def layUp (s : Nat → Int) : Nat → (Nat → Int)
  | 0 => fun _ => 0
  | t + 1 => upd (upd (upd (upd (layUp s t) (4 * t) (s t / 16777216 % 256)) (4 * t + 1) (s t / 65536 % 256)) (4 * t + 2) (s t / 256 % 256)) (4 * t + 3) (s t % 256)

theorem index60_0 (s : Nat → Int) (w : World) : (Instr.index 54 (.agg (wordsA 8 s)) (.int .i64 0)).run Try.prog w = .ok (.int .u32 (s 0)) w := by kernel_rfl
theorem index60_1 (s : Nat → Int) (w : World) : (Instr.index 54 (.agg (wordsA 8 s)) (.int .i64 1)).run Try.prog w = .ok (.int .u32 (s 1)) w := by kernel_rfl
theorem index60_2 (s : Nat → Int) (w : World) : (Instr.index 54 (.agg (wordsA 8 s)) (.int .i64 2)).run Try.prog w = .ok (.int .u32 (s 2)) w := by kernel_rfl
theorem index60_3 (s : Nat → Int) (w : World) : (Instr.index 54 (.agg (wordsA 8 s)) (.int .i64 3)).run Try.prog w = .ok (.int .u32 (s 3)) w := by kernel_rfl
theorem index60_4 (s : Nat → Int) (w : World) : (Instr.index 54 (.agg (wordsA 8 s)) (.int .i64 4)).run Try.prog w = .ok (.int .u32 (s 4)) w := by kernel_rfl
theorem index60_5 (s : Nat → Int) (w : World) : (Instr.index 54 (.agg (wordsA 8 s)) (.int .i64 5)).run Try.prog w = .ok (.int .u32 (s 5)) w := by kernel_rfl
theorem index60_6 (s : Nat → Int) (w : World) : (Instr.index 54 (.agg (wordsA 8 s)) (.int .i64 6)).run Try.prog w = .ok (.int .u32 (s 6)) w := by kernel_rfl
theorem index60_7 (s : Nat → Int) (w : World) : (Instr.index 54 (.agg (wordsA 8 s)) (.int .i64 7)).run Try.prog w = .ok (.int .u32 (s 7)) w := by kernel_rfl
theorem index60 (s : Nat → Int) (t : Nat) (ht : t < 8) (w : World) : (Instr.index 54 (.agg (wordsA 8 s)) (.int .i64 (t : Int))).run Try.prog w = .ok (.int .u32 (s t)) w := by
  match t, ht with
  | 0, _ => exact index60_0 s w
  | 1, _ => exact index60_1 s w
  | 2, _ => exact index60_2 s w
  | 3, _ => exact index60_3 s w
  | 4, _ => exact index60_4 s w
  | 5, _ => exact index60_5 s w
  | 6, _ => exact index60_6 s w
  | 7, _ => exact index60_7 s w
  | n + 8, h => omega

set_option maxRecDepth 8000 in
set_option maxHeartbeats 1000000 in
theorem lay_any (s : Nat → Int) (w : World) :
    Calls Try.prog 22 #[.agg (wordsA 8 s)] w fun e w' => e = .returned (.agg (bytesA 32 (layUp s 8))) ∧ Below w.heap.size w w' := by
  go_enter Try.func22, Try.ntmps22
  go_wp2_with (first | (refine wpList_boxA rfl 54 (.tmp 0) rfl (wordsA 8 s) rfl ?_; refine wpList_new rfl 25 rfl _ Try.new25 ?_) | (refine wpList_new rfl 25 rfl _ Try.new25 ?_) | (refine wpList_load_row rfl 54 (.tmp 1) rfl w.heap.size rfl 54 (wordsA 8 s) (0, 0) (.array 8 53) (((Blk.new w 54 (wordsA 8 s)).alloc _).alloc _) Try.underlying54 rfl (Try.size54W _) ?_))
  have hR := (Blk.new (w.alloc (.cells (wordsA 8 s) 54)) 25 (bytesA 32 fun _ => 0)).alloc (.cells (bytesA 32 fun _ => 0) 25)
  have hH := Blk.new ((w.alloc (.cells (wordsA 8 s) 54)).alloc (.cells (bytesA 32 fun _ => 0) 25)) 25 (bytesA 32 fun _ => 0)
  have hB : Below w.heap.size w (((w.alloc (.cells (wordsA 8 s) 54)).alloc (.cells (bytesA 32 fun _ => 0) 25)).alloc (.cells (bytesA 32 fun _ => 0) 25)) :=
    (((Below.refl _ _).alloc (Nat.le_refl _) _).alloc (by simp) _).alloc (by simp; omega) _
  simp only [World.size_alloc] at hR hH
  generalize (((w.alloc (.cells (wordsA 8 s) 54)).alloc (.cells (bytesA 32 fun _ => 0) 25)).alloc (.cells (bytesA 32 fun _ => 0) 25)) = w0 at *
  go_loopw [7] (fun i wr => ∃ t : Nat, t ≤ 8 ∧ i = .int .i64 t ∧ Blk wr (w.heap.size + 1) 25 (bytesA 32 fun _ => 0) ∧ Blk wr (w.heap.size + 1 + 1) 25 (bytesA 32 (layUp s t)) ∧ Below w.heap.size w wr) (fun i _ => 8 - (intOf i).toNat)
  case atStart => exact ⟨0, by omega, rfl, hR, hH, hB⟩
  case round =>
    clear hR hH hB
    obtain ⟨t, ht, rfl, hR, hH, hB⟩ := hrel
    by_cases hlt : t < 8
    · have hix := index60 s t hlt
      have hlt' : (t : Int) < 8 := by omega
      have c0 : wr.cell? ⟨w.heap.size + 1 + 1, 4 * t, none⟩ = some (.int .u8 (layUp s t (4 * t))) := by rw [hH.cell, bytesA_get _ _ _ (by omega)]
      have f0 : wr.frozen? ⟨w.heap.size + 1 + 1, 4 * t, none⟩ = false := hH.frozen _
      have c1 : wr.cell? ⟨w.heap.size + 1 + 1, 4 * t + 1, none⟩ = some (.int .u8 (layUp s t (4 * t + 1))) := by rw [hH.cell, bytesA_get _ _ _ (by omega)]
      have f1 : wr.frozen? ⟨w.heap.size + 1 + 1, 4 * t + 1, none⟩ = false := hH.frozen _
      have c2 : wr.cell? ⟨w.heap.size + 1 + 1, 4 * t + 2, none⟩ = some (.int .u8 (layUp s t (4 * t + 2))) := by rw [hH.cell, bytesA_get _ _ _ (by omega)]
      have f2 : wr.frozen? ⟨w.heap.size + 1 + 1, 4 * t + 2, none⟩ = false := hH.frozen _
      have c3 : wr.cell? ⟨w.heap.size + 1 + 1, 4 * t + 3, none⟩ = some (.int .u8 (layUp s t (4 * t + 3))) := by rw [hH.cell, bytesA_get _ _ _ (by omega)]
      have f3 : wr.frozen? ⟨w.heap.size + 1 + 1, 4 * t + 3, none⟩ = false := hH.frozen _
      go_wp2
      go_roundw
      case rel =>
        have ne : w.heap.size + 1 ≠ w.heap.size + 1 + 1 := by omega
        have le : w.heap.size ≤ w.heap.size + 1 + 1 := by omega
        have h := (((hH.set (4 * t) (.int .u8 (s t / 16777216 % 256))).set (4 * t + 1) (.int .u8 (s t / 65536 % 256))).set (4 * t + 2) (.int .u8 (s t / 256 % 256))).set (4 * t + 3) (.int .u8 (s t % 256))
        rw [bytesA_set, bytesA_set, bytesA_set, bytesA_set] at h
        exact ⟨t + 1, by omega, by go_num, (((hR.set_ne ne _).set_ne ne _).set_ne ne _).set_ne ne _, h, (((hB.setCell le _).setCell le _).setCell le _).setCell le _⟩
      case measure => simp [intOf]; omega
    · obtain rfl : t = 8 := by omega
      clear hlt ht
      obtain ⟨c, hc⟩ : ∃ c, Keep (c = layUp s 8) := ⟨_, ⟨rfl⟩⟩
      rw [← hc.out] at hH
      go_wp2_with (refine wpList_load_row rfl 25 (.tmp 3) rfl (w.heap.size + 1 + 1) rfl 25 (bytesA 32 c) (0, 0) (.array 32 5) hH Try.underlying25 rfl (Try.size25B _) ?_; refine wpList_store_row rfl 25 (.tmp 2) (.tmp 38) rfl (w.heap.size + 1) (bytesA 32 c) rfl rfl 25 (bytesA 32 fun _ => 0) hR (Try.size25B _) (bytesA_sizes _ _ _) (bytesA_one _ _) ?_)
      exact bodyPost_ret (v := .agg (bytesA 32 c)) (results_cell_row Try.results22 _ _ (w.heap.size + 1) 25 _ (0, 0) _ rfl (hR.setRow _) Try.underlying25 rfl (Try.size25B _)) rfl ⟨by rw [hc.out], below_setRow hB (by omega) _⟩
end Go.Proofs.Ytfheinghkigocab
namespace Go.Proofs.Ytfheinghkigocab
open Go.RowKit

/-- The bytes behind a row of n bytes. -/
def endX (n i : Nat) : Int := if i = 0 then 128 else if i ≤ zerosF n then 0 else 8 * (n : Int) / 2 ^ (56 - 8 * (i - zerosF n - 1)) % 256
theorem endL_get (n i : Nat) (h : i < zerosF n + 9) : (endL n 8)[i]? = some (.int .u8 (endX n i)) := by
  unfold endL endX
  rw [List.getElem?_append, List.length_cons, List.length_replicate]
  by_cases h1 : i < zerosF n + 1
  · rw [if_pos h1]
    cases i with
    | zero => rfl
    | succ i => rw [List.getElem?_cons_succ, List.getElem?_replicate, if_pos (by omega), if_neg (by omega), if_pos (by omega)]
  · rw [if_neg h1, if_neg (by omega), if_neg (by omega), List.getElem?_map, List.getElem?_range (by omega)]
    simp only [Option.map_some]
    rw [show i - (zerosF n + 1) = i - zerosF n - 1 by omega]

/-- A Digest that is begun. -/
def dg0 : Dg := ⟨beginF, fun _ => 0, 0⟩
/-- What Sum tells. -/
def sumF (d : Dg) : Nat → Int := layUp (absorbN d (endX d.n) (zerosF d.n + 9)).s 8

theorem Try.new58 (w : World) : (Instr.alloc 58 true (.tuple #[])).run Try.prog w = .ok (.pointer (some ⟨w.heap.size, 0, none⟩)) (w.alloc (.cells (digA (fun _ => 0) (fun _ => 0) 0) 58)) := by kernel_rfl
theorem digA_sizes (s r s' r' : Nat → Int) (n n' : Int) : (digA s r n).size = (digA s' r' n').size := by rw [digA_size, digA_size]

set_option maxRecDepth 8000 in
set_option maxHeartbeats 1000000 in
theorem sum_any (g : Nat) (d : Dg) (w : World) (hg : Blk w g 58 (digA d.s d.r d.n)) (hn : (d.n : Int) ≤ 576460752303423488) :
    Calls Try.prog 18 #[ptr g] w fun e w' => e = .returned (.agg (bytesA 32 (sumF d))) ∧ Below w.heap.size w w' := by
  have hlt := hg.lt
  obtain ⟨s, r, n⟩ := d
  dsimp only at hg hn
  have hg1 := (hg.alloc (.cells (bytesA 32 fun _ => 0) 25))
  have hc1 := Blk.new (w.alloc (.cells (bytesA 32 fun _ => 0) 25)) 58 (digA (fun _ => 0) (fun _ => 0) 0)
  have HG : Keep (Blk (w.alloc (.cells (bytesA 32 fun _ => 0) 25)) g 58 (digA s r n)) := ⟨hg1⟩
  have HC : Keep (Blk ((w.alloc (.cells (bytesA 32 fun _ => 0) 25)).alloc (.cells (digA (fun _ => 0) (fun _ => 0) 0) 58)) (w.heap.size + 1) 58 (digA (fun _ => 0) (fun _ => 0) 0)) := ⟨by simpa using hc1⟩
  have hg2 := (hg1.alloc (.cells (digA (fun _ => 0) (fun _ => 0) 0) 58)).setRow_ne (b' := w.heap.size + 1) (by omega) (digA s r n)
  have hc2 := HC.out.setRow (digA s r n)
  have hr2 := ((Blk.new w 25 (bytesA 32 fun _ => 0)).alloc (.cells (digA (fun _ => 0) (fun _ => 0) 0) 58)).setRow_ne (b' := w.heap.size + 1) (by omega) (digA s r n)
  have hB2 : Below w.heap.size w (((w.alloc (.cells (bytesA 32 fun _ => 0) 25)).alloc (.cells (digA (fun _ => 0) (fun _ => 0) 0) 58)).setRow (w.heap.size + 1) (digA s r n)) :=
    below_setRow (((Below.refl _ _).alloc (Nat.le_refl _) _).alloc (by simp) _) (by omega) _
  clear hg hg1 hc1
  obtain ⟨w2, hw2⟩ : ∃ w2, Keep (w2 = ((w.alloc (.cells (bytesA 32 fun _ => 0) 25)).alloc (.cells (digA (fun _ => 0) (fun _ => 0) 0) 58)).setRow (w.heap.size + 1) (digA s r n)) := ⟨_, ⟨rfl⟩⟩
  rw [← hw2.out] at hg2 hc2 hr2 hB2
  have c72 : w2.cell? ⟨g, 72, none⟩ = some (.int .i64 n) := by rw [hg2.cell, digA_n]
  go_enter Try.func18, Try.ntmps18
  go_wp2_with (first | (refine wpList_new rfl 25 rfl _ Try.new25 ?_) | (refine wpList_load_row rfl 58 (.tmp 5) rfl g rfl 58 (digA s r n) (0, 0) _ HG.out Try.underlying58 rfl (Try.size58D _ _ _) ?_; refine wpList_new rfl 58 rfl _ Try.new58 ?_; refine wpList_store_row rfl 58 (.tmp 3) (.tmp 6) rfl (w.heap.size + 1) (digA s r n) (by simp [Act.put, Act.eval]) rfl 58 (digA (fun _ => 0) (fun _ => 0) 0) HC.out (Try.size58D _ _ _) (digA_sizes _ _ _ _ _ _) (digA_one _ _ _) ?_; rw [← hw2.out]))
  refine (end_any n _ (by omega)).mono ?_
  rintro e w3 ⟨h, rfl, hle, hcells, hB3⟩
  have hsz2 := hB2.size
  have hc3 := hc2.below hB3 hc2.lt
  have hr3 := hr2.below hB3 hr2.lt
  have hltc := hc2.lt
  have hz9 : zerosF n + 9 ≤ 72 := by unfold zerosF; omega
  have HX : Keep (∀ i, i < zerosF n + 9 → w3.cell? ⟨h, 0 + i, none⟩ = some (.int .u8 (endX n i))) := ⟨fun i hi => by rw [Nat.zero_add]; exact hcells i _ (endL_get n i hi)⟩
  clear hcells c72
  have HB3 : Keep (Below w.heap.size w w3) := ⟨hB2.trans (hB3.mono hsz2)⟩
  go_wp2_with fail
  refine (write_any (w.heap.size + 1) ⟨s, r, n⟩ (endX n) (zerosF n + 9) (zerosF n + 9) h 0 w3 hc3 (by omega) HX.out (by dsimp only; omega) (Nat.le_refl _)).mono ?_
  rintro e w4 ⟨rfl, hc4, hgr4⟩
  have hr4 : Blk w4 w.heap.size 25 (bytesA 32 fun _ => 0) := by
    unfold Blk; rw [hgr4.block _ hr3.lt (by simp)]; exact hr3
  have hB4 : Below w.heap.size w w4 := HB3.out.grown hgr4 (by have := HB3.out.size; omega) (fun k e => by injection e with e; omega)
  obtain ⟨D, hD⟩ : ∃ D, Keep (D = absorbN ⟨s, r, n⟩ (endX n) (zerosF n + 9)) := ⟨_, ⟨rfl⟩⟩
  rw [← hD.out] at hc4
  obtain ⟨s', r', n'⟩ := D
  dsimp only at hc4
  have hrng := dig_range0 hc4
  go_wp2_with (refine wpList_load_mid rfl 54 (.tmp 13) rfl (w.heap.size + 1) 0 rfl (wordsA 8 s').toList (.array 8 53) hrng Try.underlying54 rfl (by rw [Array.length_toList]; exact Try.size54W s') ?_; rw [Array.toArray_toList])
  refine (lay_any s' _).mono ?_
  rintro e w5 ⟨rfl, hB5⟩
  have hr5 := hr4.below hB5 hr4.lt
  have hB5' := hB4.trans (hB5.mono hB4.size)
  obtain ⟨c, hc⟩ : ∃ c, Keep (c = layUp s' 8) := ⟨_, ⟨rfl⟩⟩
  rw [← hc.out]
  go_wp2_with (refine wpList_store_row rfl 25 (.tmp 2) (.tmp 15) rfl w.heap.size (bytesA 32 c) rfl rfl 25 (bytesA 32 fun _ => 0) hr5 (Try.size25B _) (bytesA_sizes _ _ _) (bytesA_one _ _) ?_)
  exact bodyPost_ret (v := .agg (bytesA 32 c)) (results_cell_row Try.results18 _ _ w.heap.size 25 _ (0, 0) _ rfl (hr5.setRow _) Try.underlying25 rfl (Try.size25B _)) rfl ⟨by rw [hc.out]; unfold sumF; rw [← hD.out], below_setRow hB5' (Nat.le_refl _) _⟩
end Go.Proofs.Ytfheinghkigocab
namespace Go.Proofs.Ytfheinghkigocab
open Go.RowKit

def absorbL (d : Dg) (l : List Int) : Dg := l.foldl absorb d
theorem absorbL_append (d : Dg) (l m : List Int) : absorbL d (l ++ m) = absorbL (absorbL d l) m := by simp [absorbL]
theorem absorbN_L (d : Dg) (l : List Int) (k : Nat) (hk : k ≤ l.length) : absorbN d (fun i => l.getD i 0) k = absorbL d (l.take k) := by
  induction k with
  | zero => rfl
  | succ k ih =>
    rw [List.take_succ_eq_append_getElem (by omega), absorbL_append, ← ih (by omega)]
    simp [absorbN, absorbL, List.getD, show k < l.length by omega]
theorem absorbN_all (d : Dg) (l : List Int) : absorbN d (fun i => l.getD i 0) l.length = absorbL d l := by
  rw [absorbN_L d l l.length (Nat.le_refl _), List.take_length]
theorem absorbL_n (d : Dg) (l : List Int) : (absorbL d l).n = d.n + l.length := by rw [← absorbN_all, absorbN_n]

set_option maxRecDepth 8000 in
set_option maxHeartbeats 400000 in
theorem write_none (g : Nat) (a : Option Addr) (c : Nat) (w : World) :
    Calls Try.prog 17 #[ptr g, .slice a 0 c] w fun e w' => e = .returned (.tuple #[]) ∧ w' = w := by
  go_enter Try.func17, Try.ntmps17
  go_wp2
  refine wp_loop_rounds 1 ?_; rw [rounds_succ]
  go_wp2
  go_end0
  exact ⟨rfl, rfl⟩

/-- A row into a Digest that was made since w0. -/
theorem write_row (g : Nat) (d : Dg) (v : Value) (l : List Int) (w0 w : World) (hb : Below w0.heap.size w0 w) (hg0 : w0.heap.size ≤ g) (hrow : RowAt w0 v l) (hg : Blk w g 58 (digA d.s d.r d.n))
    (hlen : (d.n : Int) + l.length ≤ 1152921504606846976) :
    Calls Try.prog 17 #[ptr g, v] w fun e w' => e = .returned (.tuple #[]) ∧ Blk w' g 58 (digA (absorbL d l).s (absorbL d l).r (absorbL d l).n) ∧ Below w0.heap.size w0 w' := by
  rcases hrow with ⟨rfl, rfl⟩ | ⟨a, c, rfl, rfl⟩ | ⟨h, off, cap, rfl, hcap, hx⟩
  · refine (write_none g none 0 w).mono ?_
    rintro e w' ⟨rfl, rfl⟩
    exact ⟨rfl, hg, hb⟩
  · refine (write_none g (some a) c w).mono ?_
    rintro e w' ⟨rfl, rfl⟩
    exact ⟨rfl, hg, hb⟩
  · by_cases h0 : l.length = 0
    · obtain rfl := List.eq_nil_of_length_eq_zero h0
      refine (write_none g (some ⟨h, off, none⟩) cap w).mono ?_
      rintro e w' ⟨rfl, rfl⟩
      exact ⟨rfl, hg, hb⟩
    · have hlt := cell_lt (hx 0 (by omega))
      refine (write_any g d (fun i => l.getD i 0) l.length cap h off w hg (by omega) (fun i hi => by rw [hb.cell (p := ⟨h, off + i, none⟩) hlt]; exact hx i hi) hlen hcap).mono ?_
      rintro e w' ⟨rfl, h1, h2⟩
      rw [absorbN_all] at h1
      exact ⟨rfl, h1, hb.grown h2 (by have := hb.size; omega) (fun k e => by injection e with e; omega)⟩

/-- The SHA-256 of bytes, as the program makes it. -/
def shaP (l : List Int) : Nat → Int := sumF (absorbL dg0 l)

def concat (rows : Nat → List Int) : Nat → List Int
  | 0 => []
  | i + 1 => concat rows i ++ rows i

theorem concat_le (rows : Nat → List Int) (i m : Nat) (hi : i ≤ m) : (concat rows i).length ≤ (concat rows m).length := by
  obtain ⟨k, rfl⟩ : ∃ k, m = i + k := ⟨m - i, by omega⟩
  clear hi
  induction k with
  | zero => exact Nat.le_refl _
  | succ k ih => rw [← Nat.add_assoc]; simp only [concat, List.length_append]; exact Nat.le_trans ih (Nat.le_add_right _ _)

set_option maxRecDepth 8000 in
set_option maxHeartbeats 1000000 in
theorem ofAll_any (q o m cap : Nat) (V : Nat → Value) (rows : Nat → List Int) (w : World) (hV : ∀ i, i < m → w.cell? ⟨q, o + i, none⟩ = some (V i)) (hrow : ∀ i, i < m → RowAt w (V i) (rows i))
    (hm : (m : Int) ≤ 9223372036854775807) (hlen : ((concat rows m).length : Int) ≤ 576460752303423488) :
    Calls Try.prog 15 #[.slice (some ⟨q, o, none⟩) m cap] w fun e w' => e = .returned (.agg (bytesA 32 (shaP (concat rows m)))) ∧ Below w.heap.size w w' := by
  have hbA := below_new w (.cells (bytesA 32 fun _ => 0) 25)
  have HV : Keep (∀ i, i < m → (w.alloc (.cells (bytesA 32 fun _ => 0) 25)).cell? ⟨q, o + i, none⟩ = some (V i)) := ⟨fun i hi => by rw [hbA.cell (p := ⟨q, o + i, none⟩) (cell_lt (hV i hi))]; exact hV i hi⟩
  have HR : Keep (∀ i, i < m → RowAt (w.alloc (.cells (bytesA 32 fun _ => 0) 25)) (V i) (rows i)) := ⟨fun i hi => (hrow i hi).below hbA⟩
  clear hV hrow
  go_enter Try.func15, Try.ntmps15
  go_wp2_with (first | (refine wpList_new rfl 25 rfl _ Try.new25 ?_))
  refine (new_any _).mono ?_
  rintro e w1 ⟨rfl, rfl⟩
  simp only [World.size_alloc]
  go_wp2_with fail
  have hG := Blk.new ((w.alloc (.cells (bytesA 32 fun _ => 0) 25)).alloc (.cells (wordsA 8 beginF) 54)) 58 (digA beginF (fun _ => 0) 0)
  have hR := Blk.new w 25 (bytesA 32 fun _ => 0)
  have hsA : (w.alloc (.cells (bytesA 32 fun _ => 0) 25)).heap.size = w.heap.size + 1 := by simp
  have hB : Below (w.heap.size + 1) (w.alloc (.cells (bytesA 32 fun _ => 0) 25)) (((w.alloc (.cells (bytesA 32 fun _ => 0) 25)).alloc (.cells (wordsA 8 beginF) 54)).alloc (.cells (digA beginF (fun _ => 0) 0) 58)) :=
    ((Below.refl _ _).alloc (by simp) _).alloc (by simp) _
  simp only [World.size_alloc] at hG
  generalize (((w.alloc (.cells (bytesA 32 fun _ => 0) 25)).alloc (.cells (wordsA 8 beginF) 54)).alloc (.cells (digA beginF (fun _ => 0) 0) 58)) = w0 at *
  generalize w.alloc (.cells (bytesA 32 fun _ => 0) 25) = wA at *
  have HL : Keep (∀ i, i ≤ m → (concat rows i).length ≤ (concat rows m).length) := ⟨fun i hi => concat_le rows i m hi⟩
  have HA : Keep (wA.heap.size = w.heap.size + 1) := ⟨hsA⟩
  clear hsA
  go_loopw [9] (fun i wr => ∃ t : Nat, t ≤ m ∧ i = .int .i64 t ∧ Blk wr (w.heap.size + 1 + 1) 58 (digA (absorbL dg0 (concat rows t)).s (absorbL dg0 (concat rows t)).r (absorbL dg0 (concat rows t)).n) ∧ Below (w.heap.size + 1) wA wr) (fun i _ => m - (intOf i).toNat)
  case atStart => exact ⟨0, by omega, rfl, hG, hB⟩
  case round =>
    clear hG hB
    obtain ⟨t, ht, rfl, hGr, hBr⟩ := hrel
    by_cases hlt : t < m
    · have hlt' : (t : Int) < (m : Int) := by omega
      have hcell := HV.out t hlt
      have hc : wr.cell? ⟨q, o + t, none⟩ = some (V t) := by rw [hBr.cell (p := ⟨q, o + t, none⟩) (by rw [← HA.out]; exact cell_lt hcell)]; exact hcell
      clear hcell
      have hLt := HL.out (t + 1) hlt
      simp only [concat, List.length_append] at hLt
      have HRow : Keep (RowAt wA (V t) (rows t)) := ⟨HR.out t hlt⟩
      go_wp2_with fail
      refine (write_row (w.heap.size + 1 + 1) (absorbL dg0 (concat rows t)) (V t) (rows t) wA wr (by rw [HA.out]; exact hBr) (by rw [HA.out]; omega) HRow.out hGr (by rw [absorbL_n]; show ((0 + (concat rows t).length : Nat) : Int) + _ ≤ _; omega)).mono ?_
      rintro e w' ⟨rfl, hG', hB'⟩
      rw [HA.out] at hB'
      rw [← absorbL_append] at hG'
      go_wp2
      go_roundw
      case rel => exact ⟨t + 1, by omega, by go_num, hG', hB'⟩
      case measure => simp [intOf]; omega
    · obtain rfl : t = m := by omega
      go_wp2_with fail
      refine (sum_any (w.heap.size + 1 + 1) (absorbL dg0 (concat rows t)) wr hGr (by rw [absorbL_n]; show ((0 + (concat rows t).length : Nat) : Int) ≤ _; omega)).mono ?_
      rintro e w5 ⟨rfl, hB5⟩
      have hr5 : Blk w5 w.heap.size 25 (bytesA 32 fun _ => 0) := (hR.below hBr (by omega)).below hB5 (by have := hGr.lt; omega)
      have hB5' : Below w.heap.size w w5 := hbA.trans ((hBr.mono (by omega)).trans (hB5.mono (by have := hGr.lt; omega)))
      obtain ⟨c, hc⟩ : ∃ c, Keep (c = sumF (absorbL dg0 (concat rows t))) := ⟨_, ⟨rfl⟩⟩
      rw [← hc.out]
      go_wp2_with (refine wpList_store_row rfl 25 (.tmp 2) (.tmp 18) rfl w.heap.size (bytesA 32 c) rfl rfl 25 (bytesA 32 fun _ => 0) hr5 (Try.size25B _) (bytesA_sizes _ _ _) (bytesA_one _ _) ?_)
      exact bodyPost_ret (v := .agg (bytesA 32 c)) (results_cell_row Try.results15 _ _ w.heap.size 25 _ (0, 0) _ rfl (hr5.setRow _) Try.underlying25 rfl (Try.size25B _)) rfl ⟨by rw [hc.out]; rfl, below_setRow hB5' (Nat.le_refl _) _⟩

end Go.Proofs.Ytfheinghkigocab
namespace Go.Proofs.Ytfheinghkigocab
open Go.RowKit

theorem bits_or_comm (k : IntKind) (a b : Int) : bits .or k a b = bits .or k b a := by
  simp only [bits, BitVec.or_comm]
theorem rot_swap (x n : Int) : bits .or .u32 (x / 2 ^ n.toNat) (x * 2 ^ (32 - n).toNat % 4294967296) = rot x n := by
  rw [bits_or_comm]; rfl

theorem nextW_flat (c : Nat → Int) (t : Nat) : nextW c t = (c (t - 16) + sig0 (c (t - 15)) + c (t - 7) + sig1 (c (t - 2))) % 4294967296 := by
  unfold nextW
  generalize sig0 (c (t - 15)) = x
  generalize sig1 (c (t - 2)) = y
  omega

end Go.Proofs.Ytfheinghkigocab
namespace Go.Proofs.Ytfheinghkigocab
open Go.RowKit

/-- The slice v holds the rows that V tells, as bytes. -/
structure RowsAt (w : World) (v : Value) (m : Nat) (V : Nat → Value) (rows : Nat → List Int) : Prop where
  form : (∃ a c, v = .slice a 0 c ∧ m = 0) ∨ ∃ q o cap, v = .slice (some ⟨q, o, none⟩) m cap ∧ ∀ i, i < m → w.cell? ⟨q, o + i, none⟩ = some (V i)
  row : ∀ i, i < m → RowAt w (V i) (rows i)
theorem RowsAt.below {w w' : World} {v : Value} {m : Nat} {V : Nat → Value} {rows : Nat → List Int} (h : RowsAt w v m V rows) (hb : Below w.heap.size w w') : RowsAt w' v m V rows where
  form := by
    rcases h.form with h1 | ⟨q, o, cap, h1, h2⟩
    · exact .inl h1
    · exact .inr ⟨q, o, cap, h1, fun i hi => by rw [hb.cell (p := ⟨q, o + i, none⟩) (cell_lt (h2 i hi))]; exact h2 i hi⟩
  row i hi := (h.row i hi).below hb

theorem rows_form {w : World} {v : Value} {m : Nat} {V : Nat → Value} {rows : Nat → List Int} (h : RowsAt w v m V rows) : ∃ a c, v = .slice a m c := by
  rcases h.form with ⟨a, c, rfl, rfl⟩ | ⟨q, o, cap, rfl, _⟩
  · exact ⟨_, _, rfl⟩
  · exact ⟨_, _, rfl⟩

/-- What Beyond tells. -/
def BeyPost (n : Nat) (w : World) (e : Ending) (w' : World) : Prop := ∃ bb, e = .returned (.bool bb) ∧ (bb = false → n ≤ 2147483647) ∧ w' = w

theorem owns_row {w : World} {base : Nat} {v : Value} {n : Nat} {L : List Int} (h : w.ownsRow base 5 1 v n (bv L)) : RowAt w v L := by
  have hl : L.length = n := by have := h.1; rw [bv_len] at this; omega
  have h' := h
  obtain ⟨_, h2⟩ := h
  rcases h2 with ⟨rfl, h0⟩ | ⟨g, cap, cur, rfl, hg, hh, hc, _⟩
  · exact .inl ⟨rfl, List.eq_nil_of_length_eq_zero (by omega)⟩
  · refine .inr <| .inr ⟨g, 0, cap, by rw [hl], by omega, fun i hi => ?_⟩
    rw [Nat.zero_add, h'.cellAt i (by omega), bv_get L i hi]

end Go.Proofs.Ytfheinghkigocab
namespace Go.Proofs.Ytfheinghkigocab
open Go.RowKit

set_option maxRecDepth 8000 in
set_option maxHeartbeats 1000000 in
theorem ofAll_none (pa : Option Addr) (pc : Nat) (w : World) :
    Calls Try.prog 15 #[.slice pa 0 pc] w fun e w' => e = .returned (.agg (bytesA 32 (shaP []))) ∧ Below w.heap.size w w' := by
  have hbA := below_new w (.cells (bytesA 32 fun _ => 0) 25)
  go_enter Try.func15, Try.ntmps15
  go_wp2_with (first | (refine wpList_new rfl 25 rfl _ Try.new25 ?_))
  refine (new_any _).mono ?_
  rintro e w1 ⟨rfl, rfl⟩
  simp only [World.size_alloc]
  have hG := Blk.new ((w.alloc (.cells (bytesA 32 fun _ => 0) 25)).alloc (.cells (wordsA 8 beginF) 54)) 58 (digA beginF (fun _ => 0) 0)
  have hR := ((Blk.new w 25 (bytesA 32 fun _ => 0)).alloc (.cells (wordsA 8 beginF) 54)).alloc (.cells (digA beginF (fun _ => 0) 0) 58)
  have hB : Below w.heap.size w (((w.alloc (.cells (bytesA 32 fun _ => 0) 25)).alloc (.cells (wordsA 8 beginF) 54)).alloc (.cells (digA beginF (fun _ => 0) 0) 58)) :=
    (((Below.refl _ _).alloc (Nat.le_refl _) _).alloc (by simp) _).alloc (by simp; omega) _
  simp only [World.size_alloc] at hG
  generalize (((w.alloc (.cells (bytesA 32 fun _ => 0) 25)).alloc (.cells (wordsA 8 beginF) 54)).alloc (.cells (digA beginF (fun _ => 0) 0) 58)) = w0 at *
  go_wp2_with fail
  refine wp_loop_rounds 1 ?_; rw [rounds_succ]
  go_wp2_with fail
  refine (sum_any (w.heap.size + 1 + 1) dg0 w0 hG (by decide)).mono ?_
  rintro e w5 ⟨rfl, hB5⟩
  have hr5 := hR.below hB5 hR.lt
  have hB5' := hB.trans (hB5.mono hB.size)
  obtain ⟨c, hc⟩ : ∃ c, Keep (c = sumF dg0) := ⟨_, ⟨rfl⟩⟩
  rw [← hc.out]
  go_wp2_with (refine wpList_store_row rfl 25 (.tmp 2) (.tmp 18) rfl w.heap.size (bytesA 32 c) rfl rfl 25 (bytesA 32 fun _ => 0) hr5 (Try.size25B _) (bytesA_sizes _ _ _) (bytesA_one _ _) ?_)
  exact bodyPost_ret (v := .agg (bytesA 32 c)) (results_cell_row Try.results15 _ _ w.heap.size 25 _ (0, 0) _ rfl (hr5.setRow _) Try.underlying25 rfl (Try.size25B _)) rfl ⟨by rw [hc.out]; rfl, below_setRow hB5' (Nat.le_refl _) _⟩

theorem ofAll_rows (v : Value) (m : Nat) (V : Nat → Value) (rows : Nat → List Int) (w : World) (hr : RowsAt w v m V rows) (hm : (m : Int) ≤ 9223372036854775807) (hlen : (concat rows m).length ≤ 140737488355000) :
    Calls Try.prog 15 #[v] w fun e w' => e = .returned (.agg (bytesA 32 (shaP (concat rows m)))) ∧ Below w.heap.size w w' := by
  rcases hr.form with ⟨a, c, rfl, rfl⟩ | ⟨q, o, cap, rfl, h2⟩
  · exact ofAll_none a c w
  · exact ofAll_any q o m cap V rows w h2 hr.row hm (by omega)

theorem run_equal_arr (c : Nat → Int) (w : World) : (Op.equalIn 10000 25 (.agg (bytesA 32 c)) (.agg (bytesA 32 c))).run Try.prog w = .ok true w := by
  obtain ⟨i, hi, _⟩ := Option.map_eq_some_iff.1 Try.size5
  rw [run_equalIn_array (P := Try.prog) w 9999 _ _ Try.underlying25 hi, Try.cells5]
  exact run_items c 9998 w _ (fun j hj => List.mem_range.1 hj)
theorem run_neq_arr (c : Nat → Int) (w : World) : (binOp .neq 25 (.agg (bytesA 32 c)) (.agg (bytesA 32 c))).run Try.prog w = .ok (.bool false) w := by
  rw [run_neq_struct, run_equal_arr]; rfl

end Go.Proofs.Ytfheinghkigocab
namespace Go.Proofs.Ytfheinghkigocab
open Go.RowKit

abbrev Hs := Vector UInt8 32

namespace Hs
def f (h : Hs) (i : Nat) : Int := ((h.toArray.getD i 0).toNat : Int)
theorem bnd (h : Hs) (i : Nat) (_ : i < 32) : 0 ≤ h.f i ∧ h.f i < 256 := by
  unfold f
  have := (h.toArray.getD i 0).toNat_lt
  omega
theorem f_get (h : Hs) (i : Nat) (hi : i < 32) : h.f i = ((h[i]'hi).toNat : Int) := by
  unfold f
  rw [Array.getD_eq_getD_getElem?, Array.getElem?_eq_getElem (by rw [h.size_toArray]; exact hi)]
  rfl
theorem ext' {a b : Hs} (h : ∀ i, i < 32 → a.f i = b.f i) : a = b := by
  apply Vector.ext
  intro i hi
  have h1 := h i hi
  rw [f_get a i hi, f_get b i hi] at h1
  exact UInt8.toNat_inj.1 (by omega)
def mk' (c : Nat → Int) (_ : ∀ i, i < 32 → 0 ≤ c i ∧ c i < 256) : Hs := Vector.ofFn fun i : Fin 32 => UInt8.ofNat (c i.val).toNat
theorem mk'_f (c : Nat → Int) (hc : ∀ i, i < 32 → 0 ≤ c i ∧ c i < 256) (i : Nat) (hi : i < 32) : (mk' c hc).f i = c i := by
  rw [f_get _ i hi]
  unfold mk'
  rw [Vector.getElem_ofFn, UInt8.toNat_ofNat']
  have := hc i hi
  show (((c i).toNat % 2 ^ 8 : Nat) : Int) = c i
  omega
theorem default_f (i : Nat) (hi : i < 32) : (default : Hs).f i = 0 := by
  rw [f_get _ i hi]
  have : (default : Hs)[i]'hi = 0 := by
    have : ∀ k : Fin 32, (default : Hs)[k.val]'k.isLt = 0 := by decide +kernel
    exact this ⟨i, hi⟩
  rw [this]; rfl
end Hs
theorem run_items2 (c e : Nat → Int) (d : Nat) (w : World) : ∀ is : List Nat, (∀ i ∈ is, i < 32) → (Op.eqItems (d + 1) 5 1 (bytesA 32 c) (bytesA 32 e) is).run Try.prog w = .ok (is.all fun i => c i == e i) w
  | [], _ => by simp [Op.eqItems]
  | i :: is, h => by
    have hi := h i (by simp)
    have ih := run_items2 c e d w is (fun j hj => h j (by simp [hj]))
    simp only [Op.eqItems, Sem.run_bind, Nat.mul_one, run_part5 c i hi, run_part5 e i hi, Result.andThen_ok]
    rw [run_equalIn_int (P := Try.prog) (w := w) d 5 .u8 .u8 (c i) (e i) Try.underlying5]
    by_cases hh : c i = e i
    · simp [Result.andThen_ok, ih, hh]
    · simp [Result.andThen_ok, hh]
theorem run_equal_arr2 (c e : Nat → Int) (w : World) : (Op.equalIn 10000 25 (.agg (bytesA 32 c)) (.agg (bytesA 32 e))).run Try.prog w = .ok ((List.range 32).all fun i => c i == e i) w := by
  obtain ⟨i, hi, _⟩ := Option.map_eq_some_iff.1 Try.size5
  rw [run_equalIn_array (P := Try.prog) w 9999 _ _ Try.underlying25 hi, Try.cells5]
  exact run_items2 c e 9998 w _ (fun j hj => List.mem_range.1 hj)
theorem all_eq_iff (x y : Hs) : ((List.range 32).all fun i => x.f i == y.f i) = decide (x = y) := by
  by_cases h : x = y
  · subst h; simp
  · rw [decide_eq_false h, Bool.eq_false_iff]
    intro h2
    refine h (Hs.ext' fun i hi => ?_)
    have := List.all_eq_true.1 h2 i (List.mem_range.2 hi)
    simpa using this
theorem run_eqlH (x y : Hs) (w : World) : (binOp .eql 25 (.agg (bytesA 32 x.f)) (.agg (bytesA 32 y.f))).run Try.prog w = .ok (.bool (decide (x = y))) w := by
  rw [run_eql_struct, run_equal_arr2, all_eq_iff]; rfl
theorem run_neqH (x y : Hs) (w : World) : (binOp .neq 25 (.agg (bytesA 32 x.f)) (.agg (bytesA 32 y.f))).run Try.prog w = .ok (.bool (!decide (x = y))) w := by
  rw [run_neq_struct, run_equal_arr2, all_eq_iff]; rfl

/-- A hash's cells. -/
def encH (h : Hs) : List Value := (bytesA 32 h.f).toList
theorem encH_len (h : Hs) : (encH h).length = 32 := by rw [encH, Array.length_toList, bytesA_size]
theorem encH_get (h : Hs) (j : Nat) (hj : j < 32) : (encH h)[j]? = some (.int .u8 (h.f j)) := by rw [encH, Array.getElem?_toList, bytesA_get _ _ _ hj]
theorem encH_one (h : Hs) (v : Value) (hv : v ∈ encH h) : v.oneCell' = true := by
  have := Array.all_eq_true'.1 (bytesA_one 32 h.f) v (by unfold encH at hv; exact Array.mem_toList_iff.1 hv)
  simpa using this
theorem encH_arr (h : Hs) : (encH h).toArray = bytesA 32 h.f := by rw [encH, Array.toArray_toList]
/-- The cells of hashes, one behind the other. -/
def flatH (L : List Hs) : List Value := L.flatMap encH
theorem flatH_nil : flatH [] = [] := rfl
theorem flatH_cons (x : Hs) (L : List Hs) : flatH (x :: L) = encH x ++ flatH L := rfl
theorem flatH_app (L M : List Hs) : flatH (L ++ M) = flatH L ++ flatH M := by simp [flatH]
theorem flatH_len : ∀ L : List Hs, (flatH L).length = L.length * 32
  | [] => rfl
  | x :: L => by rw [flatH_cons, List.length_append, encH_len, flatH_len L, List.length_cons]; omega
theorem flatH_get : ∀ (L : List Hs) (i : Nat) (hi : i < L.length) (j : Nat), j < 32 → (flatH L)[i * 32 + j]? = (encH L[i])[j]?
  | x :: L, 0, _, j, hj => by rw [flatH_cons, List.getElem?_append_left (by rw [encH_len]; omega)]; simp
  | x :: L, i + 1, hi, j, hj => by
    rw [flatH_cons, List.getElem?_append_right (by rw [encH_len]; omega), encH_len, show (i + 1) * 32 + j - 32 = i * 32 + j by omega]
    simpa using flatH_get L i (by simpa using hi) j hj
theorem flatH_one (L : List Hs) (v : Value) (hv : v ∈ flatH L) : v.oneCell' = true := by
  obtain ⟨x, _, hx⟩ := List.mem_flatMap.1 hv
  exact encH_one x v hx

/-- A slice of hashes: what it holds. -/
def HRow (w : World) (v : Value) (L : List Hs) : Prop :=
  (∃ a c, v = .slice a 0 c ∧ L = [] ∧ (a = none → c = 0)) ∨ ∃ b off cap, v = .slice (some ⟨b, off, none⟩) L.length cap ∧ L.length ≤ cap ∧ w.rangeAt b off (flatH L)
theorem rangeAt_elem {w : World} {b off : Nat} {L : List Hs} (h : w.rangeAt b off (flatH L)) (i : Nat) (hi : i < L.length) : w.rangeAt b (off + i * 32) (encH L[i]) := by
  intro j v hv
  have hj : j < 32 := by
    have := (List.getElem?_eq_some_iff.1 hv).1
    rwa [encH_len] at this
  rw [Nat.add_assoc]
  exact h _ v (by rw [flatH_get L i hi j hj]; exact hv)
theorem HRow.form {w : World} {v : Value} {L : List Hs} (h : HRow w v L) : ∃ a c, v = .slice a L.length c := by
  rcases h with ⟨a, c, rfl, rfl, _⟩ | ⟨b, off, cap, rfl, _⟩
  · exact ⟨a, c, rfl⟩
  · exact ⟨_, cap, rfl⟩
theorem HRow.at {w : World} {a : Option Addr} {n c : Nat} {L : List Hs} (h : HRow w (.slice a n c) L) (hL : 0 < L.length) : ∃ b off, a = some ⟨b, off, none⟩ ∧ n = L.length ∧ L.length ≤ c ∧ w.rangeAt b off (flatH L) := by
  rcases h with ⟨_, _, _, rfl, _⟩ | ⟨b, off, cap, h1, h2, h3⟩
  · simp at hL
  · injection h1 with h1 h4 h5
    subst h1 h4 h5
    exact ⟨b, off, rfl, rfl, h2, h3⟩
theorem rangeAt_lt {w : World} {b off : Nat} {L : List Hs} (h : w.rangeAt b off (flatH L)) (hL : 0 < L.length) : b < w.heap.size := by
  have := h 0 (.int .u8 (L[0].f 0)) ((flatH_get L 0 hL 0 (by omega)).trans (encH_get _ _ (by omega)))
  exact cell_lt this
theorem rangeAt_below {w w' : World} {B b off : Nat} {cs : List Value} (h : w.rangeAt b off cs) (hb : Below B w w') (hlt : b < B) : w'.rangeAt b off cs := fun j v hv => by
  rw [hb.cell (p := ⟨b, off + j, none⟩) hlt]; exact h j v hv
theorem HRow.below {w w' : World} {v : Value} {L : List Hs} (h : HRow w v L) (hb : Below w.heap.size w w') : HRow w' v L := by
  rcases h with h | ⟨b, off, cap, h1, h2, h3⟩
  · exact .inl h
  · by_cases hL : 0 < L.length
    · exact .inr ⟨b, off, cap, h1, h2, rangeAt_below h3 hb (rangeAt_lt h3 hL)⟩
    · have : L = [] := List.eq_nil_of_length_eq_zero (by omega)
      subst this
      exact .inl ⟨_, _, h1, rfl, fun h => by cases h⟩
theorem HRow.of_owns {w : World} {base n : Nat} {v : Value} {L : List Hs} (h : w.ownsRow base 25 32 v n (flatH L)) : HRow w v L := by
  have hn : n = L.length := by have := h.1; rw [flatH_len] at this; omega
  subst hn
  rcases h.2 with ⟨rfl, h0⟩ | ⟨g, cap, cur, rfl, _, hg, hc, _, _, ht⟩
  · exact .inl ⟨none, 0, rfl, List.eq_nil_of_length_eq_zero h0, fun _ => rfl⟩
  · refine .inr ⟨g, 0, cap, rfl, hc, fun j v hv => ?_⟩
    rw [Nat.zero_add, cell_of_row w g j cur 25 (0, 0) hg]
    rw [← ht, List.getElem?_take] at hv
    split at hv
    · rwa [Array.getElem?_toList] at hv
    · cases hv
theorem Try.size25L (h : Hs) : (Try.prog.info? 25).map (·.size) = some (encH h).length := by rw [encH_len]; exact Try.size25

theorem run_neqL (x y : Hs) (w : World) : (binOp .neq 25 (.agg (encH x).toArray) (.agg (encH y).toArray)).run Try.prog w = .ok (.bool (!decide (x = y))) w := by
  rw [encH_arr, encH_arr]; exact run_neqH x y w
theorem run_eqlL (x y : Hs) (w : World) : (binOp .eql 25 (.agg (encH x).toArray) (.agg (encH y).toArray)).run Try.prog w = .ok (.bool (decide (x = y))) w := by
  rw [encH_arr, encH_arr]; exact run_eqlH x y w
theorem rangeAt_drewN {w : World} {b o n : Nat} {cs : List Value} (h : w.rangeAt b o cs) : (w.drewN n).rangeAt b o cs := h
theorem rangeAt_drew {w : World} {b o : Nat} {cs : List Value} (h : w.rangeAt b o cs) : w.drew.rangeAt b o cs := h

theorem Try.info25 : (Try.prog.info? 25).map (fun i => (i.zero, i.size, i.bytes)) = some (some (.agg (bytesA 32 fun _ => 0)), 32, 32) := by kernel_rfl
theorem Try.bs0 (w : World) : (Instr.buildSlice 23 0 #[]).run Try.prog w = .ok (.slice (some ⟨w.heap.size, 0, none⟩) 0 0) (w.alloc (.cells #[] 25)) := by kernel_rfl
theorem Try.bs1 (c : Nat → Int) (w : World) : (Instr.buildSlice 23 1 #[(0, .agg (bytesA 32 c))]).run Try.prog w = .ok (.slice (some ⟨w.heap.size, 0, none⟩) 1 1) (w.alloc (.cells (bytesA 32 c) 25)) := by kernel_rfl

/-- A literal of hashes. -/
theorem wpList_bs {P : Program} {ops : Array Oper} {rest : List Oper} {o : Oper} {a : Act} {w : World} {Q : Exit → Act → World → Prop} (hg : o.guard = none) (t : TypeId) (n : Nat) (parts : Array (Nat × Operand)) (ho : o.op = .buildSlice t n parts)
    (vs : Array (Nat × Value)) (hv : (parts.map fun (i, x) => (i, a.eval x)) = vs) (v : Value) (w' : World) (hrun : (Instr.buildSlice t n vs).run P w = .ok v w')
    (h : wpList P ops Q rest (a.put o.dst v) w') : wpList P ops Q (o :: rest) a w := by
  refine wpList_plain hg fun K hK => ?_
  unfold Oper.wp execOp
  simp only [ho, hv, Sem.run_bind, hrun, Result.andThen_ok]
  exact hK _ _ h

theorem ownsH_nil (w : World) (base : Nat) : w.ownsRow base 25 32 (.slice none 0 0) 0 (flatH []) := ⟨rfl, .inl ⟨rfl, rfl⟩⟩
theorem ownsH_block {w : World} {base : Nat} {v : Value} {n : Nat} {xs : List Value} (h : w.ownsRow base 25 32 v n xs) : ∀ k, v.ownBlock = some k → base ≤ k := by
  intro k hk
  obtain ⟨_, h2⟩ := h
  rcases h2 with ⟨rfl, _⟩ | ⟨g, cap, cur, rfl, hg, _⟩
  · simp [Value.ownBlock] at hk
  · simp [Value.ownBlock] at hk; omega

/-- A row of hashes behind hashes of the call's own. -/
theorem wpList_appH {ops : Array Oper} {rest : List Oper} {o : Oper} {a : Act} {w : World} {Q : Exit → Act → World → Prop} (hgd : o.guard = none) (s x : Operand)
    (ho : o.op = .call { callee := .builtin .append, args := #[s, x], argTypes := #[23, 23] }) (base : Nat) (v vx : Value) (L M : List Hs)
    (hs : a.eval s = v) (hx : a.eval x = vx) (hown : w.ownsRow base 25 32 v L.length (flatH L)) (hrow : HRow w vx M) (hb : L.length + M.length ≤ 4398046511104) (hbase : base ≤ w.heap.size)
    (h : ∀ v' w', w'.ownsRow base 25 32 v' (L ++ M).length (flatH (L ++ M)) → w.grownBy w' v.ownBlock → wpList Try.prog ops Q rest (a.put o.dst v') w') : wpList Try.prog ops Q (o :: rest) a w := by
  obtain ⟨i, hi, hzz⟩ := Option.map_eq_some_iff.1 Try.info25
  simp only [Prod.mk.injEq] at hzz
  obtain ⟨hz, hsz, hby⟩ := hzz
  have hzs : (Value.agg (bytesA 32 fun _ => 0)).cells.size = 32 := by show (bytesA 32 fun _ => 0).size = 32; exact bytesA_size _ _
  rw [flatH_app, List.length_append] at h
  rcases hrow with ⟨ad, c, rfl, rfl, hac⟩ | ⟨b, off, cap, rfl, hcap, hc⟩
  · cases ad with
    | none =>
      obtain rfl := hac rfl
      refine wpList_append_own_none hgd s x 23 ho base 25 i 32 Try.underlying23 hi v L.length _ hs hown hx (h v w ?_ (World.grownBy.refl w _))
      simpa [flatH_nil] using hown
    | some ad =>
      refine wpList_append_own w hgd s x 23 ho base 25 i _ 32 32 Try.underlying23 hi hz hsz hby hzs (by omega) v L.length _ hs hown ad 0 c [] hx rfl (fun j u hu => by simp at hu) (fun u hu => by simp at hu) (by unfold maxLen; simp at hb; omega) (by simp at hb; omega) hbase ?_
      intro v' w' h1 h2 _
      exact h v' w' h1 h2
  · refine wpList_append_own w hgd s x 23 ho base 25 i _ 32 32 Try.underlying23 hi hz hsz hby hzs (by omega) v L.length _ hs hown ⟨b, off, none⟩ M.length cap (flatH M) hx (flatH_len M)
      (fun j u hu => by rw [Addr.add_mid]; exact hc j u hu) (flatH_one M) (by unfold maxLen; omega) (by omega) hbase ?_
    intro v' w' h1 h2 _
    exact h v' w' h1 h2
theorem rangeAt_take {w : World} {b off : Nat} {L : List Hs} (h : w.rangeAt b off (flatH L)) (k : Nat) : w.rangeAt b off (flatH (L.take k)) := fun j v hv => by
  refine h j v ?_
  conv => lhs; rw [← List.take_append_drop k L, flatH_app]
  rw [List.getElem?_append_left (List.getElem?_eq_some_iff.1 hv).1]; exact hv
theorem rangeAt_drop {w : World} {b off : Nat} {L : List Hs} (h : w.rangeAt b off (flatH L)) (k : Nat) (hk : k ≤ L.length) : w.rangeAt b (off + k * 32) (flatH (L.drop k)) := fun j v hv => by
  rw [Nat.add_assoc]
  refine h (k * 32 + j) v ?_
  conv => lhs; rw [← List.take_append_drop k L, flatH_app]
  have hl : (flatH (L.take k)).length = k * 32 := by rw [flatH_len, List.length_take, Nat.min_eq_left hk]
  rw [List.getElem?_append_right (by rw [hl]; omega), hl, show k * 32 + j - k * 32 = j by omega]; exact hv

theorem ownsH_mono {w : World} {base base' n : Nat} {v : Value} {xs : List Value} (h : w.ownsRow base 25 32 v n xs) (hb : base' ≤ base) : w.ownsRow base' 25 32 v n xs := by
  refine ⟨h.1, ?_⟩
  rcases h.2 with h2 | ⟨g, cap, cur, h1, h3, h4⟩
  · exact .inl h2
  · exact .inr ⟨g, cap, cur, h1, by omega, h4⟩
theorem ownsH_below {w w' : World} {base n : Nat} {v : Value} {xs : List Value} (h : w.ownsRow base 25 32 v n xs) (hb : Below w.heap.size w w') : w'.ownsRow base 25 32 v n xs := by
  refine ⟨h.1, ?_⟩
  rcases h.2 with h2 | ⟨g, cap, cur, h1, h3, h4, h5⟩
  · exact .inl h2
  · exact .inr ⟨g, cap, cur, h1, h3, by rw [hb.block g (Array.getElem?_eq_some_iff.1 h4).1]; exact h4, h5⟩
theorem HRow.mk {w : World} {b off n c : Nat} {L : List Hs} (hn : n = L.length) (hc : n ≤ c) (h : w.rangeAt b off (flatH L)) : HRow w (.slice (some ⟨b, off, none⟩) n c) L := by
  subst hn
  exact .inr ⟨b, off, c, rfl, hc, h⟩
theorem flatH_take : ∀ (L : List Hs) (k : Nat), (flatH L).take (k * 32) = flatH (L.take k)
  | _, 0 => by simp [flatH_nil]
  | [], k + 1 => by simp [flatH_nil]
  | x :: L, k + 1 => by
    rw [flatH_cons, List.take_succ_cons, flatH_cons, ← flatH_take L k, List.take_append, encH_len, List.take_of_length_le (by rw [encH_len]; omega), show (k + 1) * 32 - 32 = k * 32 by omega]
theorem flatH_drop : ∀ (L : List Hs) (k : Nat), (flatH L).drop (k * 32) = flatH (L.drop k)
  | _, 0 => by simp
  | [], k + 1 => by simp [flatH_nil]
  | x :: L, k + 1 => by
    rw [flatH_cons, List.drop_succ_cons, ← flatH_drop L k, List.drop_append, encH_len, List.drop_of_length_le (by rw [encH_len]; omega), show (k + 1) * 32 - 32 = k * 32 by omega]
    rfl
theorem flatH_arr_size (L : List Hs) : (flatH L).toArray.size = L.length * 32 := by rw [List.size_toArray, flatH_len]
theorem zeroCellsH (n : Nat) : (Builtin.zeroCells (bytesA 32 fun _ => 0) n).toList = flatH (List.replicate n default) := by
  unfold Builtin.zeroCells
  rw [bytesA_size]
  apply List.ext_getElem?
  intro t
  by_cases ht : t < n * 32
  · have h1 := flatH_get (List.replicate n default) (t / 32) (by simp; omega) (t % 32) (by omega)
    rw [show t / 32 * 32 + t % 32 = t by omega, encH_get _ _ (by omega)] at h1
    rw [h1]
    have h2 : t % 32 < 32 := by omega
    have h3 : (bytesA 32 fun _ => 0)[t % 32]! = Value.int .u8 0 := by
      rw [getElem!_pos _ _ (by rw [bytesA_size]; exact h2)]
      have := bytesA_get 32 (fun _ => 0) (t % 32) h2
      rw [Array.getElem?_eq_getElem (by rw [bytesA_size]; exact h2)] at this
      exact Option.some.inj this
    have h4 : (default : Hs).f (t % 32) = 0 := Hs.default_f _ h2
    simp only [Array.toList_map, Array.toList_range, List.getElem?_map, List.getElem?_range ht, Option.map_some, h3, List.getElem_replicate, h4]
  · rw [List.getElem?_eq_none (by simp; omega), List.getElem?_eq_none (by rw [flatH_len]; simp; omega)]

/-- copy of hashes over a whole block. -/
theorem run_copyH (w : World) (g cap : Nat) (v : Value) (D : List Hs) (ty : TypeId) (cur : Array Value) (hg : Blk w g 25 cur) (hs : cur.size = D.length * 32) (hr : HRow w v D) :
    (Builtin.copy_ #[23, 23] ty #[.slice (some ⟨g, 0, none⟩) D.length cap, v]).run Try.prog w = .ok (goInt D.length) (w.setRow g (flatH D).toArray) := by
  have hst := run_storeCells_at Try.prog g 0 25 (flatH D) 0 cur w hg (by rw [flatH_len]; omega) (flatH_one D)
  have hcur : (cur.toList.take (0 + 0) ++ flatH D ++ cur.toList.drop (0 + 0 + (flatH D).length)).toArray = (flatH D).toArray := by
    rw [flatH_len, List.drop_of_length_le (by rw [Array.length_toList]; omega)]; simp
  rw [hcur] at hst
  obtain ⟨i, hi, hsz⟩ := Option.map_eq_some_iff.1 Try.size25
  rcases hr with ⟨a, c, rfl, rfl, hac⟩ | ⟨b, off, cap2, rfl, _, hc⟩
  · rw [flatH_nil] at hst
    rw [flatH_nil]
    cases a with
    | none => simp [Builtin.copy_, run_underlying Try.underlying23, Builtin.lenOf, Builtin.firstCells, sizeOf, typeInfo, hi, hst]
    | some ad => simp [Builtin.copy_, run_underlying Try.underlying23, Builtin.lenOf, Builtin.firstCells, sizeOf, typeInfo, hi, loadCells, loadCellsFrom, hst]
  · have hl := run_loadCells_list (P := Try.prog) w ⟨b, off, none⟩ (flatH D) (fun j v hv => by rw [Addr.add_mid]; exact hc j v hv)
    rw [flatH_len] at hl
    simp [Builtin.copy_, run_underlying Try.underlying23, Builtin.lenOf, Builtin.firstCells, sizeOf, typeInfo, hi, hsz, hl, hst]

theorem wpList_copyH {ops : Array Oper} {rest : List Oper} {o : Oper} {a : Act} {w : World} {Q : Exit → Act → World → Prop} (hgd : o.guard = none) (d s : Operand)
    (ho : o.op = .call { callee := .builtin .copy, args := #[d, s], argTypes := #[23, 23] }) (g cap : Nat) (v : Value) (D : List Hs) (cur : Array Value)
    (hd : a.eval d = .slice (some ⟨g, 0, none⟩) D.length cap) (hs : a.eval s = v) (hg : Blk w g 25 cur) (hsz : cur.size = D.length * 32) (hr : HRow w v D)
    (h : wpList Try.prog ops Q rest (a.put o.dst (goInt D.length)) (w.setRow g (flatH D).toArray)) : wpList Try.prog ops Q (o :: rest) a w := by
  refine wpList_plain hgd fun K hK => ?_
  have hrun := run_copyH w g cap v D o.type cur hg hsz hr
  unfold Oper.wp
  simp only [execOp, ho, resolve, invoke, builtin, List.map_toArray, List.map_cons, List.map_nil, hd, hs, Sem.run_bind, Sem.run_pure, hrun, Result.andThen_ok]
  exact hK _ _ h

theorem run_makeH (n : Nat) (hn : n ≤ 4398046511104) (w : World) : (Instr.makeSlice 23 (.int .i64 (n : Int)) (.int .i64 (n : Int))).run Try.prog w = .ok (.slice (some ⟨w.heap.size, 0, none⟩) n n) (w.alloc (.cells (madeCells (bytesA 32 fun _ => 0) (n * 32)) 25)) := by
  obtain ⟨i, hi, hzz⟩ := Option.map_eq_some_iff.1 Try.info25
  simp only [Prod.mk.injEq] at hzz
  obtain ⟨hz, hs, hb⟩ := hzz
  have hr := run_make (P := Try.prog) w 23 25 i _ Try.underlying23 hi hz .i64 .i64 (n : Int) (n : Int) (by omega) (by omega) (by rw [hb]; omega) (by omega)
  simp only [Int.toNat_natCast, hs, Value.cells] at hr
  exact hr
theorem wpList_makeH {ops : Array Oper} {rest : List Oper} {o : Oper} {a : Act} {w : World} {Q : Exit → Act → World → Prop} (hgd : o.guard = none) (x y : Operand) (ho : o.op = .makeSlice 23 x y) (n : Nat) (hn : n ≤ 4398046511104)
    (hx : a.eval x = .int .i64 (n : Int)) (hy : a.eval y = .int .i64 (n : Int))
    (h : wpList Try.prog ops Q rest (a.put o.dst (.slice (some ⟨w.heap.size, 0, none⟩) n n)) (w.alloc (.cells (madeCells (bytesA 32 fun _ => 0) (n * 32)) 25))) : wpList Try.prog ops Q (o :: rest) a w := by
  refine wpList_plain hgd fun K hK => ?_
  unfold Oper.wp
  simp only [execOp, ho, hx, hy, Sem.run_bind, run_makeH n hn w, Result.andThen_ok]
  exact hK _ _ h

theorem setH_flat (E : List Hs) (k : Nat) (x : Hs) (hk : k < E.length) : ((flatH E).toArray.toList.take (k * 32) ++ (encH x) ++ (flatH E).toArray.toList.drop (k * 32 + 32)).toArray = (flatH (E.set k x)).toArray := by
  show ((flatH E).take (k * 32) ++ _ ++ (flatH E).drop _).toArray = _
  rw [flatH_take, show k * 32 + 32 = (k + 1) * 32 by omega, flatH_drop]
  have : E.set k x = E.take k ++ [x] ++ E.drop (k + 1) := by
    rw [List.set_eq_take_append_cons_drop, if_pos hk]; simp
  rw [this, flatH_app, flatH_app]
  simp [flatH]
/-- A hash into its place of a block. -/
theorem wpList_storeH {ops : Array Oper} {rest : List Oper} {o : Oper} {a : Act} {w : World} {Q : Exit → Act → World → Prop} (hgd : o.guard = none) (x y : Operand) (ho : o.op = .store 25 x y)
    (g k : Nat) (hh : Hs) (E : List Hs) (hx : a.eval x = .pointer (some ⟨g, k * 32, none⟩)) (hy : a.eval y = .agg (encH hh).toArray) (hg : Blk w g 25 (flatH E).toArray) (hk : k < E.length)
    (h : wpList Try.prog ops Q rest (a.put o.dst undef) (w.setRow g (flatH (E.set k hh)).toArray)) : wpList Try.prog ops Q (o :: rest) a w := by
  have e1 : (Try.prog.info? 25).map (·.size) = some (encH hh).toArray.size := by rw [List.size_toArray, encH_len]; exact Try.size25
  have e2 : k * 32 + (encH hh).toArray.size ≤ (flatH E).toArray.size := by rw [flatH_arr_size, List.size_toArray, encH_len]; omega
  have e3 : (encH hh).toArray.all (·.oneCell') = true := all_oneCell_toArray (encH_one hh)
  have e4 : ((flatH E).toArray.toList.take (k * 32) ++ (encH hh).toArray.toList ++ (flatH E).toArray.toList.drop (k * 32 + (encH hh).toArray.size)).toArray = (flatH (E.set k hh)).toArray := by
    rw [← setH_flat E k hh hk, List.size_toArray, encH_len]
  generalize (encH hh).toArray = C at *
  generalize (flatH E).toArray = F at *
  generalize (flatH (E.set k hh)).toArray = G at *
  refine wpList_plain hgd fun K hK => ?_
  refine wp_store_part 25 x y ho g (k * 32) C hx hy 25 F hg e1 e2 e3 ?_
  rw [e4]
  exact hK _ _ h
theorem Grown.step {a b c : World} {S : Nat → Prop} {o : Option Nat} (h : Grown a b S) (hg : b.grownBy c o) (ho : ∀ k, o = some k → S k ∨ a.heap.size ≤ k) : Grown a c S :=
  ⟨hg.os.trans h.os, hg.tape.trans h.tape, hg.output.trans h.output, Nat.le_trans h.size hg.size, fun i hi hs => (hg.block i (Nat.lt_of_lt_of_le hi h.size) (fun e => by
    rcases ho i e.symm with h1 | h1
    · exact hs h1
    · omega)).trans (h.block i hi hs)⟩
theorem Grown.belowS {a b c : World} {S : Nat → Prop} (h : Grown a b S) (hb : Below b.heap.size b c) : Grown a c S := h.trans (Grown.below hb)
theorem Grown.allocS {a b : World} {S : Nat → Prop} (h : Grown a b S) (o : Obj) : Grown a (b.alloc o) S := h.belowS (below_new b o)
theorem rangeAt_grown {w w' : World} {b off : Nat} {cs : List Value} {S : Nat → Prop} (h : w.rangeAt b off cs) (hg : Grown w w' S) (hs : ¬ S b) : w'.rangeAt b off cs := fun j v hv => by
  have h1 := h j v hv
  rw [World.cell?_of_block (hg.block b (cell_lt h1) hs)]; exact h1
theorem cell_grown {w w' : World} {b off : Nat} {v : Value} {S : Nat → Prop} (h : w.cell? ⟨b, off, none⟩ = some v) (hg : Grown w w' S) (hs : ¬ S b) : w'.cell? ⟨b, off, none⟩ = some v := by
  rw [World.cell?_of_block (hg.block b (cell_lt h) hs)]; exact h
theorem HRow.grown {w w' : World} {v : Value} {L : List Hs} {S : Nat → Prop} (h : HRow w v L) (hg : Grown w w' S) (hs : ∀ b o n c, v = .slice (some ⟨b, o, none⟩) n c → ¬ S b) : HRow w' v L := by
  rcases h with h | ⟨b, off, cap, h1, h2, h3⟩
  · exact .inl h
  · exact .inr ⟨b, off, cap, h1, h2, rangeAt_grown h3 hg (hs _ _ _ _ h1)⟩
theorem mkH_arr (c : Nat → Int) (hc : ∀ i, i < 32 → 0 ≤ c i ∧ c i < 256) : bytesA 32 c = (encH (Hs.mk' c hc)).toArray := by
  rw [encH_arr]; exact bytesA_congr fun i hi => (Hs.mk'_f c hc i hi).symm
/-- Append of hashes, in a region that draws. -/
theorem wp_appH {o : Oper} {a : Act} {w : World} {K : Act → World → Prop} {Q : Exit → Act → World → Prop} (s x : Operand)
    (ho : o.op = .call { callee := .builtin .append, args := #[s, x], argTypes := #[23, 23] }) (base : Nat) (v vx : Value) (L M : List Hs)
    (hs : a.eval s = v) (hx : a.eval x = vx) (hown : w.ownsRow base 25 32 v L.length (flatH L)) (hrow : HRow w vx M) (hb : L.length + M.length ≤ 4398046511104) (hbase : base ≤ w.heap.size)
    (h : ∀ v' w', w'.ownsRow base 25 32 v' (L ++ M).length (flatH (L ++ M)) → w.grownBy w' v.ownBlock → K (a.put o.dst v') w') : o.wp Try.prog a w K Q := by
  obtain ⟨i, hi, hzz⟩ := Option.map_eq_some_iff.1 Try.info25
  simp only [Prod.mk.injEq] at hzz
  obtain ⟨hz, hsz, hby⟩ := hzz
  have hzs : (Value.agg (bytesA 32 fun _ => 0)).cells.size = 32 := by show (bytesA 32 fun _ => 0).size = 32; exact bytesA_size _ _
  rw [flatH_app, List.length_append] at h
  rcases hrow with ⟨ad, c, rfl, rfl, hac⟩ | ⟨b, off, cap, rfl, hcap, hc⟩
  · cases ad with
    | none =>
      obtain rfl := hac rfl
      have hrun := run_append_owned_none (P := Try.prog) (w := w) base 23 o.type 25 i 32 Try.underlying23 hi v L.length _ hown
      unfold Oper.wp execOp
      simp only [ho, resolve, invoke, builtin, Sem.run_bind, Sem.run_pure, Result.andThen_ok, List.map_toArray, List.map_cons, List.map_nil, hs, hx, hrun]
      refine h v w ?_ (World.grownBy.refl w _)
      simpa [flatH_nil] using hown
    | some ad =>
      refine wp_append_own w s x 23 ho base 25 i _ 32 32 Try.underlying23 hi hz hsz hby hzs (by omega) v L.length _ hs hown ad 0 c [] hx rfl (fun j u hu => by simp at hu) (fun u hu => by simp at hu) (by unfold maxLen; simp at hb; omega) (by simp at hb; omega) hbase ?_
      intro v' w' h1 h2 _
      exact h v' w' h1 h2
  · refine wp_append_own w s x 23 ho base 25 i _ 32 32 Try.underlying23 hi hz hsz hby hzs (by omega) v L.length _ hs hown ⟨b, off, none⟩ M.length cap (flatH M) hx (flatH_len M)
      (fun j u hu => by rw [Addr.add_mid]; exact hc j u hu) (flatH_one M) (by unfold maxLen; omega) (by omega) hbase ?_
    intro v' w' h1 h2 _
    exact h v' w' h1 h2
theorem ownsH_form {w : World} {base : Nat} {v : Value} {n : Nat} {xs : List Value} (h : w.ownsRow base 25 32 v n xs) (hn : 0 < n) : ∃ g cap, v = .slice (some ⟨g, 0, none⟩) n cap ∧ base ≤ g ∧ n ≤ cap ∧ g < w.heap.size := by
  obtain ⟨_, h2⟩ := h
  rcases h2 with ⟨_, h0⟩ | ⟨g, cap, cur, e, hg, hh, hc, _⟩
  · omega
  · exact ⟨g, cap, e, hg, hc, (Array.getElem?_eq_some_iff.1 hh).1⟩
theorem ownsH_drew {w : World} {base n : Nat} {v : Value} {xs : List Value} (h : w.ownsRow base 25 32 v n xs) : w.drew.ownsRow base 25 32 v n xs := h
theorem bs1H (x : Hs) (w : World) : (Instr.buildSlice 23 1 #[(0, .agg (encH x).toArray)]).run Try.prog w = .ok (.slice (some ⟨w.heap.size, 0, none⟩) 1 1) (w.alloc (.cells (encH x).toArray 25)) := by rw [encH_arr]; exact Try.bs1 _ w
theorem one_row (z : Hs) (w : World) : HRow (w.alloc (.cells (encH z).toArray 25)) (.slice (some ⟨w.heap.size, 0, none⟩) 1 1) [z] := HRow.mk rfl (Nat.le_refl _) fun j v hv => by
  rw [Nat.zero_add, (Blk.new w 25 _).cell]; simpa [flatH] using hv
theorem one_range (z : Hs) (w : World) : (w.alloc (.cells (encH z).toArray 25)).rangeAt w.heap.size 0 (flatH [z]) := fun j v hv => by
  rw [Nat.zero_add, (Blk.new w 25 _).cell]; simpa [flatH] using hv
/-- Append of hashes, and where the row lies then. -/
theorem wpList_appAt {ops : Array Oper} {rest : List Oper} {o : Oper} {a : Act} {w : World} {Q : Exit → Act → World → Prop} (hgd : o.guard = none) (s x : Operand)
    (ho : o.op = .call { callee := .builtin .append, args := #[s, x], argTypes := #[23, 23] }) (base : Nat) (v : Value) (L M : List Hs) (b off cap : Nat)
    (hs : a.eval s = v) (hx : a.eval x = .slice (some ⟨b, off, none⟩) M.length cap) (hown : w.ownsRow base 25 32 v L.length (flatH L)) (hc : w.rangeAt b off (flatH M)) (hb : L.length + M.length ≤ 4398046511104) (hbase : base ≤ w.heap.size)
    (h : ∀ v' w', w'.ownsRow base 25 32 v' (L ++ M).length (flatH (L ++ M)) → w.grownBy w' v.ownBlock → (v'.ownBlock = v.ownBlock ∨ v'.ownBlock = some w.heap.size) → wpList Try.prog ops Q rest (a.put o.dst v') w') : wpList Try.prog ops Q (o :: rest) a w := by
  obtain ⟨i, hi, hzz⟩ := Option.map_eq_some_iff.1 Try.info25
  simp only [Prod.mk.injEq] at hzz
  obtain ⟨hz, hsz, hby⟩ := hzz
  have hzs : (Value.agg (bytesA 32 fun _ => 0)).cells.size = 32 := by show (bytesA 32 fun _ => 0).size = 32; exact bytesA_size _ _
  rw [flatH_app, List.length_append] at h
  refine wpList_append_own_at w hgd s x 23 ho base 25 i _ 32 32 Try.underlying23 hi hz hsz hby hzs (by omega) v L.length _ hs hown ⟨b, off, none⟩ M.length cap (flatH M) hx (flatH_len M)
    (fun j u hu => by rw [Addr.add_mid]; exact hc j u hu) (flatH_one M) (by unfold maxLen; omega) (by omega) hbase ?_
  intro v' w' h1 h2 _ h4
  exact h v' w' h1 h2 h4
/-- Cells of hashes, one behind the other, are a row. -/
theorem rangeAt_of_elems {w : World} {b off : Nat} {L : List Hs} (h : ∀ i (hi : i < L.length), w.rangeAt b (off + i * 32) (encH L[i])) : w.rangeAt b off (flatH L) := by
  intro j v hv
  have hj : j < L.length * 32 := by have := (List.getElem?_eq_some_iff.1 hv).1; rwa [flatH_len] at this
  have hi : j / 32 < L.length := by omega
  have h1 := flatH_get L (j / 32) hi (j % 32) (by omega)
  rw [show j / 32 * 32 + j % 32 = j by omega, hv] at h1
  have h2 := h (j / 32) hi (j % 32) v h1.symm
  rwa [show off + j / 32 * 32 + j % 32 = off + j by omega] at h2

theorem layUp_rng (s : Nat → Int) : ∀ t i, 0 ≤ layUp s t i ∧ layUp s t i < 256
  | 0, i => by simp [layUp]
  | t + 1, i => by
    have ih := layUp_rng s t i
    simp only [layUp, upd]
    repeat' split
    all_goals first | exact ih | omega
theorem shaP_rng (l : List Int) (i : Nat) : 0 ≤ shaP l i ∧ shaP l i < 256 := layUp_rng _ 8 i
/-- The hash of a row, as a hash. -/
def shaH (l : List Int) : Hs := Hs.mk' (shaP l) fun i _ => shaP_rng l i
theorem shaH_f (l : List Int) (i : Nat) (hi : i < 32) : (shaH l).f i = shaP l i := Hs.mk'_f _ _ i hi
theorem shaH_arr (l : List Int) : bytesA 32 (shaP l) = (encH (shaH l)).toArray := by
  rw [encH_arr]; exact bytesA_congr fun i hi => (shaH_f l i hi).symm

end Go.Proofs.Ytfheinghkigocab
namespace Go.Proofs.Ytfheinghkigocab
open Go.RowKit
set_option linter.unusedSimpArgs false
set_option linter.unusedVariables false

/-- How often 8 is doubled. -/
def szK (n : Int) : Nat → Nat → Nat
  | 0, k => k
  | f + 1, k => if 8 * (8 * 2 ^ k : Int) < 10 * n then szK n f (k + 1) else k
def szN (n : Int) : Nat := 8 * 2 ^ szK n 10 0
theorem szK_le (n : Int) : ∀ f k, szK n f k ≤ f + k
  | 0, k => by simp [szK]
  | f + 1, k => by
    unfold szK
    split
    · have := szK_le n f (k + 1); omega
    · omega
theorem pow_le10 {t : Nat} (ht : t ≤ 10) : (1 : Int) ≤ 2 ^ t ∧ (2 : Int) ^ t ≤ 1024 := by
  have h : ∀ t : Fin 11, (1 : Int) ≤ 2 ^ t.val ∧ (2 : Int) ^ t.val ≤ 1024 := by decide
  exact h ⟨t, by omega⟩
theorem pow_lt10 {t : Nat} (ht : t < 10) : (2 : Int) ^ t ≤ 512 := by
  have h : ∀ t : Fin 10, (2 : Int) ^ t.val ≤ 512 := by decide
  exact h ⟨t, by omega⟩
theorem szN_rng (n : Int) : 8 ≤ szN n ∧ szN n ≤ 8192 := by
  have h := szK_le n 10 0
  have := pow_le10 (t := szK n 10 0) (by omega)
  have e : ((2 ^ szK n 10 0 : Nat) : Int) = 2 ^ szK n 10 0 := by simp
  unfold szN
  omega

set_option maxRecDepth 8000 in
set_option maxHeartbeats 1000000 in
theorem size_any (n : Int) (w : World) : Calls Try.prog 8 #[.int .i64 n] w fun e w' => e = .returned (.int .i64 (szN n)) ∧ w' = w := by
  go_enter Try.func8, Try.ntmps8
  go_wp2
  go_loop [3] (fun i => ∃ t : Nat, t ≤ 10 ∧ i = .int .i64 (8 * 2 ^ t : Int) ∧ szK n (10 - t) t = szK n 10 0) (fun i => 8192 - (intOf i).toNat)
  case atStart => exact ⟨0, by omega, rfl, rfl⟩
  case round =>
    obtain ⟨t, ht, rfl, hk⟩ := hrel
    have hp := pow_le10 ht
    have hp2 : (2 : Int) ^ (t + 1) = 2 ^ t * 2 := Int.pow_succ ..
    by_cases hlt : t < 10
    · have hq := pow_lt10 hlt
      rw [show 10 - t = (10 - (t + 1)) + 1 by omega, szK] at hk
      obtain ⟨p, hpe⟩ : ∃ p, (2 : Int) ^ t = p := ⟨_, rfl⟩
      rw [hpe] at hp hp2 hq hk ⊢
      have h1 : 8 * p < 8192 := by omega
      have hw1 : IntKind.i64.wrap (8 * (8 * p)) = 8 * (8 * p) := by rw [IntKind.wrap_i64]; omega
      have hw2 : IntKind.i64.wrap (8 * p * 2) = 8 * p * 2 := by rw [IntKind.wrap_i64]; omega
      by_cases hg : 8 * (8 * p) < 10 * n
      · have hg2 : n > (8 * (8 * p)) / 10 := by omega
        rw [if_pos hg] at hk
        go_wp2
        refine ⟨⟨t + 1, by omega, by rw [hp2]; go_num, hk⟩, by simp only [intOf]; omega⟩
      · have hg2 : ¬ n > (8 * (8 * p)) / 10 := by omega
        rw [if_neg hg] at hk
        have he : (szN n : Int) = 8 * p := by unfold szN; rw [← hk]; push_cast; rw [hpe]
        go_wp2
        go_ret
        exact ⟨rfl, rfl⟩
    · obtain rfl : t = 10 := by omega
      have he : (szN n : Int) = 8192 := by unfold szN; rw [← hk]; rfl
      rw [show (8 * 2 ^ 10 : Int) = 8192 from rfl]
      clear hk hp hp2
      go_wp2
      go_ret
      exact ⟨rfl, rfl⟩

/-- May a digest have so many bytes? -/
def isP (n : Int) : Bool := [8, 16, 32, 64, 128, 256, 512, 1024, 2048, 4096, 8192].contains n
theorem and_pow0 : ∀ a : Fin 65, ∀ b : Fin 128, 8 ≤ 128 * a.val + b.val → 128 * a.val + b.val ≤ 8192 → (bits .and .i64 ((128 * a.val + b.val : Nat) : Int) (((128 * a.val + b.val : Nat) : Int) - 1) == 0) = isP ((128 * a.val + b.val : Nat) : Int) := by decide +kernel
theorem and_pow (n : Nat) (h1 : 8 ≤ n) (h2 : n ≤ 8192) : (bits .and .i64 (n : Int) ((n : Int) - 1) == 0) = isP n := by
  have h := and_pow0 ⟨n / 128, by omega⟩ ⟨n % 128, by omega⟩
  simp only [show 128 * (n / 128) + n % 128 = n by omega] at h
  exact h h1 h2
theorem isP_iff (n : Int) : isP n = true ↔ ∃ t : Nat, t ≤ 10 ∧ n = 8 * 2 ^ t := by
  constructor
  · intro h
    simp [isP] at h
    rcases h with rfl | rfl | rfl | rfl | rfl | rfl | rfl | rfl | rfl | rfl | rfl
    · exact ⟨0, by omega, rfl⟩
    · exact ⟨1, by omega, rfl⟩
    · exact ⟨2, by omega, rfl⟩
    · exact ⟨3, by omega, rfl⟩
    · exact ⟨4, by omega, rfl⟩
    · exact ⟨5, by omega, rfl⟩
    · exact ⟨6, by omega, rfl⟩
    · exact ⟨7, by omega, rfl⟩
    · exact ⟨8, by omega, rfl⟩
    · exact ⟨9, by omega, rfl⟩
    · exact ⟨10, by omega, rfl⟩
  · rintro ⟨t, ht, rfl⟩
    have h : ∀ t : Fin 11, isP (8 * 2 ^ t.val) = true := by decide +kernel
    exact h ⟨t, by omega⟩
theorem isP_rng {n : Int} (h : isP n = true) : 8 ≤ n ∧ n ≤ 8192 := by
  obtain ⟨t, ht, rfl⟩ := (isP_iff n).1 h
  have := pow_le10 ht
  omega
theorem isP_sz (n : Int) : isP (szN n) = true := (isP_iff _).2 ⟨szK n 10 0, by have := szK_le n 10 0; omega, by unfold szN; push_cast; rfl⟩

set_option maxRecDepth 8000 in
set_option maxHeartbeats 1000000 in
theorem isSize_any (n : Int) (w : World) : Calls Try.prog 12 #[.int .i64 n] w fun e w' => e = .returned (.bool (isP n)) ∧ w' = w := by
  by_cases h1 : 8 ≤ n
  · by_cases h2 : n ≤ 8192
    · have hw : IntKind.i64.wrap (n - 1) = n - 1 := by rw [IntKind.wrap_i64]; omega
      have ha := and_pow n.toNat (by omega) (by omega)
      simp only [Int.toNat_of_nonneg (show 0 ≤ n by omega)] at ha
      generalize isP n = b at *
      go_enter Try.func12, Try.ntmps12
      go_wp2
      go_ret
      exact ⟨by simp_all, rfl⟩
    · have hb : isP n = false := by cases hq : isP n with
        | false => rfl
        | true => have := isP_rng hq; omega
      rw [hb]
      go_enter Try.func12, Try.ntmps12
      go_wp2
      go_ret
      exact ⟨rfl, rfl⟩
  · have hb : isP n = false := by cases hq : isP n with
        | false => rfl
        | true => have := isP_rng hq; omega
    rw [hb]
    go_enter Try.func12, Try.ntmps12
    go_wp2
    go_ret
    exact ⟨rfl, rfl⟩

end Go.Proofs.Ytfheinghkigocab
namespace Go.Proofs.Ytfheinghkigocab
open Go.RowKit
set_option linter.unusedSimpArgs false
set_option linter.unusedVariables false

/-! ### Four numbers in an array. -/
def u64A (c : Nat → Int) : Array Value := Array.ofFn (n := 4) fun i => .int .u64 (c i.val)
def intA (c : Nat → Int) : Array Value := Array.ofFn (n := 4) fun i => .int .i64 (c i.val)
theorem u64A_size (c : Nat → Int) : (u64A c).size = 4 := by simp [u64A]
theorem u64A_get (c : Nat → Int) (j : Nat) (h : j < 4) : (u64A c)[j]? = some (.int .u64 (c j)) := by simp [u64A, h]
theorem u64A_set (c : Nat → Int) (j : Nat) (v : Int) : (u64A c).setIfInBounds j (.int .u64 v) = u64A (upd c j v) := by
  apply Array.ext_getElem?
  intro i
  rw [Array.getElem?_setIfInBounds]
  by_cases e : j = i
  · subst e
    by_cases hj : j < 4 <;> simp [u64A, upd, hj]
  · by_cases hi : i < 4 <;> simp [u64A, upd, hi, e, Ne.symm e]
theorem u64A_one (c : Nat → Int) : (u64A c).all (·.oneCell') = true := by
  rw [Array.all_eq_true_iff_forall_mem]; intro v hv; simp [u64A] at hv; obtain ⟨i, rfl⟩ := hv; rfl
theorem u64A_congr {c d : Nat → Int} (h : ∀ i, i < 4 → c i = d i) : u64A c = u64A d := by
  unfold u64A; congr 1; funext i; rw [h i.val i.isLt]
theorem intA_size (c : Nat → Int) : (intA c).size = 4 := by simp [intA]
theorem intA_get (c : Nat → Int) (j : Nat) (h : j < 4) : (intA c)[j]? = some (.int .i64 (c j)) := by simp [intA, h]
theorem intA_set (c : Nat → Int) (j : Nat) (v : Int) : (intA c).setIfInBounds j (.int .i64 v) = intA (upd c j v) := by
  apply Array.ext_getElem?
  intro i
  rw [Array.getElem?_setIfInBounds]
  by_cases e : j = i
  · subst e
    by_cases hj : j < 4 <;> simp [intA, upd, hj]
  · by_cases hi : i < 4 <;> simp [intA, upd, hi, e, Ne.symm e]
theorem intA_one (c : Nat → Int) : (intA c).all (·.oneCell') = true := by
  rw [Array.all_eq_true_iff_forall_mem]; intro v hv; simp [intA] at hv; obtain ⟨i, rfl⟩ := hv; rfl
theorem intA_congr {c d : Nat → Int} (h : ∀ i, i < 4 → c i = d i) : intA c = intA d := by
  unfold intA; congr 1; funext i; rw [h i.val i.isLt]
theorem Try.size44 : (Try.prog.info? 44).map (·.size) = some 4 := by kernel_rfl
theorem Try.size40 : (Try.prog.info? 40).map (·.size) = some 4 := by kernel_rfl
theorem Try.size44U (c : Nat → Int) : (Try.prog.info? 44).map (·.size) = some (u64A c).size := by rw [u64A_size]; exact Try.size44
theorem Try.size40I (c : Nat → Int) : (Try.prog.info? 40).map (·.size) = some (intA c).size := by rw [intA_size]; exact Try.size40
theorem Try.new44 (w : World) : (Instr.alloc 44 true (.tuple #[])).run Try.prog w = .ok (.pointer (some ⟨w.heap.size, 0, none⟩)) (w.alloc (.cells (u64A fun _ => 0) 44)) := by kernel_rfl
theorem Try.new40 (w : World) : (Instr.alloc 40 true (.tuple #[])).run Try.prog w = .ok (.pointer (some ⟨w.heap.size, 0, none⟩)) (w.alloc (.cells (intA fun _ => 0) 40)) := by kernel_rfl
theorem Try.new46 (w : World) : (Instr.alloc 46 true (.tuple #[])).run Try.prog w = .ok (.pointer (some ⟨w.heap.size, 0, none⟩)) (w.alloc (.cells (bytesA 8 fun _ => 0) 46)) := by kernel_rfl

/-! ### The four numbers of a hash. -/
def saltF (s : Int) (t : Nat) : Nat → Int := fun i => if i < t then s / 2 ^ (8 * i) % 256 else 0
def saltL (s : Int) : List Int := hl 8 (saltF s 8)
def seedL (s : Int) (x : Hs) : List Int := saltL s ++ hl 32 x.f
theorem seedL_len (s : Int) (x : Hs) : (seedL s x).length = 40 := by simp [seedL, saltL, hl_len]
theorem salt_next (s : Int) (t : Nat) (ht : t < 8) : bytesA 8 (upd (saltF s t) t (s / 2 ^ (8 * t) % 256)) = bytesA 8 (saltF s (t + 1)) := by
  apply bytesA_congr
  intro i hi
  unfold upd saltF
  by_cases h : i = t
  · subst h; simp
  · simp only [if_neg h]
    by_cases h2 : i < t
    · rw [if_pos h2, if_pos (by omega)]
    · rw [if_neg h2, if_neg (by omega)]
/-- The lowest bytes of a number, the first one lowest. -/
def lsum (c : Nat → Int) (i : Nat) : Nat → Int
  | 0 => 0
  | k + 1 => lsum c i k + c (8 * i + k) * 2 ^ (8 * k)
theorem lsum_rng (c : Nat → Int) (hc : ∀ i, 0 ≤ c i ∧ c i < 256) (i : Nat) : ∀ k, 0 ≤ lsum c i k ∧ lsum c i k < 2 ^ (8 * k)
  | 0 => by simp [lsum]
  | k + 1 => by
    have h := lsum_rng c hc i k
    have hb := hc (8 * i + k)
    have hp : (2 : Int) ^ (8 * (k + 1)) = 256 * 2 ^ (8 * k) := by rw [show 8 * (k + 1) = 8 + 8 * k by omega, Int.pow_add]; rfl
    rw [lsum, hp]
    generalize (2 : Int) ^ (8 * k) = p at *
    constructor
    · have := Int.mul_nonneg hb.1 (show 0 ≤ p by omega); omega
    · have : c (8 * i + k) * p ≤ 255 * p := Int.mul_le_mul_of_nonneg_right (by omega) (by omega)
      omega
theorem or_next (y c : Int) (k : Nat) (hk : k < 8) (hy : 0 ≤ y ∧ y < 2 ^ (8 * k)) (hc : 0 ≤ c ∧ c < 256) : bits .or .u64 y (c * 2 ^ (8 * k)) = y + c * 2 ^ (8 * k) := by
  match k, hk with
  | 0, _ =>
    obtain rfl : y = 0 := by simp at hy; omega
    rw [bits_or_comm]
    rw [Go.u64_or8 _ _ (by simp; omega) (by simp; omega) (by omega) (by omega) (by omega)]; omega
  | 1, _ => exact Go.u64_or8 _ _ hy.1 (by simpa using hy.2) (by simp; omega) (by simp) (by simp; omega)
  | 2, _ => exact Go.u64_or16 _ _ hy.1 (by simpa using hy.2) (by simp; omega) (by simp) (by simp; omega)
  | 3, _ => exact Go.u64_or24 _ _ hy.1 (by simpa using hy.2) (by simp; omega) (by simp) (by simp; omega)
  | 4, _ => exact Go.u64_or32 _ _ hy.1 (by simpa using hy.2) (by simp; omega) (by simp) (by simp; omega)
  | 5, _ => exact Go.u64_or40 _ _ hy.1 (by simpa using hy.2) (by simp; omega) (by simp) (by simp; omega)
  | 6, _ => exact Go.u64_or48 _ _ hy.1 (by simpa using hy.2) (by simp; omega) (by simp) (by simp; omega)
  | 7, _ => exact Go.u64_or56 _ _ hy.1 (by simpa using hy.2) (by simp; omega) (by simp) (by simp; omega)
/-- The numbers of a hash, the first t of them. -/
def numF (c : Nat → Int) (t : Nat) : Nat → Int := fun i => if i < t then lsum c i 8 else 0
def numU (c : Nat → Int) (t k : Nat) : Nat → Int := fun i => if i = t then lsum c t k else numF c t i
theorem numU_zero (c : Nat → Int) (t : Nat) : u64A (numU c t 0) = u64A (numF c t) := by
  apply u64A_congr
  intro i _
  unfold numU numF
  by_cases h : i = t
  · subst h; simp [lsum]
  · simp [h]
theorem numU_full (c : Nat → Int) (t : Nat) : u64A (numU c t 8) = u64A (numF c (t + 1)) := by
  apply u64A_congr
  intro i _
  unfold numU numF
  by_cases h : i = t
  · subst h; simp
  · simp only [if_neg h]
    by_cases h2 : i < t
    · rw [if_pos h2, if_pos (by omega)]
    · rw [if_neg h2, if_neg (by omega)]
theorem numU_next (c : Nat → Int) (t k : Nat) : u64A (upd (numU c t k) t (lsum c t k + c (8 * t + k) * 2 ^ (8 * k))) = u64A (numU c t (k + 1)) := by
  apply u64A_congr
  intro i _
  unfold upd numU
  by_cases h : i = t
  · subst h; simp [lsum]
  · simp [h]
/-- The numbers of a salt and a hash. -/
def nums (s : Int) (x : Hs) : Nat → Int := fun i => lsum (shaP (seedL s x)) i 8
theorem nums_rng (s : Int) (x : Hs) (i : Nat) : 0 ≤ nums s x i ∧ nums s x i < 18446744073709551616 := by
  have := lsum_rng (shaP (seedL s x)) (shaP_rng _) i 8
  simpa [nums] using this
theorem numF_nums (s : Int) (x : Hs) : u64A (numF (shaP (seedL s x)) 4) = u64A (nums s x) := u64A_congr fun i hi => by simp [numF, nums, hi]

/-! ### Rows of rows. -/
theorem wp_newA {P : Program} {o : Oper} {a : Act} {w : World} {K : Act → World → Prop} {Q : Exit → Act → World → Prop} (t : TypeId) (ho : o.op = .alloc t)
    (cells : Array Value) (hf : ∀ w : World, (Instr.alloc t true (.tuple #[])).run P w = .ok (.pointer (some ⟨w.heap.size, 0, none⟩)) (w.alloc (.cells cells t)))
    (h : K (a.put o.dst (.pointer (some ⟨w.heap.size, 0, none⟩))) (w.alloc (.cells cells t))) : o.wp P a w K Q := by
  unfold Oper.wp execOp
  simp only [ho, Sem.run_bind, hf w, Result.andThen_ok]
  exact h
theorem Try.bs39 (a b : Option Addr) (n c n2 c2 : Nat) (w : World) : (Instr.buildSlice 48 2 #[(0, .slice a n c), (1, .slice b n2 c2)]).run Try.prog w = .ok (.slice (some ⟨w.heap.size, 0, none⟩) 2 2) (w.alloc (.cells #[.slice a n c, .slice b n2 c2] 28)) := by kernel_rfl
def two {α : Type} (x y : α) : Nat → α := fun i => if i = 0 then x else y
theorem concat_two (l m : List Int) : concat (two l m) 2 = l ++ m := by simp [concat, two]
theorem rows_two {w : World} {g : Nat} {x y : Value} {l m : List Int} (h : Blk w g 28 #[x, y]) (hx : RowAt w x l) (hy : RowAt w y m) : RowsAt w (.slice (some ⟨g, 0, none⟩) 2 2) 2 (two x y) (two l m) where
  form := .inr ⟨g, 0, 2, rfl, fun i hi => by
    rw [Nat.zero_add, h.cell]
    match i, hi with
    | 0, _ => rfl
    | 1, _ => rfl⟩
  row i hi := by
    match i, hi with
    | 0, _ => exact hx
    | 1, _ => exact hy
theorem wp_bs {P : Program} {o : Oper} {a : Act} {w : World} {K : Act → World → Prop} {Q : Exit → Act → World → Prop} (t : TypeId) (n : Nat) (parts : Array (Nat × Operand)) (ho : o.op = .buildSlice t n parts)
    (vs : Array (Nat × Value)) (hv : (parts.map fun (i, x) => (i, a.eval x)) = vs) (v : Value) (w' : World) (hrun : (Instr.buildSlice t n vs).run P w = .ok v w') (h : K (a.put o.dst v) w') : o.wp P a w K Q := by
  unfold Oper.wp execOp
  simp only [ho, hv, Sem.run_bind, hrun, Result.andThen_ok]
  exact h
theorem all_two {w : World} {g : Nat} {x y : Value} {l m : List Int} (h : Blk w g 28 #[x, y]) (hx : RowAt w x l) (hy : RowAt w y m) (hl : l.length + m.length ≤ 140737488355000) :
    Calls Try.prog 15 #[.slice (some ⟨g, 0, none⟩) 2 2] w fun e w' => e = .returned (.agg (bytesA 32 (shaP (l ++ m)))) ∧ Below w.heap.size w w' := by
  have h1 := ofAll_rows _ 2 _ _ w (rows_two h hx hy) (by omega) (by rw [concat_two, List.length_append]; exact hl)
  rw [concat_two] at h1
  exact h1
end Go.Proofs.Ytfheinghkigocab
namespace Go.Proofs.Ytfheinghkigocab
open Go.RowKit
set_option linter.unusedSimpArgs false
set_option linter.unusedVariables false

theorem Try.in42 (w : World) (vs : Array Value) : (callFunc 15 vs).run Try.prog w = .ok (.enter 15 vs) w := by kernel_rfl

set_option maxRecDepth 8000 in
set_option maxHeartbeats 4000000 in
theorem numbers_any (s : Int) (x : Hs) (w : World) (hs : 0 ≤ s ∧ s < 18446744073709551616) :
    Calls Try.prog 14 #[.int .u64 s, .agg (bytesA 32 x.f)] w fun e w' => e = .returned (.agg (u64A (nums s x))) ∧ Below w.heap.size w w' := by
  obtain ⟨ch, Hch⟩ : ∃ ch, Keep (ch = bytesA 32 x.f) := ⟨_, ⟨rfl⟩⟩
  have HIch : Keep ((Try.prog.info? 25).map (·.size) = some ch.size) := ⟨by rw [Hch.out]; exact Try.size25B _⟩
  have HOch : Keep (ch.all (·.oneCell') = true) := ⟨by rw [Hch.out]; exact bytesA_one _ _⟩
  rw [← Hch.out]
  have Hs := Keep.mk hs
  clear hs
  go_enter Try.func14, Try.ntmps14
  go_wp2_with (first | (refine wpList_boxA rfl 25 (.tmp 1) rfl ch rfl ?_; refine Hid.out ?_))
  refine hid_in ?_
  have H3 := Keep.mk (Blk.new w 25 ch)
  have HB := Keep.mk (below_new w (.cells ch 25))
  obtain ⟨g3, hg3⟩ : ∃ g, Keep (g = w.heap.size) := ⟨_, ⟨rfl⟩⟩
  rw [← hg3.out] at H3 ⊢
  generalize w.alloc (.cells ch 25) = wa at *
  go_wp2_with (first | (refine wpList_new rfl 44 rfl _ Try.new44 ?_; refine Hid.out ?_))
  refine hid_in ?_
  have H4 := Keep.mk (Blk.new wa 44 (u64A fun _ => 0))
  have HBb := Keep.mk (HB.out.alloc HB.out.size (.cells (u64A fun _ => 0) 44))
  have H3b := Keep.mk (H3.out.alloc (.cells (u64A fun _ => 0) 44))
  obtain ⟨g4, hg4⟩ : ∃ g, Keep (g = wa.heap.size) := ⟨_, ⟨rfl⟩⟩
  have hl3 := H3.out.lt
  rw [← hg4.out] at H4 hl3 ⊢
  have hge4 : w.heap.size ≤ g4 := by rw [hg4.out]; exact HB.out.size
  generalize wa.alloc (.cells (u64A fun _ => 0) 44) = wb at *
  clear H3 HB
  go_wp2_with (first | (refine wpList_new rfl 46 rfl _ Try.new46 ?_; refine Hid.out ?_))
  refine hid_in ?_
  have H5 := Keep.mk (Blk.new wb 46 (bytesA 8 fun _ => 0))
  have HBc := Keep.mk (HBb.out.alloc HBb.out.size (.cells (bytesA 8 fun _ => 0) 46))
  have H3c := Keep.mk (H3b.out.alloc (.cells (bytesA 8 fun _ => 0) 46))
  have H4c := Keep.mk (H4.out.alloc (.cells (bytesA 8 fun _ => 0) 46))
  obtain ⟨g5, hg5⟩ : ∃ g, Keep (g = wb.heap.size) := ⟨_, ⟨rfl⟩⟩
  have hl4 := H4.out.lt
  rw [← hg5.out] at H5 hl4 ⊢
  have hge5 : w.heap.size ≤ g5 := by have := hg5.out; have := hg4.out; omega
  have HN := Keep.mk (show g3 ≠ g5 ∧ g4 ≠ g5 ∧ g3 ≠ g4 by omega)
  generalize wb.alloc (.cells (bytesA 8 fun _ => 0) 46) = wc at *
  clear H3b HBb H4 hl3 hl4 hg3 hg4 hg5
  go_wp2_with fail
  go_loopw [11] (fun i wr => ∃ t : Nat, t ≤ 8 ∧ i = .int .i64 t ∧ Blk wr g5 46 (bytesA 8 (saltF s t)) ∧ Blk wr g3 25 ch ∧ Blk wr g4 44 (u64A fun _ => 0) ∧ Below w.heap.size w wr) (fun i _ => 8 - (intOf i).toNat)
  case atStart => exact ⟨0, by omega, rfl, (show saltF s 0 = fun _ => 0 from funext fun i => by simp [saltF]) ▸ H5.out, H3c.out, H4c.out, HBc.out⟩
  case round =>
    clear H5 H3c H4c HBc
    obtain ⟨t, ht, rfl, h5, h3, h4, hB⟩ := hrel
    by_cases hlt : t < 8
    · have hlt' : (t : Int) < 8 := by omega
      have hq : IntKind.u8.wrap (s / 2 ^ (8 * t)) = s / 2 ^ (8 * t) % 256 := IntKind.wrap_u8 _
      have h8 : (8 * (t : Int)).toNat = 8 * t := by omega
      have cc : wr.cell? ⟨g5, t, none⟩ = some (.int .u8 (saltF s t t)) := by rw [h5.cell, bytesA_get _ _ _ hlt]
      have ff := h5.frozen t
      have H5n := Keep.mk (h5.set t (.int .u8 (s / 2 ^ (8 * t) % 256)))
      rw [bytesA_set, salt_next s t hlt] at H5n
      have H3n := Keep.mk (h3.set_ne (b' := g5) (j := t) HN.out.1 (.int .u8 (s / 2 ^ (8 * t) % 256)))
      have H4n := Keep.mk (h4.set_ne (b' := g5) (j := t) HN.out.2.1 (.int .u8 (s / 2 ^ (8 * t) % 256)))
      have HBn := Keep.mk (hB.setCell hge5 (p := ⟨g5, t, none⟩) (.int .u8 (s / 2 ^ (8 * t) % 256)))
      clear h5 h3 h4 hB
      generalize saltF s t t = z at *
      go_wp2
      go_roundw
      case rel => exact ⟨t + 1, by omega, by go_num, H5n.out, H3n.out, H4n.out, HBn.out⟩
      case measure => simp only [intOf]; omega
    · obtain rfl : t = 8 := by omega
      rw [show ((8 : Nat) : Int) = 8 from rfl]
      obtain ⟨w0, rfl⟩ : ∃ w0, w0 = wr := ⟨_, rfl⟩
      have HS5 := Keep.mk (row_arr h5)
      have HS3 : Keep (RowAt w0 (.slice (some ⟨g3, 0, none⟩) 32 32) (hl 32 x.f)) := ⟨row_arr (by rw [← Hch.out]; exact h3)⟩
      have H4 := Keep.mk h4
      have HB := Keep.mk hB
      clear h5 h3 h4 hB hlt ht
      obtain ⟨cm, Hcm⟩ : ∃ cm, Keep (cm = bytesA 32 (shaP (seedL s x))) := ⟨_, ⟨rfl⟩⟩
      have HIcm : Keep ((Try.prog.info? 25).map (·.size) = some cm.size) := ⟨by rw [Hcm.out]; exact Try.size25B _⟩
      have HOcm : Keep (cm.all (·.oneCell') = true) := ⟨by rw [Hcm.out]; exact bytesA_one _ _⟩
      have HZcm : Keep ((bytesA 32 fun _ => 0).size = cm.size) := ⟨by rw [Hcm.out]; exact bytesA_sizes _ _ _⟩
      go_wp2_with fail
      go_cut [7] from 22 to 25 (fun s7 wx => ∃ g7, s7 = ptr g7 ∧ Blk wx g7 25 cm ∧ Below w0.heap.size w0 wx ∧ w0.heap.size ≤ g7)
      case first =>
        have hD0 : Below w0.heap.size w0 w0.drew := (Below.refl _ _).drew
        refine wp_region_held_drew (S := fun _ => True) (by kernel_rfl) trivial (fun hHeld => ?_)
        generalize w0.drew = wd at *
        refine wpAnyH_take (i := 0) (oi := ⟨some 22, Op.slice 46 (Operand.tmp 5) none none none, 28, _, _, none⟩) (v := .slice (some ⟨g5, 0, none⟩) 8 8) rfl (by kernel_rfl) (by kernel_rfl) (by kernel_rfl) (fun _ _ _ h => h) (Or.inl ⟨by rfl, fun w hS => by go_simp⟩) hHeld ?_
        simp only [Act.put, List.setIfInBounds_toArray, List.set_cons_zero, List.set_cons_succ]
        refine wpAnyH_take (i := 1) (oi := ⟨some 23, Op.slice 25 (Operand.tmp 3) none none none, 28, _, _, none⟩) (v := .slice (some ⟨g3, 0, none⟩) 32 32) rfl (by kernel_rfl) (by kernel_rfl) (by kernel_rfl) (fun _ _ _ h => h) (Or.inl ⟨by rfl, fun w hS => by go_simp⟩) hHeld ?_
        simp only [Act.put, List.setIfInBounds_toArray, List.set_cons_zero, List.set_cons_succ]
        refine wpAnyH_ready (rs := [2, 4]) (by kernel_rfl) (by simp) ?_
        refine AllReadyH.cons (o := ⟨some 24, Op.buildSlice 48 2 #[(0, Operand.tmp 22), (1, Operand.tmp 23)], 48, _, _, none⟩) rfl (fun K hK => ?_) (AllReadyH.cons (o := ⟨some 7, Op.alloc 25, 0, _, _, none⟩) rfl (fun K hK => ?_) (AllReadyH.nil))
        all_goals rw [if_pos (by rfl)]
        · refine wp_bs 48 2 _ rfl #[(0, .slice (some ⟨g5, 0, none⟩) 8 8), (1, .slice (some ⟨g3, 0, none⟩) 32 32)] (by simp [Act.eval]) _ _ (Try.bs39 (some ⟨g5, 0, none⟩) (some ⟨g3, 0, none⟩) 8 8 32 32 wd) ?_
          have hk1 := Blk.new wd 28 #[.slice (some ⟨g5, 0, none⟩) 8 8, .slice (some ⟨g3, 0, none⟩) 32 32]
          have hb1 : Below w0.heap.size w0 (wd.alloc (.cells #[.slice (some ⟨g5, 0, none⟩) 8 8, .slice (some ⟨g3, 0, none⟩) 32 32] 28)) := hD0.alloc hD0.size _
          refine hK.out _ _ trivial fun hHeld => ?_
          clear hK
          simp only [Act.put, List.setIfInBounds_toArray, List.set_cons_zero, List.set_cons_succ]
          generalize wd.alloc (.cells #[.slice (some ⟨g5, 0, none⟩) 8 8, .slice (some ⟨g3, 0, none⟩) 32 32] 28) = v1 at *
          refine wpAnyH_ready (rs := [3, 4]) (by kernel_rfl) (by simp) ?_
          refine AllReadyH.cons (o := ⟨some 25, Op.call { callee := Callee.value (Operand.func 15), args := #[Operand.tmp 24], argTypes := #[48] }, 25, _, _, none⟩) rfl (fun K hK => ?_) (AllReadyH.cons (o := ⟨some 7, Op.alloc 25, 0, _, _, none⟩) rfl (fun K hK => ?_) (AllReadyH.nil))
          all_goals rw [if_pos (by rfl)]
          · refine wp_callF 15 _ _ rfl Try.in42 #[.slice (some ⟨wd.heap.size, 0, none⟩) 2 2] (by simp [Act.eval]) (fun vz wz => vz = .agg cm ∧ Below v1.heap.size v1 wz) ?_ ?_
            · refine (all_two hk1 (HS5.out.below (hb1)) (HS3.out.below (hb1)) (by rw [hl_len, hl_len]; omega)).mono ?_
              rintro e wz ⟨rfl, hbz⟩
              exact ⟨_, rfl, by rw [Hcm.out]; rfl, hbz⟩
            rintro vz v2 ⟨rfl, hc2⟩
            have hb2 : Below w0.heap.size w0 v2 := hb1.trans (hc2.mono hb1.size)
            refine hK.out _ _ trivial fun hHeld => ?_
            clear hK
            simp only [Act.put, List.setIfInBounds_toArray, List.set_cons_zero, List.set_cons_succ]
            refine wpAnyH_ready (rs := [4]) (by kernel_rfl) (by simp) ?_
            refine AllReadyH.cons (o := ⟨some 7, Op.alloc 25, 0, _, _, none⟩) rfl (fun K hK => ?_) (AllReadyH.nil)
            all_goals rw [if_pos (by rfl)]
            · refine wp_newA 25 rfl _ Try.new25 ?_
              have h7_3 := Blk.new v2 25 (bytesA 32 fun _ => 0)
              have hb3 : Below w0.heap.size w0 (v2.alloc (.cells (bytesA 32 fun _ => 0) 25)) := hb2.alloc hb2.size _
              have hge7 : w0.heap.size ≤ v2.heap.size := hb2.size
              refine hK.out _ _ trivial fun hHeld => ?_
              clear hK
              simp only [Act.put, List.setIfInBounds_toArray, List.set_cons_zero, List.set_cons_succ]
              generalize v2.alloc (.cells (bytesA 32 fun _ => 0) 25) = v3 at *
              refine wpAnyH_ready (rs := [5]) (by kernel_rfl) (by simp) ?_
              refine AllReadyH.cons (o := ⟨none, Op.store 25 (Operand.tmp 7) (Operand.tmp 25), 0, _, _, none⟩) rfl (fun K hK => ?_) (AllReadyH.nil)
              all_goals rw [if_pos (by rfl)]
              refine wp_store_row 25 (.tmp 7) (.tmp 25) rfl (v2.heap.size) cm rfl rfl 25 (bytesA 32 fun _ => 0) h7_3 HIcm.out HZcm.out HOcm.out ?_
              refine hK.out _ _ trivial fun _ => ?_
              clear hK
              simp only [Act.put]
              refine wpAnyH_done (by kernel_rfl) ?_ _
              go_wp2_with fail
              go_meet
              case rel => exact ⟨v2.heap.size, rfl, Blk.setRow h7_3 cm, below_setRow hb3 hge7 cm, hge7⟩
          · refine wp_newA 25 rfl _ Try.new25 ?_
            have h7_5 := Blk.new v1 25 (bytesA 32 fun _ => 0)
            have hb5 : Below w0.heap.size w0 (v1.alloc (.cells (bytesA 32 fun _ => 0) 25)) := hb1.alloc hb1.size _
            have hge7 : w0.heap.size ≤ v1.heap.size := hb1.size
            have hk5 := hk1.alloc (.cells (bytesA 32 fun _ => 0) 25)
            refine hK.out _ _ trivial fun hHeld => ?_
            clear hK
            simp only [Act.put, List.setIfInBounds_toArray, List.set_cons_zero, List.set_cons_succ]
            generalize v1.alloc (.cells (bytesA 32 fun _ => 0) 25) = v5 at *
            refine wpAnyH_ready (rs := [3]) (by kernel_rfl) (by simp) ?_
            refine AllReadyH.cons (o := ⟨some 25, Op.call { callee := Callee.value (Operand.func 15), args := #[Operand.tmp 24], argTypes := #[48] }, 25, _, _, none⟩) rfl (fun K hK => ?_) (AllReadyH.nil)
            all_goals rw [if_pos (by rfl)]
            · refine wp_callF 15 _ _ rfl Try.in42 #[.slice (some ⟨wd.heap.size, 0, none⟩) 2 2] (by simp [Act.eval]) (fun vz wz => vz = .agg cm ∧ Below v5.heap.size v5 wz) ?_ ?_
              · refine (all_two hk5 (HS5.out.below (hb5)) (HS3.out.below (hb5)) (by rw [hl_len, hl_len]; omega)).mono ?_
                rintro e wz ⟨rfl, hbz⟩
                exact ⟨_, rfl, by rw [Hcm.out]; rfl, hbz⟩
              rintro vz v6 ⟨rfl, hc6⟩
              have hb6 : Below w0.heap.size w0 v6 := hb5.trans (hc6.mono hb5.size)
              have h7_6 := h7_5.below hc6 h7_5.lt
              refine hK.out _ _ trivial fun hHeld => ?_
              clear hK
              simp only [Act.put, List.setIfInBounds_toArray, List.set_cons_zero, List.set_cons_succ]
              refine wpAnyH_ready (rs := [5]) (by kernel_rfl) (by simp) ?_
              refine AllReadyH.cons (o := ⟨none, Op.store 25 (Operand.tmp 7) (Operand.tmp 25), 0, _, _, none⟩) rfl (fun K hK => ?_) (AllReadyH.nil)
              all_goals rw [if_pos (by rfl)]
              refine wp_store_row 25 (.tmp 7) (.tmp 25) rfl (v1.heap.size) cm rfl rfl 25 (bytesA 32 fun _ => 0) h7_6 HIcm.out HZcm.out HOcm.out ?_
              refine hK.out _ _ trivial fun _ => ?_
              clear hK
              simp only [Act.put]
              refine wpAnyH_done (by kernel_rfl) ?_ _
              go_wp2_with fail
              go_meet
              case rel => exact ⟨v1.heap.size, rfl, Blk.setRow h7_6 cm, below_setRow hb6 hge7 cm, hge7⟩
        · refine wp_newA 25 rfl _ Try.new25 ?_
          have h7_8 := Blk.new wd 25 (bytesA 32 fun _ => 0)
          have hb8 : Below w0.heap.size w0 (wd.alloc (.cells (bytesA 32 fun _ => 0) 25)) := hD0.alloc hD0.size _
          have hge7 : w0.heap.size ≤ wd.heap.size := hD0.size
          refine hK.out _ _ trivial fun hHeld => ?_
          clear hK
          simp only [Act.put, List.setIfInBounds_toArray, List.set_cons_zero, List.set_cons_succ]
          generalize wd.alloc (.cells (bytesA 32 fun _ => 0) 25) = v8 at *
          refine wpAnyH_ready (rs := [2]) (by kernel_rfl) (by simp) ?_
          refine AllReadyH.cons (o := ⟨some 24, Op.buildSlice 48 2 #[(0, Operand.tmp 22), (1, Operand.tmp 23)], 48, _, _, none⟩) rfl (fun K hK => ?_) (AllReadyH.nil)
          all_goals rw [if_pos (by rfl)]
          · refine wp_bs 48 2 _ rfl #[(0, .slice (some ⟨g5, 0, none⟩) 8 8), (1, .slice (some ⟨g3, 0, none⟩) 32 32)] (by simp [Act.eval]) _ _ (Try.bs39 (some ⟨g5, 0, none⟩) (some ⟨g3, 0, none⟩) 8 8 32 32 v8) ?_
            have hk9 := Blk.new v8 28 #[.slice (some ⟨g5, 0, none⟩) 8 8, .slice (some ⟨g3, 0, none⟩) 32 32]
            have hb9 : Below w0.heap.size w0 (v8.alloc (.cells #[.slice (some ⟨g5, 0, none⟩) 8 8, .slice (some ⟨g3, 0, none⟩) 32 32] 28)) := hb8.alloc hb8.size _
            have h7_9 := h7_8.alloc (.cells #[.slice (some ⟨g5, 0, none⟩) 8 8, .slice (some ⟨g3, 0, none⟩) 32 32] 28)
            refine hK.out _ _ trivial fun hHeld => ?_
            clear hK
            simp only [Act.put, List.setIfInBounds_toArray, List.set_cons_zero, List.set_cons_succ]
            generalize v8.alloc (.cells #[.slice (some ⟨g5, 0, none⟩) 8 8, .slice (some ⟨g3, 0, none⟩) 32 32] 28) = v9 at *
            refine wpAnyH_ready (rs := [3]) (by kernel_rfl) (by simp) ?_
            refine AllReadyH.cons (o := ⟨some 25, Op.call { callee := Callee.value (Operand.func 15), args := #[Operand.tmp 24], argTypes := #[48] }, 25, _, _, none⟩) rfl (fun K hK => ?_) (AllReadyH.nil)
            all_goals rw [if_pos (by rfl)]
            · refine wp_callF 15 _ _ rfl Try.in42 #[.slice (some ⟨v8.heap.size, 0, none⟩) 2 2] (by simp [Act.eval]) (fun vz wz => vz = .agg cm ∧ Below v9.heap.size v9 wz) ?_ ?_
              · refine (all_two hk9 (HS5.out.below (hb9)) (HS3.out.below (hb9)) (by rw [hl_len, hl_len]; omega)).mono ?_
                rintro e wz ⟨rfl, hbz⟩
                exact ⟨_, rfl, by rw [Hcm.out]; rfl, hbz⟩
              rintro vz v10 ⟨rfl, hc10⟩
              have hb10 : Below w0.heap.size w0 v10 := hb9.trans (hc10.mono hb9.size)
              have h7_10 := h7_9.below hc10 h7_9.lt
              refine hK.out _ _ trivial fun hHeld => ?_
              clear hK
              simp only [Act.put, List.setIfInBounds_toArray, List.set_cons_zero, List.set_cons_succ]
              refine wpAnyH_ready (rs := [5]) (by kernel_rfl) (by simp) ?_
              refine AllReadyH.cons (o := ⟨none, Op.store 25 (Operand.tmp 7) (Operand.tmp 25), 0, _, _, none⟩) rfl (fun K hK => ?_) (AllReadyH.nil)
              all_goals rw [if_pos (by rfl)]
              refine wp_store_row 25 (.tmp 7) (.tmp 25) rfl (wd.heap.size) cm rfl rfl 25 (bytesA 32 fun _ => 0) h7_10 HIcm.out HZcm.out HOcm.out ?_
              refine hK.out _ _ trivial fun _ => ?_
              clear hK
              simp only [Act.put]
              refine wpAnyH_done (by kernel_rfl) ?_ _
              go_wp2_with fail
              go_meet
              case rel => exact ⟨wd.heap.size, rfl, Blk.setRow h7_10 cm, below_setRow hb10 hge7 cm, hge7⟩
      case rest =>
        obtain ⟨g7, hs7, h7, hb7, hge7⟩ := hcut
        subst hs7
        obtain ⟨w1, rfl⟩ : ∃ w1, w1 = wc := ⟨_, rfl⟩
        have H7 := Keep.mk h7
        have H4a := Keep.mk (H4.out.below hb7 H4.out.lt)
        have HBa := Keep.mk (HB.out.trans (hb7.mono HB.out.size))
        have hn47 : g4 ≠ g7 := by have := H4.out.lt; omega
        clear h7 hb7 H4 HB HS5 HS3 hge7
        go_wp2_with (first | (refine wpList_new rfl 44 rfl _ Try.new44 ?_; refine Hid.out ?_))
        refine hid_in ?_
        have H8 := Keep.mk (Blk.new w1 44 (u64A fun _ => 0))
        have HBb := Keep.mk (HBa.out.alloc HBa.out.size (.cells (u64A fun _ => 0) 44))
        have H7b := Keep.mk (H7.out.alloc (.cells (u64A fun _ => 0) 44))
        have H4b := Keep.mk (H4a.out.alloc (.cells (u64A fun _ => 0) 44))
        obtain ⟨g8, hg8⟩ : ∃ g, Keep (g = w1.heap.size) := ⟨_, ⟨rfl⟩⟩
        have hl7 := H7.out.lt
        have hl4 := H4a.out.lt
        have hge8 : w.heap.size ≤ g8 := by rw [hg8.out]; exact HBa.out.size
        rw [← hg8.out] at H8 hl7 hl4 ⊢
        generalize w1.alloc (.cells (u64A fun _ => 0) 44) = w2 at *
        have HN8 := Keep.mk (show g7 ≠ g8 ∧ g4 ≠ g8 by omega)
        clear H7 H4a HBa hl7 hl4 hg8
        have HC : Keep (∀ i, 0 ≤ shaP (seedL s x) i ∧ shaP (seedL s x) i < 256) := ⟨shaP_rng _⟩
        have HM : Keep (∀ i, i < 32 → cm[i]? = some (.int .u8 (shaP (seedL s x) i))) := ⟨fun i hi => by rw [Hcm.out]; exact bytesA_get _ _ _ hi⟩
        have HNM : Keep (u64A (numF (shaP (seedL s x)) 4) = u64A (nums s x)) := ⟨numF_nums s x⟩
        obtain ⟨c, hc⟩ : ∃ c, shaP (seedL s x) = c := ⟨_, rfl⟩
        rw [hc] at HC HM HNM
        go_wp2_with fail
        go_loopw [26] (fun i wr => ∃ t : Nat, t ≤ 4 ∧ i = .int .i64 t ∧ Blk wr g8 44 (u64A (numF c t)) ∧ Blk wr g7 25 cm ∧ Blk wr g4 44 (u64A fun _ => 0) ∧ Below w.heap.size w wr) (fun i _ => 4 - (intOf i).toNat)
        case atStart => exact ⟨0, by omega, rfl, (show numF c 0 = fun _ => 0 from funext fun i => by simp [numF]) ▸ H8.out, H7b.out, H4b.out, HBb.out⟩
        case round =>
          clear H8 H7b H4b HBb
          obtain ⟨t, ht, rfl, h8, h7, h4, hB⟩ := hrel
          by_cases hlt : t < 4
          · have hlt' : (t : Int) < 4 := by omega
            rw [← numU_zero] at h8
            have H8 := Keep.mk h8
            have H7 := Keep.mk h7
            have H4 := Keep.mk h4
            have HB := Keep.mk hB
            clear h8 h7 h4 hB
            go_wp2_with fail
            go_loopw [29] (fun i wr => ∃ k : Nat, k ≤ 8 ∧ i = .int .i64 k ∧ Blk wr g8 44 (u64A (numU c t k)) ∧ Blk wr g7 25 cm ∧ Blk wr g4 44 (u64A fun _ => 0) ∧ Below w.heap.size w wr) (fun i _ => 8 - (intOf i).toNat)
            case atStart => exact ⟨0, by omega, rfl, H8.out, H7.out, H4.out, HB.out⟩
            case round =>
              clear H8 H7 H4 HB
              obtain ⟨k, hk, rfl, h8, h7, h4, hB⟩ := hrel
              by_cases hkl : k < 8
              · have hkl' : (k : Int) < 8 := by omega
                obtain ⟨y, hy⟩ : ∃ y, lsum c t k = y := ⟨_, rfl⟩
                obtain ⟨z, hz⟩ : ∃ z, c (8 * t + k) = z := ⟨_, rfl⟩
                have hyr := lsum_rng c HC.out t k
                have hzr := HC.out (8 * t + k)
                have hor := or_next y z k hkl (hy ▸ hyr) (hz ▸ hzr)
                have hc8 : wr.drew.cell? ⟨g8, t, none⟩ = some (.int .u64 y) := by
                  rw [h8.drew.cell, u64A_get _ _ hlt]
                  simp [numU, hy]
                have hc7 : wr.drew.cell? ⟨g7, 8 * t + k, none⟩ = some (.int .u8 z) := by
                  rw [h7.drew.cell, HM.out _ (by omega), hz]
                have H8n := Keep.mk (h8.drew.set t (.int .u64 (y + z * 2 ^ (8 * k))))
                rw [u64A_set, ← hy, ← hz, numU_next c t k, hy, hz] at H8n
                have H7n := Keep.mk (h7.drew.set_ne (b' := g8) (j := t) HN8.out.1 (.int .u64 (y + z * 2 ^ (8 * k))))
                have H4n := Keep.mk (h4.drew.set_ne (b' := g8) (j := t) HN8.out.2 (.int .u64 (y + z * 2 ^ (8 * k))))
                have HBn := Keep.mk ((hB.drew).setCell hge8 (p := ⟨g8, t, none⟩) (.int .u64 (y + z * 2 ^ (8 * k))))
                have ff : wr.drew.frozen? ⟨g8, t, none⟩ = false := h8.drew.frozen t
                rw [hz] at hzr
                obtain ⟨j, hj⟩ : ∃ j, Keep (j = 8 * t + k) := ⟨_, ⟨rfl⟩⟩
                have hj32 : (j : Int) < 32 := by rw [hj.out]; omega
                have hw1 : IntKind.i64.wrap (8 * (t : Int)) = 8 * (t : Int) := by rw [IntKind.wrap_i64]; omega
                have hw2 : IntKind.i64.wrap (8 * (t : Int) + (k : Int)) = (j : Int) := by rw [IntKind.wrap_i64, hj.out]; omega
                have hw3 : IntKind.i64.wrap (8 * (k : Int)) = 8 * (k : Int) := by rw [IntKind.wrap_i64]; omega
                rw [← hj.out] at hc7
                have h8k : (8 * (k : Int)).toNat = 8 * k := by omega
                have hz64 : IntKind.u64.wrap z = z := by rw [IntKind.wrap_u64]; omega
                have hp56 : (2 : Int) ^ (8 * k) ≤ 72057594037927936 := by
                  have h : ∀ k : Fin 8, (2 : Int) ^ (8 * k.val) ≤ 72057594037927936 := by decide
                  exact h ⟨k, hkl⟩
                have hsh : IntKind.u64.wrap (z * 2 ^ (8 * k)) = z * 2 ^ (8 * k) := by
                  have h1 : 0 ≤ z * 2 ^ (8 * k) := Int.mul_nonneg hzr.1 (Int.le_of_lt (Int.pow_pos (by omega)))
                  have h2 : z * 2 ^ (8 * k) ≤ 255 * 72057594037927936 := Int.mul_le_mul (by omega) hp56 (Int.le_of_lt (Int.pow_pos (by omega))) (by omega)
                  rw [IntKind.wrap_u64]; omega
                have h7x : Keep ((wr.drew.setCell ⟨g8, t, none⟩ (.int .u64 (y + z * 2 ^ (8 * k)))).cell? ⟨g7, j, none⟩ = some (.int .u8 z)) := ⟨by rw [H7n.out.cell, HM.out _ (by rw [hj.out]; omega), hj.out, hz]⟩
                clear h8 h7 h4 hB hy hz hyr hp56
                go_wp2_with fail
                refine wp_region_held_drew (S := fun wx => wx.cell? ⟨g7, j, none⟩ = some (.int .u8 z)) (by kernel_rfl) hc7 (fun hHeld => ?_)
                generalize wr.drew = wd at *
                refine wpAnyH_take (i := 0) (oi := ⟨some 32, Op.move (Operand.tmp 9), 3, _, _, none⟩) (v := .int .i64 (t : Int)) rfl (by kernel_rfl) (by kernel_rfl) (by kernel_rfl) (fun _ _ _ h => h) (Or.inl ⟨by rfl, fun w hS => by go_simp⟩) hHeld ?_
                simp only [Act.put, List.setIfInBounds_toArray, List.set_cons_zero, List.set_cons_succ]
                refine wpAnyH_take (i := 1) (oi := ⟨some 33, Op.indexAddr 44 (Operand.tmp 8) (Operand.tmp 32), 0, _, _, none⟩) (v := .pointer (some ⟨g8, t, none⟩)) rfl (by kernel_rfl) (by kernel_rfl) (by kernel_rfl) (fun _ _ _ h => h) (Or.inl ⟨by rfl, fun w hS => by go_simp⟩) hHeld ?_
                simp only [Act.put, List.setIfInBounds_toArray, List.set_cons_zero, List.set_cons_succ]
                refine wpAnyH_take (i := 3) (oi := ⟨some 35, Op.move (Operand.tmp 9), 3, _, _, none⟩) (v := .int .i64 (t : Int)) rfl (by kernel_rfl) (by kernel_rfl) (by kernel_rfl) (fun _ _ _ h => h) (Or.inl ⟨by rfl, fun w hS => by go_simp⟩) hHeld ?_
                simp only [Act.put, List.setIfInBounds_toArray, List.set_cons_zero, List.set_cons_succ]
                refine wpAnyH_take (i := 4) (oi := ⟨some 36, Op.binOp BinOp.mul 3 (Operand.const (Value.int IntKind.i64 8)) (Operand.tmp 35) 3, 3, _, _, none⟩) (v := .int .i64 (8 * (t : Int))) rfl (by kernel_rfl) (by kernel_rfl) (by kernel_rfl) (fun _ _ _ h => h) (Or.inl ⟨by rfl, fun w hS => by go_simp⟩) hHeld ?_
                simp only [Act.put, List.setIfInBounds_toArray, List.set_cons_zero, List.set_cons_succ]
                refine wpAnyH_take (i := 5) (oi := ⟨some 37, Op.move (Operand.tmp 10), 3, _, _, none⟩) (v := .int .i64 (k : Int)) rfl (by kernel_rfl) (by kernel_rfl) (by kernel_rfl) (fun _ _ _ h => h) (Or.inl ⟨by rfl, fun w hS => by go_simp⟩) hHeld ?_
                simp only [Act.put, List.setIfInBounds_toArray, List.set_cons_zero, List.set_cons_succ]
                refine wpAnyH_take (i := 6) (oi := ⟨some 38, Op.binOp BinOp.add 3 (Operand.tmp 36) (Operand.tmp 37) 3, 3, _, _, none⟩) (v := .int .i64 (j : Int)) rfl (by kernel_rfl) (by kernel_rfl) (by kernel_rfl) (fun _ _ _ h => h) (Or.inl ⟨by rfl, fun w hS => by go_simp⟩) hHeld ?_
                simp only [Act.put, List.setIfInBounds_toArray, List.set_cons_zero, List.set_cons_succ]
                refine wpAnyH_take (i := 7) (oi := ⟨some 39, Op.indexAddr 25 (Operand.tmp 7) (Operand.tmp 38), 0, _, _, none⟩) (v := .pointer (some ⟨g7, j, none⟩)) rfl (by kernel_rfl) (by kernel_rfl) (by kernel_rfl) (fun _ _ _ h => h) (Or.inl ⟨by rfl, fun w hS => by go_simp⟩) hHeld ?_
                simp only [Act.put, List.setIfInBounds_toArray, List.set_cons_zero, List.set_cons_succ]
                refine wpAnyH_take (i := 8) (oi := ⟨some 40, Op.load 5 (Operand.tmp 39), 5, _, _, none⟩) (v := .int .u8 z) rfl (by kernel_rfl) (by kernel_rfl) (by kernel_rfl) (fun _ _ _ h => h) (Or.inl ⟨by rfl, fun w hS => by go_simp⟩) hHeld ?_
                simp only [Act.put, List.setIfInBounds_toArray, List.set_cons_zero, List.set_cons_succ]
                refine wpAnyH_take (i := 9) (oi := ⟨some 41, Op.convert 5 22 (Operand.tmp 40), 22, _, _, none⟩) (v := .int .u64 z) rfl (by kernel_rfl) (by kernel_rfl) (by kernel_rfl) (fun _ _ _ h => h) (Or.inl ⟨by rfl, fun w hS => by go_simp⟩) hHeld ?_
                simp only [Act.put, List.setIfInBounds_toArray, List.set_cons_zero, List.set_cons_succ]
                refine wpAnyH_take (i := 10) (oi := ⟨some 42, Op.move (Operand.tmp 10), 3, _, _, none⟩) (v := .int .i64 (k : Int)) rfl (by kernel_rfl) (by kernel_rfl) (by kernel_rfl) (fun _ _ _ h => h) (Or.inl ⟨by rfl, fun w hS => by go_simp⟩) hHeld ?_
                simp only [Act.put, List.setIfInBounds_toArray, List.set_cons_zero, List.set_cons_succ]
                refine wpAnyH_take (i := 11) (oi := ⟨some 43, Op.binOp BinOp.mul 3 (Operand.const (Value.int IntKind.i64 8)) (Operand.tmp 42) 3, 3, _, _, none⟩) (v := .int .i64 (8 * (k : Int))) rfl (by kernel_rfl) (by kernel_rfl) (by kernel_rfl) (fun _ _ _ h => h) (Or.inl ⟨by rfl, fun w hS => by go_simp⟩) hHeld ?_
                simp only [Act.put, List.setIfInBounds_toArray, List.set_cons_zero, List.set_cons_succ]
                refine wpAnyH_take (i := 12) (oi := ⟨some 44, Op.binOp BinOp.shl 22 (Operand.tmp 41) (Operand.tmp 43) 3, 22, _, _, none⟩) (v := .int .u64 (z * 2 ^ (8 * k))) rfl (by kernel_rfl) (by kernel_rfl) (by kernel_rfl) (fun _ _ _ h => h) (Or.inl ⟨by rfl, fun w hS => by go_simp⟩) hHeld ?_
                simp only [Act.put, List.setIfInBounds_toArray, List.set_cons_zero, List.set_cons_succ]
                refine wpAnyH_ready (rs := [2]) (by kernel_rfl) (by simp) ?_
                refine AllReadyH.cons (o := ⟨some 34, Op.load 22 (Operand.tmp 33), 22, _, _, none⟩) rfl (fun K hK => ?_) (AllReadyH.nil)
                all_goals rw [if_pos (by rfl)]
                refine wp_val (.int .u64 y) (by go_simp) ?_
                refine hK.out _ _ hHeld fun hHeld => ?_
                clear hK
                simp only [Act.put, List.setIfInBounds_toArray, List.set_cons_zero, List.set_cons_succ]
                refine wpAnyH_take (i := 13) (oi := ⟨some 45, Op.binOp BinOp.or 22 (Operand.tmp 34) (Operand.tmp 44) 22, 22, _, _, none⟩) (v := .int .u64 (y + z * 2 ^ (8 * k))) rfl (by kernel_rfl) (by kernel_rfl) (by kernel_rfl) (fun _ _ _ h => h) (Or.inl ⟨by rfl, fun w hS => by go_simp⟩) hHeld ?_
                simp only [Act.put, List.setIfInBounds_toArray, List.set_cons_zero, List.set_cons_succ]
                refine wpAnyH_take (i := 14) (oi := ⟨some 46, Op.indexAddr 44 (Operand.tmp 8) (Operand.tmp 32), 0, _, _, none⟩) (v := .pointer (some ⟨g8, t, none⟩)) rfl (by kernel_rfl) (by kernel_rfl) (by kernel_rfl) (fun _ _ _ h => h) (Or.inl ⟨by rfl, fun w hS => by go_simp⟩) hHeld ?_
                simp only [Act.put, List.setIfInBounds_toArray, List.set_cons_zero, List.set_cons_succ]
                refine wpAnyH_ready (rs := [15]) (by kernel_rfl) (by simp) ?_
                refine AllReadyH.cons (o := ⟨none, Op.store 22 (Operand.tmp 46) (Operand.tmp 45), 0, _, _, none⟩) rfl (fun K hK => ?_) (AllReadyH.nil)
                all_goals rw [if_pos (by rfl)]
                go_simp
                refine hK.out _ _ (h7x.out) fun _ => ?_
                clear hK
                refine wpAnyH_done (by kernel_rfl) ?_ _
                generalize wd.setCell ⟨g8, t, none⟩ (.int .u64 (y + z * 2 ^ (8 * k))) = we at *
                clear hc8 hc7 ff hHeld h7x
                go_wp2
                go_roundw
                case rel => exact ⟨k + 1, by omega, by go_num, H8n.out, H7n.out, H4n.out, HBn.out⟩
                case measure => simp only [intOf]; omega
              · obtain rfl : k = 8 := by omega
                rw [show ((8 : Nat) : Int) = 8 from rfl]
                have H8 := Keep.mk (numU_full c t ▸ h8)
                have H7 := Keep.mk h7
                have H4 := Keep.mk h4
                have HB := Keep.mk hB
                clear h8 h7 h4 hB
                go_wp2
                go_roundw
                case rel => exact ⟨t + 1, by omega, by go_num, H8.out, H7.out, H4.out, HB.out⟩
                case measure => simp only [intOf]; omega
          · obtain rfl : t = 4 := by omega
            rw [show ((4 : Nat) : Int) = 4 from rfl]
            have H8 := Keep.mk (HNM.out ▸ h8)
            have H4 := Keep.mk h4
            have HB := Keep.mk hB
            clear h8 h7 h4 hB HNM HM HC Hcm HOcm HIcm HZcm
            obtain ⟨cn, Hcn⟩ : ∃ cn, Keep (cn = u64A (nums s x)) := ⟨_, ⟨rfl⟩⟩
            have HIcn : Keep ((Try.prog.info? 44).map (·.size) = some cn.size) := ⟨by rw [Hcn.out]; exact Try.size44U _⟩
            have HOcn : Keep (cn.all (·.oneCell') = true) := ⟨by rw [Hcn.out]; exact u64A_one _⟩
            have HZcn : Keep ((u64A fun _ => 0).size = cn.size) := ⟨by rw [Hcn.out, u64A_size, u64A_size]⟩
            rw [← Hcn.out] at H8
            go_wp2_with (first | (refine wpList_load_row rfl 44 (.tmp 8) rfl g8 rfl 44 cn (0, 0) (.array 4 22) H8.out Try.underlying44 rfl HIcn.out ?_) | (refine wpList_store_row rfl 44 (.tmp 4) (.tmp 49) rfl g4 cn rfl rfl 44 (u64A fun _ => 0) H4.out HIcn.out HZcn.out HOcn.out ?_))
            exact bodyPost_ret (v := .agg cn) (results_cell_row Try.results14 _ _ g4 44 _ (0, 0) _ rfl (H4.out.setRow cn) Try.underlying44 rfl HIcn.out) rfl ⟨by rw [Hcn.out], below_setRow HB.out hge4 cn⟩

end Go.Proofs.Ytfheinghkigocab
namespace Go.Proofs.Ytfheinghkigocab
open Go.RowKit
set_option linter.unusedSimpArgs false
set_option linter.unusedVariables false

/-! ### Rows of numbers. -/
def iv (l : List Int) : List Value := l.map fun c => .int .i64 c
theorem iv_len (l : List Int) : (iv l).length = l.length := by simp [iv]
theorem iv_get (l : List Int) (i : Nat) (h : i < l.length) : (iv l)[i]? = some (.int .i64 (l.getD i 0)) := by
  simp [iv, h, List.getD]
theorem iv_app (a b : List Int) : iv (a ++ b) = iv a ++ iv b := by simp [iv]
theorem iv_one (l : List Int) : ∀ u ∈ iv l, u.oneCell' = true := fun u hu => by simp [iv] at hu; obtain ⟨_, _, rfl⟩ := hu; rfl
theorem iv_set (l : List Int) (t : Nat) (c : Int) : (iv l).set t (.int .i64 c) = iv (l.set t c) := by simp [iv, List.map_set]
def OwnJ (w : World) (v : Value) (l : List Int) : Prop :=
  (v = .slice none 0 0 ∧ l = []) ∨ ∃ g cap cur T, v = .slice (some ⟨g, 0, none⟩) l.length cap ∧ Blk w g T cur ∧ (T = 3 ∨ T = 40 ∧ l.length = cap) ∧ l.length ≤ cap ∧ cap ≤ maxLen ∧ cur.size = cap ∧ cur.toList.take l.length = iv l
theorem ownJ_nil (w : World) : OwnJ w (.slice none 0 0) [] := .inl ⟨rfl, rfl⟩
theorem OwnJ.sl {w : World} {v : Value} {l : List Int} (h : OwnJ w v l) : ∃ a c, v = .slice a l.length c := by
  rcases h with ⟨rfl, rfl⟩ | ⟨g, cap, cur, T, rfl, _⟩
  · exact ⟨_, _, rfl⟩
  · exact ⟨_, _, rfl⟩
theorem take_getJ {cur : Array Value} {l : List Int} {n : Nat} (h : cur.toList.take n = iv l) (hl : l.length = n) (t : Nat) (ht : t < n) : cur[t]? = some (.int .i64 (l.getD t 0)) := by
  have h2 : (cur.toList.take n)[t]? = some (.int .i64 (l.getD t 0)) := by rw [h, iv_get _ _ (by omega)]
  rw [List.getElem?_take, if_pos ht, Array.getElem?_toList] at h2
  exact h2
theorem OwnJ.at {w : World} {a : Option Addr} {n c : Nat} {l : List Int} (h : OwnJ w (.slice a n c) l) {i : Nat} (hi : i < l.length) : ∃ b, a = some ⟨b, 0, none⟩ ∧ w.cell? ⟨b, i, none⟩ = some (.int .i64 (l.getD i 0)) ∧ w.frozen? ⟨b, i, none⟩ = false ∧ b < w.heap.size := by
  rcases h with ⟨_, rfl⟩ | ⟨g, cap, cur, T, e, hg, _, _, _, _, ht⟩
  · simp at hi
  · injection e with e1 e2 e3
    exact ⟨g, e1, by rw [hg.cell, take_getJ ht rfl i hi], hg.frozen i, hg.lt⟩
theorem OwnJ.lt {w : World} {v : Value} {l : List Int} (h : OwnJ w v l) : ∀ k, v.ownBlock = some k → k < w.heap.size := fun k hk => by
  rcases h with ⟨rfl, rfl⟩ | ⟨g, cap, cur, T, rfl, hg, _⟩
  · simp [Value.ownBlock] at hk
  · simp [Value.ownBlock] at hk; subst hk; exact hg.lt
theorem OwnJ.grown {w w' : World} {v : Value} {l : List Int} {S : Nat → Prop} (h : OwnJ w v l) (hg : Grown w w' S) (hs : ∀ k, v.ownBlock = some k → ¬ S k) : OwnJ w' v l := by
  rcases h with h | ⟨g, cap, cur, T, rfl, hb, h2⟩
  · exact .inl h
  · exact .inr ⟨g, cap, cur, T, rfl, hg.blk hb (hs g rfl), h2⟩
theorem OwnJ.below {w w' : World} {v : Value} {l : List Int} (h : OwnJ w v l) (hb : Below w.heap.size w w') : OwnJ w' v l := h.grown (Grown.below (S := fun _ => False) hb) fun _ _ h => h
theorem OwnJ.ne {w : World} {v : Value} {l : List Int} (h : OwnJ w v l) {g : Nat} {T : TypeId} {cs : Array Value} (hg : Blk w g T cs) (hT : T ≠ 3 ∧ T ≠ 40) : v.ownBlock ≠ some g := fun e => by
  rcases h with ⟨rfl, rfl⟩ | ⟨g', cap, cur, T', rfl, hb, hq, _⟩
  · simp [Value.ownBlock] at e
  · simp [Value.ownBlock] at e
    subst e
    have := blk_type hg hb
    rcases hq with h | ⟨h, _⟩
    · exact hT.1 (this.trans h)
    · exact hT.2 (this.trans h)
theorem OwnJ.set {w : World} {g n cap : Nat} {l : List Int} (h : OwnJ w (.slice (some ⟨g, 0, none⟩) n cap) l) (t : Nat) (c : Int) : OwnJ (w.setCell ⟨g, t, none⟩ (.int .i64 c)) (.slice (some ⟨g, 0, none⟩) n cap) (l.set t c) := by
  rcases h with ⟨e, _⟩ | ⟨g', cap', cur, T, e, hg, hT, h1, h2, h3, h4⟩
  · cases e
  · injection e with e1 e2 e3
    injection e1 with e1
    injection e1 with e1
    subst e1 e2 e3
    refine .inr ⟨g, cap, cur.setIfInBounds t (.int .i64 c), T, by rw [List.length_set], hg.set t _, by rw [List.length_set]; exact hT, by rw [List.length_set]; exact h1, h2, by simp [h3], ?_⟩
    rw [Array.toList_setIfInBounds, List.length_set, List.take_set, h4, iv_set]
theorem OwnJ.setNe {w : World} {v : Value} {l : List Int} (h : OwnJ w v l) {g : Nat} (hg : v.ownBlock ≠ some g) (t : Nat) (c : Value) : OwnJ (w.setCell ⟨g, t, none⟩ c) v l :=
  h.grown (Grown.setCell w g t c (S := fun k => k = g) fun _ => rfl) fun _ hk e => hg (e ▸ hk)
theorem Try.info3 : (Try.prog.info? 3).map (fun i => (i.zero, i.size, i.bytes)) = some (some (.int .i64 0), 1, 8) := by kernel_rfl
def AppPostJ (w : World) (v : Value) (l : List Int) (v' : Value) (w' : World) : Prop :=
  OwnJ w' v' l ∧ ((v'.ownBlock = v.ownBlock ∧ (Grown w w' fun k => v.ownBlock = some k) ∧ ∀ a n c, v = .slice a n c → n < c) ∨ (v'.ownBlock = some w.heap.size ∧ Below w.heap.size w w'))
theorem AppPostJ.grown {w w' : World} {v v' : Value} {l : List Int} (h : AppPostJ w v l v' w') : Grown w w' fun k => v.ownBlock = some k := by
  rcases h.2 with h | h
  · exact h.2.1
  · exact Grown.below h.2
end Go.Proofs.Ytfheinghkigocab
