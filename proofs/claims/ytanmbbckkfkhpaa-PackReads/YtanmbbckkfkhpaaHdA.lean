import Derived.Test.YtanmbbckkfkhpaaRdF
import Derived.Test.YtanmbbckkfkhpaaLaysA
namespace Go.Proofs.Ytanmbbckkfkhpaa
open Go.RowKit

/-- The cells of a held reader: its two readers, the first error, the book. -/
def kxH (p x : Nat) (first : Value) (a b : Value) (n : Int) : Array Value := #[ptr p, ptr x, first, a, b, .int .i64 n, .bool false]
theorem boxH (p x : Nat) (first : Value) : Box 3 (kxH p x first) where
  g0 _ _ _ := rfl
  g1 _ _ _ := rfl
  g2 _ _ _ := rfl
  g3 _ _ _ := rfl
  s0 _ _ _ _ := rfl
  s1 _ _ _ _ := rfl
  s2 _ _ _ _ := rfl
  s3 _ _ _ := rfl
/-- An error as a value. -/
def errV : Option Nat → Value
  | none => .nilIface
  | some q => err q
/-- How an error stands, and that it is none of the book's. -/
def ErrSt (B : Nat) (F : Nat → Prop) (w : World) (why : Int) (a : Nat) (bad : Option Nat) : Prop :=
  (why = 0 ∧ bad = none) ∨ (why ≠ 0 ∧ ∃ q, bad = some q ∧ BadAt w q why a ∧ ¬ F q ∧ B ≤ q)
/-- A held reader between two of its calls. -/
structure Mid (wB : World) (hb p x : Nat) (s : ByteArray) (vB : Value) (aP : Nat) (whyP : Int) (badP : Option Nat) (aR : Nat) (whyR bR : Int) (first : Value) (F : Nat → Prop) (w : World) : Prop where
  rd : InAt w p s aP badP
  rf : RfAt w x vB aR whyR bR
  er : ErrSt wB.heap.size F w whyP aP badP
  bk : BookIn hb 60 (kxH p x first) F w
  sep : ∀ k, F k → wB.heap.size ≤ k ∧ k ≠ p ∧ k ≠ x ∧ k ≠ hb ∧ k < w.heap.size
  lo : wB.heap.size ≤ p ∧ wB.heap.size ≤ x ∧ wB.heap.size ≤ hb
  below : Below wB.heap.size wB w
theorem BookIn.blk {kb T : Nat} {kx : Value → Value → Int → Array Value} {F : Nat → Prop} {w : World} (h : BookIn kb T kx F w) : ∃ lv gv n, Blk w kb T (kx lv gv n) := by
  obtain ⟨lv, gv, N, A, B, n, h1, _⟩ := h
  exact ⟨lv, gv, n, h1⟩
theorem ErrSt.grown {B : Nat} {F F' S : Nat → Prop} {w w' : World} {why : Int} {a : Nat} {bad : Option Nat} (h : ErrSt B F w why a bad) (hg : Grown w w' S) (hs : ∀ q, bad = some q → BadAt w q why a → ¬ F q → ¬ S q ∧ ¬ F' q) : ErrSt B F' w' why a bad := by
  rcases h with h | ⟨h0, q, h1, h2, h3, h4⟩
  · exact .inl h
  · exact .inr ⟨h0, q, h1, hg.blk h2 (hs q h1 h2 h3).1, (hs q h1 h2 h3).2, h4⟩
variable {wB : World} {hb p x : Nat} {s : ByteArray} {vB : Value} {aP : Nat} {whyP : Int} {badP : Option Nat} {aR : Nat} {whyR bR : Int} {first : Value} {F : Nat → Prop} {w w' : World}
theorem Mid.hbk (h : Mid wB hb p x s vB aP whyP badP aR whyR bR first F w) : ∃ lv gv n, Blk w hb 60 (kxH p x first lv gv n) := BookIn.blk h.bk
theorem Mid.ne (h : Mid wB hb p x s vB aP whyP badP aR whyR bR first F w) : p ≠ x ∧ p ≠ hb ∧ x ≠ hb := by
  obtain ⟨lv, gv, n, hk⟩ := h.hbk
  exact ⟨blk_ne h.rd.blk h.rf (by decide), blk_ne h.rd.blk hk (by decide), blk_ne h.rf hk (by decide)⟩
/-- More behind it. -/
theorem Mid.grown {S : Nat → Prop} (h : Mid wB hb p x s vB aP whyP badP aR whyR bR first F w) (hg : Grown w w' S) (hS : ∀ k, k < w.heap.size → ¬ S k) : Mid wB hb p x s vB aP whyP badP aR whyR bR first F w' where
  rd := ⟨hg.blk h.rd.blk (hS _ h.rd.blk.lt), h.rd.le⟩
  rf := hg.blk h.rf (hS _ (Blk.lt h.rf))
  er := h.er.grown hg fun q _ hq hF => ⟨hS q (Blk.lt hq), hF⟩
  bk := h.bk.grown hg (hS _ (bk_lt h.bk)) (fun k hk => hS k (h.sep k hk).2.2.2.2) fun _ h => h
  sep k hk := by have := h.sep k hk; have := hg.size; exact ⟨by omega, by omega, by omega, by omega, by omega⟩
  lo := h.lo
  below := h.below.trans (hg.to_below (fun k hk => hS k (Nat.lt_of_lt_of_le hk h.below.size)) h.below.size)
theorem Mid.later (h : Mid wB hb p x s vB aP whyP badP aR whyR bR first F w) (hb' : Below w.heap.size w w') : Mid wB hb p x s vB aP whyP badP aR whyR bR first F w' :=
  h.grown (Grown.below (S := fun _ => False) hb') fun _ _ h => h
theorem Mid.drew (h : Mid wB hb p x s vB aP whyP badP aR whyR bR first F w) : Mid wB hb p x s vB aP whyP badP aR whyR bR first F w.drew :=
  h.grown ((Grown.refl w fun _ => False).drew) fun _ _ h => h
theorem Mid.drewN (h : Mid wB hb p x s vB aP whyP badP aR whyR bR first F w) (n : Nat) : Mid wB hb p x s vB aP whyP badP aR whyR bR first F (w.drewN n) :=
  h.grown ((Grown.refl w fun _ => False).drewN n) fun _ _ h => h
/-- How an error stands behind a call of the program's reader. -/
def ErrN (w w' : World) (why : Int) (a : Nat) (bad : Option Nat) (why' : Int) (a' : Nat) (bad' : Option Nat) : Prop :=
  (bad = none ∧ ((why' = 0 ∧ bad' = none) ∨ (why' ≠ 0 ∧ ∃ q, w.heap.size ≤ q ∧ bad' = some q ∧ BadAt w' q why' a'))) ∨ (bad ≠ none ∧ bad' = bad ∧ why' = why ∧ a' = a)
theorem ErrN.keep {why : Int} {a : Nat} {bad : Option Nat} {why' : Int} {a' : Nat} {bad' : Option Nat} (h : ErrN w w' why a bad why' a' bad') : bad = none ∨ bad' = bad := by
  rcases h with h | h
  · exact .inl h.1
  · exact .inr h.2.1
/-- The program's reader has done a call. -/
theorem Mid.prog {a' : Nat} {why' : Int} {bad' : Option Nat} (h : Mid wB hb p x s vB aP whyP badP aR whyR bR first F w) (h1 : InAt w' p s a' bad') (hg : Grown w w' fun k => k = p) (he : ErrN w w' whyP aP badP why' a' bad') :
    Mid wB hb p x s vB a' why' bad' aR whyR bR first F w' where
  rd := h1
  rf := hg.blk h.rf fun e => h.ne.1 e.symm
  er := by
    rcases he with ⟨_, h2 | ⟨h0, q, h2, h3, h4⟩⟩ | ⟨_, rfl, rfl, rfl⟩
    · exact .inl h2
    · exact .inr ⟨h0, q, h3, h4, fun hF => by have := (h.sep q hF).2.2.2.2; omega, Nat.le_trans h.below.size h2⟩
    · exact h.er.grown hg fun q _ hq hF => ⟨fun e => blk_ne hq h.rd.blk (by decide) e, hF⟩
  bk := h.bk.grown hg (fun e => h.ne.2.1 e.symm) (fun k hk => (h.sep k hk).2.1) fun _ h => h
  sep k hk := by have := h.sep k hk; have := hg.size; exact ⟨by omega, by omega, by omega, by omega, by omega⟩
  lo := h.lo
  below := h.below.trans (hg.to_below (fun k hk e => by have := h.lo.1; omega) h.below.size)
/-- The document's reader has done a call. -/
theorem Mid.ref {a' : Nat} {why' b' : Int} (h : Mid wB hb p x s vB aP whyP badP aR whyR bR first F w) (h1 : RfAt w' x vB a' why' b') (hg : Grown w w' fun k => k = x) :
    Mid wB hb p x s vB aP whyP badP a' why' b' first F w' where
  rd := ⟨hg.blk h.rd.blk h.ne.1, h.rd.le⟩
  rf := h1
  er := h.er.grown hg fun q _ hq hF => ⟨fun e => blk_ne hq h.rf (by decide) e, hF⟩
  bk := h.bk.grown hg (fun e => h.ne.2.2 e.symm) (fun k hk => (h.sep k hk).2.2.1) fun _ h => h
  sep k hk := by have := h.sep k hk; have := hg.size; exact ⟨by omega, by omega, by omega, by omega, by omega⟩
  lo := h.lo
  below := h.below.trans (hg.to_below (fun k hk e => by have := h.lo.2.1; omega) h.below.size)
/-- The first error is kept. -/
theorem Mid.told {first' : Value} (h : Mid wB hb p x s vB aP whyP badP aR whyR bR first F w) : Mid wB hb p x s vB aP whyP badP aR whyR bR first' F (w.setCell ⟨hb, 2, none⟩ first') := by
  have hg : Grown w (w.setCell ⟨hb, 2, none⟩ first') fun k => k = hb := Grown.setCell w hb 2 _ fun _ => rfl
  obtain ⟨lv, gv, N, A, B, n, h1, h2, h3⟩ := h.bk
  refine ⟨⟨hg.blk h.rd.blk h.ne.2.1, h.rd.le⟩, hg.blk h.rf h.ne.2.2, h.er.grown hg fun q _ hq hF => ⟨fun e => blk_ne hq h1 (by decide) e, hF⟩, ⟨lv, gv, N, A, B, n, ?_, h2.grown hg fun k hk => (h.sep k hk).2.2.2.1, h3⟩, fun k hk => ?_, h.lo, ?_⟩
  · exact h1.set 2 first'
  · have := h.sep k hk; have := hg.size; exact ⟨by omega, by omega, by omega, by omega, by omega⟩
  · exact h.below.trans (hg.to_below (fun k hk e => by have := h.lo.2.2; omega) h.below.size)
/-- A list put into the book. -/
theorem Mid.added {vb : Value} {lb : List Int} {e : Ending} (h : Mid wB hb p x s vB aP whyP badP aR whyR bR first F w) (hv : OwnT w vb lb) (hl : ∀ k, vb.ownBlock = some k → wB.heap.size ≤ k)
    (hp : AddPost hb 60 (kxH p x first) vb F w e w') : e = .returned (.tuple #[]) ∧ Mid wB hb p x s vB aP whyP badP aR whyR bR first (fun k => F k ∨ vb.ownBlock = some k ∨ (w.heap.size ≤ k ∧ k < w'.heap.size)) w' := by
  obtain ⟨rfl, hbk, hg⟩ := hp
  obtain ⟨lv, gv, n, hk⟩ := h.hbk
  have nb : ∀ {k : Nat} {T : TypeId} {cs : Array Value}, Blk w k T cs → T ≠ 5 → T ≠ 60 → ¬ F k → ¬ (k = hb ∨ F k ∨ vb.ownBlock = some k) := fun hb1 h5 h60 hF hs => by
    rcases hs with hs | hs | hs
    · exact blk_ne hb1 hk h60 hs
    · exact hF hs
    · exact hv.ne hb1 h5 hs
  have fp : ¬ F p := fun hF => (h.sep p hF).2.1 rfl
  have fx : ¬ F x := fun hF => (h.sep x hF).2.2.1 rfl
  refine ⟨rfl, ⟨⟨hg.blk h.rd.blk (nb h.rd.blk (by decide) (by decide) fp), h.rd.le⟩, hg.blk h.rf (nb h.rf (by decide) (by decide) fx), ?_, hbk, ?_, h.lo, ?_⟩⟩
  · refine h.er.grown hg fun q _ hq hF => ⟨nb hq (by decide) (by decide) hF, fun hF' => ?_⟩
    rcases hF' with hF' | hF' | hF'
    · exact hF hF'
    · exact hv.ne hq (by decide) hF'
    · have := Blk.lt hq; omega
  · intro k hF
    have hsz := hg.size
    rcases hF with hF | hF | hF
    · have := h.sep k hF; exact ⟨by omega, by omega, by omega, by omega, by omega⟩
    · have hlt := hv.lt k hF
      refine ⟨hl k hF, ?_, ?_, ?_, by omega⟩
      · rintro rfl; exact hv.ne h.rd.blk (by decide) hF
      · rintro rfl; exact hv.ne h.rf (by decide) hF
      · rintro rfl; exact hv.ne hk (by decide) hF
    · have l1 := h.rd.blk.lt
      have l2 := Blk.lt h.rf
      have l3 := hk.lt
      have l4 := h.below.size
      exact ⟨by omega, by omega, by omega, by omega, by omega⟩
  · refine h.below.trans (hg.to_below (fun k hk2 e => ?_) h.below.size)
    rcases e with e | e | e
    · have := h.lo.2.2; omega
    · have := (h.sep k e).1; omega
    · have := hl k e; omega
theorem Mid.adds {vb : Value} {lb : List Int} (h : Mid wB hb p x s vB aP whyP badP aR whyR bR first F w) (hv : OwnT w vb lb) (hs : ∀ k, vb.ownBlock = some k → ¬ F k) (hb' : lb.length + 60 ≤ 140737488355328) :
    Calls Try.prog 16 #[.pointer (some ⟨hb, 3, none⟩), vb] w (AddPost hb 60 (kxH p x first) vb F w) := by
  obtain ⟨lv, gv, N, A, B, n, h1, h2, h3, h4, h5⟩ := h.bk
  exact add_any hb 3 60 (kxH p x first) (boxH p x first) (by decide) (by decide) lv gv N A B n F vb lb w h1 h2 h3 h4 h5 (fun hF => (h.sep hb hF).2.2.2.1 rfl) hv hs hb'
theorem Mid.stays (h : Mid wB hb p x s vB aP whyP badP aR whyR bR first F w) : Calls Try.prog 18 #[.pointer (some ⟨hb, 3, none⟩)] w fun e w' => e = .returned (.bool true) ∧ w' = w := by
  obtain ⟨lv, gv, N, A, B, n, h1, h2, h3, _⟩ := h.bk
  exact stays_any hb 3 60 (kxH p x first) (boxH p x first) lv gv N A B n F w h1 h2 h3
theorem Mid.c0 (h : Mid wB hb p x s vB aP whyP badP aR whyR bR first F w) : w.cell? ⟨hb, 0, none⟩ = some (ptr p) := by
  obtain ⟨lv, gv, n, hk⟩ := h.hbk
  rw [hk.cell]; rfl
theorem Mid.c1 (h : Mid wB hb p x s vB aP whyP badP aR whyR bR first F w) : w.cell? ⟨hb, 1, none⟩ = some (ptr x) := by
  obtain ⟨lv, gv, n, hk⟩ := h.hbk
  rw [hk.cell]; rfl
theorem Mid.c2 (h : Mid wB hb p x s vB aP whyP badP aR whyR bR first F w) : w.cell? ⟨hb, 2, none⟩ = some first := by
  obtain ⟨lv, gv, n, hk⟩ := h.hbk
  rw [hk.cell]; rfl
theorem Mid.f2 (h : Mid wB hb p x s vB aP whyP badP aR whyR bR first F w) : w.frozen? ⟨hb, 2, none⟩ = false := by
  obtain ⟨lv, gv, n, hk⟩ := h.hbk
  exact hk.frozen 2
end Go.Proofs.Ytanmbbckkfkhpaa
