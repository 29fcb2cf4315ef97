import Derived.Test.YtanmbbckkfkhpaaHdA
namespace Go.Proofs.Ytanmbbckkfkhpaa
open Go.RowKit

def Good (why : Int) (bad : Option Nat) : Prop := (why = 0 ∧ bad = none) ∨ (why ≠ 0 ∧ ∃ q, bad = some q)
theorem Mid.good {wB : World} {hb p x : Nat} {s : ByteArray} {vB : Value} {aP : Nat} {whyP : Int} {badP : Option Nat} {aR : Nat} {whyR bR : Int} {first : Value} {F : Nat → Prop} {w : World} (h : Mid wB hb p x s vB aP whyP badP aR whyR bR first F w) : Good whyP badP := by
  rcases h.er with h | ⟨h0, q, h1, _⟩
  · exact .inl h
  · exact .inr ⟨h0, q, h1⟩
/-- What a call of the program's reader leaves, whatever it had met. -/
def PPost (p : Nat) (s : ByteArray) (why : Int) (a : Nat) (bad : Option Nat) (a' : Nat) (why' : Int) (res : Value) (w : World) (e : Ending) (w' : World) : Prop :=
  ∃ bad', e = .returned (.tuple #[res, errV bad']) ∧ InAt w' p s a' bad' ∧ (Grown w w' fun k => k = p) ∧ ErrN w w' why a bad why' a' bad'
def PPostB (p : Nat) (s : ByteArray) (why : Int) (a : Nat) (bad : Option Nat) (a' : Nat) (why' : Int) (l : List Int) (w : World) (e : Ending) (w' : World) : Prop :=
  ∃ bad' res, e = .returned (.tuple #[res, errV bad']) ∧ InAt w' p s a' bad' ∧ (Grown w w' fun k => k = p) ∧ ErrN w w' why a bad why' a' bad' ∧ OwnT w' res l ∧ ∀ k, res.ownBlock = some k → w.heap.size ≤ k
theorem ErrAs.n {w w' : World} {why' : Int} {a' : Nat} {bad' : Option Nat} {er : Value} (h : ErrAs w w' why' a' bad' er) (a : Nat) (why : Int) : er = errV bad' ∧ ErrN w w' why a none why' a' bad' := by
  rcases h with ⟨h0, rfl, rfl⟩ | ⟨h0, q, h1, rfl, rfl, h2⟩
  · exact ⟨rfl, .inl ⟨rfl, .inl ⟨h0, rfl⟩⟩⟩
  · exact ⟨rfl, .inl ⟨rfl, .inr ⟨h0, q, h1, rfl, h2⟩⟩⟩
theorem RdPost.p {p : Nat} {s : ByteArray} {why' : Int} {a' : Nat} {res : Value} {w w' : World} {e : Ending} (h : RdPost p s why' a' res w e w') (a : Nat) (why : Int) : PPost p s why a none a' why' res w e w' := by
  obtain ⟨bad, er, rfl, h1, h2, h3⟩ := h
  obtain ⟨rfl, h4⟩ := h3.n a why
  exact ⟨bad, rfl, h1, h2, h4⟩
theorem StuckPost.p {p : Nat} {s : ByteArray} {a q : Nat} {res : Value} {w w' : World} {e : Ending} (hi : InAt w p s a (some q)) (h : StuckPost q res w e w') (why : Int) : PPost p s why a (some q) a why res w e w' := by
  obtain ⟨rfl, hb⟩ := h
  exact ⟨some q, rfl, ⟨hi.blk.below hb hi.blk.lt, hi.le⟩, Grown.below hb, .inr ⟨by simp, rfl, rfl, rfl⟩⟩
theorem RdPostB.p {p : Nat} {s : ByteArray} {why' : Int} {a' : Nat} {l : List Int} {w w' : World} {e : Ending} (h : RdPostB p s why' a' l w e w') (hl : why' ≠ 0 → l = []) (a : Nat) (why : Int) : PPostB p s why a none a' why' l w e w' := by
  obtain ⟨bad, er, res, rfl, h1, h2, h3, h5⟩ := h
  obtain ⟨rfl, h4⟩ := h3.n a why
  refine ⟨bad, res, rfl, h1, h2, h4, ?_⟩
  rcases h5 with ⟨_, h6, k, h7, h8, _⟩ | ⟨h6, rfl⟩
  · exact ⟨h6, fun k' hk => by rw [h7] at hk; injection hk with hk; omega⟩
  · rw [hl h6]
    exact ⟨ownT_nil _, fun k hk => by simp [Value.ownBlock] at hk⟩
theorem StuckPost.pB {p : Nat} {s : ByteArray} {a q : Nat} {w w' : World} {e : Ending} (hi : InAt w p s a (some q)) (h : StuckPost q (.slice none 0 0) w e w') (why : Int) : PPostB p s why a (some q) a why [] w e w' := by
  obtain ⟨rfl, hb⟩ := h
  exact ⟨some q, _, rfl, ⟨hi.blk.below hb hi.blk.lt, hi.le⟩, Grown.below hb, .inr ⟨by simp, rfl, rfl, rfl⟩, ownT_nil _, fun k hk => by simp [Value.ownBlock] at hk⟩
theorem RfStuck.p {x : Nat} {vB : Value} {a : Nat} {why b : Int} {res : Value} {w w' : World} {e : Ending} (hr : RfAt w x vB a why b) (hE : ErrB why a b) (h : RfStuck why b res w e w') : RfPost x vB why a res w e w' := by
  obtain ⟨rfl, hb⟩ := h
  exact ⟨b, hE, rfl, Blk.below hr hb (Blk.lt hr), Grown.below hb⟩
theorem RfStuck.pB {x : Nat} {vB : Value} {a : Nat} {why b : Int} {w w' : World} {e : Ending} (hr : RfAt w x vB a why b) (hE : ErrB why a b) (h : RfStuck why b (.slice none 0 0) w e w') : RfPostB x vB why a [] w e w' := by
  obtain ⟨rfl, hb⟩ := h
  exact ⟨b, _, hE, rfl, Blk.below hr hb (Blk.lt hr), Grown.below hb, .inl ⟨rfl, rfl⟩, fun k hk => by simp [Value.ownBlock] at hk⟩
theorem errB_0 {a : Nat} {b : Int} (h : ErrB 0 a b) : b = 0 := by
  rcases h with h | h
  · exact h.2
  · exact absurd rfl h.1
theorem fstM_three (D : List Int) (m : Int) : fstM D m = ((fstM D m).1, (((fstM D m).2.1.toNat : Nat) : Int), (fstM D m).2.2) := by
  rw [Int.toNat_of_nonneg (fstM_shape D m).2.1]
theorem drop_byts {l : List Int} (h : Byts l) (a : Nat) : Byts (l.drop a) := fun c hc => h c (List.mem_of_mem_drop hc)
theorem fstM_rng (D : List Int) (mm : Int) (hB : Byts D) (h0 : 0 ≤ mm) : 0 ≤ (fstM D mm).1 ∧ (fstM D mm).1 ≤ mm := by
  by_cases h : (fstM D mm).2.2 = 0
  · exact fstM_le D mm hB h
  · rw [((fstM_shape D mm).1 h).1]; omega
theorem byt_none (D : List Int) (mm : Int) (h : (byt D mm).1 ≠ 0) : (byt D mm).2.2 = [] := by
  rw [byt_eq] at h ⊢
  by_cases h0 : (fstM D mm).2.2 = 0
  · rw [if_pos h0] at h ⊢
    simp only at h ⊢
    rw [nextN_1 _ _ h, List.take_zero]
  · rw [if_neg h0]
theorem byt_len (D : List Int) (mm : Int) : (byt D mm).2.2.length ≤ D.length := by
  rw [byt_eq]
  by_cases h0 : (fstM D mm).2.2 = 0
  · rw [if_pos h0]; simp only [List.length_take, List.length_drop]; omega
  · rw [if_neg h0]; simp
theorem most_nat (most : Int) (h : most ≤ 9223372036854775807) : ∃ mm : Nat, (mm : Int) = max most 0 ∧ mm ≤ 9223372036854775807 := ⟨(max most 0).toNat, by omega, by omega⟩

theorem pair_byte (p x : Nat) (s : ByteArray) (vB : Value) (a : Nat) (why : Int) (bad : Option Nat) (hs : s.size ≤ 140737488355328) (ha : a ≤ s.size) (hg : Good why bad) : ∃ (c : Int) (a' : Nat) (why' : Int),
    (∀ w, InAt w p s a bad → Calls Try.prog 45 #[ptr p] w (PPost p s why a bad a' why' (.int .u8 c) w)) ∧
    (∀ w b, RfAt w x vB a why b → ErrB why a b → (∀ wx, (Grown w wx fun k => k = x) → RowAt wx vB (lst s)) → Calls Try.prog 46 #[ptr x] w (RfPost x vB why' a' (.int .u8 c) w)) := by
  have hl : (lst s).length = s.size := lst_len s
  rcases hg with ⟨rfl, rfl⟩ | ⟨h0, q, rfl⟩
  · refine ⟨_, _, _, fun w h => (ibyte_good p s a w h hs _ rfl _ rfl _ rfl _ rfl).mono fun e w' h => RdPost.p h a 0, fun w b h hE hR => ?_⟩
    have hb0 := errB_0 hE
    subst hb0
    exact xbyte_good x vB (lst s) a w h hR (by omega) (by omega) _ rfl _ rfl _ rfl _ rfl
  · exact ⟨0, a, why, fun w h => (ibyte_bad p s a q w h).mono fun e w' h' => StuckPost.p h h' why, fun w b h hE _ => (xbyte_bad x vB a why b w h h0).mono fun e w' h' => RfStuck.p h hE h'⟩

theorem pair_num (p x : Nat) (s : ByteArray) (vB : Value) (a : Nat) (why : Int) (bad : Option Nat) (hs : s.size ≤ 140737488355328) (ha : a ≤ s.size) (hg : Good why bad) (most : Nat) : ∃ (c : Int) (a' : Nat) (why' : Int),
    (∀ w, InAt w p s a bad → Calls Try.prog 33 #[ptr p, .int .u64 (most : Int)] w (PPost p s why a bad a' why' (.int .u64 c) w)) ∧
    (∀ w b, RfAt w x vB a why b → ErrB why a b → (∀ wx, (Grown w wx fun k => k = x) → RowAt wx vB (lst s)) → Calls Try.prog 48 #[ptr x, .int .u64 (most : Int)] w (RfPost x vB why' a' (.int .u64 c) w)) := by
  have hl : (lst s).length = s.size := lst_len s
  rcases hg with ⟨rfl, rfl⟩ | ⟨h0, q, rfl⟩
  · refine ⟨_, _, _, fun w h => (inum_good p s a most w h hs).mono fun e w' h => RdPost.p h a 0, fun w b h hE hR => ?_⟩
    have hb0 := errB_0 hE
    subst hb0
    exact xnum_good x vB (lst s) a most w h hR (by omega) (by omega) (lst_byts s) _ rfl _ _ _ (fstM_three _ _)
  · exact ⟨0, a, why, fun w h => (inum_bad p s a q _ w h).mono fun e w' h' => StuckPost.p h h' why, fun w b h hE _ => (xnum_bad x vB a why b _ w h h0).mono fun e w' h' => RfStuck.p h hE h'⟩

theorem pair_signed (p x : Nat) (s : ByteArray) (vB : Value) (a : Nat) (why : Int) (bad : Option Nat) (hs : s.size ≤ 140737488355328) (ha : a ≤ s.size) (hg : Good why bad) : ∃ (c : Int) (a' : Nat) (why' : Int),
    (∀ w, InAt w p s a bad → Calls Try.prog 49 #[ptr p] w (PPost p s why a bad a' why' (.int .i64 c) w)) ∧
    (∀ w b, RfAt w x vB a why b → ErrB why a b → (∀ wx, (Grown w wx fun k => k = x) → RowAt wx vB (lst s)) → Calls Try.prog 50 #[ptr x] w (RfPost x vB why' a' (.int .i64 c) w)) := by
  have hl : (lst s).length = s.size := lst_len s
  have hr := fstM_rng ((lst s).drop a) 18446744073709551615 (drop_byts (lst_byts s) a) (by decide)
  rcases hg with ⟨rfl, rfl⟩ | ⟨h0, q, rfl⟩
  · refine ⟨_, _, _, fun w h => (isigned_good p s a w h hs _ rfl _ rfl hr.1 (by omega)).mono fun e w' h => RdPost.p h a 0, fun w b h hE hR => ?_⟩
    have hb0 := errB_0 hE
    subst hb0
    exact xsigned_good x vB (lst s) a w h hR (by omega) (by omega) (lst_byts s) _ rfl _ _ _ (fstM_three _ _) _ rfl hr.1 (by omega)
  · exact ⟨0, a, why, fun w h => (isigned_bad p s a q w h).mono fun e w' h' => StuckPost.p h h' why, fun w b h hE _ => (xsigned_bad x vB a why b w h h0).mono fun e w' h' => RfStuck.p h hE h'⟩

theorem pair_raw (p x : Nat) (s : ByteArray) (vB : Value) (a : Nat) (why : Int) (bad : Option Nat) (hs : s.size ≤ 140737488355328) (ha : a ≤ s.size) (hg : Good why bad) (n : Int) (hn1 : -9223372036854775808 ≤ n) (hn2 : n ≤ 9223372036854775807) : ∃ (l : List Int) (a' : Nat) (why' : Int),
    (∀ w, InAt w p s a bad → Calls Try.prog 51 #[ptr p, .int .i64 n] w (PPostB p s why a bad a' why' l w)) ∧
    (∀ w b, RfAt w x vB a why b → ErrB why a b → (∀ wx, (Grown w wx fun k => k = x) → RowAt wx vB (lst s)) → Calls Try.prog 52 #[ptr x, .int .i64 n] w (RfPostB x vB why' a' l w)) ∧ l.length ≤ s.size := by
  have hl : (lst s).length = s.size := lst_len s
  rcases hg with ⟨rfl, rfl⟩ | ⟨h0, q, rfl⟩
  · refine ⟨_, _, _, fun w h => (iraw_good p s a n w h hs hn1 hn2 _ rfl _ rfl _ rfl).mono fun e w' h => RdPostB.p h (by intro hne; rw [nextN_1 _ _ hne, List.take_zero]) a 0, fun w b h hE hR => ?_, by rw [List.length_take, List.length_drop]; omega⟩
    have hb0 := errB_0 hE
    subst hb0
    exact xraw_good x vB (lst s) a n w h hR (by omega) (by omega) _ rfl _ rfl _ rfl
  · exact ⟨[], a, why, fun w h => (iraw_bad p s a q _ w h).mono fun e w' h' => StuckPost.pB h h' why, fun w b h hE _ => (xraw_bad x vB a why b _ w h h0).mono fun e w' h' => RfStuck.pB h hE h', by simp⟩

theorem pair_bytes (p x : Nat) (s : ByteArray) (vB : Value) (a : Nat) (why : Int) (bad : Option Nat) (hs : s.size ≤ 140737488355328) (ha : a ≤ s.size) (hg : Good why bad) (n : Int) (hn1 : -9223372036854775808 ≤ n) (hn2 : n ≤ 9223372036854775807) : ∃ (l : List Int) (a' : Nat) (why' : Int),
    (∀ w, InAt w p s a bad → Calls Try.prog 53 #[ptr p, .int .i64 n] w (PPostB p s why a bad a' why' l w)) ∧
    (∀ w b, RfAt w x vB a why b → ErrB why a b → (∀ wx, (Grown w wx fun k => k = x) → RowAt wx vB (lst s)) → Calls Try.prog 54 #[ptr x, .int .i64 n] w (RfPostB x vB why' a' l w)) ∧ l.length ≤ s.size := by
  have hl : (lst s).length = s.size := lst_len s
  obtain ⟨mm, hmm, hm2⟩ := most_nat n hn2
  rcases hg with ⟨rfl, rfl⟩ | ⟨h0, q, rfl⟩
  · refine ⟨_, _, _, fun w h => (ibytes_good p s a n mm hmm w h hs hm2 _ rfl _ rfl _ rfl _ rfl).mono fun e w' h => RdPostB.p h (by exact byt_none _ _) a 0, fun w b h hE hR => ?_, by have := byt_len ((lst s).drop a) (mm : Int); rw [List.length_drop] at this; omega⟩
    have hb0 := errB_0 hE
    subst hb0
    exact xbytes_good x vB (lst s) a w h hR (by omega) (by omega) (lst_byts s) _ rfl n mm hmm hm2 _ rfl _ rfl _ rfl
  · exact ⟨[], a, why, fun w h => (ibytes_bad p s a q n mm hmm hm2 w h).mono fun e w' h' => StuckPost.pB h h' why, fun w b h hE _ => (xbytes_bad x vB a why b n w h h0 hn1 hn2).mono fun e w' h' => RfStuck.pB h hE h', by simp⟩

theorem pair_text (p x : Nat) (s : ByteArray) (vB : Value) (a : Nat) (why : Int) (bad : Option Nat) (hs : s.size ≤ 140737488355328) (ha : a ≤ s.size) (hg : Good why bad) (n : Int) (hn1 : -9223372036854775808 ≤ n) (hn2 : n ≤ 9223372036854775807) : ∃ (st : ByteArray) (a' : Nat) (why' : Int),
    (∀ w, InAt w p s a bad → Calls Try.prog 55 #[ptr p, .int .i64 n] w (PPost p s why a bad a' why' (.string st) w)) ∧
    (∀ w b, RfAt w x vB a why b → ErrB why a b → (∀ wx, (Grown w wx fun k => k = x) → RowAt wx vB (lst s)) → Calls Try.prog 56 #[ptr x, .int .i64 n] w (RfPost x vB why' a' (.string st) w)) := by
  have hl : (lst s).length = s.size := lst_len s
  obtain ⟨mm, hmm, hm2⟩ := most_nat n hn2
  rcases hg with ⟨rfl, rfl⟩ | ⟨h0, q, rfl⟩
  · refine ⟨_, _, _, fun w h => (itext_good p s a n mm hmm w h hs hm2 _ rfl _ rfl _ rfl _ rfl _ rfl).mono fun e w' h => RdPost.p h a 0, fun w b h hE hR => ?_⟩
    have hb0 := errB_0 hE
    subst hb0
    exact xtext_good x vB (lst s) a w h hR (by omega) (by omega) (lst_byts s) _ rfl n mm hmm hm2 _ rfl _ rfl _ rfl _ rfl
  · exact ⟨ByteArray.empty, a, why, fun w h => (itext_bad p s a q n mm hmm hm2 w h).mono fun e w' h' => StuckPost.p h h' why, fun w b h hE _ => (xtext_bad x vB a why b n w h h0 hn1 hn2).mono fun e w' h' => RfStuck.p h hE h'⟩

theorem pair_hash (p x : Nat) (s : ByteArray) (vB : Value) (a : Nat) (why : Int) (bad : Option Nat) (hs : s.size ≤ 140737488355328) (ha : a ≤ s.size) (hg : Good why bad) : ∃ (c : Nat → Int) (a' : Nat) (why' : Int),
    (∀ w, InAt w p s a bad → Calls Try.prog 57 #[ptr p] w (PPost p s why a bad a' why' (.agg (bytesA 32 c)) w)) ∧
    (∀ w b, RfAt w x vB a why b → ErrB why a b → (∀ wx, (Grown w wx fun k => k = x) → RowAt wx vB (lst s)) → Calls Try.prog 58 #[ptr x] w (RfPost x vB why' a' (.agg (bytesA 32 c)) w)) := by
  have hl : (lst s).length = s.size := lst_len s
  rcases hg with ⟨rfl, rfl⟩ | ⟨h0, q, rfl⟩
  · refine ⟨_, _, _, fun w h => (ihash_good p s a w h hs _ rfl _ rfl _ rfl).mono fun e w' h => RdPost.p h a 0, fun w b h hE hR => ?_⟩
    have hb0 := errB_0 hE
    subst hb0
    exact xhash_good x vB (lst s) a w h hR (by omega) (by omega) _ rfl _ rfl _ rfl
  · exact ⟨fun _ => 0, a, why, fun w h => (ihash_bad p s a q w h).mono fun e w' h' => StuckPost.p h h' why, fun w b h hE _ => (xhash_bad x vB a why b w h h0).mono fun e w' h' => RfStuck.p h hE h'⟩

theorem pair_end (p x : Nat) (s : ByteArray) (vB : Value) (a : Nat) (why : Int) (bad : Option Nat) (hs : s.size ≤ 140737488355328) (ha : a ≤ s.size) (hg : Good why bad) : ∃ (why' : Int),
    (∀ w, InAt w p s a bad → Calls Try.prog 28 #[ptr p] w (fun e w' => ∃ bad', e = .returned (errV bad') ∧ InAt w' p s a bad' ∧ (Grown w w' fun k => k = p) ∧ ErrN w w' why a bad why' a bad')) ∧
    (∀ w b, RfAt w x vB a why b → ErrB why a b → RowAt w vB (lst s) → Calls Try.prog 59 #[ptr x] w (fun e w' => ∃ b, ErrB why' a b ∧ e = .returned (.agg #[.int .i64 why', .int .i64 b]) ∧ RfAt w' x vB a why' b ∧ Grown w w' fun k => k = x)) := by
  have hl : (lst s).length = s.size := lst_len s
  rcases hg with ⟨rfl, rfl⟩ | ⟨h0, q, rfl⟩
  · refine ⟨if a < s.size then 23 else 0, fun w h => (iend_good p s a w h hs _ rfl).mono ?_, fun w b h hE hR => ?_⟩
    · rintro e w' ⟨bad, er, rfl, h1, h2, h3⟩
      obtain ⟨rfl, h4⟩ := h3.n a 0
      exact ⟨bad, rfl, h1, h2, h4⟩
    · have hb0 := errB_0 hE
      subst hb0
      obtain ⟨va, vc, rfl⟩ := row_form hR
      exact xend_good x va _ vc a w h (by omega) (by omega) _ (by rw [hl])
  · refine ⟨why, fun w h => (iend_bad p s a q w h).mono ?_, fun w b h hE hR => (xend_bad x vB a why b w h h0).mono ?_⟩
    · rintro e w' ⟨rfl, rfl⟩
      exact ⟨some q, rfl, h, Grown.refl _ _, .inr ⟨by simp, rfl, rfl, rfl⟩⟩
    · rintro e w' ⟨rfl, h2⟩
      exact ⟨b, hE, rfl, Blk.below h h2 (Blk.lt h), Grown.below h2⟩

end Go.Proofs.Ytanmbbckkfkhpaa
