import Derived.Test.YteecdcocgflklaaDoorA10
namespace Go.Proofs.YteecdcocgflklaaDoor
open Go.RowKit
set_option linter.unusedSimpArgs false
set_option linter.unusedVariables false
def SS (A : Nat → Prop) (q : Nat) (w : World) (p x p' x' : Nat) : Prop :=
  (p' = p ∧ x' = x ∧ ∃ mb g N P K vo vw n O Ws, TS w p mb x g N P K q vo vw n O Ws ∧ ∀ k, TU p mb x g P K q vo vw O Ws k → A k) ∨
  ∃ mb g N P K mb' g' N' P' K' vo vw n O Ws, TT A w p mb x g N P K p' mb' x' g' N' P' K' q vo vw n O Ws
section
variable {A : Nat → Prop} {q : Nat} {w w' : World} {p x p' x' : Nat}
theorem SS.swap (h : SS A q w p x p' x') : SS A q w p' x' p x := by
  rcases h with ⟨rfl, rfl, h⟩ | ⟨mb, g, N, P, K, mb', g', N', P', K', vo, vw, n, O, Ws, h⟩
  · exact .inl ⟨rfl, rfl, h⟩
  · exact .inr ⟨mb', g', N', P', K', mb, g, N, P, K, vo, vw, n, O, Ws, h.swap⟩
theorem SS.below (h : SS A q w p x p' x') (hb : Below w.heap.size w w') : SS A q w' p x p' x' := by
  rcases h with ⟨h1, h2, mb, g, N, P, K, vo, vw, n, O, Ws, h, h3⟩ | ⟨mb, g, N, P, K, mb', g', N', P', K', vo, vw, n, O, Ws, h⟩
  · exact .inl ⟨h1, h2, mb, g, N, P, K, vo, vw, n, O, Ws, h.below hb (h.pr.below hb), h3⟩
  · exact .inr ⟨mb, g, N, P, K, mb', g', N', P', K', vo, vw, n, O, Ws, h.below hb⟩
theorem SS.act (h : SS A q w p x p' x') (hA : ∀ k, w.heap.size ≤ k → A k) : ∃ mb g N P K vo vw n O Ws, TS w p mb x g N P K q vo vw n O Ws ∧ (∀ k, TU p mb x g P K q vo vw O Ws k → A k) ∧ ∀ w', TI w p mb x g N P K q vo vw O Ws w' → SS A q w' p x p' x' ∧ Grown w w' A := by
  rcases h with ⟨h1, h2, mb, g, N, P, K, vo, vw, n, O, Ws, h, h3⟩ | ⟨mb, g, N, P, K, mb', g', N', P', K', vo, vw, n, O, Ws, h⟩
  · refine ⟨mb, g, N, P, K, vo, vw, n, O, Ws, h, h3, fun w' t => ?_⟩
    obtain ⟨P1, K1, vo1, vw1, n1, O1, W1, a1, a2, a3⟩ := t
    refine ⟨.inl ⟨h1, h2, mb, g, N, P1, K1, vo1, vw1, n1, O1, W1, a1, fun k hk => ?_⟩, a2.mono fun k _ e => h3 k e⟩
    rcases a3 k hk with e | e
    · exact h3 k e
    · exact hA k e
  · refine ⟨mb, g, N, P, K, vo, vw, n, O, Ws, h.ts, fun k hk => h.lo k (.inl hk), fun w' t => ?_⟩
    obtain ⟨P1, K1, vo1, vw1, n1, O1, W1, a1, a2⟩ := h.step hA t
    exact ⟨.inr ⟨mb, g, N, P1, K1, mb', g', N', P', K', vo1, vw1, n1, O1, W1, a1⟩, a2.mono fun k _ e => e.1⟩
theorem SS.step (h : SS A q w p x p' x') (hA : ∀ k, w.heap.size ≤ k → A k) (hA0 : ¬ A 0) {qe : Addr} (HE : ErrI w qe) (kd f t i j m by_ : Int) (ba : Option Addr) (bn bc : Nat) (b : List Int) (HB8 : 0 ≤ by_ ∧ by_ < 256) (HB : RowAt w (.slice ba bn bc) b) (Hbn : b.length = bn) (HBy : Byts b) (HD : b ≠ [] → ∀ k, (Value.slice ba bn bc).ownBlock = some k → ¬ A k) (HL : bn ≤ 140737488355328) :
    Calls Tryd.prog 10 #[.agg #[.pointer (some ⟨p, 0, none⟩), .pointer (some ⟨x, 0, none⟩)], .agg #[.int .i64 kd, .int .i64 f, .int .i64 t, .int .i64 i, .int .i64 j, .int .i64 m, .int .u8 by_, .slice ba bn bc], .pointer (some ⟨q, 0, none⟩)] w fun e w' => e = .returned (.bool true) ∧ SS A q w' p x p' x' ∧ Grown w w' A := by
  obtain ⟨mb, g, N, Ps, Ks, vo, vw, n, O, Ws, hT, hlo, hf⟩ := h.act hA
  refine (step_any w p mb x g N q Ps Ks vo vw n O Ws qe kd f t i j m by_ ba bn bc b ⟨hT⟩ ⟨HE⟩ ⟨fun e => hA0 (hlo 0 (.inl e))⟩ ⟨HB8⟩ ⟨HB⟩ ⟨Hbn⟩ ⟨HBy⟩ ⟨fun he k hk => ⟨fun e => ?_, ?_⟩⟩ ⟨HL⟩).mono fun e w' ⟨h1, h2⟩ => ⟨h1, hf w' h2⟩
  · exact HD he k hk (hlo k (.inl e))
  · exact Nat.lt_of_not_le fun e => HD he k hk (hA k e)
theorem SS.lens (h : SS A q w p x p' x') (hA : ∀ k, w.heap.size ≤ k → A k) : Calls Tryd.prog 11 #[.agg #[.pointer (some ⟨p, 0, none⟩), .pointer (some ⟨x, 0, none⟩)]] w fun e w' => e = .returned (.bool true) ∧ SS A q w' p x p' x' ∧ Grown w w' A := by
  obtain ⟨mb, g, N, Ps, Ks, vo, vw, n, O, Ws, hT, hlo, hf⟩ := h.act hA
  exact (lens_any w p mb x g N Ps Ks ⟨hT.pr⟩ ⟨hT.eq⟩).mono fun e w' ⟨h1, h2⟩ => ⟨h1, hf w' (TI.of_pr hT h2 hT.eq)⟩
theorem SS.rest (h : SS A q w p x p' x') (hA : ∀ k, w.heap.size ≤ k → A k) (hA0 : ¬ A 0) {qe : Addr} (HE : ErrI w qe) : Calls Tryd.prog 13 #[.agg #[.pointer (some ⟨p, 0, none⟩), .pointer (some ⟨x, 0, none⟩)], .pointer (some ⟨q, 0, none⟩)] w fun e w' => e = .returned (.bool true) ∧ SS A q w' p x p' x' ∧ Grown w w' A := by
  obtain ⟨mb, g, N, Ps, Ks, vo, vw, n, O, Ws, hT, hlo, hf⟩ := h.act hA
  exact (rest_any w p mb x g N q Ps Ks vo vw n O Ws qe ⟨hT⟩ ⟨HE⟩ ⟨fun e => hA0 (hlo 0 e)⟩).mono fun e w' ⟨h1, h2⟩ => ⟨h1, hf w' h2⟩
theorem SS.hold (h : SS A q w p x p' x') (hA : ∀ k, w.heap.size ≤ k → A k) : Calls Tryd.prog 12 #[.pointer (some ⟨q, 0, none⟩)] w fun e w' => e = .returned (.bool true) ∧ SS A q w' p x p' x' ∧ Grown w w' A := by
  obtain ⟨mb, g, N, Ps, Ks, vo, vw, n, O, Ws, hT, hlo, hf⟩ := h.act hA
  exact (hold_any hT.bk).mono fun e w' ⟨h1, h2⟩ => ⟨h1, h.below h2, (Grown.below (S := fun _ => False) h2).mono fun k _ e => e.elim⟩
theorem SS.apart (h : SS A q w p x p' x') (hA : ∀ k, w.heap.size ≤ k → A k) : Calls Tryd.prog 14 #[.pointer (some ⟨q, 0, none⟩)] w fun e w' => e = .returned (.bool true) ∧ Grown w w' A := by
  obtain ⟨mb, g, N, Ps, Ks, vo, vw, n, O, Ws, hT, hlo, hf⟩ := h.act hA
  exact (apart_any hT.bk).mono fun e w' ⟨h1, h2⟩ => ⟨h1, h2.mono fun k _ ⟨r, hr, e⟩ => hlo k (.inr (.inr (.inr (.inr (.inl ⟨r, hr, e⟩)))))⟩
theorem SS.grown {S : Nat → Prop} (h : SS A q w p x p' x') (hg : Grown w w' S) (hs : ∀ k, S k → ¬ A k) : SS A q w' p x p' x' := by
  rcases h with ⟨h1, h2, mb, g, N, P, K, vo, vw, n, O, Ws, h, h3⟩ | ⟨mb, g, N, P, K, mb', g', N', P', K', vo, vw, n, O, Ws, h⟩
  · exact .inl ⟨h1, h2, mb, g, N, P, K, vo, vw, n, O, Ws, ⟨h.pr.grown hg fun k e e2 => hs k e (h3 k (.inl e2)), h.eq, h.bk.grown hg fun k e e2 => hs k e (h3 k (.inr e2)), h.dj, h.cnt⟩, h3⟩
  · exact .inr ⟨mb, g, N, P, K, mb', g', N', P', K', vo, vw, n, O, Ws, ⟨⟨h.ts.pr.grown hg fun k e e2 => hs k e (h.lo k (.inl (.inl e2))), h.ts.eq, h.ts.bk.grown hg fun k e e2 => hs k e (h.lo k (.inl (.inr e2))), h.ts.dj, h.ts.cnt⟩, h.pr.grown hg fun k e e2 => hs k e (h.lo k (.inr e2)), h.eq, h.dj, h.lo⟩⟩
theorem SS.one {mb g N : Nat} (h : PR w p mb x g N K0 K0) (e : EqL K0 K0) (hlo : ∀ k, PrS p mb x g K0 K0 k → A k) (hq : Blk w q 38 #[.slice none 0 0, .slice none 0 0, .int .i64 0]) (hqB : A q) (hqd : ¬ PrS p mb x g K0 K0 q) : SS A q w p x p x :=
  .inl ⟨rfl, rfl, mb, g, N, K0, K0, _, _, 0, [], [], ⟨h, e, bk_nil hq, fun k hk => by rw [bks_nil hk]; exact hqd, by decide⟩, fun k hk => by
    rcases hk with e | e
    · exact hlo k e
    · rw [bks_nil e]; exact hqB⟩
theorem SS.two {mb g N mb' g' N' : Nat} (h : PR w p mb x g N K0 K0) (h' : PR w p' mb' x' g' N' K0 K0) (e : EqL K0 K0) (hlo : ∀ k, PrS p mb x g K0 K0 k ∨ PrS p' mb' x' g' K0 K0 k → A k) (hd : ∀ k, PrS p' mb' x' g' K0 K0 k → ¬ PrS p mb x g K0 K0 k) (hq : Blk w q 38 #[.slice none 0 0, .slice none 0 0, .int .i64 0]) (hqB : A q) (hqd : ¬ PrS p mb x g K0 K0 q ∧ ¬ PrS p' mb' x' g' K0 K0 q) : SS A q w p x p' x' :=
  .inr ⟨mb, g, N, K0, K0, mb', g', N', K0, K0, _, _, 0, [], [], ⟨h, e, bk_nil hq, fun k hk => by rw [bks_nil hk]; exact hqd.1, by decide⟩, h', e, fun k hk e2 => by
    rcases e2 with e2 | e2
    · exact hd k hk e2
    · rw [bks_nil e2] at hk; exact hqd.2 hk, fun k hk => by
    rcases hk with (e | e) | e
    · exact hlo k (.inl e)
    · rw [bks_nil e]; exact hqB
    · exact hlo k (.inr e)⟩
end

structure Stp where
  kd : Int
  f : Int
  t : Int
  i : Int
  j : Int
  m : Int
  by_ : Int
  a : Option Addr
  c : Nat
  b : List Int
def Stp.v (s : Stp) : Value := .slice s.a s.b.length s.c
def Stp.cs (s : Stp) : List Value := [.int .i64 s.kd, .int .i64 s.f, .int .i64 s.t, .int .i64 s.i, .int .i64 s.j, .int .i64 s.m, .int .u8 s.by_, s.v]
structure StpAt (w : World) (A : Nat → Prop) (gs go : Nat) (S : List Stp) : Prop where
  lt : S ≠ [] → ¬ A gs
  at_ : ∀ (i : Nat) (s : Stp), S[i]? = some s → w.rangeAt gs (go + i * 8) s.cs ∧ RowAt w s.v s.b
  ok : ∀ s ∈ S, (0 ≤ s.by_ ∧ s.by_ < 256) ∧ Byts s.b ∧ s.b.length ≤ 140737488355328 ∧ (s.b ≠ [] → ∀ k, s.v.ownBlock = some k → ¬ A k)
theorem StpAt.grown {w w' : World} {A : Nat → Prop} {gs go : Nat} {S : List Stp} (h : StpAt w A gs go S) (hg : Grown w w' A) : StpAt w' A gs go S :=
  ⟨h.lt, fun i s hi => ⟨fun j v hv => hg.cell ((h.at_ i s hi).1 j v hv) (h.lt (fun e => by rw [e] at hi; simp at hi)), row_of (h.at_ i s hi).2 hg fun he k hk => (h.ok s (List.mem_of_getElem? hi)).2.2.2 he k hk⟩, h.ok⟩
theorem StpAt.below {w w' : World} {A : Nat → Prop} {gs go : Nat} {S : List Stp} (h : StpAt w A gs go S) (hb : Below w.heap.size w w') : StpAt w' A gs go S :=
  h.grown ((Grown.below (S := fun _ => False) hb).mono fun k _ e => e.elim)
theorem StpAt.anti {w : World} {A A' : Nat → Prop} {gs go : Nat} {S : List Stp} (h : StpAt w A gs go S) (ha : ∀ k, A' k → A k) : StpAt w A' gs go S :=
  ⟨fun e k => h.lt e (ha _ k), h.at_, fun s hs => ⟨(h.ok s hs).1, (h.ok s hs).2.1, (h.ok s hs).2.2.1, fun e k hk k2 => (h.ok s hs).2.2.2 e k hk (ha _ k2)⟩⟩
theorem sizeStp (s : Stp) : (Tryd.prog.info? 41).map (·.size) = some s.cs.length := by kernel_rfl
theorem SS.stepAt {A : Nat → Prop} {q gs go i : Nat} {w : World} {p x p' x' : Nat} {S : List Stp} {s : Stp} (h : SS A q w p x p' x') (hA : ∀ k, w.heap.size ≤ k → A k) (hA0 : ¬ A 0) {qe : Addr} (HE : ErrI w qe) (hs : StpAt w A gs go S) (hi : S[i]? = some s) :
    Calls Tryd.prog 10 #[.agg #[.pointer (some ⟨p, 0, none⟩), .pointer (some ⟨x, 0, none⟩)], .agg s.cs.toArray, .pointer (some ⟨q, 0, none⟩)] w fun e w' => e = .returned (.bool true) ∧ SS A q w' p x p' x' ∧ StpAt w' A gs go S ∧ ErrI w' qe ∧ Grown w w' A := by
  obtain ⟨h1, h2, h3, h4⟩ := hs.ok s (List.mem_of_getElem? hi)
  exact (h.step hA hA0 HE s.kd s.f s.t s.i s.j s.m s.by_ s.a s.b.length s.c s.b h1 (hs.at_ i s hi).2 rfl h2 h4 h3).mono fun e w' ⟨e1, e2, e3⟩ => ⟨e1, e2, hs.grown e3, HE.grown e3 hA0, e3⟩

def AX (w0 : World) (a b k : Nat) : Prop := w0.heap.size ≤ k ∧ k ≠ a ∧ k ≠ b
structure LP (w0 : World) (qe : Addr) (gs go : Nat) (S : List Stp) (a b q : Nat) (w : World) (c1 d1 c2 d2 : Nat) : Prop where
  ba : Blk w a 34 #[.pointer (some ⟨c1, 0, none⟩), .pointer (some ⟨d1, 0, none⟩)]
  bb : Blk w b 34 #[.pointer (some ⟨c2, 0, none⟩), .pointer (some ⟨d2, 0, none⟩)]
  ss : SS (AX w0 a b) q w c1 d1 c2 d2
  st : StpAt w (fun k => w0.heap.size ≤ k) gs go S
  er : ErrI w qe
  be : Below w0.heap.size w0 w
  lo : 0 < w0.heap.size ∧ w0.heap.size ≤ a ∧ w0.heap.size ≤ b ∧ a ≠ b
section
variable {w0 : World} {qe : Addr} {gs go : Nat} {S : List Stp} {a b q : Nat} {w w' : World} {c1 d1 c2 d2 : Nat}
theorem LP.all (h : LP w0 qe gs go S a b q w c1 d1 c2 d2) : ∀ k, w.heap.size ≤ k → AX w0 a b k := fun k hk => by
  have h1 := h.ba.lt
  have h2 := h.bb.lt
  have h3 := h.be.size
  exact ⟨by omega, by omega, by omega⟩
theorem LP.no0 (h : LP w0 qe gs go S a b q w c1 d1 c2 d2) : ¬ AX w0 a b 0 := fun e => by have := e.1; have := h.lo.1; omega
theorem LP.after (h : LP w0 qe gs go S a b q w c1 d1 c2 d2) (s : SS (AX w0 a b) q w' c1 d1 c2 d2) (g : Grown w w' (AX w0 a b)) : LP w0 qe gs go S a b q w' c1 d1 c2 d2 :=
  ⟨g.blk h.ba fun e => e.2.1 rfl, g.blk h.bb fun e => e.2.2 rfl, s, h.st.grown (g.mono fun k _ e => e.1), h.er.grown g h.no0, h.be.trans (g.to_below (fun k hk e => by have := e.1; omega) h.be.size), h.lo⟩
theorem LP.below (h : LP w0 qe gs go S a b q w c1 d1 c2 d2) (hb : Below w.heap.size w w') : LP w0 qe gs go S a b q w' c1 d1 c2 d2 :=
  h.after (h.ss.below hb) ((Grown.below (S := fun _ => False) hb).mono fun k _ e => e.elim)
theorem LP.swap (h : LP w0 qe gs go S a b q w c1 d1 c2 d2) : LP w0 qe gs go S a b q ((w.setRow a #[.pointer (some ⟨c2, 0, none⟩), .pointer (some ⟨d2, 0, none⟩)]).setRow b #[.pointer (some ⟨c1, 0, none⟩), .pointer (some ⟨d1, 0, none⟩)]) c2 d2 c1 d1 := by
  have g : Grown w ((w.setRow a #[.pointer (some ⟨c2, 0, none⟩), .pointer (some ⟨d2, 0, none⟩)]).setRow b #[.pointer (some ⟨c1, 0, none⟩), .pointer (some ⟨d1, 0, none⟩)]) (fun k => k = a ∨ k = b) :=
    (Grown.setRow w a _ fun _ => .inl rfl).trans (Grown.setRow _ b _ fun _ => .inr rfl)
  have hn : ∀ k, (k = a ∨ k = b) → ¬ AX w0 a b k := fun k e e2 => e.elim e2.2.1 e2.2.2
  have hw : ∀ k, (k = a ∨ k = b) → w0.heap.size ≤ k := fun k e => by have := h.lo; rcases e with e | e <;> omega
  exact ⟨(h.ba.setRow _).setRow_ne h.lo.2.2.2 _, (h.bb.setRow_ne (fun e => h.lo.2.2.2 e.symm) _).setRow _, (h.ss.grown g hn).swap, h.st.grown (g.mono fun k _ e => hw k e), h.er.grown g (fun e => by have := hw 0 e; have := h.lo.1; omega), h.be.trans (g.to_below (fun k hk e => by have := hw k e; omega) h.be.size), h.lo⟩
theorem LP.step (h : LP w0 qe gs go S a b q w c1 d1 c2 d2) {i : Nat} {s : Stp} (hi : S[i]? = some s) : Calls Tryd.prog 10 #[.agg #[.pointer (some ⟨c1, 0, none⟩), .pointer (some ⟨d1, 0, none⟩)], .agg s.cs.toArray, .pointer (some ⟨q, 0, none⟩)] w fun e w' => e = .returned (.bool true) ∧ LP w0 qe gs go S a b q w' c1 d1 c2 d2 :=
  (SS.stepAt h.ss h.all h.no0 h.er (h.st.anti fun k e => e.1) hi).mono fun e w' ⟨e1, e2, _, _, e3⟩ => ⟨e1, h.after e2 e3⟩
theorem LP.lens1 (h : LP w0 qe gs go S a b q w c1 d1 c2 d2) : Calls Tryd.prog 11 #[.agg #[.pointer (some ⟨c1, 0, none⟩), .pointer (some ⟨d1, 0, none⟩)]] w fun e w' => e = .returned (.bool true) ∧ LP w0 qe gs go S a b q w' c1 d1 c2 d2 :=
  (SS.lens h.ss h.all).mono fun e w' ⟨e1, e2, e3⟩ => ⟨e1, h.after e2 e3⟩
theorem LP.lens2 (h : LP w0 qe gs go S a b q w c1 d1 c2 d2) : Calls Tryd.prog 11 #[.agg #[.pointer (some ⟨c2, 0, none⟩), .pointer (some ⟨d2, 0, none⟩)]] w fun e w' => e = .returned (.bool true) ∧ LP w0 qe gs go S a b q w' c1 d1 c2 d2 :=
  (SS.lens h.ss.swap h.all).mono fun e w' ⟨e1, e2, e3⟩ => ⟨e1, h.after e2.swap e3⟩
theorem LP.rest1 (h : LP w0 qe gs go S a b q w c1 d1 c2 d2) : Calls Tryd.prog 13 #[.agg #[.pointer (some ⟨c1, 0, none⟩), .pointer (some ⟨d1, 0, none⟩)], .pointer (some ⟨q, 0, none⟩)] w fun e w' => e = .returned (.bool true) ∧ LP w0 qe gs go S a b q w' c1 d1 c2 d2 :=
  (SS.rest h.ss h.all h.no0 h.er).mono fun e w' ⟨e1, e2, e3⟩ => ⟨e1, h.after e2 e3⟩
theorem LP.rest2 (h : LP w0 qe gs go S a b q w c1 d1 c2 d2) : Calls Tryd.prog 13 #[.agg #[.pointer (some ⟨c2, 0, none⟩), .pointer (some ⟨d2, 0, none⟩)], .pointer (some ⟨q, 0, none⟩)] w fun e w' => e = .returned (.bool true) ∧ LP w0 qe gs go S a b q w' c1 d1 c2 d2 :=
  (SS.rest h.ss.swap h.all h.no0 h.er).mono fun e w' ⟨e1, e2, e3⟩ => ⟨e1, h.after e2.swap e3⟩
theorem LP.hold (h : LP w0 qe gs go S a b q w c1 d1 c2 d2) : Calls Tryd.prog 12 #[.pointer (some ⟨q, 0, none⟩)] w fun e w' => e = .returned (.bool true) ∧ LP w0 qe gs go S a b q w' c1 d1 c2 d2 :=
  (SS.hold h.ss h.all).mono fun e w' ⟨e1, e2, e3⟩ => ⟨e1, h.after e2 e3⟩
theorem LP.apart (h : LP w0 qe gs go S a b q w c1 d1 c2 d2) : Calls Tryd.prog 14 #[.pointer (some ⟨q, 0, none⟩)] w fun e w' => e = .returned (.bool true) ∧ Below w0.heap.size w0 w' :=
  (SS.apart h.ss h.all).mono fun e w' ⟨e1, e3⟩ => ⟨e1, h.be.trans (e3.to_below (fun k hk e => by have := e.1; omega) h.be.size)⟩
end
theorem Tryd.newPa (w : World) : (Instr.alloc 34 true (.tuple #[])).run Tryd.prog w = .ok (.pointer (some ⟨w.heap.size, 0, none⟩)) (w.alloc (.cells #[.pointer none, .pointer none] 34)) := by kernel_rfl
theorem bldPa (p x : Nat) : Tryd.prog.built 34 [(0, .pointer (some ⟨p, 0, none⟩)), (1, .pointer (some ⟨x, 0, none⟩))] = some #[.pointer (some ⟨p, 0, none⟩), .pointer (some ⟨x, 0, none⟩)] := by kernel_rfl
theorem bldBk0 : Tryd.prog.built 38 [] = some #[.slice none 0 0, .slice none 0 0, .int .i64 0] := by kernel_rfl
theorem sizePa (p x : Nat) : (Tryd.prog.info? 34).map (·.size) = some (#[.pointer (some ⟨p, 0, none⟩), .pointer (some ⟨x, 0, none⟩)] : Array Value).size := by kernel_rfl
theorem onePa (p x : Nat) : (#[.pointer (some ⟨p, 0, none⟩), .pointer (some ⟨x, 0, none⟩)] : Array Value).all (·.oneCell') = true := by simp [Value.oneCell']

theorem pnw_bad (w : World) (n : Int) (hn : (n < 1 ∨ 8 < n)) : Calls Tryd.prog 8 #[.int .i64 n] w fun e w' => e = .returned (.tuple #[.pointer none, .int .i64 1]) ∧ w' = w := by
  by_cases h : n < 1
  · exact pnw_lo w n h
  · exact pnw_hi w n h (by omega)
theorem nw_bad (w : World) (n : Int) (hn : (n < 1 ∨ 8 < n)) : Calls Tryd.prog 9 #[.int .i64 n] w fun e w' => e = .returned (.tuple #[.pointer none, .int .i64 1]) ∧ w' = w := by
  by_cases h : n < 1
  · exact nw_lo w n h
  · exact nw_hi w n h (by omega)
set_option maxRecDepth 8000 in
theorem mesh_bb (w : World) (qe : Addr) (HE : Keep (ErrI w qe)) (n k : Int) (vs : Value) (hn : (n < 1 ∨ 8 < n)) (hk : (k < 1 ∨ 8 < k)) : Calls Tryd.prog 4 #[.int .i64 n, .int .i64 k, vs] w fun e w' => e = .returned (.bool true) ∧ Below w.heap.size w w' := by
  go_enter Tryd.func4, Tryd.ntmps4
  refine wp_seq_k fun K1 hK1 => ?_
  refine wp_region_list (WL.out ?_)
  refine WL.val (by kernel_rfl) (.bool false) (by go_simp) ?_
  simp only [Act.put, List.setIfInBounds_toArray, List.set_cons_zero, List.set_cons_succ]
  refine WL.nil ?_
  refine hK1 _ _ ?_
  refine wp_seq_k fun K2 hK2 => ?_
  refine wp_region_list (WL.out ?_)
  refine WL.callF (by kernel_rfl) 7 _ _ rfl Tryd.in7 #[] (by simp) ?_
  refine (fixed_any w qe HE).mono ?_
  rintro e w1 ⟨rfl, hb1⟩
  refine ⟨_, rfl, ?_⟩
  have HB1 := Keep.mk hb1
  clear hb1
  have HB2 := HB1
  simp only [Act.put, List.setIfInBounds_toArray, List.set_cons_zero, List.set_cons_succ]
  refine WL.val (by kernel_rfl) (.bool true) (by go_simp) ?_
  simp only [Act.put, List.setIfInBounds_toArray, List.set_cons_zero, List.set_cons_succ]
  refine WL.nil ?_
  refine hK2 _ _ ?_
  refine wp_seq_k fun K3 hK3 => ?_
  refine wp_region_list (WL.out ?_)
  refine WL.val (by kernel_rfl) (.int .i64 n) (by go_simp) ?_
  simp only [Act.put, List.setIfInBounds_toArray, List.set_cons_zero, List.set_cons_succ]
  refine WL.callF (by kernel_rfl) 8 _ _ rfl Tryd.in8 #[.int .i64 n] (by simp [Act.eval]) ?_
  refine (pnw_bad w1 n hn).mono ?_
  rintro e w1a ⟨rfl, hw_⟩
  refine ⟨_, rfl, ?_⟩
  have hw_ := hw_.symm
  subst hw_
  simp only [Act.put, List.setIfInBounds_toArray, List.set_cons_zero, List.set_cons_succ]
  refine WL.val (by kernel_rfl) (.tuple #[.pointer none, .int .i64 1]) (by go_simp) ?_
  simp only [Act.put, List.setIfInBounds_toArray, List.set_cons_zero, List.set_cons_succ]
  refine WL.val (by kernel_rfl) (.pointer none) (by go_simp) ?_
  simp only [Act.put, List.setIfInBounds_toArray, List.set_cons_zero, List.set_cons_succ]
  refine WL.val (by kernel_rfl) (.int .i64 1) (by go_simp) ?_
  simp only [Act.put, List.setIfInBounds_toArray, List.set_cons_zero, List.set_cons_succ]
  refine WL.val (by kernel_rfl) (.pointer none) (by go_simp) ?_
  simp only [Act.put, List.setIfInBounds_toArray, List.set_cons_zero, List.set_cons_succ]
  refine WL.val (by kernel_rfl) (.int .i64 1) (by go_simp) ?_
  simp only [Act.put, List.setIfInBounds_toArray, List.set_cons_zero, List.set_cons_succ]
  refine WL.nil ?_
  refine hK3 _ _ ?_
  refine wp_seq_k fun K4 hK4 => ?_
  refine wp_region_list (WL.out ?_)
  refine WL.val (by kernel_rfl) (.int .i64 n) (by go_simp) ?_
  simp only [Act.put, List.setIfInBounds_toArray, List.set_cons_zero, List.set_cons_succ]
  refine WL.callF (by kernel_rfl) 9 _ _ rfl Tryd.in9 #[.int .i64 n] (by simp [Act.eval]) ?_
  refine (nw_bad w1 n hn).mono ?_
  rintro e w1b ⟨rfl, hw_⟩
  refine ⟨_, rfl, ?_⟩
  have hw_ := hw_.symm
  subst hw_
  simp only [Act.put, List.setIfInBounds_toArray, List.set_cons_zero, List.set_cons_succ]
  refine WL.val (by kernel_rfl) (.tuple #[.pointer none, .int .i64 1]) (by go_simp) ?_
  simp only [Act.put, List.setIfInBounds_toArray, List.set_cons_zero, List.set_cons_succ]
  refine WL.val (by kernel_rfl) (.pointer none) (by go_simp) ?_
  simp only [Act.put, List.setIfInBounds_toArray, List.set_cons_zero, List.set_cons_succ]
  refine WL.val (by kernel_rfl) (.int .i64 1) (by go_simp) ?_
  simp only [Act.put, List.setIfInBounds_toArray, List.set_cons_zero, List.set_cons_succ]
  refine WL.val (by kernel_rfl) (.pointer none) (by go_simp) ?_
  simp only [Act.put, List.setIfInBounds_toArray, List.set_cons_zero, List.set_cons_succ]
  refine WL.val (by kernel_rfl) (.int .i64 1) (by go_simp) ?_
  simp only [Act.put, List.setIfInBounds_toArray, List.set_cons_zero, List.set_cons_succ]
  refine WL.nil ?_
  refine hK4 _ _ ?_
  refine wp_seq_k fun K5 hK5 => ?_
  refine wp_seq_k fun K6 hK6 => ?_
  refine wp_region_list (WL.out ?_)
  refine WL.val (by kernel_rfl) (.bool true) (by go_simp) ?_
  simp only [Act.put, List.setIfInBounds_toArray, List.set_cons_zero, List.set_cons_succ]
  refine WL.val (by kernel_rfl) (.bool false) (by go_simp) ?_
  simp only [Act.put, List.setIfInBounds_toArray, List.set_cons_zero, List.set_cons_succ]
  refine WL.val (by kernel_rfl) (.bool false) (by go_simp) ?_
  simp only [Act.put, List.setIfInBounds_toArray, List.set_cons_zero, List.set_cons_succ]
  refine WL.val (by kernel_rfl) (.int .i64 1) (by go_simp) ?_
  simp only [Act.put, List.setIfInBounds_toArray, List.set_cons_zero, List.set_cons_succ]
  refine WL.val (by kernel_rfl) (.int .i64 1) (by go_simp) ?_
  simp only [Act.put, List.setIfInBounds_toArray, List.set_cons_zero, List.set_cons_succ]
  refine WL.val (by kernel_rfl) (.bool false) (by go_simp) ?_
  simp only [Act.put, List.setIfInBounds_toArray, List.set_cons_zero, List.set_cons_succ]
  refine WL.val (by kernel_rfl) (.bool false) (by go_simp) ?_
  simp only [Act.put, List.setIfInBounds_toArray, List.set_cons_zero, List.set_cons_succ]
  refine WL.val (by kernel_rfl) (.bool false) (by go_simp) ?_
  simp only [Act.put, List.setIfInBounds_toArray, List.set_cons_zero, List.set_cons_succ]
  refine WL.val (by kernel_rfl) (.pointer none) (by go_simp) ?_
  simp only [Act.put, List.setIfInBounds_toArray, List.set_cons_zero, List.set_cons_succ]
  refine WL.val (by kernel_rfl) (.bool true) (by go_simp) ?_
  simp only [Act.put, List.setIfInBounds_toArray, List.set_cons_zero, List.set_cons_succ]
  refine WL.val (by kernel_rfl) (.pointer none) (by go_simp) ?_
  simp only [Act.put, List.setIfInBounds_toArray, List.set_cons_zero, List.set_cons_succ]
  refine WL.val (by kernel_rfl) (.bool true) (by go_simp) ?_
  simp only [Act.put, List.setIfInBounds_toArray, List.set_cons_zero, List.set_cons_succ]
  refine WL.val (by kernel_rfl) (.bool false) (by go_simp) ?_
  simp only [Act.put, List.setIfInBounds_toArray, List.set_cons_zero, List.set_cons_succ]
  refine WL.val (by kernel_rfl) (.bool false) (by go_simp) ?_
  simp only [Act.put, List.setIfInBounds_toArray, List.set_cons_zero, List.set_cons_succ]
  refine WL.nil ?_
  refine hK6 _ _ ?_
  refine wp_cond_false rfl ?_
  refine wp_skip ?_
  refine hK5 _ _ ?_
  refine wp_seq_k fun K7 hK7 => ?_
  refine wp_region_list (WL.out ?_)
  refine WL.val (by kernel_rfl) (.int .i64 k) (by go_simp) ?_
  simp only [Act.put, List.setIfInBounds_toArray, List.set_cons_zero, List.set_cons_succ]
  refine WL.callF (by kernel_rfl) 8 _ _ rfl Tryd.in8 #[.int .i64 k] (by simp [Act.eval]) ?_
  refine (pnw_bad w1 k hk).mono ?_
  rintro e w1c ⟨rfl, hw_⟩
  refine ⟨_, rfl, ?_⟩
  have hw_ := hw_.symm
  subst hw_
  simp only [Act.put, List.setIfInBounds_toArray, List.set_cons_zero, List.set_cons_succ]
  refine WL.val (by kernel_rfl) (.tuple #[.pointer none, .int .i64 1]) (by go_simp) ?_
  simp only [Act.put, List.setIfInBounds_toArray, List.set_cons_zero, List.set_cons_succ]
  refine WL.val (by kernel_rfl) (.pointer none) (by go_simp) ?_
  simp only [Act.put, List.setIfInBounds_toArray, List.set_cons_zero, List.set_cons_succ]
  refine WL.val (by kernel_rfl) (.int .i64 1) (by go_simp) ?_
  simp only [Act.put, List.setIfInBounds_toArray, List.set_cons_zero, List.set_cons_succ]
  refine WL.val (by kernel_rfl) (.pointer none) (by go_simp) ?_
  simp only [Act.put, List.setIfInBounds_toArray, List.set_cons_zero, List.set_cons_succ]
  refine WL.val (by kernel_rfl) (.int .i64 1) (by go_simp) ?_
  simp only [Act.put, List.setIfInBounds_toArray, List.set_cons_zero, List.set_cons_succ]
  refine WL.nil ?_
  refine hK7 _ _ ?_
  refine wp_seq_k fun K8 hK8 => ?_
  refine wp_region_list (WL.out ?_)
  refine WL.val (by kernel_rfl) (.int .i64 k) (by go_simp) ?_
  simp only [Act.put, List.setIfInBounds_toArray, List.set_cons_zero, List.set_cons_succ]
  refine WL.callF (by kernel_rfl) 9 _ _ rfl Tryd.in9 #[.int .i64 k] (by simp [Act.eval]) ?_
  refine (nw_bad w1 k hk).mono ?_
  rintro e w1d ⟨rfl, hw_⟩
  refine ⟨_, rfl, ?_⟩
  have hw_ := hw_.symm
  subst hw_
  simp only [Act.put, List.setIfInBounds_toArray, List.set_cons_zero, List.set_cons_succ]
  refine WL.val (by kernel_rfl) (.tuple #[.pointer none, .int .i64 1]) (by go_simp) ?_
  simp only [Act.put, List.setIfInBounds_toArray, List.set_cons_zero, List.set_cons_succ]
  refine WL.val (by kernel_rfl) (.pointer none) (by go_simp) ?_
  simp only [Act.put, List.setIfInBounds_toArray, List.set_cons_zero, List.set_cons_succ]
  refine WL.val (by kernel_rfl) (.int .i64 1) (by go_simp) ?_
  simp only [Act.put, List.setIfInBounds_toArray, List.set_cons_zero, List.set_cons_succ]
  refine WL.val (by kernel_rfl) (.pointer none) (by go_simp) ?_
  simp only [Act.put, List.setIfInBounds_toArray, List.set_cons_zero, List.set_cons_succ]
  refine WL.val (by kernel_rfl) (.int .i64 1) (by go_simp) ?_
  simp only [Act.put, List.setIfInBounds_toArray, List.set_cons_zero, List.set_cons_succ]
  refine WL.nil ?_
  refine hK8 _ _ ?_
  refine wp_seq_k fun K9 hK9 => ?_
  refine wp_seq_k fun K10 hK10 => ?_
  refine wp_region_list (WL.out ?_)
  refine WL.val (by kernel_rfl) (.int .i64 1) (by go_simp) ?_
  simp only [Act.put, List.setIfInBounds_toArray, List.set_cons_zero, List.set_cons_succ]
  refine WL.val (by kernel_rfl) (.int .i64 1) (by go_simp) ?_
  simp only [Act.put, List.setIfInBounds_toArray, List.set_cons_zero, List.set_cons_succ]
  refine WL.val (by kernel_rfl) (.bool false) (by go_simp) ?_
  simp only [Act.put, List.setIfInBounds_toArray, List.set_cons_zero, List.set_cons_succ]
  refine WL.val (by kernel_rfl) (.bool false) (by go_simp) ?_
  simp only [Act.put, List.setIfInBounds_toArray, List.set_cons_zero, List.set_cons_succ]
  refine WL.val (by kernel_rfl) (.pointer none) (by go_simp) ?_
  simp only [Act.put, List.setIfInBounds_toArray, List.set_cons_zero, List.set_cons_succ]
  refine WL.val (by kernel_rfl) (.bool true) (by go_simp) ?_
  simp only [Act.put, List.setIfInBounds_toArray, List.set_cons_zero, List.set_cons_succ]
  refine WL.val (by kernel_rfl) (.pointer none) (by go_simp) ?_
  simp only [Act.put, List.setIfInBounds_toArray, List.set_cons_zero, List.set_cons_succ]
  refine WL.val (by kernel_rfl) (.bool true) (by go_simp) ?_
  simp only [Act.put, List.setIfInBounds_toArray, List.set_cons_zero, List.set_cons_succ]
  refine WL.val (by kernel_rfl) (.bool false) (by go_simp) ?_
  simp only [Act.put, List.setIfInBounds_toArray, List.set_cons_zero, List.set_cons_succ]
  refine WL.val (by kernel_rfl) (.bool false) (by go_simp) ?_
  simp only [Act.put, List.setIfInBounds_toArray, List.set_cons_zero, List.set_cons_succ]
  refine WL.nil ?_
  refine hK10 _ _ ?_
  refine wp_cond_false rfl ?_
  refine wp_skip ?_
  refine hK9 _ _ ?_
  refine wp_seq_k fun K11 hK11 => ?_
  refine wp_seq_k fun K12 hK12 => ?_
  refine wp_region_list (WL.out ?_)
  refine WL.val (by kernel_rfl) (.pointer none) (by go_simp) ?_
  simp only [Act.put, List.setIfInBounds_toArray, List.set_cons_zero, List.set_cons_succ]
  refine WL.val (by kernel_rfl) (.bool true) (by go_simp) ?_
  simp only [Act.put, List.setIfInBounds_toArray, List.set_cons_zero, List.set_cons_succ]
  refine WL.nil ?_
  refine hK12 _ _ ?_
  refine wp_cond_true rfl ?_
  refine wp_seq_k fun K13 hK13 => ?_
  refine wp_region_list (WL.out ?_)
  refine WL.val (by kernel_rfl) (.bool true) (by go_simp) ?_
  simp only [Act.put, List.setIfInBounds_toArray, List.set_cons_zero, List.set_cons_succ]
  refine WL.nil ?_
  refine hK13 _ _ ?_
  refine wp_ret ?_
  go_ret
  exact ⟨rfl, HB2.out⟩
set_option maxRecDepth 8000 in
theorem mesh_bo (w : World) (qe : Addr) (HE : Keep (ErrI w qe)) (n : Int) (M : Nat) (vs : Value) (hn : (n < 1 ∨ 8 < n)) (hM : 1 ≤ M ∧ M ≤ 8) : Calls Tryd.prog 4 #[.int .i64 n, .int .i64 (M : Int), vs] w fun e w' => e = .returned (.bool true) ∧ Below w.heap.size w w' := by
  go_enter Tryd.func4, Tryd.ntmps4
  refine wp_seq_k fun K1 hK1 => ?_
  refine wp_region_list (WL.out ?_)
  refine WL.val (by kernel_rfl) (.bool false) (by go_simp) ?_
  simp only [Act.put, List.setIfInBounds_toArray, List.set_cons_zero, List.set_cons_succ]
  refine WL.nil ?_
  refine hK1 _ _ ?_
  refine wp_seq_k fun K2 hK2 => ?_
  refine wp_region_list (WL.out ?_)
  refine WL.callF (by kernel_rfl) 7 _ _ rfl Tryd.in7 #[] (by simp) ?_
  refine (fixed_any w qe HE).mono ?_
  rintro e w1 ⟨rfl, hb1⟩
  refine ⟨_, rfl, ?_⟩
  have HB1 := Keep.mk hb1
  clear hb1
  simp only [Act.put, List.setIfInBounds_toArray, List.set_cons_zero, List.set_cons_succ]
  refine WL.val (by kernel_rfl) (.bool true) (by go_simp) ?_
  simp only [Act.put, List.setIfInBounds_toArray, List.set_cons_zero, List.set_cons_succ]
  refine WL.nil ?_
  refine hK2 _ _ ?_
  refine wp_seq_k fun K3 hK3 => ?_
  refine wp_region_list (WL.out ?_)
  refine WL.val (by kernel_rfl) (.int .i64 n) (by go_simp) ?_
  simp only [Act.put, List.setIfInBounds_toArray, List.set_cons_zero, List.set_cons_succ]
  refine WL.callF (by kernel_rfl) 8 _ _ rfl Tryd.in8 #[.int .i64 n] (by simp [Act.eval]) ?_
  refine (pnw_bad w1 n hn).mono ?_
  rintro e w1a ⟨rfl, hw_⟩
  refine ⟨_, rfl, ?_⟩
  have hw_ := hw_.symm
  subst hw_
  simp only [Act.put, List.setIfInBounds_toArray, List.set_cons_zero, List.set_cons_succ]
  refine WL.val (by kernel_rfl) (.tuple #[.pointer none, .int .i64 1]) (by go_simp) ?_
  simp only [Act.put, List.setIfInBounds_toArray, List.set_cons_zero, List.set_cons_succ]
  refine WL.val (by kernel_rfl) (.pointer none) (by go_simp) ?_
  simp only [Act.put, List.setIfInBounds_toArray, List.set_cons_zero, List.set_cons_succ]
  refine WL.val (by kernel_rfl) (.int .i64 1) (by go_simp) ?_
  simp only [Act.put, List.setIfInBounds_toArray, List.set_cons_zero, List.set_cons_succ]
  refine WL.val (by kernel_rfl) (.pointer none) (by go_simp) ?_
  simp only [Act.put, List.setIfInBounds_toArray, List.set_cons_zero, List.set_cons_succ]
  refine WL.val (by kernel_rfl) (.int .i64 1) (by go_simp) ?_
  simp only [Act.put, List.setIfInBounds_toArray, List.set_cons_zero, List.set_cons_succ]
  refine WL.nil ?_
  refine hK3 _ _ ?_
  refine wp_seq_k fun K4 hK4 => ?_
  refine wp_region_list (WL.out ?_)
  refine WL.val (by kernel_rfl) (.int .i64 n) (by go_simp) ?_
  simp only [Act.put, List.setIfInBounds_toArray, List.set_cons_zero, List.set_cons_succ]
  refine WL.callF (by kernel_rfl) 9 _ _ rfl Tryd.in9 #[.int .i64 n] (by simp [Act.eval]) ?_
  refine (nw_bad w1 n hn).mono ?_
  rintro e w1b ⟨rfl, hw_⟩
  refine ⟨_, rfl, ?_⟩
  have hw_ := hw_.symm
  subst hw_
  simp only [Act.put, List.setIfInBounds_toArray, List.set_cons_zero, List.set_cons_succ]
  refine WL.val (by kernel_rfl) (.tuple #[.pointer none, .int .i64 1]) (by go_simp) ?_
  simp only [Act.put, List.setIfInBounds_toArray, List.set_cons_zero, List.set_cons_succ]
  refine WL.val (by kernel_rfl) (.pointer none) (by go_simp) ?_
  simp only [Act.put, List.setIfInBounds_toArray, List.set_cons_zero, List.set_cons_succ]
  refine WL.val (by kernel_rfl) (.int .i64 1) (by go_simp) ?_
  simp only [Act.put, List.setIfInBounds_toArray, List.set_cons_zero, List.set_cons_succ]
  refine WL.val (by kernel_rfl) (.pointer none) (by go_simp) ?_
  simp only [Act.put, List.setIfInBounds_toArray, List.set_cons_zero, List.set_cons_succ]
  refine WL.val (by kernel_rfl) (.int .i64 1) (by go_simp) ?_
  simp only [Act.put, List.setIfInBounds_toArray, List.set_cons_zero, List.set_cons_succ]
  refine WL.nil ?_
  refine hK4 _ _ ?_
  refine wp_seq_k fun K5 hK5 => ?_
  refine wp_seq_k fun K6 hK6 => ?_
  refine wp_region_list (WL.out ?_)
  refine WL.val (by kernel_rfl) (.bool true) (by go_simp) ?_
  simp only [Act.put, List.setIfInBounds_toArray, List.set_cons_zero, List.set_cons_succ]
  refine WL.val (by kernel_rfl) (.bool false) (by go_simp) ?_
  simp only [Act.put, List.setIfInBounds_toArray, List.set_cons_zero, List.set_cons_succ]
  refine WL.val (by kernel_rfl) (.bool false) (by go_simp) ?_
  simp only [Act.put, List.setIfInBounds_toArray, List.set_cons_zero, List.set_cons_succ]
  refine WL.val (by kernel_rfl) (.int .i64 1) (by go_simp) ?_
  simp only [Act.put, List.setIfInBounds_toArray, List.set_cons_zero, List.set_cons_succ]
  refine WL.val (by kernel_rfl) (.int .i64 1) (by go_simp) ?_
  simp only [Act.put, List.setIfInBounds_toArray, List.set_cons_zero, List.set_cons_succ]
  refine WL.val (by kernel_rfl) (.bool false) (by go_simp) ?_
  simp only [Act.put, List.setIfInBounds_toArray, List.set_cons_zero, List.set_cons_succ]
  refine WL.val (by kernel_rfl) (.bool false) (by go_simp) ?_
  simp only [Act.put, List.setIfInBounds_toArray, List.set_cons_zero, List.set_cons_succ]
  refine WL.val (by kernel_rfl) (.bool false) (by go_simp) ?_
  simp only [Act.put, List.setIfInBounds_toArray, List.set_cons_zero, List.set_cons_succ]
  refine WL.val (by kernel_rfl) (.pointer none) (by go_simp) ?_
  simp only [Act.put, List.setIfInBounds_toArray, List.set_cons_zero, List.set_cons_succ]
  refine WL.val (by kernel_rfl) (.bool true) (by go_simp) ?_
  simp only [Act.put, List.setIfInBounds_toArray, List.set_cons_zero, List.set_cons_succ]
  refine WL.val (by kernel_rfl) (.pointer none) (by go_simp) ?_
  simp only [Act.put, List.setIfInBounds_toArray, List.set_cons_zero, List.set_cons_succ]
  refine WL.val (by kernel_rfl) (.bool true) (by go_simp) ?_
  simp only [Act.put, List.setIfInBounds_toArray, List.set_cons_zero, List.set_cons_succ]
  refine WL.val (by kernel_rfl) (.bool false) (by go_simp) ?_
  simp only [Act.put, List.setIfInBounds_toArray, List.set_cons_zero, List.set_cons_succ]
  refine WL.val (by kernel_rfl) (.bool false) (by go_simp) ?_
  simp only [Act.put, List.setIfInBounds_toArray, List.set_cons_zero, List.set_cons_succ]
  refine WL.nil ?_
  refine hK6 _ _ ?_
  refine wp_cond_false rfl ?_
  refine wp_skip ?_
  refine hK5 _ _ ?_
  refine wp_seq_k fun K7 hK7 => ?_
  refine wp_region_list (WL.out ?_)
  refine WL.val (by kernel_rfl) (.int .i64 (M : Int)) (by go_simp) ?_
  simp only [Act.put, List.setIfInBounds_toArray, List.set_cons_zero, List.set_cons_succ]
  refine WL.callF (by kernel_rfl) 8 _ _ rfl Tryd.in8 #[.int .i64 (M : Int)] (by simp [Act.eval]) ?_
  refine (pnw_ok w1 M hM).mono ?_
  rintro e w2 ⟨p, mb, rfl, _, _, hb2_⟩
  refine ⟨_, rfl, ?_⟩
  have HB1a := Keep.mk (HB1.out.trans (hb2_.mono HB1.out.size))
  clear hb2_
  simp only [Act.put, List.setIfInBounds_toArray, List.set_cons_zero, List.set_cons_succ]
  refine WL.val (by kernel_rfl) (.tuple #[.pointer (some ⟨p, 0, none⟩), .int .i64 0]) (by go_simp) ?_
  simp only [Act.put, List.setIfInBounds_toArray, List.set_cons_zero, List.set_cons_succ]
  refine WL.val (by kernel_rfl) (.pointer (some ⟨p, 0, none⟩)) (by go_simp) ?_
  simp only [Act.put, List.setIfInBounds_toArray, List.set_cons_zero, List.set_cons_succ]
  refine WL.val (by kernel_rfl) (.int .i64 0) (by go_simp) ?_
  simp only [Act.put, List.setIfInBounds_toArray, List.set_cons_zero, List.set_cons_succ]
  refine WL.val (by kernel_rfl) (.pointer (some ⟨p, 0, none⟩)) (by go_simp) ?_
  simp only [Act.put, List.setIfInBounds_toArray, List.set_cons_zero, List.set_cons_succ]
  refine WL.val (by kernel_rfl) (.int .i64 0) (by go_simp) ?_
  simp only [Act.put, List.setIfInBounds_toArray, List.set_cons_zero, List.set_cons_succ]
  refine WL.nil ?_
  refine hK7 _ _ ?_
  refine wp_seq_k fun K8 hK8 => ?_
  refine wp_region_list (WL.out ?_)
  refine WL.val (by kernel_rfl) (.int .i64 (M : Int)) (by go_simp) ?_
  simp only [Act.put, List.setIfInBounds_toArray, List.set_cons_zero, List.set_cons_succ]
  refine WL.callF (by kernel_rfl) 9 _ _ rfl Tryd.in9 #[.int .i64 (M : Int)] (by simp [Act.eval]) ?_
  refine (nw_ok w2 M hM).mono ?_
  rintro e w3 ⟨x, g, rfl, _, _, hb3_⟩
  refine ⟨_, rfl, ?_⟩
  have HB2 := Keep.mk (HB1a.out.trans (hb3_.mono HB1a.out.size))
  clear hb3_
  simp only [Act.put, List.setIfInBounds_toArray, List.set_cons_zero, List.set_cons_succ]
  refine WL.val (by kernel_rfl) (.tuple #[.pointer (some ⟨x, 0, none⟩), .int .i64 0]) (by go_simp) ?_
  simp only [Act.put, List.setIfInBounds_toArray, List.set_cons_zero, List.set_cons_succ]
  refine WL.val (by kernel_rfl) (.pointer (some ⟨x, 0, none⟩)) (by go_simp) ?_
  simp only [Act.put, List.setIfInBounds_toArray, List.set_cons_zero, List.set_cons_succ]
  refine WL.val (by kernel_rfl) (.int .i64 0) (by go_simp) ?_
  simp only [Act.put, List.setIfInBounds_toArray, List.set_cons_zero, List.set_cons_succ]
  refine WL.val (by kernel_rfl) (.pointer (some ⟨x, 0, none⟩)) (by go_simp) ?_
  simp only [Act.put, List.setIfInBounds_toArray, List.set_cons_zero, List.set_cons_succ]
  refine WL.val (by kernel_rfl) (.int .i64 0) (by go_simp) ?_
  simp only [Act.put, List.setIfInBounds_toArray, List.set_cons_zero, List.set_cons_succ]
  refine WL.nil ?_
  refine hK8 _ _ ?_
  refine wp_seq_k fun K9 hK9 => ?_
  refine wp_seq_k fun K10 hK10 => ?_
  refine wp_region_list (WL.out ?_)
  refine WL.val (by kernel_rfl) (.int .i64 0) (by go_simp) ?_
  simp only [Act.put, List.setIfInBounds_toArray, List.set_cons_zero, List.set_cons_succ]
  refine WL.val (by kernel_rfl) (.int .i64 0) (by go_simp) ?_
  simp only [Act.put, List.setIfInBounds_toArray, List.set_cons_zero, List.set_cons_succ]
  refine WL.val (by kernel_rfl) (.bool false) (by go_simp) ?_
  simp only [Act.put, List.setIfInBounds_toArray, List.set_cons_zero, List.set_cons_succ]
  refine WL.val (by kernel_rfl) (.bool false) (by go_simp) ?_
  simp only [Act.put, List.setIfInBounds_toArray, List.set_cons_zero, List.set_cons_succ]
  refine WL.val (by kernel_rfl) (.pointer (some ⟨p, 0, none⟩)) (by go_simp) ?_
  simp only [Act.put, List.setIfInBounds_toArray, List.set_cons_zero, List.set_cons_succ]
  refine WL.val (by kernel_rfl) (.bool false) (by go_simp) ?_
  simp only [Act.put, List.setIfInBounds_toArray, List.set_cons_zero, List.set_cons_succ]
  refine WL.val (by kernel_rfl) (.pointer (some ⟨x, 0, none⟩)) (by go_simp) ?_
  simp only [Act.put, List.setIfInBounds_toArray, List.set_cons_zero, List.set_cons_succ]
  refine WL.val (by kernel_rfl) (.bool false) (by go_simp) ?_
  simp only [Act.put, List.setIfInBounds_toArray, List.set_cons_zero, List.set_cons_succ]
  refine WL.val (by kernel_rfl) (.bool false) (by go_simp) ?_
  simp only [Act.put, List.setIfInBounds_toArray, List.set_cons_zero, List.set_cons_succ]
  refine WL.val (by kernel_rfl) (.bool false) (by go_simp) ?_
  simp only [Act.put, List.setIfInBounds_toArray, List.set_cons_zero, List.set_cons_succ]
  refine WL.nil ?_
  refine hK10 _ _ ?_
  refine wp_cond_false rfl ?_
  refine wp_skip ?_
  refine hK9 _ _ ?_
  refine wp_seq_k fun K11 hK11 => ?_
  refine wp_seq_k fun K12 hK12 => ?_
  refine wp_region_list (WL.out ?_)
  refine WL.val (by kernel_rfl) (.pointer none) (by go_simp) ?_
  simp only [Act.put, List.setIfInBounds_toArray, List.set_cons_zero, List.set_cons_succ]
  refine WL.val (by kernel_rfl) (.bool true) (by go_simp) ?_
  simp only [Act.put, List.setIfInBounds_toArray, List.set_cons_zero, List.set_cons_succ]
  refine WL.nil ?_
  refine hK12 _ _ ?_
  refine wp_cond_true rfl ?_
  refine wp_seq_k fun K13 hK13 => ?_
  refine wp_region_list (WL.out ?_)
  refine WL.val (by kernel_rfl) (.bool true) (by go_simp) ?_
  simp only [Act.put, List.setIfInBounds_toArray, List.set_cons_zero, List.set_cons_succ]
  refine WL.nil ?_
  refine hK13 _ _ ?_
  refine wp_ret ?_
  go_ret
  exact ⟨rfl, HB2.out⟩

set_option maxRecDepth 8000 in
set_option maxHeartbeats 4000000 in
theorem mesh_gg (w : World) (qe : Addr) (HE : Keep (ErrI w qe)) (N M : Nat) (hN : 1 ≤ N ∧ N ≤ 8) (hM : 1 ≤ M ∧ M ≤ 8) (va : Option Addr) (gs go gc : Nat) (S : List Stp) (HV : Keep (S ≠ [] → va = some ⟨gs, go, none⟩)) (HS : Keep (StpAt w (fun k => w.heap.size ≤ k) gs go S)) (HN : Keep (S.length ≤ 140737488355328)) : Calls Tryd.prog 4 #[.int .i64 (N : Int), .int .i64 (M : Int), .slice va S.length gc] w fun e w' => e = .returned (.bool true) ∧ Below w.heap.size w w' := by
  go_enter Tryd.func4, Tryd.ntmps4
  refine wp_seq_k fun K1 hK1 => ?_
  refine wp_region_list (WL.out ?_)
  refine WL.val (by kernel_rfl) (.bool false) (by go_simp) ?_
  simp only [Act.put, List.setIfInBounds_toArray, List.set_cons_zero, List.set_cons_succ]
  refine WL.nil ?_
  refine hK1 _ _ ?_
  refine wp_seq_k fun K2 hK2 => ?_
  refine wp_region_list (WL.out ?_)
  refine WL.callF (by kernel_rfl) 7 _ _ rfl Tryd.in7 #[] (by simp) ?_
  refine (fixed_any w qe HE).mono ?_
  rintro e w1 ⟨rfl, hb1⟩
  refine ⟨_, rfl, ?_⟩
  have B1 := Keep.mk hb1
  clear hb1
  simp only [Act.put, List.setIfInBounds_toArray, List.set_cons_zero, List.set_cons_succ]
  refine WL.val (by kernel_rfl) (.bool true) (by go_simp) ?_
  simp only [Act.put, List.setIfInBounds_toArray, List.set_cons_zero, List.set_cons_succ]
  refine WL.nil ?_
  refine hK2 _ _ ?_
  refine wp_seq_k fun K3 hK3 => ?_
  refine wp_region_list (WL.out ?_)
  refine WL.val (by kernel_rfl) (.int .i64 (N : Int)) (by go_simp) ?_
  simp only [Act.put, List.setIfInBounds_toArray, List.set_cons_zero, List.set_cons_succ]
  refine WL.callF (by kernel_rfl) 8 _ _ rfl Tryd.in8 #[.int .i64 (N : Int)] (by simp [Act.eval]) ?_
  refine (pnw_ok w1 N hN).mono ?_
  rintro e w2 ⟨p, mb, rfl, k1, k2, k3⟩
  refine ⟨_, rfl, ?_⟩
  simp only [Act.put, List.setIfInBounds_toArray, List.set_cons_zero, List.set_cons_succ]
  refine WL.val (by kernel_rfl) (.tuple #[.pointer (some ⟨p, 0, none⟩), .int .i64 0]) (by go_simp) ?_
  simp only [Act.put, List.setIfInBounds_toArray, List.set_cons_zero, List.set_cons_succ]
  refine WL.val (by kernel_rfl) (.pointer (some ⟨p, 0, none⟩)) (by go_simp) ?_
  simp only [Act.put, List.setIfInBounds_toArray, List.set_cons_zero, List.set_cons_succ]
  refine WL.val (by kernel_rfl) (.int .i64 0) (by go_simp) ?_
  simp only [Act.put, List.setIfInBounds_toArray, List.set_cons_zero, List.set_cons_succ]
  refine WL.val (by kernel_rfl) (.pointer (some ⟨p, 0, none⟩)) (by go_simp) ?_
  simp only [Act.put, List.setIfInBounds_toArray, List.set_cons_zero, List.set_cons_succ]
  refine WL.val (by kernel_rfl) (.int .i64 0) (by go_simp) ?_
  simp only [Act.put, List.setIfInBounds_toArray, List.set_cons_zero, List.set_cons_succ]
  refine WL.nil ?_
  refine hK3 _ _ ?_
  refine wp_seq_k fun K4 hK4 => ?_
  refine wp_region_list (WL.out ?_)
  refine WL.val (by kernel_rfl) (.int .i64 (N : Int)) (by go_simp) ?_
  simp only [Act.put, List.setIfInBounds_toArray, List.set_cons_zero, List.set_cons_succ]
  refine WL.callF (by kernel_rfl) 9 _ _ rfl Tryd.in9 #[.int .i64 (N : Int)] (by simp [Act.eval]) ?_
  refine (nw_ok w2 N hN).mono ?_
  rintro e w3 ⟨x, g, rfl, k4, k5, k6⟩
  refine ⟨_, rfl, ?_⟩
  obtain ⟨j1, j2, j3, j4⟩ := pr_new k1 k2 k3 k4 k5 k6
  have R3 := Keep.mk j1
  have EK := Keep.mk j2
  have B3 : Keep (Below w.heap.size w w3) := ⟨B1.out.trans (j3.mono B1.out.size)⟩
  have L3 : Keep (∀ k, PrS p mb x g K0 K0 k → w.heap.size ≤ k) := ⟨fun k hk => Nat.le_trans B1.out.size (j4 k hk)⟩
  clear k1 k2 k3 k4 k5 k6 j1 j2 j3 j4 B1
  simp only [Act.put, List.setIfInBounds_toArray, List.set_cons_zero, List.set_cons_succ]
  refine WL.val (by kernel_rfl) (.tuple #[.pointer (some ⟨x, 0, none⟩), .int .i64 0]) (by go_simp) ?_
  simp only [Act.put, List.setIfInBounds_toArray, List.set_cons_zero, List.set_cons_succ]
  refine WL.val (by kernel_rfl) (.pointer (some ⟨x, 0, none⟩)) (by go_simp) ?_
  simp only [Act.put, List.setIfInBounds_toArray, List.set_cons_zero, List.set_cons_succ]
  refine WL.val (by kernel_rfl) (.int .i64 0) (by go_simp) ?_
  simp only [Act.put, List.setIfInBounds_toArray, List.set_cons_zero, List.set_cons_succ]
  refine WL.val (by kernel_rfl) (.pointer (some ⟨x, 0, none⟩)) (by go_simp) ?_
  simp only [Act.put, List.setIfInBounds_toArray, List.set_cons_zero, List.set_cons_succ]
  refine WL.val (by kernel_rfl) (.int .i64 0) (by go_simp) ?_
  simp only [Act.put, List.setIfInBounds_toArray, List.set_cons_zero, List.set_cons_succ]
  refine WL.nil ?_
  refine hK4 _ _ ?_
  refine wp_seq_k fun K5 hK5 => ?_
  refine wp_seq_k fun K6 hK6 => ?_
  refine wp_region_list (WL.out ?_)
  refine WL.val (by kernel_rfl) (.bool true) (by go_simp) ?_
  simp only [Act.put, List.setIfInBounds_toArray, List.set_cons_zero, List.set_cons_succ]
  refine WL.val (by kernel_rfl) (.bool false) (by go_simp) ?_
  simp only [Act.put, List.setIfInBounds_toArray, List.set_cons_zero, List.set_cons_succ]
  refine WL.val (by kernel_rfl) (.bool false) (by go_simp) ?_
  simp only [Act.put, List.setIfInBounds_toArray, List.set_cons_zero, List.set_cons_succ]
  refine WL.val (by kernel_rfl) (.int .i64 0) (by go_simp) ?_
  simp only [Act.put, List.setIfInBounds_toArray, List.set_cons_zero, List.set_cons_succ]
  refine WL.val (by kernel_rfl) (.int .i64 0) (by go_simp) ?_
  simp only [Act.put, List.setIfInBounds_toArray, List.set_cons_zero, List.set_cons_succ]
  refine WL.val (by kernel_rfl) (.bool false) (by go_simp) ?_
  simp only [Act.put, List.setIfInBounds_toArray, List.set_cons_zero, List.set_cons_succ]
  refine WL.val (by kernel_rfl) (.bool false) (by go_simp) ?_
  simp only [Act.put, List.setIfInBounds_toArray, List.set_cons_zero, List.set_cons_succ]
  refine WL.val (by kernel_rfl) (.bool false) (by go_simp) ?_
  simp only [Act.put, List.setIfInBounds_toArray, List.set_cons_zero, List.set_cons_succ]
  refine WL.val (by kernel_rfl) (.pointer (some ⟨p, 0, none⟩)) (by go_simp) ?_
  simp only [Act.put, List.setIfInBounds_toArray, List.set_cons_zero, List.set_cons_succ]
  refine WL.val (by kernel_rfl) (.bool false) (by go_simp) ?_
  simp only [Act.put, List.setIfInBounds_toArray, List.set_cons_zero, List.set_cons_succ]
  refine WL.val (by kernel_rfl) (.pointer (some ⟨x, 0, none⟩)) (by go_simp) ?_
  simp only [Act.put, List.setIfInBounds_toArray, List.set_cons_zero, List.set_cons_succ]
  refine WL.val (by kernel_rfl) (.bool false) (by go_simp) ?_
  simp only [Act.put, List.setIfInBounds_toArray, List.set_cons_zero, List.set_cons_succ]
  refine WL.val (by kernel_rfl) (.bool false) (by go_simp) ?_
  simp only [Act.put, List.setIfInBounds_toArray, List.set_cons_zero, List.set_cons_succ]
  refine WL.val (by kernel_rfl) (.bool false) (by go_simp) ?_
  simp only [Act.put, List.setIfInBounds_toArray, List.set_cons_zero, List.set_cons_succ]
  refine WL.nil ?_
  refine hK6 _ _ ?_
  refine wp_cond_false rfl ?_
  refine wp_skip ?_
  refine hK5 _ _ ?_
  refine wp_seq_k fun K7 hK7 => ?_
  refine wp_region_list (WL.out ?_)
  refine WL.val (by kernel_rfl) (.int .i64 (M : Int)) (by go_simp) ?_
  simp only [Act.put, List.setIfInBounds_toArray, List.set_cons_zero, List.set_cons_succ]
  refine WL.callF (by kernel_rfl) 8 _ _ rfl Tryd.in8 #[.int .i64 (M : Int)] (by simp [Act.eval]) ?_
  refine (pnw_ok w3 M hM).mono ?_
  rintro e w4 ⟨p2, mb2, rfl, k1, k2, k3⟩
  refine ⟨_, rfl, ?_⟩
  simp only [Act.put, List.setIfInBounds_toArray, List.set_cons_zero, List.set_cons_succ]
  refine WL.val (by kernel_rfl) (.tuple #[.pointer (some ⟨p2, 0, none⟩), .int .i64 0]) (by go_simp) ?_
  simp only [Act.put, List.setIfInBounds_toArray, List.set_cons_zero, List.set_cons_succ]
  refine WL.val (by kernel_rfl) (.pointer (some ⟨p2, 0, none⟩)) (by go_simp) ?_
  simp only [Act.put, List.setIfInBounds_toArray, List.set_cons_zero, List.set_cons_succ]
  refine WL.val (by kernel_rfl) (.int .i64 0) (by go_simp) ?_
  simp only [Act.put, List.setIfInBounds_toArray, List.set_cons_zero, List.set_cons_succ]
  refine WL.val (by kernel_rfl) (.pointer (some ⟨p2, 0, none⟩)) (by go_simp) ?_
  simp only [Act.put, List.setIfInBounds_toArray, List.set_cons_zero, List.set_cons_succ]
  refine WL.val (by kernel_rfl) (.int .i64 0) (by go_simp) ?_
  simp only [Act.put, List.setIfInBounds_toArray, List.set_cons_zero, List.set_cons_succ]
  refine WL.nil ?_
  refine hK7 _ _ ?_
  refine wp_seq_k fun K8 hK8 => ?_
  refine wp_region_list (WL.out ?_)
  refine WL.val (by kernel_rfl) (.int .i64 (M : Int)) (by go_simp) ?_
  simp only [Act.put, List.setIfInBounds_toArray, List.set_cons_zero, List.set_cons_succ]
  refine WL.callF (by kernel_rfl) 9 _ _ rfl Tryd.in9 #[.int .i64 (M : Int)] (by simp [Act.eval]) ?_
  refine (nw_ok w4 M hM).mono ?_
  rintro e w5 ⟨x2, g2, rfl, k4, k5, k6⟩
  refine ⟨_, rfl, ?_⟩
  obtain ⟨j1, j2, j3, j4⟩ := pr_new k1 k2 k3 k4 k5 k6
  have R5 := Keep.mk j1
  have S5 := Keep.mk (R3.out.below j3)
  have B5 : Keep (Below w.heap.size w w5) := ⟨B3.out.trans (j3.mono B3.out.size)⟩
  have L5 : Keep (∀ k, PrS p2 mb2 x2 g2 K0 K0 k → w.heap.size ≤ k ∧ ¬ PrS p mb x g K0 K0 k) := ⟨fun k hk => ⟨Nat.le_trans B3.out.size (j4 k hk), fun e => by have := R3.out.lt k e; have := j4 k hk; omega⟩⟩
  clear k1 k2 k3 k4 k5 k6 j1 j2 j3 j4 B3 R3
  simp only [Act.put, List.setIfInBounds_toArray, List.set_cons_zero, List.set_cons_succ]
  refine WL.val (by kernel_rfl) (.tuple #[.pointer (some ⟨x2, 0, none⟩), .int .i64 0]) (by go_simp) ?_
  simp only [Act.put, List.setIfInBounds_toArray, List.set_cons_zero, List.set_cons_succ]
  refine WL.val (by kernel_rfl) (.pointer (some ⟨x2, 0, none⟩)) (by go_simp) ?_
  simp only [Act.put, List.setIfInBounds_toArray, List.set_cons_zero, List.set_cons_succ]
  refine WL.val (by kernel_rfl) (.int .i64 0) (by go_simp) ?_
  simp only [Act.put, List.setIfInBounds_toArray, List.set_cons_zero, List.set_cons_succ]
  refine WL.val (by kernel_rfl) (.pointer (some ⟨x2, 0, none⟩)) (by go_simp) ?_
  simp only [Act.put, List.setIfInBounds_toArray, List.set_cons_zero, List.set_cons_succ]
  refine WL.val (by kernel_rfl) (.int .i64 0) (by go_simp) ?_
  simp only [Act.put, List.setIfInBounds_toArray, List.set_cons_zero, List.set_cons_succ]
  refine WL.nil ?_
  refine hK8 _ _ ?_
  refine wp_seq_k fun K9 hK9 => ?_
  refine wp_seq_k fun K10 hK10 => ?_
  refine wp_region_list (WL.out ?_)
  refine WL.val (by kernel_rfl) (.int .i64 0) (by go_simp) ?_
  simp only [Act.put, List.setIfInBounds_toArray, List.set_cons_zero, List.set_cons_succ]
  refine WL.val (by kernel_rfl) (.int .i64 0) (by go_simp) ?_
  simp only [Act.put, List.setIfInBounds_toArray, List.set_cons_zero, List.set_cons_succ]
  refine WL.val (by kernel_rfl) (.bool false) (by go_simp) ?_
  simp only [Act.put, List.setIfInBounds_toArray, List.set_cons_zero, List.set_cons_succ]
  refine WL.val (by kernel_rfl) (.bool false) (by go_simp) ?_
  simp only [Act.put, List.setIfInBounds_toArray, List.set_cons_zero, List.set_cons_succ]
  refine WL.val (by kernel_rfl) (.pointer (some ⟨p2, 0, none⟩)) (by go_simp) ?_
  simp only [Act.put, List.setIfInBounds_toArray, List.set_cons_zero, List.set_cons_succ]
  refine WL.val (by kernel_rfl) (.bool false) (by go_simp) ?_
  simp only [Act.put, List.setIfInBounds_toArray, List.set_cons_zero, List.set_cons_succ]
  refine WL.val (by kernel_rfl) (.pointer (some ⟨x2, 0, none⟩)) (by go_simp) ?_
  simp only [Act.put, List.setIfInBounds_toArray, List.set_cons_zero, List.set_cons_succ]
  refine WL.val (by kernel_rfl) (.bool false) (by go_simp) ?_
  simp only [Act.put, List.setIfInBounds_toArray, List.set_cons_zero, List.set_cons_succ]
  refine WL.val (by kernel_rfl) (.bool false) (by go_simp) ?_
  simp only [Act.put, List.setIfInBounds_toArray, List.set_cons_zero, List.set_cons_succ]
  refine WL.val (by kernel_rfl) (.bool false) (by go_simp) ?_
  simp only [Act.put, List.setIfInBounds_toArray, List.set_cons_zero, List.set_cons_succ]
  refine WL.nil ?_
  refine hK10 _ _ ?_
  refine wp_cond_false rfl ?_
  refine wp_skip ?_
  refine hK9 _ _ ?_
  refine wp_seq_k fun K11 hK11 => ?_
  refine wp_seq_k fun K12 hK12 => ?_
  refine wp_region_list (WL.out ?_)
  refine WL.val (by kernel_rfl) (.pointer (some ⟨x, 0, none⟩)) (by go_simp) ?_
  simp only [Act.put, List.setIfInBounds_toArray, List.set_cons_zero, List.set_cons_succ]
  refine WL.val (by kernel_rfl) (.bool false) (by go_simp) ?_
  simp only [Act.put, List.setIfInBounds_toArray, List.set_cons_zero, List.set_cons_succ]
  refine WL.nil ?_
  refine hK12 _ _ ?_
  refine wp_cond_false rfl ?_
  refine wp_skip ?_
  refine hK11 _ _ ?_
  refine wp_seq_k fun K13 hK13 => ?_
  refine wp_region_list (WL.out ?_)
  refine WL.val (by kernel_rfl) (.pointer (some ⟨p, 0, none⟩)) (by go_simp) ?_
  simp only [Act.put, List.setIfInBounds_toArray, List.set_cons_zero, List.set_cons_succ]
  refine WL.val (by kernel_rfl) (.pointer (some ⟨x, 0, none⟩)) (by go_simp) ?_
  simp only [Act.put, List.setIfInBounds_toArray, List.set_cons_zero, List.set_cons_succ]
  refine WL.bld (by kernel_rfl) 34 _ rfl [(0, .pointer (some ⟨p, 0, none⟩)), (1, .pointer (some ⟨x, 0, none⟩))] (by simp [Act.eval]) #[.pointer (some ⟨p, 0, none⟩), .pointer (some ⟨x, 0, none⟩)] (bldPa p x) ?_
  simp only [Act.put, List.setIfInBounds_toArray, List.set_cons_zero, List.set_cons_succ]
  refine WL.new (by kernel_rfl) 34 rfl _ Tryd.newPa ?_
  have Ca := Keep.mk (Blk.new w5 34 #[.pointer none, .pointer none])
  have ba := Keep.mk (below_new w5 (.cells #[.pointer none, .pointer none] 34))
  generalize w5.alloc (.cells #[.pointer none, .pointer none] 34) = w6 at *
  obtain ⟨a, ha⟩ : ∃ z, Keep (z = w5.heap.size) := ⟨_, ⟨rfl⟩⟩
  rw [← ha.out] at Ca ⊢
  simp only [Act.put, List.setIfInBounds_toArray, List.set_cons_zero, List.set_cons_succ]
  refine WL.storeR (by kernel_rfl) 34 (.tmp 16) (.tmp 76) rfl a #[.pointer (some ⟨p, 0, none⟩), .pointer (some ⟨x, 0, none⟩)] rfl rfl 34 #[.pointer none, .pointer none] Ca.out (sizePa p x) rfl (onePa p x) ?_
  have Da := Keep.mk (Ca.out.setRow #[.pointer (some ⟨p, 0, none⟩), .pointer (some ⟨x, 0, none⟩)])
  have g_ : Keep (Grown w6 (w6.setRow a #[.pointer (some ⟨p, 0, none⟩), .pointer (some ⟨x, 0, none⟩)]) fun k => k = a) := ⟨Grown.setRow w6 a _ fun _ => rfl⟩
  have b7 : Keep (Below w5.heap.size w5 (w6.setRow a #[.pointer (some ⟨p, 0, none⟩), .pointer (some ⟨x, 0, none⟩)])) := ⟨ba.out.trans (g_.out.to_below (fun k hk e => by have := ha.out; omega) ba.out.size)⟩
  clear Ca ba g_
  generalize w6.setRow a #[.pointer (some ⟨p, 0, none⟩), .pointer (some ⟨x, 0, none⟩)] = w7 at *
  simp only [Act.put]
  refine WL.nil ?_
  refine hK13 _ _ ?_
  refine wp_seq_k fun K14 hK14 => ?_
  refine wp_region_list (WL.out ?_)
  refine WL.val (by kernel_rfl) (.pointer (some ⟨p, 0, none⟩)) (by go_simp) ?_
  simp only [Act.put, List.setIfInBounds_toArray, List.set_cons_zero, List.set_cons_succ]
  refine WL.val (by kernel_rfl) (.pointer (some ⟨x, 0, none⟩)) (by go_simp) ?_
  simp only [Act.put, List.setIfInBounds_toArray, List.set_cons_zero, List.set_cons_succ]
  refine WL.bld (by kernel_rfl) 34 _ rfl [(0, .pointer (some ⟨p, 0, none⟩)), (1, .pointer (some ⟨x, 0, none⟩))] (by simp [Act.eval]) #[.pointer (some ⟨p, 0, none⟩), .pointer (some ⟨x, 0, none⟩)] (bldPa p x) ?_
  simp only [Act.put, List.setIfInBounds_toArray, List.set_cons_zero, List.set_cons_succ]
  refine WL.new (by kernel_rfl) 34 rfl _ Tryd.newPa ?_
  have Cb := Keep.mk (Blk.new w7 34 #[.pointer none, .pointer none])
  have bb := Keep.mk (below_new w7 (.cells #[.pointer none, .pointer none] 34))
  generalize w7.alloc (.cells #[.pointer none, .pointer none] 34) = w8 at *
  obtain ⟨b, hb⟩ : ∃ z, Keep (z = w7.heap.size) := ⟨_, ⟨rfl⟩⟩
  rw [← hb.out] at Cb ⊢
  simp only [Act.put, List.setIfInBounds_toArray, List.set_cons_zero, List.set_cons_succ]
  refine WL.storeR (by kernel_rfl) 34 (.tmp 17) (.tmp 79) rfl b #[.pointer (some ⟨p, 0, none⟩), .pointer (some ⟨x, 0, none⟩)] rfl rfl 34 #[.pointer none, .pointer none] Cb.out (sizePa p x) rfl (onePa p x) ?_
  have Db := Keep.mk (Cb.out.setRow #[.pointer (some ⟨p, 0, none⟩), .pointer (some ⟨x, 0, none⟩)])
  have g_ : Keep (Grown w8 (w8.setRow b #[.pointer (some ⟨p, 0, none⟩), .pointer (some ⟨x, 0, none⟩)]) fun k => k = b) := ⟨Grown.setRow w8 b _ fun _ => rfl⟩
  have b9 : Keep (Below w7.heap.size w7 (w8.setRow b #[.pointer (some ⟨p, 0, none⟩), .pointer (some ⟨x, 0, none⟩)])) := ⟨bb.out.trans (g_.out.to_below (fun k hk e => by have := hb.out; omega) bb.out.size)⟩
  have La : Keep (a < w7.heap.size) := ⟨Da.out.lt⟩
  have Ea := Keep.mk (Da.out.below b9.out La.out)
  have Lb : Keep (b = w7.heap.size) := hb
  have b5 : Keep (Below w5.heap.size w5 (w8.setRow b #[.pointer (some ⟨p, 0, none⟩), .pointer (some ⟨x, 0, none⟩)])) := ⟨b7.out.trans (b9.out.mono b7.out.size)⟩
  clear Cb bb g_ b9 Da hb
  generalize w8.setRow b #[.pointer (some ⟨p, 0, none⟩), .pointer (some ⟨x, 0, none⟩)] = w9 at *
  simp only [Act.put]
  refine WL.nil ?_
  refine hK14 _ _ ?_
  refine wp_seq_k fun K15 hK15 => ?_
  refine wp_seq_k fun K16 hK16 => ?_
  refine wp_region_list (WL.out ?_)
  refine WL.val (by kernel_rfl) (.pointer (some ⟨x2, 0, none⟩)) (by go_simp) ?_
  simp only [Act.put, List.setIfInBounds_toArray, List.set_cons_zero, List.set_cons_succ]
  refine WL.val (by kernel_rfl) (.bool true) (by go_simp) ?_
  simp only [Act.put, List.setIfInBounds_toArray, List.set_cons_zero, List.set_cons_succ]
  refine WL.nil ?_
  refine hK16 _ _ ?_
  refine wp_cond_true rfl ?_
  refine wp_region_list (WL.out ?_)
  refine WL.val (by kernel_rfl) (.pointer (some ⟨p2, 0, none⟩)) (by go_simp) ?_
  simp only [Act.put, List.setIfInBounds_toArray, List.set_cons_zero, List.set_cons_succ]
  refine WL.val (by kernel_rfl) (.pointer (some ⟨x2, 0, none⟩)) (by go_simp) ?_
  simp only [Act.put, List.setIfInBounds_toArray, List.set_cons_zero, List.set_cons_succ]
  refine WL.bld (by kernel_rfl) 34 _ rfl [(0, .pointer (some ⟨p2, 0, none⟩)), (1, .pointer (some ⟨x2, 0, none⟩))] (by simp [Act.eval]) #[.pointer (some ⟨p2, 0, none⟩), .pointer (some ⟨x2, 0, none⟩)] (bldPa p2 x2) ?_
  simp only [Act.put, List.setIfInBounds_toArray, List.set_cons_zero, List.set_cons_succ]
  refine WL.storeR (by kernel_rfl) 34 (.tmp 17) (.tmp 84) rfl b #[.pointer (some ⟨p2, 0, none⟩), .pointer (some ⟨x2, 0, none⟩)] rfl rfl 34 #[.pointer (some ⟨p, 0, none⟩), .pointer (some ⟨x, 0, none⟩)] Db.out (sizePa p2 x2) rfl (onePa p2 x2) ?_
  have Fb := Keep.mk (Db.out.setRow #[.pointer (some ⟨p2, 0, none⟩), .pointer (some ⟨x2, 0, none⟩)])
  have g_ : Keep (Grown w9 (w9.setRow b #[.pointer (some ⟨p2, 0, none⟩), .pointer (some ⟨x2, 0, none⟩)]) fun k => k = b) := ⟨Grown.setRow w9 b _ fun _ => rfl⟩
  have b5a : Keep (Below w5.heap.size w5 (w9.setRow b #[.pointer (some ⟨p2, 0, none⟩), .pointer (some ⟨x2, 0, none⟩)])) := ⟨b5.out.trans (g_.out.to_below (fun k hk e => by have := Lb.out; have := b7.out.size; omega) b5.out.size)⟩
  have Ea := Keep.mk (g_.out.blk Ea.out fun e => by have := La.out; have := Lb.out; omega)
  clear Db b5 g_
  have Db := Fb
  have b5 := b5a
  clear Fb b5a
  generalize w9.setRow b #[.pointer (some ⟨p2, 0, none⟩), .pointer (some ⟨x2, 0, none⟩)] = w9 at *
  simp only [Act.put]
  refine WL.nil ?_
  refine hK15 _ _ ?_
  refine wp_seq_k fun K17 hK17 => ?_
  refine wp_region_list (WL.out ?_)
  refine WL.bld (by kernel_rfl) 38 _ rfl [] (by simp) #[.slice none 0 0, .slice none 0 0, .int .i64 0] bldBk0 ?_
  simp only [Act.put, List.setIfInBounds_toArray, List.set_cons_zero, List.set_cons_succ]
  refine WL.box (by kernel_rfl) 38 (.tmp 85) rfl #[.slice none 0 0, .slice none 0 0, .int .i64 0] rfl ?_
  have Cq := Keep.mk (Blk.new w9 38 #[.slice none 0 0, .slice none 0 0, .int .i64 0])
  have bq := below_new w9 (.cells #[.slice none 0 0, .slice none 0 0, .int .i64 0] 38)
  have Ea := Keep.mk (Ea.out.below bq Ea.out.lt)
  have hq : Keep (b < w9.heap.size) := ⟨Db.out.lt⟩
  have Db := Keep.mk (Db.out.below bq Db.out.lt)
  generalize w9.alloc (.cells #[.slice none 0 0, .slice none 0 0, .int .i64 0] 38) = w10 at *
  obtain ⟨q, hq0⟩ : ∃ z, Keep (z = w9.heap.size) := ⟨_, ⟨rfl⟩⟩
  rw [← hq0.out] at Cq ⊢
  have HLP : Keep (LP w qe gs go S a b q w10 p x p2 x2) := by
    have bq5 : Below w5.heap.size w5 w10 := b5.out.trans (bq.mono b5.out.size)
    have e1 := ha.out
    have e2 := La.out
    have e3 := Lb.out
    have e4 := hq.out
    have e5 := hq0.out
    have e6 := B5.out.size
    have e7 := HE.out.lt
    have e8 := b7.out.size
    have bw : Below w.heap.size w w10 := B5.out.trans (bq5.mono e6)
    exact ⟨⟨Ea.out, Db.out, SS.two (S5.out.below bq5) (R5.out.below bq5) EK.out (fun k hk => by
      rcases hk with hk | hk
      · have := S5.out.lt k hk; have := L3.out k hk; exact ⟨by omega, by omega, by omega⟩
      · have := R5.out.lt k hk; have := (L5.out k hk).1; exact ⟨by omega, by omega, by omega⟩) (fun k hk => (L5.out k hk).2) Cq.out ⟨by omega, by omega, by omega⟩ ⟨fun e => by have := S5.out.lt q e; omega, fun e => by have := R5.out.lt q e; omega⟩, HS.out.below bw, HE.out.below bw, bw, ⟨e7, by omega, by omega, by omega⟩⟩⟩
  clear Cq bq Ea Db hq hq0 S5 R5 L5 EK L3 B5 La Lb ha b7 b5 HE
  simp only [Act.put, List.setIfInBounds_toArray, List.set_cons_zero, List.set_cons_succ]
  refine WL.val (by kernel_rfl) (.pointer (some ⟨q, 0, none⟩)) (by go_simp) ?_
  simp only [Act.put, List.setIfInBounds_toArray, List.set_cons_zero, List.set_cons_succ]
  refine WL.nil ?_
  refine hK17 _ _ ?_
  refine wp_seq_k fun K18 hK18 => ?_
  refine wp_seq_k fun K19 hK19 => ?_
  refine wp_region_list (WL.out ?_)
  refine WL.val (by kernel_rfl) (.int .i64 0) (by go_simp) ?_
  simp only [Act.put, List.setIfInBounds_toArray, List.set_cons_zero, List.set_cons_succ]
  refine WL.nil ?_
  refine hK19 _ _ ?_
  refine wp_block ?_
  refine wp_loop (fun ac wr => ∃ (u : Nat) (fz : Nat → Value) (c1 d1 c2 d2 : Nat), ac = { tmps := #[.int .i64 (N : Int), .int .i64 (M : Int), .slice va S.length gc, undef, undef, undef, fz 6, .bool true, .pointer (some ⟨p, 0, none⟩), .int .i64 0, .pointer (some ⟨x, 0, none⟩), .int .i64 0, .pointer (some ⟨p2, 0, none⟩), .int .i64 0, .pointer (some ⟨x2, 0, none⟩), .int .i64 0, .pointer (some ⟨a, 0, none⟩), .pointer (some ⟨b, 0, none⟩), .pointer (some ⟨q, 0, none⟩), .int .i64 (u : Int), fz 20, undef, undef, undef, undef, undef, undef, .bool true, .tuple #[.pointer (some ⟨p, 0, none⟩), .int .i64 0], .int .i64 (N : Int), .tuple #[.pointer (some ⟨p, 0, none⟩), .int .i64 0], .pointer (some ⟨p, 0, none⟩), .int .i64 0, .tuple #[.pointer (some ⟨x, 0, none⟩), .int .i64 0], .int .i64 (N : Int), .tuple #[.pointer (some ⟨x, 0, none⟩), .int .i64 0], .pointer (some ⟨x, 0, none⟩), .int .i64 0, .bool true, .bool false, .bool false, .int .i64 0, .int .i64 0, .bool false, .bool false, .bool false, .pointer (some ⟨p, 0, none⟩), .bool false, .pointer (some ⟨x, 0, none⟩), .bool false, .bool false, .bool false, .tuple #[.pointer (some ⟨p2, 0, none⟩), .int .i64 0], .int .i64 (M : Int), .tuple #[.pointer (some ⟨p2, 0, none⟩), .int .i64 0], .pointer (some ⟨p2, 0, none⟩), .int .i64 0, .tuple #[.pointer (some ⟨x2, 0, none⟩), .int .i64 0], .int .i64 (M : Int), .tuple #[.pointer (some ⟨x2, 0, none⟩), .int .i64 0], .pointer (some ⟨x2, 0, none⟩), .int .i64 0, .int .i64 0, .int .i64 0, .bool false, .bool false, .pointer (some ⟨p2, 0, none⟩), .bool false, .pointer (some ⟨x2, 0, none⟩), .bool false, .bool false, .bool false, .pointer (some ⟨x, 0, none⟩), .bool false, .pointer (some ⟨p, 0, none⟩), .pointer (some ⟨x, 0, none⟩), .agg #[.pointer (some ⟨p, 0, none⟩), .pointer (some ⟨x, 0, none⟩)], .pointer (some ⟨p, 0, none⟩), .pointer (some ⟨x, 0, none⟩), .agg #[.pointer (some ⟨p, 0, none⟩), .pointer (some ⟨x, 0, none⟩)], .pointer (some ⟨x2, 0, none⟩), .bool true, .pointer (some ⟨p2, 0, none⟩), .pointer (some ⟨x2, 0, none⟩), .agg #[.pointer (some ⟨p2, 0, none⟩), .pointer (some ⟨x2, 0, none⟩)], .agg #[.slice none 0 0, .slice none 0 0, .int .i64 0], .pointer (some ⟨q, 0, none⟩), fz 87, fz 88, fz 89, fz 90, fz 91, fz 92, fz 93, fz 94, fz 95, fz 96, fz 97, fz 98, fz 99, fz 100, fz 101, fz 102, fz 103, fz 104, fz 105, fz 106, fz 107, fz 108, fz 109, undef, undef, undef, undef, undef, undef, undef, undef, undef, undef, undef, undef, undef, undef, undef, undef, undef, undef, undef, undef, undef, undef, undef, undef, undef, undef, undef, undef, undef, undef, undef], defers := [] } ∧ Keep (u ≤ S.length) ∧ Keep (LP w qe gs go S a b q wr c1 d1 c2 d2)) (fun a _ => S.length - (intOf (a.tmps.getD 19 undef)).toNat) ⟨0, fun zz => [.int .i64 (N : Int), .int .i64 (M : Int), .slice va S.length gc, undef, undef, undef, .bool false, .bool true, .pointer (some ⟨p, 0, none⟩), .int .i64 0, .pointer (some ⟨x, 0, none⟩), .int .i64 0, .pointer (some ⟨p2, 0, none⟩), .int .i64 0, .pointer (some ⟨x2, 0, none⟩), .int .i64 0, .pointer (some ⟨a, 0, none⟩), .pointer (some ⟨b, 0, none⟩), .pointer (some ⟨q, 0, none⟩), .int .i64 0, undef, undef, undef, undef, undef, undef, undef, .bool true, .tuple #[.pointer (some ⟨p, 0, none⟩), .int .i64 0], .int .i64 (N : Int), .tuple #[.pointer (some ⟨p, 0, none⟩), .int .i64 0], .pointer (some ⟨p, 0, none⟩), .int .i64 0, .tuple #[.pointer (some ⟨x, 0, none⟩), .int .i64 0], .int .i64 (N : Int), .tuple #[.pointer (some ⟨x, 0, none⟩), .int .i64 0], .pointer (some ⟨x, 0, none⟩), .int .i64 0, .bool true, .bool false, .bool false, .int .i64 0, .int .i64 0, .bool false, .bool false, .bool false, .pointer (some ⟨p, 0, none⟩), .bool false, .pointer (some ⟨x, 0, none⟩), .bool false, .bool false, .bool false, .tuple #[.pointer (some ⟨p2, 0, none⟩), .int .i64 0], .int .i64 (M : Int), .tuple #[.pointer (some ⟨p2, 0, none⟩), .int .i64 0], .pointer (some ⟨p2, 0, none⟩), .int .i64 0, .tuple #[.pointer (some ⟨x2, 0, none⟩), .int .i64 0], .int .i64 (M : Int), .tuple #[.pointer (some ⟨x2, 0, none⟩), .int .i64 0], .pointer (some ⟨x2, 0, none⟩), .int .i64 0, .int .i64 0, .int .i64 0, .bool false, .bool false, .pointer (some ⟨p2, 0, none⟩), .bool false, .pointer (some ⟨x2, 0, none⟩), .bool false, .bool false, .bool false, .pointer (some ⟨x, 0, none⟩), .bool false, .pointer (some ⟨p, 0, none⟩), .pointer (some ⟨x, 0, none⟩), .agg #[.pointer (some ⟨p, 0, none⟩), .pointer (some ⟨x, 0, none⟩)], .pointer (some ⟨p, 0, none⟩), .pointer (some ⟨x, 0, none⟩), .agg #[.pointer (some ⟨p, 0, none⟩), .pointer (some ⟨x, 0, none⟩)], .pointer (some ⟨x2, 0, none⟩), .bool true, .pointer (some ⟨p2, 0, none⟩), .pointer (some ⟨x2, 0, none⟩), .agg #[.pointer (some ⟨p2, 0, none⟩), .pointer (some ⟨x2, 0, none⟩)], .agg #[.slice none 0 0, .slice none 0 0, .int .i64 0], .pointer (some ⟨q, 0, none⟩), undef, undef, undef, undef, undef, undef, undef, undef, undef, undef, undef, undef, undef, undef, undef, undef, undef, undef, undef, undef, undef, undef, undef, undef, undef, undef, undef, undef, undef, undef, undef, undef, undef, undef, undef, undef, undef, undef, undef, undef, undef, undef, undef, undef, undef, undef, undef, undef, undef, undef, undef, undef, undef, undef].getD zz undef, p, x, p2, x2, rfl, ⟨by omega⟩, HLP⟩ ?_
  rintro ac wr ⟨u, fz, c1, d1, c2, d2, rfl, HU, HL⟩
  have hu9 := HU.out
  refine wp_seq_k fun K20 hK20 => ?_
  refine wp_seq_k fun K21 hK21 => ?_
  refine wp_region_list (WL.out ?_)
  refine WL.val (by kernel_rfl) (.int .i64 (u : Int)) (by go_simp) ?_
  simp only [Act.put, List.setIfInBounds_toArray, List.set_cons_zero, List.set_cons_succ]
  refine WL.val (by kernel_rfl) (.slice va S.length gc) (by go_simp) ?_
  simp only [Act.put, List.setIfInBounds_toArray, List.set_cons_zero, List.set_cons_succ]
  refine WL.val (by kernel_rfl) (.int .i64 (S.length : Int)) (by go_simp) ?_
  simp only [Act.put, List.setIfInBounds_toArray, List.set_cons_zero, List.set_cons_succ]
  by_cases h18_3 : u < S.length
  · have hcu_ : ((u : Int) < (S.length : Int)) := by omega
    refine WL.val (by kernel_rfl) (.bool true) (by go_simp) ?_
    simp only [Act.put, List.setIfInBounds_toArray, List.set_cons_zero, List.set_cons_succ]
    refine WL.nil ?_
    refine hK21 _ _ ?_
    refine wp_cond_true rfl ?_
    refine wp_skip ?_
    refine hK20 _ _ ?_
    refine wp_seq_k fun K22 hK22 => ?_
    refine wp_block ?_
    refine wp_seq_k fun K23 hK23 => ?_
    refine wp_seq_k fun K24 hK24 => ?_
    refine wp_region_list (WL.out ?_)
    have hva := HV.out (fun e => by rw [e] at hcu_; simp at hcu_; omega)
    subst hva
    obtain ⟨sp, hsp⟩ : ∃ z, S[u]? = some z := ⟨_, List.getElem?_eq_getElem (by assumption)⟩
    have HSp := Keep.mk hsp
    clear hsp
    refine WL.val (by kernel_rfl) (.slice (some ⟨gs, go, none⟩) S.length gc) (by go_simp) ?_
    simp only [Act.put, List.setIfInBounds_toArray, List.set_cons_zero, List.set_cons_succ]
    refine WL.val (by kernel_rfl) (.int .i64 (u : Int)) (by go_simp) ?_
    simp only [Act.put, List.setIfInBounds_toArray, List.set_cons_zero, List.set_cons_succ]
    refine WL.val (by kernel_rfl) (.pointer (some ⟨gs, go + u * 8, none⟩)) (by go_simp) ?_
    simp only [Act.put, List.setIfInBounds_toArray, List.set_cons_zero, List.set_cons_succ]
    refine WL.val (by kernel_rfl) (.pointer (some ⟨gs, go + u * 8, none⟩)) (by go_simp) ?_
    simp only [Act.put, List.setIfInBounds_toArray, List.set_cons_zero, List.set_cons_succ]
    have c_ : wr.cell? ⟨gs, go + u * 8, none⟩ = some (.int .i64 sp.kd) := (HL.out.st.at_ u sp HSp.out).1 0 _ rfl
    refine WL.val (by kernel_rfl) (.int .i64 sp.kd) (by go_simp) ?_
    clear c_
    simp only [Act.put, List.setIfInBounds_toArray, List.set_cons_zero, List.set_cons_succ]
    by_cases h20_5 : sp.kd = 10
    · skip
      refine WL.val (by kernel_rfl) (.bool true) (by go_simp) ?_
      simp only [Act.put, List.setIfInBounds_toArray, List.set_cons_zero, List.set_cons_succ]
      refine WL.nil ?_
      refine hK24 _ _ ?_
      refine wp_cond_true rfl ?_
      refine wp_seq_k fun K25 hK25 => ?_
      refine wp_region_list (WL.out ?_)
      refine WL.row (by kernel_rfl) 34 (.tmp 17) rfl b rfl 34 #[.pointer (some ⟨c2, 0, none⟩), .pointer (some ⟨d2, 0, none⟩)] _ HL.out.bb Tryd.underlying34 rfl (by kernel_rfl) ?_
      simp only [Act.put, List.setIfInBounds_toArray, List.set_cons_zero, List.set_cons_succ]
      refine WL.row (by kernel_rfl) 34 (.tmp 16) rfl a rfl 34 #[.pointer (some ⟨c1, 0, none⟩), .pointer (some ⟨d1, 0, none⟩)] _ HL.out.ba Tryd.underlying34 rfl (by kernel_rfl) ?_
      simp only [Act.put, List.setIfInBounds_toArray, List.set_cons_zero, List.set_cons_succ]
      refine WL.storeR (by kernel_rfl) 34 (.tmp 16) (.tmp 99) rfl a #[.pointer (some ⟨c2, 0, none⟩), .pointer (some ⟨d2, 0, none⟩)] rfl rfl 34 #[.pointer (some ⟨c1, 0, none⟩), .pointer (some ⟨d1, 0, none⟩)] HL.out.ba (sizePa c2 d2) rfl (onePa c2 d2) ?_
      simp only [Act.put]
      refine WL.storeR (by kernel_rfl) 34 (.tmp 17) (.tmp 100) rfl b #[.pointer (some ⟨c1, 0, none⟩), .pointer (some ⟨d1, 0, none⟩)] rfl rfl 34 #[.pointer (some ⟨c2, 0, none⟩), .pointer (some ⟨d2, 0, none⟩)] (HL.out.bb.setRow_ne (fun e => HL.out.lo.2.2.2 e.symm) _) (sizePa c1 d1) rfl (onePa c1 d1) ?_
      have HL2 := Keep.mk HL.out.swap
      simp only [Act.put]
      refine WL.nil ?_
      refine hK25 _ _ ?_
      refine wp_exit ?_
      refine hK22 _ _ ?_
      refine wp_region_list (WL.out ?_)
      refine WL.val (by kernel_rfl) (.int .i64 (u : Int)) (by go_simp) ?_
      simp only [Act.put, List.setIfInBounds_toArray, List.set_cons_zero, List.set_cons_succ]
      have hw6 : IntKind.i64.wrap ((u : Int) + 1) = ((u + 1 : Nat) : Int) := by rw [IntKind.wrap_i64]; have := HN.out; omega
      refine WL.val (by kernel_rfl) (.int .i64 ((u + 1 : Nat) : Int)) (by go_simp) ?_
      clear hw6
      simp only [Act.put, List.setIfInBounds_toArray, List.set_cons_zero, List.set_cons_succ]
      refine WL.val (by kernel_rfl) (.int .i64 ((u + 1 : Nat) : Int)) (by go_simp) ?_
      simp only [Act.put, List.setIfInBounds_toArray, List.set_cons_zero, List.set_cons_succ]
      refine WL.nil ?_
      refine ⟨⟨u + 1, fun zz => [.int .i64 (N : Int), .int .i64 (M : Int), .slice (some ⟨gs, go, none⟩) S.length gc, undef, undef, undef, fz 6, .bool true, .pointer (some ⟨p, 0, none⟩), .int .i64 0, .pointer (some ⟨x, 0, none⟩), .int .i64 0, .pointer (some ⟨p2, 0, none⟩), .int .i64 0, .pointer (some ⟨x2, 0, none⟩), .int .i64 0, .pointer (some ⟨a, 0, none⟩), .pointer (some ⟨b, 0, none⟩), .pointer (some ⟨q, 0, none⟩), .int .i64 ((u + 1 : Nat) : Int), fz 20, undef, undef, undef, undef, undef, undef, .bool true, .tuple #[.pointer (some ⟨p, 0, none⟩), .int .i64 0], .int .i64 (N : Int), .tuple #[.pointer (some ⟨p, 0, none⟩), .int .i64 0], .pointer (some ⟨p, 0, none⟩), .int .i64 0, .tuple #[.pointer (some ⟨x, 0, none⟩), .int .i64 0], .int .i64 (N : Int), .tuple #[.pointer (some ⟨x, 0, none⟩), .int .i64 0], .pointer (some ⟨x, 0, none⟩), .int .i64 0, .bool true, .bool false, .bool false, .int .i64 0, .int .i64 0, .bool false, .bool false, .bool false, .pointer (some ⟨p, 0, none⟩), .bool false, .pointer (some ⟨x, 0, none⟩), .bool false, .bool false, .bool false, .tuple #[.pointer (some ⟨p2, 0, none⟩), .int .i64 0], .int .i64 (M : Int), .tuple #[.pointer (some ⟨p2, 0, none⟩), .int .i64 0], .pointer (some ⟨p2, 0, none⟩), .int .i64 0, .tuple #[.pointer (some ⟨x2, 0, none⟩), .int .i64 0], .int .i64 (M : Int), .tuple #[.pointer (some ⟨x2, 0, none⟩), .int .i64 0], .pointer (some ⟨x2, 0, none⟩), .int .i64 0, .int .i64 0, .int .i64 0, .bool false, .bool false, .pointer (some ⟨p2, 0, none⟩), .bool false, .pointer (some ⟨x2, 0, none⟩), .bool false, .bool false, .bool false, .pointer (some ⟨x, 0, none⟩), .bool false, .pointer (some ⟨p, 0, none⟩), .pointer (some ⟨x, 0, none⟩), .agg #[.pointer (some ⟨p, 0, none⟩), .pointer (some ⟨x, 0, none⟩)], .pointer (some ⟨p, 0, none⟩), .pointer (some ⟨x, 0, none⟩), .agg #[.pointer (some ⟨p, 0, none⟩), .pointer (some ⟨x, 0, none⟩)], .pointer (some ⟨x2, 0, none⟩), .bool true, .pointer (some ⟨p2, 0, none⟩), .pointer (some ⟨x2, 0, none⟩), .agg #[.pointer (some ⟨p2, 0, none⟩), .pointer (some ⟨x2, 0, none⟩)], .agg #[.slice none 0 0, .slice none 0 0, .int .i64 0], .pointer (some ⟨q, 0, none⟩), .int .i64 (u : Int), .slice (some ⟨gs, go, none⟩) S.length gc, .int .i64 (S.length : Int), .bool true, .int .i64 (u : Int), .int .i64 ((u + 1 : Nat) : Int), .slice (some ⟨gs, go, none⟩) S.length gc, .int .i64 (u : Int), .pointer (some ⟨gs, go + u * 8, none⟩), .pointer (some ⟨gs, go + u * 8, none⟩), .int .i64 sp.kd, .bool true, .agg #[.pointer (some ⟨c2, 0, none⟩), .pointer (some ⟨d2, 0, none⟩)], .agg #[.pointer (some ⟨c1, 0, none⟩), .pointer (some ⟨d1, 0, none⟩)], fz 101, fz 102, fz 103, fz 104, fz 105, fz 106, fz 107, fz 108, fz 109, undef, undef, undef, undef, undef, undef, undef, undef, undef, undef, undef, undef, undef, undef, undef, undef, undef, undef, undef, undef, undef, undef, undef, undef, undef, undef, undef, undef, undef, undef, undef].getD zz undef, c2, d2, c1, d1, rfl, ⟨by omega⟩, HL2⟩, ?_⟩
      simp only [intOf]
      show S.length - (((u + 1 : Nat) : Int)).toNat < S.length - ((u : Int)).toNat
      omega
    · skip
      refine WL.val (by kernel_rfl) (.bool false) (by go_simp) ?_
      simp only [Act.put, List.setIfInBounds_toArray, List.set_cons_zero, List.set_cons_succ]
      refine WL.nil ?_
      refine hK24 _ _ ?_
      refine wp_cond_false rfl ?_
      refine wp_skip ?_
      refine hK23 _ _ ?_
      refine wp_seq_k fun K26 hK26 => ?_
      refine wp_region_held_drew (S := fun wx => Blk wx a 34 #[.pointer (some ⟨c1, 0, none⟩), .pointer (some ⟨d1, 0, none⟩)] ∧ wx.rangeAt gs (go + u * 8) sp.cs) (by kernel_rfl) (⟨(HL.out.below (Below.refl _ _).drew).ba, ((HL.out.below (Below.refl _ _).drew).st.at_ u sp HSp.out).1⟩) (fun hHeld => ?_)
      have HL1 := Keep.mk (HL.out.below (Below.refl wr.heap.size wr).drew)
      clear HL
      generalize wr.drew = wd at *
      refine wpAnyH_take (i := 0) (oi := ⟨some 101, Op.load 34 (Operand.tmp 16), 34, _, _, none⟩) (v := .agg #[.pointer (some ⟨c1, 0, none⟩), .pointer (some ⟨d1, 0, none⟩)]) rfl (by kernel_rfl) (by kernel_rfl) (by kernel_rfl) (fun _ _ _ h => h) (yieldsIf_load_mid (by rfl) 34 (Operand.tmp 16) rfl a 0 rfl (#[.pointer (some ⟨c1, 0, none⟩), .pointer (some ⟨d1, 0, none⟩)] : Array Value).toList _ (fun w hS => blk_range hS.1) Tryd.underlying34 rfl (by kernel_rfl)) hHeld ?_
      simp only [Act.put, List.setIfInBounds_toArray, List.set_cons_zero, List.set_cons_succ]
      refine wpAnyH_take (i := 1) (oi := ⟨some 102, Op.move (Operand.tmp 2), 25, _, _, none⟩) (v := .slice (some ⟨gs, go, none⟩) S.length gc) rfl (by kernel_rfl) (by kernel_rfl) (by kernel_rfl) (fun _ _ _ h => h) (Or.inl ⟨by rfl, fun w hS => by go_simp⟩) hHeld ?_
      simp only [Act.put, List.setIfInBounds_toArray, List.set_cons_zero, List.set_cons_succ]
      refine wpAnyH_take (i := 2) (oi := ⟨some 103, Op.move (Operand.tmp 19), 3, _, _, none⟩) (v := .int .i64 (u : Int)) rfl (by kernel_rfl) (by kernel_rfl) (by kernel_rfl) (fun _ _ _ h => h) (Or.inl ⟨by rfl, fun w hS => by go_simp⟩) hHeld ?_
      simp only [Act.put, List.setIfInBounds_toArray, List.set_cons_zero, List.set_cons_succ]
      refine wpAnyH_take (i := 5) (oi := ⟨some 106, Op.move (Operand.tmp 18), 35, _, _, none⟩) (v := .pointer (some ⟨q, 0, none⟩)) rfl (by kernel_rfl) (by kernel_rfl) (by kernel_rfl) (fun _ _ _ h => h) (Or.inl ⟨by rfl, fun w hS => by go_simp⟩) hHeld ?_
      simp only [Act.put, List.setIfInBounds_toArray, List.set_cons_zero, List.set_cons_succ]
      refine wpAnyH_take (i := 3) (oi := ⟨some 104, Op.indexAddr 25 (Operand.tmp 102) (Operand.tmp 103), 0, _, _, none⟩) (v := .pointer (some ⟨gs, go + u * 8, none⟩)) rfl (by kernel_rfl) (by kernel_rfl) (by kernel_rfl) (fun _ _ _ h => h) (Or.inl ⟨by rfl, fun w hS => by go_simp⟩) hHeld ?_
      simp only [Act.put, List.setIfInBounds_toArray, List.set_cons_zero, List.set_cons_succ]
      refine wpAnyH_take (i := 4) (oi := ⟨some 105, Op.load 41 (Operand.tmp 104), 41, _, _, none⟩) (v := .agg sp.cs.toArray) rfl (by kernel_rfl) (by kernel_rfl) (by kernel_rfl) (fun _ _ _ h => h) (yieldsIf_load_mid (by rfl) 41 (Operand.tmp 104) rfl gs (go + u * 8) rfl sp.cs _ (fun w hS => hS.2) Tryd.underlying41 rfl (sizeStp sp)) hHeld ?_
      simp only [Act.put, List.setIfInBounds_toArray, List.set_cons_zero, List.set_cons_succ]
      refine wpAnyH_ready (rs := [6]) (by kernel_rfl) (by simp) ?_
      refine AllReadyH.cons (o := ⟨some 107, Op.call { callee := Callee.value (Operand.func 10), args := #[Operand.tmp 101, Operand.tmp 105, Operand.tmp 106], argTypes := #[34, 41, 35] }, 4, _, _, none⟩) rfl (fun K hK => ?_) AllReadyH.nil
      rw [if_pos (by rfl)]
      refine wp_callF 10 _ _ rfl Tryd.in10 #[.agg #[.pointer (some ⟨c1, 0, none⟩), .pointer (some ⟨d1, 0, none⟩)], .agg sp.cs.toArray, .pointer (some ⟨q, 0, none⟩)] (by simp [Act.eval]) (fun vz wz => vz = .bool true ∧ LP w qe gs go S a b q wz c1 d1 c2 d2) ?_ ?_
      · refine (LP.step HL1.out HSp.out).mono ?_
        rintro e wz ⟨rfl, k1⟩
        exact ⟨_, rfl, rfl, k1⟩
      rintro vz wb ⟨rfl, k1⟩
      have HL2 := Keep.mk k1
      clear k1 HL1
      refine hK _ _ (⟨HL2.out.ba, (HL2.out.st.at_ u sp HSp.out).1⟩) fun hHa => ?_
      clear hK
      simp only [Act.put, List.setIfInBounds_toArray, List.set_cons_zero, List.set_cons_succ]
      refine wpAnyH_take (i := 7) (oi := ⟨some 20, Op.assign (Operand.tmp 107), 4, _, _, none⟩) (v := .bool true) rfl (by kernel_rfl) (by kernel_rfl) (by kernel_rfl) (fun _ _ _ h => h) (Or.inl ⟨by rfl, fun w hS => by go_simp⟩) hHa ?_
      simp only [Act.put, List.setIfInBounds_toArray, List.set_cons_zero, List.set_cons_succ]
      refine wpAnyH_done (by kernel_rfl) ?_ _
      refine hK26 _ _ ?_
      refine wp_seq_k fun K27 hK27 => ?_
      refine wp_region_list (WL.out ?_)
      refine WL.val (by kernel_rfl) (.bool true) (by go_simp) ?_
      simp only [Act.put, List.setIfInBounds_toArray, List.set_cons_zero, List.set_cons_succ]
      refine WL.val (by kernel_rfl) (.bool false) (by go_simp) ?_
      simp only [Act.put, List.setIfInBounds_toArray, List.set_cons_zero, List.set_cons_succ]
      refine WL.nil ?_
      refine hK27 _ _ ?_
      refine wp_cond_false rfl ?_
      refine wp_skip ?_
      refine hK22 _ _ ?_
      refine wp_region_list (WL.out ?_)
      refine WL.val (by kernel_rfl) (.int .i64 (u : Int)) (by go_simp) ?_
      simp only [Act.put, List.setIfInBounds_toArray, List.set_cons_zero, List.set_cons_succ]
      have hw6 : IntKind.i64.wrap ((u : Int) + 1) = ((u + 1 : Nat) : Int) := by rw [IntKind.wrap_i64]; have := HN.out; omega
      refine WL.val (by kernel_rfl) (.int .i64 ((u + 1 : Nat) : Int)) (by go_simp) ?_
      clear hw6
      simp only [Act.put, List.setIfInBounds_toArray, List.set_cons_zero, List.set_cons_succ]
      refine WL.val (by kernel_rfl) (.int .i64 ((u + 1 : Nat) : Int)) (by go_simp) ?_
      simp only [Act.put, List.setIfInBounds_toArray, List.set_cons_zero, List.set_cons_succ]
      refine WL.nil ?_
      refine ⟨⟨u + 1, fun zz => [.int .i64 (N : Int), .int .i64 (M : Int), .slice (some ⟨gs, go, none⟩) S.length gc, undef, undef, undef, fz 6, .bool true, .pointer (some ⟨p, 0, none⟩), .int .i64 0, .pointer (some ⟨x, 0, none⟩), .int .i64 0, .pointer (some ⟨p2, 0, none⟩), .int .i64 0, .pointer (some ⟨x2, 0, none⟩), .int .i64 0, .pointer (some ⟨a, 0, none⟩), .pointer (some ⟨b, 0, none⟩), .pointer (some ⟨q, 0, none⟩), .int .i64 ((u + 1 : Nat) : Int), .bool true, undef, undef, undef, undef, undef, undef, .bool true, .tuple #[.pointer (some ⟨p, 0, none⟩), .int .i64 0], .int .i64 (N : Int), .tuple #[.pointer (some ⟨p, 0, none⟩), .int .i64 0], .pointer (some ⟨p, 0, none⟩), .int .i64 0, .tuple #[.pointer (some ⟨x, 0, none⟩), .int .i64 0], .int .i64 (N : Int), .tuple #[.pointer (some ⟨x, 0, none⟩), .int .i64 0], .pointer (some ⟨x, 0, none⟩), .int .i64 0, .bool true, .bool false, .bool false, .int .i64 0, .int .i64 0, .bool false, .bool false, .bool false, .pointer (some ⟨p, 0, none⟩), .bool false, .pointer (some ⟨x, 0, none⟩), .bool false, .bool false, .bool false, .tuple #[.pointer (some ⟨p2, 0, none⟩), .int .i64 0], .int .i64 (M : Int), .tuple #[.pointer (some ⟨p2, 0, none⟩), .int .i64 0], .pointer (some ⟨p2, 0, none⟩), .int .i64 0, .tuple #[.pointer (some ⟨x2, 0, none⟩), .int .i64 0], .int .i64 (M : Int), .tuple #[.pointer (some ⟨x2, 0, none⟩), .int .i64 0], .pointer (some ⟨x2, 0, none⟩), .int .i64 0, .int .i64 0, .int .i64 0, .bool false, .bool false, .pointer (some ⟨p2, 0, none⟩), .bool false, .pointer (some ⟨x2, 0, none⟩), .bool false, .bool false, .bool false, .pointer (some ⟨x, 0, none⟩), .bool false, .pointer (some ⟨p, 0, none⟩), .pointer (some ⟨x, 0, none⟩), .agg #[.pointer (some ⟨p, 0, none⟩), .pointer (some ⟨x, 0, none⟩)], .pointer (some ⟨p, 0, none⟩), .pointer (some ⟨x, 0, none⟩), .agg #[.pointer (some ⟨p, 0, none⟩), .pointer (some ⟨x, 0, none⟩)], .pointer (some ⟨x2, 0, none⟩), .bool true, .pointer (some ⟨p2, 0, none⟩), .pointer (some ⟨x2, 0, none⟩), .agg #[.pointer (some ⟨p2, 0, none⟩), .pointer (some ⟨x2, 0, none⟩)], .agg #[.slice none 0 0, .slice none 0 0, .int .i64 0], .pointer (some ⟨q, 0, none⟩), .int .i64 (u : Int), .slice (some ⟨gs, go, none⟩) S.length gc, .int .i64 (S.length : Int), .bool true, .int .i64 (u : Int), .int .i64 ((u + 1 : Nat) : Int), .slice (some ⟨gs, go, none⟩) S.length gc, .int .i64 (u : Int), .pointer (some ⟨gs, go + u * 8, none⟩), .pointer (some ⟨gs, go + u * 8, none⟩), .int .i64 sp.kd, .bool false, fz 99, fz 100, .agg #[.pointer (some ⟨c1, 0, none⟩), .pointer (some ⟨d1, 0, none⟩)], .slice (some ⟨gs, go, none⟩) S.length gc, .int .i64 (u : Int), .pointer (some ⟨gs, go + u * 8, none⟩), .agg sp.cs.toArray, .pointer (some ⟨q, 0, none⟩), .bool true, .bool true, .bool false, undef, undef, undef, undef, undef, undef, undef, undef, undef, undef, undef, undef, undef, undef, undef, undef, undef, undef, undef, undef, undef, undef, undef, undef, undef, undef, undef, undef, undef, undef, undef].getD zz undef, c1, d1, c2, d2, rfl, ⟨by omega⟩, HL2⟩, ?_⟩
      simp only [intOf]
      show S.length - (((u + 1 : Nat) : Int)).toNat < S.length - ((u : Int)).toNat
      omega
  · have hcu_ : (¬ (u : Int) < (S.length : Int)) := by omega
    refine WL.val (by kernel_rfl) (.bool false) (by go_simp) ?_
    simp only [Act.put, List.setIfInBounds_toArray, List.set_cons_zero, List.set_cons_succ]
    refine WL.nil ?_
    refine hK21 _ _ ?_
    refine wp_cond_false rfl ?_
    refine wp_exit ?_
    refine hK18 _ _ ?_
    refine wp_seq_k fun K28 hK28 => ?_
    refine wp_region_list (WL.out ?_)
    refine WL.row (by kernel_rfl) 34 (.tmp 16) rfl a rfl 34 #[.pointer (some ⟨c1, 0, none⟩), .pointer (some ⟨d1, 0, none⟩)] _ HL.out.ba Tryd.underlying34 rfl (by kernel_rfl) ?_
    simp only [Act.put, List.setIfInBounds_toArray, List.set_cons_zero, List.set_cons_succ]
    refine WL.callF (by kernel_rfl) 11 _ _ rfl Tryd.in11 #[.agg #[.pointer (some ⟨c1, 0, none⟩), .pointer (some ⟨d1, 0, none⟩)]] (by simp [Act.eval]) ?_
    refine (HL.out.lens1).mono ?_
    rintro e wA ⟨rfl, hl_⟩
    refine ⟨_, rfl, ?_⟩
    have HA := Keep.mk hl_
    clear hl_ HL
    simp only [Act.put, List.setIfInBounds_toArray, List.set_cons_zero, List.set_cons_succ]
    refine WL.val (by kernel_rfl) (.bool true) (by go_simp) ?_
    simp only [Act.put, List.setIfInBounds_toArray, List.set_cons_zero, List.set_cons_succ]
    refine WL.nil ?_
    refine hK28 _ _ ?_
    refine wp_seq_k fun K29 hK29 => ?_
    refine wp_region_list (WL.out ?_)
    refine WL.row (by kernel_rfl) 34 (.tmp 17) rfl b rfl 34 #[.pointer (some ⟨c2, 0, none⟩), .pointer (some ⟨d2, 0, none⟩)] _ HA.out.bb Tryd.underlying34 rfl (by kernel_rfl) ?_
    simp only [Act.put, List.setIfInBounds_toArray, List.set_cons_zero, List.set_cons_succ]
    refine WL.callF (by kernel_rfl) 11 _ _ rfl Tryd.in11 #[.agg #[.pointer (some ⟨c2, 0, none⟩), .pointer (some ⟨d2, 0, none⟩)]] (by simp [Act.eval]) ?_
    refine (HA.out.lens2).mono ?_
    rintro e wB ⟨rfl, hl_⟩
    refine ⟨_, rfl, ?_⟩
    have HB := Keep.mk hl_
    clear hl_ HA
    simp only [Act.put, List.setIfInBounds_toArray, List.set_cons_zero, List.set_cons_succ]
    refine WL.val (by kernel_rfl) (.bool true) (by go_simp) ?_
    simp only [Act.put, List.setIfInBounds_toArray, List.set_cons_zero, List.set_cons_succ]
    refine WL.nil ?_
    refine hK29 _ _ ?_
    refine wp_seq_k fun K30 hK30 => ?_
    refine wp_region_list (WL.out ?_)
    refine WL.val (by kernel_rfl) (.pointer (some ⟨q, 0, none⟩)) (by go_simp) ?_
    simp only [Act.put, List.setIfInBounds_toArray, List.set_cons_zero, List.set_cons_succ]
    refine WL.callF (by kernel_rfl) 12 _ _ rfl Tryd.in12 #[.pointer (some ⟨q, 0, none⟩)] (by simp [Act.eval]) ?_
    refine (HB.out.hold).mono ?_
    rintro e wC ⟨rfl, hl_⟩
    refine ⟨_, rfl, ?_⟩
    have HC := Keep.mk hl_
    clear hl_ HB
    simp only [Act.put, List.setIfInBounds_toArray, List.set_cons_zero, List.set_cons_succ]
    refine WL.val (by kernel_rfl) (.bool true) (by go_simp) ?_
    simp only [Act.put, List.setIfInBounds_toArray, List.set_cons_zero, List.set_cons_succ]
    refine WL.nil ?_
    refine hK30 _ _ ?_
    refine wp_seq_k fun K31 hK31 => ?_
    refine wp_seq_k fun K32 hK32 => ?_
    refine wp_region_list (WL.out ?_)
    refine WL.val (by kernel_rfl) (.bool true) (by go_simp) ?_
    simp only [Act.put, List.setIfInBounds_toArray, List.set_cons_zero, List.set_cons_succ]
    refine WL.val (by kernel_rfl) (.bool false) (by go_simp) ?_
    simp only [Act.put, List.setIfInBounds_toArray, List.set_cons_zero, List.set_cons_succ]
    refine WL.val (by kernel_rfl) (.bool false) (by go_simp) ?_
    simp only [Act.put, List.setIfInBounds_toArray, List.set_cons_zero, List.set_cons_succ]
    refine WL.val (by kernel_rfl) (.bool true) (by go_simp) ?_
    simp only [Act.put, List.setIfInBounds_toArray, List.set_cons_zero, List.set_cons_succ]
    refine WL.val (by kernel_rfl) (.bool false) (by go_simp) ?_
    simp only [Act.put, List.setIfInBounds_toArray, List.set_cons_zero, List.set_cons_succ]
    refine WL.val (by kernel_rfl) (.bool false) (by go_simp) ?_
    simp only [Act.put, List.setIfInBounds_toArray, List.set_cons_zero, List.set_cons_succ]
    refine WL.val (by kernel_rfl) (.bool false) (by go_simp) ?_
    simp only [Act.put, List.setIfInBounds_toArray, List.set_cons_zero, List.set_cons_succ]
    refine WL.val (by kernel_rfl) (.bool true) (by go_simp) ?_
    simp only [Act.put, List.setIfInBounds_toArray, List.set_cons_zero, List.set_cons_succ]
    refine WL.val (by kernel_rfl) (.bool false) (by go_simp) ?_
    simp only [Act.put, List.setIfInBounds_toArray, List.set_cons_zero, List.set_cons_succ]
    refine WL.val (by kernel_rfl) (.bool false) (by go_simp) ?_
    simp only [Act.put, List.setIfInBounds_toArray, List.set_cons_zero, List.set_cons_succ]
    refine WL.nil ?_
    refine hK32 _ _ ?_
    refine wp_cond_false rfl ?_
    refine wp_skip ?_
    refine hK31 _ _ ?_
    refine wp_seq_k fun K33 hK33 => ?_
    refine wp_region_list (WL.out ?_)
    refine WL.row (by kernel_rfl) 34 (.tmp 16) rfl a rfl 34 #[.pointer (some ⟨c1, 0, none⟩), .pointer (some ⟨d1, 0, none⟩)] _ HC.out.ba Tryd.underlying34 rfl (by kernel_rfl) ?_
    simp only [Act.put, List.setIfInBounds_toArray, List.set_cons_zero, List.set_cons_succ]
    refine WL.val (by kernel_rfl) (.pointer (some ⟨q, 0, none⟩)) (by go_simp) ?_
    simp only [Act.put, List.setIfInBounds_toArray, List.set_cons_zero, List.set_cons_succ]
    refine WL.callF (by kernel_rfl) 13 _ _ rfl Tryd.in13 #[.agg #[.pointer (some ⟨c1, 0, none⟩), .pointer (some ⟨d1, 0, none⟩)], .pointer (some ⟨q, 0, none⟩)] (by simp [Act.eval]) ?_
    refine (HC.out.rest1).mono ?_
    rintro e wD ⟨rfl, hl_⟩
    refine ⟨_, rfl, ?_⟩
    have HD := Keep.mk hl_
    clear hl_ HC
    simp only [Act.put, List.setIfInBounds_toArray, List.set_cons_zero, List.set_cons_succ]
    refine WL.val (by kernel_rfl) (.bool true) (by go_simp) ?_
    simp only [Act.put, List.setIfInBounds_toArray, List.set_cons_zero, List.set_cons_succ]
    refine WL.nil ?_
    refine hK33 _ _ ?_
    refine wp_seq_k fun K34 hK34 => ?_
    refine wp_region_list (WL.out ?_)
    refine WL.row (by kernel_rfl) 34 (.tmp 17) rfl b rfl 34 #[.pointer (some ⟨c2, 0, none⟩), .pointer (some ⟨d2, 0, none⟩)] _ HD.out.bb Tryd.underlying34 rfl (by kernel_rfl) ?_
    simp only [Act.put, List.setIfInBounds_toArray, List.set_cons_zero, List.set_cons_succ]
    refine WL.val (by kernel_rfl) (.pointer (some ⟨q, 0, none⟩)) (by go_simp) ?_
    simp only [Act.put, List.setIfInBounds_toArray, List.set_cons_zero, List.set_cons_succ]
    refine WL.callF (by kernel_rfl) 13 _ _ rfl Tryd.in13 #[.agg #[.pointer (some ⟨c2, 0, none⟩), .pointer (some ⟨d2, 0, none⟩)], .pointer (some ⟨q, 0, none⟩)] (by simp [Act.eval]) ?_
    refine (HD.out.rest2).mono ?_
    rintro e wE ⟨rfl, hl_⟩
    refine ⟨_, rfl, ?_⟩
    have HE2 := Keep.mk hl_
    clear hl_ HD
    simp only [Act.put, List.setIfInBounds_toArray, List.set_cons_zero, List.set_cons_succ]
    refine WL.val (by kernel_rfl) (.bool true) (by go_simp) ?_
    simp only [Act.put, List.setIfInBounds_toArray, List.set_cons_zero, List.set_cons_succ]
    refine WL.nil ?_
    refine hK34 _ _ ?_
    refine wp_seq_k fun K35 hK35 => ?_
    refine wp_region_list (WL.out ?_)
    refine WL.val (by kernel_rfl) (.pointer (some ⟨q, 0, none⟩)) (by go_simp) ?_
    simp only [Act.put, List.setIfInBounds_toArray, List.set_cons_zero, List.set_cons_succ]
    refine WL.callF (by kernel_rfl) 14 _ _ rfl Tryd.in14 #[.pointer (some ⟨q, 0, none⟩)] (by simp [Act.eval]) ?_
    refine (HE2.out.apart).mono ?_
    rintro e wF ⟨rfl, hl_⟩
    refine ⟨_, rfl, ?_⟩
    have HF2 := Keep.mk hl_
    clear hl_ HE2
    simp only [Act.put, List.setIfInBounds_toArray, List.set_cons_zero, List.set_cons_succ]
    refine WL.val (by kernel_rfl) (.bool true) (by go_simp) ?_
    simp only [Act.put, List.setIfInBounds_toArray, List.set_cons_zero, List.set_cons_succ]
    refine WL.nil ?_
    refine hK35 _ _ ?_
    refine wp_seq_k fun K36 hK36 => ?_
    refine wp_region_list (WL.out ?_)
    refine WL.val (by kernel_rfl) (.bool true) (by go_simp) ?_
    simp only [Act.put, List.setIfInBounds_toArray, List.set_cons_zero, List.set_cons_succ]
    refine WL.val (by kernel_rfl) (.bool true) (by go_simp) ?_
    simp only [Act.put, List.setIfInBounds_toArray, List.set_cons_zero, List.set_cons_succ]
    refine WL.val (by kernel_rfl) (.bool true) (by go_simp) ?_
    simp only [Act.put, List.setIfInBounds_toArray, List.set_cons_zero, List.set_cons_succ]
    refine WL.val (by kernel_rfl) (.bool true) (by go_simp) ?_
    simp only [Act.put, List.setIfInBounds_toArray, List.set_cons_zero, List.set_cons_succ]
    refine WL.val (by kernel_rfl) (.bool true) (by go_simp) ?_
    simp only [Act.put, List.setIfInBounds_toArray, List.set_cons_zero, List.set_cons_succ]
    refine WL.val (by kernel_rfl) (.bool true) (by go_simp) ?_
    simp only [Act.put, List.setIfInBounds_toArray, List.set_cons_zero, List.set_cons_succ]
    refine WL.val (by kernel_rfl) (.bool true) (by go_simp) ?_
    simp only [Act.put, List.setIfInBounds_toArray, List.set_cons_zero, List.set_cons_succ]
    refine WL.val (by kernel_rfl) (.bool true) (by go_simp) ?_
    simp only [Act.put, List.setIfInBounds_toArray, List.set_cons_zero, List.set_cons_succ]
    refine WL.nil ?_
    refine hK36 _ _ ?_
    refine wp_ret ?_
    try simp only [Exit.inBlock, Exit.then]
    go_ret
    exact ⟨rfl, HF2.out⟩

set_option maxRecDepth 8000 in
set_option maxHeartbeats 4000000 in
theorem mesh_gb (w : World) (qe : Addr) (HE : Keep (ErrI w qe)) (N : Nat) (k : Int) (hN : 1 ≤ N ∧ N ≤ 8) (hk : (k < 1 ∨ 8 < k)) (va : Option Addr) (gs go gc : Nat) (S : List Stp) (HV : Keep (S ≠ [] → va = some ⟨gs, go, none⟩)) (HS : Keep (StpAt w (fun k => w.heap.size ≤ k) gs go S)) (HN : Keep (S.length ≤ 140737488355328)) : Calls Tryd.prog 4 #[.int .i64 (N : Int), .int .i64 k, .slice va S.length gc] w fun e w' => e = .returned (.bool true) ∧ Below w.heap.size w w' := by
  go_enter Tryd.func4, Tryd.ntmps4
  refine wp_seq_k fun K1 hK1 => ?_
  refine wp_region_list (WL.out ?_)
  refine WL.val (by kernel_rfl) (.bool false) (by go_simp) ?_
  simp only [Act.put, List.setIfInBounds_toArray, List.set_cons_zero, List.set_cons_succ]
  refine WL.nil ?_
  refine hK1 _ _ ?_
  refine wp_seq_k fun K2 hK2 => ?_
  refine wp_region_list (WL.out ?_)
  refine WL.callF (by kernel_rfl) 7 _ _ rfl Tryd.in7 #[] (by simp) ?_
  refine (fixed_any w qe HE).mono ?_
  rintro e w1 ⟨rfl, hb1⟩
  refine ⟨_, rfl, ?_⟩
  have B1 := Keep.mk hb1
  clear hb1
  simp only [Act.put, List.setIfInBounds_toArray, List.set_cons_zero, List.set_cons_succ]
  refine WL.val (by kernel_rfl) (.bool true) (by go_simp) ?_
  simp only [Act.put, List.setIfInBounds_toArray, List.set_cons_zero, List.set_cons_succ]
  refine WL.nil ?_
  refine hK2 _ _ ?_
  refine wp_seq_k fun K3 hK3 => ?_
  refine wp_region_list (WL.out ?_)
  refine WL.val (by kernel_rfl) (.int .i64 (N : Int)) (by go_simp) ?_
  simp only [Act.put, List.setIfInBounds_toArray, List.set_cons_zero, List.set_cons_succ]
  refine WL.callF (by kernel_rfl) 8 _ _ rfl Tryd.in8 #[.int .i64 (N : Int)] (by simp [Act.eval]) ?_
  refine (pnw_ok w1 N hN).mono ?_
  rintro e w2 ⟨p, mb, rfl, k1, k2, k3⟩
  refine ⟨_, rfl, ?_⟩
  simp only [Act.put, List.setIfInBounds_toArray, List.set_cons_zero, List.set_cons_succ]
  refine WL.val (by kernel_rfl) (.tuple #[.pointer (some ⟨p, 0, none⟩), .int .i64 0]) (by go_simp) ?_
  simp only [Act.put, List.setIfInBounds_toArray, List.set_cons_zero, List.set_cons_succ]
  refine WL.val (by kernel_rfl) (.pointer (some ⟨p, 0, none⟩)) (by go_simp) ?_
  simp only [Act.put, List.setIfInBounds_toArray, List.set_cons_zero, List.set_cons_succ]
  refine WL.val (by kernel_rfl) (.int .i64 0) (by go_simp) ?_
  simp only [Act.put, List.setIfInBounds_toArray, List.set_cons_zero, List.set_cons_succ]
  refine WL.val (by kernel_rfl) (.pointer (some ⟨p, 0, none⟩)) (by go_simp) ?_
  simp only [Act.put, List.setIfInBounds_toArray, List.set_cons_zero, List.set_cons_succ]
  refine WL.val (by kernel_rfl) (.int .i64 0) (by go_simp) ?_
  simp only [Act.put, List.setIfInBounds_toArray, List.set_cons_zero, List.set_cons_succ]
  refine WL.nil ?_
  refine hK3 _ _ ?_
  refine wp_seq_k fun K4 hK4 => ?_
  refine wp_region_list (WL.out ?_)
  refine WL.val (by kernel_rfl) (.int .i64 (N : Int)) (by go_simp) ?_
  simp only [Act.put, List.setIfInBounds_toArray, List.set_cons_zero, List.set_cons_succ]
  refine WL.callF (by kernel_rfl) 9 _ _ rfl Tryd.in9 #[.int .i64 (N : Int)] (by simp [Act.eval]) ?_
  refine (nw_ok w2 N hN).mono ?_
  rintro e w3 ⟨x, g, rfl, k4, k5, k6⟩
  refine ⟨_, rfl, ?_⟩
  obtain ⟨j1, j2, j3, j4⟩ := pr_new k1 k2 k3 k4 k5 k6
  have R3 := Keep.mk j1
  have EK := Keep.mk j2
  have B3 : Keep (Below w.heap.size w w3) := ⟨B1.out.trans (j3.mono B1.out.size)⟩
  have L3 : Keep (∀ k, PrS p mb x g K0 K0 k → w.heap.size ≤ k) := ⟨fun k hk => Nat.le_trans B1.out.size (j4 k hk)⟩
  clear k1 k2 k3 k4 k5 k6 j1 j2 j3 j4 B1
  simp only [Act.put, List.setIfInBounds_toArray, List.set_cons_zero, List.set_cons_succ]
  refine WL.val (by kernel_rfl) (.tuple #[.pointer (some ⟨x, 0, none⟩), .int .i64 0]) (by go_simp) ?_
  simp only [Act.put, List.setIfInBounds_toArray, List.set_cons_zero, List.set_cons_succ]
  refine WL.val (by kernel_rfl) (.pointer (some ⟨x, 0, none⟩)) (by go_simp) ?_
  simp only [Act.put, List.setIfInBounds_toArray, List.set_cons_zero, List.set_cons_succ]
  refine WL.val (by kernel_rfl) (.int .i64 0) (by go_simp) ?_
  simp only [Act.put, List.setIfInBounds_toArray, List.set_cons_zero, List.set_cons_succ]
  refine WL.val (by kernel_rfl) (.pointer (some ⟨x, 0, none⟩)) (by go_simp) ?_
  simp only [Act.put, List.setIfInBounds_toArray, List.set_cons_zero, List.set_cons_succ]
  refine WL.val (by kernel_rfl) (.int .i64 0) (by go_simp) ?_
  simp only [Act.put, List.setIfInBounds_toArray, List.set_cons_zero, List.set_cons_succ]
  refine WL.nil ?_
  refine hK4 _ _ ?_
  refine wp_seq_k fun K5 hK5 => ?_
  refine wp_seq_k fun K6 hK6 => ?_
  refine wp_region_list (WL.out ?_)
  refine WL.val (by kernel_rfl) (.bool true) (by go_simp) ?_
  simp only [Act.put, List.setIfInBounds_toArray, List.set_cons_zero, List.set_cons_succ]
  refine WL.val (by kernel_rfl) (.bool false) (by go_simp) ?_
  simp only [Act.put, List.setIfInBounds_toArray, List.set_cons_zero, List.set_cons_succ]
  refine WL.val (by kernel_rfl) (.bool false) (by go_simp) ?_
  simp only [Act.put, List.setIfInBounds_toArray, List.set_cons_zero, List.set_cons_succ]
  refine WL.val (by kernel_rfl) (.int .i64 0) (by go_simp) ?_
  simp only [Act.put, List.setIfInBounds_toArray, List.set_cons_zero, List.set_cons_succ]
  refine WL.val (by kernel_rfl) (.int .i64 0) (by go_simp) ?_
  simp only [Act.put, List.setIfInBounds_toArray, List.set_cons_zero, List.set_cons_succ]
  refine WL.val (by kernel_rfl) (.bool false) (by go_simp) ?_
  simp only [Act.put, List.setIfInBounds_toArray, List.set_cons_zero, List.set_cons_succ]
  refine WL.val (by kernel_rfl) (.bool false) (by go_simp) ?_
  simp only [Act.put, List.setIfInBounds_toArray, List.set_cons_zero, List.set_cons_succ]
  refine WL.val (by kernel_rfl) (.bool false) (by go_simp) ?_
  simp only [Act.put, List.setIfInBounds_toArray, List.set_cons_zero, List.set_cons_succ]
  refine WL.val (by kernel_rfl) (.pointer (some ⟨p, 0, none⟩)) (by go_simp) ?_
  simp only [Act.put, List.setIfInBounds_toArray, List.set_cons_zero, List.set_cons_succ]
  refine WL.val (by kernel_rfl) (.bool false) (by go_simp) ?_
  simp only [Act.put, List.setIfInBounds_toArray, List.set_cons_zero, List.set_cons_succ]
  refine WL.val (by kernel_rfl) (.pointer (some ⟨x, 0, none⟩)) (by go_simp) ?_
  simp only [Act.put, List.setIfInBounds_toArray, List.set_cons_zero, List.set_cons_succ]
  refine WL.val (by kernel_rfl) (.bool false) (by go_simp) ?_
  simp only [Act.put, List.setIfInBounds_toArray, List.set_cons_zero, List.set_cons_succ]
  refine WL.val (by kernel_rfl) (.bool false) (by go_simp) ?_
  simp only [Act.put, List.setIfInBounds_toArray, List.set_cons_zero, List.set_cons_succ]
  refine WL.val (by kernel_rfl) (.bool false) (by go_simp) ?_
  simp only [Act.put, List.setIfInBounds_toArray, List.set_cons_zero, List.set_cons_succ]
  refine WL.nil ?_
  refine hK6 _ _ ?_
  refine wp_cond_false rfl ?_
  refine wp_skip ?_
  refine hK5 _ _ ?_
  refine wp_seq_k fun K7 hK7 => ?_
  refine wp_region_list (WL.out ?_)
  refine WL.val (by kernel_rfl) (.int .i64 k) (by go_simp) ?_
  simp only [Act.put, List.setIfInBounds_toArray, List.set_cons_zero, List.set_cons_succ]
  refine WL.callF (by kernel_rfl) 8 _ _ rfl Tryd.in8 #[.int .i64 k] (by simp [Act.eval]) ?_
  refine (pnw_bad w3 k hk).mono ?_
  rintro e w4 ⟨rfl, hw_⟩
  refine ⟨_, rfl, ?_⟩
  have hw_ := hw_.symm
  subst hw_
  simp only [Act.put, List.setIfInBounds_toArray, List.set_cons_zero, List.set_cons_succ]
  refine WL.val (by kernel_rfl) (.tuple #[.pointer none, .int .i64 1]) (by go_simp) ?_
  simp only [Act.put, List.setIfInBounds_toArray, List.set_cons_zero, List.set_cons_succ]
  refine WL.val (by kernel_rfl) (.pointer none) (by go_simp) ?_
  simp only [Act.put, List.setIfInBounds_toArray, List.set_cons_zero, List.set_cons_succ]
  refine WL.val (by kernel_rfl) (.int .i64 1) (by go_simp) ?_
  simp only [Act.put, List.setIfInBounds_toArray, List.set_cons_zero, List.set_cons_succ]
  refine WL.val (by kernel_rfl) (.pointer none) (by go_simp) ?_
  simp only [Act.put, List.setIfInBounds_toArray, List.set_cons_zero, List.set_cons_succ]
  refine WL.val (by kernel_rfl) (.int .i64 1) (by go_simp) ?_
  simp only [Act.put, List.setIfInBounds_toArray, List.set_cons_zero, List.set_cons_succ]
  refine WL.nil ?_
  refine hK7 _ _ ?_
  refine wp_seq_k fun K8 hK8 => ?_
  refine wp_region_list (WL.out ?_)
  refine WL.val (by kernel_rfl) (.int .i64 k) (by go_simp) ?_
  simp only [Act.put, List.setIfInBounds_toArray, List.set_cons_zero, List.set_cons_succ]
  refine WL.callF (by kernel_rfl) 9 _ _ rfl Tryd.in9 #[.int .i64 k] (by simp [Act.eval]) ?_
  refine (nw_bad w3 k hk).mono ?_
  rintro e w4a ⟨rfl, hw_⟩
  refine ⟨_, rfl, ?_⟩
  have hw_ := hw_.symm
  subst hw_
  obtain ⟨w5, hw5⟩ : ∃ z, z = w3 := ⟨_, rfl⟩
  rw [← hw5] at R3 B3 ⊢
  have S5 := R3
  have B5 := B3
  clear R3 B3 hw5
  simp only [Act.put, List.setIfInBounds_toArray, List.set_cons_zero, List.set_cons_succ]
  refine WL.val (by kernel_rfl) (.tuple #[.pointer none, .int .i64 1]) (by go_simp) ?_
  simp only [Act.put, List.setIfInBounds_toArray, List.set_cons_zero, List.set_cons_succ]
  refine WL.val (by kernel_rfl) (.pointer none) (by go_simp) ?_
  simp only [Act.put, List.setIfInBounds_toArray, List.set_cons_zero, List.set_cons_succ]
  refine WL.val (by kernel_rfl) (.int .i64 1) (by go_simp) ?_
  simp only [Act.put, List.setIfInBounds_toArray, List.set_cons_zero, List.set_cons_succ]
  refine WL.val (by kernel_rfl) (.pointer none) (by go_simp) ?_
  simp only [Act.put, List.setIfInBounds_toArray, List.set_cons_zero, List.set_cons_succ]
  refine WL.val (by kernel_rfl) (.int .i64 1) (by go_simp) ?_
  simp only [Act.put, List.setIfInBounds_toArray, List.set_cons_zero, List.set_cons_succ]
  refine WL.nil ?_
  refine hK8 _ _ ?_
  refine wp_seq_k fun K9 hK9 => ?_
  refine wp_seq_k fun K10 hK10 => ?_
  refine wp_region_list (WL.out ?_)
  refine WL.val (by kernel_rfl) (.int .i64 1) (by go_simp) ?_
  simp only [Act.put, List.setIfInBounds_toArray, List.set_cons_zero, List.set_cons_succ]
  refine WL.val (by kernel_rfl) (.int .i64 1) (by go_simp) ?_
  simp only [Act.put, List.setIfInBounds_toArray, List.set_cons_zero, List.set_cons_succ]
  refine WL.val (by kernel_rfl) (.bool false) (by go_simp) ?_
  simp only [Act.put, List.setIfInBounds_toArray, List.set_cons_zero, List.set_cons_succ]
  refine WL.val (by kernel_rfl) (.bool false) (by go_simp) ?_
  simp only [Act.put, List.setIfInBounds_toArray, List.set_cons_zero, List.set_cons_succ]
  refine WL.val (by kernel_rfl) (.pointer none) (by go_simp) ?_
  simp only [Act.put, List.setIfInBounds_toArray, List.set_cons_zero, List.set_cons_succ]
  refine WL.val (by kernel_rfl) (.bool true) (by go_simp) ?_
  simp only [Act.put, List.setIfInBounds_toArray, List.set_cons_zero, List.set_cons_succ]
  refine WL.val (by kernel_rfl) (.pointer none) (by go_simp) ?_
  simp only [Act.put, List.setIfInBounds_toArray, List.set_cons_zero, List.set_cons_succ]
  refine WL.val (by kernel_rfl) (.bool true) (by go_simp) ?_
  simp only [Act.put, List.setIfInBounds_toArray, List.set_cons_zero, List.set_cons_succ]
  refine WL.val (by kernel_rfl) (.bool false) (by go_simp) ?_
  simp only [Act.put, List.setIfInBounds_toArray, List.set_cons_zero, List.set_cons_succ]
  refine WL.val (by kernel_rfl) (.bool false) (by go_simp) ?_
  simp only [Act.put, List.setIfInBounds_toArray, List.set_cons_zero, List.set_cons_succ]
  refine WL.nil ?_
  refine hK10 _ _ ?_
  refine wp_cond_false rfl ?_
  refine wp_skip ?_
  refine hK9 _ _ ?_
  refine wp_seq_k fun K11 hK11 => ?_
  refine wp_seq_k fun K12 hK12 => ?_
  refine wp_region_list (WL.out ?_)
  refine WL.val (by kernel_rfl) (.pointer (some ⟨x, 0, none⟩)) (by go_simp) ?_
  simp only [Act.put, List.setIfInBounds_toArray, List.set_cons_zero, List.set_cons_succ]
  refine WL.val (by kernel_rfl) (.bool false) (by go_simp) ?_
  simp only [Act.put, List.setIfInBounds_toArray, List.set_cons_zero, List.set_cons_succ]
  refine WL.nil ?_
  refine hK12 _ _ ?_
  refine wp_cond_false rfl ?_
  refine wp_skip ?_
  refine hK11 _ _ ?_
  refine wp_seq_k fun K13 hK13 => ?_
  refine wp_region_list (WL.out ?_)
  refine WL.val (by kernel_rfl) (.pointer (some ⟨p, 0, none⟩)) (by go_simp) ?_
  simp only [Act.put, List.setIfInBounds_toArray, List.set_cons_zero, List.set_cons_succ]
  refine WL.val (by kernel_rfl) (.pointer (some ⟨x, 0, none⟩)) (by go_simp) ?_
  simp only [Act.put, List.setIfInBounds_toArray, List.set_cons_zero, List.set_cons_succ]
  refine WL.bld (by kernel_rfl) 34 _ rfl [(0, .pointer (some ⟨p, 0, none⟩)), (1, .pointer (some ⟨x, 0, none⟩))] (by simp [Act.eval]) #[.pointer (some ⟨p, 0, none⟩), .pointer (some ⟨x, 0, none⟩)] (bldPa p x) ?_
  simp only [Act.put, List.setIfInBounds_toArray, List.set_cons_zero, List.set_cons_succ]
  refine WL.new (by kernel_rfl) 34 rfl _ Tryd.newPa ?_
  have Ca := Keep.mk (Blk.new w5 34 #[.pointer none, .pointer none])
  have ba := Keep.mk (below_new w5 (.cells #[.pointer none, .pointer none] 34))
  generalize w5.alloc (.cells #[.pointer none, .pointer none] 34) = w6 at *
  obtain ⟨a, ha⟩ : ∃ z, Keep (z = w5.heap.size) := ⟨_, ⟨rfl⟩⟩
  rw [← ha.out] at Ca ⊢
  simp only [Act.put, List.setIfInBounds_toArray, List.set_cons_zero, List.set_cons_succ]
  refine WL.storeR (by kernel_rfl) 34 (.tmp 16) (.tmp 76) rfl a #[.pointer (some ⟨p, 0, none⟩), .pointer (some ⟨x, 0, none⟩)] rfl rfl 34 #[.pointer none, .pointer none] Ca.out (sizePa p x) rfl (onePa p x) ?_
  have Da := Keep.mk (Ca.out.setRow #[.pointer (some ⟨p, 0, none⟩), .pointer (some ⟨x, 0, none⟩)])
  have g_ : Keep (Grown w6 (w6.setRow a #[.pointer (some ⟨p, 0, none⟩), .pointer (some ⟨x, 0, none⟩)]) fun k => k = a) := ⟨Grown.setRow w6 a _ fun _ => rfl⟩
  have b7 : Keep (Below w5.heap.size w5 (w6.setRow a #[.pointer (some ⟨p, 0, none⟩), .pointer (some ⟨x, 0, none⟩)])) := ⟨ba.out.trans (g_.out.to_below (fun k hk e => by have := ha.out; omega) ba.out.size)⟩
  clear Ca ba g_
  generalize w6.setRow a #[.pointer (some ⟨p, 0, none⟩), .pointer (some ⟨x, 0, none⟩)] = w7 at *
  simp only [Act.put]
  refine WL.nil ?_
  refine hK13 _ _ ?_
  refine wp_seq_k fun K14 hK14 => ?_
  refine wp_region_list (WL.out ?_)
  refine WL.val (by kernel_rfl) (.pointer (some ⟨p, 0, none⟩)) (by go_simp) ?_
  simp only [Act.put, List.setIfInBounds_toArray, List.set_cons_zero, List.set_cons_succ]
  refine WL.val (by kernel_rfl) (.pointer (some ⟨x, 0, none⟩)) (by go_simp) ?_
  simp only [Act.put, List.setIfInBounds_toArray, List.set_cons_zero, List.set_cons_succ]
  refine WL.bld (by kernel_rfl) 34 _ rfl [(0, .pointer (some ⟨p, 0, none⟩)), (1, .pointer (some ⟨x, 0, none⟩))] (by simp [Act.eval]) #[.pointer (some ⟨p, 0, none⟩), .pointer (some ⟨x, 0, none⟩)] (bldPa p x) ?_
  simp only [Act.put, List.setIfInBounds_toArray, List.set_cons_zero, List.set_cons_succ]
  refine WL.new (by kernel_rfl) 34 rfl _ Tryd.newPa ?_
  have Cb := Keep.mk (Blk.new w7 34 #[.pointer none, .pointer none])
  have bb := Keep.mk (below_new w7 (.cells #[.pointer none, .pointer none] 34))
  generalize w7.alloc (.cells #[.pointer none, .pointer none] 34) = w8 at *
  obtain ⟨b, hb⟩ : ∃ z, Keep (z = w7.heap.size) := ⟨_, ⟨rfl⟩⟩
  rw [← hb.out] at Cb ⊢
  simp only [Act.put, List.setIfInBounds_toArray, List.set_cons_zero, List.set_cons_succ]
  refine WL.storeR (by kernel_rfl) 34 (.tmp 17) (.tmp 79) rfl b #[.pointer (some ⟨p, 0, none⟩), .pointer (some ⟨x, 0, none⟩)] rfl rfl 34 #[.pointer none, .pointer none] Cb.out (sizePa p x) rfl (onePa p x) ?_
  have Db := Keep.mk (Cb.out.setRow #[.pointer (some ⟨p, 0, none⟩), .pointer (some ⟨x, 0, none⟩)])
  have g_ : Keep (Grown w8 (w8.setRow b #[.pointer (some ⟨p, 0, none⟩), .pointer (some ⟨x, 0, none⟩)]) fun k => k = b) := ⟨Grown.setRow w8 b _ fun _ => rfl⟩
  have b9 : Keep (Below w7.heap.size w7 (w8.setRow b #[.pointer (some ⟨p, 0, none⟩), .pointer (some ⟨x, 0, none⟩)])) := ⟨bb.out.trans (g_.out.to_below (fun k hk e => by have := hb.out; omega) bb.out.size)⟩
  have La : Keep (a < w7.heap.size) := ⟨Da.out.lt⟩
  have Ea := Keep.mk (Da.out.below b9.out La.out)
  have Lb : Keep (b = w7.heap.size) := hb
  have b5 : Keep (Below w5.heap.size w5 (w8.setRow b #[.pointer (some ⟨p, 0, none⟩), .pointer (some ⟨x, 0, none⟩)])) := ⟨b7.out.trans (b9.out.mono b7.out.size)⟩
  clear Cb bb g_ b9 Da hb
  generalize w8.setRow b #[.pointer (some ⟨p, 0, none⟩), .pointer (some ⟨x, 0, none⟩)] = w9 at *
  simp only [Act.put]
  refine WL.nil ?_
  refine hK14 _ _ ?_
  refine wp_seq_k fun K15 hK15 => ?_
  refine wp_seq_k fun K16 hK16 => ?_
  refine wp_region_list (WL.out ?_)
  refine WL.val (by kernel_rfl) (.pointer none) (by go_simp) ?_
  simp only [Act.put, List.setIfInBounds_toArray, List.set_cons_zero, List.set_cons_succ]
  refine WL.val (by kernel_rfl) (.bool false) (by go_simp) ?_
  simp only [Act.put, List.setIfInBounds_toArray, List.set_cons_zero, List.set_cons_succ]
  refine WL.nil ?_
  refine hK16 _ _ ?_
  refine wp_cond_false rfl ?_
  refine wp_skip ?_
  refine hK15 _ _ ?_
  refine wp_seq_k fun K17 hK17 => ?_
  refine wp_region_list (WL.out ?_)
  refine WL.bld (by kernel_rfl) 38 _ rfl [] (by simp) #[.slice none 0 0, .slice none 0 0, .int .i64 0] bldBk0 ?_
  simp only [Act.put, List.setIfInBounds_toArray, List.set_cons_zero, List.set_cons_succ]
  refine WL.box (by kernel_rfl) 38 (.tmp 85) rfl #[.slice none 0 0, .slice none 0 0, .int .i64 0] rfl ?_
  have Cq := Keep.mk (Blk.new w9 38 #[.slice none 0 0, .slice none 0 0, .int .i64 0])
  have bq := below_new w9 (.cells #[.slice none 0 0, .slice none 0 0, .int .i64 0] 38)
  have Ea := Keep.mk (Ea.out.below bq Ea.out.lt)
  have hq : Keep (b < w9.heap.size) := ⟨Db.out.lt⟩
  have Db := Keep.mk (Db.out.below bq Db.out.lt)
  generalize w9.alloc (.cells #[.slice none 0 0, .slice none 0 0, .int .i64 0] 38) = w10 at *
  obtain ⟨q, hq0⟩ : ∃ z, Keep (z = w9.heap.size) := ⟨_, ⟨rfl⟩⟩
  rw [← hq0.out] at Cq ⊢
  have HLP : Keep (LP w qe gs go S a b q w10 p x p x) := by
    have bq5 : Below w5.heap.size w5 w10 := b5.out.trans (bq.mono b5.out.size)
    have e1 := ha.out
    have e2 := La.out
    have e3 := Lb.out
    have e4 := hq.out
    have e5 := hq0.out
    have e6 := B5.out.size
    have e7 := HE.out.lt
    have e8 := b7.out.size
    have bw : Below w.heap.size w w10 := B5.out.trans (bq5.mono e6)
    exact ⟨⟨Ea.out, Db.out, SS.one (S5.out.below bq5) EK.out (fun k hk => by have := S5.out.lt k hk; have := L3.out k hk; exact ⟨by omega, by omega, by omega⟩) Cq.out ⟨by omega, by omega, by omega⟩ (fun e => by have := S5.out.lt q e; omega), HS.out.below bw, HE.out.below bw, bw, ⟨e7, by omega, by omega, by omega⟩⟩⟩
  clear Cq bq Ea Db hq hq0 S5  EK L3 B5 La Lb ha b7 b5 HE
  simp only [Act.put, List.setIfInBounds_toArray, List.set_cons_zero, List.set_cons_succ]
  refine WL.val (by kernel_rfl) (.pointer (some ⟨q, 0, none⟩)) (by go_simp) ?_
  simp only [Act.put, List.setIfInBounds_toArray, List.set_cons_zero, List.set_cons_succ]
  refine WL.nil ?_
  refine hK17 _ _ ?_
  refine wp_seq_k fun K18 hK18 => ?_
  refine wp_seq_k fun K19 hK19 => ?_
  refine wp_region_list (WL.out ?_)
  refine WL.val (by kernel_rfl) (.int .i64 0) (by go_simp) ?_
  simp only [Act.put, List.setIfInBounds_toArray, List.set_cons_zero, List.set_cons_succ]
  refine WL.nil ?_
  refine hK19 _ _ ?_
  refine wp_block ?_
  refine wp_loop (fun ac wr => ∃ (u : Nat) (fz : Nat → Value) (c1 d1 c2 d2 : Nat), ac = { tmps := #[.int .i64 (N : Int), .int .i64 k, .slice va S.length gc, undef, undef, undef, fz 6, .bool true, .pointer (some ⟨p, 0, none⟩), .int .i64 0, .pointer (some ⟨x, 0, none⟩), .int .i64 0, .pointer none, .int .i64 1, .pointer none, .int .i64 1, .pointer (some ⟨a, 0, none⟩), .pointer (some ⟨b, 0, none⟩), .pointer (some ⟨q, 0, none⟩), .int .i64 (u : Int), fz 20, undef, undef, undef, undef, undef, undef, .bool true, .tuple #[.pointer (some ⟨p, 0, none⟩), .int .i64 0], .int .i64 (N : Int), .tuple #[.pointer (some ⟨p, 0, none⟩), .int .i64 0], .pointer (some ⟨p, 0, none⟩), .int .i64 0, .tuple #[.pointer (some ⟨x, 0, none⟩), .int .i64 0], .int .i64 (N : Int), .tuple #[.pointer (some ⟨x, 0, none⟩), .int .i64 0], .pointer (some ⟨x, 0, none⟩), .int .i64 0, .bool true, .bool false, .bool false, .int .i64 0, .int .i64 0, .bool false, .bool false, .bool false, .pointer (some ⟨p, 0, none⟩), .bool false, .pointer (some ⟨x, 0, none⟩), .bool false, .bool false, .bool false, .tuple #[.pointer none, .int .i64 1], .int .i64 k, .tuple #[.pointer none, .int .i64 1], .pointer none, .int .i64 1, .tuple #[.pointer none, .int .i64 1], .int .i64 k, .tuple #[.pointer none, .int .i64 1], .pointer none, .int .i64 1, .int .i64 1, .int .i64 1, .bool false, .bool false, .pointer none, .bool true, .pointer none, .bool true, .bool false, .bool false, .pointer (some ⟨x, 0, none⟩), .bool false, .pointer (some ⟨p, 0, none⟩), .pointer (some ⟨x, 0, none⟩), .agg #[.pointer (some ⟨p, 0, none⟩), .pointer (some ⟨x, 0, none⟩)], .pointer (some ⟨p, 0, none⟩), .pointer (some ⟨x, 0, none⟩), .agg #[.pointer (some ⟨p, 0, none⟩), .pointer (some ⟨x, 0, none⟩)], .pointer none, .bool false, undef, undef, undef, .agg #[.slice none 0 0, .slice none 0 0, .int .i64 0], .pointer (some ⟨q, 0, none⟩), fz 87, fz 88, fz 89, fz 90, fz 91, fz 92, fz 93, fz 94, fz 95, fz 96, fz 97, fz 98, fz 99, fz 100, fz 101, fz 102, fz 103, fz 104, fz 105, fz 106, fz 107, fz 108, fz 109, undef, undef, undef, undef, undef, undef, undef, undef, undef, undef, undef, undef, undef, undef, undef, undef, undef, undef, undef, undef, undef, undef, undef, undef, undef, undef, undef, undef, undef, undef, undef], defers := [] } ∧ Keep (u ≤ S.length) ∧ Keep (LP w qe gs go S a b q wr c1 d1 c2 d2)) (fun a _ => S.length - (intOf (a.tmps.getD 19 undef)).toNat) ⟨0, fun zz => [.int .i64 (N : Int), .int .i64 k, .slice va S.length gc, undef, undef, undef, .bool false, .bool true, .pointer (some ⟨p, 0, none⟩), .int .i64 0, .pointer (some ⟨x, 0, none⟩), .int .i64 0, .pointer none, .int .i64 1, .pointer none, .int .i64 1, .pointer (some ⟨a, 0, none⟩), .pointer (some ⟨b, 0, none⟩), .pointer (some ⟨q, 0, none⟩), .int .i64 0, undef, undef, undef, undef, undef, undef, undef, .bool true, .tuple #[.pointer (some ⟨p, 0, none⟩), .int .i64 0], .int .i64 (N : Int), .tuple #[.pointer (some ⟨p, 0, none⟩), .int .i64 0], .pointer (some ⟨p, 0, none⟩), .int .i64 0, .tuple #[.pointer (some ⟨x, 0, none⟩), .int .i64 0], .int .i64 (N : Int), .tuple #[.pointer (some ⟨x, 0, none⟩), .int .i64 0], .pointer (some ⟨x, 0, none⟩), .int .i64 0, .bool true, .bool false, .bool false, .int .i64 0, .int .i64 0, .bool false, .bool false, .bool false, .pointer (some ⟨p, 0, none⟩), .bool false, .pointer (some ⟨x, 0, none⟩), .bool false, .bool false, .bool false, .tuple #[.pointer none, .int .i64 1], .int .i64 k, .tuple #[.pointer none, .int .i64 1], .pointer none, .int .i64 1, .tuple #[.pointer none, .int .i64 1], .int .i64 k, .tuple #[.pointer none, .int .i64 1], .pointer none, .int .i64 1, .int .i64 1, .int .i64 1, .bool false, .bool false, .pointer none, .bool true, .pointer none, .bool true, .bool false, .bool false, .pointer (some ⟨x, 0, none⟩), .bool false, .pointer (some ⟨p, 0, none⟩), .pointer (some ⟨x, 0, none⟩), .agg #[.pointer (some ⟨p, 0, none⟩), .pointer (some ⟨x, 0, none⟩)], .pointer (some ⟨p, 0, none⟩), .pointer (some ⟨x, 0, none⟩), .agg #[.pointer (some ⟨p, 0, none⟩), .pointer (some ⟨x, 0, none⟩)], .pointer none, .bool false, undef, undef, undef, .agg #[.slice none 0 0, .slice none 0 0, .int .i64 0], .pointer (some ⟨q, 0, none⟩), undef, undef, undef, undef, undef, undef, undef, undef, undef, undef, undef, undef, undef, undef, undef, undef, undef, undef, undef, undef, undef, undef, undef, undef, undef, undef, undef, undef, undef, undef, undef, undef, undef, undef, undef, undef, undef, undef, undef, undef, undef, undef, undef, undef, undef, undef, undef, undef, undef, undef, undef, undef, undef, undef].getD zz undef, p, x, p, x, rfl, ⟨by omega⟩, HLP⟩ ?_
  rintro ac wr ⟨u, fz, c1, d1, c2, d2, rfl, HU, HL⟩
  have hu9 := HU.out
  refine wp_seq_k fun K20 hK20 => ?_
  refine wp_seq_k fun K21 hK21 => ?_
  refine wp_region_list (WL.out ?_)
  refine WL.val (by kernel_rfl) (.int .i64 (u : Int)) (by go_simp) ?_
  simp only [Act.put, List.setIfInBounds_toArray, List.set_cons_zero, List.set_cons_succ]
  refine WL.val (by kernel_rfl) (.slice va S.length gc) (by go_simp) ?_
  simp only [Act.put, List.setIfInBounds_toArray, List.set_cons_zero, List.set_cons_succ]
  refine WL.val (by kernel_rfl) (.int .i64 (S.length : Int)) (by go_simp) ?_
  simp only [Act.put, List.setIfInBounds_toArray, List.set_cons_zero, List.set_cons_succ]
  by_cases h18_3 : u < S.length
  · have hcu_ : ((u : Int) < (S.length : Int)) := by omega
    refine WL.val (by kernel_rfl) (.bool true) (by go_simp) ?_
    simp only [Act.put, List.setIfInBounds_toArray, List.set_cons_zero, List.set_cons_succ]
    refine WL.nil ?_
    refine hK21 _ _ ?_
    refine wp_cond_true rfl ?_
    refine wp_skip ?_
    refine hK20 _ _ ?_
    refine wp_seq_k fun K22 hK22 => ?_
    refine wp_block ?_
    refine wp_seq_k fun K23 hK23 => ?_
    refine wp_seq_k fun K24 hK24 => ?_
    refine wp_region_list (WL.out ?_)
    have hva := HV.out (fun e => by rw [e] at hcu_; simp at hcu_; omega)
    subst hva
    obtain ⟨sp, hsp⟩ : ∃ z, S[u]? = some z := ⟨_, List.getElem?_eq_getElem (by assumption)⟩
    have HSp := Keep.mk hsp
    clear hsp
    refine WL.val (by kernel_rfl) (.slice (some ⟨gs, go, none⟩) S.length gc) (by go_simp) ?_
    simp only [Act.put, List.setIfInBounds_toArray, List.set_cons_zero, List.set_cons_succ]
    refine WL.val (by kernel_rfl) (.int .i64 (u : Int)) (by go_simp) ?_
    simp only [Act.put, List.setIfInBounds_toArray, List.set_cons_zero, List.set_cons_succ]
    refine WL.val (by kernel_rfl) (.pointer (some ⟨gs, go + u * 8, none⟩)) (by go_simp) ?_
    simp only [Act.put, List.setIfInBounds_toArray, List.set_cons_zero, List.set_cons_succ]
    refine WL.val (by kernel_rfl) (.pointer (some ⟨gs, go + u * 8, none⟩)) (by go_simp) ?_
    simp only [Act.put, List.setIfInBounds_toArray, List.set_cons_zero, List.set_cons_succ]
    have c_ : wr.cell? ⟨gs, go + u * 8, none⟩ = some (.int .i64 sp.kd) := (HL.out.st.at_ u sp HSp.out).1 0 _ rfl
    refine WL.val (by kernel_rfl) (.int .i64 sp.kd) (by go_simp) ?_
    clear c_
    simp only [Act.put, List.setIfInBounds_toArray, List.set_cons_zero, List.set_cons_succ]
    by_cases h20_5 : sp.kd = 10
    · skip
      refine WL.val (by kernel_rfl) (.bool true) (by go_simp) ?_
      simp only [Act.put, List.setIfInBounds_toArray, List.set_cons_zero, List.set_cons_succ]
      refine WL.nil ?_
      refine hK24 _ _ ?_
      refine wp_cond_true rfl ?_
      refine wp_seq_k fun K25 hK25 => ?_
      refine wp_region_list (WL.out ?_)
      refine WL.row (by kernel_rfl) 34 (.tmp 17) rfl b rfl 34 #[.pointer (some ⟨c2, 0, none⟩), .pointer (some ⟨d2, 0, none⟩)] _ HL.out.bb Tryd.underlying34 rfl (by kernel_rfl) ?_
      simp only [Act.put, List.setIfInBounds_toArray, List.set_cons_zero, List.set_cons_succ]
      refine WL.row (by kernel_rfl) 34 (.tmp 16) rfl a rfl 34 #[.pointer (some ⟨c1, 0, none⟩), .pointer (some ⟨d1, 0, none⟩)] _ HL.out.ba Tryd.underlying34 rfl (by kernel_rfl) ?_
      simp only [Act.put, List.setIfInBounds_toArray, List.set_cons_zero, List.set_cons_succ]
      refine WL.storeR (by kernel_rfl) 34 (.tmp 16) (.tmp 99) rfl a #[.pointer (some ⟨c2, 0, none⟩), .pointer (some ⟨d2, 0, none⟩)] rfl rfl 34 #[.pointer (some ⟨c1, 0, none⟩), .pointer (some ⟨d1, 0, none⟩)] HL.out.ba (sizePa c2 d2) rfl (onePa c2 d2) ?_
      simp only [Act.put]
      refine WL.storeR (by kernel_rfl) 34 (.tmp 17) (.tmp 100) rfl b #[.pointer (some ⟨c1, 0, none⟩), .pointer (some ⟨d1, 0, none⟩)] rfl rfl 34 #[.pointer (some ⟨c2, 0, none⟩), .pointer (some ⟨d2, 0, none⟩)] (HL.out.bb.setRow_ne (fun e => HL.out.lo.2.2.2 e.symm) _) (sizePa c1 d1) rfl (onePa c1 d1) ?_
      have HL2 := Keep.mk HL.out.swap
      simp only [Act.put]
      refine WL.nil ?_
      refine hK25 _ _ ?_
      refine wp_exit ?_
      refine hK22 _ _ ?_
      refine wp_region_list (WL.out ?_)
      refine WL.val (by kernel_rfl) (.int .i64 (u : Int)) (by go_simp) ?_
      simp only [Act.put, List.setIfInBounds_toArray, List.set_cons_zero, List.set_cons_succ]
      have hw6 : IntKind.i64.wrap ((u : Int) + 1) = ((u + 1 : Nat) : Int) := by rw [IntKind.wrap_i64]; have := HN.out; omega
      refine WL.val (by kernel_rfl) (.int .i64 ((u + 1 : Nat) : Int)) (by go_simp) ?_
      clear hw6
      simp only [Act.put, List.setIfInBounds_toArray, List.set_cons_zero, List.set_cons_succ]
      refine WL.val (by kernel_rfl) (.int .i64 ((u + 1 : Nat) : Int)) (by go_simp) ?_
      simp only [Act.put, List.setIfInBounds_toArray, List.set_cons_zero, List.set_cons_succ]
      refine WL.nil ?_
      refine ⟨⟨u + 1, fun zz => [.int .i64 (N : Int), .int .i64 k, .slice (some ⟨gs, go, none⟩) S.length gc, undef, undef, undef, fz 6, .bool true, .pointer (some ⟨p, 0, none⟩), .int .i64 0, .pointer (some ⟨x, 0, none⟩), .int .i64 0, .pointer none, .int .i64 1, .pointer none, .int .i64 1, .pointer (some ⟨a, 0, none⟩), .pointer (some ⟨b, 0, none⟩), .pointer (some ⟨q, 0, none⟩), .int .i64 ((u + 1 : Nat) : Int), fz 20, undef, undef, undef, undef, undef, undef, .bool true, .tuple #[.pointer (some ⟨p, 0, none⟩), .int .i64 0], .int .i64 (N : Int), .tuple #[.pointer (some ⟨p, 0, none⟩), .int .i64 0], .pointer (some ⟨p, 0, none⟩), .int .i64 0, .tuple #[.pointer (some ⟨x, 0, none⟩), .int .i64 0], .int .i64 (N : Int), .tuple #[.pointer (some ⟨x, 0, none⟩), .int .i64 0], .pointer (some ⟨x, 0, none⟩), .int .i64 0, .bool true, .bool false, .bool false, .int .i64 0, .int .i64 0, .bool false, .bool false, .bool false, .pointer (some ⟨p, 0, none⟩), .bool false, .pointer (some ⟨x, 0, none⟩), .bool false, .bool false, .bool false, .tuple #[.pointer none, .int .i64 1], .int .i64 k, .tuple #[.pointer none, .int .i64 1], .pointer none, .int .i64 1, .tuple #[.pointer none, .int .i64 1], .int .i64 k, .tuple #[.pointer none, .int .i64 1], .pointer none, .int .i64 1, .int .i64 1, .int .i64 1, .bool false, .bool false, .pointer none, .bool true, .pointer none, .bool true, .bool false, .bool false, .pointer (some ⟨x, 0, none⟩), .bool false, .pointer (some ⟨p, 0, none⟩), .pointer (some ⟨x, 0, none⟩), .agg #[.pointer (some ⟨p, 0, none⟩), .pointer (some ⟨x, 0, none⟩)], .pointer (some ⟨p, 0, none⟩), .pointer (some ⟨x, 0, none⟩), .agg #[.pointer (some ⟨p, 0, none⟩), .pointer (some ⟨x, 0, none⟩)], .pointer none, .bool false, undef, undef, undef, .agg #[.slice none 0 0, .slice none 0 0, .int .i64 0], .pointer (some ⟨q, 0, none⟩), .int .i64 (u : Int), .slice (some ⟨gs, go, none⟩) S.length gc, .int .i64 (S.length : Int), .bool true, .int .i64 (u : Int), .int .i64 ((u + 1 : Nat) : Int), .slice (some ⟨gs, go, none⟩) S.length gc, .int .i64 (u : Int), .pointer (some ⟨gs, go + u * 8, none⟩), .pointer (some ⟨gs, go + u * 8, none⟩), .int .i64 sp.kd, .bool true, .agg #[.pointer (some ⟨c2, 0, none⟩), .pointer (some ⟨d2, 0, none⟩)], .agg #[.pointer (some ⟨c1, 0, none⟩), .pointer (some ⟨d1, 0, none⟩)], fz 101, fz 102, fz 103, fz 104, fz 105, fz 106, fz 107, fz 108, fz 109, undef, undef, undef, undef, undef, undef, undef, undef, undef, undef, undef, undef, undef, undef, undef, undef, undef, undef, undef, undef, undef, undef, undef, undef, undef, undef, undef, undef, undef, undef, undef].getD zz undef, c2, d2, c1, d1, rfl, ⟨by omega⟩, HL2⟩, ?_⟩
      simp only [intOf]
      show S.length - (((u + 1 : Nat) : Int)).toNat < S.length - ((u : Int)).toNat
      omega
    · skip
      refine WL.val (by kernel_rfl) (.bool false) (by go_simp) ?_
      simp only [Act.put, List.setIfInBounds_toArray, List.set_cons_zero, List.set_cons_succ]
      refine WL.nil ?_
      refine hK24 _ _ ?_
      refine wp_cond_false rfl ?_
      refine wp_skip ?_
      refine hK23 _ _ ?_
      refine wp_seq_k fun K26 hK26 => ?_
      refine wp_region_held_drew (S := fun wx => Blk wx a 34 #[.pointer (some ⟨c1, 0, none⟩), .pointer (some ⟨d1, 0, none⟩)] ∧ wx.rangeAt gs (go + u * 8) sp.cs) (by kernel_rfl) (⟨(HL.out.below (Below.refl _ _).drew).ba, ((HL.out.below (Below.refl _ _).drew).st.at_ u sp HSp.out).1⟩) (fun hHeld => ?_)
      have HL1 := Keep.mk (HL.out.below (Below.refl wr.heap.size wr).drew)
      clear HL
      generalize wr.drew = wd at *
      refine wpAnyH_take (i := 0) (oi := ⟨some 101, Op.load 34 (Operand.tmp 16), 34, _, _, none⟩) (v := .agg #[.pointer (some ⟨c1, 0, none⟩), .pointer (some ⟨d1, 0, none⟩)]) rfl (by kernel_rfl) (by kernel_rfl) (by kernel_rfl) (fun _ _ _ h => h) (yieldsIf_load_mid (by rfl) 34 (Operand.tmp 16) rfl a 0 rfl (#[.pointer (some ⟨c1, 0, none⟩), .pointer (some ⟨d1, 0, none⟩)] : Array Value).toList _ (fun w hS => blk_range hS.1) Tryd.underlying34 rfl (by kernel_rfl)) hHeld ?_
      simp only [Act.put, List.setIfInBounds_toArray, List.set_cons_zero, List.set_cons_succ]
      refine wpAnyH_take (i := 1) (oi := ⟨some 102, Op.move (Operand.tmp 2), 25, _, _, none⟩) (v := .slice (some ⟨gs, go, none⟩) S.length gc) rfl (by kernel_rfl) (by kernel_rfl) (by kernel_rfl) (fun _ _ _ h => h) (Or.inl ⟨by rfl, fun w hS => by go_simp⟩) hHeld ?_
      simp only [Act.put, List.setIfInBounds_toArray, List.set_cons_zero, List.set_cons_succ]
      refine wpAnyH_take (i := 2) (oi := ⟨some 103, Op.move (Operand.tmp 19), 3, _, _, none⟩) (v := .int .i64 (u : Int)) rfl (by kernel_rfl) (by kernel_rfl) (by kernel_rfl) (fun _ _ _ h => h) (Or.inl ⟨by rfl, fun w hS => by go_simp⟩) hHeld ?_
      simp only [Act.put, List.setIfInBounds_toArray, List.set_cons_zero, List.set_cons_succ]
      refine wpAnyH_take (i := 5) (oi := ⟨some 106, Op.move (Operand.tmp 18), 35, _, _, none⟩) (v := .pointer (some ⟨q, 0, none⟩)) rfl (by kernel_rfl) (by kernel_rfl) (by kernel_rfl) (fun _ _ _ h => h) (Or.inl ⟨by rfl, fun w hS => by go_simp⟩) hHeld ?_
      simp only [Act.put, List.setIfInBounds_toArray, List.set_cons_zero, List.set_cons_succ]
      refine wpAnyH_take (i := 3) (oi := ⟨some 104, Op.indexAddr 25 (Operand.tmp 102) (Operand.tmp 103), 0, _, _, none⟩) (v := .pointer (some ⟨gs, go + u * 8, none⟩)) rfl (by kernel_rfl) (by kernel_rfl) (by kernel_rfl) (fun _ _ _ h => h) (Or.inl ⟨by rfl, fun w hS => by go_simp⟩) hHeld ?_
      simp only [Act.put, List.setIfInBounds_toArray, List.set_cons_zero, List.set_cons_succ]
      refine wpAnyH_take (i := 4) (oi := ⟨some 105, Op.load 41 (Operand.tmp 104), 41, _, _, none⟩) (v := .agg sp.cs.toArray) rfl (by kernel_rfl) (by kernel_rfl) (by kernel_rfl) (fun _ _ _ h => h) (yieldsIf_load_mid (by rfl) 41 (Operand.tmp 104) rfl gs (go + u * 8) rfl sp.cs _ (fun w hS => hS.2) Tryd.underlying41 rfl (sizeStp sp)) hHeld ?_
      simp only [Act.put, List.setIfInBounds_toArray, List.set_cons_zero, List.set_cons_succ]
      refine wpAnyH_ready (rs := [6]) (by kernel_rfl) (by simp) ?_
      refine AllReadyH.cons (o := ⟨some 107, Op.call { callee := Callee.value (Operand.func 10), args := #[Operand.tmp 101, Operand.tmp 105, Operand.tmp 106], argTypes := #[34, 41, 35] }, 4, _, _, none⟩) rfl (fun K hK => ?_) AllReadyH.nil
      rw [if_pos (by rfl)]
      refine wp_callF 10 _ _ rfl Tryd.in10 #[.agg #[.pointer (some ⟨c1, 0, none⟩), .pointer (some ⟨d1, 0, none⟩)], .agg sp.cs.toArray, .pointer (some ⟨q, 0, none⟩)] (by simp [Act.eval]) (fun vz wz => vz = .bool true ∧ LP w qe gs go S a b q wz c1 d1 c2 d2) ?_ ?_
      · refine (LP.step HL1.out HSp.out).mono ?_
        rintro e wz ⟨rfl, k1⟩
        exact ⟨_, rfl, rfl, k1⟩
      rintro vz wb ⟨rfl, k1⟩
      have HL2 := Keep.mk k1
      clear k1 HL1
      refine hK _ _ (⟨HL2.out.ba, (HL2.out.st.at_ u sp HSp.out).1⟩) fun hHa => ?_
      clear hK
      simp only [Act.put, List.setIfInBounds_toArray, List.set_cons_zero, List.set_cons_succ]
      refine wpAnyH_take (i := 7) (oi := ⟨some 20, Op.assign (Operand.tmp 107), 4, _, _, none⟩) (v := .bool true) rfl (by kernel_rfl) (by kernel_rfl) (by kernel_rfl) (fun _ _ _ h => h) (Or.inl ⟨by rfl, fun w hS => by go_simp⟩) hHa ?_
      simp only [Act.put, List.setIfInBounds_toArray, List.set_cons_zero, List.set_cons_succ]
      refine wpAnyH_done (by kernel_rfl) ?_ _
      refine hK26 _ _ ?_
      refine wp_seq_k fun K27 hK27 => ?_
      refine wp_region_list (WL.out ?_)
      refine WL.val (by kernel_rfl) (.bool true) (by go_simp) ?_
      simp only [Act.put, List.setIfInBounds_toArray, List.set_cons_zero, List.set_cons_succ]
      refine WL.val (by kernel_rfl) (.bool false) (by go_simp) ?_
      simp only [Act.put, List.setIfInBounds_toArray, List.set_cons_zero, List.set_cons_succ]
      refine WL.nil ?_
      refine hK27 _ _ ?_
      refine wp_cond_false rfl ?_
      refine wp_skip ?_
      refine hK22 _ _ ?_
      refine wp_region_list (WL.out ?_)
      refine WL.val (by kernel_rfl) (.int .i64 (u : Int)) (by go_simp) ?_
      simp only [Act.put, List.setIfInBounds_toArray, List.set_cons_zero, List.set_cons_succ]
      have hw6 : IntKind.i64.wrap ((u : Int) + 1) = ((u + 1 : Nat) : Int) := by rw [IntKind.wrap_i64]; have := HN.out; omega
      refine WL.val (by kernel_rfl) (.int .i64 ((u + 1 : Nat) : Int)) (by go_simp) ?_
      clear hw6
      simp only [Act.put, List.setIfInBounds_toArray, List.set_cons_zero, List.set_cons_succ]
      refine WL.val (by kernel_rfl) (.int .i64 ((u + 1 : Nat) : Int)) (by go_simp) ?_
      simp only [Act.put, List.setIfInBounds_toArray, List.set_cons_zero, List.set_cons_succ]
      refine WL.nil ?_
      refine ⟨⟨u + 1, fun zz => [.int .i64 (N : Int), .int .i64 k, .slice (some ⟨gs, go, none⟩) S.length gc, undef, undef, undef, fz 6, .bool true, .pointer (some ⟨p, 0, none⟩), .int .i64 0, .pointer (some ⟨x, 0, none⟩), .int .i64 0, .pointer none, .int .i64 1, .pointer none, .int .i64 1, .pointer (some ⟨a, 0, none⟩), .pointer (some ⟨b, 0, none⟩), .pointer (some ⟨q, 0, none⟩), .int .i64 ((u + 1 : Nat) : Int), .bool true, undef, undef, undef, undef, undef, undef, .bool true, .tuple #[.pointer (some ⟨p, 0, none⟩), .int .i64 0], .int .i64 (N : Int), .tuple #[.pointer (some ⟨p, 0, none⟩), .int .i64 0], .pointer (some ⟨p, 0, none⟩), .int .i64 0, .tuple #[.pointer (some ⟨x, 0, none⟩), .int .i64 0], .int .i64 (N : Int), .tuple #[.pointer (some ⟨x, 0, none⟩), .int .i64 0], .pointer (some ⟨x, 0, none⟩), .int .i64 0, .bool true, .bool false, .bool false, .int .i64 0, .int .i64 0, .bool false, .bool false, .bool false, .pointer (some ⟨p, 0, none⟩), .bool false, .pointer (some ⟨x, 0, none⟩), .bool false, .bool false, .bool false, .tuple #[.pointer none, .int .i64 1], .int .i64 k, .tuple #[.pointer none, .int .i64 1], .pointer none, .int .i64 1, .tuple #[.pointer none, .int .i64 1], .int .i64 k, .tuple #[.pointer none, .int .i64 1], .pointer none, .int .i64 1, .int .i64 1, .int .i64 1, .bool false, .bool false, .pointer none, .bool true, .pointer none, .bool true, .bool false, .bool false, .pointer (some ⟨x, 0, none⟩), .bool false, .pointer (some ⟨p, 0, none⟩), .pointer (some ⟨x, 0, none⟩), .agg #[.pointer (some ⟨p, 0, none⟩), .pointer (some ⟨x, 0, none⟩)], .pointer (some ⟨p, 0, none⟩), .pointer (some ⟨x, 0, none⟩), .agg #[.pointer (some ⟨p, 0, none⟩), .pointer (some ⟨x, 0, none⟩)], .pointer none, .bool false, undef, undef, undef, .agg #[.slice none 0 0, .slice none 0 0, .int .i64 0], .pointer (some ⟨q, 0, none⟩), .int .i64 (u : Int), .slice (some ⟨gs, go, none⟩) S.length gc, .int .i64 (S.length : Int), .bool true, .int .i64 (u : Int), .int .i64 ((u + 1 : Nat) : Int), .slice (some ⟨gs, go, none⟩) S.length gc, .int .i64 (u : Int), .pointer (some ⟨gs, go + u * 8, none⟩), .pointer (some ⟨gs, go + u * 8, none⟩), .int .i64 sp.kd, .bool false, fz 99, fz 100, .agg #[.pointer (some ⟨c1, 0, none⟩), .pointer (some ⟨d1, 0, none⟩)], .slice (some ⟨gs, go, none⟩) S.length gc, .int .i64 (u : Int), .pointer (some ⟨gs, go + u * 8, none⟩), .agg sp.cs.toArray, .pointer (some ⟨q, 0, none⟩), .bool true, .bool true, .bool false, undef, undef, undef, undef, undef, undef, undef, undef, undef, undef, undef, undef, undef, undef, undef, undef, undef, undef, undef, undef, undef, undef, undef, undef, undef, undef, undef, undef, undef, undef, undef].getD zz undef, c1, d1, c2, d2, rfl, ⟨by omega⟩, HL2⟩, ?_⟩
      simp only [intOf]
      show S.length - (((u + 1 : Nat) : Int)).toNat < S.length - ((u : Int)).toNat
      omega
  · have hcu_ : (¬ (u : Int) < (S.length : Int)) := by omega
    refine WL.val (by kernel_rfl) (.bool false) (by go_simp) ?_
    simp only [Act.put, List.setIfInBounds_toArray, List.set_cons_zero, List.set_cons_succ]
    refine WL.nil ?_
    refine hK21 _ _ ?_
    refine wp_cond_false rfl ?_
    refine wp_exit ?_
    refine hK18 _ _ ?_
    refine wp_seq_k fun K28 hK28 => ?_
    refine wp_region_list (WL.out ?_)
    refine WL.row (by kernel_rfl) 34 (.tmp 16) rfl a rfl 34 #[.pointer (some ⟨c1, 0, none⟩), .pointer (some ⟨d1, 0, none⟩)] _ HL.out.ba Tryd.underlying34 rfl (by kernel_rfl) ?_
    simp only [Act.put, List.setIfInBounds_toArray, List.set_cons_zero, List.set_cons_succ]
    refine WL.callF (by kernel_rfl) 11 _ _ rfl Tryd.in11 #[.agg #[.pointer (some ⟨c1, 0, none⟩), .pointer (some ⟨d1, 0, none⟩)]] (by simp [Act.eval]) ?_
    refine (HL.out.lens1).mono ?_
    rintro e wA ⟨rfl, hl_⟩
    refine ⟨_, rfl, ?_⟩
    have HA := Keep.mk hl_
    clear hl_ HL
    simp only [Act.put, List.setIfInBounds_toArray, List.set_cons_zero, List.set_cons_succ]
    refine WL.val (by kernel_rfl) (.bool true) (by go_simp) ?_
    simp only [Act.put, List.setIfInBounds_toArray, List.set_cons_zero, List.set_cons_succ]
    refine WL.nil ?_
    refine hK28 _ _ ?_
    refine wp_seq_k fun K29 hK29 => ?_
    refine wp_region_list (WL.out ?_)
    refine WL.row (by kernel_rfl) 34 (.tmp 17) rfl b rfl 34 #[.pointer (some ⟨c2, 0, none⟩), .pointer (some ⟨d2, 0, none⟩)] _ HA.out.bb Tryd.underlying34 rfl (by kernel_rfl) ?_
    simp only [Act.put, List.setIfInBounds_toArray, List.set_cons_zero, List.set_cons_succ]
    refine WL.callF (by kernel_rfl) 11 _ _ rfl Tryd.in11 #[.agg #[.pointer (some ⟨c2, 0, none⟩), .pointer (some ⟨d2, 0, none⟩)]] (by simp [Act.eval]) ?_
    refine (HA.out.lens2).mono ?_
    rintro e wB ⟨rfl, hl_⟩
    refine ⟨_, rfl, ?_⟩
    have HB := Keep.mk hl_
    clear hl_ HA
    simp only [Act.put, List.setIfInBounds_toArray, List.set_cons_zero, List.set_cons_succ]
    refine WL.val (by kernel_rfl) (.bool true) (by go_simp) ?_
    simp only [Act.put, List.setIfInBounds_toArray, List.set_cons_zero, List.set_cons_succ]
    refine WL.nil ?_
    refine hK29 _ _ ?_
    refine wp_seq_k fun K30 hK30 => ?_
    refine wp_region_list (WL.out ?_)
    refine WL.val (by kernel_rfl) (.pointer (some ⟨q, 0, none⟩)) (by go_simp) ?_
    simp only [Act.put, List.setIfInBounds_toArray, List.set_cons_zero, List.set_cons_succ]
    refine WL.callF (by kernel_rfl) 12 _ _ rfl Tryd.in12 #[.pointer (some ⟨q, 0, none⟩)] (by simp [Act.eval]) ?_
    refine (HB.out.hold).mono ?_
    rintro e wC ⟨rfl, hl_⟩
    refine ⟨_, rfl, ?_⟩
    have HC := Keep.mk hl_
    clear hl_ HB
    simp only [Act.put, List.setIfInBounds_toArray, List.set_cons_zero, List.set_cons_succ]
    refine WL.val (by kernel_rfl) (.bool true) (by go_simp) ?_
    simp only [Act.put, List.setIfInBounds_toArray, List.set_cons_zero, List.set_cons_succ]
    refine WL.nil ?_
    refine hK30 _ _ ?_
    refine wp_seq_k fun K31 hK31 => ?_
    refine wp_seq_k fun K32 hK32 => ?_
    refine wp_region_list (WL.out ?_)
    refine WL.val (by kernel_rfl) (.bool true) (by go_simp) ?_
    simp only [Act.put, List.setIfInBounds_toArray, List.set_cons_zero, List.set_cons_succ]
    refine WL.val (by kernel_rfl) (.bool false) (by go_simp) ?_
    simp only [Act.put, List.setIfInBounds_toArray, List.set_cons_zero, List.set_cons_succ]
    refine WL.val (by kernel_rfl) (.bool false) (by go_simp) ?_
    simp only [Act.put, List.setIfInBounds_toArray, List.set_cons_zero, List.set_cons_succ]
    refine WL.val (by kernel_rfl) (.bool true) (by go_simp) ?_
    simp only [Act.put, List.setIfInBounds_toArray, List.set_cons_zero, List.set_cons_succ]
    refine WL.val (by kernel_rfl) (.bool false) (by go_simp) ?_
    simp only [Act.put, List.setIfInBounds_toArray, List.set_cons_zero, List.set_cons_succ]
    refine WL.val (by kernel_rfl) (.bool false) (by go_simp) ?_
    simp only [Act.put, List.setIfInBounds_toArray, List.set_cons_zero, List.set_cons_succ]
    refine WL.val (by kernel_rfl) (.bool false) (by go_simp) ?_
    simp only [Act.put, List.setIfInBounds_toArray, List.set_cons_zero, List.set_cons_succ]
    refine WL.val (by kernel_rfl) (.bool true) (by go_simp) ?_
    simp only [Act.put, List.setIfInBounds_toArray, List.set_cons_zero, List.set_cons_succ]
    refine WL.val (by kernel_rfl) (.bool false) (by go_simp) ?_
    simp only [Act.put, List.setIfInBounds_toArray, List.set_cons_zero, List.set_cons_succ]
    refine WL.val (by kernel_rfl) (.bool false) (by go_simp) ?_
    simp only [Act.put, List.setIfInBounds_toArray, List.set_cons_zero, List.set_cons_succ]
    refine WL.nil ?_
    refine hK32 _ _ ?_
    refine wp_cond_false rfl ?_
    refine wp_skip ?_
    refine hK31 _ _ ?_
    refine wp_seq_k fun K33 hK33 => ?_
    refine wp_region_list (WL.out ?_)
    refine WL.row (by kernel_rfl) 34 (.tmp 16) rfl a rfl 34 #[.pointer (some ⟨c1, 0, none⟩), .pointer (some ⟨d1, 0, none⟩)] _ HC.out.ba Tryd.underlying34 rfl (by kernel_rfl) ?_
    simp only [Act.put, List.setIfInBounds_toArray, List.set_cons_zero, List.set_cons_succ]
    refine WL.val (by kernel_rfl) (.pointer (some ⟨q, 0, none⟩)) (by go_simp) ?_
    simp only [Act.put, List.setIfInBounds_toArray, List.set_cons_zero, List.set_cons_succ]
    refine WL.callF (by kernel_rfl) 13 _ _ rfl Tryd.in13 #[.agg #[.pointer (some ⟨c1, 0, none⟩), .pointer (some ⟨d1, 0, none⟩)], .pointer (some ⟨q, 0, none⟩)] (by simp [Act.eval]) ?_
    refine (HC.out.rest1).mono ?_
    rintro e wD ⟨rfl, hl_⟩
    refine ⟨_, rfl, ?_⟩
    have HD := Keep.mk hl_
    clear hl_ HC
    simp only [Act.put, List.setIfInBounds_toArray, List.set_cons_zero, List.set_cons_succ]
    refine WL.val (by kernel_rfl) (.bool true) (by go_simp) ?_
    simp only [Act.put, List.setIfInBounds_toArray, List.set_cons_zero, List.set_cons_succ]
    refine WL.nil ?_
    refine hK33 _ _ ?_
    refine wp_seq_k fun K34 hK34 => ?_
    refine wp_region_list (WL.out ?_)
    refine WL.row (by kernel_rfl) 34 (.tmp 17) rfl b rfl 34 #[.pointer (some ⟨c2, 0, none⟩), .pointer (some ⟨d2, 0, none⟩)] _ HD.out.bb Tryd.underlying34 rfl (by kernel_rfl) ?_
    simp only [Act.put, List.setIfInBounds_toArray, List.set_cons_zero, List.set_cons_succ]
    refine WL.val (by kernel_rfl) (.pointer (some ⟨q, 0, none⟩)) (by go_simp) ?_
    simp only [Act.put, List.setIfInBounds_toArray, List.set_cons_zero, List.set_cons_succ]
    refine WL.callF (by kernel_rfl) 13 _ _ rfl Tryd.in13 #[.agg #[.pointer (some ⟨c2, 0, none⟩), .pointer (some ⟨d2, 0, none⟩)], .pointer (some ⟨q, 0, none⟩)] (by simp [Act.eval]) ?_
    refine (HD.out.rest2).mono ?_
    rintro e wE ⟨rfl, hl_⟩
    refine ⟨_, rfl, ?_⟩
    have HE2 := Keep.mk hl_
    clear hl_ HD
    simp only [Act.put, List.setIfInBounds_toArray, List.set_cons_zero, List.set_cons_succ]
    refine WL.val (by kernel_rfl) (.bool true) (by go_simp) ?_
    simp only [Act.put, List.setIfInBounds_toArray, List.set_cons_zero, List.set_cons_succ]
    refine WL.nil ?_
    refine hK34 _ _ ?_
    refine wp_seq_k fun K35 hK35 => ?_
    refine wp_region_list (WL.out ?_)
    refine WL.val (by kernel_rfl) (.pointer (some ⟨q, 0, none⟩)) (by go_simp) ?_
    simp only [Act.put, List.setIfInBounds_toArray, List.set_cons_zero, List.set_cons_succ]
    refine WL.callF (by kernel_rfl) 14 _ _ rfl Tryd.in14 #[.pointer (some ⟨q, 0, none⟩)] (by simp [Act.eval]) ?_
    refine (HE2.out.apart).mono ?_
    rintro e wF ⟨rfl, hl_⟩
    refine ⟨_, rfl, ?_⟩
    have HF2 := Keep.mk hl_
    clear hl_ HE2
    simp only [Act.put, List.setIfInBounds_toArray, List.set_cons_zero, List.set_cons_succ]
    refine WL.val (by kernel_rfl) (.bool true) (by go_simp) ?_
    simp only [Act.put, List.setIfInBounds_toArray, List.set_cons_zero, List.set_cons_succ]
    refine WL.nil ?_
    refine hK35 _ _ ?_
    refine wp_seq_k fun K36 hK36 => ?_
    refine wp_region_list (WL.out ?_)
    refine WL.val (by kernel_rfl) (.bool true) (by go_simp) ?_
    simp only [Act.put, List.setIfInBounds_toArray, List.set_cons_zero, List.set_cons_succ]
    refine WL.val (by kernel_rfl) (.bool true) (by go_simp) ?_
    simp only [Act.put, List.setIfInBounds_toArray, List.set_cons_zero, List.set_cons_succ]
    refine WL.val (by kernel_rfl) (.bool true) (by go_simp) ?_
    simp only [Act.put, List.setIfInBounds_toArray, List.set_cons_zero, List.set_cons_succ]
    refine WL.val (by kernel_rfl) (.bool true) (by go_simp) ?_
    simp only [Act.put, List.setIfInBounds_toArray, List.set_cons_zero, List.set_cons_succ]
    refine WL.val (by kernel_rfl) (.bool true) (by go_simp) ?_
    simp only [Act.put, List.setIfInBounds_toArray, List.set_cons_zero, List.set_cons_succ]
    refine WL.val (by kernel_rfl) (.bool true) (by go_simp) ?_
    simp only [Act.put, List.setIfInBounds_toArray, List.set_cons_zero, List.set_cons_succ]
    refine WL.val (by kernel_rfl) (.bool true) (by go_simp) ?_
    simp only [Act.put, List.setIfInBounds_toArray, List.set_cons_zero, List.set_cons_succ]
    refine WL.val (by kernel_rfl) (.bool true) (by go_simp) ?_
    simp only [Act.put, List.setIfInBounds_toArray, List.set_cons_zero, List.set_cons_succ]
    refine WL.nil ?_
    refine hK36 _ _ ?_
    refine wp_ret ?_
    try simp only [Exit.inBlock, Exit.then]
    go_ret
    exact ⟨rfl, HF2.out⟩

theorem does_law (w : World) (qe : Addr) (hE : ErrI w qe) (n k : Int) (v : Value) (va : Option Addr) (gs go gc : Nat) (S : List Stp) (hv : v = .slice va S.length gc) (h1 : S ≠ [] → va = some ⟨gs, go, none⟩) (h2 : StpAt w (fun k => w.heap.size ≤ k) gs go S) (h3 : S.length ≤ 140737488355328) : Calls Tryd.prog 4 #[.int .i64 n, .int .i64 k, v] w fun e w' => e = .returned (.bool true) ∧ Below w.heap.size w w' := by
  subst hv
  by_cases hn : n < 1 ∨ 8 < n
  · by_cases hk : k < 1 ∨ 8 < k
    · exact mesh_bb w qe ⟨hE⟩ n k _ hn hk
    · obtain ⟨M, rfl⟩ : ∃ M : Nat, k = (M : Int) := ⟨k.toNat, by omega⟩
      exact mesh_bo w qe ⟨hE⟩ n M _ hn ⟨by omega, by omega⟩
  · obtain ⟨N, rfl⟩ : ∃ N : Nat, n = (N : Int) := ⟨n.toNat, by omega⟩
    by_cases hk : k < 1 ∨ 8 < k
    · exact mesh_gb w qe ⟨hE⟩ N k ⟨by omega, by omega⟩ hk va gs go gc S ⟨h1⟩ ⟨h2⟩ ⟨h3⟩
    · obtain ⟨M, rfl⟩ : ∃ M : Nat, k = (M : Int) := ⟨k.toNat, by omega⟩
      exact mesh_gg w qe ⟨hE⟩ N M ⟨by omega, by omega⟩ ⟨by omega, by omega⟩ va gs go gc S ⟨h1⟩ ⟨h2⟩ ⟨h3⟩

end Go.Proofs.YteecdcocgflklaaDoor
