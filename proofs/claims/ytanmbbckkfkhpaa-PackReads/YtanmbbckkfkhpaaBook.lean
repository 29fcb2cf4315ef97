import Derived.Test.YtanmbbckkfkhpaaTail
namespace Go.Proofs.Ytanmbbckkfkhpaa
open Go.RowKit

theorem Try.info36 : (Try.prog.info? 36).map (fun i => (i.zero, i.size, i.bytes)) = some (some (.slice none 0 0), 1, 24) := by kernel_rfl
/-- The slice v owns a row of lists. -/
def OwnV (w : World) (v : Value) (xs : List Value) : Prop := w.ownsRow 0 36 1 v xs.length xs
theorem ownV_nil (w : World) : OwnV w (.slice none 0 0) [] := ⟨rfl, .inl ⟨rfl, rfl⟩⟩
theorem OwnV.lt {w : World} {v : Value} {xs : List Value} (h : OwnV w v xs) : ∀ k, v.ownBlock = some k → k < w.heap.size := fun k hk => (World.ownsRow.lt h k hk).2
theorem OwnV.grown {w w' : World} {v : Value} {xs : List Value} {S : Nat → Prop} (h : OwnV w v xs) (hg : Grown w w' S) (hs : ∀ k, v.ownBlock = some k → ¬ S k) : OwnV w' v xs := by
  refine ⟨h.1, ?_⟩
  rcases h.2 with h1 | ⟨g, cap, cur, rfl, h2, h3, h4⟩
  · exact .inl h1
  · exact .inr ⟨g, cap, cur, rfl, h2, hg.blk h3 (hs g rfl), h4⟩
theorem OwnV.ne {w : World} {v : Value} {xs : List Value} {p : Nat} {T : TypeId} {cs : Array Value} (h : OwnV w v xs) (hp : Blk w p T cs) (hT : T ≠ 36) : v.ownBlock ≠ some p := by
  intro e
  rcases h.2 with ⟨rfl, _⟩ | ⟨g, cap, cur, rfl, _, h3, _⟩
  · simp [Value.ownBlock] at e
  · simp [Value.ownBlock] at e
    subst e
    exact hT (blk_type hp h3)
theorem OwnV.sl {w : World} {v : Value} {xs : List Value} (h : OwnV w v xs) : ∃ a c, v = .slice a xs.length c := by
  rcases h.2 with ⟨rfl, h0⟩ | ⟨g, cap, cur, rfl, _⟩
  · exact ⟨none, 0, by rw [h0]⟩
  · exact ⟨_, _, rfl⟩
theorem OwnV.at {w : World} {v : Value} {xs : List Value} (h : OwnV w v xs) (i : Nat) (hi : i < xs.length) : ∃ g c, v = .slice (some ⟨g, 0, none⟩) xs.length c ∧ w.cell? ⟨g, i, none⟩ = xs[i]? := by
  rcases h.2 with ⟨rfl, h0⟩ | ⟨g, cap, cur, rfl, _⟩
  · omega
  · exact ⟨g, cap, rfl, World.ownsRow.cellAt h i (by omega)⟩
/-- A list behind a row of lists. -/
theorem wpList_appV {ops : Array Oper} {rest : List Oper} {o : Oper} {a : Act} {w : World} {Q : Exit → Act → World → Prop} (hgd : o.guard = none) (s x : Operand)
    (ho : o.op = .call { callee := .builtin .append, args := #[s, x], argTypes := #[37, 37] }) (v u : Value) (xs : List Value) (g : Nat) (hu : u.oneCell' = true)
    (hs : a.eval s = v) (hx : a.eval x = .slice (some ⟨g, 0, none⟩) 1 1) (hown : OwnV w v xs) (hc : w.cell? ⟨g, 0, none⟩ = some u) (hb : xs.length + 1 ≤ 4398046511104)
    (h : ∀ v' w', OwnV w' v' (xs ++ [u]) → Moved w v v' → (Grown w w' fun k => v.ownBlock = some k) → wpList Try.prog ops Q rest (a.put o.dst v') w') : wpList Try.prog ops Q (o :: rest) a w := by
  obtain ⟨i, hi, hzz⟩ := Option.map_eq_some_iff.1 Try.info36
  simp only [Prod.mk.injEq] at hzz
  obtain ⟨hz, hsz, hby⟩ := hzz
  refine wpList_append_own_at w hgd s x 37 ho 0 36 i (.slice none 0 0) 1 24 Try.underlying37 hi hz hsz hby rfl (by omega) v xs.length xs hs hown ⟨g, 0, none⟩ 1 1 [u] hx rfl
    (fun j y hy => by
      cases j with
      | zero => simp at hy; subst hy; exact hc
      | succ j => simp at hy)
    (fun y hy => by simp at hy; subst hy; exact hu) (by unfold maxLen; omega) (by omega) (Nat.zero_le _) ?_
  intro v' w' h1 h2 _ h4
  refine h v' w' ?_ ?_ (Grown.of h2 fun k _ e => e)
  · unfold OwnV; rw [List.length_append]; exact h1
  · rcases h4 with h4 | h4
    · exact .inl h4
    · exact .inr ⟨_, h4, Nat.le_refl _⟩

theorem FullAt.grown {w w' : World} {v : Value} {m : Int} {S : Nat → Prop} (h : FullAt w v m) (hg : Grown w w' S) (hs : ∀ b, v.ownBlock = some b → ¬ S b) : FullAt w' v m := by
  obtain ⟨n, h1, h2⟩ := h
  exact ⟨n, h1.grown hg fun b hb _ => hs b hb, h2⟩

/-- The mark of a list's place. -/
def mark (i : Nat) : Int := 1 + ((i % 250 : Nat) : Int)
/-- The lists of a book: F has all their blocks. -/
structure BkL (w : World) (lv gv : Value) (N : Nat) (A B : Nat → Value) (F : Nat → Prop) : Prop where
  l : OwnV w lv ((List.range N).map A)
  g : OwnV w gv ((List.range N).map B)
  fa : ∀ i, i < N → FullAt w (A i) (mark i)
  fb : ∀ i, i < N → FullAt w (B i) (mark i)
  F1 : ∀ k, lv.ownBlock = some k → F k
  F2 : ∀ k, gv.ownBlock = some k → F k
  F3 : ∀ i, i < N → ∀ k, (A i).ownBlock = some k → F k
  F4 : ∀ i, i < N → ∀ k, (B i).ownBlock = some k → F k
  ne : ∀ k, lv.ownBlock = some k → gv.ownBlock ≠ some k
  ta : ∀ i, i < N → ∀ k, (A i).ownBlock = some k → Typ w k 5
  tb : ∀ i, i < N → ∀ k, (B i).ownBlock = some k → Typ w k 5
theorem BkL.grown {w w' : World} {lv gv : Value} {N : Nat} {A B : Nat → Value} {F S : Nat → Prop} (h : BkL w lv gv N A B F) (hg : Grown w w' S) (hs : ∀ k, F k → ¬ S k) : BkL w' lv gv N A B F where
  l := h.l.grown hg fun k hk => hs k (h.F1 k hk)
  g := h.g.grown hg fun k hk => hs k (h.F2 k hk)
  fa i hi := (h.fa i hi).grown hg fun k hk => hs k (h.F3 i hi k hk)
  fb i hi := (h.fb i hi).grown hg fun k hk => hs k (h.F4 i hi k hk)
  F1 := h.F1
  F2 := h.F2
  F3 := h.F3
  F4 := h.F4
  ne := h.ne
  ta i hi k hk := hg.typ (h.ta i hi k hk) (hs k (h.F3 i hi k hk))
  tb i hi k hk := hg.typ (h.tb i hi k hk) (hs k (h.F4 i hi k hk))
theorem BkL.nil (w : World) (A B : Nat → Value) (F : Nat → Prop) : BkL w (.slice none 0 0) (.slice none 0 0) 0 A B F where
  l := ownV_nil w
  g := ownV_nil w
  fa i hi := by omega
  fb i hi := by omega
  F1 k hk := by simp [Value.ownBlock] at hk
  F2 k hk := by simp [Value.ownBlock] at hk
  F3 i hi := by omega
  F4 i hi := by omega
  ne k hk := by simp [Value.ownBlock] at hk
  ta i hi := by omega
  tb i hi := by omega

/-- The cells around a book. -/
structure Box (off : Nat) (kx : Value → Value → Int → Array Value) : Prop where
  g0 : ∀ a b n, (kx a b n)[off]? = some a
  g1 : ∀ a b n, (kx a b n)[off + 1]? = some b
  g2 : ∀ a b n, (kx a b n)[off + 2]? = some (.int .i64 n)
  g3 : ∀ a b n, (kx a b n)[off + 3]? = some (.bool false)
  s0 : ∀ a b n x, (kx a b n).setIfInBounds off x = kx x b n
  s1 : ∀ a b n x, (kx a b n).setIfInBounds (off + 1) x = kx a x n
  s2 : ∀ a b n x, (kx a b n).setIfInBounds (off + 2) (.int .i64 x) = kx a b x
  s3 : ∀ a b n, (kx a b n).setIfInBounds (off + 3) (.bool false) = kx a b n

set_option maxHeartbeats 1000000 in
theorem stays_any (kb off T : Nat) (kx : Value → Value → Int → Array Value) (hx : Box off kx) (lv gv : Value) (N : Nat) (A B : Nat → Value) (n : Int) (F : Nat → Prop) (w : World) (hk : Blk w kb T (kx lv gv n)) (h : BkL w lv gv N A B F) (hN : N ≤ 20000) :
    Calls Try.prog 18 #[.pointer (some ⟨kb, off, none⟩)] w fun e w' => e = .returned (.bool true) ∧ w' = w := by
  have HL := Keep.mk h
  obtain ⟨la, lc, e1⟩ := h.l.sl
  obtain ⟨ga, gc, e2⟩ := h.g.sl
  simp only [List.length_map, List.length_range] at e1 e2
  subst e1 e2
  have c0 : w.cell? ⟨kb, off, none⟩ = some (.slice la N lc) := by rw [hk.cell, hx.g0]
  have c1 : w.cell? ⟨kb, off + 1, none⟩ = some (.slice ga N gc) := by rw [hk.cell, hx.g1]
  have c3 : w.cell? ⟨kb, off + 3, none⟩ = some (.bool false) := by rw [hk.cell, hx.g3]
  have hN' : (N : Int) ≤ 20000 := by omega
  clear h hk hN
  go_enter Try.func18, Try.ntmps18
  go_wp2
  go_loop [3] (fun i => ∃ t : Nat, t ≤ N ∧ i = .int .i64 t) (fun i => N - (intOf i).toNat)
  case atStart => exact ⟨0, by omega, rfl⟩
  case round =>
    obtain ⟨t, ht, rfl⟩ := hrel
    by_cases hlt : t < N
    · have hlt' : (t : Int) < (N : Int) := by omega
      obtain ⟨lb, lc', e1, d1⟩ := HL.out.l.at t (by simpa using hlt)
      obtain ⟨gb, gc', e2, d2⟩ := HL.out.g.at t (by simpa using hlt)
      simp only [List.length_map, List.length_range] at e1 e2
      injection e1 with e1 _ _
      injection e2 with e2 _ _
      subst e1 e2
      have d1' : w.cell? ⟨lb, t, none⟩ = some (A t) := by rw [d1]; simp [hlt]
      have d2' : w.cell? ⟨gb, t, none⟩ = some (B t) := by rw [d2]; simp [hlt]
      have FA := Keep.mk (HL.out.fa t hlt)
      have FB := Keep.mk (HL.out.fb t hlt)
      have hm : 1 + (t : Int) % 250 = mark t := by unfold mark; omega
      have hm1 : 0 ≤ mark t := by unfold mark; omega
      have hm2 : mark t < 256 := by unfold mark; omega
      obtain ⟨mm, hmm⟩ : ∃ mm, Keep (mm = mark t) := ⟨_, ⟨rfl⟩⟩
      rw [← hmm.out] at FA FB hm hm1 hm2
      clear d1 d2
      go_wp2_with fail
      refine (full_any (A t) mm _ FA.out).mono ?_
      rintro e w' ⟨rfl, rfl⟩
      go_wp2_with fail
      refine (full_any (B t) mm _ FB.out).mono ?_
      rintro e w' ⟨rfl, rfl⟩
      go_wp2
      refine ⟨⟨t + 1, by omega, by go_num⟩, by simp only [intOf]; omega⟩
    · obtain rfl : t = N := by omega
      have hlt' : ¬ ((t : Int) < (t : Int)) := by omega
      go_wp2
      go_ret
      exact ⟨rfl, rfl⟩
end Go.Proofs.Ytanmbbckkfkhpaa
