import Derived.Test.YtkjjlfpghhefcabB05
import Derived.Test.YtkjjlfpghhefcabB02
namespace Go.Proofs.Ytkjjlfpghhefcab
open Go.RowKit
set_option linter.unusedSimpArgs false
set_option linter.unusedVariables false

/-! ### Forms: there, and back. -/
theorem drop_next {L e r : List Int} {a : Nat} (h : L.drop a = e ++ r) : L.drop (a + e.length) = r := by
  rw [← List.drop_drop, h, List.drop_left]
/-- A proper beginning of two rows: of the first alone, or all of it and a beginning of the second. -/
theorem pre_split {D more A B : List Int} (h : D ++ more = A ++ B) : (∃ s, s ≠ [] ∧ D ++ s = A) ∨ (∃ E, D = A ++ E ∧ E ++ more = B) := by
  rcases List.append_eq_append_iff.1 h with ⟨s, h1, h2⟩ | ⟨E, h1, h2⟩
  · by_cases hs : s = []
    · subst hs
      exact .inr ⟨[], by rw [List.append_nil]; simpa using h1.symm, by simpa using h2⟩
    · exact .inl ⟨s, hs, h1.symm⟩
  · exact .inr ⟨E, h1, h2.symm⟩
theorem fst_num (X : Nat) (hX : X < 18446744073709551616) (rest : List Int) (most : Int) (h : (X : Int) ≤ most) : fstM (numL X ++ rest) most = ((X : Int), ((numL X).length : Int), 0) := by
  unfold fstM
  rw [fstG_numL X hX rest, if_neg]
  rintro ⟨_, h2⟩
  simp only at h2
  omega
theorem fst_form (D : List Int) (most : Int) (hB : Byts D) (h : (fstM D most).2.2 = 0) : ∃ x : Nat, x < 18446744073709551616 ∧ (x : Int) ≤ most ∧ (fstM D most).1 = x ∧ (fstM D most).2.1 = ((numL x).length : Int) ∧ ∃ r, D = numL x ++ r := by
  have hle := fstM_le D most hB h
  have h2 : fstM D most = fstG D 0 0 := by
    unfold fstM at h ⊢
    split at h
    · simp at h
    · rename_i hn; rw [if_neg hn]
  rw [h2] at h hle ⊢
  obtain ⟨x, h3, h4, h5, r, h6⟩ := fstG_form D _ _ hB (Prod.ext rfl (Prod.ext rfl h))
  exact ⟨x, h4, by rw [← h3]; exact hle.2, h3, h5, r, h6⟩
theorem fstG_short (f : Nat) : ∀ (i x : Nat) (y : Int) (D m : List Int), i + f = 9 → D ++ m = numF f x → m ≠ [] → fstG D i y = (0, 0, 20) := by
  induction f with
  | zero =>
    intro i x y D m _ h hm
    cases D with
    | nil => rfl
    | cons c D =>
      rw [numF, List.cons_append] at h
      injection h with h1 h2
      exact absurd (List.append_eq_nil_iff.1 h2).2 hm
  | succ f ih =>
    intro i x y D m hi h hm
    cases D with
    | nil => rfl
    | cons c D =>
      rw [numF] at h
      by_cases hx : x < 128
      · rw [if_pos hx, List.cons_append] at h
        injection h with h1 h2
        exact absurd (List.append_eq_nil_iff.1 h2).2 hm
      · rw [if_neg hx, List.cons_append] at h
        injection h with h1 h2
        rw [fstG, if_neg (by omega), if_neg (by rintro ⟨h3, _⟩; omega), if_neg (by omega)]
        exact ih (i + 1) (x / 128) _ D m (by omega) h2 hm
theorem fst_short (X : Nat) (D m : List Int) (most : Int) (h : D ++ m = numL X) (hm : m ≠ []) : fstM D most = (0, 0, 20) := by
  unfold fstM
  rw [fstG_short 9 0 X 0 D m rfl h hm, if_neg (by simp)]
theorem next_app (l rest : List Int) : nextW (l ++ rest) (l.length : Int) = 0 ∧ nextN (l ++ rest) (l.length : Int) = l.length := by
  have h : nextW (l ++ rest) (l.length : Int) = 0 := by unfold nextW; rw [if_neg (by omega), if_neg (by rw [List.length_append]; omega)]
  exact ⟨h, by rw [(nextN_0 _ _ h).1, Int.toNat_natCast]⟩
theorem next_short (D m l : List Int) (h : D ++ m = l) (hm : m ≠ []) : nextW D (l.length : Int) = 20 := by
  have : 0 < m.length := List.length_pos_iff.2 hm
  unfold nextW; rw [if_neg (by omega), if_pos (by rw [← h, List.length_append]; omega)]
theorem byt_form (m rest : List Int) (mm : Int) (h : (m.length : Int) ≤ mm) (hl : m.length < 18446744073709551616) : byt (bform m ++ rest) mm = (0, (bform m).length, m) := by
  have hf := fst_num m.length hl (m ++ rest) mm h
  rw [byt_eq, bform, List.append_assoc, hf]
  simp only [if_true, Int.toNat_natCast]
  rw [List.drop_left, (next_app m rest).1, (next_app m rest).2, List.take_left]
  simp
theorem byt_back (D : List Int) (mm : Int) (hB : Byts D) (h : (byt D mm).1 = 0) : ((byt D mm).2.2.length : Int) ≤ mm ∧ (byt D mm).2.1 = (bform (byt D mm).2.2).length ∧ ∃ r, D = bform (byt D mm).2.2 ++ r := by
  rw [byt_eq] at h ⊢
  by_cases h0 : (fstM D mm).2.2 = 0
  · rw [if_pos h0] at h ⊢
    obtain ⟨x, h1, h2, h3, h4, r, h5⟩ := fst_form D mm hB h0
    simp only at h ⊢
    rw [h3, h4, Int.toNat_natCast] at h ⊢
    have hd : D.drop (numL x).length = r := by rw [h5, List.drop_left]
    rw [hd] at h ⊢
    have hN := nextN_0 _ _ h
    rw [hN.1, Int.toNat_natCast]
    have hlx : (r.take x).length = x := by rw [List.length_take]; have := hN.2.2; rw [Int.toNat_natCast] at this; omega
    refine ⟨by rw [hlx]; exact h2, by rw [bform, hlx, List.length_append, hlx], r.drop x, ?_⟩
    rw [bform, hlx, List.append_assoc, List.take_append_drop, ← h5]
  · rw [if_neg h0] at h; exact absurd h h0
theorem byt_short (D more m : List Int) (mm : Int) (h : (m.length : Int) ≤ mm) (hl : m.length < 18446744073709551616) (hD : D ++ more = bform m) (hm : more ≠ []) : (byt D mm).1 = 20 ∧ (byt D mm).2.1 ≤ D.length := by
  rw [byt_eq]
  rcases pre_split (A := numL m.length) (B := m) hD with ⟨s, h1, h2⟩ | ⟨E, h1, h2⟩
  · rw [fst_short m.length D s mm h2 h1]; simp
  · subst h1
    rw [fst_num m.length hl E mm h]
    simp only [if_true, Int.toNat_natCast]
    rw [List.drop_left, next_short E more m h2 hm, nextN_1 _ _ (by rw [next_short E more m h2 hm]; decide)]
    refine ⟨rfl, ?_⟩
    rw [List.length_append]; omega
theorem zag_zig (x : Int) : zag (zig x) = x := by
  unfold zag zig
  by_cases h : 0 ≤ x
  · rw [if_pos h, if_neg (by omega)]; omega
  · rw [if_neg h, if_pos (by omega)]; omega
theorem zig_zag (x : Nat) : zig (zag (x : Int)) = x := by
  unfold zig zag
  by_cases h : (x : Int) % 2 = 1
  · rw [if_pos h, if_neg (by omega)]; omega
  · rw [if_neg h, if_pos (by omega)]; omega
/-- One field of y laid over x. -/
def setF (i : Nat) (y x : OpV) : OpV := if i = 0 then { x with key := y.key } else if i = 1 then { x with text := y.text } else if i = 2 then { x with n := y.n } else { x with node := y.node, op := y.op }
/-- What is asked of an operation for one of its fields. -/
structure MayF (ah : List OpV) (i : Nat) (y x : OpV) : Prop where
  key : i = 0 → y.key.size ≤ 65536
  text : i = 1 → y.text.size ≤ 65536
  n : i = 2 → -9223372036854775808 ≤ y.n ∧ y.n ≤ 9223372036854775807
  at_ : 3 ≤ i → mayAt ah y = true ∧ y.node.length = 32 ∧ 0 ≤ y.op ∧ y.op ≤ 1024 ∧ y.kind = x.kind ∧ y.key = x.key ∧ (y.op = 0 → y.node = x.node)
theorem mayAt_congr (ah : List OpV) {x y : OpV} (h1 : x.kind = y.kind) (h2 : x.key = y.key) (h3 : x.node = y.node) (h4 : x.op = y.op) : mayAt ah x = mayAt ah y := by
  unfold mayAt; rw [h1, h2, h3, h4]
theorem getF_there {L : List Int} {ah : List OpV} {i : Nat} {y x : OpV} {a : Nat} {r : List Int} (hi : i < 4) (hm : MayF ah i y x) (h : L.drop a = putF i y ++ r) : getF L ah i x a = (0, a + (putF i y).length, setF i y x) := by
  have hc : i = 0 ∨ i = 1 ∨ i = 2 ∨ i = 3 := by omega
  rcases hc with rfl | rfl | rfl | rfl
  · have hk := hm.key rfl
    have hb := byt_form (lst y.key) r 65536 (by rw [lst_len]; omega) (by rw [lst_len]; omega)
    show ((byt (L.drop a) 65536).1, a + (byt (L.drop a) 65536).2.1, _) = _
    rw [h, show putF 0 y = bform (lst y.key) from rfl, hb]
    simp only
    rw [nums_lst]; rfl
  · have hk := hm.text rfl
    have hb := byt_form (lst y.text) r 65536 (by rw [lst_len]; omega) (by rw [lst_len]; omega)
    show ((byt (L.drop a) 65536).1, a + (byt (L.drop a) 65536).2.1, _) = _
    rw [h, show putF 1 y = bform (lst y.text) from rfl, hb]
    simp only
    rw [nums_lst]; rfl
  · have hn := hm.n rfl
    have hz := zig_lt y.n hn.1 hn.2
    have hb := fst_num (zig y.n) hz r 18446744073709551615 (by omega)
    show ((fstM (L.drop a) 18446744073709551615).2.2, a + (fstM (L.drop a) 18446744073709551615).2.1.toNat, _) = _
    rw [h, show putF 2 y = numL (zig y.n) from rfl, hb]
    simp only [if_true, Int.toNat_natCast]
    rw [zag_zig]; rfl
  · obtain ⟨h1, h2, h3, h4, h5, h6, h7⟩ := hm.at_ (by omega)
    show getA L ah x a = _
    have hp : putF 3 y = numL y.op.toNat ++ (if y.op = 0 then [] else hl 32 (hof y.node)) := rfl
    rw [hp, List.append_assoc] at h
    have hb := fst_num y.op.toNat (by omega) ((if y.op = 0 then [] else hl 32 (hof y.node)) ++ r) 1024 (by omega)
    unfold getA
    rw [h, hb]
    simp only [Int.toNat_natCast]
    rw [if_neg (by simp)]
    by_cases h0 : y.op = 0
    · rw [if_pos (by omega), mayAt_congr ah (x := { x with op := 0 }) (y := y) h5.symm h6.symm (h7 h0).symm h0.symm, h1, if_pos rfl]
      rw [hp, if_pos h0, List.append_nil]
      simp only [setF, Prod.mk.injEq, true_and]
      simp [h0, h7 h0]
    · rw [if_neg (by omega)]
      have hd := drop_next h
      rw [if_neg h0, hl_hof _ h2] at hd
      rw [hd]
      have hn := next_app y.node r
      rw [h2] at hn
      rw [show (32 : Int) = ((32 : Nat) : Int) from rfl, hn.1, if_neg (by simp)]
      have ht : (y.node ++ r).take 32 = y.node := List.take_left' h2
      rw [ht, mayAt_congr ah (x := { x with op := ((y.op.toNat : Nat) : Int), node := y.node }) (y := y) h5.symm h6.symm rfl (by show ((y.op.toNat : Nat) : Int) = y.op; omega), h1, if_pos rfl]
      rw [hp, if_neg h0, hl_hof _ h2, List.length_append, h2, Nat.add_assoc]
      simp only [setF, Prod.mk.injEq, true_and]
      simp only [show ¬ (3 : Nat) = 0 by decide, show ¬ (3 : Nat) = 1 by decide, show ¬ (3 : Nat) = 2 by decide, if_false]
      rw [show ((y.op.toNat : Nat) : Int) = y.op by omega]
theorem getF_short {L : List Int} {ah : List OpV} {i : Nat} {y x : OpV} {a : Nat} {m : List Int} (hi : i < 4) (hm : MayF ah i y x) (h : L.drop a ++ m = putF i y) (hne : m ≠ []) (ha : a ≤ L.length) : (getF L ah i x a).1 = 20 ∧ (getF L ah i x a).2.1 ≤ L.length := by
  have hdl : (L.drop a).length = L.length - a := List.length_drop
  have hc : i = 0 ∨ i = 1 ∨ i = 2 ∨ i = 3 := by omega
  rcases hc with rfl | rfl | rfl | rfl
  · have hk := hm.key rfl
    have hb := byt_short (L.drop a) m (lst y.key) 65536 (by rw [lst_len]; omega) (by rw [lst_len]; omega) h hne
    exact ⟨hb.1, by show a + (byt (L.drop a) 65536).2.1 ≤ _; have := hb.2; omega⟩
  · have hk := hm.text rfl
    have hb := byt_short (L.drop a) m (lst y.text) 65536 (by rw [lst_len]; omega) (by rw [lst_len]; omega) h hne
    exact ⟨hb.1, by show a + (byt (L.drop a) 65536).2.1 ≤ _; have := hb.2; omega⟩
  · have hb := fst_short (zig y.n) (L.drop a) m 18446744073709551615 h hne
    show (fstM (L.drop a) 18446744073709551615).2.2 = 20 ∧ a + (fstM (L.drop a) 18446744073709551615).2.1.toNat ≤ _
    rw [hb]; exact ⟨rfl, by simpa using ha⟩
  · obtain ⟨h1, h2, h3, h4, h5, h6, h7⟩ := hm.at_ (by omega)
    show (getA L ah x a).1 = 20 ∧ (getA L ah x a).2.1 ≤ _
    rcases pre_split (A := numL y.op.toNat) (B := if y.op = 0 then [] else hl 32 (hof y.node)) h with ⟨s, h8, h9⟩ | ⟨E, h8, h9⟩
    · have hb := fst_short y.op.toNat (L.drop a) s 1024 h9 h8
      unfold getA
      rw [hb, if_pos (by simp)]
      exact ⟨rfl, by simpa using ha⟩
    · by_cases h0 : y.op = 0
      · rw [if_pos h0] at h9
        exact absurd (List.append_eq_nil_iff.1 h9).2 hne
      rw [if_neg h0, hl_hof _ h2] at h9
      have hb := fst_num y.op.toNat (by omega) E 1024 (by omega)
      have hd := drop_next h8
      have hs := next_short E m y.node h9 hne
      rw [h2] at hs
      have hs' : nextW E 32 = 20 := hs
      unfold getA
      rw [h8, hb]
      simp only [Int.toNat_natCast]
      rw [if_neg (by simp), if_neg (by omega), hd, hs', nextN_1 _ _ (by rw [hs']; decide), if_pos (by decide)]
      refine ⟨rfl, ?_⟩
      simp only [Nat.add_zero]
      rw [h8, List.length_append] at hdl
      omega
/-- What is asked for all of its fields. -/
def MayFs (ah : List OpV) (y : OpV) : List Nat → OpV → Prop
  | [], _ => True
  | i :: is, x => i < 4 ∧ MayF ah i y x ∧ MayFs ah y is (setF i y x)
def fillF (y : OpV) (is : List Nat) (x : OpV) : OpV := is.foldl (fun x i => setF i y x) x
theorem getFs_there {L : List Int} {ah : List OpV} {y : OpV} : ∀ (is : List Nat) (x : OpV) (a : Nat) (r : List Int), MayFs ah y is x → L.drop a = (is.flatMap fun i => putF i y) ++ r → getFs L ah is x a = (0, a + (is.flatMap fun i => putF i y).length, fillF y is x)
  | [], x, a, r, _, _ => by simp [getFs, fillF]
  | i :: is, x, a, r, ⟨h1, h2, h3⟩, h => by
    rw [List.flatMap_cons, List.append_assoc] at h
    rw [getFs, getF_there h1 h2 h]
    simp only [if_true]
    rw [getFs_there is (setF i y x) _ r h3 (drop_next h), List.flatMap_cons, List.length_append, Nat.add_assoc]
    rfl
theorem getFs_short {L : List Int} {ah : List OpV} {y : OpV} {m : List Int} (hne : m ≠ []) : ∀ (is : List Nat) (x : OpV) (a : Nat), MayFs ah y is x → a ≤ L.length → L.drop a ++ m = (is.flatMap fun i => putF i y) → (getFs L ah is x a).1 = 20 ∧ (getFs L ah is x a).2.1 ≤ L.length
  | [], x, a, _, _, h => by
    simp only [List.flatMap_nil] at h
    exact absurd (List.append_eq_nil_iff.1 h).2 hne
  | i :: is, x, a, ⟨h1, h2, h3⟩, ha, h => by
    rw [List.flatMap_cons] at h
    rcases pre_split h with ⟨s, h4, h5⟩ | ⟨E, h4, h5⟩
    · have hs := getF_short h1 h2 h5 h4 ha
      rw [getFs, if_neg (by rw [hs.1]; decide)]
      exact hs
    · rw [getFs, getF_there h1 h2 h4]
      simp only [if_true]
      have hl := congrArg List.length h4
      rw [List.length_drop, List.length_append] at hl
      refine getFs_short hne is (setF i y x) _ h3 (by
        have := List.length_drop (i := a) (l := L); omega) (by rw [drop_next h4]; exact h5)
theorem next_one (c : Int) (D : List Int) : nextW (c :: D) 1 = 0 := by unfold nextW; rw [if_neg (by decide), if_neg (by rw [List.length_cons]; omega)]
theorem str_nil : ({ data := #[] } : ByteArray) = ByteArray.empty := rfl
theorem mayFs_of {ah : List OpV} {y : OpV} (hy : OpOk y) (hal : ah.length ≤ 1024) (h : wrongV ah y = 0) : MayFs ah y (hasI y.kind) { zeroOp with kind := y.kind } ∧ fillF y (hasI y.kind) { zeroOp with kind := y.kind } = y := by
  obtain ⟨h1, h2, h3, h4, h5⟩ := wrongV_ok h
  have hk := hasI_mem h1
  have hn := And.intro hy.n1 hy.n2
  obtain ⟨kind, key, text, n, node, op⟩ := y
  have hnode : node.length = 32 := hy.node
  simp only at h1 h2 h3 h4 h5 hk hn
  simp only [List.mem_cons, List.not_mem_nil, or_false] at hk
  have m0 : ∀ x, MayF ah 0 ⟨kind, key, text, n, node, op⟩ x := fun x => ⟨fun _ => h2, fun h => absurd h (by decide), fun h => absurd h (by decide), fun h => absurd h (by decide)⟩
  have m1 : ∀ x, MayF ah 1 ⟨kind, key, text, n, node, op⟩ x := fun x => ⟨fun h => absurd h (by decide), fun _ => h3, fun h => absurd h (by decide), fun h => absurd h (by decide)⟩
  have m2 : ∀ x, MayF ah 2 ⟨kind, key, text, n, node, op⟩ x := fun x => ⟨fun h => absurd h (by decide), fun h => absurd h (by decide), fun _ => hn, fun h => absurd h (by decide)⟩
  have hz : ∀ is, hasI kind = is → wipes is ⟨0, key, text, n, node, op⟩ = zeroOp := fun is e => by
    rw [← e]
    refine (sm_iff ?_ z32_len).1 h4
    rcases hk with rfl | rfl | rfl | rfl | rfl | rfl | rfl | rfl | rfl <;> first | exact hnode | exact z32_len
  have m3 : cellV kind = 4 → ∀ x : OpV, kind = x.kind → key = x.key → z32 = x.node → MayF ah 3 ⟨kind, key, text, n, node, op⟩ x := by
    intro hc x e1 e2 e3
    refine ⟨fun h => absurd h (by decide), fun h => absurd h (by decide), fun h => absurd h (by decide), fun _ => ?_⟩
    have hop := mayAt_op hal (h5 hc)
    refine ⟨h5 hc, hnode, hop.1, hop.2, e1, e2, fun h0 => ?_⟩
    rw [← e3]
    have hmm := h5 hc
    unfold mayAt at hmm
    simp only at hmm h0
    subst h0
    by_cases hnd : nd node z32 = true
    · rw [nd_eq hnode z32_len] at hnd; simpa using hnd
    · rw [if_neg (by simp [hnd]), if_pos (by simpa using hnd)] at hmm
      simp at hmm
  rcases hk with rfl | rfl | rfl | rfl | rfl | rfl | rfl | rfl | rfl
  · have e := hz [0, 1] rfl
    simp only [wipes, wipe, List.foldl, zeroOp] at e
    refine ⟨⟨by decide, m0 _, by decide, m1 _, trivial⟩, ?_⟩
    simp_all [fillF, setF, zeroOp, hasI]
  · have e := hz [0] rfl
    simp only [wipes, wipe, List.foldl, zeroOp] at e
    refine ⟨⟨by decide, m0 _, trivial⟩, ?_⟩
    simp_all [fillF, setF, zeroOp, hasI]
  · have e := hz [0, 1] rfl
    simp only [wipes, wipe, List.foldl, zeroOp] at e
    refine ⟨⟨by decide, m0 _, by decide, m1 _, trivial⟩, ?_⟩
    simp_all [fillF, setF, zeroOp, hasI]
  · have e := hz [0, 1] rfl
    simp only [wipes, wipe, List.foldl, zeroOp] at e
    refine ⟨⟨by decide, m0 _, by decide, m1 _, trivial⟩, ?_⟩
    simp_all [fillF, setF, zeroOp, hasI]
  · have e := hz [0] rfl
    simp only [wipes, wipe, List.foldl, zeroOp] at e
    refine ⟨⟨by decide, m0 _, trivial⟩, ?_⟩
    simp_all [fillF, setF, zeroOp, hasI]
  · have e := hz [0, 2] rfl
    simp only [wipes, wipe, List.foldl, zeroOp] at e
    refine ⟨⟨by decide, m0 _, by decide, m2 _, trivial⟩, ?_⟩
    simp_all [fillF, setF, zeroOp, hasI]
  · have e := hz [0] rfl
    simp only [wipes, wipe, List.foldl, zeroOp] at e
    refine ⟨⟨by decide, m0 _, trivial⟩, ?_⟩
    simp_all [fillF, setF, zeroOp, hasI]
  · have e := hz [0, 1, 3] rfl
    simp only [wipes, wipe, List.foldl, zeroOp] at e
    refine ⟨⟨by decide, m0 _, by decide, m1 _, by decide, m3 rfl _ rfl rfl rfl, trivial⟩, ?_⟩
    simp_all [fillF, setF, zeroOp, hasI]
  · have e := hz [0, 3] rfl
    simp only [wipes, wipe, List.foldl, zeroOp] at e
    refine ⟨⟨by decide, m0 _, by decide, m3 rfl _ rfl rfl rfl, trivial⟩, ?_⟩
    simp_all [fillF, setF, zeroOp, hasI]
theorem getO_there {L : List Int} {ah : List OpV} {y : OpV} {a : Nat} {r : List Int} (hy : OpOk y) (hal : ah.length ≤ 1024) (hw : wrongV ah y = 0) (h : L.drop a = oneF y ++ r) : getO L ah a = (0, a + (oneF y).length, y) := by
  obtain ⟨h1, h2⟩ := mayFs_of hy hal hw
  have hk := (wrongV_ok hw).1
  have hcons : L.drop a = y.kind :: ((hasI y.kind).flatMap (fun i => putF i y) ++ r) := by rw [h]; rfl
  have hd : L.drop (a + 1) = (hasI y.kind).flatMap (fun i => putF i y) ++ r := by rw [← List.drop_drop, hcons]; rfl
  unfold getO
  rw [hcons, next_one]
  rw [if_neg (by decide)]
  simp only [List.getD_cons_zero]
  rw [if_neg hk, getFs_there _ _ _ r h1 hd, h2]
  simp only [oneF, List.length_cons, Prod.mk.injEq, true_and, and_true]
  omega
theorem getO_short {L : List Int} {ah : List OpV} {y : OpV} {a : Nat} {m : List Int} (hy : OpOk y) (hal : ah.length ≤ 1024) (hw : wrongV ah y = 0) (ha : a ≤ L.length) (hne : m ≠ []) (h : L.drop a ++ m = oneF y) : (getO L ah a).1 = 20 ∧ (getO L ah a).2.1 ≤ L.length := by
  obtain ⟨h1, h2⟩ := mayFs_of hy hal hw
  have hk := (wrongV_ok hw).1
  cases hD : L.drop a with
  | nil =>
    unfold getO
    rw [hD, show nextW ([] : List Int) 1 = 20 from rfl, show nextN ([] : List Int) 1 = 0 from rfl]
    exact ⟨rfl, ha⟩
  | cons c D =>
    rw [hD, oneF, List.cons_append] at h
    injection h with h3 h4
    have hd : L.drop (a + 1) = D := by rw [← List.drop_drop, hD]; rfl
    have hl := congrArg List.length hD
    rw [List.length_drop, List.length_cons] at hl
    unfold getO
    rw [hD, next_one, if_neg (by decide)]
    simp only [List.getD_cons_zero]
    rw [h3, if_neg hk]
    exact getFs_short hne _ _ _ h1 (by omega) (by rw [hd]; exact h4)
theorem getN_there {L : List Int} : ∀ (ys l : List OpV) (a : Nat) (r : List Int), (∀ y ∈ ys, OpOk y) → l.length + ys.length ≤ 1024 → (chkF l ys).1 = 0 → L.drop a = ys.flatMap oneF ++ r → getN L ys.length l a = (0, a + (ys.flatMap oneF).length, l ++ ys)
  | [], l, a, r, _, _, _, _ => by simp [getN]
  | y :: ys, l, a, r, hok, hl, hc, h => by
    rw [List.flatMap_cons, List.append_assoc] at h
    rw [chkF] at hc
    by_cases hw : wrongV l y = 0
    · rw [if_pos hw] at hc
      simp only [List.length_cons] at hl ⊢
      rw [getN, getO_there (hok y (by simp)) (by omega) hw h]
      simp only [if_true]
      rw [getN_there ys (l ++ [y]) _ r (fun z hz => hok z (by simp [hz])) (by simp; omega) hc (drop_next h)]
      simp only [List.flatMap_cons, List.length_append, Prod.mk.injEq, true_and, List.append_assoc, List.cons_append, List.nil_append, and_true]
      omega
    · rw [if_neg hw] at hc; exact absurd hc hw
theorem getN_short {L : List Int} {m : List Int} (hne : m ≠ []) : ∀ (ys l : List OpV) (a : Nat), (∀ y ∈ ys, OpOk y) → l.length + ys.length ≤ 1024 → (chkF l ys).1 = 0 → a ≤ L.length → L.drop a ++ m = ys.flatMap oneF → (getN L ys.length l a).1 = 20 ∧ (getN L ys.length l a).2.1 ≤ L.length
  | [], l, a, _, _, _, _, h => by
    simp only [List.flatMap_nil] at h
    exact absurd (List.append_eq_nil_iff.1 h).2 hne
  | y :: ys, l, a, hok, hl, hc, ha, h => by
    rw [List.flatMap_cons] at h
    rw [chkF] at hc
    by_cases hw : wrongV l y = 0
    · rw [if_pos hw] at hc
      simp only [List.length_cons] at hl ⊢
      rcases pre_split h with ⟨s, h4, h5⟩ | ⟨E, h4, h5⟩
      · have hs := getO_short (hok y (by simp)) (by omega) hw ha h4 h5
        rw [getN, if_neg (by rw [hs.1]; decide)]
        exact hs
      · have hll := congrArg List.length h4
        rw [List.length_drop, List.length_append] at hll
        rw [getN, getO_there (hok y (by simp)) (by omega) hw h4]
        simp only [if_true]
        exact getN_short hne ys (l ++ [y]) _ (fun z hz => hok z (by simp [hz])) (by simp; omega) hc (by
          have h6 : 0 < (oneF y).length := by simp [oneF]
          omega) (by rw [drop_next h4]; exact h5)
    · rw [if_neg hw] at hc; exact absurd hc hw
theorem chk_F {l : List OpV} (h : (chk l).1 = 0) : l.length ≤ 1024 ∧ (chkF [] l).1 = 0 := by
  unfold chk at h
  by_cases hl : 1024 < l.length
  · rw [if_pos hl] at h; simp at h
  · rw [if_neg hl] at h; exact ⟨by omega, h⟩
/-- What is laid is read. -/
theorem getL_there {L : List Int} {l : List OpV} {a : Nat} {r : List Int} (hok : ∀ y ∈ l, OpOk y) (hc : (chk l).1 = 0) (h : L.drop a = formL l ++ r) : getL L a = (0, a + (formL l).length, l) := by
  obtain ⟨h1, h2⟩ := chk_F hc
  rw [formL, List.append_assoc] at h
  have hb := fst_num l.length (by omega) (l.flatMap oneF ++ r) 1024 (by omega)
  unfold getL
  rw [h, hb]
  simp only [Int.toNat_natCast]
  rw [if_neg (by simp), getN_there l [] _ r hok (by simpa using h1) h2 (drop_next h)]
  simp only [formL, List.length_append, List.nil_append, Prod.mk.injEq, true_and, and_true]
  omega
/-- A proper beginning of what is laid is short. -/
theorem getL_short {L : List Int} {l : List OpV} {a : Nat} {m : List Int} (hok : ∀ y ∈ l, OpOk y) (hc : (chk l).1 = 0) (ha : a ≤ L.length) (hne : m ≠ []) (h : L.drop a ++ m = formL l) : (getL L a).1 = 20 ∧ (getL L a).2.1 ≤ L.length := by
  obtain ⟨h1, h2⟩ := chk_F hc
  rcases pre_split (A := numL l.length) (B := l.flatMap oneF) h with ⟨s, h4, h5⟩ | ⟨E, h4, h5⟩
  · unfold getL
    rw [fst_short l.length _ s 1024 h5 h4, if_pos (by simp)]
    exact ⟨rfl, by simpa using ha⟩
  · have hb := fst_num l.length (by omega) E 1024 (by omega)
    have hll := congrArg List.length h4
    rw [List.length_drop, List.length_append] at hll
    have hp : 0 < (numL l.length).length := List.length_pos_iff.2 (numL_ne _)
    unfold getL
    rw [h4, hb]
    simp only [Int.toNat_natCast]
    rw [if_neg (by simp)]
    exact getN_short hne l [] _ hok (by simpa using h1) h2 (by omega) (by rw [drop_next h4]; exact h5)
/-! ### What is read is the form of it. -/
theorem get0_back {L : List Int} {ah : List OpV} {x : OpV} {a : Nat} (hB : Byts L) (h : (getF L ah 0 x a).1 = 0) : ∃ (K : ByteArray) (r : List Int), K.size ≤ 65536 ∧ L.drop a = bform (lst K) ++ r ∧ getF L ah 0 x a = (0, a + (bform (lst K)).length, { x with key := K }) := by
  have h' : (byt (L.drop a) 65536).1 = 0 := h
  obtain ⟨h1, h2, r, h3⟩ := byt_back (L.drop a) 65536 (hB.drop a) h'
  have hby := (byt_l (L.drop a) 65536).2 (hB.drop a)
  refine ⟨strOfNums (byt (L.drop a) 65536).2.2, r, by rw [str_size hby]; omega, by rw [lst_nums hby]; exact h3, ?_⟩
  rw [lst_nums hby, ← h2]
  show ((byt (L.drop a) 65536).1, _, _) = _
  rw [h']
theorem get1_back {L : List Int} {ah : List OpV} {x : OpV} {a : Nat} (hB : Byts L) (h : (getF L ah 1 x a).1 = 0) : ∃ (K : ByteArray) (r : List Int), K.size ≤ 65536 ∧ L.drop a = bform (lst K) ++ r ∧ getF L ah 1 x a = (0, a + (bform (lst K)).length, { x with text := K }) := by
  have h' : (byt (L.drop a) 65536).1 = 0 := h
  obtain ⟨h1, h2, r, h3⟩ := byt_back (L.drop a) 65536 (hB.drop a) h'
  have hby := (byt_l (L.drop a) 65536).2 (hB.drop a)
  refine ⟨strOfNums (byt (L.drop a) 65536).2.2, r, by rw [str_size hby]; omega, by rw [lst_nums hby]; exact h3, ?_⟩
  rw [lst_nums hby, ← h2]
  show ((byt (L.drop a) 65536).1, _, _) = _
  rw [h']
theorem get2_back {L : List Int} {ah : List OpV} {x : OpV} {a : Nat} (hB : Byts L) (h : (getF L ah 2 x a).1 = 0) : ∃ (n : Int) (r : List Int), -9223372036854775808 ≤ n ∧ n ≤ 9223372036854775807 ∧ L.drop a = numL (zig n) ++ r ∧ getF L ah 2 x a = (0, a + (numL (zig n)).length, { x with n := n }) := by
  have h' : (fstM (L.drop a) 18446744073709551615).2.2 = 0 := h
  obtain ⟨m, h1, _, h3, h4, r, h5⟩ := fst_form (L.drop a) 18446744073709551615 (hB.drop a) h'
  refine ⟨zag (m : Int), r, by unfold zag; split <;> omega, by unfold zag; split <;> omega, by rw [zig_zag]; exact h5, ?_⟩
  show ((fstM (L.drop a) 18446744073709551615).2.2, _, _) = _
  rw [zig_zag, h3, h4, h', Int.toNat_natCast]
  simp only [if_true]
theorem get3_back {L : List Int} {ah : List OpV} {x : OpV} {a : Nat} (hB : Byts L) (hn : x.node = z32) (ho : x.op = 0) (h : (getF L ah 3 x a).1 = 0) : ∃ (node : List Int) (op : Int) (r : List Int), node.length = 32 ∧ Byts node ∧ 0 ≤ op ∧ op ≤ 1024 ∧ mayAt ah { x with node := node, op := op } = true ∧ L.drop a = (numL op.toNat ++ (if op = 0 then [] else hl 32 (hof node))) ++ r ∧ getF L ah 3 x a = (0, a + (numL op.toNat ++ (if op = 0 then [] else hl 32 (hof node))).length, { x with node := node, op := op }) := by
  have h' : (getA L ah x a).1 = 0 := h
  show ∃ (node : List Int) (op : Int) (r : List Int), node.length = 32 ∧ Byts node ∧ 0 ≤ op ∧ op ≤ 1024 ∧ mayAt ah { x with node := node, op := op } = true ∧ L.drop a = (numL op.toNat ++ (if op = 0 then [] else hl 32 (hof node))) ++ r ∧ getA L ah x a = _
  unfold getA at h' ⊢
  by_cases h0 : (fstM (L.drop a) 1024).2.2 = 0
  · obtain ⟨m, h1, h2, h3, h4, r, h5⟩ := fst_form (L.drop a) 1024 (hB.drop a) h0
    rw [if_neg (by simp [h0]), h3, h4, Int.toNat_natCast] at h' ⊢
    have hd := drop_next h5
    by_cases hm : (m : Int) = 0
    · have hm0 : m = 0 := by omega
      subst hm0
      rw [if_pos hm] at h' ⊢
      cases hy : mayAt ah { x with op := 0 } with
      | false => rw [hy] at h'; simp at h'
      | true =>
        rw [if_pos rfl]
        refine ⟨z32, 0, r, z32_len, z32_byts, by decide, by decide, ?_, by simpa using h5, ?_⟩
        · rw [← hn]; exact hy
        · rw [← hn]; simp
    · rw [if_neg hm] at h' ⊢
      rw [hd] at h' ⊢
      by_cases hw : nextW r 32 = 0
      · have hN := nextN_0 _ _ hw
        have hlen : (r.take 32).length = 32 := by rw [List.length_take]; have := hN.2.2; omega
        have hr : Byts r := by rw [← hd]; exact hB.drop _
        rw [if_neg (by simp [hw])] at h' ⊢
        cases hy : mayAt ah { x with op := (m : Int), node := r.take 32 } with
        | false => rw [hy] at h'; simp at h'
        | true =>
          rw [if_pos rfl]
          refine ⟨r.take 32, (m : Int), r.drop 32, hlen, hr.take 32, by omega, h2, hy, ?_, ?_⟩
          · rw [if_neg hm, Int.toNat_natCast, hl_hof _ hlen, List.append_assoc, List.take_append_drop]; exact h5
          · rw [if_neg hm, Int.toNat_natCast, hl_hof _ hlen, List.length_append, hlen, Nat.add_assoc]
      · rw [if_pos hw] at h'; exact absurd h' hw
  · rw [if_pos h0] at h'; exact absurd h' h0
theorem getFs_one {L : List Int} {ah : List OpV} {i : Nat} {is : List Nat} {x : OpV} {a : Nat} (h : (getFs L ah (i :: is) x a).1 = 0) : (getF L ah i x a).1 = 0 ∧ getFs L ah (i :: is) x a = getFs L ah is (getF L ah i x a).2.2 (getF L ah i x a).2.1 := by
  by_cases h0 : (getF L ah i x a).1 = 0
  · exact ⟨h0, by rw [getFs, if_pos h0]⟩
  · rw [getFs, if_neg h0] at h; exact absurd h h0
theorem hat_no (k : Int) (h : k = 1 ∨ k = 2 ∨ k = 3 ∨ k = 4 ∨ k = 5 ∨ k = 6 ∨ k = 7) : cellV k ≠ 4 := by
  rcases h with rfl | rfl | rfl | rfl | rfl | rfl | rfl <;> decide
theorem wrongV_is {ah : List OpV} {y : OpV} (h1 : hasI y.kind ≠ []) (h2 : y.key.size ≤ 65536) (h3 : y.text.size ≤ 65536) (h4 : wipes (hasI y.kind) { y with kind := 0 } = zeroOp) (h5 : cellV y.kind = 4 → mayAt ah y = true) : wrongV ah y = 0 := by
  unfold wrongV
  rw [if_neg h1, if_neg (by omega), if_neg (by omega), h4, sm_refl, if_neg (by decide)]
  by_cases h : cellV y.kind = 4
  · rw [if_pos h, h5 h]; rfl
  · rw [if_neg h]
theorem ok_of {k n op : Int} {K T : ByteArray} {node : List Int} (hk : k = 1 ∨ k = 2 ∨ k = 3 ∨ k = 4 ∨ k = 5 ∨ k = 6 ∨ k = 7 ∨ k = 8 ∨ k = 9) (h1 : K.size ≤ 65536) (h2 : T.size ≤ 65536) (h3 : -9223372036854775808 ≤ n) (h4 : n ≤ 9223372036854775807) (h5 : node.length = 32) (h6 : Byts node) (h7 : 0 ≤ op) (h8 : op ≤ 1024) : OpOk ⟨k, K, T, n, node, op⟩ :=
  ⟨h5, h6, by show _ ≤ k; omega, by show k ≤ _; omega, h3, h4, by show _ ≤ op; omega, by show op ≤ _; omega, by show K.size ≤ _; omega, by show T.size ≤ _; omega⟩
theorem app3 (a b c r : List Int) : a ++ (b ++ (c ++ r)) = (a ++ (b ++ c)) ++ r := by simp
theorem getO_back {L : List Int} {ah : List OpV} {a : Nat} (hB : Byts L) (h : (getO L ah a).1 = 0) : ∃ (y : OpV) (r : List Int), OpOk y ∧ wrongV ah y = 0 ∧ L.drop a = oneF y ++ r ∧ getO L ah a = (0, a + (oneF y).length, y) := by
  unfold getO at h ⊢
  by_cases h0 : nextW (L.drop a) 1 = 0
  · rw [if_neg (by simp [h0])] at h ⊢
    obtain ⟨k, D, hD⟩ : ∃ k D, L.drop a = k :: D := by
      cases hd : L.drop a with
      | nil => rw [hd] at h0; exact absurd h0 (by decide)
      | cons k D => exact ⟨k, D, rfl⟩
    have hd : L.drop (a + 1) = D := by rw [← List.drop_drop, hD]; rfl
    rw [hD] at h ⊢
    simp only [List.getD_cons_zero] at h ⊢
    by_cases hk : hasI k = []
    · rw [if_pos hk] at h; simp at h
    rw [if_neg hk] at h ⊢
    have hkm := hasI_mem hk
    simp only [List.mem_cons, List.not_mem_nil, or_false] at hkm
    -- the shapes
    have s0 : hasI k = [0] → cellV k ≠ 4 → ∃ (y : OpV) (r : List Int), OpOk y ∧ wrongV ah y = 0 ∧ k :: D = oneF y ++ r ∧ getFs L ah (hasI k) { zeroOp with kind := k } (a + 1) = (0, a + (oneF y).length, y) := by
      intro hi hc
      rw [hi] at h ⊢
      obtain ⟨e1, e2⟩ := getFs_one h
      obtain ⟨K, r1, k1, k2, k3⟩ := get0_back hB e1
      rw [e2, k3]
      simp only [getFs]
      refine ⟨⟨k, K, ByteArray.empty, 0, z32, 0⟩, r1, ok_of hkm k1 (by decide) (by decide) (by decide) z32_len z32_byts (by decide) (by decide), wrongV_is hk k1 (by show ByteArray.empty.size ≤ 65536; decide) (by show wipes (hasI k) _ = _; rw [hi]; rfl) (fun e => absurd e hc), ?_, ?_⟩
      · rw [hd] at k2; rw [k2]; simp [oneF, hi, putF]
      · simp only [oneF, hi, putF, zeroOp, List.flatMap_cons, List.flatMap_nil, List.append_nil, List.length_cons, Prod.mk.injEq, true_and, if_true, and_true]; omega
    have s01 : hasI k = [0, 1] → cellV k ≠ 4 → ∃ (y : OpV) (r : List Int), OpOk y ∧ wrongV ah y = 0 ∧ k :: D = oneF y ++ r ∧ getFs L ah (hasI k) { zeroOp with kind := k } (a + 1) = (0, a + (oneF y).length, y) := by
      intro hi hc
      rw [hi] at h ⊢
      obtain ⟨e1, e2⟩ := getFs_one h
      obtain ⟨K, r1, k1, k2, k3⟩ := get0_back hB e1
      rw [e2, k3] at h
      rw [e2, k3]
      obtain ⟨e3, e4⟩ := getFs_one h
      obtain ⟨T, r2, t1, t2, t3⟩ := get1_back hB e3
      rw [e4, t3]
      simp only [getFs]
      refine ⟨⟨k, K, T, 0, z32, 0⟩, r2, ok_of hkm k1 t1 (by decide) (by decide) z32_len z32_byts (by decide) (by decide), wrongV_is hk k1 t1 (by show wipes (hasI k) _ = _; rw [hi]; rfl) (fun e => absurd e hc), ?_, ?_⟩
      · simp only at t2; rw [drop_next k2] at t2; rw [hd, t2] at k2; rw [k2]; simp [oneF, hi, putF]
      · simp only [oneF, hi, putF, zeroOp, List.flatMap_cons, List.flatMap_nil, List.append_nil, List.length_cons, List.length_append, Prod.mk.injEq, true_and, if_true, and_true, show ¬ (1 : Nat) = 0 by decide, if_false]; omega
    have s02 : hasI k = [0, 2] → cellV k ≠ 4 → ∃ (y : OpV) (r : List Int), OpOk y ∧ wrongV ah y = 0 ∧ k :: D = oneF y ++ r ∧ getFs L ah (hasI k) { zeroOp with kind := k } (a + 1) = (0, a + (oneF y).length, y) := by
      intro hi hc
      rw [hi] at h ⊢
      obtain ⟨e1, e2⟩ := getFs_one h
      obtain ⟨K, r1, k1, k2, k3⟩ := get0_back hB e1
      rw [e2, k3] at h
      rw [e2, k3]
      obtain ⟨e3, e4⟩ := getFs_one h
      obtain ⟨n, r2, n1, n2, t2, t3⟩ := get2_back hB e3
      rw [e4, t3]
      simp only [getFs]
      refine ⟨⟨k, K, ByteArray.empty, n, z32, 0⟩, r2, ok_of hkm k1 (by decide) n1 n2 z32_len z32_byts (by decide) (by decide), wrongV_is hk k1 (by show ByteArray.empty.size ≤ 65536; decide) (by show wipes (hasI k) _ = _; rw [hi]; rfl) (fun e => absurd e hc), ?_, ?_⟩
      · simp only at t2; rw [drop_next k2] at t2; rw [hd, t2] at k2; rw [k2]; simp [oneF, hi, putF]
      · simp only [oneF, hi, putF, zeroOp, List.flatMap_cons, List.flatMap_nil, List.append_nil, List.length_cons, List.length_append, Prod.mk.injEq, true_and, if_true, and_true, show ¬ (2 : Nat) = 0 by decide, show ¬ (2 : Nat) = 1 by decide, if_false]; omega
    have s03 : hasI k = [0, 3] → ∃ (y : OpV) (r : List Int), OpOk y ∧ wrongV ah y = 0 ∧ k :: D = oneF y ++ r ∧ getFs L ah (hasI k) { zeroOp with kind := k } (a + 1) = (0, a + (oneF y).length, y) := by
      intro hi
      rw [hi] at h ⊢
      obtain ⟨e1, e2⟩ := getFs_one h
      obtain ⟨K, r1, k1, k2, k3⟩ := get0_back hB e1
      rw [e2, k3] at h
      rw [e2, k3]
      obtain ⟨e3, e4⟩ := getFs_one h
      obtain ⟨node, op, r2, n1, n2, n3, n4, n5, t2, t3⟩ := get3_back hB rfl rfl e3
      rw [e4, t3]
      simp only [getFs]
      refine ⟨⟨k, K, ByteArray.empty, 0, node, op⟩, r2, ok_of hkm k1 (by decide) (by decide) (by decide) n1 n2 n3 n4, wrongV_is hk k1 (by show ByteArray.empty.size ≤ 65536; decide) (by show wipes (hasI k) _ = _; rw [hi]; rfl) (fun _ => n5), ?_, ?_⟩
      · simp only at t2; rw [drop_next k2] at t2; rw [hd, t2] at k2; rw [k2]; simp [oneF, hi, putF]
      · simp only [oneF, hi, putF, zeroOp, List.flatMap_cons, List.flatMap_nil, List.append_nil, List.length_cons, List.length_append, Prod.mk.injEq, true_and, if_true, and_true, show ¬ (3 : Nat) = 0 by decide, show ¬ (3 : Nat) = 1 by decide, show ¬ (3 : Nat) = 2 by decide, if_false]; omega
    have s013 : hasI k = [0, 1, 3] → ∃ (y : OpV) (r : List Int), OpOk y ∧ wrongV ah y = 0 ∧ k :: D = oneF y ++ r ∧ getFs L ah (hasI k) { zeroOp with kind := k } (a + 1) = (0, a + (oneF y).length, y) := by
      intro hi
      rw [hi] at h ⊢
      obtain ⟨e1, e2⟩ := getFs_one h
      obtain ⟨K, r1, k1, k2, k3⟩ := get0_back hB e1
      rw [e2, k3] at h
      rw [e2, k3]
      obtain ⟨e3, e4⟩ := getFs_one h
      obtain ⟨T, r2, t1, t2, t3⟩ := get1_back hB e3
      rw [e4, t3] at h
      rw [e4, t3]
      obtain ⟨e5, e6⟩ := getFs_one h
      obtain ⟨node, op, r3, n1, n2, n3, n4, n5, u2, u3⟩ := get3_back hB rfl rfl e5
      rw [e6, u3]
      simp only [getFs]
      refine ⟨⟨k, K, T, 0, node, op⟩, r3, ok_of hkm k1 t1 (by decide) (by decide) n1 n2 n3 n4, wrongV_is hk k1 t1 (by show wipes (hasI k) _ = _; rw [hi]; rfl) (fun _ => n5), ?_, ?_⟩
      · simp only at t2 u2; rw [drop_next t2] at u2; rw [drop_next k2] at t2; rw [u2] at t2; rw [hd, t2] at k2; rw [k2]; simp [oneF, hi, putF]
      · simp only [oneF, hi, putF, zeroOp, List.flatMap_cons, List.flatMap_nil, List.append_nil, List.length_cons, List.length_append, Prod.mk.injEq, true_and, if_true, and_true, show ¬ (1 : Nat) = 0 by decide, show ¬ (3 : Nat) = 0 by decide, show ¬ (3 : Nat) = 1 by decide, show ¬ (3 : Nat) = 2 by decide, if_false]; omega
    rcases hkm with e | e | e | e | e | e | e | e | e
    · exact s01 (by rw [e]; rfl) (by rw [e]; decide)
    · exact s0 (by rw [e]; rfl) (by rw [e]; decide)
    · exact s01 (by rw [e]; rfl) (by rw [e]; decide)
    · exact s01 (by rw [e]; rfl) (by rw [e]; decide)
    · exact s0 (by rw [e]; rfl) (by rw [e]; decide)
    · exact s02 (by rw [e]; rfl) (by rw [e]; decide)
    · exact s0 (by rw [e]; rfl) (by rw [e]; decide)
    · exact s013 (by rw [e]; rfl)
    · exact s03 (by rw [e]; rfl)
  · rw [if_pos h0] at h; exact absurd h h0
theorem getN_back {L : List Int} (hB : Byts L) : ∀ (n : Nat) (l : List OpV) (a : Nat), (getN L n l a).1 = 0 → ∃ (ys : List OpV) (r : List Int), ys.length = n ∧ (∀ y ∈ ys, OpOk y) ∧ (chkF l ys).1 = 0 ∧ L.drop a = ys.flatMap oneF ++ r ∧ getN L n l a = (0, a + (ys.flatMap oneF).length, l ++ ys)
  | 0, l, a, _ => ⟨[], L.drop a, rfl, by simp, rfl, by simp, by simp [getN]⟩
  | n + 1, l, a, h => by
    rw [getN] at h ⊢
    by_cases h0 : (getO L l a).1 = 0
    · rw [if_pos h0] at h ⊢
      obtain ⟨y, r1, h1, h2, h3, h4⟩ := getO_back hB h0
      rw [h4] at h ⊢
      simp only at h ⊢
      obtain ⟨ys, r, h5, h6, h7, h8, h9⟩ := getN_back hB n _ _ h
      refine ⟨y :: ys, r, by simp [h5], fun z hz => ?_, by rw [chkF, if_pos h2]; exact h7, ?_, ?_⟩
      · rcases List.mem_cons.1 hz with rfl | hz
        · exact h1
        · exact h6 z hz
      · rw [h3, ← drop_next h3, h8, List.flatMap_cons, List.append_assoc]
      · rw [h9]; simp only [List.flatMap_cons, List.length_append, List.append_assoc, List.cons_append, List.nil_append, Prod.mk.injEq, true_and, and_true]; omega
    · rw [if_neg h0] at h; exact absurd h h0
/-- What is read is the form of it, and may be. -/
theorem getL_back {L : List Int} {a : Nat} (hB : Byts L) (h : (getL L a).1 = 0) : ∃ (l : List OpV) (r : List Int), (∀ y ∈ l, OpOk y) ∧ (chk l).1 = 0 ∧ L.drop a = formL l ++ r ∧ getL L a = (0, a + (formL l).length, l) := by
  unfold getL at h ⊢
  by_cases h0 : (fstM (L.drop a) 1024).2.2 = 0
  · obtain ⟨m, h1, h2, h3, h4, r, h5⟩ := fst_form (L.drop a) 1024 (hB.drop a) h0
    rw [if_neg (by simp [h0]), h3, h4, Int.toNat_natCast, Int.toNat_natCast] at h ⊢
    obtain ⟨ys, r2, h6, h7, h8, h9, h10⟩ := getN_back hB m [] _ h
    refine ⟨ys, r2, h7, by unfold chk; rw [if_neg (by omega)]; exact h8, ?_, ?_⟩
    · rw [drop_next h5] at h9; rw [h5, h9, formL, h6, List.append_assoc]
    · rw [h10, formL, h6, List.length_append, List.nil_append, Nat.add_assoc]
  · rw [if_pos h0] at h; exact absurd h h0
end Go.Proofs.Ytkjjlfpghhefcab
namespace Go.Proofs.Ytkjjlfpghhefcab
open Go.RowKit

set_option maxRecDepth 8000 in
set_option maxHeartbeats 1000000 in
theorem xnum_bad (x : Nat) (vB : Value) (a : Nat) (why b : Int) (v : Value) (w : World) (h : RfAt w x vB a why b) (hw : why ≠ 0) :
    Calls Try.prog 35 #[ptr x, v] w (RfStuck why b (.int .u64 0) w) := by
  have HS := Keep.mk (RS.start h)
  have HB := Keep.mk (below_new w (.cells #[.int .i64 0, .int .i64 0] 27))
  have hy1 : (why == 0) = false := by simpa using hw
  clear h
  go_enter Try.func35, Try.ntmps35
  go_wp2_with (first | (refine wpList_new rfl 27 rfl _ Try.new27 ?_; refine Hid.out ?_))
  refine hid_in ?_
  generalize w.alloc (.cells #[.int .i64 0, .int .i64 0] 27) = w1 at *
  have c2 := RfAt.c2 HS.out.rf
  have c3 := RfAt.c3 HS.out.rf
  have d0 := HS.out.d0
  have d1 := HS.out.d1
  have e0 := HS.out.cell.frozen 0
  have e1 := HS.out.cell.frozen 1
  go_wp2_with fail
  go_region
  go_wp2
  exact bodyPost_ret (results_tmp_cell_row Try.results35 _ _ w.heap.size 27 _ (0, 0) _ _ rfl rfl (HS.out.fin (.int .i64 why) (.int .i64 b)).1.drew Try.underlying27 rfl Try.size27) rfl ⟨rfl, (below_two HB.out (Nat.le_refl _) _ _).drew⟩

theorem pow_bnd (t : Nat) (c y : Int) (ht : t ≤ 9) (h9 : t = 9 → c ≤ 1) (c0 : 0 ≤ c) (c1 : c < 256) (y0 : 0 ≤ y) (y1 : y < 2 ^ (7 * t)) :
    0 ≤ c % 128 * 2 ^ (7 * t) ∧ c % 128 * 2 ^ (7 * t) < 18446744073709551616 ∧ y + c % 128 * 2 ^ (7 * t) < 18446744073709551616 ∧ (t ≤ 8 → y + c % 128 * 2 ^ (7 * t) < 2 ^ (7 * (t + 1))) := by
  rcases (by omega : t = 0 ∨ t = 1 ∨ t = 2 ∨ t = 3 ∨ t = 4 ∨ t = 5 ∨ t = 6 ∨ t = 7 ∨ t = 8 ∨ t = 9) with rfl | rfl | rfl | rfl | rfl | rfl | rfl | rfl | rfl | rfl <;>
    (simp only [Nat.reduceMul, Nat.reduceAdd, Int.reducePow] at y1 ⊢; omega)
theorem fstM_err {D : List Int} {e : Int} (h : fstG D 0 0 = (0, 0, e)) (he : e ≠ 0) (most : Int) : fstM D most = (0, 0, e) := by
  unfold fstM; rw [h, if_neg (fun h => he h.1)]
theorem fstM_over {D : List Int} {s n most : Int} (h : fstG D 0 0 = (s, n, 0)) (hm : most < s) : fstM D most = (0, 0, 22) := by
  unfold fstM; rw [h, if_pos ⟨rfl, hm⟩]
theorem fstM_ok {D : List Int} {s n most : Int} (h : fstG D 0 0 = (s, n, 0)) (hm : ¬ most < s) : fstM D most = (s, n, 0) := by
  unfold fstM; rw [h, if_neg (fun h => hm h.2)]
theorem tri {X W X' W' : Int} {N N' : Nat} (h : (X', (N' : Int), W') = (X, (N : Int), W)) : X = X' ∧ N = N' ∧ W = W' := by
  injection h with h1 h2
  injection h2 with h2 h3
  exact ⟨h1.symm, by omega, h3.symm⟩
theorem fstG_nil (t : Nat) (y : Int) : fstG [] t y = (0, 0, 20) := rfl

set_option maxRecDepth 8000 in
set_option maxHeartbeats 4000000 in
theorem xnum_good (x : Nat) (vB : Value) (l : List Int) (a most : Nat) (w : World) (h : RfAt w x vB a 0 0) (hR : ∀ wx, (Grown w wx fun k => k = x) → RowAt wx vB l) (ha : a ≤ l.length) (hb : l.length ≤ 140737488355328) (hby : Byts l) (D : List Int) (hD : D = l.drop a) (W X : Int) (N : Nat) (hM : fstM D most = (X, (N : Int), W)) :
    Calls Try.prog 35 #[ptr x, .int .u64 (most : Int)] w (RfPost x vB W (a + N) (.int .u64 X) w) := by
  have HM := Keep.mk hM
  have HS := Keep.mk (RS.start h)
  have HR := Keep.mk hR
  have hlen : D.length = l.length - a := by rw [hD, List.length_drop]
  have HBy : Keep (∀ t, t < D.length → 0 ≤ D.getD t 0 ∧ D.getD t 0 < 256) := ⟨fun t ht => by
    have h1 : D.getD t 0 ∈ l := by
      rw [List.getD_eq_getElem?_getD, List.getElem?_eq_getElem ht, Option.getD_some]
      exact List.mem_of_mem_drop (by rw [← hD]; exact List.getElem_mem ht)
    exact hby _ h1⟩
  obtain ⟨va, vc, hvB⟩ := row_form (hR w (Grown.refl _ _))
  subst hvB
  have HDg : Keep (∀ t, t < D.length → D.drop t = D.getD t 0 :: D.drop (t + 1)) := ⟨fun t ht => by
    rw [List.drop_eq_getElem_cons ht, List.getD_eq_getElem?_getD, List.getElem?_eq_getElem ht, Option.getD_some]⟩
  have HRc : Keep (∀ wx, (Grown w wx fun k => k = x) → ∀ t, t < D.length → ∃ gb go, va = some ⟨gb, go, none⟩ ∧ wx.cell? ⟨gb, go + (a + t), none⟩ = some (.int .u8 (D.getD t 0))) := ⟨fun wx hg t ht => by
    rcases HR.out wx hg with ⟨_, e⟩ | ⟨_, _, _, e⟩ | ⟨g, o, _, e, _, h3⟩
    · have : l.length = 0 := by rw [e]; rfl
      omega
    · have : l.length = 0 := by rw [e]; rfl
      omega
    · injection e with e1 e2
      refine ⟨g, o, e1, ?_⟩
      rw [h3 (a + t) (by omega), hD]
      simp [List.getD_eq_getElem?_getD]⟩
  have Hb := Keep.mk hb
  have Ha := Keep.mk ha
  have hbi : (l.length : Int) ≤ 140737488355328 := by omega
  have hai : (a : Int) ≤ (l.length : Int) := by omega
  have Hlen := Keep.mk hlen
  clear h hR hlen ha hb hD hby HR hM
  go_enter Try.func35, Try.ntmps35
  go_wp2_with (first | (refine wpList_new rfl 27 rfl _ Try.new27 ?_; refine Hid.out ?_))
  refine hid_in ?_
  generalize w.alloc (.cells #[.int .i64 0, .int .i64 0] 27) = w1 at *
  have c2 := RfAt.c2 HS.out.rf
  go_wp2_with fail
  clear c2
  go_loopw [6, 7] (fun u i wr => ∃ (t : Nat) (y : Int), t ≤ 9 ∧ t ≤ D.length ∧ u = .int .u64 y ∧ i = .int .i64 (t : Int) ∧ Keep (fstG (D.drop t) t y = fstG D 0 0) ∧ Keep (0 ≤ y ∧ y < 2 ^ (7 * t)) ∧ RS w x (.slice va l.length vc) a 0 0 wr) (fun _ i _ => 10 - (intOf i).toNat)
  case atStart => exact ⟨0, 0, by omega, by omega, rfl, rfl, ⟨by simp⟩, ⟨by simp⟩, HS.out⟩
  case round =>
    clear HS
    obtain ⟨t, y, ht, htD, rfl, rfl, hF, hy, hS⟩ := hrel
    have HS := Keep.mk hS
    have hti : (t : Int) < 10 := by omega
    clear hS
    go_wp2_with fail
    refine (xleft_any x _ l.length vc a 0 0 wr HS.out.rf Ha.out Hb.out).mono ?_
    rintro e w2 ⟨rfl, qd, hw2⟩
    have HS2 := Keep.mk (HS.out.later (w2 := w2) (by rw [hw2]; exact below_drewN _ _))
    clear hw2 HS
    by_cases hlt : t < D.length
    · have hlt' : ¬ ((l.length : Int) - (a : Int) ≤ (t : Int)) := by have := Hlen.out; omega
      obtain ⟨gb, go, rfl, hc⟩ := HRc.out w2 HS2.out.gr t hlt
      have hcb := HBy.out t hlt
      have hDg := HDg.out t hlt
      obtain ⟨c, hcc⟩ : ∃ c, Keep (c = D.getD t 0) := ⟨_, ⟨rfl⟩⟩
      rw [← hcc.out] at hc hcb hDg
      obtain ⟨hc0, hc1⟩ := hcb
      rw [hDg] at hF
      have g0 := RfAt.c0 HS2.out.rf
      have g1 := RfAt.c1 HS2.out.rf
      clear hDg
      by_cases h9 : t = 9
      · have hb9 : ((t : Int) == 9) = true := by rw [h9]; rfl
        have hp0 : (0 : Int) < (t : Int) := by omega
        by_cases h1 : 1 < c
        · have h1' : 1 < c := h1
          have hG : Keep (fstG D 0 0 = (0, 0, 22)) := ⟨by rw [← hF.out, fstG, if_pos ⟨h9, h1⟩]⟩
          obtain ⟨rfl, rfl, rfl⟩ := tri ((show (0, ((0 : Nat) : Int), (22 : Int)) = fstM D most from (fstM_err hG.out (by decide) _).symm).trans HM.out)
          clear HM
          try clear h9
          try clear hp
          go_wp2_with fail
          go_quiet (fail)
          obtain ⟨w3, hw3⟩ : ∃ w3, Keep (w3 = w2.drewN nq) := ⟨_, ⟨rfl⟩⟩
          rw [← hw3.out]
          have HS3 := Keep.mk (HS2.out.later (w2 := w3) (by rw [hw3.out]; exact below_drewN _ _))
          have k1 := RfAt.c1 HS3.out.rf
          clear hw3 g0 g1 hc HS2
          go_wp2_with fail
          refine (xwrong_any x _ a 22 w3 HS3.out.rf).mono ?_
          rintro e w4 ⟨rfl, hr, hg⟩
          have HS4 := Keep.mk (HS3.out.turned hr hg)
          clear hr hg k1
          have d0 := HS4.out.d0
          have d1 := HS4.out.d1
          have e0 := HS4.out.cell.frozen 0
          have e1 := HS4.out.cell.frozen 1
          go_wp2
          have hf := HS4.out.fin (.int .i64 22) (.int .i64 (a : Int))
          exact bodyPost_ret (results_tmp_cell_row Try.results35 _ _ w.heap.size 27 _ (0, 0) _ _ rfl rfl hf.1 Try.underlying27 rfl Try.size27) rfl ⟨_, .inr ⟨by decide, rfl⟩, rfl, hf.2.1, hf.2.2⟩
        · have H9 : t = 9 → c ≤ 1 := fun _ => by omega
          have h128 : ¬ (128 : Int) ≤ c := by omega
          have hpb := pow_bnd t c y ht H9 hc0 hc1 hy.out.1 hy.out.2
          obtain ⟨sv, hsv⟩ : ∃ sv, Keep (sv = y + c % 128 * 2 ^ (7 * t)) := ⟨_, ⟨rfl⟩⟩
          have hwr : IntKind.u64.wrap (y + IntKind.u64.wrap (c % 128 * 2 ^ (7 * t))) = sv := by
            rw [IntKind.wrap_u64, IntKind.wrap_u64, hsv.out]
            have := hy.out.1
            omega
          have Hpb := Keep.mk hpb
          clear hpb H9
          by_cases h0 : c = 0
          · have h0' : (c == 0) = true := by simp [h0]
            have hG : Keep (fstG D 0 0 = (0, 0, 21)) := ⟨by rw [← hF.out, fstG, if_neg (by omega), if_pos ⟨h0, by omega⟩]⟩
            clear h0
            obtain ⟨rfl, rfl, rfl⟩ := tri ((show (0, ((0 : Nat) : Int), (21 : Int)) = fstM D most from (fstM_err hG.out (by decide) _).symm).trans HM.out)
            clear HM
            try clear h9
            try clear hp
            go_wp2_with fail
            go_quiet (fail)
            obtain ⟨w3, hw3⟩ : ∃ w3, Keep (w3 = w2.drewN nq) := ⟨_, ⟨rfl⟩⟩
            rw [← hw3.out]
            have HS3 := Keep.mk (HS2.out.later (w2 := w3) (by rw [hw3.out]; exact below_drewN _ _))
            have k1 := RfAt.c1 HS3.out.rf
            clear hw3 g0 g1 hc HS2
            go_wp2_with fail
            refine (xwrong_any x _ a 21 w3 HS3.out.rf).mono ?_
            rintro e w4 ⟨rfl, hr, hg⟩
            have HS4 := Keep.mk (HS3.out.turned hr hg)
            clear hr hg k1
            have d0 := HS4.out.d0
            have d1 := HS4.out.d1
            have e0 := HS4.out.cell.frozen 0
            have e1 := HS4.out.cell.frozen 1
            go_wp2
            have hf := HS4.out.fin (.int .i64 21) (.int .i64 (a : Int))
            exact bodyPost_ret (results_tmp_cell_row Try.results35 _ _ w.heap.size 27 _ (0, 0) _ _ rfl rfl hf.1 Try.underlying27 rfl Try.size27) rfl ⟨_, .inr ⟨by decide, rfl⟩, rfl, hf.2.1, hf.2.2⟩
          · have h0' : (c == 0) = false := by simpa using h0
            have hG : Keep (fstG D 0 0 = (sv, ((t + 1 : Nat) : Int), 0)) := ⟨by rw [← hF.out, fstG, if_neg (by omega), if_neg (by omega), if_pos (by omega), hsv.out]; rfl⟩
            by_cases hmost : (most : Int) < sv
            · have hmost' : (most : Int) < sv := hmost
              obtain ⟨rfl, rfl, rfl⟩ := tri ((show (0, ((0 : Nat) : Int), (22 : Int)) = fstM D most from (fstM_over hG.out hmost).symm).trans HM.out)
              clear HM
              try clear h9
              try clear hp
              go_wp2_with fail
              go_quiet (fail)
              obtain ⟨w3, hw3⟩ : ∃ w3, Keep (w3 = w2.drewN nq) := ⟨_, ⟨rfl⟩⟩
              rw [← hw3.out]
              have HS3 := Keep.mk (HS2.out.later (w2 := w3) (by rw [hw3.out]; exact below_drewN _ _))
              have k1 := RfAt.c1 HS3.out.rf
              clear hw3 g0 g1 hc HS2
              go_wp2_with fail
              refine (xwrong_any x _ a 22 w3 HS3.out.rf).mono ?_
              rintro e w4 ⟨rfl, hr, hg⟩
              have HS4 := Keep.mk (HS3.out.turned hr hg)
              clear hr hg k1
              have d0 := HS4.out.d0
              have d1 := HS4.out.d1
              have e0 := HS4.out.cell.frozen 0
              have e1 := HS4.out.cell.frozen 1
              go_wp2
              have hf := HS4.out.fin (.int .i64 22) (.int .i64 (a : Int))
              exact bodyPost_ret (results_tmp_cell_row Try.results35 _ _ w.heap.size 27 _ (0, 0) _ _ rfl rfl hf.1 Try.underlying27 rfl Try.size27) rfl ⟨_, .inr ⟨by decide, rfl⟩, rfl, hf.2.1, hf.2.2⟩
            · have hmost' : ¬ ((most : Int) < sv) := hmost
              obtain ⟨rfl, rfl, rfl⟩ := tri ((show (sv, ((t + 1 : Nat) : Int), (0 : Int)) = fstM D most from (fstM_ok hG.out hmost).symm).trans HM.out)
              clear HM
              try clear h9
              try clear hp
              go_wp2_with fail
              go_quiet (fail)
              obtain ⟨w3, hw3⟩ : ∃ w3, Keep (w3 = w2.drewN nq) := ⟨_, ⟨rfl⟩⟩
              rw [← hw3.out]
              have HS3 := Keep.mk (HS2.out.later (w2 := w3) (by rw [hw3.out]; exact below_drewN _ _))
              have k1 := RfAt.c1 HS3.out.rf
              clear hw3 g0 g1 hc HS2
              have hne : x ≠ w.heap.size := by have := HS3.out.lt; omega
              have hne' : w.heap.size ≠ x := fun e => hne e.symm
              have f1 := Blk.frozen HS3.out.rf 1
              have d0 := HS3.out.d0
              have d1 := HS3.out.d1
              have e0 := HS3.out.cell.frozen 0
              have e1 := HS3.out.cell.frozen 1
              go_wp2
              have hf := (HS3.out.step (a + (t + 1))).fin (.int .i64 0) (.int .i64 0)
              exact bodyPost_ret (results_tmp_cell_row Try.results35 _ _ w.heap.size 27 _ (0, 0) _ _ rfl rfl hf.1 Try.underlying27 rfl Try.size27) rfl ⟨_, .inl ⟨rfl, rfl⟩, rfl, hf.2.1, hf.2.2⟩
      · have hb9 : ((t : Int) == 9) = false := by simp; omega
        have H9 : t = 9 → c ≤ 1 := fun h => absurd h h9
        have hpb := pow_bnd t c y ht H9 hc0 hc1 hy.out.1 hy.out.2
        obtain ⟨sv, hsv⟩ : ∃ sv, Keep (sv = y + c % 128 * 2 ^ (7 * t)) := ⟨_, ⟨rfl⟩⟩
        have hwr : IntKind.u64.wrap (y + IntKind.u64.wrap (c % 128 * 2 ^ (7 * t))) = sv := by
          rw [IntKind.wrap_u64, IntKind.wrap_u64, hsv.out]
          have := hy.out.1
          omega
        have Hpb := Keep.mk hpb
        clear hpb H9
        by_cases h128 : 128 ≤ c
        · have h128' : (128 : Int) ≤ c := h128
          have K9 := Keep.mk h9
          try clear h9
          try clear hp
          go_wp2_with fail
          go_quiet (fail)
          obtain ⟨w3, hw3⟩ : ∃ w3, Keep (w3 = w2.drewN nq) := ⟨_, ⟨rfl⟩⟩
          rw [← hw3.out]
          have HS3 := Keep.mk (HS2.out.later (w2 := w3) (by rw [hw3.out]; exact below_drewN _ _))
          have k1 := RfAt.c1 HS3.out.rf
          clear hw3 g0 g1 hc HS2
          go_wp2_with fail
          go_roundw
          case rel => exact ⟨t + 1, sv, by have := K9.out; omega, by omega, rfl, by go_num, ⟨by rw [← hF.out, fstG, if_neg (by have := K9.out; omega), if_neg (by omega), if_neg (by omega), hsv.out]⟩, ⟨by rw [hsv.out]; have := Hpb.out.1; have := hy.out.1; omega, by rw [hsv.out]; exact Hpb.out.2.2.2 (by have := K9.out; omega)⟩, HS3.out⟩
          case measure => simp only [intOf]; omega
        · have h128' : ¬ (128 : Int) ≤ c := h128
          by_cases hp : t = 0
          · have hp0 : ¬ (0 : Int) < (t : Int) := by omega
            have hG : Keep (fstG D 0 0 = (sv, ((t + 1 : Nat) : Int), 0)) := ⟨by rw [← hF.out, fstG, if_neg (by omega), if_neg (by omega), if_pos (by omega), hsv.out]; rfl⟩
            by_cases hmost : (most : Int) < sv
            · have hmost' : (most : Int) < sv := hmost
              obtain ⟨rfl, rfl, rfl⟩ := tri ((show (0, ((0 : Nat) : Int), (22 : Int)) = fstM D most from (fstM_over hG.out hmost).symm).trans HM.out)
              clear HM
              try clear h9
              try clear hp
              go_wp2_with fail
              go_quiet (fail)
              obtain ⟨w3, hw3⟩ : ∃ w3, Keep (w3 = w2.drewN nq) := ⟨_, ⟨rfl⟩⟩
              rw [← hw3.out]
              have HS3 := Keep.mk (HS2.out.later (w2 := w3) (by rw [hw3.out]; exact below_drewN _ _))
              have k1 := RfAt.c1 HS3.out.rf
              clear hw3 g0 g1 hc HS2
              go_wp2_with fail
              refine (xwrong_any x _ a 22 w3 HS3.out.rf).mono ?_
              rintro e w4 ⟨rfl, hr, hg⟩
              have HS4 := Keep.mk (HS3.out.turned hr hg)
              clear hr hg k1
              have d0 := HS4.out.d0
              have d1 := HS4.out.d1
              have e0 := HS4.out.cell.frozen 0
              have e1 := HS4.out.cell.frozen 1
              go_wp2
              have hf := HS4.out.fin (.int .i64 22) (.int .i64 (a : Int))
              exact bodyPost_ret (results_tmp_cell_row Try.results35 _ _ w.heap.size 27 _ (0, 0) _ _ rfl rfl hf.1 Try.underlying27 rfl Try.size27) rfl ⟨_, .inr ⟨by decide, rfl⟩, rfl, hf.2.1, hf.2.2⟩
            · have hmost' : ¬ ((most : Int) < sv) := hmost
              obtain ⟨rfl, rfl, rfl⟩ := tri ((show (sv, ((t + 1 : Nat) : Int), (0 : Int)) = fstM D most from (fstM_ok hG.out hmost).symm).trans HM.out)
              clear HM
              try clear h9
              try clear hp
              go_wp2_with fail
              go_quiet (fail)
              obtain ⟨w3, hw3⟩ : ∃ w3, Keep (w3 = w2.drewN nq) := ⟨_, ⟨rfl⟩⟩
              rw [← hw3.out]
              have HS3 := Keep.mk (HS2.out.later (w2 := w3) (by rw [hw3.out]; exact below_drewN _ _))
              have k1 := RfAt.c1 HS3.out.rf
              clear hw3 g0 g1 hc HS2
              have hne : x ≠ w.heap.size := by have := HS3.out.lt; omega
              have hne' : w.heap.size ≠ x := fun e => hne e.symm
              have f1 := Blk.frozen HS3.out.rf 1
              have d0 := HS3.out.d0
              have d1 := HS3.out.d1
              have e0 := HS3.out.cell.frozen 0
              have e1 := HS3.out.cell.frozen 1
              go_wp2
              have hf := (HS3.out.step (a + (t + 1))).fin (.int .i64 0) (.int .i64 0)
              exact bodyPost_ret (results_tmp_cell_row Try.results35 _ _ w.heap.size 27 _ (0, 0) _ _ rfl rfl hf.1 Try.underlying27 rfl Try.size27) rfl ⟨_, .inl ⟨rfl, rfl⟩, rfl, hf.2.1, hf.2.2⟩
          · have hp0 : (0 : Int) < (t : Int) := by omega
            by_cases h0 : c = 0
            · have h0' : (c == 0) = true := by simp [h0]
              have hG : Keep (fstG D 0 0 = (0, 0, 21)) := ⟨by rw [← hF.out, fstG, if_neg (by omega), if_pos ⟨h0, by omega⟩]⟩
              clear h0
              obtain ⟨rfl, rfl, rfl⟩ := tri ((show (0, ((0 : Nat) : Int), (21 : Int)) = fstM D most from (fstM_err hG.out (by decide) _).symm).trans HM.out)
              clear HM
              try clear h9
              try clear hp
              go_wp2_with fail
              go_quiet (fail)
              obtain ⟨w3, hw3⟩ : ∃ w3, Keep (w3 = w2.drewN nq) := ⟨_, ⟨rfl⟩⟩
              rw [← hw3.out]
              have HS3 := Keep.mk (HS2.out.later (w2 := w3) (by rw [hw3.out]; exact below_drewN _ _))
              have k1 := RfAt.c1 HS3.out.rf
              clear hw3 g0 g1 hc HS2
              go_wp2_with fail
              refine (xwrong_any x _ a 21 w3 HS3.out.rf).mono ?_
              rintro e w4 ⟨rfl, hr, hg⟩
              have HS4 := Keep.mk (HS3.out.turned hr hg)
              clear hr hg k1
              have d0 := HS4.out.d0
              have d1 := HS4.out.d1
              have e0 := HS4.out.cell.frozen 0
              have e1 := HS4.out.cell.frozen 1
              go_wp2
              have hf := HS4.out.fin (.int .i64 21) (.int .i64 (a : Int))
              exact bodyPost_ret (results_tmp_cell_row Try.results35 _ _ w.heap.size 27 _ (0, 0) _ _ rfl rfl hf.1 Try.underlying27 rfl Try.size27) rfl ⟨_, .inr ⟨by decide, rfl⟩, rfl, hf.2.1, hf.2.2⟩
            · have h0' : (c == 0) = false := by simpa using h0
              have hG : Keep (fstG D 0 0 = (sv, ((t + 1 : Nat) : Int), 0)) := ⟨by rw [← hF.out, fstG, if_neg (by omega), if_neg (by omega), if_pos (by omega), hsv.out]; rfl⟩
              by_cases hmost : (most : Int) < sv
              · have hmost' : (most : Int) < sv := hmost
                obtain ⟨rfl, rfl, rfl⟩ := tri ((show (0, ((0 : Nat) : Int), (22 : Int)) = fstM D most from (fstM_over hG.out hmost).symm).trans HM.out)
                clear HM
                try clear h9
                try clear hp
                go_wp2_with fail
                go_quiet (fail)
                obtain ⟨w3, hw3⟩ : ∃ w3, Keep (w3 = w2.drewN nq) := ⟨_, ⟨rfl⟩⟩
                rw [← hw3.out]
                have HS3 := Keep.mk (HS2.out.later (w2 := w3) (by rw [hw3.out]; exact below_drewN _ _))
                have k1 := RfAt.c1 HS3.out.rf
                clear hw3 g0 g1 hc HS2
                go_wp2_with fail
                refine (xwrong_any x _ a 22 w3 HS3.out.rf).mono ?_
                rintro e w4 ⟨rfl, hr, hg⟩
                have HS4 := Keep.mk (HS3.out.turned hr hg)
                clear hr hg k1
                have d0 := HS4.out.d0
                have d1 := HS4.out.d1
                have e0 := HS4.out.cell.frozen 0
                have e1 := HS4.out.cell.frozen 1
                go_wp2
                have hf := HS4.out.fin (.int .i64 22) (.int .i64 (a : Int))
                exact bodyPost_ret (results_tmp_cell_row Try.results35 _ _ w.heap.size 27 _ (0, 0) _ _ rfl rfl hf.1 Try.underlying27 rfl Try.size27) rfl ⟨_, .inr ⟨by decide, rfl⟩, rfl, hf.2.1, hf.2.2⟩
              · have hmost' : ¬ ((most : Int) < sv) := hmost
                obtain ⟨rfl, rfl, rfl⟩ := tri ((show (sv, ((t + 1 : Nat) : Int), (0 : Int)) = fstM D most from (fstM_ok hG.out hmost).symm).trans HM.out)
                clear HM
                try clear h9
                try clear hp
                go_wp2_with fail
                go_quiet (fail)
                obtain ⟨w3, hw3⟩ : ∃ w3, Keep (w3 = w2.drewN nq) := ⟨_, ⟨rfl⟩⟩
                rw [← hw3.out]
                have HS3 := Keep.mk (HS2.out.later (w2 := w3) (by rw [hw3.out]; exact below_drewN _ _))
                have k1 := RfAt.c1 HS3.out.rf
                clear hw3 g0 g1 hc HS2
                have hne : x ≠ w.heap.size := by have := HS3.out.lt; omega
                have hne' : w.heap.size ≠ x := fun e => hne e.symm
                have f1 := Blk.frozen HS3.out.rf 1
                have d0 := HS3.out.d0
                have d1 := HS3.out.d1
                have e0 := HS3.out.cell.frozen 0
                have e1 := HS3.out.cell.frozen 1
                go_wp2
                have hf := (HS3.out.step (a + (t + 1))).fin (.int .i64 0) (.int .i64 0)
                exact bodyPost_ret (results_tmp_cell_row Try.results35 _ _ w.heap.size 27 _ (0, 0) _ _ rfl rfl hf.1 Try.underlying27 rfl Try.size27) rfl ⟨_, .inl ⟨rfl, rfl⟩, rfl, hf.2.1, hf.2.2⟩
    · have hlt' : (l.length : Int) - (a : Int) ≤ (t : Int) := by have := Hlen.out; omega
      have hG : Keep (fstG D 0 0 = (0, 0, 20)) := ⟨by rw [← hF.out, List.drop_of_length_le (by omega), fstG]⟩
      have k1 := RfAt.c1 HS2.out.rf
      obtain ⟨rfl, rfl, rfl⟩ := tri ((show (0, ((0 : Nat) : Int), (20 : Int)) = fstM D most from (fstM_err hG.out (by decide) _).symm).trans HM.out)
      clear HM
      go_wp2_with fail
      refine (xwrong_any x _ a 20 w2 HS2.out.rf).mono ?_
      rintro e w4 ⟨rfl, hr, hg⟩
      have HS4 := Keep.mk (HS2.out.turned hr hg)
      clear hr hg k1
      have d0 := HS4.out.d0
      have d1 := HS4.out.d1
      have e0 := HS4.out.cell.frozen 0
      have e1 := HS4.out.cell.frozen 1
      go_wp2
      have hf := HS4.out.fin (.int .i64 20) (.int .i64 (a : Int))
      exact bodyPost_ret (results_tmp_cell_row Try.results35 _ _ w.heap.size 27 _ (0, 0) _ _ rfl rfl hf.1 Try.underlying27 rfl Try.size27) rfl ⟨_, .inr ⟨by decide, rfl⟩, rfl, hf.2.1, hf.2.2⟩
end Go.Proofs.Ytkjjlfpghhefcab
namespace Go.Proofs.Ytkjjlfpghhefcab
open Go.RowKit

theorem own_empty (w : World) (g : Nat) (h : Blk w g 5 #[]) : Own w (.slice (some ⟨g, 0, none⟩) 0 0) [] := Own.mk (l := []) h (Nat.le_refl _) (Nat.zero_le _) rfl (by simp [bv])
theorem wp_app {Q : Exit → Act → World → Prop} {o : Oper} {a : Act} {w : World} {K : Act → World → Prop} (s x : Operand)
    (ho : o.op = .call { callee := .builtin .append, args := #[s, x], argTypes := #[22, 22] }) (v vx : Value) (l m : List Int)
    (hs : a.eval s = v) (hx : a.eval x = vx) (hown : Own w v l) (hrow : RowAt w vx m) (hb : l.length + m.length ≤ 140737488355328)
    (h : ∀ v' w', AppPost w v (l ++ m) v' w' → K (a.put o.dst v') w') : o.wp Try.prog a w K Q := by
  obtain ⟨v', w', hr, h2⟩ := run_app_row w o.type v vx l m hown hrow (by omega)
  unfold Oper.wp execOp
  simp only [ho, resolve, invoke, builtin, Sem.run_bind, Sem.run_pure, Result.andThen_ok, List.map_toArray, List.map_cons, List.map_nil, hs, hx, hr]
  exact h v' w' h2
theorem yieldsIf_slice2 {P : Program} {ops : Array Oper} {S : World → Prop} {op : Oper} {a : Act} (hw : Region.wanted op (yielded ops a.tmps) = true) (t : TypeId) (x lo hi : Operand) (ho : op.op = .slice t x (some lo) (some hi) none)
    (vx vl vh vs : Value) (hx : a.eval x = vx) (hl : a.eval lo = vl) (hh : a.eval hi = vh) (hr : ∀ w : World, (Instr.sliceAt t vx (some vl) (some vh) none).run P w = .ok vs w) : YieldsIf P ops S op vs a :=
  .inl ⟨hw, fun w _ => by
    unfold execOp
    simp only [ho, hx, hl, hh, Option.map_some, Option.map_none, Sem.run_bind, hr w, Result.andThen_ok, Sem.run_pure]⟩
theorem sl_run2 (base : Option Addr) (n cap a b : Nat) (hab : a ≤ b) (hb : b ≤ cap) (wx : World) : (Instr.sliceAt 22 (.slice base n cap) (some (.int .i64 (a : Int))) (some (.int .i64 (b : Int))) none).run Try.prog wx = .ok (sliced base a b cap 1) wx := by
  have hu : Try.prog.underlying 22 = some (.slice (Try.prog.elem 22)) := by rw [Try.elem22]; exact Try.underlying22
  have h1 := run_slice_lh (P := Try.prog) (w := wx) 22 base n cap hu .i64 .i64 (a : Int) (b : Int) (by omega) (by omega) (by omega)
  have h2 := run_sliceAt_slice (P := Try.prog) (w := wx) 22 (.slice base n cap) (some (.int .i64 (a : Int))) (some (.int .i64 (b : Int))) none hu
  rw [Try.elem22] at h1
  rw [h2, h1]
  refine (congrArg (fun z => Result.andThen z fun s w => Result.ok (sliced base (a : Int).toNat (b : Int).toNat cap s) w) (Try.sizeOf5 wx)).trans ?_
  show Result.ok (sliced base (a : Int).toNat (b : Int).toNat cap 1) wx = _
  rw [Int.toNat_natCast, Int.toNat_natCast]
/-- A piece of a row. -/
theorem mid_any (vb : Value) (lb : List Int) (w : World) (hr : RowAt w vb lb) (a M : Nat) (ha : a + M ≤ lb.length) :
    ∃ vs, (∀ wx : World, (Instr.sliceAt 22 vb (some (.int .i64 (a : Int))) (some (.int .i64 ((a : Int) + (M : Int)))) none).run Try.prog wx = .ok vs wx) ∧ ∀ wx, RowAt wx vb lb → RowAt wx vs ((lb.drop a).take M) := by
  have e : ((a : Int) + (M : Int)) = ((a + M : Nat) : Int) := by omega
  rw [e]
  have hl : ((lb.drop a).take M).length = M := by rw [List.length_take, List.length_drop]; omega
  rcases hr with ⟨rfl, rfl⟩ | ⟨ad, c, rfl, rfl⟩ | ⟨h, off, cap, rfl, hc, _⟩
  · obtain rfl : a = 0 := by simp at ha; omega
    obtain rfl : M = 0 := by simp at ha; omega
    exact ⟨_, sl_run2 none 0 0 0 0 (by omega) (by omega), fun wx h => .inl ⟨rfl, by simp⟩⟩
  · obtain rfl : a = 0 := by simp at ha; omega
    obtain rfl : M = 0 := by simp at ha; omega
    refine ⟨_, sl_run2 (some ad) 0 c 0 0 (by omega) (by omega), fun wx h => .inr (.inl ?_)⟩
    unfold sliced
    split
    · exact ⟨_, _, rfl, by simp⟩
    · exact ⟨_, _, rfl, by simp⟩
  · refine ⟨_, sl_run2 (some ⟨h, off, none⟩) lb.length cap a (a + M) (by omega) (by omega), fun wx hx => ?_⟩
    unfold sliced
    by_cases hca : cap = a
    · obtain rfl : M = 0 := by omega
      rw [if_pos hca]
      exact .inr (.inl ⟨_, _, by rw [Nat.add_zero, Nat.sub_self], by simp⟩)
    · rw [if_neg hca]
      rcases hx with ⟨e, _⟩ | ⟨ad, c, e, h0⟩ | ⟨h', off', cap', e, _, h3⟩
      · cases e
      · injection e with e1 e2
        obtain rfl : M = 0 := by omega
        exact .inr (.inl ⟨_, _, by rw [Nat.add_zero, Nat.sub_self]; rfl, by simp⟩)
      · injection e with e1 e2 e3
        injection e1 with e1
        injection e1 with e1 e4
        subst e1 e3 e4
        refine .inr (.inr ⟨h, off + a, cap - a, ?_, by omega, fun i hi => ?_⟩)
        · rw [hl, show a + M - a = M by omega]
          show Value.slice (some (Addr.add ⟨h, off, none⟩ (a * 1))) M (cap - a) = _
          rw [Nat.mul_one]
          cases a <;> rfl
        · rw [hl] at hi
          rw [Nat.add_assoc, h3 (a + i) (by omega)]
          simp [List.getD_eq_getElem?_getD, hi]

/-- What a call of the document's reader leaves that tells bytes. -/
def RfPostB (x : Nat) (vB : Value) (why : Int) (a : Nat) (l : List Int) (w : World) (e : Ending) (w' : World) : Prop :=
  ∃ b res, ErrB why a b ∧ e = .returned (.tuple #[res, .agg #[.int .i64 why, .int .i64 b]]) ∧ RfAt w' x vB a why b ∧ (Grown w w' fun k => k = x) ∧ RowAt w' res l ∧ ∀ k, res.ownBlock = some k → w.heap.size ≤ k
theorem row_two {w : World} {g : Nat} {v : Value} {l : List Int} (h : RowAt w v l) (hg : v.ownBlock ≠ some g) (a b : Value) : RowAt ((w.setCell ⟨g, 0, none⟩ a).setCell ⟨g, 1, none⟩ b) v l :=
  (h.grown (Grown.setCell w g 0 a (S := fun k => k = g) fun _ => rfl) (fun k hk _ e => hg (by rw [hk, e]))).grown (Grown.setCell _ g 1 b (S := fun k => k = g) fun _ => rfl) (fun k hk _ e => hg (by rw [hk, e]))

set_option maxRecDepth 8000 in
set_option maxHeartbeats 1000000 in
theorem xraw_bad (x : Nat) (vB : Value) (a : Nat) (why b : Int) (v : Value) (w : World) (h : RfAt w x vB a why b) (hw : why ≠ 0) :
    Calls Try.prog 9 #[ptr x, v] w (RfStuck why b (.slice none 0 0) w) := by
  have HS := Keep.mk (RS.start h)
  have HB := Keep.mk (below_new w (.cells #[.int .i64 0, .int .i64 0] 27))
  have hy1 : (why == 0) = false := by simpa using hw
  clear h
  go_enter Try.func9, Try.ntmps9
  go_wp2_with (first | (refine wpList_new rfl 27 rfl _ Try.new27 ?_; refine Hid.out ?_))
  refine hid_in ?_
  generalize w.alloc (.cells #[.int .i64 0, .int .i64 0] 27) = w1 at *
  have c2 := RfAt.c2 HS.out.rf
  have c3 := RfAt.c3 HS.out.rf
  have d0 := HS.out.d0
  have d1 := HS.out.d1
  have e0 := HS.out.cell.frozen 0
  have e1 := HS.out.cell.frozen 1
  go_wp2_with fail
  go_region
  go_wp2
  exact bodyPost_ret (results_tmp_cell_row Try.results9 _ _ w.heap.size 27 _ (0, 0) _ _ rfl rfl (HS.out.fin (.int .i64 why) (.int .i64 b)).1.drew Try.underlying27 rfl Try.size27) rfl ⟨rfl, (below_two HB.out (Nat.le_refl _) _ _).drew⟩

set_option maxRecDepth 8000 in
set_option maxHeartbeats 4000000 in
theorem xraw_good (x : Nat) (vB : Value) (l : List Int) (a : Nat) (n : Int) (w : World) (h : RfAt w x vB a 0 0) (hR : ∀ wx, (Grown w wx fun k => k = x) → RowAt wx vB l) (ha : a ≤ l.length) (hb : l.length ≤ 140737488355328) (D : List Int) (hD : D = l.drop a) (W : Int) (hW : W = nextW D n) (N : Nat) (hN : N = nextN D n) :
    Calls Try.prog 9 #[ptr x, .int .i64 n] w (RfPostB x vB W (a + N) (D.take N) w) := by
  have HS := Keep.mk (RS.start h)
  have HR := Keep.mk hR
  have hlen : D.length = l.length - a := by rw [hD, List.length_drop]
  obtain ⟨va, vc, hvB⟩ := row_form (hR w (Grown.refl _ _))
  subst hvB
  have Hb := Keep.mk hb
  have Ha := Keep.mk ha
  have hbi : (l.length : Int) ≤ 140737488355328 := by omega
  have hai : (a : Int) ≤ (l.length : Int) := by omega
  by_cases hneg : n < 0
  · have HW : W = 1 := by rw [hW]; unfold nextW; rw [if_pos hneg]
    have HN : N = 0 := by rw [hN]; exact nextN_1 D n (by rw [← hW, HW]; decide)
    subst HN
    rw [HW]
    clear h hR hW hN hlen ha hb hD HW
    go_enter Try.func9, Try.ntmps9
    go_wp2_with (first | (refine wpList_new rfl 27 rfl _ Try.new27 ?_; refine Hid.out ?_))
    refine hid_in ?_
    generalize w.alloc (.cells #[.int .i64 0, .int .i64 0] 27) = w1 at *
    have c2 := RfAt.c2 HS.out.rf
    have k1 := RfAt.c1 HS.out.rf
    go_wp2_with fail
    refine (xwrong_any x _ a 1 w1 HS.out.rf).mono ?_
    rintro e w4 ⟨rfl, hr, hg⟩
    have HS4 := Keep.mk (HS.out.turned hr hg)
    clear hr hg k1
    have d0 := HS4.out.d0
    have d1 := HS4.out.d1
    have e0 := HS4.out.cell.frozen 0
    have e1 := HS4.out.cell.frozen 1
    go_wp2
    have hf := HS4.out.fin (.int .i64 1) (.int .i64 (a : Int))
    exact bodyPost_ret (results_tmp_cell_row Try.results9 _ _ w.heap.size 27 _ (0, 0) _ _ rfl rfl hf.1 Try.underlying27 rfl Try.size27) rfl ⟨_, _, .inr ⟨by decide, rfl⟩, rfl, hf.2.1, hf.2.2, .inl ⟨rfl, by simp⟩, fun k hk => by simp [Value.ownBlock] at hk⟩
  by_cases hbig : (D.length : Int) < n
  · have HW : W = 20 := by rw [hW]; unfold nextW; rw [if_neg hneg, if_pos hbig]
    have HN : N = 0 := by rw [hN]; exact nextN_1 D n (by rw [← hW, HW]; decide)
    subst HN
    rw [HW]
    have hbig' : (l.length : Int) - (a : Int) < n := by omega
    clear h hR hW hN hlen ha hb hD HW
    go_enter Try.func9, Try.ntmps9
    go_wp2_with (first | (refine wpList_new rfl 27 rfl _ Try.new27 ?_; refine Hid.out ?_))
    refine hid_in ?_
    generalize w.alloc (.cells #[.int .i64 0, .int .i64 0] 27) = w1 at *
    have c2 := RfAt.c2 HS.out.rf
    go_wp2_with fail
    refine (xleft_any x _ l.length vc a 0 0 w1 HS.out.rf Ha.out Hb.out).mono ?_
    rintro e w2 ⟨rfl, qd, hw2⟩
    have HS2 := Keep.mk (HS.out.later (w2 := w2) (by rw [hw2]; exact below_drewN _ _))
    clear hw2 c2 HS
    have k1 := RfAt.c1 HS2.out.rf
    go_wp2_with fail
    refine (xwrong_any x _ a 20 w2 HS2.out.rf).mono ?_
    rintro e w4 ⟨rfl, hr, hg⟩
    have HS4 := Keep.mk (HS2.out.turned hr hg)
    clear hr hg k1
    have d0 := HS4.out.d0
    have d1 := HS4.out.d1
    have e0 := HS4.out.cell.frozen 0
    have e1 := HS4.out.cell.frozen 1
    go_wp2
    have hf := HS4.out.fin (.int .i64 20) (.int .i64 (a : Int))
    exact bodyPost_ret (results_tmp_cell_row Try.results9 _ _ w.heap.size 27 _ (0, 0) _ _ rfl rfl hf.1 Try.underlying27 rfl Try.size27) rfl ⟨_, _, .inr ⟨by decide, rfl⟩, rfl, hf.2.1, hf.2.2, .inl ⟨rfl, by simp⟩, fun k hk => by simp [Value.ownBlock] at hk⟩
  · obtain ⟨M, rfl⟩ : ∃ M : Nat, n = (M : Int) := ⟨n.toNat, by omega⟩
    have HW : W = 0 := by rw [hW]; unfold nextW; rw [if_neg hneg, if_neg hbig]
    have HN : N = M := by rw [hN, (nextN_0 D (M : Int) (by rw [← hW, HW])).1]; rfl
    subst HN
    rw [HW, hD]
    have hbig' : ¬ ((l.length : Int) - (a : Int) < (N : Int)) := by omega
    have hMl : a + N ≤ l.length := by omega
    have HMl : Keep (a + N ≤ l.length) := ⟨hMl⟩
    have hMi : (a : Int) + (N : Int) ≤ (l.length : Int) := by omega
    obtain ⟨vs, hsl, hrs⟩ := mid_any _ l w (hR w (Grown.refl _ _)) a N hMl
    have HRs := Keep.mk hrs
    clear hrs hMl
    clear h hR hW hN hlen ha hb hD HW
    go_enter Try.func9, Try.ntmps9
    go_wp2_with (first | (refine wpList_new rfl 27 rfl _ Try.new27 ?_; refine Hid.out ?_))
    refine hid_in ?_
    generalize w.alloc (.cells #[.int .i64 0, .int .i64 0] 27) = w1 at *
    have c2 := RfAt.c2 HS.out.rf
    go_wp2_with fail
    refine (xleft_any x _ l.length vc a 0 0 w1 HS.out.rf Ha.out Hb.out).mono ?_
    rintro e w2 ⟨rfl, qd, hw2⟩
    have HS2 := Keep.mk (HS.out.later (w2 := w2) (by rw [hw2]; exact below_drewN _ _))
    clear hw2 c2 HS
    have c2 := RfAt.c2 HS2.out.rf
    go_wp2_with fail
    obtain ⟨wk, rfl⟩ : ∃ wk, wk = w2 := ⟨_, rfl⟩
    have HE := Keep.mk (Blk.new wk 5 #[])
    have HS4 := Keep.mk (HS2.out.later (below_new wk (.cells #[] 5)))
    have Hxk : Keep (x < wk.heap.size) := ⟨Blk.lt HS2.out.rf⟩
    have Hgk : Keep (w.heap.size < wk.heap.size) := ⟨HS2.out.cell.lt⟩
    generalize wk.alloc (.cells #[] 5) = w4 at *
    have HRv : Keep (RowAt w4.drew vs ((l.drop a).take N)) := ⟨HRs.out _ (HR.out _ HS4.out.gr.drew)⟩
    have g0 : w4.drew.cell? ⟨x, 0, none⟩ = some (Value.slice va l.length vc) := RfAt.c0 HS4.out.rf
    have g1 : w4.drew.cell? ⟨x, 1, none⟩ = some (.int .i64 (a : Int)) := RfAt.c1 HS4.out.rf
    have hwi : IntKind.i64.wrap ((a : Int) + (N : Int)) = (a : Int) + (N : Int) := by rw [IntKind.wrap_i64]; omega
    clear c2 HS2
    refine wp_region_held_drew (S := fun wx => wx.cell? ⟨x, 0, none⟩ = some (Value.slice va l.length vc) ∧ wx.cell? ⟨x, 1, none⟩ = some (.int .i64 (a : Int))) (by kernel_rfl) ⟨g0, g1⟩ (fun hHeld => ?_)
    refine wpAnyH_take (i := 0) (oi := ⟨some 36, Op.move (Operand.tmp 6), 22, _, _, none⟩) (v := .slice (some ⟨wk.heap.size, 0, none⟩) 0 0) rfl (by kernel_rfl) (by kernel_rfl) (by kernel_rfl) (fun _ _ _ h => h) (Or.inl ⟨by rfl, fun w hS => by go_simp⟩) hHeld ?_
    simp only [Act.put, List.setIfInBounds_toArray, List.set_cons_zero, List.set_cons_succ]
    refine wpAnyH_take (i := 1) (oi := ⟨some 37, Op.move (Operand.tmp 0), 25, _, _, none⟩) (v := ptr x) rfl (by kernel_rfl) (by kernel_rfl) (by kernel_rfl) (fun _ _ _ h => h) (Or.inl ⟨by rfl, fun w hS => by go_simp⟩) hHeld ?_
    simp only [Act.put, List.setIfInBounds_toArray, List.set_cons_zero, List.set_cons_succ]
    refine wpAnyH_take (i := 2) (oi := ⟨some 38, Op.nilCheck (Operand.tmp 37), 0, _, _, none⟩) (v := .pointer (some ⟨x, 0, none⟩)) rfl (by kernel_rfl) (by kernel_rfl) (by kernel_rfl) (fun _ _ _ h => h) (Or.inl ⟨by rfl, fun w hS => by go_simp⟩) hHeld ?_
    simp only [Act.put, List.setIfInBounds_toArray, List.set_cons_zero, List.set_cons_succ]
    refine wpAnyH_take (i := 3) (oi := ⟨some 39, Op.fieldAddr 29 (Operand.tmp 38) 0, 0, _, _, none⟩) (v := .pointer (some ⟨x, 0, none⟩)) rfl (by kernel_rfl) (by kernel_rfl) (by kernel_rfl) (fun _ _ _ h => h) (Or.inl ⟨by rfl, fun w hS => by go_simp⟩) hHeld ?_
    simp only [Act.put, List.setIfInBounds_toArray, List.set_cons_zero, List.set_cons_succ]
    refine wpAnyH_take (i := 4) (oi := ⟨some 40, Op.load 22 (Operand.tmp 39), 22, _, _, none⟩) (v := Value.slice va l.length vc) rfl (by kernel_rfl) (by kernel_rfl) (by kernel_rfl) (fun _ _ _ h => h) (Or.inl ⟨by rfl, fun w hS => by (obtain ⟨hS1, hS2⟩ := hS; clear hS2; go_simp)⟩) hHeld ?_
    simp only [Act.put, List.setIfInBounds_toArray, List.set_cons_zero, List.set_cons_succ]
    refine wpAnyH_take (i := 5) (oi := ⟨some 41, Op.move (Operand.tmp 0), 25, _, _, none⟩) (v := ptr x) rfl (by kernel_rfl) (by kernel_rfl) (by kernel_rfl) (fun _ _ _ h => h) (Or.inl ⟨by rfl, fun w hS => by go_simp⟩) hHeld ?_
    simp only [Act.put, List.setIfInBounds_toArray, List.set_cons_zero, List.set_cons_succ]
    refine wpAnyH_take (i := 6) (oi := ⟨some 42, Op.nilCheck (Operand.tmp 41), 0, _, _, none⟩) (v := .pointer (some ⟨x, 0, none⟩)) rfl (by kernel_rfl) (by kernel_rfl) (by kernel_rfl) (fun _ _ _ h => h) (Or.inl ⟨by rfl, fun w hS => by go_simp⟩) hHeld ?_
    simp only [Act.put, List.setIfInBounds_toArray, List.set_cons_zero, List.set_cons_succ]
    refine wpAnyH_take (i := 7) (oi := ⟨some 43, Op.fieldAddr 29 (Operand.tmp 42) 1, 0, _, _, none⟩) (v := .pointer (some ⟨x, 1, none⟩)) rfl (by kernel_rfl) (by kernel_rfl) (by kernel_rfl) (fun _ _ _ h => h) (Or.inl ⟨by rfl, fun w hS => by go_simp⟩) hHeld ?_
    simp only [Act.put, List.setIfInBounds_toArray, List.set_cons_zero, List.set_cons_succ]
    refine wpAnyH_take (i := 8) (oi := ⟨some 44, Op.load 3 (Operand.tmp 43), 3, _, _, none⟩) (v := .int .i64 (a : Int)) rfl (by kernel_rfl) (by kernel_rfl) (by kernel_rfl) (fun _ _ _ h => h) (Or.inl ⟨by rfl, fun w hS => by (obtain ⟨hS1, hS2⟩ := hS; clear hS1; go_simp)⟩) hHeld ?_
    simp only [Act.put, List.setIfInBounds_toArray, List.set_cons_zero, List.set_cons_succ]
    refine wpAnyH_take (i := 9) (oi := ⟨some 45, Op.move (Operand.tmp 0), 25, _, _, none⟩) (v := ptr x) rfl (by kernel_rfl) (by kernel_rfl) (by kernel_rfl) (fun _ _ _ h => h) (Or.inl ⟨by rfl, fun w hS => by go_simp⟩) hHeld ?_
    simp only [Act.put, List.setIfInBounds_toArray, List.set_cons_zero, List.set_cons_succ]
    refine wpAnyH_take (i := 10) (oi := ⟨some 46, Op.nilCheck (Operand.tmp 45), 0, _, _, none⟩) (v := .pointer (some ⟨x, 0, none⟩)) rfl (by kernel_rfl) (by kernel_rfl) (by kernel_rfl) (fun _ _ _ h => h) (Or.inl ⟨by rfl, fun w hS => by go_simp⟩) hHeld ?_
    simp only [Act.put, List.setIfInBounds_toArray, List.set_cons_zero, List.set_cons_succ]
    refine wpAnyH_take (i := 11) (oi := ⟨some 47, Op.fieldAddr 29 (Operand.tmp 46) 1, 0, _, _, none⟩) (v := .pointer (some ⟨x, 1, none⟩)) rfl (by kernel_rfl) (by kernel_rfl) (by kernel_rfl) (fun _ _ _ h => h) (Or.inl ⟨by rfl, fun w hS => by go_simp⟩) hHeld ?_
    simp only [Act.put, List.setIfInBounds_toArray, List.set_cons_zero, List.set_cons_succ]
    refine wpAnyH_take (i := 12) (oi := ⟨some 48, Op.load 3 (Operand.tmp 47), 3, _, _, none⟩) (v := .int .i64 (a : Int)) rfl (by kernel_rfl) (by kernel_rfl) (by kernel_rfl) (fun _ _ _ h => h) (Or.inl ⟨by rfl, fun w hS => by (obtain ⟨hS1, hS2⟩ := hS; clear hS1; go_simp)⟩) hHeld ?_
    simp only [Act.put, List.setIfInBounds_toArray, List.set_cons_zero, List.set_cons_succ]
    refine wpAnyH_take (i := 13) (oi := ⟨some 49, Op.move (Operand.tmp 1), 3, _, _, none⟩) (v := .int .i64 (N : Int)) rfl (by kernel_rfl) (by kernel_rfl) (by kernel_rfl) (fun _ _ _ h => h) (Or.inl ⟨by rfl, fun w hS => by go_simp⟩) hHeld ?_
    simp only [Act.put, List.setIfInBounds_toArray, List.set_cons_zero, List.set_cons_succ]
    refine wpAnyH_take (i := 14) (oi := ⟨some 50, Op.binOp BinOp.add 3 (Operand.tmp 48) (Operand.tmp 49) 3, 3, _, _, none⟩) (v := .int .i64 ((a : Int) + (N : Int))) rfl (by kernel_rfl) (by kernel_rfl) (by kernel_rfl) (fun _ _ _ h => h) (Or.inl ⟨by rfl, fun w hS => by go_simp⟩) hHeld ?_
    simp only [Act.put, List.setIfInBounds_toArray, List.set_cons_zero, List.set_cons_succ]
    refine wpAnyH_take (i := 15) (oi := ⟨some 51, Op.slice 22 (Operand.tmp 40) (some (Operand.tmp 44)) (some (Operand.tmp 50)) none, 22, _, _, none⟩) (v := vs) rfl (by kernel_rfl) (by kernel_rfl) (by kernel_rfl) (fun _ _ _ h => h) (yieldsIf_slice2 (by rfl) 22 (.tmp 40) (.tmp 44) (.tmp 50) rfl (Value.slice va l.length vc) (.int .i64 (a : Int)) (.int .i64 ((a : Int) + (N : Int))) vs rfl rfl rfl hsl) hHeld ?_
    simp only [Act.put, List.setIfInBounds_toArray, List.set_cons_zero, List.set_cons_succ]
    refine wpAnyH_ready (rs := [16]) (by kernel_rfl) (by simp) ?_
    refine AllReadyH.cons (o := ⟨some 52, Op.call { callee := Callee.builtin Builtin.append, args := #[Operand.tmp 36, Operand.tmp 51], argTypes := #[22, 22] }, 22, _, _, none⟩) rfl (fun K hK => ?_) AllReadyH.nil
    rw [if_pos (by rfl)]
    refine wp_app (.tmp 36) (.tmp 51) rfl (.slice (some ⟨wk.heap.size, 0, none⟩) 0 0) vs [] ((l.drop a).take N) rfl rfl (own_empty _ _ HE.out.drew) HRv.out (by rw [List.length_take, List.length_nil]; have := Hb.out; have := HMl.out; omega) ?_
    intro v' w5 hp
    have HP := Keep.mk hp
    have hrx : RfAt w5 x (Value.slice va l.length vc) a 0 0 := HP.out.grown.blk (Blk.drew HS4.out.rf) (by simp [Value.ownBlock]; have := Hxk.out; omega)
    refine hK.out _ _ ⟨hrx.c0, hrx.c1⟩ fun hHeld5 => ?_
    clear hK
    simp only [Act.put, List.setIfInBounds_toArray, List.set_cons_zero, List.set_cons_succ]
    refine wpAnyH_take (i := 17) (oi := ⟨some 6, Op.assign (Operand.tmp 52), 22, _, _, none⟩) (v := v') rfl (by kernel_rfl) (by kernel_rfl) (by kernel_rfl) (fun _ _ _ h => h) (Or.inl ⟨by rfl, fun w hS => by go_simp⟩) hHeld5 ?_
    simp only [Act.put, List.setIfInBounds_toArray, List.set_cons_zero, List.set_cons_succ]
    refine wpAnyH_done (by kernel_rfl) ?_ _
    have HS5 : Keep (RS w x (Value.slice va l.length vc) a 0 0 w5) := ⟨⟨hrx, HP.out.grown.blk (Blk.drew HS4.out.cell) (by simp [Value.ownBlock]; have := Hgk.out; omega), HS4.out.gr.drew.next HP.out.grown (fun k hk e => by simp [Value.ownBlock] at e; have := Hgk.out; omega), HS4.out.lt⟩⟩
    have hO := HP.out.1
    rw [List.nil_append] at hO
    have hnx : v'.ownBlock ≠ some x := fun e => absurd ((Blk.typ hrx).one (hO.typ e)) (by decide)
    have hng : v'.ownBlock ≠ some w.heap.size := fun e => absurd (HS5.out.cell.typ.one (hO.typ e)) (by decide)
    have HOk : Keep (∀ k, v'.ownBlock = some k → w.heap.size ≤ k) := ⟨fun k hk => by
      rcases HP.out.moved with e | ⟨k', e, hk'⟩
      · rw [e] at hk; simp [Value.ownBlock] at hk; have := Hgk.out; omega
      · rw [e] at hk
        injection hk with hk
        have : w4.heap.size ≤ k' := hk'
        have := HS4.out.gr.size
        omega⟩
    have HRo : Keep (RowAt (((w5.setCell ⟨x, 1, none⟩ (.int .i64 ((a : Int) + (N : Int)))).setCell ⟨w.heap.size, 0, none⟩ (.int .i64 0)).setCell ⟨w.heap.size, 1, none⟩ (.int .i64 0)) v' ((l.drop a).take N)) := ⟨row_two (hO.row.grown (Grown.setCell w5 x 1 _ (S := fun k => k = x) fun _ => rfl) (fun k hk _ e => hnx (by rw [hk, e]))) hng _ _⟩
    have hne : x ≠ w.heap.size := by have := HS5.out.lt; omega
    have hne' : w.heap.size ≠ x := fun e => hne e.symm
    have k1 := RfAt.c1 HS5.out.rf
    have f1 := Blk.frozen HS5.out.rf 1
    have d0 := HS5.out.d0
    have d1 := HS5.out.d1
    have e0 := HS5.out.cell.frozen 0
    have e1 := HS5.out.cell.frozen 1
    clear hO hnx hng hrx HP HS4 HE HRv g0 g1 hsl HR HRs hp
    go_wp2
    have hf := (HS5.out.step (a + N)).fin (.int .i64 0) (.int .i64 0)
    exact bodyPost_ret (results_tmp_cell_row Try.results9 _ _ w.heap.size 27 _ (0, 0) _ _ rfl rfl hf.1 Try.underlying27 rfl Try.size27) rfl ⟨_, _, .inl ⟨rfl, rfl⟩, rfl, hf.2.1, hf.2.2, HRo.out, HOk.out⟩
end Go.Proofs.Ytkjjlfpghhefcab
namespace Go.Proofs.Ytkjjlfpghhefcab
open Go.RowKit

set_option maxRecDepth 8000 in
set_option maxHeartbeats 1000000 in
theorem xzag_any (x : Int) (w : World) (hx0 : 0 ≤ x) (hx1 : x < 18446744073709551616) :
    Calls Try.prog 80 #[.int .u64 x] w fun e w' => e = .returned (.int .i64 (zag x)) ∧ w' = w := by
  have h2 : 0 ≤ x / 2 := by omega
  have h3 : x / 2 ≤ 9223372036854775807 := by omega
  obtain ⟨z, hz⟩ : ∃ z, Keep (z = zag x) := ⟨_, ⟨rfl⟩⟩
  rw [← hz.out]
  by_cases h : x % 2 = 0
  · have h' : (x % 2 == 0) = true := by simp [h]
    have hy : Keep (z = x / 2) := ⟨by rw [hz.out]; unfold zag; rw [if_neg (by omega)]⟩
    clear hx1 h hz
    go_enter Try.func80, Try.ntmps80
    go_wp2
    go_ret
    refine ⟨?_, rfl⟩
    rw [hy.out]
    try rfl
  · have h' : (x % 2 == 0) = false := by simpa using h
    have hy : Keep (z = -(x / 2) - 1) := ⟨by rw [hz.out]; unfold zag; rw [if_pos (by omega)]⟩
    clear hx1 h hz
    go_enter Try.func80, Try.ntmps80
    go_wp2
    go_ret
    refine ⟨?_, rfl⟩
    rw [hy.out]
    try rfl

set_option maxRecDepth 8000 in
set_option maxHeartbeats 2000000 in
theorem xsigned_bad (x : Nat) (vB : Value) (a : Nat) (why b : Int) (w : World) (h : RfAt w x vB a why b) (hw : why ≠ 0) :
    Calls Try.prog 56 #[ptr x] w (RfStuck why b (.int .i64 0) w) := by
  have HS := Keep.mk (RS.start h)
  have HB := Keep.mk (below_new w (.cells #[.int .i64 0, .int .i64 0] 27))
  have hy1 : (why == 0) = false := by simpa using hw
  have Hw := Keep.mk hw
  clear h hw
  go_enter Try.func56, Try.ntmps56
  go_wp2_with (first | (refine wpList_new rfl 27 rfl _ Try.new27 ?_; refine Hid.out ?_))
  refine hid_in ?_
  generalize w.alloc (.cells #[.int .i64 0, .int .i64 0] 27) = w1 at *
  go_wp2_with fail
  refine (xnum_bad x vB a why b _ w1 HS.out.rf Hw.out).mono ?_
  rintro e w2 ⟨rfl, hb2⟩
  have HS2 := Keep.mk (HS.out.later hb2)
  have HB2 := Keep.mk (HB.out.trans (hb2.mono HB.out.size))
  clear hb2 HS HB
  go_wp2_with (first | (refine wpList_new rfl 27 rfl _ Try.new27 ?_; refine Hid.out ?_))
  refine hid_in ?_
  have HN := Keep.mk (Blk.new w2 27 #[.int .i64 0, .int .i64 0])
  have HA := Keep.mk (below_new w2 (.cells #[.int .i64 0, .int .i64 0] 27))
  generalize w2.alloc (.cells #[.int .i64 0, .int .i64 0] 27) = w3 at *
  have n0 : w3.cell? ⟨w2.heap.size, 0, none⟩ = some (.int .i64 0) := by rw [HN.out.cell]; rfl
  have n1 : w3.cell? ⟨w2.heap.size, 1, none⟩ = some (.int .i64 0) := by rw [HN.out.cell]; rfl
  have m0 := HN.out.frozen 0
  have m1 := HN.out.frozen 1
  go_wp2_with fail
  have HN4 := Keep.mk (show Blk ((w3.setCell ⟨w2.heap.size, 0, none⟩ (.int .i64 why)).setCell ⟨w2.heap.size, 1, none⟩ (.int .i64 b)) w2.heap.size 27 #[.int .i64 why, .int .i64 b] from (HN.out.set 0 _).set 1 _)
  have HB4 := Keep.mk (below_two HA.out (Nat.le_refl _) (.int .i64 why) (.int .i64 b))
  clear n0 n1 m0 m1 HN HA
  generalize (w3.setCell ⟨w2.heap.size, 0, none⟩ (.int .i64 why)).setCell ⟨w2.heap.size, 1, none⟩ (.int .i64 b) = w4 at *
  have HS4 := Keep.mk (HS2.out.later HB4.out)
  have HB5 := Keep.mk (HB2.out.trans (HB4.out.mono HB2.out.size))
  have n0 : w4.cell? ⟨w2.heap.size, 0, none⟩ = some (.int .i64 why) := by rw [HN4.out.cell]; rfl
  have n1 : w4.cell? ⟨w2.heap.size, 1, none⟩ = some (.int .i64 b) := by rw [HN4.out.cell]; rfl
  have d0 := HS4.out.d0
  have d1 := HS4.out.d1
  have e0 := HS4.out.cell.frozen 0
  have e1 := HS4.out.cell.frozen 1
  clear HS2 HB2 HB4 HN4
  go_region
  go_wp2
  exact bodyPost_ret (results_tmp_cell_row Try.results56 _ _ w.heap.size 27 _ (0, 0) _ _ rfl rfl (HS4.out.fin (.int .i64 why) (.int .i64 b)).1.drew Try.underlying27 rfl Try.size27) rfl ⟨rfl, (below_two HB5.out (Nat.le_refl _) _ _).drew⟩

set_option maxRecDepth 8000 in
set_option maxHeartbeats 4000000 in
theorem xsigned_good (x : Nat) (vB : Value) (l : List Int) (a : Nat) (w : World) (h : RfAt w x vB a 0 0) (hR : ∀ wx, (Grown w wx fun k => k = x) → RowAt wx vB l) (ha : a ≤ l.length) (hb : l.length ≤ 140737488355328) (hby : Byts l) (D : List Int) (hD : D = l.drop a) (W X : Int) (N : Nat) (hM : fstM D 18446744073709551615 = (X, (N : Int), W)) (y : Int) (hy : y = if W = 0 then zag X else 0) (hx0 : 0 ≤ X) (hx1 : X < 18446744073709551616) :
    Calls Try.prog 56 #[ptr x] w (RfPost x vB W (a + N) (.int .i64 y) w) := by
  have HS := Keep.mk (RS.start h)
  have HC : Keep (∀ w1, RS w x vB a 0 0 w1 → Calls Try.prog 35 #[ptr x, .int .u64 18446744073709551615] w1 (RfPost x vB W (a + N) (.int .u64 X) w1)) := ⟨fun w1 hs => by
    have := xnum_good x vB l a 18446744073709551615 w1 hs.rf (fun wx hg => hR wx (hs.gr.trans hg)) ha hb hby D hD W X N hM
    rw [show ((18446744073709551615 : Nat) : Int) = 18446744073709551615 from rfl] at this
    exact this⟩
  have HX0 := Keep.mk hx0
  have HX1 := Keep.mk hx1
  have HY := Keep.mk hy
  clear h hR ha hb hby hD hM hy hx0 hx1
  go_enter Try.func56, Try.ntmps56
  go_wp2_with (first | (refine wpList_new rfl 27 rfl _ Try.new27 ?_; refine Hid.out ?_))
  refine hid_in ?_
  generalize w.alloc (.cells #[.int .i64 0, .int .i64 0] 27) = w1 at *
  go_wp2_with fail
  refine (HC.out w1 HS.out).mono ?_
  rintro e w2 ⟨b, hE, rfl, hr, hg⟩
  have HS2 := Keep.mk (HS.out.turned hr hg)
  clear hr hg HS HC
  rcases hE with ⟨hW, rfl⟩ | ⟨hW, rfl⟩
  · obtain rfl : y = zag X := by rw [HY.out, if_pos hW]
    subst hW
    clear HY
    go_wp2_with (first | (refine wpList_new rfl 27 rfl _ Try.new27 ?_; refine Hid.out ?_))
    refine hid_in ?_
    have HN := Keep.mk (Blk.new w2 27 #[.int .i64 0, .int .i64 0])
    have HA := Keep.mk (below_new w2 (.cells #[.int .i64 0, .int .i64 0] 27))
    generalize w2.alloc (.cells #[.int .i64 0, .int .i64 0] 27) = w3 at *
    have n0 : w3.cell? ⟨w2.heap.size, 0, none⟩ = some (.int .i64 0) := by rw [HN.out.cell]; rfl
    have n1 : w3.cell? ⟨w2.heap.size, 1, none⟩ = some (.int .i64 0) := by rw [HN.out.cell]; rfl
    have m0 := HN.out.frozen 0
    have m1 := HN.out.frozen 1
    go_wp2_with fail
    have HN4 := Keep.mk (show Blk ((w3.setCell ⟨w2.heap.size, 0, none⟩ (.int .i64 0)).setCell ⟨w2.heap.size, 1, none⟩ (.int .i64 0)) w2.heap.size 27 #[.int .i64 0, .int .i64 0] from (HN.out.set 0 _).set 1 _)
    have HB4 := Keep.mk (below_two HA.out (Nat.le_refl _) (.int .i64 0) (.int .i64 0))
    clear n0 n1 m0 m1 HN HA
    generalize (w3.setCell ⟨w2.heap.size, 0, none⟩ (.int .i64 0)).setCell ⟨w2.heap.size, 1, none⟩ (.int .i64 0) = w4 at *
    have HS4 := Keep.mk (HS2.out.later HB4.out)
    have n0 : w4.cell? ⟨w2.heap.size, 0, none⟩ = some (.int .i64 0) := by rw [HN4.out.cell]; rfl
    have n1 : w4.cell? ⟨w2.heap.size, 1, none⟩ = some (.int .i64 0) := by rw [HN4.out.cell]; rfl
    have d0 := HS4.out.d0
    have d1 := HS4.out.d1
    have e0 := HS4.out.cell.frozen 0
    have e1 := HS4.out.cell.frozen 1
    clear HB4 HN4 HS2
    go_region_with (go_at_call 80; refine (xzag_any X _ HX0.out HX1.out).mono ?_; rintro e w' ⟨rfl, rfl⟩)
    all_goals
      go_wp2
      have hf := HS4.out.fin (.int .i64 0) (.int .i64 0)
      exact bodyPost_ret (results_tmp_cell_row Try.results56 _ _ w.heap.size 27 _ (0, 0) _ _ rfl rfl hf.1.drew Try.underlying27 rfl Try.size27) rfl ⟨_, .inl ⟨rfl, rfl⟩, rfl, (Blk.drew hf.2.1), hf.2.2.drew⟩
  · obtain rfl : y = 0 := by rw [HY.out, if_neg hW]
    have Hw0 := Keep.mk hW
    have hy1 : (W == 0) = false := by simpa using hW
    clear HY hW
    go_wp2_with (first | (refine wpList_new rfl 27 rfl _ Try.new27 ?_; refine Hid.out ?_))
    refine hid_in ?_
    have HN := Keep.mk (Blk.new w2 27 #[.int .i64 0, .int .i64 0])
    have HA := Keep.mk (below_new w2 (.cells #[.int .i64 0, .int .i64 0] 27))
    generalize w2.alloc (.cells #[.int .i64 0, .int .i64 0] 27) = w3 at *
    have n0 : w3.cell? ⟨w2.heap.size, 0, none⟩ = some (.int .i64 0) := by rw [HN.out.cell]; rfl
    have n1 : w3.cell? ⟨w2.heap.size, 1, none⟩ = some (.int .i64 0) := by rw [HN.out.cell]; rfl
    have m0 := HN.out.frozen 0
    have m1 := HN.out.frozen 1
    go_wp2_with fail
    have HN4 := Keep.mk (show Blk ((w3.setCell ⟨w2.heap.size, 0, none⟩ (.int .i64 W)).setCell ⟨w2.heap.size, 1, none⟩ (.int .i64 ((a : Int) + (N : Int)))) w2.heap.size 27 #[.int .i64 W, .int .i64 ((a : Int) + (N : Int))] from (HN.out.set 0 _).set 1 _)
    have HB4 := Keep.mk (below_two HA.out (Nat.le_refl _) (.int .i64 W) (.int .i64 ((a : Int) + (N : Int))))
    clear n0 n1 m0 m1 HN HA
    generalize (w3.setCell ⟨w2.heap.size, 0, none⟩ (.int .i64 W)).setCell ⟨w2.heap.size, 1, none⟩ (.int .i64 ((a : Int) + (N : Int))) = w4 at *
    have HS4 := Keep.mk (HS2.out.later HB4.out)
    have n0 : w4.cell? ⟨w2.heap.size, 0, none⟩ = some (.int .i64 W) := by rw [HN4.out.cell]; rfl
    have n1 : w4.cell? ⟨w2.heap.size, 1, none⟩ = some (.int .i64 ((a : Int) + (N : Int))) := by rw [HN4.out.cell]; rfl
    have d0 := HS4.out.d0
    have d1 := HS4.out.d1
    have e0 := HS4.out.cell.frozen 0
    have e1 := HS4.out.cell.frozen 1
    clear HB4 HN4 HS2
    go_region
    go_wp2
    have hf := HS4.out.fin (.int .i64 W) (.int .i64 ((a : Int) + (N : Int)))
    exact bodyPost_ret (results_tmp_cell_row Try.results56 _ _ w.heap.size 27 _ (0, 0) _ _ rfl rfl hf.1.drew Try.underlying27 rfl Try.size27) rfl ⟨_, .inr ⟨Hw0.out, rfl⟩, rfl, (Blk.drew hf.2.1), hf.2.2.drew⟩

set_option maxRecDepth 8000 in
set_option maxHeartbeats 2000000 in
theorem xbytes_bad (x : Nat) (vB : Value) (a : Nat) (why b most : Int) (w : World) (h : RfAt w x vB a why b) (hw : why ≠ 0) (hm1 : -9223372036854775808 ≤ most) (hm2 : most ≤ 9223372036854775807) :
    Calls Try.prog 79 #[ptr x, .int .i64 most] w (RfStuck why b (.slice none 0 0) w) := by
  have HS := Keep.mk (RS.start h)
  have HB := Keep.mk (below_new w (.cells #[.int .i64 0, .int .i64 0] 27))
  have hy1 : (why == 0) = false := by simpa using hw
  have Hw := Keep.mk hw
  have hwm : Keep (0 ≤ most → IntKind.u64.wrap most = most) := ⟨fun h => by rw [IntKind.wrap_u64]; omega⟩
  clear h hw hm1 hm2
  by_cases hneg : most < 0
  all_goals
    go_enter Try.func79, Try.ntmps79
    go_wp2_with (first | (refine wpList_new rfl 27 rfl _ Try.new27 ?_; refine Hid.out ?_))
    refine hid_in ?_
    generalize w.alloc (.cells #[.int .i64 0, .int .i64 0] 27) = w1 at *
    go_wp2_with fail
    refine (xnum_bad x vB a why b _ w1 HS.out.rf Hw.out).mono ?_
    rintro e w2 ⟨rfl, hb2⟩
    have HS2 := Keep.mk (HS.out.later hb2)
    have HB2 := Keep.mk (HB.out.trans (hb2.mono HB.out.size))
    clear hb2 HS HB
    go_wp2_with (first | (refine wpList_new rfl 27 rfl _ Try.new27 ?_; refine Hid.out ?_))
    refine hid_in ?_
    have HN := Keep.mk (Blk.new w2 27 #[.int .i64 0, .int .i64 0])
    have HA := Keep.mk (below_new w2 (.cells #[.int .i64 0, .int .i64 0] 27))
    generalize w2.alloc (.cells #[.int .i64 0, .int .i64 0] 27) = w3 at *
    have n0 : w3.cell? ⟨w2.heap.size, 0, none⟩ = some (.int .i64 0) := by rw [HN.out.cell]; rfl
    have n1 : w3.cell? ⟨w2.heap.size, 1, none⟩ = some (.int .i64 0) := by rw [HN.out.cell]; rfl
    have m0 := HN.out.frozen 0
    have m1 := HN.out.frozen 1
    go_wp2_with fail
    have HN4 := Keep.mk (show Blk ((w3.setCell ⟨w2.heap.size, 0, none⟩ (.int .i64 why)).setCell ⟨w2.heap.size, 1, none⟩ (.int .i64 b)) w2.heap.size 27 #[.int .i64 why, .int .i64 b] from (HN.out.set 0 _).set 1 _)
    have HB4 := Keep.mk (below_two HA.out (Nat.le_refl _) (.int .i64 why) (.int .i64 b))
    clear n0 n1 m0 m1 HN HA
    generalize (w3.setCell ⟨w2.heap.size, 0, none⟩ (.int .i64 why)).setCell ⟨w2.heap.size, 1, none⟩ (.int .i64 b) = w4 at *
    have HS4 := Keep.mk (HS2.out.later HB4.out)
    have HB5 := Keep.mk (HB2.out.trans (HB4.out.mono HB2.out.size))
    have n0 : w4.cell? ⟨w2.heap.size, 0, none⟩ = some (.int .i64 why) := by rw [HN4.out.cell]; rfl
    have n1 : w4.cell? ⟨w2.heap.size, 1, none⟩ = some (.int .i64 b) := by rw [HN4.out.cell]; rfl
    have d0 := HS4.out.d0
    have d1 := HS4.out.d1
    have e0 := HS4.out.cell.frozen 0
    have e1 := HS4.out.cell.frozen 1
    clear HS2 HB2 HB4 HN4
    go_region
    go_wp2
    exact bodyPost_ret (results_tmp_cell_row Try.results79 _ _ w.heap.size 27 _ (0, 0) _ _ rfl rfl (HS4.out.fin (.int .i64 why) (.int .i64 b)).1.drew Try.underlying27 rfl Try.size27) rfl ⟨rfl, (below_two HB5.out (Nat.le_refl _) _ _).drew⟩
end Go.Proofs.Ytkjjlfpghhefcab
namespace Go.Proofs.Ytkjjlfpghhefcab
open Go.RowKit

set_option maxRecDepth 8000 in
set_option maxHeartbeats 4000000 in
theorem xbytes_good (x : Nat) (vB : Value) (l : List Int) (a : Nat) (w : World) (h : RfAt w x vB a 0 0) (hR : ∀ wx, (Grown w wx fun k => k = x) → RowAt wx vB l) (ha : a ≤ l.length) (hb : l.length ≤ 140737488355328) (hby : Byts l) (D : List Int) (hD : D = l.drop a) (most : Int) (mm : Nat) (hmm : (mm : Int) = max most 0) (hm2 : mm ≤ 9223372036854775807) (W : Int) (hW : W = (byt D (mm : Int)).1) (N : Nat) (hN : N = (byt D (mm : Int)).2.1) (L : List Int) (hL : L = (byt D (mm : Int)).2.2) :
    Calls Try.prog 79 #[ptr x, .int .i64 most] w (RfPostB x vB W (a + N) L w) := by
  have HS := Keep.mk (RS.start h)
  have HR := Keep.mk hR
  have Hb := Keep.mk hb
  have HD := Keep.mk hD
  have hsh := fstM_shape D (mm : Int)
  have hle := fstM_le D (mm : Int) (by rw [hD]; exact fun c hc => hby c (List.mem_of_mem_drop hc))
  have hby2 := byt_eq D (mm : Int)
  have hDl : D.length = l.length - a := by rw [hD, List.length_drop]
  obtain ⟨X, N1, W1, hM⟩ : ∃ X N1 W1, fstM D (mm : Int) = (X, ((N1 : Nat) : Int), W1) := ⟨(fstM D (mm : Int)).1, (fstM D (mm : Int)).2.1.toNat, (fstM D (mm : Int)).2.2, by rw [Int.toNat_of_nonneg hsh.2.1]⟩
  have hC := fun (w1 : World) (hs : RS w x vB a 0 0 w1) => xnum_good x vB l a mm w1 hs.rf (fun wx hg => hR wx (hs.gr.trans hg)) ha hb hby D hD W1 X N1 hM
  rw [hM] at hsh hle hby2
  simp only [Int.toNat_natCast] at hsh hle hby2
  rw [hby2] at hW hN hL
  have HZ : Keep (W1 = 0 → 0 ≤ X ∧ X ≤ 9223372036854775807 ∧ W = nextW (D.drop N1) X ∧ N = N1 + nextN (D.drop N1) X ∧ L = (D.drop N1).take (nextN (D.drop N1) X) ∧ a + N1 ≤ l.length) := ⟨fun h0 => by
    rw [if_pos h0] at hW hN hL
    have := hle h0
    exact ⟨this.1, by omega, hW, hN, hL, by omega⟩⟩
  have HF : Keep (W1 ≠ 0 → W = W1 ∧ N = 0 ∧ L = [] ∧ N1 = 0) := ⟨fun h0 => by
    rw [if_neg h0] at hW hN hL
    exact ⟨hW, hN, hL, by have := (hsh.1 h0).2; omega⟩⟩
  have Hmm := Keep.mk hmm
  have Hm2 := Keep.mk hm2
  clear h hR ha hb hby hD hsh hle hby2 hDl hM hW hN hL hmm hm2
  by_cases hneg : most < 0
  · have HC : Keep (∀ w1, RS w x vB a 0 0 w1 → Calls Try.prog 35 #[ptr x, .int .u64 0] w1 (RfPost x vB W1 (a + N1) (.int .u64 X) w1)) := ⟨fun w1 hs => by
      have := hC w1 hs
      rw [show (mm : Int) = 0 by have := Hmm.out; omega] at this
      exact this⟩
    clear hC
    go_enter Try.func79, Try.ntmps79
    go_wp2_with (first | (refine wpList_new rfl 27 rfl _ Try.new27 ?_; refine Hid.out ?_))
    refine hid_in ?_
    generalize w.alloc (.cells #[.int .i64 0, .int .i64 0] 27) = w1 at *
    go_wp2_with fail
    refine (HC.out w1 HS.out).mono ?_
    rintro e w2 ⟨b, hE, rfl, hr, hg⟩
    have HS2 := Keep.mk (HS.out.turned hr hg)
    clear hr hg HS HC
    rcases hE with ⟨hW, rfl⟩ | ⟨hW, rfl⟩
    · subst hW
      obtain ⟨hX0, hXm, hWe, hNe, hLe, hN1⟩ := HZ.out rfl
      have hXw : IntKind.i64.wrap X = X := by rw [IntKind.wrap_i64]; omega
      have HNe := Keep.mk hNe
      have HXr := Keep.mk (And.intro hX0 hXm)
      have HRaw : Keep (∀ w4, RS w x vB (a + N1) 0 0 w4 → Calls Try.prog 9 #[ptr x, .int .i64 X] w4 (RfPostB x vB W (a + N) L w4)) := ⟨fun w4 hs => by
        have := xraw_good x vB l (a + N1) X w4 hs.rf (fun wx hg => HR.out wx (hs.gr.trans hg)) hN1 Hb.out (D.drop N1) (by rw [HD.out, List.drop_drop]) W hWe (nextN (D.drop N1) X) rfl
        rw [Nat.add_assoc, ← hNe, ← hLe] at this
        exact this⟩
      clear hX0 hXm hWe hNe hLe hN1 HZ HF
      go_wp2_with (first | (refine wpList_new rfl 27 rfl _ Try.new27 ?_; refine Hid.out ?_))
      refine hid_in ?_
      have HN := Keep.mk (Blk.new w2 27 #[.int .i64 0, .int .i64 0])
      have HA := Keep.mk (below_new w2 (.cells #[.int .i64 0, .int .i64 0] 27))
      generalize w2.alloc (.cells #[.int .i64 0, .int .i64 0] 27) = w3 at *
      have n0 : w3.cell? ⟨w2.heap.size, 0, none⟩ = some (.int .i64 0) := by rw [HN.out.cell]; rfl
      have n1 : w3.cell? ⟨w2.heap.size, 1, none⟩ = some (.int .i64 0) := by rw [HN.out.cell]; rfl
      have m0 := HN.out.frozen 0
      have m1 := HN.out.frozen 1
      go_wp2_with fail
      have HN4 := Keep.mk (show Blk ((w3.setCell ⟨w2.heap.size, 0, none⟩ (.int .i64 0)).setCell ⟨w2.heap.size, 1, none⟩ (.int .i64 0)) w2.heap.size 27 #[.int .i64 0, .int .i64 0] from (HN.out.set 0 _).set 1 _)
      have HB4 := Keep.mk (below_two HA.out (Nat.le_refl _) (.int .i64 0) (.int .i64 0))
      clear n0 n1 m0 m1 HN HA
      generalize (w3.setCell ⟨w2.heap.size, 0, none⟩ (.int .i64 0)).setCell ⟨w2.heap.size, 1, none⟩ (.int .i64 0) = w4 at *
      have HS4 := Keep.mk (HS2.out.later HB4.out)
      have n0 : w4.cell? ⟨w2.heap.size, 0, none⟩ = some (.int .i64 0) := by rw [HN4.out.cell]; rfl
      have n1 : w4.cell? ⟨w2.heap.size, 1, none⟩ = some (.int .i64 0) := by rw [HN4.out.cell]; rfl
      have d0 := HS4.out.d0
      have d1 := HS4.out.d1
      have e0 := HS4.out.cell.frozen 0
      have e1 := HS4.out.cell.frozen 1
      clear HB4 HN4 HS2 n0 n1 d0 d1 e0 e1
      go_wp2_with fail
      refine (HRaw.out w4 HS4.out).mono ?_
      rintro e w5 ⟨b, res, hE, rfl, hr, hg, hrow, hok⟩
      have hls : w.heap.size < w4.heap.size := HS4.out.cell.lt
      have HS5 := Keep.mk (HS4.out.turned hr hg)
      have HRo := Keep.mk (row_two (g := w.heap.size) hrow (fun e => by have := hok _ e; omega) (.int .i64 W) (.int .i64 b))
      have HOk : Keep (∀ k, res.ownBlock = some k → w.heap.size ≤ k) := ⟨fun k hk => by have := hok k hk; omega⟩
      have HE := Keep.mk hE
      clear hr hg hrow hok hE hls HS4 HRaw
      have d0 := HS5.out.d0
      have d1 := HS5.out.d1
      have e0 := HS5.out.cell.frozen 0
      have e1 := HS5.out.cell.frozen 1
      go_wp2
      have hf := HS5.out.fin (.int .i64 W) (.int .i64 b)
      exact bodyPost_ret (results_tmp_cell_row Try.results79 _ _ w.heap.size 27 _ (0, 0) _ _ rfl rfl hf.1 Try.underlying27 rfl Try.size27) rfl ⟨_, _, HE.out, rfl, hf.2.1, hf.2.2, HRo.out, HOk.out⟩
    · obtain ⟨rfl, rfl, rfl, rfl⟩ := HF.out hW
      have Hw0 := Keep.mk hW
      have hy1 : (W == 0) = false := by simpa using hW
      clear HZ HF hW
      simp only [Nat.add_zero] at HS2 ⊢
      go_wp2_with (first | (refine wpList_new rfl 27 rfl _ Try.new27 ?_; refine Hid.out ?_))
      refine hid_in ?_
      have HN := Keep.mk (Blk.new w2 27 #[.int .i64 0, .int .i64 0])
      have HA := Keep.mk (below_new w2 (.cells #[.int .i64 0, .int .i64 0] 27))
      generalize w2.alloc (.cells #[.int .i64 0, .int .i64 0] 27) = w3 at *
      have n0 : w3.cell? ⟨w2.heap.size, 0, none⟩ = some (.int .i64 0) := by rw [HN.out.cell]; rfl
      have n1 : w3.cell? ⟨w2.heap.size, 1, none⟩ = some (.int .i64 0) := by rw [HN.out.cell]; rfl
      have m0 := HN.out.frozen 0
      have m1 := HN.out.frozen 1
      go_wp2_with fail
      have HN4 := Keep.mk (show Blk ((w3.setCell ⟨w2.heap.size, 0, none⟩ (.int .i64 W)).setCell ⟨w2.heap.size, 1, none⟩ (.int .i64 (a : Int))) w2.heap.size 27 #[.int .i64 W, .int .i64 (a : Int)] from (HN.out.set 0 _).set 1 _)
      have HB4 := Keep.mk (below_two HA.out (Nat.le_refl _) (.int .i64 W) (.int .i64 (a : Int)))
      clear n0 n1 m0 m1 HN HA
      generalize (w3.setCell ⟨w2.heap.size, 0, none⟩ (.int .i64 W)).setCell ⟨w2.heap.size, 1, none⟩ (.int .i64 (a : Int)) = w4 at *
      have HS4 := Keep.mk (HS2.out.later HB4.out)
      have n0 : w4.cell? ⟨w2.heap.size, 0, none⟩ = some (.int .i64 W) := by rw [HN4.out.cell]; rfl
      have n1 : w4.cell? ⟨w2.heap.size, 1, none⟩ = some (.int .i64 (a : Int)) := by rw [HN4.out.cell]; rfl
      have d0 := HS4.out.d0
      have d1 := HS4.out.d1
      have e0 := HS4.out.cell.frozen 0
      have e1 := HS4.out.cell.frozen 1
      clear HB4 HN4 HS2
      go_region
      go_wp2
      have hf := HS4.out.fin (.int .i64 W) (.int .i64 (a : Int))
      exact bodyPost_ret (results_tmp_cell_row Try.results79 _ _ w.heap.size 27 _ (0, 0) _ _ rfl rfl hf.1.drew Try.underlying27 rfl Try.size27) rfl ⟨_, _, .inr ⟨Hw0.out, rfl⟩, rfl, (Blk.drew hf.2.1), hf.2.2.drew, .inl ⟨rfl, rfl⟩, fun k hk => by simp [Value.ownBlock] at hk⟩
  · have HC : Keep (∀ w1, RS w x vB a 0 0 w1 → Calls Try.prog 35 #[ptr x, .int .u64 most] w1 (RfPost x vB W1 (a + N1) (.int .u64 X) w1)) := ⟨fun w1 hs => by
      have := hC w1 hs
      rw [show (mm : Int) = most by have := Hmm.out; omega] at this
      exact this⟩
    have hwm : IntKind.u64.wrap most = most := by rw [IntKind.wrap_u64]; have := Hmm.out; have := Hm2.out; omega
    clear hC
    go_enter Try.func79, Try.ntmps79
    go_wp2_with (first | (refine wpList_new rfl 27 rfl _ Try.new27 ?_; refine Hid.out ?_))
    refine hid_in ?_
    generalize w.alloc (.cells #[.int .i64 0, .int .i64 0] 27) = w1 at *
    go_wp2_with fail
    refine (HC.out w1 HS.out).mono ?_
    rintro e w2 ⟨b, hE, rfl, hr, hg⟩
    have HS2 := Keep.mk (HS.out.turned hr hg)
    clear hr hg HS HC
    rcases hE with ⟨hW, rfl⟩ | ⟨hW, rfl⟩
    · subst hW
      obtain ⟨hX0, hXm, hWe, hNe, hLe, hN1⟩ := HZ.out rfl
      have hXw : IntKind.i64.wrap X = X := by rw [IntKind.wrap_i64]; omega
      have HNe := Keep.mk hNe
      have HXr := Keep.mk (And.intro hX0 hXm)
      have HRaw : Keep (∀ w4, RS w x vB (a + N1) 0 0 w4 → Calls Try.prog 9 #[ptr x, .int .i64 X] w4 (RfPostB x vB W (a + N) L w4)) := ⟨fun w4 hs => by
        have := xraw_good x vB l (a + N1) X w4 hs.rf (fun wx hg => HR.out wx (hs.gr.trans hg)) hN1 Hb.out (D.drop N1) (by rw [HD.out, List.drop_drop]) W hWe (nextN (D.drop N1) X) rfl
        rw [Nat.add_assoc, ← hNe, ← hLe] at this
        exact this⟩
      clear hX0 hXm hWe hNe hLe hN1 HZ HF
      go_wp2_with (first | (refine wpList_new rfl 27 rfl _ Try.new27 ?_; refine Hid.out ?_))
      refine hid_in ?_
      have HN := Keep.mk (Blk.new w2 27 #[.int .i64 0, .int .i64 0])
      have HA := Keep.mk (below_new w2 (.cells #[.int .i64 0, .int .i64 0] 27))
      generalize w2.alloc (.cells #[.int .i64 0, .int .i64 0] 27) = w3 at *
      have n0 : w3.cell? ⟨w2.heap.size, 0, none⟩ = some (.int .i64 0) := by rw [HN.out.cell]; rfl
      have n1 : w3.cell? ⟨w2.heap.size, 1, none⟩ = some (.int .i64 0) := by rw [HN.out.cell]; rfl
      have m0 := HN.out.frozen 0
      have m1 := HN.out.frozen 1
      go_wp2_with fail
      have HN4 := Keep.mk (show Blk ((w3.setCell ⟨w2.heap.size, 0, none⟩ (.int .i64 0)).setCell ⟨w2.heap.size, 1, none⟩ (.int .i64 0)) w2.heap.size 27 #[.int .i64 0, .int .i64 0] from (HN.out.set 0 _).set 1 _)
      have HB4 := Keep.mk (below_two HA.out (Nat.le_refl _) (.int .i64 0) (.int .i64 0))
      clear n0 n1 m0 m1 HN HA
      generalize (w3.setCell ⟨w2.heap.size, 0, none⟩ (.int .i64 0)).setCell ⟨w2.heap.size, 1, none⟩ (.int .i64 0) = w4 at *
      have HS4 := Keep.mk (HS2.out.later HB4.out)
      have n0 : w4.cell? ⟨w2.heap.size, 0, none⟩ = some (.int .i64 0) := by rw [HN4.out.cell]; rfl
      have n1 : w4.cell? ⟨w2.heap.size, 1, none⟩ = some (.int .i64 0) := by rw [HN4.out.cell]; rfl
      have d0 := HS4.out.d0
      have d1 := HS4.out.d1
      have e0 := HS4.out.cell.frozen 0
      have e1 := HS4.out.cell.frozen 1
      clear HB4 HN4 HS2 n0 n1 d0 d1 e0 e1
      go_wp2_with fail
      refine (HRaw.out w4 HS4.out).mono ?_
      rintro e w5 ⟨b, res, hE, rfl, hr, hg, hrow, hok⟩
      have hls : w.heap.size < w4.heap.size := HS4.out.cell.lt
      have HS5 := Keep.mk (HS4.out.turned hr hg)
      have HRo := Keep.mk (row_two (g := w.heap.size) hrow (fun e => by have := hok _ e; omega) (.int .i64 W) (.int .i64 b))
      have HOk : Keep (∀ k, res.ownBlock = some k → w.heap.size ≤ k) := ⟨fun k hk => by have := hok k hk; omega⟩
      have HE := Keep.mk hE
      clear hr hg hrow hok hE hls HS4 HRaw
      have d0 := HS5.out.d0
      have d1 := HS5.out.d1
      have e0 := HS5.out.cell.frozen 0
      have e1 := HS5.out.cell.frozen 1
      go_wp2
      have hf := HS5.out.fin (.int .i64 W) (.int .i64 b)
      exact bodyPost_ret (results_tmp_cell_row Try.results79 _ _ w.heap.size 27 _ (0, 0) _ _ rfl rfl hf.1 Try.underlying27 rfl Try.size27) rfl ⟨_, _, HE.out, rfl, hf.2.1, hf.2.2, HRo.out, HOk.out⟩
    · obtain ⟨rfl, rfl, rfl, rfl⟩ := HF.out hW
      have Hw0 := Keep.mk hW
      have hy1 : (W == 0) = false := by simpa using hW
      clear HZ HF hW
      simp only [Nat.add_zero] at HS2 ⊢
      go_wp2_with (first | (refine wpList_new rfl 27 rfl _ Try.new27 ?_; refine Hid.out ?_))
      refine hid_in ?_
      have HN := Keep.mk (Blk.new w2 27 #[.int .i64 0, .int .i64 0])
      have HA := Keep.mk (below_new w2 (.cells #[.int .i64 0, .int .i64 0] 27))
      generalize w2.alloc (.cells #[.int .i64 0, .int .i64 0] 27) = w3 at *
      have n0 : w3.cell? ⟨w2.heap.size, 0, none⟩ = some (.int .i64 0) := by rw [HN.out.cell]; rfl
      have n1 : w3.cell? ⟨w2.heap.size, 1, none⟩ = some (.int .i64 0) := by rw [HN.out.cell]; rfl
      have m0 := HN.out.frozen 0
      have m1 := HN.out.frozen 1
      go_wp2_with fail
      have HN4 := Keep.mk (show Blk ((w3.setCell ⟨w2.heap.size, 0, none⟩ (.int .i64 W)).setCell ⟨w2.heap.size, 1, none⟩ (.int .i64 (a : Int))) w2.heap.size 27 #[.int .i64 W, .int .i64 (a : Int)] from (HN.out.set 0 _).set 1 _)
      have HB4 := Keep.mk (below_two HA.out (Nat.le_refl _) (.int .i64 W) (.int .i64 (a : Int)))
      clear n0 n1 m0 m1 HN HA
      generalize (w3.setCell ⟨w2.heap.size, 0, none⟩ (.int .i64 W)).setCell ⟨w2.heap.size, 1, none⟩ (.int .i64 (a : Int)) = w4 at *
      have HS4 := Keep.mk (HS2.out.later HB4.out)
      have n0 : w4.cell? ⟨w2.heap.size, 0, none⟩ = some (.int .i64 W) := by rw [HN4.out.cell]; rfl
      have n1 : w4.cell? ⟨w2.heap.size, 1, none⟩ = some (.int .i64 (a : Int)) := by rw [HN4.out.cell]; rfl
      have d0 := HS4.out.d0
      have d1 := HS4.out.d1
      have e0 := HS4.out.cell.frozen 0
      have e1 := HS4.out.cell.frozen 1
      clear HB4 HN4 HS2
      go_region
      go_wp2
      have hf := HS4.out.fin (.int .i64 W) (.int .i64 (a : Int))
      exact bodyPost_ret (results_tmp_cell_row Try.results79 _ _ w.heap.size 27 _ (0, 0) _ _ rfl rfl hf.1.drew Try.underlying27 rfl Try.size27) rfl ⟨_, _, .inr ⟨Hw0.out, rfl⟩, rfl, (Blk.drew hf.2.1), hf.2.2.drew, .inl ⟨rfl, rfl⟩, fun k hk => by simp [Value.ownBlock] at hk⟩

set_option maxRecDepth 8000 in
set_option maxHeartbeats 4000000 in
theorem xtext_good (x : Nat) (vB : Value) (l : List Int) (a : Nat) (w : World) (h : RfAt w x vB a 0 0) (hR : ∀ wx, (Grown w wx fun k => k = x) → RowAt wx vB l) (ha : a ≤ l.length) (hb : l.length ≤ 140737488355328) (hby : Byts l) (D : List Int) (hD : D = l.drop a) (most : Int) (mm : Nat) (hmm : (mm : Int) = max most 0) (hm2 : mm ≤ 9223372036854775807) (W : Int) (hW : W = (byt D (mm : Int)).1) (N : Nat) (hN : N = (byt D (mm : Int)).2.1) (L : List Int) (hL : L = (byt D (mm : Int)).2.2) (st : ByteArray) (hst : st = strOfNums L) :
    Calls Try.prog 55 #[ptr x, .int .i64 most] w (RfPost x vB W (a + N) (.string st) w) := by
  have HS := Keep.mk (RS.start h)
  have HC : Keep (∀ w1, RS w x vB a 0 0 w1 → Calls Try.prog 79 #[ptr x, .int .i64 most] w1 (RfPostB x vB W (a + N) L w1)) := ⟨fun w1 hs => xbytes_good x vB l a w1 hs.rf (fun wx hg => hR wx (hs.gr.trans hg)) ha hb hby D hD most mm hmm hm2 W hW N hN L hL⟩
  have Hst := Keep.mk hst
  clear h hR ha hb hby hD hmm hm2 hW hN hL hst
  go_enter Try.func55, Try.ntmps55
  go_wp2_with (first | (refine wpList_new rfl 27 rfl _ Try.new27 ?_; refine Hid.out ?_))
  refine hid_in ?_
  generalize w.alloc (.cells #[.int .i64 0, .int .i64 0] 27) = w1 at *
  go_wp2_with fail
  refine (HC.out w1 HS.out).mono ?_
  rintro e w2 ⟨b, res, hE, rfl, hr, hg, hrow, hok⟩
  have HS2 := Keep.mk (HS.out.turned hr hg)
  have HRo := Keep.mk hrow
  have HE := Keep.mk hE
  clear hr hg HS HC hE hrow hok
  go_wp2_with (first | (refine wpList_new rfl 27 rfl _ Try.new27 ?_; refine Hid.out ?_))
  refine hid_in ?_
  have HN := Keep.mk (Blk.new w2 27 #[.int .i64 0, .int .i64 0])
  have HA := Keep.mk (below_new w2 (.cells #[.int .i64 0, .int .i64 0] 27))
  generalize w2.alloc (.cells #[.int .i64 0, .int .i64 0] 27) = w3 at *
  have n0 : w3.cell? ⟨w2.heap.size, 0, none⟩ = some (.int .i64 0) := by rw [HN.out.cell]; rfl
  have n1 : w3.cell? ⟨w2.heap.size, 1, none⟩ = some (.int .i64 0) := by rw [HN.out.cell]; rfl
  have m0 := HN.out.frozen 0
  have m1 := HN.out.frozen 1
  go_wp2_with fail
  have HN4 := Keep.mk (show Blk ((w3.setCell ⟨w2.heap.size, 0, none⟩ (.int .i64 W)).setCell ⟨w2.heap.size, 1, none⟩ (.int .i64 b)) w2.heap.size 27 #[.int .i64 W, .int .i64 b] from (HN.out.set 0 _).set 1 _)
  have HB4 := Keep.mk (below_two HA.out (Nat.le_refl _) (.int .i64 W) (.int .i64 b))
  clear n0 n1 m0 m1 HN HA
  generalize (w3.setCell ⟨w2.heap.size, 0, none⟩ (.int .i64 W)).setCell ⟨w2.heap.size, 1, none⟩ (.int .i64 b) = w4 at *
  have HS4 := Keep.mk (HS2.out.later HB4.out)
  have n0 : w4.cell? ⟨w2.heap.size, 0, none⟩ = some (.int .i64 W) := by rw [HN4.out.cell]; rfl
  have n1 : w4.cell? ⟨w2.heap.size, 1, none⟩ = some (.int .i64 b) := by rw [HN4.out.cell]; rfl
  have d0 := HS4.out.d0
  have d1 := HS4.out.d1
  have e0 := HS4.out.cell.frozen 0
  have e1 := HS4.out.cell.frozen 1
  have hcv : (convert 22 9 res).run Try.prog w4.drew = .ok (.string st) w4.drew := by rw [Hst.out]; exact conv_row _ _ _ (HRo.out.below HB4.out.drew)
  clear HB4 HN4 HS2
  go_region
  go_wp2
  have hf := HS4.out.fin (.int .i64 W) (.int .i64 b)
  exact bodyPost_ret (results_tmp_cell_row Try.results55 _ _ w.heap.size 27 _ (0, 0) _ _ rfl rfl hf.1.drew Try.underlying27 rfl Try.size27) rfl ⟨_, HE.out, rfl, (Blk.drew hf.2.1), hf.2.2.drew⟩

set_option maxRecDepth 8000 in
set_option maxHeartbeats 4000000 in
theorem xtext_bad (x : Nat) (vB : Value) (a : Nat) (why b most : Int) (w : World) (h : RfAt w x vB a why b) (hw : why ≠ 0) (hm1 : -9223372036854775808 ≤ most) (hm2 : most ≤ 9223372036854775807) :
    Calls Try.prog 55 #[ptr x, .int .i64 most] w (RfStuck why b (.string ByteArray.empty) w) := by
  have HS := Keep.mk (RS.start h)
  have HB := Keep.mk (below_new w (.cells #[.int .i64 0, .int .i64 0] 27))
  have HC : Keep (∀ w1, RS w x vB a why b w1 → Calls Try.prog 79 #[ptr x, .int .i64 most] w1 (RfStuck why b (.slice none 0 0) w1)) := ⟨fun w1 hs => xbytes_bad x vB a why b most w1 hs.rf hw hm1 hm2⟩
  clear h hw hm1 hm2
  go_enter Try.func55, Try.ntmps55
  go_wp2_with (first | (refine wpList_new rfl 27 rfl _ Try.new27 ?_; refine Hid.out ?_))
  refine hid_in ?_
  generalize w.alloc (.cells #[.int .i64 0, .int .i64 0] 27) = w1 at *
  go_wp2_with fail
  refine (HC.out w1 HS.out).mono ?_
  rintro e w2 ⟨rfl, hb2⟩
  have HS2 := Keep.mk (HS.out.later hb2)
  have HB2 := Keep.mk (HB.out.trans (hb2.mono HB.out.size))
  clear hb2 HS HB HC
  go_wp2_with (first | (refine wpList_new rfl 27 rfl _ Try.new27 ?_; refine Hid.out ?_))
  refine hid_in ?_
  have HN := Keep.mk (Blk.new w2 27 #[.int .i64 0, .int .i64 0])
  have HA := Keep.mk (below_new w2 (.cells #[.int .i64 0, .int .i64 0] 27))
  generalize w2.alloc (.cells #[.int .i64 0, .int .i64 0] 27) = w3 at *
  have n0 : w3.cell? ⟨w2.heap.size, 0, none⟩ = some (.int .i64 0) := by rw [HN.out.cell]; rfl
  have n1 : w3.cell? ⟨w2.heap.size, 1, none⟩ = some (.int .i64 0) := by rw [HN.out.cell]; rfl
  have m0 := HN.out.frozen 0
  have m1 := HN.out.frozen 1
  go_wp2_with fail
  have HN4 := Keep.mk (show Blk ((w3.setCell ⟨w2.heap.size, 0, none⟩ (.int .i64 why)).setCell ⟨w2.heap.size, 1, none⟩ (.int .i64 b)) w2.heap.size 27 #[.int .i64 why, .int .i64 b] from (HN.out.set 0 _).set 1 _)
  have HB4 := Keep.mk (below_two HA.out (Nat.le_refl _) (.int .i64 why) (.int .i64 b))
  clear n0 n1 m0 m1 HN HA
  generalize (w3.setCell ⟨w2.heap.size, 0, none⟩ (.int .i64 why)).setCell ⟨w2.heap.size, 1, none⟩ (.int .i64 b) = w4 at *
  have HS4 := Keep.mk (HS2.out.later HB4.out)
  have HB5 := Keep.mk (HB2.out.trans (HB4.out.mono HB2.out.size))
  have n0 : w4.cell? ⟨w2.heap.size, 0, none⟩ = some (.int .i64 why) := by rw [HN4.out.cell]; rfl
  have n1 : w4.cell? ⟨w2.heap.size, 1, none⟩ = some (.int .i64 b) := by rw [HN4.out.cell]; rfl
  have d0 := HS4.out.d0
  have d1 := HS4.out.d1
  have e0 := HS4.out.cell.frozen 0
  have e1 := HS4.out.cell.frozen 1
  have hcv : (convert 22 9 (.slice none 0 0)).run Try.prog w4.drew = .ok (.string ByteArray.empty) w4.drew := conv_row _ [] _ (.inl ⟨rfl, rfl⟩)
  clear HB4 HN4 HS2 HB2
  go_region
  go_wp2
  exact bodyPost_ret (results_tmp_cell_row Try.results55 _ _ w.heap.size 27 _ (0, 0) _ _ rfl rfl (HS4.out.fin (.int .i64 why) (.int .i64 b)).1.drew Try.underlying27 rfl Try.size27) rfl ⟨rfl, (below_two HB5.out (Nat.le_refl _) _ _).drew⟩

end Go.Proofs.Ytkjjlfpghhefcab
namespace Go.Proofs.Ytkjjlfpghhefcab
open Go.RowKit

theorem build84 : (#[.int .u8 0, .int .u8 0, .int .u8 0, .int .u8 0, .int .u8 0, .int .u8 0, .int .u8 0, .int .u8 0, .int .u8 0, .int .u8 0, .int .u8 0, .int .u8 0, .int .u8 0, .int .u8 0, .int .u8 0, .int .u8 0, .int .u8 0, .int .u8 0, .int .u8 0, .int .u8 0, .int .u8 0, .int .u8 0, .int .u8 0, .int .u8 0, .int .u8 0, .int .u8 0, .int .u8 0, .int .u8 0, .int .u8 0, .int .u8 0, .int .u8 0, .int .u8 0] : Array Value) = bytesA 32 fun _ => 0 := by kernel_rfl
theorem copy_next (L : List Int) (t : Nat) : ∀ i, (upd (fun i => if i < t then L.getD i 0 else 0) t (L.getD t 0)) i = (fun i => if i < t + 1 then L.getD i 0 else 0) i := by
  intro i
  unfold upd
  by_cases h : i = t
  · subst h; simp
  · simp only [if_neg h]
    by_cases h2 : i < t
    · rw [if_pos h2, if_pos (by omega)]
    · rw [if_neg h2, if_neg (by omega)]

set_option maxRecDepth 8000 in
set_option maxHeartbeats 1000000 in
theorem xhash_core (x : Nat) (w : World) (W b : Int) (L : List Int) (R : World → Prop)
    (hC : ∀ wB, Below w.heap.size w wB → Calls Try.prog 9 #[ptr x, .int .i64 32] wB (fun e w' => ∃ res, e = .returned (.tuple #[res, .agg #[.int .i64 W, .int .i64 b]]) ∧ R w' ∧ RowAt w' res L ∧ (∀ k, res.ownBlock = some k → wB.heap.size ≤ k) ∧ Grown wB w' fun k => k = x))
    (hRk : ∀ wa wb, R wa → (Grown wa wb fun k => w.heap.size ≤ k) → R wb) (hx : x < w.heap.size) (hL : L.length ≤ 32) :
    Calls Try.prog 57 #[ptr x] w (fun e w' => e = .returned (.tuple #[.agg (bytesA 32 fun i => L.getD i 0), .agg #[.int .i64 W, .int .i64 b]]) ∧ R w' ∧ Grown w w' fun k => k = x) := by
  have HC := Keep.mk hC
  have HK := Keep.mk hRk
  have Hx := Keep.mk hx
  have HL := Keep.mk hL
  have hLi : (L.length : Int) ≤ 32 := by omega
  obtain ⟨n, hn⟩ : ∃ n, Keep (n = w.heap.size) := ⟨_, ⟨rfl⟩⟩
  have hA : Blk (((w.alloc (.cells (bytesA 32 fun _ => 0) 55)).alloc (.cells #[.int .i64 0, .int .i64 0] 27)).alloc (.cells (bytesA 32 fun _ => 0) 55)) w.heap.size 55 (bytesA 32 fun _ => 0) := ((Blk.new w 55 _).alloc _).alloc _
  have hB : Blk (((w.alloc (.cells (bytesA 32 fun _ => 0) 55)).alloc (.cells #[.int .i64 0, .int .i64 0] 27)).alloc (.cells (bytesA 32 fun _ => 0) 55)) (w.heap.size + 1) 27 #[.int .i64 0, .int .i64 0] := by
    have h := (Blk.new (w.alloc (.cells (bytesA 32 fun _ => 0) 55)) 27 #[.int .i64 0, .int .i64 0]).alloc (.cells (bytesA 32 fun _ => 0) 55)
    simp only [World.size_alloc] at h
    exact h
  have hH : Blk (((w.alloc (.cells (bytesA 32 fun _ => 0) 55)).alloc (.cells #[.int .i64 0, .int .i64 0] 27)).alloc (.cells (bytesA 32 fun _ => 0) 55)) (w.heap.size + 2) 55 (bytesA 32 fun _ => 0) := by
    have h := Blk.new ((w.alloc (.cells (bytesA 32 fun _ => 0) 55)).alloc (.cells #[.int .i64 0, .int .i64 0] 27)) 55 (bytesA 32 fun _ => 0)
    simp only [World.size_alloc] at h
    exact h
  have hBl : Below w.heap.size w (((w.alloc (.cells (bytesA 32 fun _ => 0) 55)).alloc (.cells #[.int .i64 0, .int .i64 0] 27)).alloc (.cells (bytesA 32 fun _ => 0) 55)) := (((Below.refl _ _).alloc (Nat.le_refl _) _).alloc (by simp) _).alloc (by simp; omega) _
  have hsz : (((w.alloc (.cells (bytesA 32 fun _ => 0) 55)).alloc (.cells #[.int .i64 0, .int .i64 0] 27)).alloc (.cells (bytesA 32 fun _ => 0) 55)).heap.size = w.heap.size + 3 := by simp
  have HH := Keep.mk hH
  have HA := Keep.mk hA
  have HB := Keep.mk hB
  have HBl := Keep.mk hBl
  have Hsz := Keep.mk hsz
  clear hC hRk hx hL hA hB hH hBl hsz
  go_enter Try.func57, Try.ntmps57
  go_wp2_with (first | (refine wpList_new rfl 55 rfl _ Try.new55 ?_; refine Hid.out ?_) | (refine wpList_new rfl 27 rfl _ Try.new27 ?_; refine Hid.out ?_))
  refine hid_in ?_
  go_wp2_with (first | (refine wpList_new rfl 55 rfl _ Try.new55 ?_; refine Hid.out ?_) | (refine wpList_new rfl 27 rfl _ Try.new27 ?_; refine Hid.out ?_))
  refine hid_in ?_
  refine wpList_store_row rfl 55 (.tmp 4) (.tmp 8) rfl (w.heap.size + 1 + 1) (bytesA 32 fun _ => 0) rfl (congrArg Value.agg build84) 55 (bytesA 32 fun _ => 0) HH.out (Try.size55B _) (bytesA_sizes _ _ _) (bytesA_one _ _) ?_
  have HH2 : Keep (Blk ((((w.alloc (.cells (bytesA 32 fun _ => 0) 55)).alloc (.cells #[.int .i64 0, .int .i64 0] 27)).alloc (.cells (bytesA 32 fun _ => 0) 55)).setRow (w.heap.size + 1 + 1) (bytesA 32 fun _ => 0)) (w.heap.size + 1 + 1) 55 (bytesA 32 fun _ => 0)) := ⟨HH.out.setRow (bytesA 32 fun _ => 0)⟩
  have HA2 := Keep.mk (HA.out.setRow_ne (b' := w.heap.size + 1 + 1) (by omega) (bytesA 32 fun _ => 0))
  have HB2 := Keep.mk (HB.out.setRow_ne (b' := w.heap.size + 1 + 1) (by omega) (bytesA 32 fun _ => 0))
  have HBl2 := Keep.mk (below_setRow (b := w.heap.size + 1 + 1) HBl.out (by omega) (bytesA 32 fun _ => 0))
  have Hsz2 : Keep (w.heap.size + 3 ≤ ((((w.alloc (.cells (bytesA 32 fun _ => 0) 55)).alloc (.cells #[.int .i64 0, .int .i64 0] 27)).alloc (.cells (bytesA 32 fun _ => 0) 55)).setRow (w.heap.size + 1 + 1) (bytesA 32 fun _ => 0)).heap.size) := ⟨by
    have := (Grown.setRow (((w.alloc (.cells (bytesA 32 fun _ => 0) 55)).alloc (.cells #[.int .i64 0, .int .i64 0] 27)).alloc (.cells (bytesA 32 fun _ => 0) 55)) (w.heap.size + 1 + 1) (bytesA 32 fun _ => 0) (S := fun _ => True) fun _ => trivial).size
    have := Hsz.out
    omega⟩
  clear HH HA HB HBl Hsz
  generalize (((w.alloc (.cells (bytesA 32 fun _ => 0) 55)).alloc (.cells #[.int .i64 0, .int .i64 0] 27)).alloc (.cells (bytesA 32 fun _ => 0) 55)).setRow (w.heap.size + 1 + 1) (bytesA 32 fun _ => 0) = wB at *
  simp only [Act.put]
  go_wp2_with fail
  refine (HC.out wB HBl2.out).mono ?_
  rintro e w5 ⟨res, rfl, hr, hrow, hok, hg⟩
  obtain ⟨ra, rc, rfl⟩ := row_form hrow
  have HA5 := Keep.mk (hg.blk HA2.out (by have := Hx.out; omega))
  have HB5 := Keep.mk (hg.blk HB2.out (by have := Hx.out; omega))
  have HH5 := Keep.mk (hg.blk HH2.out (by have := Hx.out; omega))
  have HG5 : Keep (Grown w w5 fun k => k = x) := ⟨(Grown.below HBl2.out).trans hg⟩
  have HR5 := Keep.mk hr
  have HRow := Keep.mk hrow
  have HOk : Keep (∀ k, (Value.slice ra L.length rc).ownBlock = some k → w.heap.size + 3 ≤ k) := ⟨fun k hk => Nat.le_trans Hsz2.out (hok k hk)⟩
  have Hg6 : Keep (w.heap.size + 3 ≤ w5.heap.size) := ⟨Nat.le_trans Hsz2.out hg.size⟩
  clear hr hrow hok hg HA2 HB2 HH2 HBl2 Hsz2 HC
  go_wp2_with (first | (refine wpList_new rfl 27 rfl _ Try.new27 ?_; refine Hid.out ?_))
  refine hid_in ?_
  have HN := Keep.mk (Blk.new w5 27 #[.int .i64 0, .int .i64 0])
  have HAl := Keep.mk (below_new w5 (.cells #[.int .i64 0, .int .i64 0] 27))
  generalize w5.alloc (.cells #[.int .i64 0, .int .i64 0] 27) = w6 at *
  have n0 : w6.cell? ⟨w5.heap.size, 0, none⟩ = some (.int .i64 0) := by rw [HN.out.cell]; rfl
  have n1 : w6.cell? ⟨w5.heap.size, 1, none⟩ = some (.int .i64 0) := by rw [HN.out.cell]; rfl
  have m0 := HN.out.frozen 0
  have m1 := HN.out.frozen 1
  go_wp2_with fail
  have HN4 := Keep.mk (show Blk ((w6.setCell ⟨w5.heap.size, 0, none⟩ (.int .i64 W)).setCell ⟨w5.heap.size, 1, none⟩ (.int .i64 b)) w5.heap.size 27 #[.int .i64 W, .int .i64 b] from (HN.out.set 0 _).set 1 _)
  have HB4 := Keep.mk (below_two HAl.out (Nat.le_refl _) (.int .i64 W) (.int .i64 b))
  clear n0 n1 m0 m1 HN HAl
  generalize (w6.setCell ⟨w5.heap.size, 0, none⟩ (.int .i64 W)).setCell ⟨w5.heap.size, 1, none⟩ (.int .i64 b) = w7 at *
  have HA7 := Keep.mk (HA5.out.below HB4.out HA5.out.lt)
  have HB7 := Keep.mk (HB5.out.below HB4.out HB5.out.lt)
  have HH7 := Keep.mk (HH5.out.below HB4.out HH5.out.lt)
  have HG7 : Keep (Grown w w7 fun k => k = x) := ⟨HG5.out.trans (Grown.below HB4.out)⟩
  have HR7 : Keep (R w7) := ⟨HK.out _ _ HR5.out (Grown.below HB4.out)⟩
  have HRow7 := Keep.mk (HRow.out.below HB4.out)
  obtain ⟨g6, hg6⟩ : ∃ g6, Keep (g6 = w5.heap.size) := ⟨_, ⟨rfl⟩⟩
  rw [← hg6.out] at HN4 Hg6 ⊢
  clear HA5 HB5 HH5 HG5 HR5 HRow HB4 hg6
  go_loopw [7] (fun i wr => ∃ t : Nat, t ≤ L.length ∧ i = .int .i64 (t : Int) ∧ Blk wr (w.heap.size + 1 + 1) 55 (bytesA 32 fun i => if i < t then L.getD i 0 else 0) ∧ Grown w7 wr (fun k => k = w.heap.size + 1 + 1)) (fun i _ => L.length - (intOf i).toNat)
  case atStart => exact ⟨0, by omega, rfl, by rw [show (fun i => if i < 0 then L.getD i 0 else 0) = (fun _ => (0 : Int)) from funext fun i => by simp]; exact HH7.out, Grown.refl _ _⟩
  case round =>
    obtain ⟨t, ht, rfl, hH, hG⟩ := hrel
    have HH9 := Keep.mk hH
    have HG9 := Keep.mk hG
    by_cases hlt : t < L.length
    · have hlt' : (t : Int) < (L.length : Int) := by omega
      have hrw : RowAt wr (Value.slice ra L.length rc) L := HRow7.out.grown hG (fun k hk _ e => by have := HOk.out k hk; omega)
      obtain ⟨gb, go, rfl, hc⟩ : ∃ gb go, ra = some ⟨gb, go, none⟩ ∧ wr.cell? ⟨gb, go + t, none⟩ = some (.int .u8 (L.getD t 0)) := by
        rcases hrw with ⟨_, e⟩ | ⟨_, _, _, e⟩ | ⟨g, o, _, e, _, h3⟩
        · have : L.length = 0 := by rw [e]; rfl
          omega
        · have : L.length = 0 := by rw [e]; rfl
          omega
        · injection e with e1 e2
          exact ⟨g, o, e1, h3 t hlt⟩
      have d0 : wr.cell? ⟨w.heap.size + 1 + 1, t, none⟩ = some (.int .u8 (if t < t then L.getD t 0 else 0)) := by rw [hH.cell, bytesA_get _ _ _ (by have := HL.out; omega)]
      rw [if_neg (Nat.lt_irrefl t)] at d0
      have e0 := hH.frozen t
      have ht32 : (t : Int) < 32 := by omega
      obtain ⟨cv, hcv⟩ : ∃ cv, Keep (cv = L.getD t 0) := ⟨_, ⟨rfl⟩⟩
      rw [← hcv.out] at hc
      clear hH hG hrw
      go_wp2
      go_roundw
      case rel =>
        refine ⟨t + 1, by omega, by go_num, ?_, HG9.out.trans (Grown.setCell wr (w.heap.size + 1 + 1) t _ fun _ => rfl)⟩
        have := HH9.out.set t (.int .u8 cv)
        rw [bytesA_set, hcv.out] at this
        rw [hcv.out, ← show bytesA 32 (upd (fun i => if i < t then L.getD i 0 else 0) t (L.getD t 0)) = bytesA 32 (fun i => if i < t + 1 then L.getD i 0 else 0) from bytesA_congr fun i _ => copy_next L t i]
        exact this
      case measure => simp only [intOf]; omega
    · obtain rfl : t = L.length := by omega
      have hlt' : ¬ ((L.length : Int) < (L.length : Int)) := by omega
      have HA9 := Keep.mk (hG.blk HA7.out (by omega))
      have HB9 := Keep.mk (hG.blk HB7.out (by omega))
      have HC9 := Keep.mk (hG.blk HN4.out (by have := Hg6.out; omega))
      obtain ⟨c, hcd⟩ : ∃ c : Nat → Int, Keep (c = fun i => if i < L.length then L.getD i 0 else 0) := ⟨_, ⟨rfl⟩⟩
      rw [← hcd.out] at HH9
      obtain ⟨ca, hca⟩ : ∃ ca, Keep (ca = bytesA 32 c) := ⟨_, ⟨rfl⟩⟩
      have Hca1 : Keep ((Try.prog.info? 55).map (·.size) = some ca.size) := ⟨by rw [hca.out]; exact Try.size55B c⟩
      have Hca2 : Keep ((bytesA 32 fun _ => 0).size = ca.size) := ⟨by rw [hca.out]; exact bytesA_sizes _ _ _⟩
      have Hca3 : Keep (ca.all (·.oneCell') = true) := ⟨by rw [hca.out]; exact bytesA_one _ _⟩
      rw [← hca.out] at HH9
      have hi84 : (Try.prog.info? 55).map (·.size) = some ca.toList.length := by rw [Array.length_toList]; exact Hca1.out
      clear hH hG
      go_wp2_with fail
      refine wp_region_held_drew (S := fun wx => wx.rangeAt (w.heap.size + 1 + 1) 0 ca.toList ∧ wx.rangeAt g6 0 [.int .i64 W, .int .i64 b]) (by kernel_rfl) ⟨blk_range HH9.out.drew, blk_range HC9.out.drew⟩ (fun hHeld => ?_)
      refine wpAnyH_take (i := 0) (oi := ⟨some 26, Op.load 55 (Operand.tmp 4), 55, _, _, none⟩) (v := .agg ca.toList.toArray) rfl (by kernel_rfl) (by kernel_rfl) (by kernel_rfl) (fun _ _ _ h => h) (yieldsIf_load_mid (by rfl) 55 (.tmp 4) rfl (w.heap.size + 1 + 1) 0 rfl ca.toList _ (fun w hS => hS.1) Try.underlying55 rfl hi84) hHeld ?_
      simp only [Act.put, List.setIfInBounds_toArray, List.set_cons_zero, List.set_cons_succ]
      simp only [Array.toArray_toList]
      refine wpAnyH_take (i := 1) (oi := ⟨some 27, Op.load 27 (Operand.tmp 6), 27, _, _, none⟩) (v := .agg [.int .i64 W, .int .i64 b].toArray) rfl (by kernel_rfl) (by kernel_rfl) (by kernel_rfl) (fun _ _ _ h => h) (yieldsIf_load_mid (by rfl) 27 (.tmp 6) rfl g6 0 rfl [.int .i64 W, .int .i64 b] _ (fun w hS => hS.2) Try.underlying27 rfl Try.size27) hHeld ?_
      simp only [Act.put, List.setIfInBounds_toArray, List.set_cons_zero, List.set_cons_succ]
      refine wpAnyH_ready (rs := [2]) (by kernel_rfl) (by simp) ?_
      refine AllReadyH.cons (o := ⟨none, Op.store 55 (Operand.tmp 2) (Operand.tmp 26), 0, _, _, none⟩) rfl (fun K hK => ?_) AllReadyH.nil
      rw [if_pos (by rfl)]
      refine wp_store_row 55 (.tmp 2) (.tmp 26) rfl w.heap.size ca (by simp [Act.eval]) (by simp [Act.eval]) 55 (bytesA 32 fun _ => 0) HA9.out.drew Hca1.out Hca2.out Hca3.out ?_
      refine hK.out _ _ ⟨blk_range (HH9.out.drew.setRow_ne (by omega) _), blk_range (HC9.out.drew.setRow_ne (by have := Hg6.out; omega) _)⟩ fun hHeld5 => ?_
      clear hK
      simp only [Act.put]
      refine wpAnyH_ready (rs := [3]) (by kernel_rfl) (by simp) ?_
      refine AllReadyH.cons (o := ⟨none, Op.store 27 (Operand.tmp 3) (Operand.tmp 27), 0, _, _, none⟩) rfl (fun K hK => ?_) AllReadyH.nil
      rw [if_pos (by rfl)]
      refine wp_store_row 27 (.tmp 3) (.tmp 27) rfl (w.heap.size + 1) #[.int .i64 W, .int .i64 b] (by simp [Act.eval]) (by simp [Act.eval]) 27 #[.int .i64 0, .int .i64 0] (HB9.out.drew.setRow_ne (by omega) _) Try.size27 rfl (all_oneCell_toArray (cs := [.int .i64 W, .int .i64 b]) (fun v hv => by simp at hv; rcases hv with rfl | rfl <;> rfl)) ?_
      refine hK.out _ _ ⟨blk_range ((HH9.out.drew.setRow_ne (by omega) _).setRow_ne (by omega) _), blk_range ((HC9.out.drew.setRow_ne (by have := Hg6.out; omega) _).setRow_ne (by have := Hg6.out; omega) _)⟩ fun hHeld6 => ?_
      clear hK
      refine wpAnyH_done (by kernel_rfl) ?_ _
      go_wp2
      have hfin := bytesA_congr (n := 32) (c := c) (d := fun i => L.getD i 0) (fun i _ => by
        rw [hcd.out]
        by_cases hi : i < L.length
        · simp only [if_pos hi]
        · simp only [if_neg hi]
          rw [List.getD_eq_getElem?_getD, List.getElem?_eq_none (by omega)]; rfl)
      have hgf : Grown wr ((wr.drew.setRow w.heap.size ca).setRow (w.heap.size + 1) #[.int .i64 W, .int .i64 b]) (fun k => w.heap.size ≤ k) := ((Grown.refl wr _).drew.trans (Grown.setRow _ _ _ fun _ => Nat.le_refl _)).trans (Grown.setRow _ _ _ fun _ => Nat.le_succ _)
      refine bodyPost_ret (results_cell_cell_row Try.results57 _ _ w.heap.size (w.heap.size + 1) 55 27 _ _ (0, 0) (0, 0) _ _ rfl rfl ((HA9.out.drew.setRow _).setRow_ne (by omega) _) ((HB9.out.drew.setRow_ne (by omega) _).setRow _) Try.underlying55 rfl Hca1.out Try.underlying27 rfl Try.size27) rfl ⟨by rw [← hfin, hca.out], ?_, ?_⟩
      · exact HK.out _ _ HR7.out ((HG9.out.mono fun k _ e => by omega).trans hgf)
      · exact (HG7.out.next HG9.out fun k hk e => by omega).next hgf fun k hk e => by omega

theorem errB_one {why : Int} {a : Nat} {b : Int} (h : ErrB why a b) : b = if why = 0 then 0 else (a : Int) := by
  rcases h with ⟨h0, h1⟩ | ⟨h0, h1⟩
  · rw [if_pos h0, h1]
  · rw [if_neg h0, h1]
theorem errB_is (why : Int) (a : Nat) : ErrB why a (if why = 0 then 0 else (a : Int)) := by
  by_cases h : why = 0
  · rw [if_pos h]; exact .inl ⟨h, rfl⟩
  · rw [if_neg h]; exact .inr ⟨h, rfl⟩
theorem xhash_good (x : Nat) (vB : Value) (l : List Int) (a : Nat) (w : World) (h : RfAt w x vB a 0 0) (hR : ∀ wx, (Grown w wx fun k => k = x) → RowAt wx vB l) (ha : a ≤ l.length) (hb : l.length ≤ 140737488355328) (D : List Int) (hD : D = l.drop a) (W : Int) (hW : W = nextW D 32) (N : Nat) (hN : N = nextN D 32) :
    Calls Try.prog 57 #[ptr x] w (RfPost x vB W (a + N) (.agg (bytesA 32 (hrd D W))) w) := by
  have hx : x < w.heap.size := Blk.lt h
  have hN32 : N ≤ 32 := by
    by_cases h0 : W = 0
    · rw [hN, (nextN_0 D 32 (by rw [← hW]; exact h0)).1]; decide
    · rw [hN, nextN_1 D 32 (by rw [← hW]; exact h0)]; decide
  have hc := xhash_core x w W (if W = 0 then 0 else ((a + N : Nat) : Int)) (D.take N) (fun w' => RfAt w' x vB (a + N) W (if W = 0 then 0 else ((a + N : Nat) : Int))) (fun wB hB => by
    refine (xraw_good x vB l a 32 wB (Blk.below h hB hx) (fun wx hg => hR wx ((Grown.below hB).trans hg)) ha hb D hD W hW N hN).mono ?_
    rintro e w' ⟨b, res, hE, rfl, hr, hg, hrow, hok⟩
    have e := errB_one hE
    rw [e] at hr
    exact ⟨res, by rw [e], hr, hrow, hok, hg⟩)
    (fun wa wb h1 hg => hg.blk h1 (by omega)) hx (by rw [List.length_take]; omega)
  refine hc.mono ?_
  rintro e w' ⟨rfl, hr, hg⟩
  refine ⟨_, errB_is W (a + N), ?_, hr, hg⟩
  rw [bytesA_congr (n := 32) (c := fun i => (D.take N).getD i 0) (d := hrd D W) (fun i hi => ?_)]
  unfold hrd
  by_cases h0 : W = 0
  · have : N = 32 := by rw [hN, (nextN_0 D 32 (by rw [← hW]; exact h0)).1]; rfl
    rw [if_pos h0, this]
    simp [List.getD_eq_getElem?_getD, hi]
  · have : N = 0 := by rw [hN, nextN_1 D 32 (by rw [← hW]; exact h0)]
    rw [if_neg h0, this]
    simp
theorem xhash_bad (x : Nat) (vB : Value) (a : Nat) (why b : Int) (w : World) (h : RfAt w x vB a why b) (hw : why ≠ 0) :
    Calls Try.prog 57 #[ptr x] w (RfStuck why b (.agg (bytesA 32 fun _ => 0)) w) := by
  have hx : x < w.heap.size := Blk.lt h
  have hc := xhash_core x w why b [] (fun w' => Below w.heap.size w w') (fun wB hB => by
    refine (xraw_bad x vB a why b _ wB (Blk.below h hB hx) hw).mono ?_
    rintro e w' ⟨rfl, hb⟩
    exact ⟨_, rfl, hB.trans (hb.mono hB.size), .inl ⟨rfl, rfl⟩, fun k hk => by simp [Value.ownBlock] at hk, Grown.below hb⟩)
    (fun wa wb h1 hg => h1.trans (hg.to_below (fun k hk => by omega) h1.size)) hx (by simp)
  refine hc.mono ?_
  rintro e w' ⟨rfl, hr, hg⟩
  refine ⟨?_, hr⟩
  rw [bytesA_congr (n := 32) (c := fun i => ([] : List Int).getD i 0) (d := fun _ => 0) (fun i hi => by simp)]
end Go.Proofs.Ytkjjlfpghhefcab
namespace Go.Proofs.Ytkjjlfpghhefcab
open Go.RowKit
set_option linter.unusedSimpArgs false

def erA (why b : Int) : Array Value := #[.int .i64 why, .int .i64 b]
theorem Try.size27B (why b : Int) : (Try.prog.info? 27).map (·.size) = some (erA why b).size := by kernel_rfl
theorem Try.new27E (w : World) : (Instr.alloc 27 true (.tuple #[])).run Try.prog w = .ok (.pointer (some ⟨w.heap.size, 0, none⟩)) (w.alloc (.cells (erA 0 0) 27)) := by kernel_rfl
theorem erA_sizes (a b c d : Int) : (erA a b).size = (erA c d).size := rfl
theorem erA_one (a b : Int) : (erA a b).all (·.oneCell') = true := by simp [erA, Value.oneCell']
theorem erA_built (a b : Int) : Try.prog.built 27 [(0, .int .i64 a), (1, .int .i64 b)] = some (erA a b) := by kernel_rfl
theorem erA_zero : Try.prog.built 27 [] = some (erA 0 0) := by kernel_rfl
theorem erA_0 (a b : Int) : (erA a b)[0]? = some (.int .i64 a) := rfl
theorem erA_1 (a b : Int) : (erA a b)[1]? = some (.int .i64 b) := rfl
set_option maxRecDepth 8000 in
theorem placed_nil (w : World) : Calls Try.prog 12 #[.nilIface] w fun e w' => e = .returned (.tuple #[.agg (erA 0 0), .bool true]) ∧ Below w.heap.size w w' := by
  go_enter Try.func12, Try.ntmps12
  refine wp_seq_k fun K1 hK1 => ?_
  refine wp_region_list (WL.out ?_)
  refine WL.new (by kernel_rfl) 27 rfl _ Try.new27E ?_
  have HZ := Keep.mk (Blk.new w 27 (erA 0 0))
  have HB := Keep.mk (below_new w (.cells (erA 0 0) 27))
  generalize w.alloc (.cells (erA 0 0) 27) = w1 at *
  simp only [Act.put, List.setIfInBounds_toArray, List.set_cons_zero, List.set_cons_succ]
  refine WL.val (by kernel_rfl) (.bool false) (by go_simp) ?_
  simp only [Act.put, List.setIfInBounds_toArray, List.set_cons_zero, List.set_cons_succ]
  refine WL.nil ?_
  refine hK1 _ _ ?_
  refine wp_seq_k fun K2 hK2 => ?_
  refine wp_seq_k fun K3 hK3 => ?_
  refine wp_region_list (WL.out ?_)
  refine WL.val (by kernel_rfl) (.nilIface) (by go_simp) ?_
  simp only [Act.put, List.setIfInBounds_toArray, List.set_cons_zero, List.set_cons_succ]
  refine WL.val (by kernel_rfl) (.bool true) (by go_simp) ?_
  simp only [Act.put, List.setIfInBounds_toArray, List.set_cons_zero, List.set_cons_succ]
  refine WL.nil ?_
  refine hK3 _ _ ?_
  refine wp_cond_true rfl ?_
  refine wp_seq_k fun K4 hK4 => ?_
  refine wp_region_list (WL.out ?_)
  refine WL.bld (by kernel_rfl) 27 _ rfl [] (by simp) (erA 0 0) erA_zero ?_
  simp only [Act.put, List.setIfInBounds_toArray, List.set_cons_zero, List.set_cons_succ]
  refine WL.storeR (by kernel_rfl) 27 (.tmp 2) (.tmp 8) rfl w.heap.size (erA 0 0) rfl rfl 27 (erA 0 0) HZ.out (Try.size27B _ _) rfl (erA_one _ _) ?_
  simp only [Act.put]
  refine WL.val (by kernel_rfl) (.bool true) (by go_simp) ?_
  simp only [Act.put, List.setIfInBounds_toArray, List.set_cons_zero, List.set_cons_succ]
  refine WL.nil ?_
  refine hK4 _ _ ?_
  refine wp_ret ?_
  try simp only [Exit.then]
  refine bodyPost_ret (v := .tuple #[.agg (erA 0 0), .bool true]) (results_cell_row2 Try.results12 _ _ w.heap.size 27 _ (0, 0) _ _ rfl rfl (HZ.out.setRow _) Try.underlying27 rfl (Try.size27B _ _)) rfl ?_
  exact ⟨rfl, below_setRow HB.out (Nat.le_refl _) _⟩
theorem run_bldE (a b : Int) (w : World) : (Next.value <$> Instr.build 27 #[(0, .int .i64 a), (1, .int .i64 b)]).run Try.prog w = .ok (.value (.agg (erA a b))) w := by kernel_rfl
theorem assertBad (v : Value) (W : World) : (Instr.typeAssert (.iface 66 v) 31 66 true).run Try.prog W = .ok (.tuple #[v, .bool true]) W := assert22 v W
set_option maxRecDepth 8000 in
theorem placed_err (q : Nat) (why : Int) (a : Nat) (w : World) (hq : BadAt w q why a) (hw : why ≠ 0) : Calls Try.prog 12 #[err q] w fun e w' => e = .returned (.tuple #[.agg (erA why (a : Int)), .bool true]) ∧ Below w.heap.size w w' := by
  have HQ : Keep (Blk w q 85 #[.int .i64 why, .int .i64 (a : Int)]) := ⟨hq⟩
  have has := assertBad (ptr q)
  clear hq
  unfold err
  go_enter Try.func12, Try.ntmps12
  refine wp_seq_k fun K1 hK1 => ?_
  refine wp_region_list (WL.out ?_)
  refine WL.new (by kernel_rfl) 27 rfl _ Try.new27E ?_
  have HZ := Keep.mk (Blk.new w 27 (erA 0 0))
  have HB := Keep.mk (below_new w (.cells (erA 0 0) 27))
  have HQ1 := Keep.mk (HQ.out.alloc (.cells (erA 0 0) 27))
  generalize w.alloc (.cells (erA 0 0) 27) = w1 at *
  simp only [Act.put, List.setIfInBounds_toArray, List.set_cons_zero, List.set_cons_succ]
  refine WL.val (by kernel_rfl) (.bool false) (by go_simp) ?_
  simp only [Act.put, List.setIfInBounds_toArray, List.set_cons_zero, List.set_cons_succ]
  refine WL.nil ?_
  refine hK1 _ _ ?_
  refine wp_seq_k fun K2 hK2 => ?_
  refine wp_seq_k fun K3 hK3 => ?_
  refine wp_region_list (WL.out ?_)
  refine WL.val (by kernel_rfl) (.iface 66 (ptr q)) (by go_simp) ?_
  simp only [Act.put, List.setIfInBounds_toArray, List.set_cons_zero, List.set_cons_succ]
  refine WL.val (by kernel_rfl) (.bool false) (by go_simp) ?_
  simp only [Act.put, List.setIfInBounds_toArray, List.set_cons_zero, List.set_cons_succ]
  refine WL.nil ?_
  refine hK3 _ _ ?_
  refine wp_cond_false rfl ?_
  refine wp_skip ?_
  refine hK2 _ _ ?_
  refine wp_seq_k fun K4 hK4 => ?_
  refine wp_region_list (WL.out ?_)
  refine WL.val (by kernel_rfl) (.iface 66 (ptr q)) (by go_simp) ?_
  simp only [Act.put, List.setIfInBounds_toArray, List.set_cons_zero, List.set_cons_succ]
  refine WL.val (by kernel_rfl) (.tuple #[ptr q, .bool true]) (by go_simp) ?_
  simp only [Act.put, List.setIfInBounds_toArray, List.set_cons_zero, List.set_cons_succ]
  refine WL.val (by kernel_rfl) (.tuple #[ptr q, .bool true]) (by go_simp) ?_
  simp only [Act.put, List.setIfInBounds_toArray, List.set_cons_zero, List.set_cons_succ]
  refine WL.val (by kernel_rfl) (ptr q) (by go_simp) ?_
  simp only [Act.put, List.setIfInBounds_toArray, List.set_cons_zero, List.set_cons_succ]
  refine WL.val (by kernel_rfl) (.bool true) (by go_simp) ?_
  simp only [Act.put, List.setIfInBounds_toArray, List.set_cons_zero, List.set_cons_succ]
  refine WL.val (by kernel_rfl) (ptr q) (by go_simp) ?_
  simp only [Act.put, List.setIfInBounds_toArray, List.set_cons_zero, List.set_cons_succ]
  refine WL.val (by kernel_rfl) (.bool true) (by go_simp) ?_
  simp only [Act.put, List.setIfInBounds_toArray, List.set_cons_zero, List.set_cons_succ]
  refine WL.nil ?_
  refine hK4 _ _ ?_
  refine wp_seq_k fun K5 hK5 => ?_
  refine wp_seq_k fun K6 hK6 => ?_
  refine wp_region_list (WL.out ?_)
  refine WL.val (by kernel_rfl) (.bool true) (by go_simp) ?_
  simp only [Act.put, List.setIfInBounds_toArray, List.set_cons_zero, List.set_cons_succ]
  refine WL.val (by kernel_rfl) (.bool false) (by go_simp) ?_
  simp only [Act.put, List.setIfInBounds_toArray, List.set_cons_zero, List.set_cons_succ]
  refine WL.val (by kernel_rfl) (.bool false) (by go_simp) ?_
  simp only [Act.put, List.setIfInBounds_toArray, List.set_cons_zero, List.set_cons_succ]
  refine WL.val (by kernel_rfl) (ptr q) (by go_simp) ?_
  simp only [Act.put, List.setIfInBounds_toArray, List.set_cons_zero, List.set_cons_succ]
  refine WL.val (by kernel_rfl) (.bool false) (by go_simp) ?_
  simp only [Act.put, List.setIfInBounds_toArray, List.set_cons_zero, List.set_cons_succ]
  refine WL.val (by kernel_rfl) (.bool false) (by go_simp) ?_
  simp only [Act.put, List.setIfInBounds_toArray, List.set_cons_zero, List.set_cons_succ]
  refine WL.nil ?_
  refine hK6 _ _ ?_
  refine wp_cond_false rfl ?_
  refine wp_skip ?_
  refine hK5 _ _ ?_
  refine wp_seq_k fun K7 hK7 => ?_
  have HS : Keep (∀ wx, Blk wx q 85 #[.int .i64 why, .int .i64 (a : Int)] → wx.cell? ⟨q, 0, none⟩ = some (.int .i64 why) ∧ wx.cell? ⟨q, 1, none⟩ = some (.int .i64 (a : Int))) := ⟨fun wx h => ⟨h.c 0 rfl, h.c 1 rfl⟩⟩
  refine wp_region_held_drew (S := fun wx => wx.cell? ⟨q, 0, none⟩ = some (.int .i64 why) ∧ wx.cell? ⟨q, 1, none⟩ = some (.int .i64 (a : Int))) (by kernel_rfl) (HS.out _ HQ1.out.drew) (fun hHeld => ?_)
  refine wpAnyH_take (i := 0) (oi := ⟨some 21, Op.move (Operand.tmp 4), 66, _, _, none⟩) (v := .pointer (some ⟨q, 0, none⟩)) rfl (by kernel_rfl) (by kernel_rfl) (by kernel_rfl) (fun _ _ _ h => h) (Or.inl ⟨by rfl, fun w hS => by obtain ⟨hs1, hs2⟩ := hS; go_simp⟩) hHeld ?_
  simp only [Act.put, List.setIfInBounds_toArray, List.set_cons_zero, List.set_cons_succ]
  refine wpAnyH_take (i := 1) (oi := ⟨some 22, Op.nilCheck (Operand.tmp 21), 0, _, _, none⟩) (v := .pointer (some ⟨q, 0, none⟩)) rfl (by kernel_rfl) (by kernel_rfl) (by kernel_rfl) (fun _ _ _ h => h) (Or.inl ⟨by rfl, fun w hS => by obtain ⟨hs1, hs2⟩ := hS; go_simp⟩) hHeld ?_
  simp only [Act.put, List.setIfInBounds_toArray, List.set_cons_zero, List.set_cons_succ]
  refine wpAnyH_take (i := 2) (oi := ⟨some 23, Op.fieldAddr 85 (Operand.tmp 22) 0, 0, _, _, none⟩) (v := .pointer (some ⟨q, 0, none⟩)) rfl (by kernel_rfl) (by kernel_rfl) (by kernel_rfl) (fun _ _ _ h => h) (Or.inl ⟨by rfl, fun w hS => by obtain ⟨hs1, hs2⟩ := hS; go_simp⟩) hHeld ?_
  simp only [Act.put, List.setIfInBounds_toArray, List.set_cons_zero, List.set_cons_succ]
  refine wpAnyH_take (i := 3) (oi := ⟨some 24, Op.load 50 (Operand.tmp 23), 50, _, _, none⟩) (v := .int .i64 why) rfl (by kernel_rfl) (by kernel_rfl) (by kernel_rfl) (fun _ _ _ h => h) (Or.inl ⟨by rfl, fun w hS => by obtain ⟨hs1, hs2⟩ := hS; go_simp⟩) hHeld ?_
  simp only [Act.put, List.setIfInBounds_toArray, List.set_cons_zero, List.set_cons_succ]
  refine wpAnyH_take (i := 4) (oi := ⟨some 25, Op.move (Operand.tmp 4), 66, _, _, none⟩) (v := .pointer (some ⟨q, 0, none⟩)) rfl (by kernel_rfl) (by kernel_rfl) (by kernel_rfl) (fun _ _ _ h => h) (Or.inl ⟨by rfl, fun w hS => by obtain ⟨hs1, hs2⟩ := hS; go_simp⟩) hHeld ?_
  simp only [Act.put, List.setIfInBounds_toArray, List.set_cons_zero, List.set_cons_succ]
  refine wpAnyH_take (i := 5) (oi := ⟨some 26, Op.nilCheck (Operand.tmp 25), 0, _, _, none⟩) (v := .pointer (some ⟨q, 0, none⟩)) rfl (by kernel_rfl) (by kernel_rfl) (by kernel_rfl) (fun _ _ _ h => h) (Or.inl ⟨by rfl, fun w hS => by obtain ⟨hs1, hs2⟩ := hS; go_simp⟩) hHeld ?_
  simp only [Act.put, List.setIfInBounds_toArray, List.set_cons_zero, List.set_cons_succ]
  refine wpAnyH_take (i := 6) (oi := ⟨some 27, Op.fieldAddr 85 (Operand.tmp 26) 1, 0, _, _, none⟩) (v := .pointer (some ⟨q, 1, none⟩)) rfl (by kernel_rfl) (by kernel_rfl) (by kernel_rfl) (fun _ _ _ h => h) (Or.inl ⟨by rfl, fun w hS => by obtain ⟨hs1, hs2⟩ := hS; go_simp⟩) hHeld ?_
  simp only [Act.put, List.setIfInBounds_toArray, List.set_cons_zero, List.set_cons_succ]
  refine wpAnyH_take (i := 7) (oi := ⟨some 28, Op.load 3 (Operand.tmp 27), 3, _, _, none⟩) (v := .int .i64 (a : Int)) rfl (by kernel_rfl) (by kernel_rfl) (by kernel_rfl) (fun _ _ _ h => h) (Or.inl ⟨by rfl, fun w hS => by obtain ⟨hs1, hs2⟩ := hS; go_simp⟩) hHeld ?_
  simp only [Act.put, List.setIfInBounds_toArray, List.set_cons_zero, List.set_cons_succ]
  refine wpAnyH_take (i := 8) (oi := ⟨some 29, Op.build 27 #[(0, Operand.tmp 24), (1, Operand.tmp 28)], 27, _, _, none⟩) (v := .agg #[.int .i64 why, .int .i64 (a : Int)]) rfl (by kernel_rfl) (by kernel_rfl) (by kernel_rfl) (fun _ _ _ h => h) (Or.inl ⟨by rfl, fun w hS => by go_simp⟩) hHeld ?_
  simp only [Act.put, List.setIfInBounds_toArray, List.set_cons_zero, List.set_cons_succ]
  refine wpAnyH_take (i := 9) (oi := ⟨some 30, Op.move (Operand.tmp 4), 66, _, _, none⟩) (v := .pointer (some ⟨q, 0, none⟩)) rfl (by kernel_rfl) (by kernel_rfl) (by kernel_rfl) (fun _ _ _ h => h) (Or.inl ⟨by rfl, fun w hS => by obtain ⟨hs1, hs2⟩ := hS; go_simp⟩) hHeld ?_
  simp only [Act.put, List.setIfInBounds_toArray, List.set_cons_zero, List.set_cons_succ]
  refine wpAnyH_take (i := 10) (oi := ⟨some 31, Op.nilCheck (Operand.tmp 30), 0, _, _, none⟩) (v := .pointer (some ⟨q, 0, none⟩)) rfl (by kernel_rfl) (by kernel_rfl) (by kernel_rfl) (fun _ _ _ h => h) (Or.inl ⟨by rfl, fun w hS => by obtain ⟨hs1, hs2⟩ := hS; go_simp⟩) hHeld ?_
  simp only [Act.put, List.setIfInBounds_toArray, List.set_cons_zero, List.set_cons_succ]
  refine wpAnyH_take (i := 11) (oi := ⟨some 32, Op.fieldAddr 85 (Operand.tmp 31) 0, 0, _, _, none⟩) (v := .pointer (some ⟨q, 0, none⟩)) rfl (by kernel_rfl) (by kernel_rfl) (by kernel_rfl) (fun _ _ _ h => h) (Or.inl ⟨by rfl, fun w hS => by obtain ⟨hs1, hs2⟩ := hS; go_simp⟩) hHeld ?_
  simp only [Act.put, List.setIfInBounds_toArray, List.set_cons_zero, List.set_cons_succ]
  refine wpAnyH_take (i := 12) (oi := ⟨some 33, Op.load 50 (Operand.tmp 32), 50, _, _, none⟩) (v := .int .i64 why) rfl (by kernel_rfl) (by kernel_rfl) (by kernel_rfl) (fun _ _ _ h => h) (Or.inl ⟨by rfl, fun w hS => by obtain ⟨hs1, hs2⟩ := hS; go_simp⟩) hHeld ?_
  simp only [Act.put, List.setIfInBounds_toArray, List.set_cons_zero, List.set_cons_succ]
  refine wpAnyH_take (i := 13) (oi := ⟨some 34, Op.binOp BinOp.neq 50 (Operand.tmp 33) (Operand.const (Value.int IntKind.i64 0)) 50, 4, _, _, none⟩) (v := .bool true) rfl (by kernel_rfl) (by kernel_rfl) (by kernel_rfl) (fun _ _ _ h => h) (Or.inl ⟨by rfl, fun w hS => by obtain ⟨hs1, hs2⟩ := hS; go_simp⟩) hHeld ?_
  simp only [Act.put, List.setIfInBounds_toArray, List.set_cons_zero, List.set_cons_succ]
  refine wpAnyH_ready (rs := [14]) (by kernel_rfl) (by simp) ?_
  refine AllReadyH.cons (o := ⟨none, Op.store 27 (Operand.tmp 2) (Operand.tmp 29), 0, _, _, none⟩) rfl (fun K hK => ?_) AllReadyH.nil
  rw [if_pos (by rfl)]
  refine wp_store_row 27 (.tmp 2) (.tmp 29) rfl w.heap.size (erA why (a : Int)) rfl rfl 27 (erA 0 0) HZ.out.drew (Try.size27B _ _) (erA_sizes _ _ _ _) (erA_one _ _) ?_
  refine hK.out _ _ (HS.out _ (HQ1.out.drew.setRow_ne (blk_ne HQ1.out HZ.out (by decide)) _)) fun hH2 => ?_
  clear hK
  simp only [Act.put, List.setIfInBounds_toArray, List.set_cons_zero, List.set_cons_succ]
  refine wpAnyH_take (i := 15) (oi := ⟨some 3, Op.assign (Operand.tmp 34), 4, _, _, none⟩) (v := .bool true) rfl (by kernel_rfl) (by kernel_rfl) (by kernel_rfl) (fun _ _ _ h => h) (Or.inl ⟨by rfl, fun w hS => by obtain ⟨hs1, hs2⟩ := hS; go_simp⟩) hH2 ?_
  simp only [Act.put, List.setIfInBounds_toArray, List.set_cons_zero, List.set_cons_succ]
  refine wpAnyH_done (by kernel_rfl) ?_ _
  refine hK7 _ _ ?_
  refine wp_ret ?_
  try simp only [Exit.then]
  refine bodyPost_ret (v := .tuple #[.agg (erA why (a : Int)), .bool true]) (results_cell_row2 Try.results12 _ _ w.heap.size 27 _ (0, 0) _ _ rfl rfl (HZ.out.drew.setRow _) Try.underlying27 rfl (Try.size27B _ _)) rfl ?_
  exact ⟨rfl, below_setRow HB.out.drew (Nat.le_refl _) _⟩
end Go.Proofs.Ytkjjlfpghhefcab
