import Derived.Test.YtkjjlfpghhefcabB05
import Derived.Deep.RegionHeld3
import Derived.ProofKit
import Derived.OpenShut
import Derived.ShutString
import Derived.ChangeOld
import Derived.Below
import Derived.SizedLaws
import Derived.Deep.Slices
import Derived.Deep.Strs
namespace Go.Proofs.Ytkjjlfpghhefcab
open Go.RowKit
set_option linter.unusedSimpArgs false
set_option linter.unusedVariables false

/-! ### Forms: there, and back. -/
theorem drop_next {L e r : List Int} {a : Nat} (h : L.drop a = e ++ r) : L.drop (a + e.length) = r := by
  rw [← List.drop_drop, h, List.drop_left]
/-- A proper beginning of two rows: of the first alone, or all of it and a beginning of the second. -/
theorem pre_split {D more A B : List Int} (h : D ++ more = A ++ B) : (∃ s, s ≠ [] ∧ D ++ s = A) ∨ (∃ E, D = A ++ E ∧ E ++ more = B) := by
  rcases List.append_eq_append_iff.1 h with ⟨s, h1, h2⟩ | ⟨E, h1, h2⟩
  · by_cases hs : s = []
    · subst hs
      exact .inr ⟨[], by rw [List.append_nil]; simpa using h1.symm, by simpa using h2⟩
    · exact .inl ⟨s, hs, h1.symm⟩
  · exact .inr ⟨E, h1, h2.symm⟩
theorem fst_num (X : Nat) (hX : X < 18446744073709551616) (rest : List Int) (most : Int) (h : (X : Int) ≤ most) : fstM (numL X ++ rest) most = ((X : Int), ((numL X).length : Int), 0) := by
  unfold fstM
  rw [fstG_numL X hX rest, if_neg]
  rintro ⟨_, h2⟩
  simp only at h2
  omega
theorem fst_form (D : List Int) (most : Int) (hB : Byts D) (h : (fstM D most).2.2 = 0) : ∃ x : Nat, x < 18446744073709551616 ∧ (x : Int) ≤ most ∧ (fstM D most).1 = x ∧ (fstM D most).2.1 = ((numL x).length : Int) ∧ ∃ r, D = numL x ++ r := by
  have hle := fstM_le D most hB h
  have h2 : fstM D most = fstG D 0 0 := by
    unfold fstM at h ⊢
    split at h
    · simp at h
    · rename_i hn; rw [if_neg hn]
  rw [h2] at h hle ⊢
  obtain ⟨x, h3, h4, h5, r, h6⟩ := fstG_form D _ _ hB (Prod.ext rfl (Prod.ext rfl h))
  exact ⟨x, h4, by rw [← h3]; exact hle.2, h3, h5, r, h6⟩
theorem fstG_short (f : Nat) : ∀ (i x : Nat) (y : Int) (D m : List Int), i + f = 9 → D ++ m = numF f x → m ≠ [] → fstG D i y = (0, 0, 20) := by
  induction f with
  | zero =>
    intro i x y D m _ h hm
    cases D with
    | nil => rfl
    | cons c D =>
      rw [numF, List.cons_append] at h
      injection h with h1 h2
      exact absurd (List.append_eq_nil_iff.1 h2).2 hm
  | succ f ih =>
    intro i x y D m hi h hm
    cases D with
    | nil => rfl
    | cons c D =>
      rw [numF] at h
      by_cases hx : x < 128
      · rw [if_pos hx, List.cons_append] at h
        injection h with h1 h2
        exact absurd (List.append_eq_nil_iff.1 h2).2 hm
      · rw [if_neg hx, List.cons_append] at h
        injection h with h1 h2
        rw [fstG, if_neg (by omega), if_neg (by rintro ⟨h3, _⟩; omega), if_neg (by omega)]
        exact ih (i + 1) (x / 128) _ D m (by omega) h2 hm
theorem fst_short (X : Nat) (D m : List Int) (most : Int) (h : D ++ m = numL X) (hm : m ≠ []) : fstM D most = (0, 0, 20) := by
  unfold fstM
  rw [fstG_short 9 0 X 0 D m rfl h hm, if_neg (by simp)]
theorem next_app (l rest : List Int) : nextW (l ++ rest) (l.length : Int) = 0 ∧ nextN (l ++ rest) (l.length : Int) = l.length := by
  have h : nextW (l ++ rest) (l.length : Int) = 0 := by unfold nextW; rw [if_neg (by omega), if_neg (by rw [List.length_append]; omega)]
  exact ⟨h, by rw [(nextN_0 _ _ h).1, Int.toNat_natCast]⟩
theorem next_short (D m l : List Int) (h : D ++ m = l) (hm : m ≠ []) : nextW D (l.length : Int) = 20 := by
  have : 0 < m.length := List.length_pos_iff.2 hm
  unfold nextW; rw [if_neg (by omega), if_pos (by rw [← h, List.length_append]; omega)]
theorem byt_form (m rest : List Int) (mm : Int) (h : (m.length : Int) ≤ mm) (hl : m.length < 18446744073709551616) : byt (bform m ++ rest) mm = (0, (bform m).length, m) := by
  have hf := fst_num m.length hl (m ++ rest) mm h
  rw [byt_eq, bform, List.append_assoc, hf]
  simp only [if_true, Int.toNat_natCast]
  rw [List.drop_left, (next_app m rest).1, (next_app m rest).2, List.take_left]
  simp
theorem byt_back (D : List Int) (mm : Int) (hB : Byts D) (h : (byt D mm).1 = 0) : ((byt D mm).2.2.length : Int) ≤ mm ∧ (byt D mm).2.1 = (bform (byt D mm).2.2).length ∧ ∃ r, D = bform (byt D mm).2.2 ++ r := by
  rw [byt_eq] at h ⊢
  by_cases h0 : (fstM D mm).2.2 = 0
  · rw [if_pos h0] at h ⊢
    obtain ⟨x, h1, h2, h3, h4, r, h5⟩ := fst_form D mm hB h0
    simp only at h ⊢
    rw [h3, h4, Int.toNat_natCast] at h ⊢
    have hd : D.drop (numL x).length = r := by rw [h5, List.drop_left]
    rw [hd] at h ⊢
    have hN := nextN_0 _ _ h
    rw [hN.1, Int.toNat_natCast]
    have hlx : (r.take x).length = x := by rw [List.length_take]; have := hN.2.2; rw [Int.toNat_natCast] at this; omega
    refine ⟨by rw [hlx]; exact h2, by rw [bform, hlx, List.length_append, hlx], r.drop x, ?_⟩
    rw [bform, hlx, List.append_assoc, List.take_append_drop, ← h5]
  · rw [if_neg h0] at h; exact absurd h h0
theorem byt_short (D more m : List Int) (mm : Int) (h : (m.length : Int) ≤ mm) (hl : m.length < 18446744073709551616) (hD : D ++ more = bform m) (hm : more ≠ []) : (byt D mm).1 = 20 ∧ (byt D mm).2.1 ≤ D.length := by
  rw [byt_eq]
  rcases pre_split (A := numL m.length) (B := m) hD with ⟨s, h1, h2⟩ | ⟨E, h1, h2⟩
  · rw [fst_short m.length D s mm h2 h1]; simp
  · subst h1
    rw [fst_num m.length hl E mm h]
    simp only [if_true, Int.toNat_natCast]
    rw [List.drop_left, next_short E more m h2 hm, nextN_1 _ _ (by rw [next_short E more m h2 hm]; decide)]
    refine ⟨rfl, ?_⟩
    rw [List.length_append]; omega
theorem zag_zig (x : Int) : zag (zig x) = x := by
  unfold zag zig
  by_cases h : 0 ≤ x
  · rw [if_pos h, if_neg (by omega)]; omega
  · rw [if_neg h, if_pos (by omega)]; omega
theorem zig_zag (x : Nat) : zig (zag (x : Int)) = x := by
  unfold zig zag
  by_cases h : (x : Int) % 2 = 1
  · rw [if_pos h, if_neg (by omega)]; omega
  · rw [if_neg h, if_pos (by omega)]; omega
/-- One field of y laid over x. -/
def setF (i : Nat) (y x : OpV) : OpV := if i = 0 then { x with key := y.key } else if i = 1 then { x with text := y.text } else if i = 2 then { x with n := y.n } else { x with node := y.node, op := y.op }
/-- What is asked of an operation for one of its fields. -/
structure MayF (ah : List OpV) (i : Nat) (y x : OpV) : Prop where
  key : i = 0 → y.key.size ≤ 65536
  text : i = 1 → y.text.size ≤ 65536
  n : i = 2 → -9223372036854775808 ≤ y.n ∧ y.n ≤ 9223372036854775807
  at_ : 3 ≤ i → mayAt ah y = true ∧ y.node.length = 32 ∧ 0 ≤ y.op ∧ y.op ≤ 1024 ∧ y.kind = x.kind ∧ y.key = x.key ∧ (y.op = 0 → y.node = x.node)
theorem mayAt_congr (ah : List OpV) {x y : OpV} (h1 : x.kind = y.kind) (h2 : x.key = y.key) (h3 : x.node = y.node) (h4 : x.op = y.op) : mayAt ah x = mayAt ah y := by
  unfold mayAt; rw [h1, h2, h3, h4]
theorem getF_there {L : List Int} {ah : List OpV} {i : Nat} {y x : OpV} {a : Nat} {r : List Int} (hi : i < 4) (hm : MayF ah i y x) (h : L.drop a = putF i y ++ r) : getF L ah i x a = (0, a + (putF i y).length, setF i y x) := by
  have hc : i = 0 ∨ i = 1 ∨ i = 2 ∨ i = 3 := by omega
  rcases hc with rfl | rfl | rfl | rfl
  · have hk := hm.key rfl
    have hb := byt_form (lst y.key) r 65536 (by rw [lst_len]; omega) (by rw [lst_len]; omega)
    show ((byt (L.drop a) 65536).1, a + (byt (L.drop a) 65536).2.1, _) = _
    rw [h, show putF 0 y = bform (lst y.key) from rfl, hb]
    simp only
    rw [nums_lst]; rfl
  · have hk := hm.text rfl
    have hb := byt_form (lst y.text) r 65536 (by rw [lst_len]; omega) (by rw [lst_len]; omega)
    show ((byt (L.drop a) 65536).1, a + (byt (L.drop a) 65536).2.1, _) = _
    rw [h, show putF 1 y = bform (lst y.text) from rfl, hb]
    simp only
    rw [nums_lst]; rfl
  · have hn := hm.n rfl
    have hz := zig_lt y.n hn.1 hn.2
    have hb := fst_num (zig y.n) hz r 18446744073709551615 (by omega)
    show ((fstM (L.drop a) 18446744073709551615).2.2, a + (fstM (L.drop a) 18446744073709551615).2.1.toNat, _) = _
    rw [h, show putF 2 y = numL (zig y.n) from rfl, hb]
    simp only [if_true, Int.toNat_natCast]
    rw [zag_zig]; rfl
  · obtain ⟨h1, h2, h3, h4, h5, h6, h7⟩ := hm.at_ (by omega)
    show getA L ah x a = _
    have hp : putF 3 y = numL y.op.toNat ++ (if y.op = 0 then [] else hl 32 (hof y.node)) := rfl
    rw [hp, List.append_assoc] at h
    have hb := fst_num y.op.toNat (by omega) ((if y.op = 0 then [] else hl 32 (hof y.node)) ++ r) 1024 (by omega)
    unfold getA
    rw [h, hb]
    simp only [Int.toNat_natCast]
    rw [if_neg (by simp)]
    by_cases h0 : y.op = 0
    · rw [if_pos (by omega), mayAt_congr ah (x := { x with op := 0 }) (y := y) h5.symm h6.symm (h7 h0).symm h0.symm, h1, if_pos rfl]
      rw [hp, if_pos h0, List.append_nil]
      simp only [setF, Prod.mk.injEq, true_and]
      simp [h0, h7 h0]
    · rw [if_neg (by omega)]
      have hd := drop_next h
      rw [if_neg h0, hl_hof _ h2] at hd
      rw [hd]
      have hn := next_app y.node r
      rw [h2] at hn
      rw [show (32 : Int) = ((32 : Nat) : Int) from rfl, hn.1, if_neg (by simp)]
      have ht : (y.node ++ r).take 32 = y.node := List.take_left' h2
      rw [ht, mayAt_congr ah (x := { x with op := ((y.op.toNat : Nat) : Int), node := y.node }) (y := y) h5.symm h6.symm rfl (by show ((y.op.toNat : Nat) : Int) = y.op; omega), h1, if_pos rfl]
      rw [hp, if_neg h0, hl_hof _ h2, List.length_append, h2, Nat.add_assoc]
      simp only [setF, Prod.mk.injEq, true_and]
      simp only [show ¬ (3 : Nat) = 0 by decide, show ¬ (3 : Nat) = 1 by decide, show ¬ (3 : Nat) = 2 by decide, if_false]
      rw [show ((y.op.toNat : Nat) : Int) = y.op by omega]
theorem getF_short {L : List Int} {ah : List OpV} {i : Nat} {y x : OpV} {a : Nat} {m : List Int} (hi : i < 4) (hm : MayF ah i y x) (h : L.drop a ++ m = putF i y) (hne : m ≠ []) (ha : a ≤ L.length) : (getF L ah i x a).1 = 20 ∧ (getF L ah i x a).2.1 ≤ L.length := by
  have hdl : (L.drop a).length = L.length - a := List.length_drop
  have hc : i = 0 ∨ i = 1 ∨ i = 2 ∨ i = 3 := by omega
  rcases hc with rfl | rfl | rfl | rfl
  · have hk := hm.key rfl
    have hb := byt_short (L.drop a) m (lst y.key) 65536 (by rw [lst_len]; omega) (by rw [lst_len]; omega) h hne
    exact ⟨hb.1, by show a + (byt (L.drop a) 65536).2.1 ≤ _; have := hb.2; omega⟩
  · have hk := hm.text rfl
    have hb := byt_short (L.drop a) m (lst y.text) 65536 (by rw [lst_len]; omega) (by rw [lst_len]; omega) h hne
    exact ⟨hb.1, by show a + (byt (L.drop a) 65536).2.1 ≤ _; have := hb.2; omega⟩
  · have hb := fst_short (zig y.n) (L.drop a) m 18446744073709551615 h hne
    show (fstM (L.drop a) 18446744073709551615).2.2 = 20 ∧ a + (fstM (L.drop a) 18446744073709551615).2.1.toNat ≤ _
    rw [hb]; exact ⟨rfl, by simpa using ha⟩
  · obtain ⟨h1, h2, h3, h4, h5, h6, h7⟩ := hm.at_ (by omega)
    show (getA L ah x a).1 = 20 ∧ (getA L ah x a).2.1 ≤ _
    rcases pre_split (A := numL y.op.toNat) (B := if y.op = 0 then [] else hl 32 (hof y.node)) h with ⟨s, h8, h9⟩ | ⟨E, h8, h9⟩
    · have hb := fst_short y.op.toNat (L.drop a) s 1024 h9 h8
      unfold getA
      rw [hb, if_pos (by simp)]
      exact ⟨rfl, by simpa using ha⟩
    · by_cases h0 : y.op = 0
      · rw [if_pos h0] at h9
        exact absurd (List.append_eq_nil_iff.1 h9).2 hne
      rw [if_neg h0, hl_hof _ h2] at h9
      have hb := fst_num y.op.toNat (by omega) E 1024 (by omega)
      have hd := drop_next h8
      have hs := next_short E m y.node h9 hne
      rw [h2] at hs
      have hs' : nextW E 32 = 20 := hs
      unfold getA
      rw [h8, hb]
      simp only [Int.toNat_natCast]
      rw [if_neg (by simp), if_neg (by omega), hd, hs', nextN_1 _ _ (by rw [hs']; decide), if_pos (by decide)]
      refine ⟨rfl, ?_⟩
      simp only [Nat.add_zero]
      rw [h8, List.length_append] at hdl
      omega
/-- What is asked for all of its fields. -/
def MayFs (ah : List OpV) (y : OpV) : List Nat → OpV → Prop
  | [], _ => True
  | i :: is, x => i < 4 ∧ MayF ah i y x ∧ MayFs ah y is (setF i y x)
def fillF (y : OpV) (is : List Nat) (x : OpV) : OpV := is.foldl (fun x i => setF i y x) x
theorem getFs_there {L : List Int} {ah : List OpV} {y : OpV} : ∀ (is : List Nat) (x : OpV) (a : Nat) (r : List Int), MayFs ah y is x → L.drop a = (is.flatMap fun i => putF i y) ++ r → getFs L ah is x a = (0, a + (is.flatMap fun i => putF i y).length, fillF y is x)
  | [], x, a, r, _, _ => by simp [getFs, fillF]
  | i :: is, x, a, r, ⟨h1, h2, h3⟩, h => by
    rw [List.flatMap_cons, List.append_assoc] at h
    rw [getFs, getF_there h1 h2 h]
    simp only [if_true]
    rw [getFs_there is (setF i y x) _ r h3 (drop_next h), List.flatMap_cons, List.length_append, Nat.add_assoc]
    rfl
theorem getFs_short {L : List Int} {ah : List OpV} {y : OpV} {m : List Int} (hne : m ≠ []) : ∀ (is : List Nat) (x : OpV) (a : Nat), MayFs ah y is x → a ≤ L.length → L.drop a ++ m = (is.flatMap fun i => putF i y) → (getFs L ah is x a).1 = 20 ∧ (getFs L ah is x a).2.1 ≤ L.length
  | [], x, a, _, _, h => by
    simp only [List.flatMap_nil] at h
    exact absurd (List.append_eq_nil_iff.1 h).2 hne
  | i :: is, x, a, ⟨h1, h2, h3⟩, ha, h => by
    rw [List.flatMap_cons] at h
    rcases pre_split h with ⟨s, h4, h5⟩ | ⟨E, h4, h5⟩
    · have hs := getF_short h1 h2 h5 h4 ha
      rw [getFs, if_neg (by rw [hs.1]; decide)]
      exact hs
    · rw [getFs, getF_there h1 h2 h4]
      simp only [if_true]
      have hl := congrArg List.length h4
      rw [List.length_drop, List.length_append] at hl
      refine getFs_short hne is (setF i y x) _ h3 (by
        have := List.length_drop (i := a) (l := L); omega) (by rw [drop_next h4]; exact h5)
theorem next_one (c : Int) (D : List Int) : nextW (c :: D) 1 = 0 := by unfold nextW; rw [if_neg (by decide), if_neg (by rw [List.length_cons]; omega)]
theorem str_nil : ({ data := #[] } : ByteArray) = ByteArray.empty := rfl
theorem mayFs_of {ah : List OpV} {y : OpV} (hy : OpOk y) (hal : ah.length ≤ 1024) (h : wrongV ah y = 0) : MayFs ah y (hasI y.kind) { zeroOp with kind := y.kind } ∧ fillF y (hasI y.kind) { zeroOp with kind := y.kind } = y := by
  obtain ⟨h1, h2, h3, h4, h5⟩ := wrongV_ok h
  have hk := hasI_mem h1
  have hn := And.intro hy.n1 hy.n2
  obtain ⟨kind, key, text, n, node, op⟩ := y
  have hnode : node.length = 32 := hy.node
  simp only at h1 h2 h3 h4 h5 hk hn
  simp only [List.mem_cons, List.not_mem_nil, or_false] at hk
  have m0 : ∀ x, MayF ah 0 ⟨kind, key, text, n, node, op⟩ x := fun x => ⟨fun _ => h2, fun h => absurd h (by decide), fun h => absurd h (by decide), fun h => absurd h (by decide)⟩
  have m1 : ∀ x, MayF ah 1 ⟨kind, key, text, n, node, op⟩ x := fun x => ⟨fun h => absurd h (by decide), fun _ => h3, fun h => absurd h (by decide), fun h => absurd h (by decide)⟩
  have m2 : ∀ x, MayF ah 2 ⟨kind, key, text, n, node, op⟩ x := fun x => ⟨fun h => absurd h (by decide), fun h => absurd h (by decide), fun _ => hn, fun h => absurd h (by decide)⟩
  have hz : ∀ is, hasI kind = is → wipes is ⟨0, key, text, n, node, op⟩ = zeroOp := fun is e => by
    rw [← e]
    refine (sm_iff ?_ z32_len).1 h4
    rcases hk with rfl | rfl | rfl | rfl | rfl | rfl | rfl | rfl | rfl <;> first | exact hnode | exact z32_len
  have m3 : cellV kind = 4 → ∀ x : OpV, kind = x.kind → key = x.key → z32 = x.node → MayF ah 3 ⟨kind, key, text, n, node, op⟩ x := by
    intro hc x e1 e2 e3
    refine ⟨fun h => absurd h (by decide), fun h => absurd h (by decide), fun h => absurd h (by decide), fun _ => ?_⟩
    have hop := mayAt_op hal (h5 hc)
    refine ⟨h5 hc, hnode, hop.1, hop.2, e1, e2, fun h0 => ?_⟩
    rw [← e3]
    have hmm := h5 hc
    unfold mayAt at hmm
    simp only at hmm h0
    subst h0
    by_cases hnd : nd node z32 = true
    · rw [nd_eq hnode z32_len] at hnd; simpa using hnd
    · rw [if_neg (by simp [hnd]), if_pos (by simpa using hnd)] at hmm
      simp at hmm
  rcases hk with rfl | rfl | rfl | rfl | rfl | rfl | rfl | rfl | rfl
  · have e := hz [0, 1] rfl
    simp only [wipes, wipe, List.foldl, zeroOp] at e
    refine ⟨⟨by decide, m0 _, by decide, m1 _, trivial⟩, ?_⟩
    simp_all [fillF, setF, zeroOp, hasI]
  · have e := hz [0] rfl
    simp only [wipes, wipe, List.foldl, zeroOp] at e
    refine ⟨⟨by decide, m0 _, trivial⟩, ?_⟩
    simp_all [fillF, setF, zeroOp, hasI]
  · have e := hz [0, 1] rfl
    simp only [wipes, wipe, List.foldl, zeroOp] at e
    refine ⟨⟨by decide, m0 _, by decide, m1 _, trivial⟩, ?_⟩
    simp_all [fillF, setF, zeroOp, hasI]
  · have e := hz [0, 1] rfl
    simp only [wipes, wipe, List.foldl, zeroOp] at e
    refine ⟨⟨by decide, m0 _, by decide, m1 _, trivial⟩, ?_⟩
    simp_all [fillF, setF, zeroOp, hasI]
  · have e := hz [0] rfl
    simp only [wipes, wipe, List.foldl, zeroOp] at e
    refine ⟨⟨by decide, m0 _, trivial⟩, ?_⟩
    simp_all [fillF, setF, zeroOp, hasI]
  · have e := hz [0, 2] rfl
    simp only [wipes, wipe, List.foldl, zeroOp] at e
    refine ⟨⟨by decide, m0 _, by decide, m2 _, trivial⟩, ?_⟩
    simp_all [fillF, setF, zeroOp, hasI]
  · have e := hz [0] rfl
    simp only [wipes, wipe, List.foldl, zeroOp] at e
    refine ⟨⟨by decide, m0 _, trivial⟩, ?_⟩
    simp_all [fillF, setF, zeroOp, hasI]
  · have e := hz [0, 1, 3] rfl
    simp only [wipes, wipe, List.foldl, zeroOp] at e
    refine ⟨⟨by decide, m0 _, by decide, m1 _, by decide, m3 rfl _ rfl rfl rfl, trivial⟩, ?_⟩
    simp_all [fillF, setF, zeroOp, hasI]
  · have e := hz [0, 3] rfl
    simp only [wipes, wipe, List.foldl, zeroOp] at e
    refine ⟨⟨by decide, m0 _, by decide, m3 rfl _ rfl rfl rfl, trivial⟩, ?_⟩
    simp_all [fillF, setF, zeroOp, hasI]
theorem getO_there {L : List Int} {ah : List OpV} {y : OpV} {a : Nat} {r : List Int} (hy : OpOk y) (hal : ah.length ≤ 1024) (hw : wrongV ah y = 0) (h : L.drop a = oneF y ++ r) : getO L ah a = (0, a + (oneF y).length, y) := by
  obtain ⟨h1, h2⟩ := mayFs_of hy hal hw
  have hk := (wrongV_ok hw).1
  have hcons : L.drop a = y.kind :: ((hasI y.kind).flatMap (fun i => putF i y) ++ r) := by rw [h]; rfl
  have hd : L.drop (a + 1) = (hasI y.kind).flatMap (fun i => putF i y) ++ r := by rw [← List.drop_drop, hcons]; rfl
  unfold getO
  rw [hcons, next_one]
  rw [if_neg (by decide)]
  simp only [List.getD_cons_zero]
  rw [if_neg hk, getFs_there _ _ _ r h1 hd, h2]
  simp only [oneF, List.length_cons, Prod.mk.injEq, true_and, and_true]
  omega
theorem getO_short {L : List Int} {ah : List OpV} {y : OpV} {a : Nat} {m : List Int} (hy : OpOk y) (hal : ah.length ≤ 1024) (hw : wrongV ah y = 0) (ha : a ≤ L.length) (hne : m ≠ []) (h : L.drop a ++ m = oneF y) : (getO L ah a).1 = 20 ∧ (getO L ah a).2.1 ≤ L.length := by
  obtain ⟨h1, h2⟩ := mayFs_of hy hal hw
  have hk := (wrongV_ok hw).1
  cases hD : L.drop a with
  | nil =>
    unfold getO
    rw [hD, show nextW ([] : List Int) 1 = 20 from rfl, show nextN ([] : List Int) 1 = 0 from rfl]
    exact ⟨rfl, ha⟩
  | cons c D =>
    rw [hD, oneF, List.cons_append] at h
    injection h with h3 h4
    have hd : L.drop (a + 1) = D := by rw [← List.drop_drop, hD]; rfl
    have hl := congrArg List.length hD
    rw [List.length_drop, List.length_cons] at hl
    unfold getO
    rw [hD, next_one, if_neg (by decide)]
    simp only [List.getD_cons_zero]
    rw [h3, if_neg hk]
    exact getFs_short hne _ _ _ h1 (by omega) (by rw [hd]; exact h4)
theorem getN_there {L : List Int} : ∀ (ys l : List OpV) (a : Nat) (r : List Int), (∀ y ∈ ys, OpOk y) → l.length + ys.length ≤ 1024 → (chkF l ys).1 = 0 → L.drop a = ys.flatMap oneF ++ r → getN L ys.length l a = (0, a + (ys.flatMap oneF).length, l ++ ys)
  | [], l, a, r, _, _, _, _ => by simp [getN]
  | y :: ys, l, a, r, hok, hl, hc, h => by
    rw [List.flatMap_cons, List.append_assoc] at h
    rw [chkF] at hc
    by_cases hw : wrongV l y = 0
    · rw [if_pos hw] at hc
      simp only [List.length_cons] at hl ⊢
      rw [getN, getO_there (hok y (by simp)) (by omega) hw h]
      simp only [if_true]
      rw [getN_there ys (l ++ [y]) _ r (fun z hz => hok z (by simp [hz])) (by simp; omega) hc (drop_next h)]
      simp only [List.flatMap_cons, List.length_append, Prod.mk.injEq, true_and, List.append_assoc, List.cons_append, List.nil_append, and_true]
      omega
    · rw [if_neg hw] at hc; exact absurd hc hw
theorem getN_short {L : List Int} {m : List Int} (hne : m ≠ []) : ∀ (ys l : List OpV) (a : Nat), (∀ y ∈ ys, OpOk y) → l.length + ys.length ≤ 1024 → (chkF l ys).1 = 0 → a ≤ L.length → L.drop a ++ m = ys.flatMap oneF → (getN L ys.length l a).1 = 20 ∧ (getN L ys.length l a).2.1 ≤ L.length
  | [], l, a, _, _, _, _, h => by
    simp only [List.flatMap_nil] at h
    exact absurd (List.append_eq_nil_iff.1 h).2 hne
  | y :: ys, l, a, hok, hl, hc, ha, h => by
    rw [List.flatMap_cons] at h
    rw [chkF] at hc
    by_cases hw : wrongV l y = 0
    · rw [if_pos hw] at hc
      simp only [List.length_cons] at hl ⊢
      rcases pre_split h with ⟨s, h4, h5⟩ | ⟨E, h4, h5⟩
      · have hs := getO_short (hok y (by simp)) (by omega) hw ha h4 h5
        rw [getN, if_neg (by rw [hs.1]; decide)]
        exact hs
      · have hll := congrArg List.length h4
        rw [List.length_drop, List.length_append] at hll
        rw [getN, getO_there (hok y (by simp)) (by omega) hw h4]
        simp only [if_true]
        exact getN_short hne ys (l ++ [y]) _ (fun z hz => hok z (by simp [hz])) (by simp; omega) hc (by
          have h6 : 0 < (oneF y).length := by simp [oneF]
          omega) (by rw [drop_next h4]; exact h5)
    · rw [if_neg hw] at hc; exact absurd hc hw
theorem chk_F {l : List OpV} (h : (chk l).1 = 0) : l.length ≤ 1024 ∧ (chkF [] l).1 = 0 := by
  unfold chk at h
  by_cases hl : 1024 < l.length
  · rw [if_pos hl] at h; simp at h
  · rw [if_neg hl] at h; exact ⟨by omega, h⟩
/-- What is laid is read. -/
theorem getL_there {L : List Int} {l : List OpV} {a : Nat} {r : List Int} (hok : ∀ y ∈ l, OpOk y) (hc : (chk l).1 = 0) (h : L.drop a = formL l ++ r) : getL L a = (0, a + (formL l).length, l) := by
  obtain ⟨h1, h2⟩ := chk_F hc
  rw [formL, List.append_assoc] at h
  have hb := fst_num l.length (by omega) (l.flatMap oneF ++ r) 1024 (by omega)
  unfold getL
  rw [h, hb]
  simp only [Int.toNat_natCast]
  rw [if_neg (by simp), getN_there l [] _ r hok (by simpa using h1) h2 (drop_next h)]
  simp only [formL, List.length_append, List.nil_append, Prod.mk.injEq, true_and, and_true]
  omega
/-- A proper beginning of what is laid is short. -/
theorem getL_short {L : List Int} {l : List OpV} {a : Nat} {m : List Int} (hok : ∀ y ∈ l, OpOk y) (hc : (chk l).1 = 0) (ha : a ≤ L.length) (hne : m ≠ []) (h : L.drop a ++ m = formL l) : (getL L a).1 = 20 ∧ (getL L a).2.1 ≤ L.length := by
  obtain ⟨h1, h2⟩ := chk_F hc
  rcases pre_split (A := numL l.length) (B := l.flatMap oneF) h with ⟨s, h4, h5⟩ | ⟨E, h4, h5⟩
  · unfold getL
    rw [fst_short l.length _ s 1024 h5 h4, if_pos (by simp)]
    exact ⟨rfl, by simpa using ha⟩
  · have hb := fst_num l.length (by omega) E 1024 (by omega)
    have hll := congrArg List.length h4
    rw [List.length_drop, List.length_append] at hll
    have hp : 0 < (numL l.length).length := List.length_pos_iff.2 (numL_ne _)
    unfold getL
    rw [h4, hb]
    simp only [Int.toNat_natCast]
    rw [if_neg (by simp)]
    exact getN_short hne l [] _ hok (by simpa using h1) h2 (by omega) (by rw [drop_next h4]; exact h5)
/-! ### What is read is the form of it. -/
theorem get0_back {L : List Int} {ah : List OpV} {x : OpV} {a : Nat} (hB : Byts L) (h : (getF L ah 0 x a).1 = 0) : ∃ (K : ByteArray) (r : List Int), K.size ≤ 65536 ∧ L.drop a = bform (lst K) ++ r ∧ getF L ah 0 x a = (0, a + (bform (lst K)).length, { x with key := K }) := by
  have h' : (byt (L.drop a) 65536).1 = 0 := h
  obtain ⟨h1, h2, r, h3⟩ := byt_back (L.drop a) 65536 (hB.drop a) h'
  have hby := (byt_l (L.drop a) 65536).2 (hB.drop a)
  refine ⟨strOfNums (byt (L.drop a) 65536).2.2, r, by rw [str_size hby]; omega, by rw [lst_nums hby]; exact h3, ?_⟩
  rw [lst_nums hby, ← h2]
  show ((byt (L.drop a) 65536).1, _, _) = _
  rw [h']
theorem get1_back {L : List Int} {ah : List OpV} {x : OpV} {a : Nat} (hB : Byts L) (h : (getF L ah 1 x a).1 = 0) : ∃ (K : ByteArray) (r : List Int), K.size ≤ 65536 ∧ L.drop a = bform (lst K) ++ r ∧ getF L ah 1 x a = (0, a + (bform (lst K)).length, { x with text := K }) := by
  have h' : (byt (L.drop a) 65536).1 = 0 := h
  obtain ⟨h1, h2, r, h3⟩ := byt_back (L.drop a) 65536 (hB.drop a) h'
  have hby := (byt_l (L.drop a) 65536).2 (hB.drop a)
  refine ⟨strOfNums (byt (L.drop a) 65536).2.2, r, by rw [str_size hby]; omega, by rw [lst_nums hby]; exact h3, ?_⟩
  rw [lst_nums hby, ← h2]
  show ((byt (L.drop a) 65536).1, _, _) = _
  rw [h']
theorem get2_back {L : List Int} {ah : List OpV} {x : OpV} {a : Nat} (hB : Byts L) (h : (getF L ah 2 x a).1 = 0) : ∃ (n : Int) (r : List Int), -9223372036854775808 ≤ n ∧ n ≤ 9223372036854775807 ∧ L.drop a = numL (zig n) ++ r ∧ getF L ah 2 x a = (0, a + (numL (zig n)).length, { x with n := n }) := by
  have h' : (fstM (L.drop a) 18446744073709551615).2.2 = 0 := h
  obtain ⟨m, h1, _, h3, h4, r, h5⟩ := fst_form (L.drop a) 18446744073709551615 (hB.drop a) h'
  refine ⟨zag (m : Int), r, by unfold zag; split <;> omega, by unfold zag; split <;> omega, by rw [zig_zag]; exact h5, ?_⟩
  show ((fstM (L.drop a) 18446744073709551615).2.2, _, _) = _
  rw [zig_zag, h3, h4, h', Int.toNat_natCast]
  simp only [if_true]
theorem get3_back {L : List Int} {ah : List OpV} {x : OpV} {a : Nat} (hB : Byts L) (hn : x.node = z32) (ho : x.op = 0) (h : (getF L ah 3 x a).1 = 0) : ∃ (node : List Int) (op : Int) (r : List Int), node.length = 32 ∧ Byts node ∧ 0 ≤ op ∧ op ≤ 1024 ∧ mayAt ah { x with node := node, op := op } = true ∧ L.drop a = (numL op.toNat ++ (if op = 0 then [] else hl 32 (hof node))) ++ r ∧ getF L ah 3 x a = (0, a + (numL op.toNat ++ (if op = 0 then [] else hl 32 (hof node))).length, { x with node := node, op := op }) := by
  have h' : (getA L ah x a).1 = 0 := h
  show ∃ (node : List Int) (op : Int) (r : List Int), node.length = 32 ∧ Byts node ∧ 0 ≤ op ∧ op ≤ 1024 ∧ mayAt ah { x with node := node, op := op } = true ∧ L.drop a = (numL op.toNat ++ (if op = 0 then [] else hl 32 (hof node))) ++ r ∧ getA L ah x a = _
  unfold getA at h' ⊢
  by_cases h0 : (fstM (L.drop a) 1024).2.2 = 0
  · obtain ⟨m, h1, h2, h3, h4, r, h5⟩ := fst_form (L.drop a) 1024 (hB.drop a) h0
    rw [if_neg (by simp [h0]), h3, h4, Int.toNat_natCast] at h' ⊢
    have hd := drop_next h5
    by_cases hm : (m : Int) = 0
    · have hm0 : m = 0 := by omega
      subst hm0
      rw [if_pos hm] at h' ⊢
      cases hy : mayAt ah { x with op := 0 } with
      | false => rw [hy] at h'; simp at h'
      | true =>
        rw [if_pos rfl]
        refine ⟨z32, 0, r, z32_len, z32_byts, by decide, by decide, ?_, by simpa using h5, ?_⟩
        · rw [← hn]; exact hy
        · rw [← hn]; simp
    · rw [if_neg hm] at h' ⊢
      rw [hd] at h' ⊢
      by_cases hw : nextW r 32 = 0
      · have hN := nextN_0 _ _ hw
        have hlen : (r.take 32).length = 32 := by rw [List.length_take]; have := hN.2.2; omega
        have hr : Byts r := by rw [← hd]; exact hB.drop _
        rw [if_neg (by simp [hw])] at h' ⊢
        cases hy : mayAt ah { x with op := (m : Int), node := r.take 32 } with
        | false => rw [hy] at h'; simp at h'
        | true =>
          rw [if_pos rfl]
          refine ⟨r.take 32, (m : Int), r.drop 32, hlen, hr.take 32, by omega, h2, hy, ?_, ?_⟩
          · rw [if_neg hm, Int.toNat_natCast, hl_hof _ hlen, List.append_assoc, List.take_append_drop]; exact h5
          · rw [if_neg hm, Int.toNat_natCast, hl_hof _ hlen, List.length_append, hlen, Nat.add_assoc]
      · rw [if_pos hw] at h'; exact absurd h' hw
  · rw [if_pos h0] at h'; exact absurd h' h0
theorem getFs_one {L : List Int} {ah : List OpV} {i : Nat} {is : List Nat} {x : OpV} {a : Nat} (h : (getFs L ah (i :: is) x a).1 = 0) : (getF L ah i x a).1 = 0 ∧ getFs L ah (i :: is) x a = getFs L ah is (getF L ah i x a).2.2 (getF L ah i x a).2.1 := by
  by_cases h0 : (getF L ah i x a).1 = 0
  · exact ⟨h0, by rw [getFs, if_pos h0]⟩
  · rw [getFs, if_neg h0] at h; exact absurd h h0
theorem hat_no (k : Int) (h : k = 1 ∨ k = 2 ∨ k = 3 ∨ k = 4 ∨ k = 5 ∨ k = 6 ∨ k = 7) : cellV k ≠ 4 := by
  rcases h with rfl | rfl | rfl | rfl | rfl | rfl | rfl <;> decide
theorem wrongV_is {ah : List OpV} {y : OpV} (h1 : hasI y.kind ≠ []) (h2 : y.key.size ≤ 65536) (h3 : y.text.size ≤ 65536) (h4 : wipes (hasI y.kind) { y with kind := 0 } = zeroOp) (h5 : cellV y.kind = 4 → mayAt ah y = true) : wrongV ah y = 0 := by
  unfold wrongV
  rw [if_neg h1, if_neg (by omega), if_neg (by omega), h4, sm_refl, if_neg (by decide)]
  by_cases h : cellV y.kind = 4
  · rw [if_pos h, h5 h]; rfl
  · rw [if_neg h]
theorem ok_of {k n op : Int} {K T : ByteArray} {node : List Int} (hk : k = 1 ∨ k = 2 ∨ k = 3 ∨ k = 4 ∨ k = 5 ∨ k = 6 ∨ k = 7 ∨ k = 8 ∨ k = 9) (h1 : K.size ≤ 65536) (h2 : T.size ≤ 65536) (h3 : -9223372036854775808 ≤ n) (h4 : n ≤ 9223372036854775807) (h5 : node.length = 32) (h6 : Byts node) (h7 : 0 ≤ op) (h8 : op ≤ 1024) : OpOk ⟨k, K, T, n, node, op⟩ :=
  ⟨h5, h6, by show _ ≤ k; omega, by show k ≤ _; omega, h3, h4, by show _ ≤ op; omega, by show op ≤ _; omega, by show K.size ≤ _; omega, by show T.size ≤ _; omega⟩
theorem app3 (a b c r : List Int) : a ++ (b ++ (c ++ r)) = (a ++ (b ++ c)) ++ r := by simp
theorem getO_back {L : List Int} {ah : List OpV} {a : Nat} (hB : Byts L) (h : (getO L ah a).1 = 0) : ∃ (y : OpV) (r : List Int), OpOk y ∧ wrongV ah y = 0 ∧ L.drop a = oneF y ++ r ∧ getO L ah a = (0, a + (oneF y).length, y) := by
  unfold getO at h ⊢
  by_cases h0 : nextW (L.drop a) 1 = 0
  · rw [if_neg (by simp [h0])] at h ⊢
    obtain ⟨k, D, hD⟩ : ∃ k D, L.drop a = k :: D := by
      cases hd : L.drop a with
      | nil => rw [hd] at h0; exact absurd h0 (by decide)
      | cons k D => exact ⟨k, D, rfl⟩
    have hd : L.drop (a + 1) = D := by rw [← List.drop_drop, hD]; rfl
    rw [hD] at h ⊢
    simp only [List.getD_cons_zero] at h ⊢
    by_cases hk : hasI k = []
    · rw [if_pos hk] at h; simp at h
    rw [if_neg hk] at h ⊢
    have hkm := hasI_mem hk
    simp only [List.mem_cons, List.not_mem_nil, or_false] at hkm
    -- the shapes
    have s0 : hasI k = [0] → cellV k ≠ 4 → ∃ (y : OpV) (r : List Int), OpOk y ∧ wrongV ah y = 0 ∧ k :: D = oneF y ++ r ∧ getFs L ah (hasI k) { zeroOp with kind := k } (a + 1) = (0, a + (oneF y).length, y) := by
      intro hi hc
      rw [hi] at h ⊢
      obtain ⟨e1, e2⟩ := getFs_one h
      obtain ⟨K, r1, k1, k2, k3⟩ := get0_back hB e1
      rw [e2, k3]
      simp only [getFs]
      refine ⟨⟨k, K, ByteArray.empty, 0, z32, 0⟩, r1, ok_of hkm k1 (by decide) (by decide) (by decide) z32_len z32_byts (by decide) (by decide), wrongV_is hk k1 (by show ByteArray.empty.size ≤ 65536; decide) (by show wipes (hasI k) _ = _; rw [hi]; rfl) (fun e => absurd e hc), ?_, ?_⟩
      · rw [hd] at k2; rw [k2]; simp [oneF, hi, putF]
      · simp only [oneF, hi, putF, zeroOp, List.flatMap_cons, List.flatMap_nil, List.append_nil, List.length_cons, Prod.mk.injEq, true_and, if_true, and_true]; omega
    have s01 : hasI k = [0, 1] → cellV k ≠ 4 → ∃ (y : OpV) (r : List Int), OpOk y ∧ wrongV ah y = 0 ∧ k :: D = oneF y ++ r ∧ getFs L ah (hasI k) { zeroOp with kind := k } (a + 1) = (0, a + (oneF y).length, y) := by
      intro hi hc
      rw [hi] at h ⊢
      obtain ⟨e1, e2⟩ := getFs_one h
      obtain ⟨K, r1, k1, k2, k3⟩ := get0_back hB e1
      rw [e2, k3] at h
      rw [e2, k3]
      obtain ⟨e3, e4⟩ := getFs_one h
      obtain ⟨T, r2, t1, t2, t3⟩ := get1_back hB e3
      rw [e4, t3]
      simp only [getFs]
      refine ⟨⟨k, K, T, 0, z32, 0⟩, r2, ok_of hkm k1 t1 (by decide) (by decide) z32_len z32_byts (by decide) (by decide), wrongV_is hk k1 t1 (by show wipes (hasI k) _ = _; rw [hi]; rfl) (fun e => absurd e hc), ?_, ?_⟩
      · simp only at t2; rw [drop_next k2] at t2; rw [hd, t2] at k2; rw [k2]; simp [oneF, hi, putF]
      · simp only [oneF, hi, putF, zeroOp, List.flatMap_cons, List.flatMap_nil, List.append_nil, List.length_cons, List.length_append, Prod.mk.injEq, true_and, if_true, and_true, show ¬ (1 : Nat) = 0 by decide, if_false]; omega
    have s02 : hasI k = [0, 2] → cellV k ≠ 4 → ∃ (y : OpV) (r : List Int), OpOk y ∧ wrongV ah y = 0 ∧ k :: D = oneF y ++ r ∧ getFs L ah (hasI k) { zeroOp with kind := k } (a + 1) = (0, a + (oneF y).length, y) := by
      intro hi hc
      rw [hi] at h ⊢
      obtain ⟨e1, e2⟩ := getFs_one h
      obtain ⟨K, r1, k1, k2, k3⟩ := get0_back hB e1
      rw [e2, k3] at h
      rw [e2, k3]
      obtain ⟨e3, e4⟩ := getFs_one h
      obtain ⟨n, r2, n1, n2, t2, t3⟩ := get2_back hB e3
      rw [e4, t3]
      simp only [getFs]
      refine ⟨⟨k, K, ByteArray.empty, n, z32, 0⟩, r2, ok_of hkm k1 (by decide) n1 n2 z32_len z32_byts (by decide) (by decide), wrongV_is hk k1 (by show ByteArray.empty.size ≤ 65536; decide) (by show wipes (hasI k) _ = _; rw [hi]; rfl) (fun e => absurd e hc), ?_, ?_⟩
      · simp only at t2; rw [drop_next k2] at t2; rw [hd, t2] at k2; rw [k2]; simp [oneF, hi, putF]
      · simp only [oneF, hi, putF, zeroOp, List.flatMap_cons, List.flatMap_nil, List.append_nil, List.length_cons, List.length_append, Prod.mk.injEq, true_and, if_true, and_true, show ¬ (2 : Nat) = 0 by decide, show ¬ (2 : Nat) = 1 by decide, if_false]; omega
    have s03 : hasI k = [0, 3] → ∃ (y : OpV) (r : List Int), OpOk y ∧ wrongV ah y = 0 ∧ k :: D = oneF y ++ r ∧ getFs L ah (hasI k) { zeroOp with kind := k } (a + 1) = (0, a + (oneF y).length, y) := by
      intro hi
      rw [hi] at h ⊢
      obtain ⟨e1, e2⟩ := getFs_one h
      obtain ⟨K, r1, k1, k2, k3⟩ := get0_back hB e1
      rw [e2, k3] at h
      rw [e2, k3]
      obtain ⟨e3, e4⟩ := getFs_one h
      obtain ⟨node, op, r2, n1, n2, n3, n4, n5, t2, t3⟩ := get3_back hB rfl rfl e3
      rw [e4, t3]
      simp only [getFs]
      refine ⟨⟨k, K, ByteArray.empty, 0, node, op⟩, r2, ok_of hkm k1 (by decide) (by decide) (by decide) n1 n2 n3 n4, wrongV_is hk k1 (by show ByteArray.empty.size ≤ 65536; decide) (by show wipes (hasI k) _ = _; rw [hi]; rfl) (fun _ => n5), ?_, ?_⟩
      · simp only at t2; rw [drop_next k2] at t2; rw [hd, t2] at k2; rw [k2]; simp [oneF, hi, putF]
      · simp only [oneF, hi, putF, zeroOp, List.flatMap_cons, List.flatMap_nil, List.append_nil, List.length_cons, List.length_append, Prod.mk.injEq, true_and, if_true, and_true, show ¬ (3 : Nat) = 0 by decide, show ¬ (3 : Nat) = 1 by decide, show ¬ (3 : Nat) = 2 by decide, if_false]; omega
    have s013 : hasI k = [0, 1, 3] → ∃ (y : OpV) (r : List Int), OpOk y ∧ wrongV ah y = 0 ∧ k :: D = oneF y ++ r ∧ getFs L ah (hasI k) { zeroOp with kind := k } (a + 1) = (0, a + (oneF y).length, y) := by
      intro hi
      rw [hi] at h ⊢
      obtain ⟨e1, e2⟩ := getFs_one h
      obtain ⟨K, r1, k1, k2, k3⟩ := get0_back hB e1
      rw [e2, k3] at h
      rw [e2, k3]
      obtain ⟨e3, e4⟩ := getFs_one h
      obtain ⟨T, r2, t1, t2, t3⟩ := get1_back hB e3
      rw [e4, t3] at h
      rw [e4, t3]
      obtain ⟨e5, e6⟩ := getFs_one h
      obtain ⟨node, op, r3, n1, n2, n3, n4, n5, u2, u3⟩ := get3_back hB rfl rfl e5
      rw [e6, u3]
      simp only [getFs]
      refine ⟨⟨k, K, T, 0, node, op⟩, r3, ok_of hkm k1 t1 (by decide) (by decide) n1 n2 n3 n4, wrongV_is hk k1 t1 (by show wipes (hasI k) _ = _; rw [hi]; rfl) (fun _ => n5), ?_, ?_⟩
      · simp only at t2 u2; rw [drop_next t2] at u2; rw [drop_next k2] at t2; rw [u2] at t2; rw [hd, t2] at k2; rw [k2]; simp [oneF, hi, putF]
      · simp only [oneF, hi, putF, zeroOp, List.flatMap_cons, List.flatMap_nil, List.append_nil, List.length_cons, List.length_append, Prod.mk.injEq, true_and, if_true, and_true, show ¬ (1 : Nat) = 0 by decide, show ¬ (3 : Nat) = 0 by decide, show ¬ (3 : Nat) = 1 by decide, show ¬ (3 : Nat) = 2 by decide, if_false]; omega
    rcases hkm with e | e | e | e | e | e | e | e | e
    · exact s01 (by rw [e]; rfl) (by rw [e]; decide)
    · exact s0 (by rw [e]; rfl) (by rw [e]; decide)
    · exact s01 (by rw [e]; rfl) (by rw [e]; decide)
    · exact s01 (by rw [e]; rfl) (by rw [e]; decide)
    · exact s0 (by rw [e]; rfl) (by rw [e]; decide)
    · exact s02 (by rw [e]; rfl) (by rw [e]; decide)
    · exact s0 (by rw [e]; rfl) (by rw [e]; decide)
    · exact s013 (by rw [e]; rfl)
    · exact s03 (by rw [e]; rfl)
  · rw [if_pos h0] at h; exact absurd h h0
theorem getN_back {L : List Int} (hB : Byts L) : ∀ (n : Nat) (l : List OpV) (a : Nat), (getN L n l a).1 = 0 → ∃ (ys : List OpV) (r : List Int), ys.length = n ∧ (∀ y ∈ ys, OpOk y) ∧ (chkF l ys).1 = 0 ∧ L.drop a = ys.flatMap oneF ++ r ∧ getN L n l a = (0, a + (ys.flatMap oneF).length, l ++ ys)
  | 0, l, a, _ => ⟨[], L.drop a, rfl, by simp, rfl, by simp, by simp [getN]⟩
  | n + 1, l, a, h => by
    rw [getN] at h ⊢
    by_cases h0 : (getO L l a).1 = 0
    · rw [if_pos h0] at h ⊢
      obtain ⟨y, r1, h1, h2, h3, h4⟩ := getO_back hB h0
      rw [h4] at h ⊢
      simp only at h ⊢
      obtain ⟨ys, r, h5, h6, h7, h8, h9⟩ := getN_back hB n _ _ h
      refine ⟨y :: ys, r, by simp [h5], fun z hz => ?_, by rw [chkF, if_pos h2]; exact h7, ?_, ?_⟩
      · rcases List.mem_cons.1 hz with rfl | hz
        · exact h1
        · exact h6 z hz
      · rw [h3, ← drop_next h3, h8, List.flatMap_cons, List.append_assoc]
      · rw [h9]; simp only [List.flatMap_cons, List.length_append, List.append_assoc, List.cons_append, List.nil_append, Prod.mk.injEq, true_and, and_true]; omega
    · rw [if_neg h0] at h; exact absurd h h0
/-- What is read is the form of it, and may be. -/
theorem getL_back {L : List Int} {a : Nat} (hB : Byts L) (h : (getL L a).1 = 0) : ∃ (l : List OpV) (r : List Int), (∀ y ∈ l, OpOk y) ∧ (chk l).1 = 0 ∧ L.drop a = formL l ++ r ∧ getL L a = (0, a + (formL l).length, l) := by
  unfold getL at h ⊢
  by_cases h0 : (fstM (L.drop a) 1024).2.2 = 0
  · obtain ⟨m, h1, h2, h3, h4, r, h5⟩ := fst_form (L.drop a) 1024 (hB.drop a) h0
    rw [if_neg (by simp [h0]), h3, h4, Int.toNat_natCast, Int.toNat_natCast] at h ⊢
    obtain ⟨ys, r2, h6, h7, h8, h9, h10⟩ := getN_back hB m [] _ h
    refine ⟨ys, r2, h7, by unfold chk; rw [if_neg (by omega)]; exact h8, ?_, ?_⟩
    · rw [drop_next h5] at h9; rw [h5, h9, formL, h6, List.append_assoc]
    · rw [h10, formL, h6, List.length_append, List.nil_append, Nat.add_assoc]
  · rw [if_pos h0] at h; exact absurd h h0
end Go.Proofs.Ytkjjlfpghhefcab
namespace Go.Proofs.Ytkjjlfpghhefcab
open Go.RowKit
set_option linter.unusedSimpArgs false
set_option linter.unusedVariables false

theorem new_out (w : World) : OutAt (w.alloc (.cells #[.slice none 0 0] 87)) w.heap.size (.slice none 0 0) [] := ⟨Blk.new w 87 _, rfl, .inl ⟨rfl, rfl⟩⟩
theorem wpAnyH_weaken {P : Program} {md : Region.Mode} {ops : Array Oper} {Q : Exit → Act → World → Prop} {S S' : World → Prop} (h : ∀ w, S' w → S w) : ∀ (fuel : Nat) (listed : Array Bool) (a : Act) (w : World), wpAnyH P md ops Q S' fuel listed a w → wpAnyH P md ops Q S fuel listed a w
  | 0, _, _, _, h1 => h1
  | fuel + 1, _, _, _, h1 => ⟨h1.1, fun i hi => wpOp_mono (fun a' w' h2 => ⟨h w' h2.1, wpAnyH_weaken h fuel _ a' w' h2.2⟩) (h1.2 i hi)⟩
set_option maxRecDepth 8000 in
set_option maxHeartbeats 2000000 in
theorem once_any (v : Value) (l : List Int) (w : World) (hr : RowAt w v l) (hB : Byts l) (hl : l.length ≤ 140737488351232) : Calls Try.prog 5 #[v] w fun e w' => e = .returned (.bool true) ∧ Below w.heap.size w w' := by
  obtain ⟨va, vc, rfl⟩ := row_form hr
  have HR := Keep.mk hr
  have HBy := Keep.mk hB
  have Hlen := Keep.mk hl
  have Hlst : Keep (lst (strOfNums l) = l) := ⟨lst_nums hB⟩
  have HS : Keep ((strOfNums l).size ≤ 140737488355328) := ⟨by rw [str_size hB]; omega⟩
  clear hr hB hl
  go_enter Try.func5, Try.ntmps5
  refine wp_seq_k fun K1 hK1 => ?_
  refine wp_region_list (WL.out ?_)
  refine WL.val (by kernel_rfl) (.bool false) (by go_simp) ?_
  simp only [Act.put, List.setIfInBounds_toArray, List.set_cons_zero, List.set_cons_succ]
  refine WL.nil ?_
  refine hK1 _ _ ?_
  refine wp_seq_k fun K2 hK2 => ?_
  refine wp_region_list (WL.out ?_)
  refine WL.val (by kernel_rfl) (.slice va l.length vc) (by go_simp) ?_
  simp only [Act.put, List.setIfInBounds_toArray, List.set_cons_zero, List.set_cons_succ]
  refine WL.callF (by kernel_rfl) 7 _ _ rfl Try.in7 #[.slice va l.length vc] (by simp [Act.eval]) ?_
  refine (newIn_any _ l w HR.out).mono ?_
  rintro e w1 ⟨rfl, hw1⟩
  refine ⟨_, rfl, ?_⟩
  rw [hw1]
  clear hw1 w1
  have HI1 : Keep (InAt (w.alloc (.cells #[.string (strOfNums l), .int .i64 0, .pointer none] 68)) w.heap.size (strOfNums l) 0 none) := ⟨Blk.new w 68 _, Nat.zero_le _⟩
  have B1 : Keep (Below w.heap.size w (w.alloc (.cells #[.string (strOfNums l), .int .i64 0, .pointer none] 68))) := ⟨below_new w _⟩
  generalize w.alloc (.cells #[.string (strOfNums l), .int .i64 0, .pointer none] 68) = w1 at *
  obtain ⟨p, hp⟩ : ∃ p, w.heap.size = p := ⟨_, rfl⟩
  have Hp := Keep.mk hp
  rw [hp] at HI1 ⊢
  clear hp
  simp only [Act.put, List.setIfInBounds_toArray, List.set_cons_zero, List.set_cons_succ]
  refine WL.val (by kernel_rfl) (.pointer (some ⟨p, 0, none⟩)) (by go_simp) ?_
  simp only [Act.put, List.setIfInBounds_toArray, List.set_cons_zero, List.set_cons_succ]
  refine WL.nil ?_
  refine hK2 _ _ ?_
  refine wp_seq_k fun K3 hK3 => ?_
  refine wp_region_list (WL.out ?_)
  refine WL.callF (by kernel_rfl) 18 _ _ rfl Try.in18 #[] (by simp) ?_
  refine (newOut_any w1).mono ?_
  rintro e w2 ⟨rfl, hw2⟩
  refine ⟨_, rfl, ?_⟩
  rw [hw2]
  clear hw2 w2
  have HO2 := Keep.mk (new_out w1)
  have BS2 : Keep (Below w1.heap.size w1 (w1.alloc (.cells #[.slice none 0 0] 87))) := ⟨below_new w1 _⟩
  generalize w1.alloc (.cells #[.slice none 0 0] 87) = w2 at *
  have B2 : Keep (Below w.heap.size w w2) := ⟨B1.out.trans (BS2.out.mono B1.out.size)⟩
  have HI2 : Keep (InAt w2 p (strOfNums l) 0 none) := ⟨HI1.out.blk.below BS2.out HI1.out.blk.lt, HI1.out.le⟩
  have Hq0 : Keep (w.heap.size ≤ w1.heap.size) := ⟨B1.out.size⟩
  generalize w1.heap.size = q at *
  simp only [Act.put, List.setIfInBounds_toArray, List.set_cons_zero, List.set_cons_succ]
  refine WL.val (by kernel_rfl) (.pointer (some ⟨q, 0, none⟩)) (by go_simp) ?_
  simp only [Act.put, List.setIfInBounds_toArray, List.set_cons_zero, List.set_cons_succ]
  refine WL.nil ?_
  refine hK3 _ _ ?_
  refine wp_seq_k fun K4 hK4 => ?_
  refine wp_seq_k fun K5 hK5 => ?_
  refine wp_region_list (WL.out ?_)
  refine WL.val (by kernel_rfl) (.pointer (some ⟨p, 0, none⟩)) (by go_simp) ?_
  simp only [Act.put, List.setIfInBounds_toArray, List.set_cons_zero, List.set_cons_succ]
  refine WL.val (by kernel_rfl) (.bool false) (by go_simp) ?_
  simp only [Act.put, List.setIfInBounds_toArray, List.set_cons_zero, List.set_cons_succ]
  refine WL.val (by kernel_rfl) (.bool false) (by go_simp) ?_
  simp only [Act.put, List.setIfInBounds_toArray, List.set_cons_zero, List.set_cons_succ]
  refine WL.val (by kernel_rfl) (.pointer (some ⟨q, 0, none⟩)) (by go_simp) ?_
  simp only [Act.put, List.setIfInBounds_toArray, List.set_cons_zero, List.set_cons_succ]
  refine WL.val (by kernel_rfl) (.bool false) (by go_simp) ?_
  simp only [Act.put, List.setIfInBounds_toArray, List.set_cons_zero, List.set_cons_succ]
  refine WL.val (by kernel_rfl) (.bool false) (by go_simp) ?_
  simp only [Act.put, List.setIfInBounds_toArray, List.set_cons_zero, List.set_cons_succ]
  refine WL.nil ?_
  refine hK5 _ _ ?_
  refine wp_cond_false rfl ?_
  refine wp_skip ?_
  refine hK4 _ _ ?_
  refine wp_seq_k fun K6 hK6 => ?_
  refine wp_region_list (WL.out ?_)
  refine WL.val (by kernel_rfl) (.pointer (some ⟨p, 0, none⟩)) (by go_simp) ?_
  simp only [Act.put, List.setIfInBounds_toArray, List.set_cons_zero, List.set_cons_succ]
  refine WL.callF (by kernel_rfl) 10 _ _ rfl Try.in10 #[ptr p] (by simp [Act.eval]) ?_
  refine (get_any p (strOfNums l) 0 w2 HI2.out HS.out).mono ?_
  rw [Hlst.out]
  rintro e w3 ⟨v, er, rfl, hg3, hc3⟩
  refine ⟨_, rfl, ?_⟩
  have G3 := Keep.mk hg3
  have HO3 : Keep (OutAt w3 q (.slice none 0 0) []) := ⟨HO2.out.grown hg3 (fun k hk e => by subst e; exact HO2.out.off HI2.out.blk (by decide) (by decide) hk)⟩
  have B3 : Keep (Below w.heap.size w w3) := ⟨B2.out.trans (hg3.to_below (fun k hk e => by have := Hp.out; omega) B2.out.size)⟩
  clear hg3
  by_cases hE : (getL l 0).1 = 0
  · rcases hc3 with ⟨e1, rfl, h4, h5, h6, h7, h8⟩ | ⟨e1, _⟩
    rotate_left
    · exact absurd hE e1
    obtain ⟨L, r, k1, k2, k3, k4⟩ := getL_back HBy.out hE
    rw [k4] at h4 h6
    simp only [Nat.zero_add] at h4 h6
    rw [List.drop_zero] at k3
    have HL := Keep.mk h4
    have HI3 := Keep.mk h6
    have Hok := Keep.mk k1
    have Hch := Keep.mk k2
    have Hl := Keep.mk k3
    have Hll : Keep (L.length ≤ 1024) := ⟨(chk_ok k2).1⟩
    have Hfl : Keep ((formL L).length ≤ l.length) := ⟨by rw [k3, List.length_append]; omega⟩
    clear h4 h5 h6 h7 h8 k1 k2 k3 k4 e1
    obtain ⟨ga, gc, rfl⟩ := HL.out.sl
    simp only [Act.put, List.setIfInBounds_toArray, List.set_cons_zero, List.set_cons_succ]
    refine WL.val (by kernel_rfl) (.tuple #[.slice ga L.length gc, .nilIface]) (by go_simp) ?_
    simp only [Act.put, List.setIfInBounds_toArray, List.set_cons_zero, List.set_cons_succ]
    refine WL.val (by kernel_rfl) (.slice ga L.length gc) (by go_simp) ?_
    simp only [Act.put, List.setIfInBounds_toArray, List.set_cons_zero, List.set_cons_succ]
    refine WL.val (by kernel_rfl) (.nilIface) (by go_simp) ?_
    simp only [Act.put, List.setIfInBounds_toArray, List.set_cons_zero, List.set_cons_succ]
    refine WL.val (by kernel_rfl) (.slice ga L.length gc) (by go_simp) ?_
    simp only [Act.put, List.setIfInBounds_toArray, List.set_cons_zero, List.set_cons_succ]
    refine WL.val (by kernel_rfl) (.nilIface) (by go_simp) ?_
    simp only [Act.put, List.setIfInBounds_toArray, List.set_cons_zero, List.set_cons_succ]
    refine WL.nil ?_
    refine hK6 _ _ ?_
    refine wp_seq_k fun K7 hK7 => ?_
    refine wp_seq_k fun K8 hK8 => ?_
    refine wp_region_list (WL.out ?_)
    refine WL.val (by kernel_rfl) (.nilIface) (by go_simp) ?_
    simp only [Act.put, List.setIfInBounds_toArray, List.set_cons_zero, List.set_cons_succ]
    refine WL.val (by kernel_rfl) (.bool false) (by go_simp) ?_
    simp only [Act.put, List.setIfInBounds_toArray, List.set_cons_zero, List.set_cons_succ]
    refine WL.nil ?_
    refine hK8 _ _ ?_
    refine wp_cond_false rfl ?_
    refine wp_skip ?_
    refine hK7 _ _ ?_
    refine wp_seq_k fun K9 hK9 => ?_
    refine wp_region_list (WL.out ?_)
    refine WL.val (by kernel_rfl) (.slice ga L.length gc) (by go_simp) ?_
    simp only [Act.put, List.setIfInBounds_toArray, List.set_cons_zero, List.set_cons_succ]
    refine WL.callF (by kernel_rfl) 26 _ _ rfl Try.in26 #[.slice ga L.length gc] (by simp [Act.eval]) ?_
    refine (check_any _ L w3 HL.out.ops Hok.out (by have := Hll.out; omega)).mono ?_
    rintro e w4 ⟨rfl, hb4⟩
    refine ⟨_, rfl, ?_⟩
    rw [Hch.out]
    have BS4 := Keep.mk hb4
    have B4 : Keep (Below w.heap.size w w4) := ⟨B3.out.trans (hb4.mono B3.out.size)⟩
    have HO4 := Keep.mk (HO3.out.below hb4)
    have HI4 : Keep (InAt w4 p (strOfNums l) (formL L).length none) := ⟨HI3.out.blk.below hb4 HI3.out.blk.lt, HI3.out.le⟩
    have HL4 := Keep.mk (HL.out.below hb4)
    clear hb4
    simp only [Act.put, List.setIfInBounds_toArray, List.set_cons_zero, List.set_cons_succ]
    refine WL.val (by kernel_rfl) (.tuple #[.int .i64 0, .int .i64 ((chk L).2 : Int)]) (by go_simp) ?_
    simp only [Act.put, List.setIfInBounds_toArray, List.set_cons_zero, List.set_cons_succ]
    refine WL.val (by kernel_rfl) (.int .i64 0) (by go_simp) ?_
    simp only [Act.put, List.setIfInBounds_toArray, List.set_cons_zero, List.set_cons_succ]
    refine WL.val (by kernel_rfl) (.int .i64 ((chk L).2 : Int)) (by go_simp) ?_
    simp only [Act.put, List.setIfInBounds_toArray, List.set_cons_zero, List.set_cons_succ]
    refine WL.val (by kernel_rfl) (.int .i64 0) (by go_simp) ?_
    simp only [Act.put, List.setIfInBounds_toArray, List.set_cons_zero, List.set_cons_succ]
    refine WL.val (by kernel_rfl) (.int .i64 ((chk L).2 : Int)) (by go_simp) ?_
    simp only [Act.put, List.setIfInBounds_toArray, List.set_cons_zero, List.set_cons_succ]
    refine WL.nil ?_
    refine hK9 _ _ ?_
    refine wp_seq_k fun K10 hK10 => ?_
    refine wp_region_list (WL.out ?_)
    refine WL.val (by kernel_rfl) (.pointer (some ⟨q, 0, none⟩)) (by go_simp) ?_
    simp only [Act.put, List.setIfInBounds_toArray, List.set_cons_zero, List.set_cons_succ]
    refine WL.val (by kernel_rfl) (.slice ga L.length gc) (by go_simp) ?_
    simp only [Act.put, List.setIfInBounds_toArray, List.set_cons_zero, List.set_cons_succ]
    refine WL.callF (by kernel_rfl) 20 _ _ rfl Try.in20 #[ptr q, .slice ga L.length gc] (by simp [Act.eval]) ?_
    refine (put_any q _ [] _ L w4 HO4.out HL4.out.ops Hok.out (by have := Hll.out; omega) (fun k hk => by
      rcases HL4.out.form with ⟨e1, _⟩ | ⟨g, cap, cur, e1, hgb, _⟩
      · rw [e1] at hk; simp [Value.ownBlock] at hk
      · rw [e1] at hk; simp [Value.ownBlock] at hk; subst hk; exact HO4.out.off hgb (by decide) (by decide)) (fun _ => by have := Hfl.out; have := Hlen.out; simp only [List.length_nil]; omega)).mono ?_
    rintro e w5 ⟨rfl, v5, h1, h2, h3⟩
    refine ⟨_, rfl, ?_⟩
    rw [Hch.out] at h1 ⊢
    rw [if_pos rfl, List.nil_append] at h1
    have HO5 := Keep.mk h1
    have HI5 : Keep (InAt w5 p (strOfNums l) (formL L).length none) := ⟨h3.blk HI4.out.blk (HO4.out.off HI4.out.blk (by decide) (by decide)), HI4.out.le⟩
    have B5 : Keep (Below w.heap.size w w5) := ⟨B4.out.trans (h3.to_below (fun k hk e => by rcases e with rfl | e; have := Hq0.out; omega; simp [Value.ownBlock] at e) B4.out.size)⟩
    have HR5 := Keep.mk (HR.out.below B5.out)
    clear h1 h2 h3
    simp only [Act.put, List.setIfInBounds_toArray, List.set_cons_zero, List.set_cons_succ]
    refine WL.val (by kernel_rfl) (.int .i64 0) (by go_simp) ?_
    simp only [Act.put, List.setIfInBounds_toArray, List.set_cons_zero, List.set_cons_succ]
    refine WL.nil ?_
    refine hK10 _ _ ?_
    refine wp_seq_k fun K11 hK11 => ?_
    refine wp_region_list (WL.out ?_)
    refine WL.val (by kernel_rfl) (.pointer (some ⟨p, 0, none⟩)) (by go_simp) ?_
    simp only [Act.put, List.setIfInBounds_toArray, List.set_cons_zero, List.set_cons_succ]
    refine WL.callF (by kernel_rfl) 14 _ _ rfl Try.in14 #[ptr p] (by simp [Act.eval]) ?_
    refine (iat_any p _ (formL L).length none w5 HI5.out).mono ?_
    rintro e w0 ⟨rfl, hw0⟩
    rw [hw0]
    clear hw0 w0
    refine ⟨_, rfl, ?_⟩
    simp only [Act.put, List.setIfInBounds_toArray, List.set_cons_zero, List.set_cons_succ]
    refine WL.val (by kernel_rfl) (.int .i64 ((formL L).length : Int)) (by go_simp) ?_
    simp only [Act.put, List.setIfInBounds_toArray, List.set_cons_zero, List.set_cons_succ]
    refine WL.nil ?_
    refine hK11 _ _ ?_
    refine wp_seq_k fun K12 hK12 => ?_
    have hD0 : Below w5.heap.size w5 w5.drew := (Below.refl _ _).drew
    obtain ⟨vs, hvs, hvr⟩ := sub_any _ l w5 HR5.out (formL L).length Hfl.out
    have Htk : Keep (l.take (formL L).length = formL L) := ⟨by rw [Hl.out, List.take_left]⟩
    obtain ⟨st, hst⟩ : ∃ st, strOfNums (formL L) = st := ⟨_, rfl⟩
    have Hst := Keep.mk hst
    have HS0 : Keep (∀ wx, Below w5.heap.size w5 wx → RowAt wx vs (formL L)) := ⟨fun wx hb => by have := hvr wx (HR5.out.below hb); rwa [Htk.out] at this⟩
    clear hvr hst
    have hfi : ((formL L).length : Int) ≤ (l.length : Int) := by have := Hfl.out; omega
    have hfn : (0 : Int) ≤ ((formL L).length : Int) := by omega
    refine wp_region_held_drew (S := fun wx => RowAt wx vs (formL L)) (by kernel_rfl) (HS0.out _ hD0) (fun hHeld => ?_)
    refine wpAnyH_take (i := 0) (oi := ⟨some 43, Op.move (Operand.tmp 7), 50, _, _, none⟩) (v := .int .i64 0) rfl (by kernel_rfl) (by kernel_rfl) (by kernel_rfl) (fun _ _ _ h => h) (Or.inl ⟨by rfl, fun w hS => by clear hS; go_simp⟩) hHeld ?_
    simp only [Act.put, List.setIfInBounds_toArray, List.set_cons_zero, List.set_cons_succ]
    refine wpAnyH_take (i := 1) (oi := ⟨some 44, Op.binOp BinOp.eql 50 (Operand.tmp 43) (Operand.const (Value.int IntKind.i64 0)) 50, 4, _, _, none⟩) (v := .bool true) rfl (by kernel_rfl) (by kernel_rfl) (by kernel_rfl) (fun _ _ _ h => h) (Or.inl ⟨by rfl, fun w hS => by clear hS; go_simp⟩) hHeld ?_
    simp only [Act.put, List.setIfInBounds_toArray, List.set_cons_zero, List.set_cons_succ]
    refine wpAnyH_take (i := 2) (oi := ⟨some 45, Op.move (Operand.tmp 44), 4, _, _, none⟩) (v := .bool true) rfl (by kernel_rfl) (by kernel_rfl) (by kernel_rfl) (fun _ _ _ h => h) (Or.inl ⟨by rfl, fun w hS => by clear hS; go_simp⟩) hHeld ?_
    simp only [Act.put, List.setIfInBounds_toArray, List.set_cons_zero, List.set_cons_succ]
    refine wpAnyH_take (i := 3) (oi := ⟨some 46, Op.move (Operand.tmp 9), 50, _, _, some (2, true)⟩) (v := .int .i64 0) rfl (by kernel_rfl) (by kernel_rfl) (by kernel_rfl) (fun _ _ _ h => h) (Or.inl ⟨by rfl, fun w hS => by clear hS; go_simp⟩) hHeld ?_
    simp only [Act.put, List.setIfInBounds_toArray, List.set_cons_zero, List.set_cons_succ]
    refine wpAnyH_take (i := 4) (oi := ⟨some 47, Op.binOp BinOp.eql 50 (Operand.tmp 46) (Operand.const (Value.int IntKind.i64 0)) 50, 4, _, _, some (2, true)⟩) (v := .bool true) rfl (by kernel_rfl) (by kernel_rfl) (by kernel_rfl) (fun _ _ _ h => h) (Or.inl ⟨by rfl, fun w hS => by clear hS; go_simp⟩) hHeld ?_
    simp only [Act.put, List.setIfInBounds_toArray, List.set_cons_zero, List.set_cons_succ]
    refine wpAnyH_take (i := 5) (oi := ⟨some 48, Op.pick (Operand.tmp 45) (Operand.tmp 47) (Operand.const (Value.bool false)), 4, _, _, none⟩) (v := .bool true) rfl (by kernel_rfl) (by kernel_rfl) (by kernel_rfl) (fun _ _ _ h => h) (Or.inl ⟨by rfl, fun w hS => by clear hS; go_simp⟩) hHeld ?_
    simp only [Act.put, List.setIfInBounds_toArray, List.set_cons_zero, List.set_cons_succ]
    refine wpAnyH_take (i := 6) (oi := ⟨some 49, Op.move (Operand.tmp 48), 4, _, _, none⟩) (v := .bool true) rfl (by kernel_rfl) (by kernel_rfl) (by kernel_rfl) (fun _ _ _ h => h) (Or.inl ⟨by rfl, fun w hS => by clear hS; go_simp⟩) hHeld ?_
    simp only [Act.put, List.setIfInBounds_toArray, List.set_cons_zero, List.set_cons_succ]
    refine wpAnyH_take (i := 7) (oi := ⟨some 50, Op.move (Operand.tmp 10), 3, _, _, some (6, true)⟩) (v := .int .i64 ((formL L).length : Int)) rfl (by kernel_rfl) (by kernel_rfl) (by kernel_rfl) (fun _ _ _ h => h) (Or.inl ⟨by rfl, fun w hS => by clear hS; go_simp⟩) hHeld ?_
    simp only [Act.put, List.setIfInBounds_toArray, List.set_cons_zero, List.set_cons_succ]
    refine wpAnyH_take (i := 8) (oi := ⟨some 51, Op.binOp BinOp.geq 3 (Operand.tmp 50) (Operand.const (Value.int IntKind.i64 0)) 3, 4, _, _, some (6, true)⟩) (v := .bool true) rfl (by kernel_rfl) (by kernel_rfl) (by kernel_rfl) (fun _ _ _ h => h) (Or.inl ⟨by rfl, fun w hS => by clear hS; go_simp⟩) hHeld ?_
    simp only [Act.put, List.setIfInBounds_toArray, List.set_cons_zero, List.set_cons_succ]
    refine wpAnyH_take (i := 9) (oi := ⟨some 52, Op.pick (Operand.tmp 49) (Operand.tmp 51) (Operand.const (Value.bool false)), 4, _, _, none⟩) (v := .bool true) rfl (by kernel_rfl) (by kernel_rfl) (by kernel_rfl) (fun _ _ _ h => h) (Or.inl ⟨by rfl, fun w hS => by clear hS; go_simp⟩) hHeld ?_
    simp only [Act.put, List.setIfInBounds_toArray, List.set_cons_zero, List.set_cons_succ]
    refine wpAnyH_take (i := 10) (oi := ⟨some 53, Op.move (Operand.tmp 52), 4, _, _, none⟩) (v := .bool true) rfl (by kernel_rfl) (by kernel_rfl) (by kernel_rfl) (fun _ _ _ h => h) (Or.inl ⟨by rfl, fun w hS => by clear hS; go_simp⟩) hHeld ?_
    simp only [Act.put, List.setIfInBounds_toArray, List.set_cons_zero, List.set_cons_succ]
    refine wpAnyH_take (i := 11) (oi := ⟨some 54, Op.move (Operand.tmp 10), 3, _, _, some (10, true)⟩) (v := .int .i64 ((formL L).length : Int)) rfl (by kernel_rfl) (by kernel_rfl) (by kernel_rfl) (fun _ _ _ h => h) (Or.inl ⟨by rfl, fun w hS => by clear hS; go_simp⟩) hHeld ?_
    simp only [Act.put, List.setIfInBounds_toArray, List.set_cons_zero, List.set_cons_succ]
    refine wpAnyH_take (i := 12) (oi := ⟨some 55, Op.move (Operand.tmp 0), 22, _, _, some (10, true)⟩) (v := .slice va l.length vc) rfl (by kernel_rfl) (by kernel_rfl) (by kernel_rfl) (fun _ _ _ h => h) (Or.inl ⟨by rfl, fun w hS => by clear hS; go_simp⟩) hHeld ?_
    simp only [Act.put, List.setIfInBounds_toArray, List.set_cons_zero, List.set_cons_succ]
    refine wpAnyH_take (i := 13) (oi := ⟨some 56, Op.call { callee := Callee.builtin Builtin.len, args := #[Operand.tmp 55], argTypes := #[22] }, 3, _, _, some (10, true)⟩) (v := .int .i64 (l.length : Int)) rfl (by kernel_rfl) (by kernel_rfl) (by kernel_rfl) (fun _ _ _ h => h) (Or.inl ⟨by rfl, fun w hS => by clear hS; go_simp⟩) hHeld ?_
    simp only [Act.put, List.setIfInBounds_toArray, List.set_cons_zero, List.set_cons_succ]
    refine wpAnyH_take (i := 14) (oi := ⟨some 57, Op.binOp BinOp.leq 3 (Operand.tmp 54) (Operand.tmp 56) 3, 4, _, _, some (10, true)⟩) (v := .bool true) rfl (by kernel_rfl) (by kernel_rfl) (by kernel_rfl) (fun _ _ _ h => h) (Or.inl ⟨by rfl, fun w hS => by clear hS; go_simp⟩) hHeld ?_
    simp only [Act.put, List.setIfInBounds_toArray, List.set_cons_zero, List.set_cons_succ]
    refine wpAnyH_take (i := 15) (oi := ⟨some 58, Op.pick (Operand.tmp 53) (Operand.tmp 57) (Operand.const (Value.bool false)), 4, _, _, none⟩) (v := .bool true) rfl (by kernel_rfl) (by kernel_rfl) (by kernel_rfl) (fun _ _ _ h => h) (Or.inl ⟨by rfl, fun w hS => by clear hS; go_simp⟩) hHeld ?_
    simp only [Act.put, List.setIfInBounds_toArray, List.set_cons_zero, List.set_cons_succ]
    refine wpAnyH_take (i := 16) (oi := ⟨some 59, Op.move (Operand.tmp 58), 4, _, _, none⟩) (v := .bool true) rfl (by kernel_rfl) (by kernel_rfl) (by kernel_rfl) (fun _ _ _ h => h) (Or.inl ⟨by rfl, fun w hS => by clear hS; go_simp⟩) hHeld ?_
    simp only [Act.put, List.setIfInBounds_toArray, List.set_cons_zero, List.set_cons_succ]
    refine wpAnyH_take (i := 17) (oi := ⟨some 60, Op.move (Operand.tmp 4), 47, _, _, some (16, true)⟩) (v := .pointer (some ⟨q, 0, none⟩)) rfl (by kernel_rfl) (by kernel_rfl) (by kernel_rfl) (fun _ _ _ h => h) (Or.inl ⟨by rfl, fun w hS => by clear hS; go_simp⟩) hHeld ?_
    simp only [Act.put, List.setIfInBounds_toArray, List.set_cons_zero, List.set_cons_succ]
    refine wpAnyH_take (i := 20) (oi := ⟨some 63, Op.move (Operand.tmp 0), 22, _, _, some (16, true)⟩) (v := .slice va l.length vc) rfl (by kernel_rfl) (by kernel_rfl) (by kernel_rfl) (fun _ _ _ h => h) (Or.inl ⟨by rfl, fun w hS => by clear hS; go_simp⟩) hHeld ?_
    simp only [Act.put, List.setIfInBounds_toArray, List.set_cons_zero, List.set_cons_succ]
    refine wpAnyH_take (i := 21) (oi := ⟨some 64, Op.move (Operand.tmp 10), 3, _, _, some (16, true)⟩) (v := .int .i64 ((formL L).length : Int)) rfl (by kernel_rfl) (by kernel_rfl) (by kernel_rfl) (fun _ _ _ h => h) (Or.inl ⟨by rfl, fun w hS => by clear hS; go_simp⟩) hHeld ?_
    simp only [Act.put, List.setIfInBounds_toArray, List.set_cons_zero, List.set_cons_succ]
    refine wpAnyH_take (i := 22) (oi := ⟨some 65, Op.slice 22 (Operand.tmp 63) none (some (Operand.tmp 64)) none, 22, _, _, some (16, true)⟩) (v := vs) rfl (by kernel_rfl) (by kernel_rfl) (by kernel_rfl) (fun _ _ _ h => h) (yieldsIf_slice (by rfl) 22 (Operand.tmp 63) (Operand.tmp 64) rfl _ _ vs rfl rfl hvs) hHeld ?_
    simp only [Act.put, List.setIfInBounds_toArray, List.set_cons_zero, List.set_cons_succ]
    refine wpAnyH_take (i := 23) (oi := ⟨some 66, Op.convert 22 9 (Operand.tmp 65), 9, _, _, some (16, true)⟩) (v := .string st) rfl (by kernel_rfl) (by kernel_rfl) (by kernel_rfl) (fun _ _ _ h => h) (Or.inl ⟨by rfl, fun w hS => by have h1 := conv_row _ _ w hS; rw [Hst.out] at h1; clear hS; go_simp⟩) hHeld ?_
    simp only [Act.put, List.setIfInBounds_toArray, List.set_cons_zero, List.set_cons_succ]
    refine wpAnyH_ready (rs := [18]) (by kernel_rfl) (by simp) ?_
    refine AllReadyH.cons (o := ⟨some 61, Op.call { callee := Callee.value (Operand.func 22), args := #[Operand.tmp 60], argTypes := #[47] }, 22, _, _, some (16, true)⟩) rfl (fun K hK => ?_) AllReadyH.nil
    rw [if_pos (by rfl)]
    refine wp_callF 22 _ _ rfl Try.in22 #[ptr q] (by simp [Act.eval]) (fun vz wz => vz = .slice (some ⟨w5.heap.size, 0, none⟩) (formL L).length (formL L).length ∧ Below w5.heap.size w5 wz ∧ RowAt wz (.slice (some ⟨w5.heap.size, 0, none⟩) (formL L).length (formL L).length) (formL L)) ?_ ?_
    · refine (odone_any q v5 _ w5.drew (HO5.out.below hD0) (by have := Hfl.out; have := Hlen.out; omega)).mono ?_
      rintro e wz ⟨rfl, hwz⟩
      refine ⟨_, rfl, rfl, by rw [hwz]; exact hD0.trans ((below_new w5.drew _).mono hD0.size), by rw [hwz]; exact (own_done w5.drew (formL L) (by have := Hfl.out; have := Hlen.out; omega)).row⟩
    rintro vz w6 ⟨rfl, h6, h7⟩
    have HB6 := Keep.mk h6
    have HD6 := Keep.mk h7
    clear h6 h7
    refine hK.out _ _ (HS0.out _ HB6.out) fun hHeld2 => ?_
    clear hK
    simp only [Act.put, List.setIfInBounds_toArray, List.set_cons_zero, List.set_cons_succ]
    refine wpAnyH_weaken (S' := fun wx => RowAt wx vs (formL L) ∧ RowAt wx (.slice (some ⟨w5.heap.size, 0, none⟩) (formL L).length (formL L).length) (formL L)) (fun _ h => h.1) _ _ _ _ ?_
    have hHeld3 := And.intro hHeld2 HD6.out
    refine wpAnyH_take (i := 19) (oi := ⟨some 62, Op.convert 22 9 (Operand.tmp 61), 9, _, _, some (16, true)⟩) (v := .string st) rfl (by kernel_rfl) (by kernel_rfl) (by kernel_rfl) (fun _ _ _ h => h) (Or.inl ⟨by rfl, fun w hS => by have h1 := conv_row _ _ w hS.2; rw [Hst.out] at h1; clear hS; go_simp⟩) hHeld3 ?_
    simp only [Act.put, List.setIfInBounds_toArray, List.set_cons_zero, List.set_cons_succ]
    refine wpAnyH_take (i := 24) (oi := ⟨some 67, Op.binOp BinOp.eql 9 (Operand.tmp 62) (Operand.tmp 66) 9, 4, _, _, some (16, true)⟩) (v := .bool true) rfl (by kernel_rfl) (by kernel_rfl) (by kernel_rfl) (fun _ _ _ h => h) (Or.inl ⟨by rfl, fun w hS => by have h1 := bs_refl st; clear hS; go_simp⟩) hHeld3 ?_
    simp only [Act.put, List.setIfInBounds_toArray, List.set_cons_zero, List.set_cons_succ]
    refine wpAnyH_take (i := 25) (oi := ⟨some 68, Op.pick (Operand.tmp 59) (Operand.tmp 67) (Operand.const (Value.bool false)), 4, _, _, none⟩) (v := .bool true) rfl (by kernel_rfl) (by kernel_rfl) (by kernel_rfl) (fun _ _ _ h => h) (Or.inl ⟨by rfl, fun w hS => by clear hS; go_simp⟩) hHeld3 ?_
    simp only [Act.put, List.setIfInBounds_toArray, List.set_cons_zero, List.set_cons_succ]
    refine wpAnyH_take (i := 26) (oi := ⟨some 69, Op.move (Operand.tmp 68), 4, _, _, none⟩) (v := .bool true) rfl (by kernel_rfl) (by kernel_rfl) (by kernel_rfl) (fun _ _ _ h => h) (Or.inl ⟨by rfl, fun w hS => by clear hS; go_simp⟩) hHeld3 ?_
    simp only [Act.put, List.setIfInBounds_toArray, List.set_cons_zero, List.set_cons_succ]
    refine wpAnyH_ready (rs := [27]) (by kernel_rfl) (by simp) ?_
    refine AllReadyH.cons (o := ⟨some 70, Op.call { callee := Callee.value (Operand.func 17), args := #[], argTypes := #[] }, 4, _, _, some (26, true)⟩) rfl (fun K hK => ?_) AllReadyH.nil
    rw [if_pos (by rfl)]
    refine wp_callF 17 _ _ rfl Try.in17 #[] (by simp) (fun vz wz => vz = .bool true ∧ Below w6.heap.size w6 wz) ?_ ?_
    · refine (fixed_any w6).mono ?_
      rintro e wz ⟨rfl, h⟩
      exact ⟨_, rfl, rfl, h⟩
    rintro vz w7 ⟨rfl, h7⟩
    have HB7 := Keep.mk h7
    clear h7
    refine hK.out _ _ ⟨HS0.out _ (HB6.out.trans (HB7.out.mono HB6.out.size)), HD6.out.below HB7.out⟩ fun hHeld4 => ?_
    clear hK
    simp only [Act.put, List.setIfInBounds_toArray, List.set_cons_zero, List.set_cons_succ]
    refine wpAnyH_take (i := 28) (oi := ⟨some 71, Op.pick (Operand.tmp 69) (Operand.tmp 70) (Operand.const (Value.bool false)), 4, _, _, none⟩) (v := .bool true) rfl (by kernel_rfl) (by kernel_rfl) (by kernel_rfl) (fun _ _ _ h => h) (Or.inl ⟨by rfl, fun w hS => by clear hS; go_simp⟩) hHeld4 ?_
    simp only [Act.put, List.setIfInBounds_toArray, List.set_cons_zero, List.set_cons_succ]
    refine wpAnyH_take (i := 29) (oi := ⟨some 2, Op.assign (Operand.tmp 71), 4, _, _, none⟩) (v := .bool true) rfl (by kernel_rfl) (by kernel_rfl) (by kernel_rfl) (fun _ _ _ h => h) (Or.inl ⟨by rfl, fun w hS => by clear hS; go_simp⟩) hHeld4 ?_
    simp only [Act.put, List.setIfInBounds_toArray, List.set_cons_zero, List.set_cons_succ]
    refine wpAnyH_done (by kernel_rfl) ?_ _
    refine hK12 _ _ ?_
    refine wp_ret ?_
    go_ret
    exact ⟨rfl, B5.out.trans ((HB6.out.trans (HB7.out.mono HB6.out.size)).mono B5.out.size)⟩
  · rcases hc3 with ⟨e1, _⟩ | ⟨_, rfl, q3, hq3, rfl, hbad⟩
    · exact absurd e1 hE
    unfold err
    simp only [Act.put, List.setIfInBounds_toArray, List.set_cons_zero, List.set_cons_succ]
    refine WL.val (by kernel_rfl) (.tuple #[.slice none 0 0, .iface 66 (ptr q3)]) (by go_simp) ?_
    simp only [Act.put, List.setIfInBounds_toArray, List.set_cons_zero, List.set_cons_succ]
    refine WL.val (by kernel_rfl) (.slice none 0 0) (by go_simp) ?_
    simp only [Act.put, List.setIfInBounds_toArray, List.set_cons_zero, List.set_cons_succ]
    refine WL.val (by kernel_rfl) (.iface 66 (ptr q3)) (by go_simp) ?_
    simp only [Act.put, List.setIfInBounds_toArray, List.set_cons_zero, List.set_cons_succ]
    refine WL.val (by kernel_rfl) (.slice none 0 0) (by go_simp) ?_
    simp only [Act.put, List.setIfInBounds_toArray, List.set_cons_zero, List.set_cons_succ]
    refine WL.val (by kernel_rfl) (.iface 66 (ptr q3)) (by go_simp) ?_
    simp only [Act.put, List.setIfInBounds_toArray, List.set_cons_zero, List.set_cons_succ]
    refine WL.nil ?_
    refine hK6 _ _ ?_
    refine wp_seq_k fun K13 hK13 => ?_
    refine wp_seq_k fun K14 hK14 => ?_
    refine wp_region_list (WL.out ?_)
    refine WL.val (by kernel_rfl) (.iface 66 (ptr q3)) (by go_simp) ?_
    simp only [Act.put, List.setIfInBounds_toArray, List.set_cons_zero, List.set_cons_succ]
    refine WL.val (by kernel_rfl) (.bool true) (by go_simp) ?_
    simp only [Act.put, List.setIfInBounds_toArray, List.set_cons_zero, List.set_cons_succ]
    refine WL.nil ?_
    refine hK14 _ _ ?_
    refine wp_cond_true rfl ?_
    refine wp_seq_k fun K15 hK15 => ?_
    refine wp_region_list (WL.out ?_)
    refine WL.val (by kernel_rfl) (.slice none 0 0) (by go_simp) ?_
    simp only [Act.put, List.setIfInBounds_toArray, List.set_cons_zero, List.set_cons_succ]
    refine WL.val (by kernel_rfl) (.int .i64 0) (by go_simp) ?_
    simp only [Act.put, List.setIfInBounds_toArray, List.set_cons_zero, List.set_cons_succ]
    refine WL.val (by kernel_rfl) (.bool true) (by go_simp) ?_
    simp only [Act.put, List.setIfInBounds_toArray, List.set_cons_zero, List.set_cons_succ]
    refine WL.val (by kernel_rfl) (.bool true) (by go_simp) ?_
    simp only [Act.put, List.setIfInBounds_toArray, List.set_cons_zero, List.set_cons_succ]
    refine WL.callF (by kernel_rfl) 17 _ _ rfl Try.in17 #[] (by simp) ?_
    refine (fixed_any w3).mono ?_
    rintro e w4 ⟨rfl, hb4⟩
    refine ⟨_, rfl, ?_⟩
    have B4 : Keep (Below w.heap.size w w4) := ⟨B3.out.trans (hb4.mono B3.out.size)⟩
    clear hb4
    simp only [Act.put, List.setIfInBounds_toArray, List.set_cons_zero, List.set_cons_succ]
    refine WL.val (by kernel_rfl) (.bool true) (by go_simp) ?_
    simp only [Act.put, List.setIfInBounds_toArray, List.set_cons_zero, List.set_cons_succ]
    refine WL.val (by kernel_rfl) (.bool true) (by go_simp) ?_
    simp only [Act.put, List.setIfInBounds_toArray, List.set_cons_zero, List.set_cons_succ]
    refine WL.nil ?_
    refine hK15 _ _ ?_
    refine wp_ret ?_
    go_ret
    exact ⟨rfl, B4.out⟩
end Go.Proofs.Ytkjjlfpghhefcab
namespace Go.Proofs.Ytkjjlfpghhefcab
open Go.ChangeShapes Go.WideShapes Go.ChangeAt Go.RowKit Go.Deep

theorem Try.cellsOf59 : Try.prog.cellsOf 59 = 37 := by kernel_rfl
theorem Try.cellsOf57 : Try.prog.cellsOf 57 = 33 := by kernel_rfl
theorem Try.cellsOf55 : Try.prog.cellsOf 55 = 32 := by kernel_rfl
theorem Try.cellsOf22 : Try.prog.cellsOf 22 = 1 := by kernel_rfl
theorem Try.cellsOf3 : Try.prog.cellsOf 3 = 1 := by kernel_rfl
theorem Try.cellsOf2 : Try.prog.cellsOf 2 = 1 := by kernel_rfl
theorem Try.cellsOf9 : Try.prog.cellsOf 9 = 1 := by kernel_rfl
theorem Try.cellsOf5 : Try.prog.cellsOf 5 = 1 := by kernel_rfl
theorem Try.bytesOf59 : Try.prog.bytesOf 59 = 88 := by kernel_rfl
theorem Try.bytesOf5 : Try.prog.bytesOf 5 = 1 := by kernel_rfl
theorem reach_is : reachBytes = 140737488351232 := by decide
theorem add_none' (b o i : Nat) : (⟨b, o, none⟩ : Addr).add i = ⟨b, o + i, none⟩ := by
  cases i with
  | zero => rfl
  | succ i => rfl
theorem mem_weightsAll {H : Type} {P : Program} {e : TypeId} {d : DataW H} : ∀ {ds : List (DataW H)}, d ∈ ds → ∀ n ∈ d.weights P e, n ∈ DataW.weightsAll P e ds
  | d0 :: ds, h, n, hn => by
    simp only [DataW.weightsAll, List.mem_append]
    rcases List.mem_cons.1 h with rfl | h
    · exact .inl hn
    · exact .inr (mem_weightsAll h n hn)
theorem wf_u8 {n : Int} (h : (Lit.int .u8 n).wf = true) : 0 ≤ n ∧ n < 256 := by
  have h1 : IntKind.u8.min = 0 := by decide
  have h2 : IntKind.u8.max = 255 := by decide
  simp only [Lit.wf, h1, h2, Bool.and_eq_true, decide_eq_true_eq] at h
  omega
theorem wf_i64 {n : Int} (h : (Lit.int .i64 n).wf = true) : -9223372036854775808 ≤ n ∧ n ≤ 9223372036854775807 := by
  have h1 : IntKind.i64.min = -9223372036854775808 := by decide
  have h2 : IntKind.i64.max = 9223372036854775807 := by decide
  simp only [Lit.wf, h1, h2, Bool.and_eq_true, decide_eq_true_eq] at h
  omega

/-- A reading of a slice of bytes tells a row. -/
theorem row_of_trod {H : Type} {enc : TypeId × Value → H} {W : World} {sp : Nat → Bool} {held : Bool} {n base : Nat} {v : Value} {x : DataW H × List MemPlace} (hf : DataW.trod enc Try.prog W base sp held n 22 [v] = some x) (hw : ∀ n ∈ x.1.weights Try.prog 22, n ≤ reachBytes) :
    ∃ l : List Int, RowAt W v l ∧ Byts l ∧ l.length ≤ 140737488351232 := by
  rcases open_ints Try.underlying22 Try.underlying5 Try.cellsOf5 hf with ⟨hcs, _⟩ | ⟨a, len, cap, zs, hcs, _, hl, hm, hz, hx, hcell, hwz⟩
  · simp at hcs
    subst hcs
    exact ⟨[], .inl ⟨rfl, rfl⟩, Byts.nil, by simp⟩
  · simp at hcs
    subst hcs
    unfold maxLen at hm
    have hlz : len ≤ zs.length := by rw [hz]; split <;> omega
    have hbz : Byts zs := fun c hc => wf_u8 (hwz c hc)
    have hb : len ≤ 140737488351232 := by
      have h1 := hw ((zs.take len).length + (zs.drop len).length) (by
        rw [hx]
        simp only [DataW.weights, Try.underlying22]
        simp [lits, Try.bytesOf5])
      rw [List.length_take, reach_is] at h1
      omega
    by_cases h0 : len = 0
    · subst h0
      exact ⟨[], .inr (.inl ⟨a, cap, rfl, rfl⟩), Byts.nil, by simp⟩
    · have hs : a.spot = none := by
        have := hcell 0 (by omega)
        rw [show a.add 0 = a from rfl] at this
        exact World.cell?_spot this
      obtain ⟨b, off, sp⟩ := a
      obtain rfl : sp = none := hs
      have hlen : (zs.take len).length = len := by rw [List.length_take]; omega
      refine ⟨zs.take len, .inr (.inr ⟨b, off, cap, by rw [hlen], by omega, fun i hi => ?_⟩), hbz.take len, by omega⟩
      rw [hlen] at hi
      have := hcell i (by omega)
      rw [add_none'] at this
      rw [this]
      simp [List.getD, hi]

theorem trod_struct5 {H : Type} {enc : TypeId × Value → H} {P : Program} {w : World} {base : Nat} {spare : Nat → Bool} {held : Bool} {t : TypeId} {f0 f1 f2 f3 f4 : Field} {fuel : Nat} {cs : List Value} {x : DataW H × List MemPlace} (ht : P.underlying t = some (.struct #[f0, f1, f2, f3, f4])) (h : DataW.trod enc P w base spare held fuel t cs = some x) :
    ∃ y0 y1 y2 y3 y4 n, x.1 = .agg [y0.1, y1.1, y2.1, y3.1, y4.1] ∧ cs.length = P.cellsOf t ∧ DataW.trod enc P w base spare held n f0.type ((cs.drop f0.offset).take (P.cellsOf f0.type)) = some y0 ∧
      DataW.trod enc P w base spare held n f1.type ((cs.drop f1.offset).take (P.cellsOf f1.type)) = some y1 ∧ DataW.trod enc P w base spare held n f2.type ((cs.drop f2.offset).take (P.cellsOf f2.type)) = some y2 ∧ DataW.trod enc P w base spare held n f3.type ((cs.drop f3.offset).take (P.cellsOf f3.type)) = some y3 ∧ DataW.trod enc P w base spare held n f4.type ((cs.drop f4.offset).take (P.cellsOf f4.type)) = some y4 := by
  obtain ⟨xs, n, _, rfl, hl, hlen, hf⟩ := DataW.trod_struct ht h
  match xs, hlen with
  | [y0, y1, y2, y3, y4], _ => exact ⟨y0, y1, y2, y3, y4, n, by simp, hl, by simpa using hf 0 f0 rfl, by simpa using hf 1 f1 rfl, by simpa using hf 2 f2 rfl, by simpa using hf 3 f3 rfl, by simpa using hf 4 f4 rfl⟩
theorem trod_struct2 {H : Type} {enc : TypeId × Value → H} {P : Program} {w : World} {base : Nat} {spare : Nat → Bool} {held : Bool} {t : TypeId} {f0 f1 : Field} {fuel : Nat} {cs : List Value} {x : DataW H × List MemPlace} (ht : P.underlying t = some (.struct #[f0, f1])) (h : DataW.trod enc P w base spare held fuel t cs = some x) :
    ∃ y0 y1 n, x.1 = .agg [y0.1, y1.1] ∧ cs.length = P.cellsOf t ∧ DataW.trod enc P w base spare held n f0.type ((cs.drop f0.offset).take (P.cellsOf f0.type)) = some y0 ∧
      DataW.trod enc P w base spare held n f1.type ((cs.drop f1.offset).take (P.cellsOf f1.type)) = some y1 := by
  obtain ⟨xs, n, _, rfl, hl, hlen, hf⟩ := DataW.trod_struct ht h
  match xs, hlen with
  | [y0, y1], _ => exact ⟨y0, y1, n, by simp, hl, by simpa using hf 0 f0 rfl, by simpa using hf 1 f1 rfl⟩
theorem take_one {l : List Value} {i : Nat} {v : Value} (h : (l.drop i).take 1 = [v]) : l[i]? = some v := by
  have h2 : ((l.drop i).take 1)[0]? = some v := by rw [h]; rfl
  rw [List.getElem?_take, if_pos (by omega), List.getElem?_drop] at h2
  simpa using h2
/-- A reading of 32 cells as a hash tells its bytes. -/
theorem hash_of_trod {H : Type} {enc : TypeId × Value → H} {W : World} {sp : Nat → Bool} {held : Bool} {n base : Nat} {l : List Value} {x : DataW H × List MemPlace} (hf : DataW.trod enc Try.prog W base sp held n 55 l = some x) :
    ∃ c : List Int, l = bv (hl 32 (hof c)) ∧ c.length = 32 ∧ Byts c := by
  obtain ⟨xs, m, _, _, hl_, hx, hel⟩ := DataW.trod_array Try.underlying55 hf
  rw [Try.cellsOf55] at hl_
  rw [Try.cellsOf5] at hel
  have each : ∀ i, i < 32 → ∃ z : Int, l[i]? = some (.int .u8 z) ∧ 0 ≤ z ∧ z < 256 := by
    intro i hi
    have h1 := hel i hi
    rw [List.getElem?_eq_getElem (by omega), Nat.mul_one] at h1
    obtain ⟨z, hz, _, hw⟩ := DataW.trod_int Try.underlying5 h1
    have hb := wf_u8 hw
    exact ⟨z, take_one hz, by omega, by omega⟩
  obtain ⟨c, hc⟩ := Go.Deep.choose_lt each
  refine ⟨hl 32 c, ?_, hl_len _ _, fun z hz => ?_⟩
  · rw [hl_of, ← hl_bytesA]
    apply List.ext_getElem?
    intro i
    by_cases hi : i < 32
    · rw [(hc i hi).1, Array.getElem?_toList, bytesA_get _ _ _ hi]
    · rw [List.getElem?_eq_none (by omega), List.getElem?_eq_none (by rw [Array.length_toList, bytesA_size]; omega)]
  · unfold hl at hz
    obtain ⟨i, hi, rfl⟩ := List.mem_map.1 hz
    exact (hc i (List.mem_range.1 hi)).2
theorem one_of {cs : List Value} {v : Value} {j : Nat} (h : (cs.drop j).take 1 = [v]) : cs[j]? = some v := take_one h
/-- A reading of 37 cells as an operation. -/
theorem op_of_trod {H : Type} {enc : TypeId × Value → H} {W : World} {sp : Nat → Bool} {held : Bool} {n base : Nat} {cs : List Value} {x : DataW H × List MemPlace} (hf : DataW.trod enc Try.prog W base sp held n 59 cs = some x) (hw : ∀ n ∈ x.1.weights Try.prog 59, n ≤ reachBytes) :
    ∃ q : OpV, cs = opL q ∧ OpOk q := by
  obtain ⟨y0, y1, y2, y3, y4, k, hx, hl0, h0, h1, h2, h3, h4⟩ := trod_struct5 Try.underlying59 hf
  rw [Try.cellsOf59] at hl0
  simp only [Try.cellsOf3, Try.cellsOf9, Try.cellsOf2, Try.cellsOf57] at h0 h1 h2 h3 h4
  obtain ⟨z0, e0, _, w0⟩ := DataW.trod_int Try.underlying3 h0
  obtain ⟨s1, e1, f1, w1⟩ := DataW.trod_string Try.underlying9 h1
  obtain ⟨s2, e2, f2, w2⟩ := DataW.trod_string Try.underlying9 h2
  obtain ⟨z3, e3, _, w3⟩ := DataW.trod_int Try.underlying2 h3
  obtain ⟨a0, a1, k2, hx4, hl4, g0, g1⟩ := trod_struct2 Try.underlying57 h4
  rw [Try.cellsOf57] at hl4
  simp only [Try.cellsOf55, Try.cellsOf3] at g0 g1
  obtain ⟨c, ec, hc1, hc2⟩ := hash_of_trod g0
  obtain ⟨z4, e4, _, w4⟩ := DataW.trod_int Try.underlying3 g1
  have b0 := wf_i64 w0
  have b3 := wf_i64 w3
  have b4 := wf_i64 w4
  have kb1 : s1.size ≤ reachBytes := hw s1.size (by
    rw [hx]
    simp only [DataW.weights, Try.underlying59]
    refine DataW.weights_mem_each (j := 1) (t := 9) rfl rfl _ ?_
    rw [f1]
    simp [DataW.weights])
  have kb2 : s2.size ≤ reachBytes := hw s2.size (by
    rw [hx]
    simp only [DataW.weights, Try.underlying59]
    refine DataW.weights_mem_each (j := 2) (t := 9) rfl rfl _ ?_
    rw [f2]
    simp [DataW.weights])
  rw [reach_is] at kb1 kb2
  refine ⟨⟨z0, s1, s2, z3, c, z4⟩, ?_, ⟨hc1, hc2, b0.1, b0.2, b3.1, b3.2, b4.1, b4.2, by simp only; omega, by simp only; omega⟩⟩
  have q0 : cs[0]? = some (.int .i64 z0) := one_of (by simpa using e0)
  have q1 : cs[1]? = some (.string s1) := one_of (by simpa using e1)
  have q2 : cs[2]? = some (.string s2) := one_of (by simpa using e2)
  have q3 : cs[3]? = some (.int .i64 z3) := one_of (by simpa using e3)
  have hd : cs.drop 4 = idL c z4 := by
    have hfull : (cs.drop 4).take 33 = cs.drop 4 := List.take_of_length_le (by rw [List.length_drop]; omega)
    rw [hfull] at ec e4
    have q4 : (cs.drop 4)[32]? = some (.int .i64 z4) := one_of (by simpa using e4)
    rw [List.drop_zero] at ec
    unfold idL
    rw [← ec, ← List.take_append_drop 32 (cs.drop 4)]
    congr 1
    · rw [List.take_append_drop]
    · apply List.ext_getElem?
      intro i
      match i with
      | 0 => rw [List.getElem?_drop]; simpa using q4
      | i + 1 => rw [List.getElem?_eq_none (by rw [List.length_drop, List.length_drop]; omega)]; simp
  unfold opL
  rw [← hd, ← List.take_append_drop 4 cs]
  congr 1
  · apply List.ext_getElem?
    intro i
    match i with
    | 0 => rw [List.getElem?_take, if_pos (by omega), q0]; rfl
    | 1 => rw [List.getElem?_take, if_pos (by omega), q1]; rfl
    | 2 => rw [List.getElem?_take, if_pos (by omega), q2]; rfl
    | 3 => rw [List.getElem?_take, if_pos (by omega), q3]; rfl
    | i + 4 => rw [List.getElem?_eq_none (by rw [List.length_take]; omega)]; simp
  · rw [List.take_append_drop]
/-- A reading of a list of operations. -/
theorem ops_of_trod {H : Type} {enc : TypeId × Value → H} {W : World} {sp : Nat → Bool} {held : Bool} {fuel base : Nat} {v : Value} {x : DataW H × List MemPlace} (hf : DataW.trod enc Try.prog W base sp held fuel 36 [v] = some x) (hw : ∀ n ∈ x.1.weights Try.prog 36, n ≤ reachBytes) :
    ∃ l : List OpV, OpsAt W v l ∧ (∀ q ∈ l, OpOk q) ∧ l.length ≤ 4398046511104 := by
  rcases open_slice Try.underlying36 hf with ⟨hcs, _⟩ | ⟨a, len, cap, m, n, D, Pl, hcs, _, hl_, hm, hz, hx, hcell⟩
  · simp at hcs
    subst hcs
    exact ⟨[], .inl ⟨none, 0, rfl, rfl⟩, by simp, by simp⟩
  · simp at hcs
    subst hcs
    have hlz : len ≤ m := by rw [hz]; split <;> omega
    have hb : len ≤ 4398046511104 := by
      have h1 := hw ((((List.range len).map D).length + ((List.range (m - len)).map fun j => D (len + j)).length) * 88) (by
        rw [hx]
        simp only [DataW.weights, Try.underlying36]
        simp [Try.bytesOf59])
      rw [reach_is] at h1
      simp only [List.length_map, List.length_range] at h1
      omega
    have hwD : ∀ i, i < len → ∀ n ∈ (D i).weights Try.prog 59, n ≤ reachBytes := fun i hi n hn => hw n (by
      rw [hx]
      simp only [DataW.weights, Try.underlying36]
      refine List.mem_cons_of_mem _ (List.mem_append_left _ (mem_weightsAll (d := D i) ?_ n hn))
      exact List.mem_map.2 ⟨i, List.mem_range.2 hi, rfl⟩)
    have each : ∀ i, i < len → ∃ q : OpV, (∀ j v, (opL q)[j]? = some v → W.cell? ((a.add (i * 37)).add j) = some v) ∧ OpOk q := by
      intro i hi
      obtain ⟨cs', h1, h2⟩ := hcell i (by omega)
      rw [Try.cellsOf59] at h1
      obtain ⟨_, hlen, hce⟩ := World.cells?_some h1
      obtain ⟨q, rfl, h3⟩ := op_of_trod h2 (hwD i hi)
      refine ⟨q, fun j v hv => ?_, h3⟩
      obtain ⟨hj, e⟩ := List.getElem?_eq_some_iff.1 hv
      rw [opL_len] at hj
      rw [hce j (by omega), ← hv]
    haveI : Inhabited OpV := ⟨zeroOp⟩
    obtain ⟨q, hq⟩ := Go.Deep.choose_lt each
    refine ⟨(List.range len).map q, ?_, ?_, by simpa using hb⟩
    · by_cases h0 : len = 0
      · subst h0
        exact .inl ⟨_, _, rfl, rfl⟩
      · have hs : a.spot = none := by
          have := (hq 0 (by omega)).1 0 _ (show (opL (q 0))[0]? = some (.int .i64 (q 0).kind) by simp [opL])
          rw [Nat.zero_mul, show a.add 0 = a from rfl] at this
          rw [show a.add 0 = a from rfl] at this
          exact World.cell?_spot this
        obtain ⟨b, off, sp⟩ := a
        obtain rfl : sp = none := hs
        refine .inr ⟨b, off, cap, by simp, by simp; omega, fun i x hxi j v hv => ?_⟩
        obtain ⟨hi, e⟩ := List.getElem?_eq_some_iff.1 hxi
        simp at hi e
        subst e
        have := (hq i hi).1 j v hv
        simp only [add_none'] at this
        exact this
    · intro z hz'
      obtain ⟨i, hi, rfl⟩ := List.mem_map.1 hz'
      exact (hq i (List.mem_range.1 hi)).2
end Go.Proofs.Ytkjjlfpghhefcab
