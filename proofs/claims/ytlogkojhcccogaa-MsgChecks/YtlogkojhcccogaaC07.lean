import Derived.Test.YtlogkojhcccogaaC06
namespace Go.Proofs.Ytlogkojhcccogaa
open Go.RowKit
set_option linter.unusedSimpArgs false
set_option linter.unusedVariables false

theorem rises_step {P Q : List Hs} {x : Hs} (h : Sh.risesB (P ++ x :: Q) = true) : ¬ (0 < P.length ∧ 0 ≤ Sh.cf (P.getD (P.length - 1) default) x) := by
  rintro ⟨h1, h2⟩
  have h3 := (Sh.risesB_iff _).1 h (P.length - 1) (by simp; omega)
  have e1 : (P ++ x :: Q).getD (P.length - 1) default = P.getD (P.length - 1) default := by
    rw [List.getD_eq_getElem?_getD, List.getD_eq_getElem?_getD, List.getElem?_append_left (by omega)]
  have e2 : (P ++ x :: Q).getD (P.length - 1 + 1) default = x := by
    rw [show P.length - 1 + 1 = P.length by omega, List.getD_eq_getElem?_getD, List.getElem?_append_right (Nat.le_refl _)]
    simp
  rw [e1, e2] at h3
  omega
theorem hash_there {L r : List Int} {a : Nat} {x : Hs} (h : L.drop a = hB x ++ r) : nextW (L.drop a) 32 = 0 ∧ hs ((L.drop a).take 32) = x := by
  have hn := next_app (hB x) r
  rw [hB_len] at hn
  rw [h]
  exact ⟨hn.1, by rw [List.take_left' (hB_len x), hs_hB]⟩
theorem getH_there {L : List Int} : ∀ (Q P : List Hs) (a : Nat) (r : List Int), Sh.risesB (P ++ Q) = true → L.drop a = Q.flatMap hB ++ r → getH L Q.length P a = (0, a + (Q.flatMap hB).length, P ++ Q)
  | [], P, a, r, _, _ => by simp [getH]
  | x :: Q, P, a, r, hr, h => by
    rw [List.flatMap_cons, List.append_assoc] at h
    obtain ⟨h1, h2⟩ := hash_there h
    simp only [List.length_cons]
    rw [getH, h1, if_neg (by simp), h2, if_neg (rises_step hr)]
    have hd := drop_next h
    rw [hB_len] at hd
    rw [getH_there Q (P ++ [x]) (a + 32) r (by simpa using hr) hd, List.flatMap_cons, List.length_append, hB_len]
    simp only [List.append_assoc, List.cons_append, List.nil_append, Prod.mk.injEq, true_and, and_true]
    omega
theorem getH_short {L m : List Int} (hne : m ≠ []) : ∀ (Q P : List Hs) (a : Nat), Sh.risesB (P ++ Q) = true → a ≤ L.length → L.drop a ++ m = Q.flatMap hB → (getH L Q.length P a).1 = 20 ∧ (getH L Q.length P a).2.1 ≤ L.length
  | [], P, a, _, _, h => by
    simp only [List.flatMap_nil] at h
    exact absurd (List.append_eq_nil_iff.1 h).2 hne
  | x :: Q, P, a, hr, ha, h => by
    rw [List.flatMap_cons] at h
    simp only [List.length_cons]
    rcases pre_split h with ⟨s, h4, h5⟩ | ⟨E, h4, h5⟩
    · have hs' := next_short (L.drop a) s (hB x) h5 h4
      rw [hB_len] at hs'
      have hs'' : nextW (L.drop a) 32 = 20 := hs'
      rw [getH, hs'', nextN_1 _ _ (by rw [hs'']; decide), if_pos (by decide)]
      exact ⟨rfl, ha⟩
    · obtain ⟨h1, h2⟩ := hash_there h4
      have hl := congrArg List.length h4
      rw [List.length_drop, List.length_append, hB_len] at hl
      have hd := drop_next h4
      rw [hB_len] at hd
      rw [getH, h1, if_neg (by simp), h2, if_neg (rises_step hr)]
      exact getH_short hne Q (P ++ [x]) (a + 32) (by simpa using hr) (by omega) (by rw [hd]; exact h5)
theorem rises_snoc {P : List Hs} {x : Hs} (h : Sh.risesB P = true) (hx : ¬ (0 < P.length ∧ 0 ≤ Sh.cf (P.getD (P.length - 1) default) x)) : Sh.risesB (P ++ [x]) = true := by
  rw [Sh.risesB_iff] at h ⊢
  intro i hi
  rw [List.length_append, List.length_singleton] at hi
  by_cases h1 : i + 1 < P.length
  · have := h i h1
    rwa [show (P ++ [x]).getD i default = P.getD i default by rw [List.getD_eq_getElem?_getD, List.getD_eq_getElem?_getD, List.getElem?_append_left (by omega)], show (P ++ [x]).getD (i + 1) default = P.getD (i + 1) default by rw [List.getD_eq_getElem?_getD, List.getD_eq_getElem?_getD, List.getElem?_append_left (by omega)]]
  · have hi2 : i = P.length - 1 := by omega
    subst hi2
    rw [show (P ++ [x]).getD (P.length - 1) default = P.getD (P.length - 1) default by rw [List.getD_eq_getElem?_getD, List.getD_eq_getElem?_getD, List.getElem?_append_left (by omega)], show (P ++ [x]).getD (P.length - 1 + 1) default = x by rw [show P.length - 1 + 1 = P.length by omega, List.getD_eq_getElem?_getD, List.getElem?_append_right (Nat.le_refl _)]; simp]
    apply Classical.byContradiction
    intro hn
    exact hx ⟨by omega, by omega⟩
theorem getH_back {L : List Int} (hB : Byts L) : ∀ (n : Nat) (P : List Hs) (a : Nat), Sh.risesB P = true → (getH L n P a).1 = 0 → ∃ (Q : List Hs) (r : List Int), Q.length = n ∧ Sh.risesB (P ++ Q) = true ∧ L.drop a = Q.flatMap Go.Proofs.Ytlogkojhcccogaa.hB ++ r ∧ getH L n P a = (0, a + (Q.flatMap Go.Proofs.Ytlogkojhcccogaa.hB).length, P ++ Q)
  | 0, P, a, hP, _ => ⟨[], L.drop a, rfl, by simpa using hP, by simp, by simp [getH]⟩
  | n + 1, P, a, hP, h => by
    rw [getH] at h ⊢
    by_cases h0 : nextW (L.drop a) 32 = 0
    · rw [if_neg (by simp [h0])] at h ⊢
      by_cases h1 : 0 < P.length ∧ 0 ≤ Sh.cf (P.getD (P.length - 1) default) (hs ((L.drop a).take 32))
      · rw [if_pos h1] at h; cases h
      · rw [if_neg h1] at h ⊢
        have hN := nextN_0 _ _ h0
        have hlen : ((L.drop a).take 32).length = 32 := by rw [List.length_take]; have := hN.2.2; omega
        obtain ⟨Q, r, h2, h3, h4, h5⟩ := getH_back hB n _ (a + 32) (rises_snoc hP h1) h
        have hb := hB_hs _ hlen ((hB.drop a).take 32)
        refine ⟨hs ((L.drop a).take 32) :: Q, r, by simp [h2], by simpa using h3, ?_, ?_⟩
        · rw [List.flatMap_cons, hb, List.append_assoc, ← h4, ← List.drop_drop, List.take_append_drop]
        · rw [h5, List.flatMap_cons, List.length_append, hB_len]; simp only [List.append_assoc, List.cons_append, List.nil_append, Prod.mk.injEq, true_and, and_true]; omega
    · rw [if_pos h0] at h; exact absurd h h0
theorem one_back {L : List Int} {a : Nat} (h : nextW (L.drop a) 1 = 0) : L.drop a = (L.drop a).getD 0 0 :: L.drop (a + 1) := by
  cases hd : L.drop a with
  | nil => rw [hd] at h; exact absurd h (by decide)
  | cons c D => rw [← List.drop_drop, hd]; rfl
theorem byt_n (D : List Int) (mm : Int) : (byt D mm).2.1 ≤ D.length := by
  rw [byt_eq]
  have hs := fstM_shape D mm
  by_cases h : (fstM D mm).2.2 = 0
  · rw [if_pos h]
    simp only
    by_cases hw : nextW (D.drop (fstM D mm).2.1.toNat) (fstM D mm).1 = 0
    · have hN := nextN_0 _ _ hw
      rw [hN.1]
      have := hN.2.2
      rw [List.length_drop] at this
      omega
    · rw [nextN_1 _ _ hw]; omega
  · rw [if_neg h]; exact Nat.zero_le _
theorem nextN_le (D : List Int) (n : Int) : nextN D n ≤ D.length := by
  by_cases hw : nextW D n = 0
  · rw [(nextN_0 _ _ hw).1]; exact (nextN_0 _ _ hw).2.2
  · rw [nextN_1 _ _ hw]; exact Nat.zero_le _
theorem fst_n (L : List Int) (a : Nat) (ha : a ≤ L.length) (m : Int) : a + (fstM (L.drop a) m).2.1.toNat ≤ L.length := by
  have hs := fstM_shape (L.drop a) m
  rw [List.length_drop] at hs
  omega
theorem flat_byts {α : Type} (f : α → List Int) : ∀ l : List α, (∀ x ∈ l, Byts (f x)) → Byts (l.flatMap f)
  | [], _ => Byts.nil
  | x :: l, h => by rw [List.flatMap_cons]; exact (h x (by simp)).app (flat_byts f l fun y hy => h y (by simp [hy]))

theorem leP_split (D : List Int) (i : Nat) : ∀ n, i + 1 ≤ n → ∃ K, leP D n = leP D i + D.getD i 0 * 256 ^ i + 256 ^ (i + 1) * K := by
  intro n hn
  obtain ⟨k, rfl⟩ : ∃ k, n = i + 1 + k := ⟨n - (i + 1), by omega⟩
  induction k with
  | zero => exact ⟨0, by rw [Nat.add_zero, leP]; omega⟩
  | succ k ih =>
    obtain ⟨K, hK⟩ := ih (by omega)
    refine ⟨K + D.getD (i + 1 + k) 0 * 256 ^ k, ?_⟩
    rw [show i + 1 + (k + 1) = (i + 1 + k) + 1 by omega, leP, hK, Int.mul_add, Int.pow_add (256 : Int) (i + 1) k, Int.mul_left_comm]
    omega
theorem leP_digit (D : List Int) (hD : Byts D) (i n : Nat) (hi : i < n) : leP D n / 256 ^ i % 256 = D.getD i 0 := by
  obtain ⟨K, hK⟩ := leP_split D i n hi
  have h1 := leP_rng D hD i
  have h2 := hD.getD i
  have hp : (0 : Int) < 256 ^ i := Int.pow_pos (by decide)
  rw [hK, Int.pow_succ]
  have e : leP D i + D.getD i 0 * 256 ^ i + 256 ^ i * 256 * K = leP D i + (D.getD i 0 + 256 * K) * 256 ^ i := by
    rw [Int.add_mul, Int.mul_assoc, Int.mul_comm (256 ^ i) (256 * K)]; omega
  rw [e, Int.add_mul_ediv_right _ _ (by omega), Int.ediv_eq_zero_of_lt h1.1 h1.2]
  omega
theorem salt_leP (D : List Int) (hD : Byts D) (h : 8 ≤ D.length) : saltP (leP D 8) 8 = D.take 8 := by
  refine List.ext_getElem (by simp [saltP]; omega) fun i h1 h2 => ?_
  have hi : i < 8 := by simpa [saltP] using h1
  simp only [saltP, List.getElem_map, List.getElem_range, List.getElem_take]
  rw [leP_digit D hD i 8 hi, List.getD_eq_getElem?_getD, List.getElem?_eq_getElem (by omega)]
  rfl
theorem leP_app (D r : List Int) : ∀ t, t ≤ D.length → leP (D ++ r) t = leP D t
  | 0, _ => rfl
  | t + 1, h => by
    rw [leP, leP, leP_app D r t (by omega), List.getD_eq_getElem?_getD, List.getD_eq_getElem?_getD, List.getElem?_append_left (by omega)]
theorem leP_salt (n : Nat) (N : Nat) : ∀ t, t ≤ N → leP (saltP (n : Int) N) t = ((n % 256 ^ t : Nat) : Int)
  | 0, _ => by simp [leP, Nat.mod_one]
  | t + 1, h => by
    have e : (saltP (n : Int) N).getD t 0 = ((n / 256 ^ t % 256 : Nat) : Int) := by
      rw [List.getD_eq_getElem?_getD, List.getElem?_eq_getElem (by simp [saltP]; omega)]
      simp only [saltP, List.getElem_map, List.getElem_range, Option.getD_some]
      rw [Int.natCast_emod, Int.natCast_ediv, Int.natCast_pow]
      rfl
    rw [leP, leP_salt n N t (by omega), e, Nat.pow_succ, Nat.mod_mul, Int.natCast_add, Int.natCast_mul, Int.natCast_pow, Int.mul_comm]
    rfl
theorem leP_back (s : Int) (h : 0 ≤ s ∧ s < 18446744073709551616) : leP (saltP s 8) 8 = s := by
  obtain ⟨n, rfl⟩ := Int.eq_ofNat_of_zero_le h.1
  have h8 : (256 : Nat) ^ 8 = 18446744073709551616 := by decide
  have hn : n < 256 ^ 8 := by omega
  rw [leP_salt n 8 8 (Nat.le_refl _), Nat.mod_eq_of_lt hn]
structure MayF (i : Nat) (Y : MsgV) : Prop where
  hd : i = 0 → Y.hd.length ≤ 4096 ∧ Sh.risesB Y.hd = true
  sa : i = 1 → 0 ≤ Y.sa ∧ Y.sa < 18446744073709551616
  bl : i = 2 → isP (Y.bl.length : Int) = true
  wt : i = 3 → Y.wt.length ≤ 4096 ∧ Sh.risesB Y.wt = true
  bk : i = 4 → Y.bk.length ≤ 256 ∧ 0 < Y.bk.length ∧ okR Y.bk = true
theorem hsR_there {L r : List Int} {a : Nat} {l : List Hs} (h : L.drop a = hsL l ++ r) (hl : l.length ≤ 4096) (hr : Sh.risesB l = true) : hsR L 4096 a = (0, a + (hsL l).length, l) := by
  unfold hsL at h
  rw [List.append_assoc] at h
  have h1 := fst_num l.length (by omega) (l.flatMap hB ++ r) 4096 (by omega)
  have h2 : L.drop (a + (numL l.length).length) = l.flatMap hB ++ r := drop_next h
  unfold hsR hsL
  rw [h, h1]
  simp only [ne_eq, not_true_eq_false, if_false, Int.toNat_natCast]
  rw [getH_there l [] _ r (by simpa using hr) h2, List.length_append, Nat.add_assoc]
  rfl
theorem hsR_short {L m : List Int} {a : Nat} {l : List Hs} (h : L.drop a ++ m = hsL l) (hm : m ≠ []) (ha : a ≤ L.length) (hl : l.length ≤ 4096) (hr : Sh.risesB l = true) : (hsR L 4096 a).1 = 20 ∧ (hsR L 4096 a).2.1 ≤ L.length := by
  unfold hsL at h
  unfold hsR
  rcases pre_split h with ⟨s, h1, h2⟩ | ⟨E, h1, h2⟩
  · rw [fst_short l.length (L.drop a) s 4096 h2 h1]; simp; omega
  · have h3 : L.drop (a + (numL l.length).length) = E := drop_next h1
    have h4 : a + (numL l.length).length ≤ L.length := by have := congrArg List.length h1; simp at this; omega
    rw [h1, fst_num l.length (by omega) E 4096 (by omega)]
    simp only [ne_eq, not_true_eq_false, if_false, Int.toNat_natCast]
    exact getH_short hm l [] _ (by simpa using hr) h4 (by rw [h3]; exact h2)
theorem hsR_back {L : List Int} {a : Nat} (hB : Byts L) (h : (hsR L 4096 a).1 = 0) : ∃ (l : List Hs) (r : List Int), l.length ≤ 4096 ∧ Sh.risesB l = true ∧ L.drop a = hsL l ++ r ∧ hsR L 4096 a = (0, a + (hsL l).length, l) := by
  unfold hsR at h ⊢
  by_cases h0 : (fstM (L.drop a) 4096).2.2 = 0
  · rw [if_neg (by simp [h0])] at h ⊢
    obtain ⟨x, h1, h2, h3, h4, r, h5⟩ := fst_form (L.drop a) 4096 (hB.drop a) h0
    rw [h3, h4] at h ⊢
    simp only [Int.toNat_natCast] at h ⊢
    obtain ⟨Q, r2, q1, q2, q3, q4⟩ := getH_back hB x [] _ rfl h
    rw [q4]
    have h6 : L.drop (a + (numL x).length) = r := drop_next h5
    rw [h6] at q3
    refine ⟨Q, r2, by omega, by simpa using q2, by rw [h5, q3, hsL, q1, List.append_assoc], ?_⟩
    simp only [hsL, q1, List.length_append, List.nil_append, Nat.add_assoc]
  · rw [if_pos h0] at h; exact absurd h h0
theorem saR_there {L r : List Int} {a : Nat} {s : Int} (h : L.drop a = saltP s 8 ++ r) (hs : 0 ≤ s ∧ s < 18446744073709551616) : saR L a = (0, a + (saltP s 8).length, s) := by
  unfold saR
  have h1 := (next_app (saltP s 8) r).1
  rw [salt_len] at h1
  rw [h, show ((8 : Nat) : Int) = 8 from rfl] at *
  rw [h1, if_neg (by simp), leP_app _ _ _ (by rw [salt_len]; omega), leP_back s hs, salt_len]
theorem saR_short {L m : List Int} {a : Nat} {s : Int} (h : L.drop a ++ m = saltP s 8) (hm : m ≠ []) (ha : a ≤ L.length) : (saR L a).1 = 20 ∧ (saR L a).2.1 ≤ L.length := by
  have h1 := next_short (L.drop a) m (saltP s 8) h hm
  rw [salt_len] at h1
  have h1' : nextW (L.drop a) 8 = 20 := h1
  unfold saR
  rw [h1', if_pos (by decide), nextN_1 _ _ (by rw [h1']; decide)]
  exact ⟨rfl, ha⟩
theorem saR_back {L : List Int} {a : Nat} (hB : Byts L) (h : (saR L a).1 = 0) : ∃ (s : Int) (r : List Int), 0 ≤ s ∧ s < 18446744073709551616 ∧ L.drop a = saltP s 8 ++ r ∧ saR L a = (0, a + (saltP s 8).length, s) := by
  unfold saR at h ⊢
  by_cases h0 : nextW (L.drop a) 8 = 0
  · rw [if_neg (by simp [h0])]
    have h1 := nextN_0 _ _ h0
    have h2 := leP_rng (L.drop a) (hB.drop a) 8
    have e : (256 : Int) ^ 8 = 18446744073709551616 := by decide
    refine ⟨_, (L.drop a).drop 8, h2.1, by omega, ?_, by rw [salt_len]⟩
    rw [salt_leP _ (hB.drop a) (by have := h1.2.2; simpa using this), List.take_append_drop]
  · rw [if_pos h0] at h; exact absurd h h0
theorem dgR_there {L r b : List Int} {a : Nat} (h : L.drop a = bform b ++ r) (hb : isP (b.length : Int) = true) : dgR L a = (0, a + (bform b).length, b) := by
  have hr := isP_rng hb
  unfold dgR
  rw [h, byt_form b r 8192 hr.2 (by omega)]
  simp [hb]
theorem dgR_short {L m b : List Int} {a : Nat} (h : L.drop a ++ m = bform b) (hm : m ≠ []) (ha : a ≤ L.length) (hb : isP (b.length : Int) = true) : (dgR L a).1 = 20 ∧ (dgR L a).2.1 ≤ L.length := by
  have hr := isP_rng hb
  have h1 := byt_short (L.drop a) m b 8192 hr.2 (by omega) h hm
  unfold dgR
  rw [if_pos (by rw [h1.1]; decide)]
  refine ⟨h1.1, ?_⟩
  have := h1.2
  rw [List.length_drop] at this
  show a + _ ≤ _
  omega
theorem dgR_back {L : List Int} {a : Nat} (hB : Byts L) (h : (dgR L a).1 = 0) : ∃ (b r : List Int), isP (b.length : Int) = true ∧ L.drop a = bform b ++ r ∧ dgR L a = (0, a + (bform b).length, b) := by
  unfold dgR at h ⊢
  by_cases h0 : (byt (L.drop a) 8192).1 = 0
  · rw [if_neg (by simp [h0])] at h ⊢
    obtain ⟨h1, h2, r, h3⟩ := byt_back (L.drop a) 8192 (hB.drop a) h0
    rcases Bool.eq_false_or_eq_true (isP ((byt (L.drop a) 8192).2.2.length : Int)) with hp | hp
    · rw [if_neg (by simp [hp])]
      exact ⟨_, r, hp, h3, by rw [h2]⟩
    · rw [if_pos hp] at h; exact absurd h (by simp)
  · rw [if_pos h0] at h; exact absurd h h0
theorem bk1_there {L r b : List Int} {a : Nat} (h : L.drop a = bform b ++ r) (hb : 0 < b.length ∧ b.length ≤ 1048576) : bk1 L a = (0, a + (bform b).length, b) := by
  unfold bk1
  rw [h, byt_form b r 1048576 (by omega) (by omega)]
  simp only [ne_eq, not_true_eq_false, if_false]
  rw [if_neg (by omega)]
theorem bk1_short {L m b : List Int} {a : Nat} (h : L.drop a ++ m = bform b) (hm : m ≠ []) (ha : a ≤ L.length) (hb : 0 < b.length ∧ b.length ≤ 1048576) : (bk1 L a).1 = 20 ∧ (bk1 L a).2.1 ≤ L.length := by
  have h1 := byt_short (L.drop a) m b 1048576 (by omega) (by omega) h hm
  unfold bk1
  rw [if_pos (by rw [h1.1]; decide)]
  refine ⟨h1.1, ?_⟩
  have := h1.2
  rw [List.length_drop] at this
  show a + _ ≤ _
  omega
theorem bk1_back {L : List Int} {a : Nat} (hB : Byts L) (h : (bk1 L a).1 = 0) : ∃ (b r : List Int), (0 < b.length ∧ b.length ≤ 1048576) ∧ L.drop a = bform b ++ r ∧ bk1 L a = (0, a + (bform b).length, b) := by
  unfold bk1 at h ⊢
  by_cases h0 : (byt (L.drop a) 1048576).1 = 0
  · rw [if_neg (by simp [h0])] at h ⊢
    obtain ⟨h1, h2, r, h3⟩ := byt_back (L.drop a) 1048576 (hB.drop a) h0
    by_cases hp : (byt (L.drop a) 1048576).2.2.length = 0
    · rw [if_pos hp] at h; exact absurd h (by simp)
    · rw [if_neg hp]
      exact ⟨_, r, ⟨by omega, by omega⟩, h3, by rw [h2]⟩
  · rw [if_pos h0] at h; exact absurd h h0
theorem okR_cons (x : List Int) (l : List (List Int)) : okR (x :: l) = true ↔ (0 < x.length ∧ x.length ≤ 1048576) ∧ okR l = true := by simp [okR]
theorem bkG_there {L : List Int} : ∀ (Q P : List (List Int)) (a : Nat) (r : List Int), okR Q = true → L.drop a = Q.flatMap bform ++ r → bkG L Q.length P a = (0, a + (Q.flatMap bform).length, P ++ Q)
  | [], P, a, r, _, _ => by simp [bkG]
  | x :: Q, P, a, r, hq, h => by
    have hx := (okR_cons x Q).1 hq
    rw [List.flatMap_cons, List.append_assoc] at h
    rw [List.length_cons, bkG, bk1_there h hx.1]
    simp only [ne_eq, not_true_eq_false, if_false]
    rw [bkG_there Q _ _ r hx.2 (drop_next h), List.flatMap_cons, List.length_append, Nat.add_assoc, List.append_assoc]
    rfl
theorem bkG_short {L m : List Int} (hne : m ≠ []) : ∀ (Q P : List (List Int)) (a : Nat), okR Q = true → a ≤ L.length → L.drop a ++ m = Q.flatMap bform → (bkG L Q.length P a).1 = 20 ∧ (bkG L Q.length P a).2.1 ≤ L.length
  | [], P, a, _, _, h => by
    exact absurd (List.append_eq_nil_iff.1 h).2 hne
  | x :: Q, P, a, hq, ha, h => by
    have hx := (okR_cons x Q).1 hq
    rw [List.flatMap_cons] at h
    rw [List.length_cons, bkG]
    rcases pre_split h with ⟨s, h1, h2⟩ | ⟨E, h1, h2⟩
    · have h3 := bk1_short h2 h1 ha hx.1
      rw [if_pos (by rw [h3.1]; decide)]
      exact h3
    · have h3 : L.drop (a + (bform x).length) = E := drop_next h1
      have h4 : a + (bform x).length ≤ L.length := by have := congrArg List.length h1; simp at this; omega
      rw [bk1_there h1 hx.1]
      simp only [ne_eq, not_true_eq_false, if_false]
      exact bkG_short hne Q _ _ hx.2 h4 (by rw [h3]; exact h2)
theorem bkG_back {L : List Int} (hB : Byts L) : ∀ (n : Nat) (P : List (List Int)) (a : Nat), (bkG L n P a).1 = 0 → ∃ (Q : List (List Int)) (r : List Int), Q.length = n ∧ okR Q = true ∧ L.drop a = Q.flatMap bform ++ r ∧ bkG L n P a = (0, a + (Q.flatMap bform).length, P ++ Q)
  | 0, P, a, _ => ⟨[], L.drop a, rfl, rfl, rfl, by simp [bkG]⟩
  | n + 1, P, a, h => by
    rw [bkG] at h ⊢
    by_cases h0 : (bk1 L a).1 = 0
    · rw [if_neg (by simp [h0])] at h ⊢
      obtain ⟨b, r, h1, h2, h3⟩ := bk1_back hB h0
      rw [h3] at h ⊢
      simp only at h ⊢
      obtain ⟨Q, r2, q1, q2, q3, q4⟩ := bkG_back hB n _ _ h
      rw [q4]
      have h6 : L.drop (a + (bform b).length) = r := drop_next h2
      rw [h6] at q3
      refine ⟨b :: Q, r2, by simp [q1], (okR_cons b Q).2 ⟨h1, q2⟩, by rw [h2, q3, List.flatMap_cons, List.append_assoc], ?_⟩
      rw [List.flatMap_cons, List.length_append, Nat.add_assoc, List.append_assoc]
      rfl
    · rw [if_pos h0] at h; exact absurd h h0
theorem bkR_there {L r : List Int} {a : Nat} {l : List (List Int)} (h : L.drop a = bkL l ++ r) (hl : l.length ≤ 256 ∧ 0 < l.length ∧ okR l = true) : bkR L a = (0, a + (bkL l).length, l) := by
  unfold bkL at h
  rw [List.append_assoc] at h
  have h1 := fst_num l.length (by omega) (l.flatMap bform ++ r) 256 (by omega)
  have h2 : L.drop (a + (numL l.length).length) = l.flatMap bform ++ r := drop_next h
  unfold bkR bkL
  rw [h, h1]
  simp only [ne_eq, not_true_eq_false, if_false, Int.toNat_natCast]
  rw [if_neg (by omega), bkG_there l [] _ r hl.2.2 h2, List.length_append, Nat.add_assoc]
  rfl
theorem bkR_short {L m : List Int} {a : Nat} {l : List (List Int)} (h : L.drop a ++ m = bkL l) (hm : m ≠ []) (ha : a ≤ L.length) (hl : l.length ≤ 256 ∧ 0 < l.length ∧ okR l = true) : (bkR L a).1 = 20 ∧ (bkR L a).2.1 ≤ L.length := by
  unfold bkL at h
  unfold bkR
  rcases pre_split h with ⟨s, h1, h2⟩ | ⟨E, h1, h2⟩
  · rw [fst_short l.length (L.drop a) s 256 h2 h1]; simp; omega
  · have h3 : L.drop (a + (numL l.length).length) = E := drop_next h1
    have h4 : a + (numL l.length).length ≤ L.length := by have := congrArg List.length h1; simp at this; omega
    rw [h1, fst_num l.length (by omega) E 256 (by omega)]
    simp only [ne_eq, not_true_eq_false, if_false, Int.toNat_natCast]
    rw [if_neg (by omega)]
    exact bkG_short hm l [] _ hl.2.2 h4 (by rw [h3]; exact h2)
theorem bkR_back {L : List Int} {a : Nat} (hB : Byts L) (h : (bkR L a).1 = 0) : ∃ (l : List (List Int)) (r : List Int), (l.length ≤ 256 ∧ 0 < l.length ∧ okR l = true) ∧ L.drop a = bkL l ++ r ∧ bkR L a = (0, a + (bkL l).length, l) := by
  unfold bkR at h ⊢
  by_cases h0 : (fstM (L.drop a) 256).2.2 = 0
  · rw [if_neg (by simp [h0])] at h ⊢
    obtain ⟨x, h1, h2, h3, h4, r, h5⟩ := fst_form (L.drop a) 256 (hB.drop a) h0
    rw [h3, h4] at h ⊢
    simp only [Int.toNat_natCast] at h ⊢
    by_cases hx : (x : Int) = 0
    · rw [if_pos hx] at h; exact absurd h (by simp)
    · rw [if_neg hx] at h ⊢
      obtain ⟨Q, r2, q1, q2, q3, q4⟩ := bkG_back hB x [] _ h
      rw [q4]
      have h6 : L.drop (a + (numL x).length) = r := drop_next h5
      rw [h6] at q3
      refine ⟨Q, r2, ⟨by omega, by omega, q2⟩, by rw [h5, q3, bkL, q1, List.append_assoc], ?_⟩
      simp only [bkL, q1, List.length_append, List.nil_append, Nat.add_assoc]
  · rw [if_pos h0] at h; exact absurd h h0

def setF (i : Nat) (Y M : MsgV) : MsgV := if i = 0 then { M with hd := Y.hd } else if i = 1 then { M with sa := Y.sa } else if i = 2 then { M with bl := Y.bl } else if i = 3 then { M with wt := Y.wt } else { M with bk := Y.bk }
theorem getF_there {L r : List Int} {i a : Nat} {Y M : MsgV} (hi : i < 5) (hm : MayF i Y) (h : L.drop a = putF i Y ++ r) : getF L i M a = (0, a + (putF i Y).length, setF i Y M) := by
  match i, hi with
  | 0, _ => unfold getF setF; simp only [if_true]; rw [hsR_there (l := Y.hd) h (hm.hd rfl).1 (hm.hd rfl).2]; rfl
  | 1, _ => unfold getF setF; simp only [if_true]; rw [if_neg (by decide), if_neg (by decide), saR_there (s := Y.sa) h (hm.sa rfl)]; rfl
  | 2, _ => unfold getF setF; simp only [if_true]; rw [if_neg (by decide), if_neg (by decide), if_neg (by decide), if_neg (by decide), dgR_there (b := Y.bl) h (hm.bl rfl)]; rfl
  | 3, _ => unfold getF setF; simp only [if_true]; rw [if_neg (by decide), if_neg (by decide), if_neg (by decide), if_neg (by decide), if_neg (by decide), if_neg (by decide), hsR_there (l := Y.wt) h (hm.wt rfl).1 (hm.wt rfl).2]; rfl
  | 4, _ => unfold getF setF; rw [if_neg (by decide), if_neg (by decide), if_neg (by decide), if_neg (by decide), if_neg (by decide), if_neg (by decide), if_neg (by decide), if_neg (by decide), bkR_there (l := Y.bk) h (hm.bk rfl)]; rfl
theorem getF_short {L m : List Int} {i a : Nat} {Y M : MsgV} (hi : i < 5) (hm : MayF i Y) (h : L.drop a ++ m = putF i Y) (hne : m ≠ []) (ha : a ≤ L.length) : (getF L i M a).1 = 20 ∧ (getF L i M a).2.1 ≤ L.length := by
  match i, hi with
  | 0, _ => exact hsR_short (l := Y.hd) h hne ha (hm.hd rfl).1 (hm.hd rfl).2
  | 1, _ => exact saR_short (s := Y.sa) h hne ha
  | 2, _ => exact dgR_short (b := Y.bl) h hne ha (hm.bl rfl)
  | 3, _ => exact hsR_short (l := Y.wt) h hne ha (hm.wt rfl).1 (hm.wt rfl).2
  | 4, _ => exact bkR_short (l := Y.bk) h hne ha (hm.bk rfl)
def fillF (Y : MsgV) (is : List Nat) (M : MsgV) : MsgV := is.foldl (fun M i => setF i Y M) M
theorem getFs_there {L : List Int} {Y : MsgV} : ∀ (is : List Nat) (M : MsgV) (a : Nat) (r : List Int), (∀ i ∈ is, i < 5) → (∀ i ∈ is, MayF i Y) → L.drop a = (is.flatMap fun i => putF i Y) ++ r → getFs L is M a = (0, a + (is.flatMap fun i => putF i Y).length, fillF Y is M)
  | [], M, a, r, _, _, _ => by simp [getFs, fillF]
  | i :: is, M, a, r, h1, h2, h => by
    rw [List.flatMap_cons, List.append_assoc] at h
    rw [getFs, getF_there (h1 i (by simp)) (h2 i (by simp)) h]
    simp only [ne_eq, not_true_eq_false, if_false]
    rw [getFs_there is _ _ r (fun j hj => h1 j (by simp [hj])) (fun j hj => h2 j (by simp [hj])) (drop_next h), List.flatMap_cons, List.length_append, Nat.add_assoc]
    rfl
theorem getFs_short {L : List Int} {Y : MsgV} {m : List Int} (hne : m ≠ []) : ∀ (is : List Nat) (M : MsgV) (a : Nat), (∀ i ∈ is, i < 5) → (∀ i ∈ is, MayF i Y) → a ≤ L.length → L.drop a ++ m = (is.flatMap fun i => putF i Y) → (getFs L is M a).1 = 20 ∧ (getFs L is M a).2.1 ≤ L.length
  | [], M, a, _, _, _, h => absurd (List.append_eq_nil_iff.1 h).2 hne
  | i :: is, M, a, h1, h2, ha, h => by
    rw [List.flatMap_cons] at h
    rw [getFs]
    rcases pre_split h with ⟨s, e1, e2⟩ | ⟨E, e1, e2⟩
    · have h3 := getF_short (M := M) (h1 i (by simp)) (h2 i (by simp)) e2 e1 ha
      rw [if_pos (by rw [h3.1]; decide)]
      exact h3
    · have h3 : L.drop (a + (putF i Y).length) = E := drop_next e1
      have h4 : a + (putF i Y).length ≤ L.length := by have := congrArg List.length e1; simp at this; omega
      rw [getF_there (h1 i (by simp)) (h2 i (by simp)) e1]
      simp only [ne_eq, not_true_eq_false, if_false]
      exact getFs_short hne is _ _ (fun j hj => h1 j (by simp [hj])) (fun j hj => h2 j (by simp [hj])) h4 (by rw [h3]; exact e2)
theorem may_of {Y : MsgV} (hc : chkM Y = 0) (hs : 0 ≤ Y.sa ∧ Y.sa < 18446744073709551616) : ∀ i ∈ hasI Y.k, MayF i Y := by
  obtain ⟨h1, h2, h3, h4, h5, h6, h7, h8, h9, h10, h11⟩ := chk_facts hc
  intro i hi
  have hk1 : i = 2 → Y.k = 1 := by
    intro e; subst e
    rcases hasI_cases h1 with e | e | e
    · exact e
    · rw [e] at hi; simp [hasI] at hi
    · rw [e] at hi; simp [hasI] at hi
  have hk3 : i = 4 → Y.k = 3 := by
    intro e; subst e
    rcases hasI_cases h1 with e | e | e
    · rw [e] at hi; simp [hasI] at hi
    · rw [e] at hi; simp [hasI] at hi
    · exact e
  refine ⟨fun _ => ⟨h3, h7⟩, fun _ => hs, fun e => ?_, fun _ => ⟨h4, h8⟩, fun e => ⟨h5, ?_, h10⟩⟩
  · rcases Bool.eq_false_or_eq_true (isP (Y.bl.length : Int)) with hh | hh
    · exact hh
    · exact absurd ⟨hk1 e, hh⟩ h9
  · have := hk3 e
    by_cases h : Y.bk.length = 0
    · exact absurd ⟨this, h⟩ h6
    · omega
theorem fill_of {Y : MsgV} (hc : chkM Y = 0) : fillF Y (hasI Y.k) { zeroM with k := Y.k } = Y := by
  obtain ⟨h1, h2, _⟩ := chk_facts hc
  obtain ⟨k, hd, sa, bl, wt, bk⟩ := Y
  simp only at h1 h2 ⊢
  unfold moreB at h2
  rcases hasI_cases h1 with e | e | e
  · subst e
    simp at h2
    simp [hasI, fillF, setF, zeroM, h2]
  · subst e
    simp [leftB] at h2
    simp [hasI, fillF, setF, zeroM, h2]
  · subst e
    simp [leftB] at h2
    simp [hasI, fillF, setF, zeroM, h2]
theorem k_rng {Y : MsgV} (h : ¬ hasI Y.k = []) : 0 ≤ Y.k ∧ Y.k < 256 := by rcases hasI_cases h with e | e | e <;> rw [e] <;> decide
theorem decM_there {Y : MsgV} (hc : chkM Y = 0) (hs : 0 ≤ Y.sa ∧ Y.sa < 18446744073709551616) (more : List Int) : decM (encM Y ++ more) = if more = [] then (0, (encM Y).length, Y) else (23, (encM Y).length, zeroM) := by
  have h1 := (chk_facts hc).1
  obtain ⟨L, hL⟩ : ∃ L, L = encM Y ++ more := ⟨_, rfl⟩
  rw [← hL]
  have hL1 : L = Y.k :: ((hasI Y.k).flatMap (fun i => putF i Y) ++ more) := by rw [hL, encM]; simp
  have hd : L.drop 1 = (hasI Y.k).flatMap (fun i => putF i Y) ++ more := by rw [hL1]; rfl
  have hg : L.getD 0 0 = Y.k := by rw [hL1]; rfl
  have hn : nextW L 1 = 0 := by rw [hL1]; exact next_one _ _
  have hf := getFs_there (hasI Y.k) { zeroM with k := Y.k } 1 more (hasI_lt _) (may_of hc hs) hd
  rw [fill_of hc] at hf
  have hl : (encM Y).length = 1 + ((hasI Y.k).flatMap (fun i => putF i Y)).length := by rw [encM, List.length_append]; rfl
  have hLl : L.length = (encM Y).length + more.length := by rw [hL, List.length_append]
  unfold decM
  rw [hn, if_neg (by simp), hg, if_neg h1, hf, if_neg (by simp), ← hl]
  by_cases hm : more = []
  · rw [if_pos hm, if_neg (by rw [hLl, hm]; simp)]
  · have : 0 < more.length := List.length_pos_iff.2 hm
    rw [if_neg hm, if_pos (by show (encM Y).length < L.length; rw [hLl]; omega)]
theorem decM_short {Y : MsgV} (hc : chkM Y = 0) (hs : 0 ≤ Y.sa ∧ Y.sa < 18446744073709551616) {D m : List Int} (h : D ++ m = encM Y) (hne : m ≠ []) : (decM D).1 = 20 ∧ (decM D).2.1 ≤ D.length := by
  have h1 := (chk_facts hc).1
  unfold encM at h
  rcases pre_split h with ⟨s, e1, e2⟩ | ⟨E, e1, e2⟩
  · have hD : D = [] := by
      cases D with
      | nil => rfl
      | cons c D =>
        have h9 : D ++ s = [] := (List.cons.inj e2).2
        exact absurd (List.append_eq_nil_iff.1 h9).2 e1
    subst hD
    exact ⟨by decide, by decide⟩
  · have hd : D.drop 1 = E := by rw [e1]; rfl
    have hg : D.getD 0 0 = Y.k := by rw [e1]; rfl
    have hn : nextW D 1 = 0 := by rw [e1]; exact next_one _ _
    have hf := getFs_short (L := D) hne (hasI Y.k) { zeroM with k := Y.k } 1 (hasI_lt _) (may_of hc hs) (by rw [e1]; simp) (by rw [hd]; exact e2)
    unfold decM
    rw [hn, if_neg (by simp), hg, if_neg h1, if_pos (by rw [hf.1]; decide)]
    exact hf
theorem numL_two (x : Nat) (h : x < 16384) : (numL x).length = if x < 128 then 1 else 2 := by
  unfold numL
  rw [numF]
  by_cases h1 : x < 128
  · rw [if_pos h1, if_pos h1]; rfl
  · rw [if_neg h1, if_neg h1, numF, if_pos (by omega)]; rfl
theorem fit_yes : ∀ (rs : List (List Int)) (i a : Nat), i + rs.length ≤ 256 → 1 + (numL (i + rs.length)).length + (a + (rs.flatMap bform).length) ≤ 2097152 → fitG rs i a = i + rs.length
  | [], i, a, _, _ => rfl
  | r :: rs, i, a, h1, h2 => by
    rw [List.length_cons] at h1 h2 ⊢
    rw [List.flatMap_cons, List.length_append] at h2
    have e1 := numL_two (i + 1) (by omega)
    have e2 := numL_two (i + (rs.length + 1)) (by omega)
    have e3 : (numL (i + 1)).length ≤ (numL (i + (rs.length + 1))).length := by
      rw [e1, e2]; split <;> split <;> omega
    rw [fitG, if_neg (by omega), fit_yes rs (i + 1) _ (by omega) (by rw [show i + 1 + rs.length = i + (rs.length + 1) by omega]; omega)]
    omega
theorem fit_le : ∀ (rs : List (List Int)) (i a : Nat), fitG rs i a ≤ i + rs.length
  | [], i, a => Nat.le_refl _
  | r :: rs, i, a => by
    rw [fitG, List.length_cons]
    split
    · omega
    · have := fit_le rs (i + 1) (a + (bform r).length)
      omega
theorem fit_ge : ∀ (rs : List (List Int)) (i a : Nat), i ≤ fitG rs i a
  | [], i, a => Nat.le_refl _
  | r :: rs, i, a => by
    rw [fitG]
    split
    · omega
    · have := fit_ge rs (i + 1) (a + (bform r).length)
      omega
theorem fit_no : ∀ (rs : List (List Int)) (i a : Nat), i ≤ 256 → rs ≠ [] → fitG rs i a = i + rs.length → i + rs.length ≤ 256 ∧ 1 + (numL (i + rs.length)).length + (a + (rs.flatMap bform).length) ≤ 2097152
  | [], i, a, _, h, _ => absurd rfl h
  | r :: rs, i, a, hi, _, h => by
    rw [fitG, List.length_cons] at h
    by_cases hc : i = 256 ∨ 2097152 < 1 + (numL (i + 1)).length + (a + (bform r).length)
    · rw [if_pos hc] at h; omega
    · rw [if_neg hc] at h
      rw [List.length_cons, List.flatMap_cons, List.length_append]
      by_cases hr : rs = []
      · subst hr
        simp only [List.length_nil, List.flatMap_nil, Nat.zero_add, Nat.add_zero] at *
        exact ⟨by omega, by omega⟩
      · have := fit_no rs (i + 1) (a + (bform r).length) (by omega) hr (by omega)
        rw [show i + 1 + rs.length = i + (rs.length + 1) by omega] at this
        omega
theorem enc_max {M : MsgV} (h : chkM M = 0) : (encM M).length ≤ 2097152 := by
  obtain ⟨h1, h2, h3, h4, h5, h6, h7, h8, h9, h10, h11⟩ := chk_facts h
  have a1 := hsL_len M.hd
  have a2 := hsL_len M.wt
  unfold encM
  rcases hasI_cases h1 with e | e | e
  · have a4 : M.bl.length ≤ 8192 := by
      have : isP (M.bl.length : Int) = true := by
        rcases Bool.eq_false_or_eq_true (isP (M.bl.length : Int)) with hh | hh
        · exact hh
        · exact absurd ⟨e, hh⟩ h9
      have := isP_rng this
      omega
    have a5 := numL_len M.bl.length
    rw [e]
    simp [hasI, putF, bform, salt_len]
    omega
  · rw [e]
    simp [hasI, putF]
    omega
  · rw [e]
    have hne : M.bk ≠ [] := fun hh => h6 ⟨e, by rw [hh]; rfl⟩
    have hf : fitG M.bk 0 0 = 0 + M.bk.length := by
      have := fit_le M.bk 0 0
      unfold fit at h11
      omega
    have := (fit_no M.bk 0 0 (by omega) hne hf).2
    simp only [Nat.zero_add] at this
    simp [hasI, putF, bkL]
    simp only [List.length_flatMap] at this
    omega
theorem getFs_one {L : List Int} {i : Nat} {is : List Nat} {M : MsgV} {a : Nat} (h : (getFs L (i :: is) M a).1 = 0) : (getF L i M a).1 = 0 ∧ getFs L (i :: is) M a = getFs L is (getF L i M a).2.2 (getF L i M a).2.1 := by
  rw [getFs] at h ⊢
  by_cases h0 : (getF L i M a).1 = 0
  · exact ⟨h0, by rw [if_neg (by simp [h0])]⟩
  · rw [if_pos h0] at h; exact absurd h h0
theorem five {i : Nat} (h : i < 5) : i = 0 ∨ i = 1 ∨ i = 2 ∨ i = 3 ∨ i = 4 := by omega
theorem getF_back {L : List Int} {i a : Nat} {M : MsgV} (hB : Byts L) (hi : i < 5) (h : (getF L i M a).1 = 0) : ∃ (Y : MsgV) (r : List Int), MayF i Y ∧ L.drop a = putF i Y ++ r ∧ getF L i M a = (0, a + (putF i Y).length, setF i Y M) := by
  rcases five hi with rfl | rfl | rfl | rfl | rfl
  · obtain ⟨l, r, h1, h2, h3, h4⟩ := hsR_back hB (show (hsR L 4096 a).1 = 0 from h)
    exact ⟨{ zeroM with hd := l }, r, ⟨fun _ => ⟨h1, h2⟩, fun e => absurd e (by decide), fun e => absurd e (by decide), fun e => absurd e (by decide), fun e => absurd e (by decide)⟩, h3, by rw [getF, if_pos rfl, h4]; rfl⟩
  · obtain ⟨l, r, h1, h2, h3, h4⟩ := saR_back hB (show (saR L a).1 = 0 from h)
    exact ⟨{ zeroM with sa := l }, r, ⟨fun e => absurd e (by decide), fun _ => ⟨h1, h2⟩, fun e => absurd e (by decide), fun e => absurd e (by decide), fun e => absurd e (by decide)⟩, h3, by rw [getF, if_neg (by decide), if_pos rfl, h4]; rfl⟩
  · obtain ⟨l, r, h1, h3, h4⟩ := dgR_back hB (show (dgR L a).1 = 0 from h)
    exact ⟨{ zeroM with bl := l }, r, ⟨fun e => absurd e (by decide), fun e => absurd e (by decide), fun _ => h1, fun e => absurd e (by decide), fun e => absurd e (by decide)⟩, h3, by rw [getF, if_neg (by decide), if_neg (by decide), if_pos rfl, h4]; rfl⟩
  · obtain ⟨l, r, h1, h2, h3, h4⟩ := hsR_back hB (show (hsR L 4096 a).1 = 0 from h)
    exact ⟨{ zeroM with wt := l }, r, ⟨fun e => absurd e (by decide), fun e => absurd e (by decide), fun e => absurd e (by decide), fun _ => ⟨h1, h2⟩, fun e => absurd e (by decide)⟩, h3, by rw [getF, if_neg (by decide), if_neg (by decide), if_neg (by decide), if_pos rfl, h4]; rfl⟩
  · obtain ⟨l, r, h1, h3, h4⟩ := bkR_back hB (show (bkR L a).1 = 0 from h)
    exact ⟨{ zeroM with bk := l }, r, ⟨fun e => absurd e (by decide), fun e => absurd e (by decide), fun e => absurd e (by decide), fun e => absurd e (by decide), fun _ => h1⟩, h3, by rw [getF, if_neg (by decide), if_neg (by decide), if_neg (by decide), if_neg (by decide), h4]; rfl⟩
theorem putF_same (i : Nat) (Y Z : MsgV) (hi : i < 5) : putF i (setF i Y Z) = putF i Y := by
  rcases five hi with rfl | rfl | rfl | rfl | rfl <;> rfl
theorem putF_ne (i j : Nat) (Y Z : MsgV) (hi : i < 5) (hj : j < 5) (h : j ≠ i) : putF j (setF i Y Z) = putF j Z := by
  rcases five hi with rfl | rfl | rfl | rfl | rfl <;> rcases five hj with rfl | rfl | rfl | rfl | rfl <;> first | rfl | exact absurd rfl h
theorem may_same {i : Nat} {Y Z : MsgV} (hi : i < 5) (h : MayF i Y) : MayF i (setF i Y Z) := by
  rcases five hi with rfl | rfl | rfl | rfl | rfl <;>
    exact ⟨fun e => by first | exact absurd e (by decide) | exact h.hd rfl, fun e => by first | exact absurd e (by decide) | exact h.sa rfl, fun e => by first | exact absurd e (by decide) | exact h.bl rfl, fun e => by first | exact absurd e (by decide) | exact h.wt rfl, fun e => by first | exact absurd e (by decide) | exact h.bk rfl⟩
theorem may_ne {i j : Nat} {Y Z : MsgV} (hi : i < 5) (hj : j < 5) (hne : j ≠ i) (h : MayF j Z) : MayF j (setF i Y Z) := by
  rcases five hi with rfl | rfl | rfl | rfl | rfl <;> rcases five hj with rfl | rfl | rfl | rfl | rfl <;> first
    | exact absurd rfl hne
    | exact ⟨fun e => by first | exact absurd e (by decide) | exact h.hd rfl, fun e => by first | exact absurd e (by decide) | exact h.sa rfl, fun e => by first | exact absurd e (by decide) | exact h.bl rfl, fun e => by first | exact absurd e (by decide) | exact h.wt rfl, fun e => by first | exact absurd e (by decide) | exact h.bk rfl⟩
theorem set_same (i : Nat) (Y Z M : MsgV) (hi : i < 5) : setF i (setF i Y Z) M = setF i Y M := by
  rcases five hi with rfl | rfl | rfl | rfl | rfl <;> rfl
theorem set_ne (i j : Nat) (Y Z M : MsgV) (hi : i < 5) (hj : j < 5) (h : j ≠ i) : setF j (setF i Y Z) M = setF j Z M := by
  rcases five hi with rfl | rfl | rfl | rfl | rfl <;> rcases five hj with rfl | rfl | rfl | rfl | rfl <;> first | rfl | exact absurd rfl h
theorem fill_ne (i : Nat) (Y Z : MsgV) (hi : i < 5) : ∀ (is : List Nat) (M : MsgV), (∀ j ∈ is, j < 5) → i ∉ is → fillF (setF i Y Z) is M = fillF Z is M
  | [], M, _, _ => rfl
  | j :: is, M, h1, h2 => by
    show fillF _ is (setF j (setF i Y Z) M) = fillF Z is (setF j Z M)
    rw [set_ne i j Y Z M hi (h1 j (by simp)) (fun e => h2 (by simp [e])), fill_ne i Y Z hi is _ (fun j hj => h1 j (by simp [hj])) (fun e => h2 (by simp [e]))]
theorem flat_ne (i : Nat) (Y Z : MsgV) (hi : i < 5) (is : List Nat) (h1 : ∀ j ∈ is, j < 5) (h2 : i ∉ is) : (is.flatMap fun j => putF j (setF i Y Z)) = is.flatMap fun j => putF j Z := by
  induction is with
  | nil => rfl
  | cons j is ih =>
    rw [List.flatMap_cons, List.flatMap_cons, putF_ne i j Y Z hi (h1 j (by simp)) (fun e => h2 (by simp [e])), ih (fun j hj => h1 j (by simp [hj])) (fun e => h2 (by simp [e]))]
theorem getFs_back {L : List Int} (hB : Byts L) : ∀ (is : List Nat) (M : MsgV) (a : Nat), (∀ j ∈ is, j < 5) → is.Nodup → (getFs L is M a).1 = 0 → ∃ (Y : MsgV) (r : List Int), (∀ j ∈ is, MayF j Y) ∧ L.drop a = (is.flatMap fun j => putF j Y) ++ r ∧ getFs L is M a = (0, a + (is.flatMap fun j => putF j Y).length, fillF Y is M)
  | [], M, a, _, _, _ => ⟨zeroM, L.drop a, by simp, rfl, by simp [getFs, fillF]⟩
  | i :: is, M, a, h1, h2, h => by
    obtain ⟨h3, h4⟩ := getFs_one h
    rw [h4] at h ⊢
    have hi := h1 i (by simp)
    have hnd := List.nodup_cons.1 h2
    obtain ⟨Y, r, y1, y2, y3⟩ := getF_back hB hi h3
    rw [y3] at h ⊢
    simp only at h ⊢
    obtain ⟨Z, r2, z1, z2, z3⟩ := getFs_back hB is _ _ (fun j hj => h1 j (by simp [hj])) hnd.2 h
    have h6 : L.drop (a + (putF i Y).length) = r := drop_next y2
    rw [h6] at z2
    have hfl := flat_ne i Y Z hi is (fun j hj => h1 j (by simp [hj])) hnd.1
    refine ⟨setF i Y Z, r2, fun j hj => ?_, ?_, ?_⟩
    · rcases List.mem_cons.1 hj with rfl | hj
      · exact may_same hi y1
      · exact may_ne hi (h1 j (by simp [hj])) (fun e => hnd.1 (e ▸ hj)) (z1 j hj)
    · rw [List.flatMap_cons, putF_same i Y Z hi, hfl, y2, z2, List.append_assoc]
    · rw [z3, List.flatMap_cons, putF_same i Y Z hi, hfl, List.length_append, Nat.add_assoc]
      have : fillF (setF i Y Z) (i :: is) M = fillF (setF i Y Z) is (setF i (setF i Y Z) M) := rfl
      rw [this, set_same i Y Z M hi, fill_ne i Y Z hi is _ (fun j hj => h1 j (by simp [hj])) hnd.1]
theorem hasI_nodup (k : Int) : (hasI k).Nodup := by
  unfold hasI
  repeat' split
  all_goals decide
theorem decM_back {L : List Int} (hB : Byts L) (hl : L.length ≤ 2097152) (h : (decM L).1 = 0) : chkM (decM L).2.2 = 0 ∧ encM (decM L).2.2 = L ∧ (0 ≤ (decM L).2.2.sa ∧ (decM L).2.2.sa < 18446744073709551616) := by
  unfold decM at h ⊢
  by_cases h0 : nextW L 1 = 0
  · rw [if_neg (by simp [h0])] at h ⊢
    by_cases h1 : hasI (L.getD 0 0) = []
    · rw [if_pos h1] at h; exact absurd h (by simp)
    · rw [if_neg h1] at h ⊢
      obtain ⟨k, hk⟩ : ∃ k, k = L.getD 0 0 := ⟨_, rfl⟩
      rw [← hk] at h h1 ⊢
      by_cases h2 : (getFs L (hasI k) { zeroM with k := k } 1).1 = 0
      · rw [if_neg (by simp [h2])] at h ⊢
        obtain ⟨Y, r, y1, y2, y3⟩ := getFs_back hB (hasI k) _ 1 (hasI_lt k) (hasI_nodup k) h2
        rw [y3] at h ⊢
        simp only at h ⊢
        have hone : L = k :: L.drop 1 := by
          have := one_back (L := L) (a := 0) (by rw [List.drop_zero]; exact h0)
          rw [List.drop_zero, ← hk, Nat.zero_add] at this
          exact this
        by_cases h3 : 1 + ((hasI k).flatMap fun j => putF j Y).length < L.length
        · rw [if_pos h3] at h; exact absurd h (by simp)
        · rw [if_neg h3]
          have hr : r = [] := by
            have e1 := congrArg List.length hone
            rw [y2, List.length_cons, List.length_append] at e1
            exact List.eq_nil_of_length_eq_zero (by omega)
          rw [hr, List.append_nil] at y2
          rw [y2] at hone
          clear y3 h h2 h0 hk h3
          have hL2 := congrArg List.length hone
          rcases hasI_cases h1 with e | e | e
          · subst e
            have m0 := y1 0 (by simp [hasI])
            have m1 := y1 1 (by simp [hasI])
            have m2 := y1 2 (by simp [hasI])
            have m3 := y1 3 (by simp [hasI])
            refine ⟨?_, ?_, m1.sa rfl⟩
            · simp [chkM, fillF, hasI, setF, zeroM, moreB, okR, fit, fitG, m0.hd, m2.bl, m3.wt]
              rw [if_neg (by have := (m0.hd rfl).1; omega), if_neg (by have := (m3.wt rfl).1; omega)]
            · rw [hone]; simp [encM, fillF, hasI, setF, zeroM, putF]
          · subst e
            have m3 := y1 3 (by simp [hasI])
            refine ⟨?_, ?_, by simp [fillF, hasI, setF, zeroM]⟩
            · simp [chkM, fillF, hasI, setF, zeroM, moreB, leftB, okR, fit, fitG, m3.wt, show Sh.risesB [] = true from rfl]
            · rw [hone]; simp [encM, fillF, hasI, setF, zeroM, putF]
          · subst e
            have m4 := y1 4 (by simp [hasI])
            obtain ⟨b1, b2, b3⟩ := m4.bk rfl
            refine ⟨?_, ?_, by simp [fillF, hasI, setF, zeroM]⟩
            · have hf : fitG Y.bk 0 0 = 0 + Y.bk.length := fit_yes Y.bk 0 0 (by omega) (by
                have : (List.flatMap (fun j => putF j Y) (hasI 3)).length = (bkL Y.bk).length := by simp [hasI, putF]
                rw [List.length_cons, this, bkL, List.length_append] at hL2
                rw [Nat.zero_add]
                omega)
              rw [Nat.zero_add] at hf
              have e0 : chkM (fillF Y (hasI 3) { zeroM with k := 3 }) = if 256 < Y.bk.length then 3 else if Y.bk.length = 0 then 1 else if okR Y.bk = false then 4 else if fit Y.bk < Y.bk.length then 4 else 0 := by
                simp [chkM, fillF, hasI, setF, zeroM, moreB, leftB, show Sh.risesB [] = true from rfl]
              rw [e0, if_neg (by omega), if_neg (by omega), if_neg (by simp [b3]), if_neg (by unfold fit; omega)]
            · rw [hone]; simp [encM, fillF, hasI, setF, zeroM, putF]
      · rw [if_pos h2] at h; exact absurd h h2
  · rw [if_pos h0] at h; exact absurd h h0
theorem Try.in61 (w : World) (vs : Array Value) : (callFunc 61 vs).run Try.prog w = .ok (.enter 61 vs) w := by kernel_rfl
theorem Try.in50 (w : World) (vs : Array Value) : (callFunc 50 vs).run Try.prog w = .ok (.enter 50 vs) w := by kernel_rfl
theorem Try.in29 (w : World) (vs : Array Value) : (callFunc 29 vs).run Try.prog w = .ok (.enter 29 vs) w := by kernel_rfl
theorem Try.in60 (w : World) (vs : Array Value) : (callFunc 60 vs).run Try.prog w = .ok (.enter 60 vs) w := by kernel_rfl
def szG : List (List Int) → Nat → Nat
  | [], n => n
  | r :: rs, n => if n ≤ 2097152 then szG rs (n + (bform r).length) else n
theorem szG_ge : ∀ (rs : List (List Int)) (n : Nat), n ≤ szG rs n
  | [], n => Nat.le_refl _
  | r :: rs, n => by
    rw [szG]
    split
    · have := szG_ge rs (n + (bform r).length)
      omega
    · exact Nat.le_refl _
theorem szG_big : ∀ (rs : List (List Int)) (n : Nat), (2097152 < szG rs n ↔ 2097152 < n + (rs.flatMap bform).length)
  | [], n => by simp [szG]
  | r :: rs, n => by
    rw [szG, List.flatMap_cons, List.length_append]
    split
    · rw [szG_big rs]; omega
    · omega
theorem sz_fit (ls : List (List Int)) (h0 : ls ≠ []) (h : ls.length ≤ 256) : 2097152 < szG ls (1 + (numL ls.length).length) ↔ fit ls < ls.length := by
  rw [szG_big]
  unfold fit
  constructor
  · intro h1
    rcases Nat.lt_or_ge (fitG ls 0 0) ls.length with h2 | h2
    · exact h2
    · have h3 := fit_le ls 0 0
      have := (fit_no ls 0 0 (by omega) h0 (by omega)).2
      simp only [Nat.zero_add] at this
      omega
  · intro h1
    rcases Nat.lt_or_ge 2097152 (1 + (numL ls.length).length + (ls.flatMap bform).length) with h2 | h2
    · exact h2
    · have := fit_yes ls 0 0 (by omega) (by simp only [Nat.zero_add]; omega)
      omega
set_option maxRecDepth 8000 in
set_option maxHeartbeats 2000000 in
theorem size_msg (M : MsgV) (c : MC) (w : World) (hA : MsAt w M c) (hhd : M.hd.length ≤ 4096) (hwt : M.wt.length ≤ 4096) (hbk : M.bk.length ≤ 256) (hbl : M.k = 1 → M.bl.length ≤ 8192) (hok : okR M.bk = true) (hkk : M.bl.length ≤ 140737488355328) :
    Calls Try.prog 61 #[.agg (msA c)] w fun e w' => ∃ s : Nat, e = .returned (.int .i64 (s : Int)) ∧ (M.k = 3 → s = szG M.bk (1 + (numL M.bk.length).length)) ∧ (M.k ≠ 3 → s ≤ 2097152) ∧ Below w.heap.size w w' := by
  obtain ⟨ha, hk, e1⟩ := hA.hd.form
  obtain ⟨ba, bk, e2⟩ := row_form hA.bl
  obtain ⟨wa, wk, e3⟩ := hA.wt.form
  obtain ⟨xa, xk, e4⟩ := hA.bk.form
  have E1 := Keep.mk e1
  have E3 := Keep.mk e2
  have E4 := Keep.mk e3
  have E5 := Keep.mk e4
  have Ek := Keep.mk hA.k
  have HA := Keep.mk hA
  have Hhd := Keep.mk hhd
  have Hwt := Keep.mk hwt
  have Hbl := Keep.mk hbl
  have Hok := Keep.mk hok
  clear hA e1 e2 e3 e4 hbl hok
  go_enter Try.func61, Try.ntmps61
  refine wp_seq_k fun K1 hK1 => ?_
  refine wp_region_list (WL.out ?_)
  refine WL.box (by kernel_rfl) 28 (.tmp 0) rfl _ rfl ?_
  have HM := Keep.mk (Blk.new w 28 (msA c))
  have B1 := Keep.mk (below_new w (.cells (msA c) 28))
  have HA1 := Keep.mk (HA.out.below (below_new w (.cells (msA c) 28)))
  generalize w.alloc (.cells (msA c) 28) = w1 at *
  generalize w.heap.size = g at HM ⊢
  have d0 := HM.out.c 0 (ms_0 c)
  have d1 := HM.out.c 1 (ms_1 c)
  have d3 := HM.out.c 3 (ms_3 c)
  have d4 := HM.out.c 4 (ms_4 c)
  have d5 := HM.out.c 5 (ms_5 c)
  rw [Ek.out] at d0
  rw [E1.out] at d1
  rw [E3.out] at d3
  rw [E4.out] at d4
  rw [E5.out] at d5
  simp only [Act.put, List.setIfInBounds_toArray, List.set_cons_zero, List.set_cons_succ]
  refine WL.val (by kernel_rfl) (.int .i64 0) (by go_simp) ?_
  simp only [Act.put, List.setIfInBounds_toArray, List.set_cons_zero, List.set_cons_succ]
  refine WL.nil ?_
  refine hK1 _ _ ?_
  refine wp_seq_k fun K2 hK2 => ?_
  refine wp_region_list (WL.out ?_)
  refine WL.val (by kernel_rfl) (.int .i64 1) (by go_simp) ?_
  simp only [Act.put, List.setIfInBounds_toArray, List.set_cons_zero, List.set_cons_succ]
  refine WL.nil ?_
  refine hK2 _ _ ?_
  refine wp_seq_k fun K3 hK3 => ?_
  refine wp_seq_k fun K4 hK4 => ?_
  refine wp_region_list (WL.out ?_)
  refine WL.val (by kernel_rfl) (.pointer (some ⟨g, 0, none⟩)) (by go_simp) ?_
  simp only [Act.put, List.setIfInBounds_toArray, List.set_cons_zero, List.set_cons_succ]
  refine WL.val (by kernel_rfl) (.int .i64 M.k) (by go_simp) ?_
  simp only [Act.put, List.setIfInBounds_toArray, List.set_cons_zero, List.set_cons_succ]
  by_cases h2_2 : M.k = 1
  · skip
    refine WL.val (by kernel_rfl) (.bool true) (by go_simp) ?_
    simp only [Act.put, List.setIfInBounds_toArray, List.set_cons_zero, List.set_cons_succ]
    refine WL.nil ?_
    refine hK4 _ _ ?_
    refine wp_cond_true rfl ?_
    obtain ⟨s1, hs1⟩ : ∃ s1 : Int, s1 = ((numL M.hd.length).length : Int) := ⟨_, rfl⟩
    obtain ⟨s2, hs2⟩ : ∃ s2 : Int, s2 = ((numL M.bl.length).length : Int) := ⟨_, rfl⟩
    have hn1 : 0 ≤ s1 ∧ s1 ≤ 10 := by have := numL_len M.hd.length; omega
    have hn2 : 0 ≤ s2 ∧ s2 ≤ 10 := by have := numL_len M.bl.length; omega
    have C1 := Keep.mk (rsize_any M.hd.length w1.drew (by omega))
    have C2 := Keep.mk (rsize_any M.bl.length w1.drew (by omega))
    rw [← hs1] at C1
    rw [← hs2] at C2
    have x1 : w1.drew.cell? ⟨g, 1, none⟩ = some (.slice ha M.hd.length hk) := d1
    have x3 : w1.drew.cell? ⟨g, 3, none⟩ = some (.slice ba M.bl.length bk) := d3
    have hS0 : (w1.drew.cell? ⟨g, 1, none⟩ = some (.slice ha M.hd.length hk)) ∧ (w1.drew.cell? ⟨g, 3, none⟩ = some (.slice ba M.bl.length bk)) := ⟨x1, x3⟩
    clear hs1 hs2
    have hw0 : IntKind.u64.wrap ((M.hd.length : Int)) = (M.hd.length : Int) := by rw [IntKind.wrap_u64]; omega
    have hw1 : IntKind.i64.wrap (32 * (M.hd.length : Int)) = 32 * (M.hd.length : Int) := by rw [IntKind.wrap_i64]; omega
    have hw2 : IntKind.i64.wrap (s1 + 32 * (M.hd.length : Int)) = s1 + 32 * (M.hd.length : Int) := by rw [IntKind.wrap_i64]; omega
    have hw3 : IntKind.i64.wrap (s1 + 32 * (M.hd.length : Int) + 8) = s1 + 32 * (M.hd.length : Int) + 8 := by rw [IntKind.wrap_i64]; omega
    have hw4 : IntKind.i64.wrap (s1 + 32 * (M.hd.length : Int) + 8 + s2) = s1 + 32 * (M.hd.length : Int) + 8 + s2 := by rw [IntKind.wrap_i64]; omega
    have hw5 : IntKind.i64.wrap (s1 + 32 * (M.hd.length : Int) + 8 + s2 + (M.bl.length : Int)) = s1 + 32 * (M.hd.length : Int) + 8 + s2 + (M.bl.length : Int) := by rw [IntKind.wrap_i64]; omega
    have hw6 : IntKind.i64.wrap (1 + (s1 + 32 * (M.hd.length : Int) + 8 + s2 + (M.bl.length : Int))) = 1 + (s1 + 32 * (M.hd.length : Int) + 8 + s2 + (M.bl.length : Int)) := by rw [IntKind.wrap_i64]; omega
    have hw7 : IntKind.u64.wrap ((M.bl.length : Int)) = (M.bl.length : Int) := by rw [IntKind.wrap_u64]; omega
    refine wp_region_held_drew (S := fun wx => wx.cell? ⟨g, 1, none⟩ = some (.slice ha M.hd.length hk) ∧ wx.cell? ⟨g, 3, none⟩ = some (.slice ba M.bl.length bk)) (by kernel_rfl) (hS0) (fun hHeld => ?_)
    refine wpAnyH_take (i := 0) (oi := ⟨some 8, Op.move (Operand.tmp 3), 3, _, _, none⟩) (v := .int .i64 1) rfl (by kernel_rfl) (by kernel_rfl) (by kernel_rfl) (fun _ _ _ h => h) (Or.inl ⟨by rfl, fun w hS => by obtain ⟨hs1, hs3⟩ := hS; go_simp⟩) hHeld ?_
    simp only [Act.put, List.setIfInBounds_toArray, List.set_cons_zero, List.set_cons_succ]
    refine wpAnyH_take (i := 1) (oi := ⟨some 9, Op.fieldAddr 28 (Operand.tmp 1) 1, 0, _, _, none⟩) (v := .pointer (some ⟨g, 1, none⟩)) rfl (by kernel_rfl) (by kernel_rfl) (by kernel_rfl) (fun _ _ _ h => h) (Or.inl ⟨by rfl, fun w hS => by obtain ⟨hs1, hs3⟩ := hS; go_simp⟩) hHeld ?_
    simp only [Act.put, List.setIfInBounds_toArray, List.set_cons_zero, List.set_cons_succ]
    refine wpAnyH_take (i := 2) (oi := ⟨some 10, Op.load 23 (Operand.tmp 9), 23, _, _, none⟩) (v := .slice ha M.hd.length hk) rfl (by kernel_rfl) (by kernel_rfl) (by kernel_rfl) (fun _ _ _ h => h) (Or.inl ⟨by rfl, fun w hS => by obtain ⟨hs1, hs3⟩ := hS; go_simp⟩) hHeld ?_
    simp only [Act.put, List.setIfInBounds_toArray, List.set_cons_zero, List.set_cons_succ]
    refine wpAnyH_take (i := 3) (oi := ⟨some 11, Op.call { callee := Callee.builtin Builtin.len, args := #[Operand.tmp 10], argTypes := #[23] }, 3, _, _, none⟩) (v := .int .i64 (M.hd.length : Int)) rfl (by kernel_rfl) (by kernel_rfl) (by kernel_rfl) (fun _ _ _ h => h) (Or.inl ⟨by rfl, fun w hS => by obtain ⟨hs1, hs3⟩ := hS; go_simp⟩) hHeld ?_
    simp only [Act.put, List.setIfInBounds_toArray, List.set_cons_zero, List.set_cons_succ]
    refine wpAnyH_take (i := 4) (oi := ⟨some 12, Op.convert 3 24 (Operand.tmp 11), 24, _, _, none⟩) (v := .int .u64 (M.hd.length : Int)) rfl (by kernel_rfl) (by kernel_rfl) (by kernel_rfl) (fun _ _ _ h => h) (Or.inl ⟨by rfl, fun w hS => by obtain ⟨hs1, hs3⟩ := hS; go_simp⟩) hHeld ?_
    simp only [Act.put, List.setIfInBounds_toArray, List.set_cons_zero, List.set_cons_succ]
    refine wpAnyH_take (i := 6) (oi := ⟨some 14, Op.fieldAddr 28 (Operand.tmp 1) 1, 0, _, _, none⟩) (v := .pointer (some ⟨g, 1, none⟩)) rfl (by kernel_rfl) (by kernel_rfl) (by kernel_rfl) (fun _ _ _ h => h) (Or.inl ⟨by rfl, fun w hS => by obtain ⟨hs1, hs3⟩ := hS; go_simp⟩) hHeld ?_
    simp only [Act.put, List.setIfInBounds_toArray, List.set_cons_zero, List.set_cons_succ]
    refine wpAnyH_take (i := 7) (oi := ⟨some 15, Op.load 23 (Operand.tmp 14), 23, _, _, none⟩) (v := .slice ha M.hd.length hk) rfl (by kernel_rfl) (by kernel_rfl) (by kernel_rfl) (fun _ _ _ h => h) (Or.inl ⟨by rfl, fun w hS => by obtain ⟨hs1, hs3⟩ := hS; go_simp⟩) hHeld ?_
    simp only [Act.put, List.setIfInBounds_toArray, List.set_cons_zero, List.set_cons_succ]
    refine wpAnyH_take (i := 8) (oi := ⟨some 16, Op.call { callee := Callee.builtin Builtin.len, args := #[Operand.tmp 15], argTypes := #[23] }, 3, _, _, none⟩) (v := .int .i64 (M.hd.length : Int)) rfl (by kernel_rfl) (by kernel_rfl) (by kernel_rfl) (fun _ _ _ h => h) (Or.inl ⟨by rfl, fun w hS => by obtain ⟨hs1, hs3⟩ := hS; go_simp⟩) hHeld ?_
    simp only [Act.put, List.setIfInBounds_toArray, List.set_cons_zero, List.set_cons_succ]
    refine wpAnyH_take (i := 9) (oi := ⟨some 17, Op.binOp BinOp.mul 3 (Operand.const (Value.int IntKind.i64 32)) (Operand.tmp 16) 3, 3, _, _, none⟩) (v := .int .i64 (32 * (M.hd.length : Int))) rfl (by kernel_rfl) (by kernel_rfl) (by kernel_rfl) (fun _ _ _ h => h) (Or.inl ⟨by rfl, fun w hS => by obtain ⟨hs1, hs3⟩ := hS; go_simp⟩) hHeld ?_
    simp only [Act.put, List.setIfInBounds_toArray, List.set_cons_zero, List.set_cons_succ]
    refine wpAnyH_take (i := 12) (oi := ⟨some 20, Op.fieldAddr 28 (Operand.tmp 1) 3, 0, _, _, none⟩) (v := .pointer (some ⟨g, 3, none⟩)) rfl (by kernel_rfl) (by kernel_rfl) (by kernel_rfl) (fun _ _ _ h => h) (Or.inl ⟨by rfl, fun w hS => by obtain ⟨hs1, hs3⟩ := hS; go_simp⟩) hHeld ?_
    simp only [Act.put, List.setIfInBounds_toArray, List.set_cons_zero, List.set_cons_succ]
    refine wpAnyH_take (i := 13) (oi := ⟨some 21, Op.load 25 (Operand.tmp 20), 25, _, _, none⟩) (v := .slice ba M.bl.length bk) rfl (by kernel_rfl) (by kernel_rfl) (by kernel_rfl) (fun _ _ _ h => h) (Or.inl ⟨by rfl, fun w hS => by obtain ⟨hs1, hs3⟩ := hS; go_simp⟩) hHeld ?_
    simp only [Act.put, List.setIfInBounds_toArray, List.set_cons_zero, List.set_cons_succ]
    refine wpAnyH_take (i := 14) (oi := ⟨some 22, Op.call { callee := Callee.builtin Builtin.len, args := #[Operand.tmp 21], argTypes := #[25] }, 3, _, _, none⟩) (v := .int .i64 (M.bl.length : Int)) rfl (by kernel_rfl) (by kernel_rfl) (by kernel_rfl) (fun _ _ _ h => h) (Or.inl ⟨by rfl, fun w hS => by obtain ⟨hs1, hs3⟩ := hS; go_simp⟩) hHeld ?_
    simp only [Act.put, List.setIfInBounds_toArray, List.set_cons_zero, List.set_cons_succ]
    refine wpAnyH_take (i := 15) (oi := ⟨some 23, Op.convert 3 24 (Operand.tmp 22), 24, _, _, none⟩) (v := .int .u64 (M.bl.length : Int)) rfl (by kernel_rfl) (by kernel_rfl) (by kernel_rfl) (fun _ _ _ h => h) (Or.inl ⟨by rfl, fun w hS => by obtain ⟨hs1, hs3⟩ := hS; go_simp⟩) hHeld ?_
    simp only [Act.put, List.setIfInBounds_toArray, List.set_cons_zero, List.set_cons_succ]
    refine wpAnyH_take (i := 18) (oi := ⟨some 26, Op.fieldAddr 28 (Operand.tmp 1) 3, 0, _, _, none⟩) (v := .pointer (some ⟨g, 3, none⟩)) rfl (by kernel_rfl) (by kernel_rfl) (by kernel_rfl) (fun _ _ _ h => h) (Or.inl ⟨by rfl, fun w hS => by obtain ⟨hs1, hs3⟩ := hS; go_simp⟩) hHeld ?_
    simp only [Act.put, List.setIfInBounds_toArray, List.set_cons_zero, List.set_cons_succ]
    refine wpAnyH_take (i := 19) (oi := ⟨some 27, Op.load 25 (Operand.tmp 26), 25, _, _, none⟩) (v := .slice ba M.bl.length bk) rfl (by kernel_rfl) (by kernel_rfl) (by kernel_rfl) (fun _ _ _ h => h) (Or.inl ⟨by rfl, fun w hS => by obtain ⟨hs1, hs3⟩ := hS; go_simp⟩) hHeld ?_
    simp only [Act.put, List.setIfInBounds_toArray, List.set_cons_zero, List.set_cons_succ]
    refine wpAnyH_take (i := 20) (oi := ⟨some 28, Op.call { callee := Callee.builtin Builtin.len, args := #[Operand.tmp 27], argTypes := #[25] }, 3, _, _, none⟩) (v := .int .i64 (M.bl.length : Int)) rfl (by kernel_rfl) (by kernel_rfl) (by kernel_rfl) (fun _ _ _ h => h) (Or.inl ⟨by rfl, fun w hS => by obtain ⟨hs1, hs3⟩ := hS; go_simp⟩) hHeld ?_
    simp only [Act.put, List.setIfInBounds_toArray, List.set_cons_zero, List.set_cons_succ]
    refine wpAnyH_ready (rs := [5]) (by kernel_rfl) (by simp) ?_
    refine AllReadyH.cons (o := ⟨some 13, Op.call { callee := Callee.value (Operand.func 50), args := #[Operand.tmp 12], argTypes := #[24] }, 3, _, _, none⟩) rfl (fun K hK => ?_) AllReadyH.nil
    rw [if_pos (by rfl)]
    refine wp_callF 50 _ _ rfl Try.in50 #[.int .u64 (M.hd.length : Int)] (by simp [Act.eval]) (fun v w' => v = .int .i64 s1 ∧ w' = w1.drew) (C1.out.mono fun e w' h => ⟨_, h.1, rfl, h.2⟩) ?_
    rintro v w6 ⟨rfl, rfl⟩
    refine hK.out _ _ hS0 fun hHa => ?_
    clear hK
    simp only [Act.put, List.setIfInBounds_toArray, List.set_cons_zero, List.set_cons_succ]
    refine wpAnyH_take (i := 10) (oi := ⟨some 18, Op.binOp BinOp.add 3 (Operand.tmp 13) (Operand.tmp 17) 3, 3, _, _, none⟩) (v := .int .i64 (s1 + 32 * (M.hd.length : Int))) rfl (by kernel_rfl) (by kernel_rfl) (by kernel_rfl) (fun _ _ _ h => h) (Or.inl ⟨by rfl, fun w hS => by obtain ⟨hs1, hs3⟩ := hS; go_simp⟩) hHa ?_
    simp only [Act.put, List.setIfInBounds_toArray, List.set_cons_zero, List.set_cons_succ]
    refine wpAnyH_take (i := 11) (oi := ⟨some 19, Op.binOp BinOp.add 3 (Operand.tmp 18) (Operand.const (Value.int IntKind.i64 8)) 3, 3, _, _, none⟩) (v := .int .i64 (s1 + 32 * (M.hd.length : Int) + 8)) rfl (by kernel_rfl) (by kernel_rfl) (by kernel_rfl) (fun _ _ _ h => h) (Or.inl ⟨by rfl, fun w hS => by obtain ⟨hs1, hs3⟩ := hS; go_simp⟩) hHa ?_
    simp only [Act.put, List.setIfInBounds_toArray, List.set_cons_zero, List.set_cons_succ]
    refine wpAnyH_ready (rs := [16]) (by kernel_rfl) (by simp) ?_
    refine AllReadyH.cons (o := ⟨some 24, Op.call { callee := Callee.value (Operand.func 50), args := #[Operand.tmp 23], argTypes := #[24] }, 3, _, _, none⟩) rfl (fun K hK => ?_) AllReadyH.nil
    rw [if_pos (by rfl)]
    refine wp_callF 50 _ _ rfl Try.in50 #[.int .u64 (M.bl.length : Int)] (by simp [Act.eval]) (fun v w' => v = .int .i64 s2 ∧ w' = w1.drew) (C2.out.mono fun e w' h => ⟨_, h.1, rfl, h.2⟩) ?_
    rintro v w6 ⟨rfl, rfl⟩
    refine hK.out _ _ hS0 fun hHb => ?_
    clear hK
    simp only [Act.put, List.setIfInBounds_toArray, List.set_cons_zero, List.set_cons_succ]
    refine wpAnyH_take (i := 17) (oi := ⟨some 25, Op.binOp BinOp.add 3 (Operand.tmp 19) (Operand.tmp 24) 3, 3, _, _, none⟩) (v := .int .i64 (s1 + 32 * (M.hd.length : Int) + 8 + s2)) rfl (by kernel_rfl) (by kernel_rfl) (by kernel_rfl) (fun _ _ _ h => h) (Or.inl ⟨by rfl, fun w hS => by obtain ⟨hs1, hs3⟩ := hS; go_simp⟩) hHb ?_
    simp only [Act.put, List.setIfInBounds_toArray, List.set_cons_zero, List.set_cons_succ]
    refine wpAnyH_take (i := 21) (oi := ⟨some 29, Op.binOp BinOp.add 3 (Operand.tmp 25) (Operand.tmp 28) 3, 3, _, _, none⟩) (v := .int .i64 (s1 + 32 * (M.hd.length : Int) + 8 + s2 + (M.bl.length : Int))) rfl (by kernel_rfl) (by kernel_rfl) (by kernel_rfl) (fun _ _ _ h => h) (Or.inl ⟨by rfl, fun w hS => by obtain ⟨hs1, hs3⟩ := hS; go_simp⟩) hHb ?_
    simp only [Act.put, List.setIfInBounds_toArray, List.set_cons_zero, List.set_cons_succ]
    refine wpAnyH_take (i := 22) (oi := ⟨some 30, Op.binOp BinOp.add 3 (Operand.tmp 8) (Operand.tmp 29) 3, 3, _, _, none⟩) (v := .int .i64 (1 + (s1 + 32 * (M.hd.length : Int) + 8 + s2 + (M.bl.length : Int)))) rfl (by kernel_rfl) (by kernel_rfl) (by kernel_rfl) (fun _ _ _ h => h) (Or.inl ⟨by rfl, fun w hS => by obtain ⟨hs1, hs3⟩ := hS; go_simp⟩) hHb ?_
    simp only [Act.put, List.setIfInBounds_toArray, List.set_cons_zero, List.set_cons_succ]
    refine wpAnyH_take (i := 23) (oi := ⟨some 3, Op.assign (Operand.tmp 30), 3, _, _, none⟩) (v := .int .i64 (1 + (s1 + 32 * (M.hd.length : Int) + 8 + s2 + (M.bl.length : Int)))) rfl (by kernel_rfl) (by kernel_rfl) (by kernel_rfl) (fun _ _ _ h => h) (Or.inl ⟨by rfl, fun w hS => by obtain ⟨hs1, hs3⟩ := hS; go_simp⟩) hHb ?_
    simp only [Act.put, List.setIfInBounds_toArray, List.set_cons_zero, List.set_cons_succ]
    refine wpAnyH_done (by kernel_rfl) ?_ _
    refine hK3 _ _ ?_
    refine wp_seq_k fun K5 hK5 => ?_
    refine wp_seq_k fun K6 hK6 => ?_
    have hk3 : ¬ M.k = 3 := by omega
    refine wp_region_list (WL.out ?_)
    refine WL.val (by kernel_rfl) (.pointer (some ⟨g, 0, none⟩)) (by go_simp) ?_
    simp only [Act.put, List.setIfInBounds_toArray, List.set_cons_zero, List.set_cons_succ]
    refine WL.val (by kernel_rfl) (.int .i64 M.k) (by go_simp) ?_
    simp only [Act.put, List.setIfInBounds_toArray, List.set_cons_zero, List.set_cons_succ]
    refine WL.val (by kernel_rfl) (.bool true) (by go_simp) ?_
    simp only [Act.put, List.setIfInBounds_toArray, List.set_cons_zero, List.set_cons_succ]
    refine WL.nil ?_
    refine hK6 _ _ ?_
    refine wp_cond_true rfl ?_
    refine wp_seq_k fun K7 hK7 => ?_
    obtain ⟨n0, hn0⟩ : ∃ n0 : Int, n0 = (1 + (s1 + 32 * (M.hd.length : Int) + 8 + s2 + (M.bl.length : Int))) := ⟨_, rfl⟩
    have hnr : 0 ≤ n0 ∧ n0 ≤ 150000 := by
      try have hb8 := Hbl.out h2_2
      omega
    rw [← hn0]
    clear hn0
    obtain ⟨s3, hs3⟩ : ∃ s3 : Int, s3 = ((numL M.wt.length).length : Int) := ⟨_, rfl⟩
    have hn3 : 0 ≤ s3 ∧ s3 ≤ 10 := by have := numL_len M.wt.length; omega
    have C3 := Keep.mk (rsize_any M.wt.length w1.drew.drew (by omega))
    rw [← hs3] at C3
    have hwt := Hwt.out
    clear hs3
    have hv0 : IntKind.u64.wrap ((M.wt.length : Int)) = (M.wt.length : Int) := by rw [IntKind.wrap_u64]; omega
    have hv1 : IntKind.i64.wrap (32 * (M.wt.length : Int)) = 32 * (M.wt.length : Int) := by rw [IntKind.wrap_i64]; omega
    have hv2 : IntKind.i64.wrap (n0 + s3) = n0 + s3 := by rw [IntKind.wrap_i64]; omega
    have hv3 : IntKind.i64.wrap (n0 + s3 + 32 * (M.wt.length : Int)) = n0 + s3 + 32 * (M.wt.length : Int) := by rw [IntKind.wrap_i64]; omega
    have hS5 : w1.drew.drew.cell? ⟨g, 4, none⟩ = some (.slice wa M.wt.length wk) := d4
    refine wp_region_held_drew (S := fun wx => wx.cell? ⟨g, 4, none⟩ = some (.slice wa M.wt.length wk)) (by kernel_rfl) (hS5) (fun hHeld => ?_)
    refine wpAnyH_take (i := 0) (oi := ⟨some 34, Op.move (Operand.tmp 3), 3, _, _, none⟩) (v := .int .i64 n0) rfl (by kernel_rfl) (by kernel_rfl) (by kernel_rfl) (fun _ _ _ h => h) (Or.inl ⟨by rfl, fun w hS => by go_simp⟩) hHeld ?_
    simp only [Act.put, List.setIfInBounds_toArray, List.set_cons_zero, List.set_cons_succ]
    refine wpAnyH_take (i := 1) (oi := ⟨some 35, Op.fieldAddr 28 (Operand.tmp 1) 4, 0, _, _, none⟩) (v := .pointer (some ⟨g, 4, none⟩)) rfl (by kernel_rfl) (by kernel_rfl) (by kernel_rfl) (fun _ _ _ h => h) (Or.inl ⟨by rfl, fun w hS => by go_simp⟩) hHeld ?_
    simp only [Act.put, List.setIfInBounds_toArray, List.set_cons_zero, List.set_cons_succ]
    refine wpAnyH_take (i := 2) (oi := ⟨some 36, Op.load 23 (Operand.tmp 35), 23, _, _, none⟩) (v := .slice wa M.wt.length wk) rfl (by kernel_rfl) (by kernel_rfl) (by kernel_rfl) (fun _ _ _ h => h) (Or.inl ⟨by rfl, fun w hS => by go_simp⟩) hHeld ?_
    simp only [Act.put, List.setIfInBounds_toArray, List.set_cons_zero, List.set_cons_succ]
    refine wpAnyH_take (i := 3) (oi := ⟨some 37, Op.call { callee := Callee.builtin Builtin.len, args := #[Operand.tmp 36], argTypes := #[23] }, 3, _, _, none⟩) (v := .int .i64 (M.wt.length : Int)) rfl (by kernel_rfl) (by kernel_rfl) (by kernel_rfl) (fun _ _ _ h => h) (Or.inl ⟨by rfl, fun w hS => by go_simp⟩) hHeld ?_
    simp only [Act.put, List.setIfInBounds_toArray, List.set_cons_zero, List.set_cons_succ]
    refine wpAnyH_take (i := 4) (oi := ⟨some 38, Op.convert 3 24 (Operand.tmp 37), 24, _, _, none⟩) (v := .int .u64 (M.wt.length : Int)) rfl (by kernel_rfl) (by kernel_rfl) (by kernel_rfl) (fun _ _ _ h => h) (Or.inl ⟨by rfl, fun w hS => by go_simp⟩) hHeld ?_
    simp only [Act.put, List.setIfInBounds_toArray, List.set_cons_zero, List.set_cons_succ]
    refine wpAnyH_take (i := 7) (oi := ⟨some 41, Op.fieldAddr 28 (Operand.tmp 1) 4, 0, _, _, none⟩) (v := .pointer (some ⟨g, 4, none⟩)) rfl (by kernel_rfl) (by kernel_rfl) (by kernel_rfl) (fun _ _ _ h => h) (Or.inl ⟨by rfl, fun w hS => by go_simp⟩) hHeld ?_
    simp only [Act.put, List.setIfInBounds_toArray, List.set_cons_zero, List.set_cons_succ]
    refine wpAnyH_take (i := 8) (oi := ⟨some 42, Op.load 23 (Operand.tmp 41), 23, _, _, none⟩) (v := .slice wa M.wt.length wk) rfl (by kernel_rfl) (by kernel_rfl) (by kernel_rfl) (fun _ _ _ h => h) (Or.inl ⟨by rfl, fun w hS => by go_simp⟩) hHeld ?_
    simp only [Act.put, List.setIfInBounds_toArray, List.set_cons_zero, List.set_cons_succ]
    refine wpAnyH_take (i := 9) (oi := ⟨some 43, Op.call { callee := Callee.builtin Builtin.len, args := #[Operand.tmp 42], argTypes := #[23] }, 3, _, _, none⟩) (v := .int .i64 (M.wt.length : Int)) rfl (by kernel_rfl) (by kernel_rfl) (by kernel_rfl) (fun _ _ _ h => h) (Or.inl ⟨by rfl, fun w hS => by go_simp⟩) hHeld ?_
    simp only [Act.put, List.setIfInBounds_toArray, List.set_cons_zero, List.set_cons_succ]
    refine wpAnyH_take (i := 10) (oi := ⟨some 44, Op.binOp BinOp.mul 3 (Operand.const (Value.int IntKind.i64 32)) (Operand.tmp 43) 3, 3, _, _, none⟩) (v := .int .i64 (32 * (M.wt.length : Int))) rfl (by kernel_rfl) (by kernel_rfl) (by kernel_rfl) (fun _ _ _ h => h) (Or.inl ⟨by rfl, fun w hS => by go_simp⟩) hHeld ?_
    simp only [Act.put, List.setIfInBounds_toArray, List.set_cons_zero, List.set_cons_succ]
    refine wpAnyH_ready (rs := [5]) (by kernel_rfl) (by simp) ?_
    refine AllReadyH.cons (o := ⟨some 39, Op.call { callee := Callee.value (Operand.func 50), args := #[Operand.tmp 38], argTypes := #[24] }, 3, _, _, none⟩) rfl (fun K hK => ?_) AllReadyH.nil
    rw [if_pos (by rfl)]
    refine wp_callF 50 _ _ rfl Try.in50 #[.int .u64 (M.wt.length : Int)] (by simp [Act.eval]) (fun v w' => v = .int .i64 s3 ∧ w' = w1.drew.drew) (C3.out.mono fun e w' h => ⟨_, h.1, rfl, h.2⟩) ?_
    rintro v w6 ⟨rfl, rfl⟩
    refine hK.out _ _ hS5 fun hHa => ?_
    clear hK
    simp only [Act.put, List.setIfInBounds_toArray, List.set_cons_zero, List.set_cons_succ]
    refine wpAnyH_take (i := 6) (oi := ⟨some 40, Op.binOp BinOp.add 3 (Operand.tmp 34) (Operand.tmp 39) 3, 3, _, _, none⟩) (v := .int .i64 (n0 + s3)) rfl (by kernel_rfl) (by kernel_rfl) (by kernel_rfl) (fun _ _ _ h => h) (Or.inl ⟨by rfl, fun w hS => by go_simp⟩) hHa ?_
    simp only [Act.put, List.setIfInBounds_toArray, List.set_cons_zero, List.set_cons_succ]
    refine wpAnyH_take (i := 11) (oi := ⟨some 45, Op.binOp BinOp.add 3 (Operand.tmp 40) (Operand.tmp 44) 3, 3, _, _, none⟩) (v := .int .i64 (n0 + s3 + 32 * (M.wt.length : Int))) rfl (by kernel_rfl) (by kernel_rfl) (by kernel_rfl) (fun _ _ _ h => h) (Or.inl ⟨by rfl, fun w hS => by go_simp⟩) hHa ?_
    simp only [Act.put, List.setIfInBounds_toArray, List.set_cons_zero, List.set_cons_succ]
    refine wpAnyH_take (i := 12) (oi := ⟨some 2, Op.assign (Operand.tmp 45), 3, _, _, none⟩) (v := .int .i64 (n0 + s3 + 32 * (M.wt.length : Int))) rfl (by kernel_rfl) (by kernel_rfl) (by kernel_rfl) (fun _ _ _ h => h) (Or.inl ⟨by rfl, fun w hS => by go_simp⟩) hHa ?_
    simp only [Act.put, List.setIfInBounds_toArray, List.set_cons_zero, List.set_cons_succ]
    refine wpAnyH_done (by kernel_rfl) ?_ _
    refine hK7 _ _ ?_
    refine wp_ret ?_
    go_ret
    exact ⟨(n0 + s3 + 32 * (M.wt.length : Int)).toNat, by rw [Int.toNat_of_nonneg (by omega)]; rfl, fun h => absurd h hk3, fun _ => by omega, by first | exact B1.out.drew | exact B1.out.drew.drew⟩
  · skip
    refine WL.val (by kernel_rfl) (.bool false) (by go_simp) ?_
    simp only [Act.put, List.setIfInBounds_toArray, List.set_cons_zero, List.set_cons_succ]
    refine WL.nil ?_
    refine hK4 _ _ ?_
    refine wp_cond_false rfl ?_
    refine wp_skip ?_
    refine hK3 _ _ ?_
    refine wp_seq_k fun K8 hK8 => ?_
    refine wp_seq_k fun K9 hK9 => ?_
    refine wp_region_list (WL.out ?_)
    refine WL.val (by kernel_rfl) (.pointer (some ⟨g, 0, none⟩)) (by go_simp) ?_
    simp only [Act.put, List.setIfInBounds_toArray, List.set_cons_zero, List.set_cons_succ]
    refine WL.val (by kernel_rfl) (.int .i64 M.k) (by go_simp) ?_
    simp only [Act.put, List.setIfInBounds_toArray, List.set_cons_zero, List.set_cons_succ]
    by_cases h4_2 : M.k = 3
    · skip
      refine WL.val (by kernel_rfl) (.bool false) (by go_simp) ?_
      simp only [Act.put, List.setIfInBounds_toArray, List.set_cons_zero, List.set_cons_succ]
      refine WL.nil ?_
      refine hK9 _ _ ?_
      refine wp_cond_false rfl ?_
      refine wp_skip ?_
      refine hK8 _ _ ?_
      refine wp_seq_k fun K10 hK10 => ?_
      have hvb : IntKind.u64.wrap (M.bk.length : Int) = (M.bk.length : Int) := by rw [IntKind.wrap_u64]; omega
      refine wp_region_list (WL.out ?_)
      refine WL.val (by kernel_rfl) (.int .i64 1) (by go_simp) ?_
      simp only [Act.put, List.setIfInBounds_toArray, List.set_cons_zero, List.set_cons_succ]
      refine WL.val (by kernel_rfl) (.pointer (some ⟨g, 5, none⟩)) (by go_simp) ?_
      simp only [Act.put, List.setIfInBounds_toArray, List.set_cons_zero, List.set_cons_succ]
      refine WL.val (by kernel_rfl) (.slice xa M.bk.length xk) (by go_simp) ?_
      simp only [Act.put, List.setIfInBounds_toArray, List.set_cons_zero, List.set_cons_succ]
      refine WL.val (by kernel_rfl) (.int .i64 (M.bk.length : Int)) (by go_simp) ?_
      simp only [Act.put, List.setIfInBounds_toArray, List.set_cons_zero, List.set_cons_succ]
      refine WL.val (by kernel_rfl) (.int .u64 (M.bk.length : Int)) (by go_simp) ?_
      simp only [Act.put, List.setIfInBounds_toArray, List.set_cons_zero, List.set_cons_succ]
      obtain ⟨s4, hs4⟩ : ∃ s4 : Nat, s4 = (numL M.bk.length).length := ⟨_, rfl⟩
      have hn4 : s4 ≤ 10 := by have := numL_len M.bk.length; omega
      have C4 := Keep.mk (rsize_any M.bk.length w1 (by omega))
      rw [← hs4] at C4
      have HR0 : Keep (szG M.bk (1 + (numL M.bk.length).length) = szG (M.bk.drop 0) (1 + s4)) := ⟨by rw [hs4]; rfl⟩
      clear hs4
      have hv9 : IntKind.i64.wrap (1 + (s4 : Int)) = 1 + (s4 : Int) := by rw [IntKind.wrap_i64]; omega
      refine WL.callF (by kernel_rfl) 50 _ _ rfl Try.in50 #[.int .u64 (M.bk.length : Int)] (by simp [Act.eval]) ?_
      refine (C4.out).mono ?_
      rintro e w0 ⟨rfl, hw0⟩
      rw [hw0]
      clear hw0 w0
      refine ⟨_, rfl, ?_⟩
      simp only [Act.put, List.setIfInBounds_toArray, List.set_cons_zero, List.set_cons_succ]
      refine WL.val (by kernel_rfl) (.int .i64 (1 + (s4 : Int))) (by go_simp) ?_
      simp only [Act.put, List.setIfInBounds_toArray, List.set_cons_zero, List.set_cons_succ]
      refine WL.val (by kernel_rfl) (.int .i64 (1 + (s4 : Int))) (by go_simp) ?_
      simp only [Act.put, List.setIfInBounds_toArray, List.set_cons_zero, List.set_cons_succ]
      refine WL.nil ?_
      refine hK10 _ _ ?_
      refine wp_seq_k fun K11 hK11 => ?_
      refine wp_seq_k fun K12 hK12 => ?_
      refine wp_region_list (WL.out ?_)
      refine WL.val (by kernel_rfl) (.int .i64 0) (by go_simp) ?_
      simp only [Act.put, List.setIfInBounds_toArray, List.set_cons_zero, List.set_cons_succ]
      refine WL.nil ?_
      refine hK12 _ _ ?_
      refine wp_block ?_
      refine wp_loop (fun ac wr => ∃ (t : Nat) (u53 u54 u55 u56 u57 u58 u59 u60 u61 u62 u63 u64 u65 u66 u67 u68 u69 u70 u71 u72 u73 u74 u75 u76 u77 u78 u79 u80 : Value) (n : Nat), ac = { tmps := #[.agg (msA c), .pointer (some ⟨g, 0, none⟩), .int .i64 0, .int .i64 (n : Int), .int .i64 (t : Int), .pointer (some ⟨g, 0, none⟩), .int .i64 M.k, .bool false, undef, undef, undef, undef, undef, undef, undef, undef, undef, undef, undef, undef, undef, undef, undef, undef, undef, undef, undef, undef, undef, undef, undef, .pointer (some ⟨g, 0, none⟩), .int .i64 M.k, .bool false, undef, undef, undef, undef, undef, undef, undef, undef, undef, undef, undef, undef, .int .i64 1, .pointer (some ⟨g, 5, none⟩), .slice xa M.bk.length xk, .int .i64 (M.bk.length : Int), .int .u64 (M.bk.length : Int), .int .i64 (s4 : Int), .int .i64 (1 + (s4 : Int)), u53, u54, u55, u56, u57, u58, u59, u60, u61, u62, u63, u64, u65, u66, u67, u68, u69, u70, u71, u72, u73, u74, u75, u76, u77, u78, u79, u80, undef], defers := [] } ∧ t ≤ M.bk.length ∧ n ≤ 1 + 10 + t * 1048586 ∧ Keep (szG M.bk (1 + (numL M.bk.length).length) = szG (M.bk.drop t) n) ∧ ∃ kn, wr = w1.drewN kn) (fun a _ => M.bk.length - (intOf (a.tmps.getD 4 undef)).toNat) ⟨0, undef, undef, undef, undef, undef, undef, undef, undef, undef, undef, undef, undef, undef, undef, undef, undef, undef, undef, undef, undef, undef, undef, undef, undef, undef, undef, undef, undef, 1 + s4, by push_cast; rfl, by omega, by omega, HR0, 0, rfl⟩ ?_
      rintro ac wr ⟨t, u53, u54, u55, u56, u57, u58, u59, u60, u61, u62, u63, u64, u65, u66, u67, u68, u69, u70, u71, u72, u73, u74, u75, u76, u77, u78, u79, u80, n, rfl, ht, hn, hC, hW⟩
      by_cases hlt : t < M.bk.length
      · have hlt' : (t : Int) < (M.bk.length : Int) := by omega
        by_cases hmx : n ≤ 2097152
        · have hmx' : (n : Int) ≤ 2097152 := by omega
          have hwt1 : IntKind.i64.wrap ((t : Int) + 1) = (t : Int) + 1 := by rw [IntKind.wrap_i64]; omega
          obtain ⟨qb, ob, ya, yc, hxa, _, hcl, _⟩ := RwsAt.at (by have h := HA1.out.bk; rw [E5.out] at h; exact h) t hlt
          subst hxa
          obtain ⟨r, hr⟩ : ∃ r, r = M.bk.getD t [] := ⟨_, rfl⟩
          rw [← hr] at hcl
          have hrl : r.length ≤ 1048576 := by rw [hr]; exact ((okR_iff _).1 Hok.out t hlt).2
          have HC2 : Keep (szG M.bk (1 + (numL M.bk.length).length) = szG (M.bk.drop (t + 1)) (n + ((numL r.length).length + r.length))) := ⟨by rw [hC.out, List.drop_eq_getElem_cons hlt, szG, if_pos hmx, hr, List.getD_eq_getElem?_getD, List.getElem?_eq_getElem hlt]; simp [bform]⟩
          have hn5 := numL_len r.length
          obtain ⟨s5, hs5⟩ : ∃ s5 : Nat, s5 = (numL r.length).length := ⟨_, rfl⟩
          obtain ⟨kn, hkn⟩ : ∃ kn, wr = w1.drewN kn := hW
          have C5 := Keep.mk (rsize_any r.length wr.drew (by omega))
          rw [← hs5] at C5 HC2 hn5
          have HSa : Keep (wr.drew.cell? ⟨g, 5, none⟩ = some (.slice (some ⟨qb, ob, none⟩) M.bk.length xk) ∧ wr.drew.cell? ⟨qb, ob + t, none⟩ = some (.slice ya r.length yc)) := ⟨by rw [hkn]; exact ⟨d5, hcl⟩⟩
          clear hs5 hr hcl
          have hv0 : IntKind.u64.wrap ((r.length : Int)) = (r.length : Int) := by rw [IntKind.wrap_u64]; omega
          have hv1 : IntKind.i64.wrap ((s5 : Int) + (r.length : Int)) = (s5 : Int) + (r.length : Int) := by rw [IntKind.wrap_i64]; omega
          have hv2 : IntKind.i64.wrap ((n : Int) + ((s5 : Int) + (r.length : Int))) = (n : Int) + ((s5 : Int) + (r.length : Int)) := by rw [IntKind.wrap_i64]; omega
          refine wp_seq_k fun K13 hK13 => ?_
          refine wp_seq_k fun K14 hK14 => ?_
          have d5r : wr.cell? ⟨g, 5, none⟩ = some (.slice (some ⟨qb, ob, none⟩) M.bk.length xk) := HSa.out.1
          refine wp_region_list (WL.out ?_)
          refine WL.val (by kernel_rfl) (.int .i64 (t : Int)) (by go_simp) ?_
          simp only [Act.put, List.setIfInBounds_toArray, List.set_cons_zero, List.set_cons_succ]
          refine WL.val (by kernel_rfl) (.pointer (some ⟨g, 5, none⟩)) (by go_simp) ?_
          simp only [Act.put, List.setIfInBounds_toArray, List.set_cons_zero, List.set_cons_succ]
          refine WL.val (by kernel_rfl) (.slice (some ⟨qb, ob, none⟩) M.bk.length xk) (by go_simp) ?_
          simp only [Act.put, List.setIfInBounds_toArray, List.set_cons_zero, List.set_cons_succ]
          refine WL.val (by kernel_rfl) (.int .i64 (M.bk.length : Int)) (by go_simp) ?_
          simp only [Act.put, List.setIfInBounds_toArray, List.set_cons_zero, List.set_cons_succ]
          refine WL.val (by kernel_rfl) (.bool true) (by go_simp) ?_
          simp only [Act.put, List.setIfInBounds_toArray, List.set_cons_zero, List.set_cons_succ]
          refine WL.val (by kernel_rfl) (.bool true) (by go_simp) ?_
          simp only [Act.put, List.setIfInBounds_toArray, List.set_cons_zero, List.set_cons_succ]
          refine WL.val (by kernel_rfl) (.int .i64 (n : Int)) (by go_simp) ?_
          simp only [Act.put, List.setIfInBounds_toArray, List.set_cons_zero, List.set_cons_succ]
          refine WL.val (by kernel_rfl) (.bool true) (by go_simp) ?_
          simp only [Act.put, List.setIfInBounds_toArray, List.set_cons_zero, List.set_cons_succ]
          refine WL.val (by kernel_rfl) (.bool true) (by go_simp) ?_
          simp only [Act.put, List.setIfInBounds_toArray, List.set_cons_zero, List.set_cons_succ]
          refine WL.nil ?_
          refine hK14 _ _ ?_
          refine wp_cond_true rfl ?_
          refine wp_skip ?_
          refine hK13 _ _ ?_
          refine wp_seq_k fun K15 hK15 => ?_
          refine wp_block ?_
          refine wp_region_held_drew (S := fun wx => wx.cell? ⟨g, 5, none⟩ = some (.slice (some ⟨qb, ob, none⟩) M.bk.length xk) ∧ wx.cell? ⟨qb, ob + t, none⟩ = some (.slice ya r.length yc)) (by kernel_rfl) (HSa.out) (fun hHeld => ?_)
          refine wpAnyH_take (i := 0) (oi := ⟨some 64, Op.move (Operand.tmp 3), 3, _, _, none⟩) (v := .int .i64 (n : Int)) rfl (by kernel_rfl) (by kernel_rfl) (by kernel_rfl) (fun _ _ _ h => h) (Or.inl ⟨by rfl, fun w hS => by obtain ⟨hs1, hs3⟩ := hS; go_simp⟩) hHeld ?_
          simp only [Act.put, List.setIfInBounds_toArray, List.set_cons_zero, List.set_cons_succ]
          refine wpAnyH_take (i := 1) (oi := ⟨some 65, Op.fieldAddr 28 (Operand.tmp 1) 5, 0, _, _, none⟩) (v := .pointer (some ⟨g, 5, none⟩)) rfl (by kernel_rfl) (by kernel_rfl) (by kernel_rfl) (fun _ _ _ h => h) (Or.inl ⟨by rfl, fun w hS => by obtain ⟨hs1, hs3⟩ := hS; go_simp⟩) hHeld ?_
          simp only [Act.put, List.setIfInBounds_toArray, List.set_cons_zero, List.set_cons_succ]
          refine wpAnyH_take (i := 2) (oi := ⟨some 66, Op.load 26 (Operand.tmp 65), 26, _, _, none⟩) (v := .slice (some ⟨qb, ob, none⟩) M.bk.length xk) rfl (by kernel_rfl) (by kernel_rfl) (by kernel_rfl) (fun _ _ _ h => h) (Or.inl ⟨by rfl, fun w hS => by obtain ⟨hs1, hs3⟩ := hS; go_simp⟩) hHeld ?_
          simp only [Act.put, List.setIfInBounds_toArray, List.set_cons_zero, List.set_cons_succ]
          refine wpAnyH_take (i := 3) (oi := ⟨some 67, Op.move (Operand.tmp 4), 3, _, _, none⟩) (v := .int .i64 (t : Int)) rfl (by kernel_rfl) (by kernel_rfl) (by kernel_rfl) (fun _ _ _ h => h) (Or.inl ⟨by rfl, fun w hS => by obtain ⟨hs1, hs3⟩ := hS; go_simp⟩) hHeld ?_
          simp only [Act.put, List.setIfInBounds_toArray, List.set_cons_zero, List.set_cons_succ]
          refine wpAnyH_take (i := 4) (oi := ⟨some 68, Op.indexAddr 26 (Operand.tmp 66) (Operand.tmp 67), 0, _, _, none⟩) (v := .pointer (some ⟨qb, ob + t, none⟩)) rfl (by kernel_rfl) (by kernel_rfl) (by kernel_rfl) (fun _ _ _ h => h) (Or.inl ⟨by rfl, fun w hS => by obtain ⟨hs1, hs3⟩ := hS; go_simp⟩) hHeld ?_
          simp only [Act.put, List.setIfInBounds_toArray, List.set_cons_zero, List.set_cons_succ]
          refine wpAnyH_take (i := 5) (oi := ⟨some 69, Op.load 25 (Operand.tmp 68), 25, _, _, none⟩) (v := .slice ya r.length yc) rfl (by kernel_rfl) (by kernel_rfl) (by kernel_rfl) (fun _ _ _ h => h) (Or.inl ⟨by rfl, fun w hS => by obtain ⟨hs1, hs3⟩ := hS; go_simp⟩) hHeld ?_
          simp only [Act.put, List.setIfInBounds_toArray, List.set_cons_zero, List.set_cons_succ]
          refine wpAnyH_take (i := 6) (oi := ⟨some 70, Op.call { callee := Callee.builtin Builtin.len, args := #[Operand.tmp 69], argTypes := #[25] }, 3, _, _, none⟩) (v := .int .i64 (r.length : Int)) rfl (by kernel_rfl) (by kernel_rfl) (by kernel_rfl) (fun _ _ _ h => h) (Or.inl ⟨by rfl, fun w hS => by obtain ⟨hs1, hs3⟩ := hS; go_simp⟩) hHeld ?_
          simp only [Act.put, List.setIfInBounds_toArray, List.set_cons_zero, List.set_cons_succ]
          refine wpAnyH_take (i := 7) (oi := ⟨some 71, Op.convert 3 24 (Operand.tmp 70), 24, _, _, none⟩) (v := .int .u64 (r.length : Int)) rfl (by kernel_rfl) (by kernel_rfl) (by kernel_rfl) (fun _ _ _ h => h) (Or.inl ⟨by rfl, fun w hS => by obtain ⟨hs1, hs3⟩ := hS; go_simp⟩) hHeld ?_
          simp only [Act.put, List.setIfInBounds_toArray, List.set_cons_zero, List.set_cons_succ]
          refine wpAnyH_take (i := 9) (oi := ⟨some 73, Op.fieldAddr 28 (Operand.tmp 1) 5, 0, _, _, none⟩) (v := .pointer (some ⟨g, 5, none⟩)) rfl (by kernel_rfl) (by kernel_rfl) (by kernel_rfl) (fun _ _ _ h => h) (Or.inl ⟨by rfl, fun w hS => by obtain ⟨hs1, hs3⟩ := hS; go_simp⟩) hHeld ?_
          simp only [Act.put, List.setIfInBounds_toArray, List.set_cons_zero, List.set_cons_succ]
          refine wpAnyH_take (i := 10) (oi := ⟨some 74, Op.load 26 (Operand.tmp 73), 26, _, _, none⟩) (v := .slice (some ⟨qb, ob, none⟩) M.bk.length xk) rfl (by kernel_rfl) (by kernel_rfl) (by kernel_rfl) (fun _ _ _ h => h) (Or.inl ⟨by rfl, fun w hS => by obtain ⟨hs1, hs3⟩ := hS; go_simp⟩) hHeld ?_
          simp only [Act.put, List.setIfInBounds_toArray, List.set_cons_zero, List.set_cons_succ]
          refine wpAnyH_take (i := 11) (oi := ⟨some 75, Op.move (Operand.tmp 4), 3, _, _, none⟩) (v := .int .i64 (t : Int)) rfl (by kernel_rfl) (by kernel_rfl) (by kernel_rfl) (fun _ _ _ h => h) (Or.inl ⟨by rfl, fun w hS => by obtain ⟨hs1, hs3⟩ := hS; go_simp⟩) hHeld ?_
          simp only [Act.put, List.setIfInBounds_toArray, List.set_cons_zero, List.set_cons_succ]
          refine wpAnyH_take (i := 12) (oi := ⟨some 76, Op.indexAddr 26 (Operand.tmp 74) (Operand.tmp 75), 0, _, _, none⟩) (v := .pointer (some ⟨qb, ob + t, none⟩)) rfl (by kernel_rfl) (by kernel_rfl) (by kernel_rfl) (fun _ _ _ h => h) (Or.inl ⟨by rfl, fun w hS => by obtain ⟨hs1, hs3⟩ := hS; go_simp⟩) hHeld ?_
          simp only [Act.put, List.setIfInBounds_toArray, List.set_cons_zero, List.set_cons_succ]
          refine wpAnyH_take (i := 13) (oi := ⟨some 77, Op.load 25 (Operand.tmp 76), 25, _, _, none⟩) (v := .slice ya r.length yc) rfl (by kernel_rfl) (by kernel_rfl) (by kernel_rfl) (fun _ _ _ h => h) (Or.inl ⟨by rfl, fun w hS => by obtain ⟨hs1, hs3⟩ := hS; go_simp⟩) hHeld ?_
          simp only [Act.put, List.setIfInBounds_toArray, List.set_cons_zero, List.set_cons_succ]
          refine wpAnyH_take (i := 14) (oi := ⟨some 78, Op.call { callee := Callee.builtin Builtin.len, args := #[Operand.tmp 77], argTypes := #[25] }, 3, _, _, none⟩) (v := .int .i64 (r.length : Int)) rfl (by kernel_rfl) (by kernel_rfl) (by kernel_rfl) (fun _ _ _ h => h) (Or.inl ⟨by rfl, fun w hS => by obtain ⟨hs1, hs3⟩ := hS; go_simp⟩) hHeld ?_
          simp only [Act.put, List.setIfInBounds_toArray, List.set_cons_zero, List.set_cons_succ]
          refine wpAnyH_ready (rs := [8]) (by kernel_rfl) (by simp) ?_
          refine AllReadyH.cons (o := ⟨some 72, Op.call { callee := Callee.value (Operand.func 50), args := #[Operand.tmp 71], argTypes := #[24] }, 3, _, _, none⟩) rfl (fun K hK => ?_) AllReadyH.nil
          rw [if_pos (by rfl)]
          refine wp_callF 50 _ _ rfl Try.in50 #[.int .u64 (r.length : Int)] (by simp [Act.eval]) (fun v w' => v = .int .i64 (s5 : Int) ∧ w' = wr.drew) (C5.out.mono fun e w' h => ⟨_, h.1, rfl, h.2⟩) ?_
          rintro v w6 ⟨rfl, rfl⟩
          refine hK.out _ _ HSa.out fun hHa => ?_
          clear hK
          simp only [Act.put, List.setIfInBounds_toArray, List.set_cons_zero, List.set_cons_succ]
          refine wpAnyH_take (i := 15) (oi := ⟨some 79, Op.binOp BinOp.add 3 (Operand.tmp 72) (Operand.tmp 78) 3, 3, _, _, none⟩) (v := .int .i64 ((s5 : Int) + (r.length : Int))) rfl (by kernel_rfl) (by kernel_rfl) (by kernel_rfl) (fun _ _ _ h => h) (Or.inl ⟨by rfl, fun w hS => by obtain ⟨hs1, hs3⟩ := hS; go_simp⟩) hHa ?_
          simp only [Act.put, List.setIfInBounds_toArray, List.set_cons_zero, List.set_cons_succ]
          refine wpAnyH_take (i := 16) (oi := ⟨some 80, Op.binOp BinOp.add 3 (Operand.tmp 64) (Operand.tmp 79) 3, 3, _, _, none⟩) (v := .int .i64 ((n : Int) + ((s5 : Int) + (r.length : Int)))) rfl (by kernel_rfl) (by kernel_rfl) (by kernel_rfl) (fun _ _ _ h => h) (Or.inl ⟨by rfl, fun w hS => by obtain ⟨hs1, hs3⟩ := hS; go_simp⟩) hHa ?_
          simp only [Act.put, List.setIfInBounds_toArray, List.set_cons_zero, List.set_cons_succ]
          refine wpAnyH_take (i := 17) (oi := ⟨some 3, Op.assign (Operand.tmp 80), 3, _, _, none⟩) (v := .int .i64 ((n : Int) + ((s5 : Int) + (r.length : Int)))) rfl (by kernel_rfl) (by kernel_rfl) (by kernel_rfl) (fun _ _ _ h => h) (Or.inl ⟨by rfl, fun w hS => by obtain ⟨hs1, hs3⟩ := hS; go_simp⟩) hHa ?_
          simp only [Act.put, List.setIfInBounds_toArray, List.set_cons_zero, List.set_cons_succ]
          refine wpAnyH_done (by kernel_rfl) ?_ _
          refine hK15 _ _ ?_
          refine wp_region_list (WL.out ?_)
          refine WL.val (by kernel_rfl) (.int .i64 (t : Int)) (by go_simp) ?_
          simp only [Act.put, List.setIfInBounds_toArray, List.set_cons_zero, List.set_cons_succ]
          refine WL.val (by kernel_rfl) (.int .i64 ((t : Int) + 1)) (by go_simp) ?_
          simp only [Act.put, List.setIfInBounds_toArray, List.set_cons_zero, List.set_cons_succ]
          refine WL.val (by kernel_rfl) (.int .i64 ((t : Int) + 1)) (by go_simp) ?_
          simp only [Act.put, List.setIfInBounds_toArray, List.set_cons_zero, List.set_cons_succ]
          refine WL.nil ?_
          refine ⟨⟨t + 1, .int .i64 (t : Int), .pointer (some ⟨g, 5, none⟩), .slice (some ⟨qb, ob, none⟩) M.bk.length xk, .int .i64 (M.bk.length : Int), .bool true, .bool true, .int .i64 (n : Int), .bool true, .bool true, .int .i64 (t : Int), .int .i64 ((t : Int) + 1), .int .i64 (n : Int), .pointer (some ⟨g, 5, none⟩), .slice (some ⟨qb, ob, none⟩) M.bk.length xk, .int .i64 (t : Int), .pointer (some ⟨qb, ob + t, none⟩), .slice ya r.length yc, .int .i64 (r.length : Int), .int .u64 (r.length : Int), .int .i64 (s5 : Int), .pointer (some ⟨g, 5, none⟩), .slice (some ⟨qb, ob, none⟩) M.bk.length xk, .int .i64 (t : Int), .pointer (some ⟨qb, ob + t, none⟩), .slice ya r.length yc, .int .i64 (r.length : Int), .int .i64 ((s5 : Int) + (r.length : Int)), .int .i64 ((n : Int) + ((s5 : Int) + (r.length : Int))), n + (s5 + r.length), by push_cast; rfl, by omega, by omega, HC2, ⟨kn + 1, by rw [hkn]; rfl⟩⟩, by simp [intOf]; omega⟩
        · have hmx' : ¬ (n : Int) ≤ 2097152 := by omega
          have HRe : Keep (szG M.bk (1 + (numL M.bk.length).length) = n) := ⟨by rw [hC.out, List.drop_eq_getElem_cons hlt, szG, if_neg hmx]⟩
          obtain ⟨kn, hkn⟩ : ∃ kn, wr = w1.drewN kn := hW
          have d5r : wr.cell? ⟨g, 5, none⟩ = some (.slice xa M.bk.length xk) := by rw [hkn]; exact d5
          refine wp_seq_k fun K16 hK16 => ?_
          refine wp_seq_k fun K17 hK17 => ?_
          refine wp_region_list (WL.out ?_)
          refine WL.val (by kernel_rfl) (.int .i64 (t : Int)) (by go_simp) ?_
          simp only [Act.put, List.setIfInBounds_toArray, List.set_cons_zero, List.set_cons_succ]
          refine WL.val (by kernel_rfl) (.pointer (some ⟨g, 5, none⟩)) (by go_simp) ?_
          simp only [Act.put, List.setIfInBounds_toArray, List.set_cons_zero, List.set_cons_succ]
          refine WL.val (by kernel_rfl) (.slice xa M.bk.length xk) (by go_simp) ?_
          simp only [Act.put, List.setIfInBounds_toArray, List.set_cons_zero, List.set_cons_succ]
          refine WL.val (by kernel_rfl) (.int .i64 (M.bk.length : Int)) (by go_simp) ?_
          simp only [Act.put, List.setIfInBounds_toArray, List.set_cons_zero, List.set_cons_succ]
          refine WL.val (by kernel_rfl) (.bool true) (by go_simp) ?_
          simp only [Act.put, List.setIfInBounds_toArray, List.set_cons_zero, List.set_cons_succ]
          refine WL.val (by kernel_rfl) (.bool true) (by go_simp) ?_
          simp only [Act.put, List.setIfInBounds_toArray, List.set_cons_zero, List.set_cons_succ]
          refine WL.val (by kernel_rfl) (.int .i64 (n : Int)) (by go_simp) ?_
          simp only [Act.put, List.setIfInBounds_toArray, List.set_cons_zero, List.set_cons_succ]
          refine WL.val (by kernel_rfl) (.bool false) (by go_simp) ?_
          simp only [Act.put, List.setIfInBounds_toArray, List.set_cons_zero, List.set_cons_succ]
          refine WL.val (by kernel_rfl) (.bool false) (by go_simp) ?_
          simp only [Act.put, List.setIfInBounds_toArray, List.set_cons_zero, List.set_cons_succ]
          refine WL.nil ?_
          refine hK17 _ _ ?_
          refine wp_cond_false rfl ?_
          refine wp_exit ?_
          refine hK11 _ _ ?_
          refine wp_seq_k fun K18 hK18 => ?_
          refine wp_region_list (WL.out ?_)
          refine WL.val (by kernel_rfl) (.int .i64 (n : Int)) (by go_simp) ?_
          simp only [Act.put, List.setIfInBounds_toArray, List.set_cons_zero, List.set_cons_succ]
          refine WL.val (by kernel_rfl) (.int .i64 (n : Int)) (by go_simp) ?_
          simp only [Act.put, List.setIfInBounds_toArray, List.set_cons_zero, List.set_cons_succ]
          refine WL.nil ?_
          refine hK18 _ _ ?_
          refine wp_ret ?_
          go_ret
          exact ⟨n, rfl, fun _ => HRe.out.symm, fun h => absurd h4_2 h, by rw [hkn]; exact B1.out.trans ((below_drewN w1 kn).mono B1.out.size)⟩
      · have htl' : ¬ (t : Int) < (M.bk.length : Int) := by omega
        have HRe : Keep (szG M.bk (1 + (numL M.bk.length).length) = n) := ⟨by rw [hC.out, List.drop_of_length_le (by omega), szG]⟩
        obtain ⟨kn, hkn⟩ : ∃ kn, wr = w1.drewN kn := hW
        have d5r : wr.cell? ⟨g, 5, none⟩ = some (.slice xa M.bk.length xk) := by rw [hkn]; exact d5
        refine wp_seq_k fun K19 hK19 => ?_
        refine wp_seq_k fun K20 hK20 => ?_
        refine wp_region_list (WL.out ?_)
        refine WL.val (by kernel_rfl) (.int .i64 (t : Int)) (by go_simp) ?_
        simp only [Act.put, List.setIfInBounds_toArray, List.set_cons_zero, List.set_cons_succ]
        refine WL.val (by kernel_rfl) (.pointer (some ⟨g, 5, none⟩)) (by go_simp) ?_
        simp only [Act.put, List.setIfInBounds_toArray, List.set_cons_zero, List.set_cons_succ]
        refine WL.val (by kernel_rfl) (.slice xa M.bk.length xk) (by go_simp) ?_
        simp only [Act.put, List.setIfInBounds_toArray, List.set_cons_zero, List.set_cons_succ]
        refine WL.val (by kernel_rfl) (.int .i64 (M.bk.length : Int)) (by go_simp) ?_
        simp only [Act.put, List.setIfInBounds_toArray, List.set_cons_zero, List.set_cons_succ]
        refine WL.val (by kernel_rfl) (.bool false) (by go_simp) ?_
        simp only [Act.put, List.setIfInBounds_toArray, List.set_cons_zero, List.set_cons_succ]
        refine WL.val (by kernel_rfl) (.bool false) (by go_simp) ?_
        simp only [Act.put, List.setIfInBounds_toArray, List.set_cons_zero, List.set_cons_succ]
        refine WL.skip (by kernel_rfl) ?_
        simp only [Act.put, List.setIfInBounds_toArray, List.set_cons_zero, List.set_cons_succ]
        refine WL.skip (by kernel_rfl) ?_
        simp only [Act.put, List.setIfInBounds_toArray, List.set_cons_zero, List.set_cons_succ]
        refine WL.val (by kernel_rfl) (.bool false) (by go_simp) ?_
        simp only [Act.put, List.setIfInBounds_toArray, List.set_cons_zero, List.set_cons_succ]
        refine WL.nil ?_
        refine hK20 _ _ ?_
        refine wp_cond_false rfl ?_
        refine wp_exit ?_
        refine hK11 _ _ ?_
        refine wp_seq_k fun K21 hK21 => ?_
        refine wp_region_list (WL.out ?_)
        refine WL.val (by kernel_rfl) (.int .i64 (n : Int)) (by go_simp) ?_
        simp only [Act.put, List.setIfInBounds_toArray, List.set_cons_zero, List.set_cons_succ]
        refine WL.val (by kernel_rfl) (.int .i64 (n : Int)) (by go_simp) ?_
        simp only [Act.put, List.setIfInBounds_toArray, List.set_cons_zero, List.set_cons_succ]
        refine WL.nil ?_
        refine hK21 _ _ ?_
        refine wp_ret ?_
        go_ret
        exact ⟨n, rfl, fun _ => HRe.out.symm, fun h => absurd h4_2 h, by rw [hkn]; exact B1.out.trans ((below_drewN w1 kn).mono B1.out.size)⟩
    · skip
      refine WL.val (by kernel_rfl) (.bool true) (by go_simp) ?_
      simp only [Act.put, List.setIfInBounds_toArray, List.set_cons_zero, List.set_cons_succ]
      refine WL.nil ?_
      refine hK9 _ _ ?_
      refine wp_cond_true rfl ?_
      refine wp_seq_k fun K22 hK22 => ?_
      obtain ⟨n0, hn0⟩ : ∃ n0 : Int, n0 = 1 := ⟨_, rfl⟩
      have hnr : 0 ≤ n0 ∧ n0 ≤ 150000 := by
        try have hb8 := Hbl.out h2_2
        omega
      rw [← hn0]
      clear hn0
      obtain ⟨s3, hs3⟩ : ∃ s3 : Int, s3 = ((numL M.wt.length).length : Int) := ⟨_, rfl⟩
      have hn3 : 0 ≤ s3 ∧ s3 ≤ 10 := by have := numL_len M.wt.length; omega
      have C3 := Keep.mk (rsize_any M.wt.length w1.drew (by omega))
      rw [← hs3] at C3
      have hwt := Hwt.out
      clear hs3
      have hv0 : IntKind.u64.wrap ((M.wt.length : Int)) = (M.wt.length : Int) := by rw [IntKind.wrap_u64]; omega
      have hv1 : IntKind.i64.wrap (32 * (M.wt.length : Int)) = 32 * (M.wt.length : Int) := by rw [IntKind.wrap_i64]; omega
      have hv2 : IntKind.i64.wrap (n0 + s3) = n0 + s3 := by rw [IntKind.wrap_i64]; omega
      have hv3 : IntKind.i64.wrap (n0 + s3 + 32 * (M.wt.length : Int)) = n0 + s3 + 32 * (M.wt.length : Int) := by rw [IntKind.wrap_i64]; omega
      have hS5 : w1.drew.cell? ⟨g, 4, none⟩ = some (.slice wa M.wt.length wk) := d4
      refine wp_region_held_drew (S := fun wx => wx.cell? ⟨g, 4, none⟩ = some (.slice wa M.wt.length wk)) (by kernel_rfl) (hS5) (fun hHeld => ?_)
      refine wpAnyH_take (i := 0) (oi := ⟨some 34, Op.move (Operand.tmp 3), 3, _, _, none⟩) (v := .int .i64 n0) rfl (by kernel_rfl) (by kernel_rfl) (by kernel_rfl) (fun _ _ _ h => h) (Or.inl ⟨by rfl, fun w hS => by go_simp⟩) hHeld ?_
      simp only [Act.put, List.setIfInBounds_toArray, List.set_cons_zero, List.set_cons_succ]
      refine wpAnyH_take (i := 1) (oi := ⟨some 35, Op.fieldAddr 28 (Operand.tmp 1) 4, 0, _, _, none⟩) (v := .pointer (some ⟨g, 4, none⟩)) rfl (by kernel_rfl) (by kernel_rfl) (by kernel_rfl) (fun _ _ _ h => h) (Or.inl ⟨by rfl, fun w hS => by go_simp⟩) hHeld ?_
      simp only [Act.put, List.setIfInBounds_toArray, List.set_cons_zero, List.set_cons_succ]
      refine wpAnyH_take (i := 2) (oi := ⟨some 36, Op.load 23 (Operand.tmp 35), 23, _, _, none⟩) (v := .slice wa M.wt.length wk) rfl (by kernel_rfl) (by kernel_rfl) (by kernel_rfl) (fun _ _ _ h => h) (Or.inl ⟨by rfl, fun w hS => by go_simp⟩) hHeld ?_
      simp only [Act.put, List.setIfInBounds_toArray, List.set_cons_zero, List.set_cons_succ]
      refine wpAnyH_take (i := 3) (oi := ⟨some 37, Op.call { callee := Callee.builtin Builtin.len, args := #[Operand.tmp 36], argTypes := #[23] }, 3, _, _, none⟩) (v := .int .i64 (M.wt.length : Int)) rfl (by kernel_rfl) (by kernel_rfl) (by kernel_rfl) (fun _ _ _ h => h) (Or.inl ⟨by rfl, fun w hS => by go_simp⟩) hHeld ?_
      simp only [Act.put, List.setIfInBounds_toArray, List.set_cons_zero, List.set_cons_succ]
      refine wpAnyH_take (i := 4) (oi := ⟨some 38, Op.convert 3 24 (Operand.tmp 37), 24, _, _, none⟩) (v := .int .u64 (M.wt.length : Int)) rfl (by kernel_rfl) (by kernel_rfl) (by kernel_rfl) (fun _ _ _ h => h) (Or.inl ⟨by rfl, fun w hS => by go_simp⟩) hHeld ?_
      simp only [Act.put, List.setIfInBounds_toArray, List.set_cons_zero, List.set_cons_succ]
      refine wpAnyH_take (i := 7) (oi := ⟨some 41, Op.fieldAddr 28 (Operand.tmp 1) 4, 0, _, _, none⟩) (v := .pointer (some ⟨g, 4, none⟩)) rfl (by kernel_rfl) (by kernel_rfl) (by kernel_rfl) (fun _ _ _ h => h) (Or.inl ⟨by rfl, fun w hS => by go_simp⟩) hHeld ?_
      simp only [Act.put, List.setIfInBounds_toArray, List.set_cons_zero, List.set_cons_succ]
      refine wpAnyH_take (i := 8) (oi := ⟨some 42, Op.load 23 (Operand.tmp 41), 23, _, _, none⟩) (v := .slice wa M.wt.length wk) rfl (by kernel_rfl) (by kernel_rfl) (by kernel_rfl) (fun _ _ _ h => h) (Or.inl ⟨by rfl, fun w hS => by go_simp⟩) hHeld ?_
      simp only [Act.put, List.setIfInBounds_toArray, List.set_cons_zero, List.set_cons_succ]
      refine wpAnyH_take (i := 9) (oi := ⟨some 43, Op.call { callee := Callee.builtin Builtin.len, args := #[Operand.tmp 42], argTypes := #[23] }, 3, _, _, none⟩) (v := .int .i64 (M.wt.length : Int)) rfl (by kernel_rfl) (by kernel_rfl) (by kernel_rfl) (fun _ _ _ h => h) (Or.inl ⟨by rfl, fun w hS => by go_simp⟩) hHeld ?_
      simp only [Act.put, List.setIfInBounds_toArray, List.set_cons_zero, List.set_cons_succ]
      refine wpAnyH_take (i := 10) (oi := ⟨some 44, Op.binOp BinOp.mul 3 (Operand.const (Value.int IntKind.i64 32)) (Operand.tmp 43) 3, 3, _, _, none⟩) (v := .int .i64 (32 * (M.wt.length : Int))) rfl (by kernel_rfl) (by kernel_rfl) (by kernel_rfl) (fun _ _ _ h => h) (Or.inl ⟨by rfl, fun w hS => by go_simp⟩) hHeld ?_
      simp only [Act.put, List.setIfInBounds_toArray, List.set_cons_zero, List.set_cons_succ]
      refine wpAnyH_ready (rs := [5]) (by kernel_rfl) (by simp) ?_
      refine AllReadyH.cons (o := ⟨some 39, Op.call { callee := Callee.value (Operand.func 50), args := #[Operand.tmp 38], argTypes := #[24] }, 3, _, _, none⟩) rfl (fun K hK => ?_) AllReadyH.nil
      rw [if_pos (by rfl)]
      refine wp_callF 50 _ _ rfl Try.in50 #[.int .u64 (M.wt.length : Int)] (by simp [Act.eval]) (fun v w' => v = .int .i64 s3 ∧ w' = w1.drew) (C3.out.mono fun e w' h => ⟨_, h.1, rfl, h.2⟩) ?_
      rintro v w6 ⟨rfl, rfl⟩
      refine hK.out _ _ hS5 fun hHa => ?_
      clear hK
      simp only [Act.put, List.setIfInBounds_toArray, List.set_cons_zero, List.set_cons_succ]
      refine wpAnyH_take (i := 6) (oi := ⟨some 40, Op.binOp BinOp.add 3 (Operand.tmp 34) (Operand.tmp 39) 3, 3, _, _, none⟩) (v := .int .i64 (n0 + s3)) rfl (by kernel_rfl) (by kernel_rfl) (by kernel_rfl) (fun _ _ _ h => h) (Or.inl ⟨by rfl, fun w hS => by go_simp⟩) hHa ?_
      simp only [Act.put, List.setIfInBounds_toArray, List.set_cons_zero, List.set_cons_succ]
      refine wpAnyH_take (i := 11) (oi := ⟨some 45, Op.binOp BinOp.add 3 (Operand.tmp 40) (Operand.tmp 44) 3, 3, _, _, none⟩) (v := .int .i64 (n0 + s3 + 32 * (M.wt.length : Int))) rfl (by kernel_rfl) (by kernel_rfl) (by kernel_rfl) (fun _ _ _ h => h) (Or.inl ⟨by rfl, fun w hS => by go_simp⟩) hHa ?_
      simp only [Act.put, List.setIfInBounds_toArray, List.set_cons_zero, List.set_cons_succ]
      refine wpAnyH_take (i := 12) (oi := ⟨some 2, Op.assign (Operand.tmp 45), 3, _, _, none⟩) (v := .int .i64 (n0 + s3 + 32 * (M.wt.length : Int))) rfl (by kernel_rfl) (by kernel_rfl) (by kernel_rfl) (fun _ _ _ h => h) (Or.inl ⟨by rfl, fun w hS => by go_simp⟩) hHa ?_
      simp only [Act.put, List.setIfInBounds_toArray, List.set_cons_zero, List.set_cons_succ]
      refine wpAnyH_done (by kernel_rfl) ?_ _
      refine hK22 _ _ ?_
      refine wp_ret ?_
      go_ret
      exact ⟨(n0 + s3 + 32 * (M.wt.length : Int)).toNat, by rw [Int.toNat_of_nonneg (by omega)]; rfl, fun h => absurd h h4_2, fun _ => by omega, by first | exact B1.out.drew | exact B1.out.drew.drew⟩
end Go.Proofs.Ytlogkojhcccogaa
