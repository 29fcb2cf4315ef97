import Derived.Test.YtdeiicldfgkidaaGreatD07
import Derived.Test.YtdeiicldfgkidaaGreatD01
import Derived.Test.YtdeiicldfgkidaaGreatD03
import Derived.Test.YtdeiicldfgkidaaGreatD06
import Derived.Defers
import Derived.Recover
import Derived.ChangeKeysEq
import Derived.Sort.Grow
import Derived.Deep.Draws
import Derived.Deep.QuietTactic
import Derived.BigQuiet
import Derived.Deep.MidRow
import Derived.Deep.RegionHeld3
namespace Go.Proofs.YtdeiicldfgkidaaGreat
open Go.RowKit
set_option linter.unusedSimpArgs false
set_option linter.unusedVariables false

theorem drop_next {L e r : List Int} {a : Nat} (h : L.drop a = e ++ r) : L.drop (a + e.length) = r := by
 rw [← List.drop_drop, h, List.drop_left]
theorem fst_form (D : List Int) (most : Int) (hB : Byts D) (h : (fstM D most).2.2 = 0) : ∃ x : Nat, x < 18446744073709551616 ∧ (x : Int) ≤ most ∧ (fstM D most).1 = x ∧ (fstM D most).2.1 = ((numL x).length : Int) ∧ ∃ r, D = numL x ++ r := by
 have hle := fstM_le D most hB h
 have h2 : fstM D most = fstG D 0 0 := by
  unfold fstM at h ⊢
  split at h
  ·simp at h
  ·rename_i hn; rw [if_neg hn]
 rw [h2] at h hle ⊢
 obtain ⟨x, h3, h4, h5, r, h6⟩ := fstG_form D _ _ hB (Prod.ext rfl (Prod.ext rfl h))
 exact ⟨x, h4, by rw [← h3]; exact hle.2, h3, h5, r, h6⟩
theorem byt_back (D : List Int) (mm : Int) (hB : Byts D) (h : (byt D mm).1 = 0) : ((byt D mm).2.2.length : Int) ≤ mm ∧ (byt D mm).2.1 = (bform (byt D mm).2.2).length ∧ ∃ r, D = bform (byt D mm).2.2 ++ r := by
 rw [byt_eq] at h ⊢
 by_cases h0 : (fstM D mm).2.2 = 0
 ·rw [if_pos h0] at h ⊢
  obtain ⟨x, h1, h2, h3, h4, r, h5⟩ := fst_form D mm hB h0
  simp only at h ⊢
  rw [h3, h4, Int.toNat_natCast] at h ⊢
  have hd : D.drop (numL x).length = r := by rw [h5, List.drop_left]
  rw [hd] at h ⊢
  have hN := nextN_0 _ _ h
  rw [hN.1, Int.toNat_natCast]
  have hlx : (r.take x).length = x := by rw [List.length_take]; have := hN.2.2; rw [Int.toNat_natCast] at this; omega
  refine ⟨by rw [hlx]; exact h2, by rw [bform, hlx, List.length_append, hlx], r.drop x, ?_⟩
  rw [bform, hlx, List.append_assoc, List.take_append_drop, ← h5]
 ·rw [if_neg h0] at h; exact absurd h h0
theorem zig_zag (x : Nat) : zig (zag (x : Int)) = x := by
 unfold zig zag
 by_cases h : (x : Int) % 2 = 1
 ·rw [if_pos h, if_neg (by omega)]; omega
 ·rw [if_neg h, if_pos (by omega)]; omega
theorem get0_back {L : List Int} {ah : List OpV} {x : OpV} {a : Nat} (hB : Byts L) (h : (getF L ah 0 x a).1 = 0) : ∃ (K : ByteArray) (r : List Int), K.size ≤ 65536 ∧ L.drop a = bform (lst K) ++ r ∧ getF L ah 0 x a = (0, a + (bform (lst K)).length, { x with key := K }) := by
 have h' : (byt (L.drop a) 65536).1 = 0 := h
 obtain ⟨h1, h2, r, h3⟩ := byt_back (L.drop a) 65536 (hB.drop a) h'
 have hby := (byt_l (L.drop a) 65536).2 (hB.drop a)
 refine ⟨strOfNums (byt (L.drop a) 65536).2.2, r, by rw [str_size hby]; omega, by rw [lst_nums hby]; exact h3, ?_⟩
 rw [lst_nums hby, ← h2]
 show ((byt (L.drop a) 65536).1, _, _) = _
 rw [h']
theorem get1_back {L : List Int} {ah : List OpV} {x : OpV} {a : Nat} (hB : Byts L) (h : (getF L ah 1 x a).1 = 0) : ∃ (K : ByteArray) (r : List Int), K.size ≤ 65536 ∧ L.drop a = bform (lst K) ++ r ∧ getF L ah 1 x a = (0, a + (bform (lst K)).length, { x with text := K }) := by
 have h' : (byt (L.drop a) 65536).1 = 0 := h
 obtain ⟨h1, h2, r, h3⟩ := byt_back (L.drop a) 65536 (hB.drop a) h'
 have hby := (byt_l (L.drop a) 65536).2 (hB.drop a)
 refine ⟨strOfNums (byt (L.drop a) 65536).2.2, r, by rw [str_size hby]; omega, by rw [lst_nums hby]; exact h3, ?_⟩
 rw [lst_nums hby, ← h2]
 show ((byt (L.drop a) 65536).1, _, _) = _
 rw [h']
theorem get2_back {L : List Int} {ah : List OpV} {x : OpV} {a : Nat} (hB : Byts L) (h : (getF L ah 2 x a).1 = 0) : ∃ (n : Int) (r : List Int), -9223372036854775808 ≤ n ∧ n ≤ 9223372036854775807 ∧ L.drop a = numL (zig n) ++ r ∧ getF L ah 2 x a = (0, a + (numL (zig n)).length, { x with n := n }) := by
 have h' : (fstM (L.drop a) 18446744073709551615).2.2 = 0 := h
 obtain ⟨m, h1, _, h3, h4, r, h5⟩ := fst_form (L.drop a) 18446744073709551615 (hB.drop a) h'
 refine ⟨zag (m : Int), r, by unfold zag; split <;> omega, by unfold zag; split <;> omega, by rw [zig_zag]; exact h5, ?_⟩
 show ((fstM (L.drop a) 18446744073709551615).2.2, _, _) = _
 rw [zig_zag, h3, h4, h', Int.toNat_natCast]
 simp only [if_true]
theorem get3_back {L : List Int} {ah : List OpV} {x : OpV} {a : Nat} (hB : Byts L) (hn : x.node = z32) (ho : x.op = 0) (h : (getF L ah 3 x a).1 = 0) : ∃ (node : List Int) (op : Int) (r : List Int), node.length = 32 ∧ Byts node ∧ 0 ≤ op ∧ op ≤ 1024 ∧ mayAt ah { x with node := node, op := op } = true ∧ L.drop a = (numL op.toNat ++ (if op = 0 then [] else hl 32 (hof node))) ++ r ∧ getF L ah 3 x a = (0, a + (numL op.toNat ++ (if op = 0 then [] else hl 32 (hof node))).length, { x with node := node, op := op }) := by
 have h' : (getA L ah x a).1 = 0 := h
 show ∃ (node : List Int) (op : Int) (r : List Int), node.length = 32 ∧ Byts node ∧ 0 ≤ op ∧ op ≤ 1024 ∧ mayAt ah { x with node := node, op := op } = true ∧ L.drop a = (numL op.toNat ++ (if op = 0 then [] else hl 32 (hof node))) ++ r ∧ getA L ah x a = _
 unfold getA at h' ⊢
 by_cases h0 : (fstM (L.drop a) 1024).2.2 = 0
 ·obtain ⟨m, h1, h2, h3, h4, r, h5⟩ := fst_form (L.drop a) 1024 (hB.drop a) h0
  rw [if_neg (by simp [h0]), h3, h4, Int.toNat_natCast] at h' ⊢
  have hd := drop_next h5
  by_cases hm : (m : Int) = 0
  ·have hm0 : m = 0 := by omega
   subst hm0
   rw [if_pos hm] at h' ⊢
   cases hy : mayAt ah { x with op := 0 } with
   | false => rw [hy] at h'; simp at h'
   | true =>
    rw [if_pos rfl]
    refine ⟨z32, 0, r, z32_len, z32_byts, by decide, by decide, ?_, by simpa using h5, ?_⟩
    ·rw [← hn]; exact hy
    ·rw [← hn]; simp
  ·rw [if_neg hm] at h' ⊢
   rw [hd] at h' ⊢
   by_cases hw : nextW r 32 = 0
   ·have hN := nextN_0 _ _ hw
    have hlen : (r.take 32).length = 32 := by rw [List.length_take]; have := hN.2.2; omega
    have hr : Byts r := by rw [← hd]; exact hB.drop _
    rw [if_neg (by simp [hw])] at h' ⊢
    cases hy : mayAt ah { x with op := (m : Int), node := r.take 32 } with
    | false => rw [hy] at h'; simp at h'
    | true =>
     rw [if_pos rfl]
     refine ⟨r.take 32, (m : Int), r.drop 32, hlen, hr.take 32, by omega, h2, hy, ?_, ?_⟩
     ·rw [if_neg hm, Int.toNat_natCast, hl_hof _ hlen, List.append_assoc, List.take_append_drop]; exact h5
     ·rw [if_neg hm, Int.toNat_natCast, hl_hof _ hlen, List.length_append, hlen, Nat.add_assoc]
   ·rw [if_pos hw] at h'; exact absurd h' hw
 ·rw [if_pos h0] at h'; exact absurd h' h0
theorem getFs_one {L : List Int} {ah : List OpV} {i : Nat} {is : List Nat} {x : OpV} {a : Nat} (h : (getFs L ah (i :: is) x a).1 = 0) : (getF L ah i x a).1 = 0 ∧ getFs L ah (i :: is) x a = getFs L ah is (getF L ah i x a).2.2 (getF L ah i x a).2.1 := by
 by_cases h0 : (getF L ah i x a).1 = 0
 ·exact ⟨h0, by rw [getFs, if_pos h0]⟩
 ·rw [getFs, if_neg h0] at h; exact absurd h h0
theorem wrongV_is {ah : List OpV} {y : OpV} (h1 : hasI y.kind ≠ []) (h2 : y.key.size ≤ 65536) (h3 : y.text.size ≤ 65536) (h4 : wipes (hasI y.kind) { y with kind := 0 } = zeroOp) (h5 : cellV y.kind = 4 → mayAt ah y = true) : wrongV ah y = 0 := by
 unfold wrongV
 rw [if_neg h1, if_neg (by omega), if_neg (by omega), h4, sm_refl, if_neg (by decide)]
 by_cases h : cellV y.kind = 4
 ·rw [if_pos h, h5 h]; rfl
 ·rw [if_neg h]
theorem ok_of {k n op : Int} {K T : ByteArray} {node : List Int} (hk : k = 1 ∨ k = 2 ∨ k = 3 ∨ k = 4 ∨ k = 5 ∨ k = 6 ∨ k = 7 ∨ k = 8 ∨ k = 9) (h1 : K.size ≤ 65536) (h2 : T.size ≤ 65536) (h3 : -9223372036854775808 ≤ n) (h4 : n ≤ 9223372036854775807) (h5 : node.length = 32) (h6 : Byts node) (h7 : 0 ≤ op) (h8 : op ≤ 1024) : OpOk ⟨k, K, T, n, node, op⟩ :=
 ⟨h5, h6, by show _ ≤ k; omega, by show k ≤ _; omega, h3, h4, by show _ ≤ op; omega, by show op ≤ _; omega, by show K.size ≤ _; omega, by show T.size ≤ _; omega⟩
theorem getO_back {L : List Int} {ah : List OpV} {a : Nat} (hB : Byts L) (h : (getO L ah a).1 = 0) : ∃ (y : OpV) (r : List Int), OpOk y ∧ wrongV ah y = 0 ∧ L.drop a = oneF y ++ r ∧ getO L ah a = (0, a + (oneF y).length, y) := by
 unfold getO at h ⊢
 by_cases h0 : nextW (L.drop a) 1 = 0
 ·rw [if_neg (by simp [h0])] at h ⊢
  obtain ⟨k, D, hD⟩ : ∃ k D, L.drop a = k :: D := by
   cases hd : L.drop a with
   | nil => rw [hd] at h0; exact absurd h0 (by decide)
   | cons k D => exact ⟨k, D, rfl⟩
  have hd : L.drop (a + 1) = D := by rw [← List.drop_drop, hD]; rfl
  rw [hD] at h ⊢
  simp only [List.getD_cons_zero] at h ⊢
  by_cases hk : hasI k = []
  ·rw [if_pos hk] at h; simp at h
  rw [if_neg hk] at h ⊢
  have hkm := hasI_mem hk
  simp only [List.mem_cons, List.not_mem_nil, or_false] at hkm
  -- the shapes
  have s0 : hasI k = [0] → cellV k ≠ 4 → ∃ (y : OpV) (r : List Int), OpOk y ∧ wrongV ah y = 0 ∧ k :: D = oneF y ++ r ∧ getFs L ah (hasI k) { zeroOp with kind := k } (a + 1) = (0, a + (oneF y).length, y) := by
   intro hi hc
   rw [hi] at h ⊢
   obtain ⟨e1, e2⟩ := getFs_one h
   obtain ⟨K, r1, k1, k2, k3⟩ := get0_back hB e1
   rw [e2, k3]
   simp only [getFs]
   refine ⟨⟨k, K, ByteArray.empty, 0, z32, 0⟩, r1, ok_of hkm k1 (by decide) (by decide) (by decide) z32_len z32_byts (by decide) (by decide), wrongV_is hk k1 (by show ByteArray.empty.size ≤ 65536; decide) (by show wipes (hasI k) _ = _; rw [hi]; rfl) (fun e => absurd e hc), ?_, ?_⟩
   ·rw [hd] at k2; rw [k2]; simp [oneF, hi, putF]
   ·simp only [oneF, hi, putF, zeroOp, List.flatMap_cons, List.flatMap_nil, List.append_nil, List.length_cons, Prod.mk.injEq, true_and, if_true, and_true]; omega
  have s01 : hasI k = [0, 1] → cellV k ≠ 4 → ∃ (y : OpV) (r : List Int), OpOk y ∧ wrongV ah y = 0 ∧ k :: D = oneF y ++ r ∧ getFs L ah (hasI k) { zeroOp with kind := k } (a + 1) = (0, a + (oneF y).length, y) := by
   intro hi hc
   rw [hi] at h ⊢
   obtain ⟨e1, e2⟩ := getFs_one h
   obtain ⟨K, r1, k1, k2, k3⟩ := get0_back hB e1
   rw [e2, k3] at h
   rw [e2, k3]
   obtain ⟨e3, e4⟩ := getFs_one h
   obtain ⟨T, r2, t1, t2, t3⟩ := get1_back hB e3
   rw [e4, t3]
   simp only [getFs]
   refine ⟨⟨k, K, T, 0, z32, 0⟩, r2, ok_of hkm k1 t1 (by decide) (by decide) z32_len z32_byts (by decide) (by decide), wrongV_is hk k1 t1 (by show wipes (hasI k) _ = _; rw [hi]; rfl) (fun e => absurd e hc), ?_, ?_⟩
   ·simp only at t2; rw [drop_next k2] at t2; rw [hd, t2] at k2; rw [k2]; simp [oneF, hi, putF]
   ·simp only [oneF, hi, putF, zeroOp, List.flatMap_cons, List.flatMap_nil, List.append_nil, List.length_cons, List.length_append, Prod.mk.injEq, true_and, if_true, and_true, show ¬ (1 : Nat) = 0 by decide, if_false]; omega
  have s02 : hasI k = [0, 2] → cellV k ≠ 4 → ∃ (y : OpV) (r : List Int), OpOk y ∧ wrongV ah y = 0 ∧ k :: D = oneF y ++ r ∧ getFs L ah (hasI k) { zeroOp with kind := k } (a + 1) = (0, a + (oneF y).length, y) := by
   intro hi hc
   rw [hi] at h ⊢
   obtain ⟨e1, e2⟩ := getFs_one h
   obtain ⟨K, r1, k1, k2, k3⟩ := get0_back hB e1
   rw [e2, k3] at h
   rw [e2, k3]
   obtain ⟨e3, e4⟩ := getFs_one h
   obtain ⟨n, r2, n1, n2, t2, t3⟩ := get2_back hB e3
   rw [e4, t3]
   simp only [getFs]
   refine ⟨⟨k, K, ByteArray.empty, n, z32, 0⟩, r2, ok_of hkm k1 (by decide) n1 n2 z32_len z32_byts (by decide) (by decide), wrongV_is hk k1 (by show ByteArray.empty.size ≤ 65536; decide) (by show wipes (hasI k) _ = _; rw [hi]; rfl) (fun e => absurd e hc), ?_, ?_⟩
   ·simp only at t2; rw [drop_next k2] at t2; rw [hd, t2] at k2; rw [k2]; simp [oneF, hi, putF]
   ·simp only [oneF, hi, putF, zeroOp, List.flatMap_cons, List.flatMap_nil, List.append_nil, List.length_cons, List.length_append, Prod.mk.injEq, true_and, if_true, and_true, show ¬ (2 : Nat) = 0 by decide, show ¬ (2 : Nat) = 1 by decide, if_false]; omega
  have s03 : hasI k = [0, 3] → ∃ (y : OpV) (r : List Int), OpOk y ∧ wrongV ah y = 0 ∧ k :: D = oneF y ++ r ∧ getFs L ah (hasI k) { zeroOp with kind := k } (a + 1) = (0, a + (oneF y).length, y) := by
   intro hi
   rw [hi] at h ⊢
   obtain ⟨e1, e2⟩ := getFs_one h
   obtain ⟨K, r1, k1, k2, k3⟩ := get0_back hB e1
   rw [e2, k3] at h
   rw [e2, k3]
   obtain ⟨e3, e4⟩ := getFs_one h
   obtain ⟨node, op, r2, n1, n2, n3, n4, n5, t2, t3⟩ := get3_back hB rfl rfl e3
   rw [e4, t3]
   simp only [getFs]
   refine ⟨⟨k, K, ByteArray.empty, 0, node, op⟩, r2, ok_of hkm k1 (by decide) (by decide) (by decide) n1 n2 n3 n4, wrongV_is hk k1 (by show ByteArray.empty.size ≤ 65536; decide) (by show wipes (hasI k) _ = _; rw [hi]; rfl) (fun _ => n5), ?_, ?_⟩
   ·simp only at t2; rw [drop_next k2] at t2; rw [hd, t2] at k2; rw [k2]; simp [oneF, hi, putF]
   ·simp only [oneF, hi, putF, zeroOp, List.flatMap_cons, List.flatMap_nil, List.append_nil, List.length_cons, List.length_append, Prod.mk.injEq, true_and, if_true, and_true, show ¬ (3 : Nat) = 0 by decide, show ¬ (3 : Nat) = 1 by decide, show ¬ (3 : Nat) = 2 by decide, if_false]; omega
  have s013 : hasI k = [0, 1, 3] → ∃ (y : OpV) (r : List Int), OpOk y ∧ wrongV ah y = 0 ∧ k :: D = oneF y ++ r ∧ getFs L ah (hasI k) { zeroOp with kind := k } (a + 1) = (0, a + (oneF y).length, y) := by
   intro hi
   rw [hi] at h ⊢
   obtain ⟨e1, e2⟩ := getFs_one h
   obtain ⟨K, r1, k1, k2, k3⟩ := get0_back hB e1
   rw [e2, k3] at h
   rw [e2, k3]
   obtain ⟨e3, e4⟩ := getFs_one h
   obtain ⟨T, r2, t1, t2, t3⟩ := get1_back hB e3
   rw [e4, t3] at h
   rw [e4, t3]
   obtain ⟨e5, e6⟩ := getFs_one h
   obtain ⟨node, op, r3, n1, n2, n3, n4, n5, u2, u3⟩ := get3_back hB rfl rfl e5
   rw [e6, u3]
   simp only [getFs]
   refine ⟨⟨k, K, T, 0, node, op⟩, r3, ok_of hkm k1 t1 (by decide) (by decide) n1 n2 n3 n4, wrongV_is hk k1 t1 (by show wipes (hasI k) _ = _; rw [hi]; rfl) (fun _ => n5), ?_, ?_⟩
   ·simp only at t2 u2; rw [drop_next t2] at u2; rw [drop_next k2] at t2; rw [u2] at t2; rw [hd, t2] at k2; rw [k2]; simp [oneF, hi, putF]
   ·simp only [oneF, hi, putF, zeroOp, List.flatMap_cons, List.flatMap_nil, List.append_nil, List.length_cons, List.length_append, Prod.mk.injEq, true_and, if_true, and_true, show ¬ (1 : Nat) = 0 by decide, show ¬ (3 : Nat) = 0 by decide, show ¬ (3 : Nat) = 1 by decide, show ¬ (3 : Nat) = 2 by decide, if_false]; omega
  rcases hkm with e | e | e | e | e | e | e | e | e
  ·exact s01 (by rw [e]; rfl) (by rw [e]; decide)
  ·exact s0 (by rw [e]; rfl) (by rw [e]; decide)
  ·exact s01 (by rw [e]; rfl) (by rw [e]; decide)
  ·exact s01 (by rw [e]; rfl) (by rw [e]; decide)
  ·exact s0 (by rw [e]; rfl) (by rw [e]; decide)
  ·exact s02 (by rw [e]; rfl) (by rw [e]; decide)
  ·exact s0 (by rw [e]; rfl) (by rw [e]; decide)
  ·exact s013 (by rw [e]; rfl)
  ·exact s03 (by rw [e]; rfl)
 ·rw [if_pos h0] at h; exact absurd h h0
theorem getN_back {L : List Int} (hB : Byts L) : ∀ (n : Nat) (l : List OpV) (a : Nat), (getN L n l a).1 = 0 → ∃ (ys : List OpV) (r : List Int), ys.length = n ∧ (∀ y ∈ ys, OpOk y) ∧ (chkF l ys).1 = 0 ∧ L.drop a = ys.flatMap oneF ++ r ∧ getN L n l a = (0, a + (ys.flatMap oneF).length, l ++ ys)
 | 0, l, a, _ => ⟨[], L.drop a, rfl, by simp, rfl, by simp, by simp [getN]⟩
 | n + 1, l, a, h => by
  rw [getN] at h ⊢
  by_cases h0 : (getO L l a).1 = 0
  ·rw [if_pos h0] at h ⊢
   obtain ⟨y, r1, h1, h2, h3, h4⟩ := getO_back hB h0
   rw [h4] at h ⊢
   simp only at h ⊢
   obtain ⟨ys, r, h5, h6, h7, h8, h9⟩ := getN_back hB n _ _ h
   refine ⟨y :: ys, r, by simp [h5], fun z hz => ?_, by rw [chkF, if_pos h2]; exact h7, ?_, ?_⟩
   ·rcases List.mem_cons.1 hz with rfl | hz
    ·exact h1
    ·exact h6 z hz
   ·rw [h3, ← drop_next h3, h8, List.flatMap_cons, List.append_assoc]
   ·rw [h9]; simp only [List.flatMap_cons, List.length_append, List.append_assoc, List.cons_append, List.nil_append, Prod.mk.injEq, true_and, and_true]; omega
  ·rw [if_neg h0] at h; exact absurd h h0
theorem getL_back {L : List Int} {a : Nat} (hB : Byts L) (h : (getL L a).1 = 0) : ∃ (l : List OpV) (r : List Int), (∀ y ∈ l, OpOk y) ∧ (chk l).1 = 0 ∧ L.drop a = formL l ++ r ∧ getL L a = (0, a + (formL l).length, l) := by
 unfold getL at h ⊢
 by_cases h0 : (fstM (L.drop a) 1024).2.2 = 0
 ·obtain ⟨m, h1, h2, h3, h4, r, h5⟩ := fst_form (L.drop a) 1024 (hB.drop a) h0
  rw [if_neg (by simp [h0]), h3, h4, Int.toNat_natCast, Int.toNat_natCast] at h ⊢
  obtain ⟨ys, r2, h6, h7, h8, h9, h10⟩ := getN_back hB m [] _ h
  refine ⟨ys, r2, h7, by unfold chk; rw [if_neg (by omega)]; exact h8, ?_, ?_⟩
  ·rw [drop_next h5] at h9; rw [h5, h9, formL, h6, List.append_assoc]
  ·rw [h10, formL, h6, List.length_append, List.nil_append, Nat.add_assoc]
 ·rw [if_pos h0] at h; exact absurd h h0
section
variable {P : Program} {ops : Array Oper} {rest : List Oper} {o : Oper} {a : Act} {w : World} {Q : Exit → Act → World → Prop}
theorem WL.callP (hw : Region.wanted o (yielded ops a.tmps) = true) (f : FuncId) (args : Array Operand) (ts : Array TypeId) (ho : o.op = .call { callee := .value (.func f), args := args, argTypes := ts })
  (hf : ∀ (w : World) (vs : Array Value), (callFunc f vs).run P w = .ok (.enter f vs) w) (vs : Array Value) (hvs : args.map a.eval = vs)
  (hc : Calls P f vs w fun e w' => (∃ v, e = .returned v ∧ WL P ops Q rest (a.put o.dst v) w') ∨ (∃ ch, e = .panicked ch ∧ Q (.panic ch) a w')) : WL P ops Q (o :: rest) a w :=
 ⟨wpList_wanted hw fun K hK => by
  unfold Oper.wp
  rw [run_callF a o f args ts ho hf w, Oper.upon_enter, hvs]
  refine hc.mono ?_
  rintro e w' (⟨v, rfl, hr⟩ | ⟨ch, rfl, hr⟩)
  ·exact hK _ _ hr.out
  ·exact hr⟩
theorem WL.panic (hw : Region.wanted o (yielded ops a.tmps) = true) (x : Operand) (ho : o.op = .panic x) (t : TypeId) (v : Value) (hx : a.eval x = .iface t v)
  (h : Q (.panic [{ v := .iface t v, recovered := false }]) a w) : WL P ops Q (o :: rest) a w :=
 ⟨wpList_wanted hw fun K hK => by
  unfold Oper.wp execOp
  simp only [ho, hx, Sem.run_bind, run_panic_iface]
  exact h⟩
end
def wr (q : Nat) : PanicEntry := { v := .iface 100 (.agg #[err q]), recovered := false }
theorem Tryz.in55 (w : World) (vs : Array Value) : (callFunc 55 vs).run Tryz.prog w = .ok (.enter 55 vs) w := by kernel_rfl
theorem Tryz.in50 (w : World) (vs : Array Value) : (callFunc 50 vs).run Tryz.prog w = .ok (.enter 50 vs) w := by kernel_rfl
theorem Tryz.in47 (w : World) (vs : Array Value) : (callFunc 47 vs).run Tryz.prog w = .ok (.enter 47 vs) w := by kernel_rfl
theorem Tryz.in52 (w : World) (vs : Array Value) : (callFunc 52 vs).run Tryz.prog w = .ok (.enter 52 vs) w := by kernel_rfl
theorem Tryz.in81 (w : World) (vs : Array Value) : (callFunc 81 vs).run Tryz.prog w = .ok (.enter 81 vs) w := by kernel_rfl
theorem Tryz.in85 (w : World) (vs : Array Value) : (callFunc 85 vs).run Tryz.prog w = .ok (.enter 85 vs) w := by kernel_rfl
theorem Tryz.in77 (w : World) (vs : Array Value) : (callFunc 77 vs).run Tryz.prog w = .ok (.enter 77 vs) w := by kernel_rfl
theorem Tryz.in49 (w : World) (vs : Array Value) : (callFunc 49 vs).run Tryz.prog w = .ok (.enter 49 vs) w := by kernel_rfl
theorem wr_built (q : Nat) : Tryz.prog.built 100 [(0, .iface 69 (ptr q))] = some #[.iface 69 (ptr q)] := by kernel_rfl
theorem giveUp_any (q : Nat) (w : World) : Calls Tryz.prog 55 #[err q] w fun e w' => e = .panicked [wr q] ∧ w' = w := by
 unfold wr err
 go_enter Tryz.func55, Tryz.ntmps55
 refine rgn ?_
 refine VlS (.iface 69 (ptr q)) ?_
 refine WL.bld (by kernel_rfl) 100 _ rfl [(0, .iface 69 (ptr q))] (by simp [Act.eval]) _ (wr_built _) ?_
 simp only [Act.put, pqA, pqB, pqC]
 refine VlS (.iface 100 (.agg #[.iface 69 (ptr q)])) ?_
 refine WL.panic (by kernel_rfl) (.tmp 4) rfl 100 _ rfl ?_
 exact ⟨rfl, rfl, rfl⟩
theorem bad_built (why : Int) (a : Nat) : Tryz.prog.built 71 [(0, .int .i64 why), (1, .int .i64 (a : Int))] = some #[.int .i64 why, .int .i64 (a : Int)] := by kernel_rfl
theorem at_any (why : Int) (a : Nat) (w : World) : Calls Tryz.prog 50 #[.int .i64 why, .int .i64 (a : Int)] w fun e w' => e = .panicked [wr w.heap.size] ∧ BadAt w' w.heap.size why a ∧ Below w.heap.size w w' := by
 go_enter Tryz.func50, Tryz.ntmps50
 refine rgn ?_
 refine VlS (.int .i64 why) ?_
 refine VlS (.int .i64 (a : Int)) ?_
 refine WL.bld (by kernel_rfl) 71 _ rfl [(0, .int .i64 why), (1, .int .i64 (a : Int))] (by simp [Act.eval]) _ (bad_built why a) ?_
 simp only [Act.put, pqA, pqB, pqC]
 refine WL.box (by kernel_rfl) 71 (.tmp 6) rfl _ rfl ?_
 have HBd : Keep (BadAt (w.alloc (.cells #[.int .i64 why, .int .i64 (a : Int)] 71)) w.heap.size why a) := ⟨Blk.new w 71 _⟩
 have HB : Keep (Below w.heap.size w (w.alloc (.cells #[.int .i64 why, .int .i64 (a : Int)] 71))) := ⟨below_new w _⟩
 generalize w.alloc (.cells #[.int .i64 why, .int .i64 (a : Int)] 71) = w1 at *
 simp only [Act.put, pqA, pqB, pqC]
 refine VlS (.iface 69 (.pointer (some ⟨w.heap.size, 0, none⟩))) ?_
 refine WL.callP (by kernel_rfl) 55 _ _ rfl Tryz.in55 #[err w.heap.size] (by simp [Act.eval, err, ptr]) ?_
 refine (giveUp_any w.heap.size w1).mono ?_
 rintro e w' ⟨rfl, rfl⟩
 refine .inr ⟨_, rfl, ?_⟩
 exact ⟨rfl, rfl, HBd.out, HB.out⟩
theorem must47_ok (x : Value) (w : World) : Calls Tryz.prog 47 #[x, .nilIface] w fun e w' => e = .returned x ∧ w' = w := by
 go_enter Tryz.func47, Tryz.ntmps47
 go_wp2
 go_ret
 exact ⟨rfl, rfl⟩
theorem must47_bad (x : Value) (q : Nat) (w : World) : Calls Tryz.prog 47 #[x, err q] w fun e w' => e = .panicked [wr q] ∧ w' = w := by
 have HG := Keep.mk (giveUp_any q w)
 unfold err at HG ⊢
 go_enter Tryz.func47, Tryz.ntmps47
 go_wp2_with fail
 refine HG.out.mono ?_
 rintro e w' ⟨rfl, rfl⟩
 exact ⟨rfl, rfl, rfl⟩
theorem must52_ok (x : Value) (w : World) : Calls Tryz.prog 52 #[x, .nilIface] w fun e w' => e = .returned x ∧ w' = w := by
 go_enter Tryz.func52, Tryz.ntmps52
 go_wp2
 go_ret
 exact ⟨rfl, rfl⟩
theorem must52_bad (x : Value) (q : Nat) (w : World) : Calls Tryz.prog 52 #[x, err q] w fun e w' => e = .panicked [wr q] ∧ w' = w := by
 have HG := Keep.mk (giveUp_any q w)
 unfold err at HG ⊢
 go_enter Tryz.func52, Tryz.ntmps52
 go_wp2_with fail
 refine HG.out.mono ?_
 rintro e w' ⟨rfl, rfl⟩
 exact ⟨rfl, rfl, rfl⟩
theorem must81_ok (x : Value) (w : World) : Calls Tryz.prog 81 #[x, .nilIface] w fun e w' => e = .returned x ∧ w' = w := by
 go_enter Tryz.func81, Tryz.ntmps81
 go_wp2
 go_ret
 exact ⟨rfl, rfl⟩
theorem must81_bad (x : Value) (q : Nat) (w : World) : Calls Tryz.prog 81 #[x, err q] w fun e w' => e = .panicked [wr q] ∧ w' = w := by
 have HG := Keep.mk (giveUp_any q w)
 unfold err at HG ⊢
 go_enter Tryz.func81, Tryz.ntmps81
 go_wp2_with fail
 refine HG.out.mono ?_
 rintro e w' ⟨rfl, rfl⟩
 exact ⟨rfl, rfl, rfl⟩
theorem mustH_ok (c : Nat → Int) (w : World) : Calls Tryz.prog 85 #[.agg (bytesA 32 c), .nilIface] w fun e w' => e = .returned (.agg (bytesA 32 c)) ∧ Below w.heap.size w w' := by
 go_enter Tryz.func85, Tryz.ntmps85
 refine wp_seq_k fun K1 hK1 => rgn ?_
 refine WL.box (by kernel_rfl) 41 (.tmp 0) rfl _ rfl ?_
 have HX1 := Keep.mk (Blk.new w 41 (bytesA 32 c))
 have B1 := Keep.mk (below_new w (.cells (bytesA 32 c) 41))
 generalize w.alloc (.cells (bytesA 32 c) 41) = w1 at *
 simp only [Act.put, pqA, pqB, pqC]
 refine WL.new (by kernel_rfl) 41 rfl _ Tryz.new41 ?_
 have HX2 := Keep.mk (HX1.out.alloc (.cells (bytesA 32 fun _ => 0) 41))
 have HY2 := Keep.mk (Blk.new w1 41 (bytesA 32 fun _ => 0))
 have B2 : Keep (Below w.heap.size w (w1.alloc (.cells (bytesA 32 fun _ => 0) 41))) := ⟨B1.out.trans ((below_new w1 _).mono B1.out.size)⟩
 have hs : Keep (w.heap.size < w1.heap.size) := ⟨HX1.out.lt⟩
 have hne : Keep (w.heap.size ≠ w1.heap.size) := ⟨by have := hs.out; omega⟩
 generalize w1.alloc (.cells (bytesA 32 fun _ => 0) 41) = w2 at *
 simp only [Act.put, pqA, pqB, pqC]
 refine WL.nil (hK1 _ _ ?_)
 refine wp_seq_k fun K2 hK2 => ?_
 refine wp_seq_k fun K3 hK3 => rgn ?_
 refine VlS (.nilIface) ?_
 refine VlS (.bool false) ?_
 refine WL.nil (hK3 _ _ ?_)
 refine wp_cond_false rfl ?_
 refine wp_skip ?_
 refine hK2 _ _ ?_
 refine wp_seq_k fun K4 hK4 => rgn ?_
 refine WL.row (by kernel_rfl) 41 (.tmp 2) rfl w.heap.size rfl 41 (bytesA 32 c) _ HX2.out Tryz.underlying41 rfl (Tryz.size41B _) ?_
 simp only [Act.put, pqA, pqB, pqC]
 refine WL.storeR (by kernel_rfl) 41 (.tmp 4) (.tmp 9) rfl w1.heap.size (bytesA 32 c) rfl rfl 41 (bytesA 32 fun _ => 0) HY2.out (Tryz.size41B _) (bytesA_sizes _ _ _) (bytesA_one _ _) ?_
 have HY3 := Keep.mk (HY2.out.setRow (bytesA 32 c))
 have B3 : Keep (Below w.heap.size w (w2.setRow w1.heap.size (bytesA 32 c))) := ⟨below_setRow B2.out (by have := hs.out; omega) _⟩
 generalize w2.setRow w1.heap.size (bytesA 32 c) = w3 at *
 simp only [Act.put]
 refine WL.nil (hK4 _ _ ?_)
 refine wp_ret ?_
 refine bodyPost_ret (v := .agg (bytesA 32 c)) (results_cell_row Tryz.results85 _ _ w1.heap.size 41 _ (0, 0) _ rfl HY3.out Tryz.underlying41 rfl (Tryz.size41B _)) rfl ?_
 exact ⟨rfl, B3.out⟩
theorem mustH_bad (c : Nat → Int) (q : Nat) (w : World) : Calls Tryz.prog 85 #[.agg (bytesA 32 c), err q] w fun e w' => e = .panicked [wr q] ∧ Below w.heap.size w w' := by
 unfold err
 go_enter Tryz.func85, Tryz.ntmps85
 refine wp_seq_k fun K1 hK1 => rgn ?_
 refine WL.box (by kernel_rfl) 41 (.tmp 0) rfl _ rfl ?_
 have HX1 := Keep.mk (Blk.new w 41 (bytesA 32 c))
 have B1 := Keep.mk (below_new w (.cells (bytesA 32 c) 41))
 generalize w.alloc (.cells (bytesA 32 c) 41) = w1 at *
 simp only [Act.put, pqA, pqB, pqC]
 refine WL.new (by kernel_rfl) 41 rfl _ Tryz.new41 ?_
 have HX2 := Keep.mk (HX1.out.alloc (.cells (bytesA 32 fun _ => 0) 41))
 have HY2 := Keep.mk (Blk.new w1 41 (bytesA 32 fun _ => 0))
 have B2 : Keep (Below w.heap.size w (w1.alloc (.cells (bytesA 32 fun _ => 0) 41))) := ⟨B1.out.trans ((below_new w1 _).mono B1.out.size)⟩
 have hs : Keep (w.heap.size < w1.heap.size) := ⟨HX1.out.lt⟩
 have hne : Keep (w.heap.size ≠ w1.heap.size) := ⟨by have := hs.out; omega⟩
 generalize w1.alloc (.cells (bytesA 32 fun _ => 0) 41) = w2 at *
 simp only [Act.put, pqA, pqB, pqC]
 refine WL.nil (hK1 _ _ ?_)
 refine wp_seq_k fun K2 hK2 => ?_
 refine wp_seq_k fun K3 hK3 => rgn ?_
 refine VlS (.iface 69 (ptr q)) ?_
 refine VlS (.bool true) ?_
 refine WL.nil (hK3 _ _ ?_)
 refine wp_cond_true rfl ?_
 refine rgn ?_
 refine VlS (.iface 69 (ptr q)) ?_
 refine WL.callP (by kernel_rfl) 55 _ _ rfl Tryz.in55 #[err q] (by simp [Act.eval, err]) ?_
 refine (giveUp_any q w2).mono ?_
 rintro e w' ⟨rfl, rfl⟩
 refine .inr ⟨_, rfl, ?_⟩
 try simp only [Exit.inBlock, Exit.then]
 refine ⟨rfl, ?_⟩
 exact ⟨rfl, B2.out⟩
theorem isAuthor_any (x : Int) (w : World) : Calls Tryz.prog 77 #[.int .i64 x] w fun e w' => e = .returned (.bool (decide (1 ≤ x ∧ x ≤ 8))) ∧ w' = w := by
 go_enter Tryz.func77, Tryz.ntmps77
 refine wp_seq_k fun K1 hK1 => rgn ?_
 refine VlS (.bool false) ?_
 refine WL.nil (hK1 _ _ ?_)
 refine wp_seq_k fun K2 hK2 => rgn ?_
 refine VlS (.int .i64 x) ?_
 by_cases h1_1 : 1 ≤ x
 ·skip
  refine VlS (.bool true) ?_
  refine VlS (.bool true) ?_
  refine VlS (.int .i64 x) ?_
  by_cases h1_4 : x ≤ 8
  ·skip
   refine VlS (.bool true) ?_
   refine VlS (.bool true) ?_
   refine VlS (.bool true) ?_
   refine WL.nil (hK2 _ _ ?_)
   refine wp_ret ?_
   go_ret
   exact ⟨by simp [*], rfl⟩
  ·skip
   refine VlS (.bool false) ?_
   refine VlS (.bool false) ?_
   refine VlS (.bool false) ?_
   refine WL.nil (hK2 _ _ ?_)
   refine wp_ret ?_
   go_ret
   exact ⟨by simp [*], rfl⟩
 ·skip
  refine VlS (.bool false) ?_
  refine VlS (.bool false) ?_
  refine SkS ?_
  refine SkS ?_
  refine VlS (.bool false) ?_
  refine VlS (.bool false) ?_
  refine WL.nil (hK2 _ _ ?_)
  refine wp_ret ?_
  go_ret
  exact ⟨by simp [*], rfl⟩
theorem isAuthor_yes (x : Int) (w : World) (h : 1 ≤ x ∧ x ≤ 8) : Calls Tryz.prog 77 #[.int .i64 x] w fun e w' => e = .returned (.bool true) ∧ w' = w := by
 have := isAuthor_any x w
 rw [decide_eq_true h] at this
 exact this
theorem isAuthor_no (x : Int) (w : World) (h : ¬ (1 ≤ x ∧ x ≤ 8)) : Calls Tryz.prog 77 #[.int .i64 x] w fun e w' => e = .returned (.bool false) ∧ w' = w := by
 have := isAuthor_any x w
 rw [decide_eq_false h] at this
 exact this
theorem clockFits_any (x y : Int) (w : World) : Calls Tryz.prog 49 #[.int .i64 x, .int .i64 y] w fun e w' => e = .returned (.bool ((x == 1) == (y == 0))) ∧ w' = w := by
 go_enter Tryz.func49, Tryz.ntmps49
 refine wp_seq_k fun K1 hK1 => rgn ?_
 refine VlS (.bool false) ?_
 refine WL.nil (hK1 _ _ ?_)
 refine wp_seq_k fun K2 hK2 => rgn ?_
 refine VlS (.int .i64 x) ?_
 refine VlS (.bool (x == 1)) ?_
 refine VlS (.int .i64 y) ?_
 refine VlS (.bool (y == 0)) ?_
 refine VlS (.bool ((x == 1) == (y == 0))) ?_
 refine VlS (.bool ((x == 1) == (y == 0))) ?_
 refine WL.nil (hK2 _ _ ?_)
 refine wp_ret ?_
 go_ret
 exact ⟨rfl, rfl⟩
theorem clockFits_is (x y : Int) (w : World) (b : Bool) (h : ((x == 1) == (y == 0)) = b) : Calls Tryz.prog 49 #[.int .i64 x, .int .i64 y] w fun e w' => e = .returned (.bool b) ∧ w' = w := by
 have := clockFits_any x y w
 rw [h] at this
 exact this
end Go.Proofs.YtdeiicldfgkidaaGreat
namespace Go.Proofs.YtdeiicldfgkidaaGreat.Sh
open Go.RowKit Go.Sort

theorem Tryz.cells5q : Tryz.prog.cellsOf 5 = 1 := by kernel_rfl
theorem Tryz.isAgg5q (w : World) : (isAgg 5).run Tryz.prog w = .ok false w := by kernel_rfl
theorem Tryz.size5q : (Tryz.prog.info? 5).map (·.size) = some 1 := by kernel_rfl
theorem run_part5q (c : Nat → Int) (i : Nat) (hi : i < 32) (w : World) : (part 5 (bytesA 32 c) i).run Tryz.prog w = .ok (.int .u8 (c i)) w := by
 unfold part
 rw [Sem.run_bind, Tryz.isAgg5q]
 simp [Result.andThen, bytesA_get 32 c i hi]
theorem run_items2 (c e : Nat → Int) (d : Nat) (w : World) : ∀ is : List Nat, (∀ i ∈ is, i < 32) → (Op.eqItems (d + 1) 5 1 (bytesA 32 c) (bytesA 32 e) is).run Tryz.prog w = .ok (is.all fun i => c i == e i) w
 | [], _ => by simp [Op.eqItems]
 | i :: is, h => by
  have hi := h i (by simp)
  have ih := run_items2 c e d w is (fun j hj => h j (by simp [hj]))
  simp only [Op.eqItems, Sem.run_bind, Nat.mul_one, run_part5q c i hi, run_part5q e i hi, Result.andThen_ok]
  rw [run_equalIn_int (P := Tryz.prog) (w := w) d 5 .u8 .u8 (c i) (e i) Tryz.underlying5]
  by_cases hh : c i = e i
  ·simp [Result.andThen_ok, ih, hh]
  ·simp [Result.andThen_ok, hh]
theorem run_equal_arr2 (c e : Nat → Int) (w : World) : (Op.equalIn 10000 41 (.agg (bytesA 32 c)) (.agg (bytesA 32 e))).run Tryz.prog w = .ok ((List.range 32).all fun i => c i == e i) w := by
 obtain ⟨i, hi, _⟩ := Option.map_eq_some_iff.1 Tryz.size5q
 rw [run_equalIn_array (P := Tryz.prog) w 9999 _ _ Tryz.underlying41 hi, Tryz.cells5q]
 exact run_items2 c e 9998 w _ (fun j hj => List.mem_range.1 hj)
theorem all_eq_iff (x y : Hs) : ((List.range 32).all fun i => x.f i == y.f i) = decide (x = y) := by
 by_cases h : x = y
 ·subst h; simp
 ·rw [decide_eq_false h, Bool.eq_false_iff]
  intro h2
  refine h (Hs.ext' fun i hi => ?_)
  have := List.all_eq_true.1 h2 i (List.mem_range.2 hi)
  simpa using this
theorem run_eqlH (x y : Hs) (w : World) : (binOp .eql 41 (.agg (bytesA 32 x.f)) (.agg (bytesA 32 y.f))).run Tryz.prog w = .ok (.bool (decide (x = y))) w := by
 rw [run_eql_struct, run_equal_arr2, all_eq_iff]; rfl
theorem run_neqH (x y : Hs) (w : World) : (binOp .neq 41 (.agg (bytesA 32 x.f)) (.agg (bytesA 32 y.f))).run Tryz.prog w = .ok (.bool (!decide (x = y))) w := by
 rw [run_neq_struct, run_equal_arr2, all_eq_iff]; rfl

theorem grown_below (w : World) (q : Nat) (os : Array Obj) : Below w.heap.size w (grow (w.drewN q) os) where
 os := rfl
 tape := rfl
 output := rfl
 size := by simp [grow]
 block i hi := by simp [grow, Array.getElem?_append, hi]

theorem drewN_grown {w w0 : World} (h : ∃ os, w0 = grow w os) (k : Nat) : ∃ q os, w0.drewN k = grow (w.drewN q) os := by
 obtain ⟨os, rfl⟩ := h
 exact ⟨k, os, rfl⟩

set_option maxRecDepth 8000 in
set_option maxHeartbeats 400000 in
theorem cmpByte_any (a b : Int) (w : World) : Calls Tryz.prog 113 #[.int .u8 a, .int .u8 b] w fun e w' => e = .returned (.int .i64 (if a < b then -1 else if b < a then 1 else 0)) ∧ ∃ q, w' = w.drewN q := by
 have h52 : ∀ (z : Int) (w : World), Calls Tryz.prog 138 #[.int .u8 z] w fun e w' => e = .returned (.bool false) ∧ ∃ q, w' = w.drewN q := by
  intro z w
  go_enter Tryz.func138, Tryz.ntmps138
  go_wp2
  first
   | (go_quiet (fail); go_wp2; go_ret; exact ⟨rfl, nq, rfl⟩)
   | (go_ret; exact ⟨rfl, 0, rfl⟩)
 have walk : ∀ r : Int, (a < b ∧ r = -1) ∨ (¬ a < b ∧ b < a ∧ r = 1) ∨ (¬ a < b ∧ ¬ b < a ∧ r = 0) → Calls Tryz.prog 113 #[.int .u8 a, .int .u8 b] w fun e w' => e = .returned (.int .i64 r) ∧ ∃ q, w' = w.drewN q := by
  intro r hr
  have HR : Keep ((a < b ∧ r = -1) ∨ (¬ a < b ∧ b < a ∧ r = 1) ∨ (¬ a < b ∧ ¬ b < a ∧ r = 0)) := ⟨hr⟩
  clear hr
  go_enter Tryz.func113, Tryz.ntmps113
  go_wp2_with fail
  refine (h52 a w).mono ?_
  rintro e w1 ⟨rfl, q1, rfl⟩
  go_wp2_with fail
  refine (h52 b _).mono ?_
  rintro e w2 ⟨rfl, q2, rfl⟩
  rw [World.drewN_drewN]
  rcases HR.out with ⟨h1, rfl⟩ | ⟨h1, h2, rfl⟩ | ⟨h1, h2, rfl⟩
  ·go_wp2
   go_ret
   exact ⟨rfl, _, rfl⟩
  ·go_wp2
   go_ret
   exact ⟨rfl, _, rfl⟩
  ·go_wp2
   go_ret
   exact ⟨rfl, _, rfl⟩
 refine walk _ ?_
 by_cases h1 : a < b
 ·exact .inl ⟨h1, if_pos h1⟩
 ·by_cases h2 : b < a
  ·exact .inr (.inl ⟨h1, h2, by rw [if_neg h1, if_pos h2]⟩)
  ·exact .inr (.inr ⟨h1, h2, by rw [if_neg h1, if_neg h2]⟩)


set_option maxRecDepth 8000 in
set_option maxHeartbeats 400000 in
set_option maxRecDepth 20000 in
theorem compare_walk (A B : Array Value) (x y : Nat → Int) (E : Bool) (w : World) (hA : ∀ t, t < 32 → A[t]? = some (.int .u8 (x t))) (hB : ∀ t, t < 32 → B[t]? = some (.int .u8 (y t))) (hAs : A.size = 32) (hBs : B.size = 32)
  (heq : ∀ w, (binOp .eql 41 (.agg A) (.agg B)).run Tryz.prog w = .ok (.bool E) w) (hE1 : E = true → cmpG x y 32 0 = 0) (hE2 : E = false → ∃ t, t < 32 ∧ x t ≠ y t) :
  Calls Tryz.prog 87 #[.agg A, .agg B] w fun e w' => e = .returned (.int .i64 (cmpG x y 32 0)) ∧ ∃ q os, w' = grow (w.drewN q) os := by
 have HA : Keep (∀ t, t < 32 → A[t]? = some (.int .u8 (x t))) := ⟨hA⟩
 have HB : Keep (∀ t, t < 32 → B[t]? = some (.int .u8 (y t))) := ⟨hB⟩
 obtain ⟨r, hr⟩ : ∃ r, Keep (r = cmpG x y 32 0) := ⟨_, ⟨rfl⟩⟩
 rw [← hr.out] at hE1 ⊢
 have H1 : Keep (E = true → r = 0) := ⟨hE1⟩
 have H2 : Keep (E = false → ∃ t, t < 32 ∧ x t ≠ y t) := ⟨hE2⟩
 have hi1 : (Tryz.prog.info? 41).map (·.size) = some A.size := by rw [hAs]; exact Tryz.size41
 have hi2 : (Tryz.prog.info? 41).map (·.size) = some B.size := by rw [hBs]; exact Tryz.size41
 clear hE1 hE2 hA hB
 have hA1 : (w.alloc (.cells A 41)).heap.size = w.heap.size + 1 := by simp
 have hX : Blk ((w.alloc (.cells A 41)).alloc (.cells B 41)) w.heap.size 41 A := (Blk.new w 41 _).alloc _
 have hY : Blk ((w.alloc (.cells A 41)).alloc (.cells B 41)) (w.heap.size + 1) 41 B := by rw [← hA1]; exact Blk.new _ 41 _
 have hG : (w.alloc (.cells A 41)).alloc (.cells B 41) = grow (w.drewN 0) #[.cells A 41, .cells B 41] := by
  rw [alloc_eq_grow, alloc_eq_grow, grow_grow]; rfl
 have HG : Keep (∃ os, (w.alloc (.cells A 41)).alloc (.cells B 41) = grow w os) := ⟨_, hG⟩
 clear hA1 hG
 go_enter Tryz.func87, Tryz.ntmps87
 go_wp2_with (first | (refine wpList_boxA rfl 41 (.tmp 0) rfl A rfl ?_; refine wpList_boxA rfl 41 (.tmp 1) rfl B rfl ?_) | (refine wpList_load_row rfl 41 (.tmp 2) rfl w.heap.size rfl 41 A (0, 0) (.array 32 5) hX Tryz.underlying41 rfl hi1 ?_; refine wpList_load_row rfl 41 (.tmp 3) rfl (w.heap.size + 1) rfl 41 B (0, 0) (.array 32 5) hY Tryz.underlying41 rfl hi2 ?_))
 ·go_ret
  have := H1.out (by assumption)
  obtain ⟨os, hos⟩ := HG.out
  exact ⟨by rw [this]; rfl, 0, os, by rw [hos]; rfl⟩
 ·have hE : E = false := by first | assumption | (cases E <;> simp_all)
  obtain ⟨d, hd, hne⟩ := H2.out hE
  have HN : Keep (x d ≠ y d) := ⟨hne⟩
  clear hne
  generalize (w.alloc (.cells A 41)).alloc (.cells B 41) = w0 at *
  generalize w.heap.size = p at *
  go_loopw [5] (fun i wr => ∃ t n : Nat, t ≤ d ∧ i = .int .i64 (t : Int) ∧ (∀ k, k < t → x k = y k) ∧ wr = w0.drewN n) (fun i _ => d - (intOf i).toNat)
  case atStart => exact ⟨0, 0, by omega, rfl, fun k hk => by omega, by rw [World.drewN_zero]⟩
  case round =>
   obtain ⟨t, n, ht, rfl, hke, rfl⟩ := hrel
   have HK : Keep (∀ k, k < t → x k = y k) := ⟨hke⟩
   clear hke
   have c1 : (w0.drewN n).cell? ⟨p, t, none⟩ = some (.int .u8 (x t)) := by rw [World.cell?_drewN, hX.cell]; exact HA.out t (by omega)
   have c2 : (w0.drewN n).cell? ⟨p + 1, t, none⟩ = some (.int .u8 (y t)) := by rw [World.cell?_drewN, hY.cell]; exact HB.out t (by omega)
   obtain ⟨a, ha⟩ : ∃ a, Keep (x t = a) := ⟨_, ⟨rfl⟩⟩
   obtain ⟨b, hb⟩ : ∃ b, Keep (y t = b) := ⟨_, ⟨rfl⟩⟩
   rw [ha.out] at c1
   rw [hb.out] at c2
   obtain ⟨wn, hwn⟩ : ∃ wn, Keep (w0.drewN n = wn) := ⟨_, ⟨rfl⟩⟩
   rw [hwn.out] at c1 c2 ⊢
   have ht32 : (t : Int) < 32 := by omega
   go_wp2
   go_quiet (fail)
   by_cases hab : a = b
   ·have htd : t ≠ d := fun e => by subst e; exact HN.out (by rw [ha.out, hb.out, hab])
    go_wp2
    go_roundw
    case rel => exact ⟨t + 1, n + nq, by omega, by go_num, fun k hk => by
     rcases Nat.lt_or_eq_of_le (Nat.le_of_lt_succ hk) with h | h
     ·exact HK.out k h
     ·subst h; rw [ha.out, hb.out, hab], by rw [← hwn.out, World.drewN_drewN]⟩
    case measure => simp [intOf]; omega
   ·have hra : Keep (r = (if a < b then -1 else if b < a then 1 else 0)) := ⟨by
     rw [hr.out, cmpG_at x y t 32 HK.out (by omega) (by rw [ha.out, hb.out]; exact hab), ha.out, hb.out]
     by_cases h1 : a < b
     ·rw [if_pos h1, if_pos h1]
     ·rw [if_neg h1, if_neg h1, if_pos (by omega)]⟩
    have hcb : ∀ w, Calls Tryz.prog 113 #[.int .u8 a, .int .u8 b] w fun e w' => e = .returned (.int .i64 r) ∧ ∃ q, w' = w.drewN q := fun w => by rw [hra.out]; exact cmpByte_any a b w
    have d1 : (wn.drewN nq).cell? ⟨p, t, none⟩ = some (.int .u8 a) := by rw [World.cell?_drewN]; exact c1
    have d2 : (wn.drewN nq).cell? ⟨p + 1, t, none⟩ = some (.int .u8 b) := by rw [World.cell?_drewN]; exact c2
    obtain ⟨wm, hwm⟩ : ∃ wm, Keep (wn.drewN nq = wm) := ⟨_, ⟨rfl⟩⟩
    go_wp2
    rw [hwm.out] at d1 d2 ⊢
    go_quiet (first | (go_at_call 113; refine Calls.quiet_of (hcb _)))
    go_wp2
    go_ret
    refine ⟨rfl, ?_⟩
    rw [← hwm.out, ← hwn.out, World.drewN_drewN, World.drewN_drewN]
    exact drewN_grown HG.out _

theorem compare_any (x y : Hs) (w : World) : Calls Tryz.prog 87 #[.agg (bytesA 32 x.f), .agg (bytesA 32 y.f)] w fun e w' => e = .returned (.int .i64 (cf x y)) ∧ ∃ q os, w' = grow (w.drewN q) os :=
 compare_walk (bytesA 32 x.f) (bytesA 32 y.f) x.f y.f (decide (x = y)) w (fun _ ht => bytesA_get _ _ _ ht) (fun _ ht => bytesA_get _ _ _ ht) (bytesA_size _ _) (bytesA_size _ _) (run_eqlH x y)
  (fun h => (cf_zero x y).2 (of_decide_eq_true h)) (fun h => Classical.byContradiction fun hc => of_decide_eq_false h (Hs.ext' fun i hi => Classical.byContradiction fun hn => hc ⟨i, hi, hn⟩))

set_option maxRecDepth 8000 in
set_option maxHeartbeats 400000 in
set_option maxRecDepth 20000 in
theorem refCompare_walk (A B : Array Value) (x y : Nat → Int) (w : World) (hA : ∀ t, t < 32 → A[t]? = some (.int .u8 (x t))) (hB : ∀ t, t < 32 → B[t]? = some (.int .u8 (y t))) :
  Calls Tryz.prog 60 #[.agg A, .agg B] w fun e w' => e = .returned (.int .i64 (cmpG x y 32 0)) ∧ ∃ q os, w' = grow (w.drewN q) os := by
 have HA : Keep (∀ t, t < 32 → A[t]? = some (.int .u8 (x t))) := ⟨hA⟩
 have HB : Keep (∀ t, t < 32 → B[t]? = some (.int .u8 (y t))) := ⟨hB⟩
 obtain ⟨r, hr⟩ : ∃ r, Keep (r = cmpG x y 32 0) := ⟨_, ⟨rfl⟩⟩
 rw [← hr.out]
 clear hA hB
 have hA1 : (w.alloc (.cells A 41)).heap.size = w.heap.size + 1 := by simp
 have hX : Blk ((w.alloc (.cells A 41)).alloc (.cells B 41)) w.heap.size 41 A := (Blk.new w 41 _).alloc _
 have hY : Blk ((w.alloc (.cells A 41)).alloc (.cells B 41)) (w.heap.size + 1) 41 B := by rw [← hA1]; exact Blk.new _ 41 _
 have hG : (w.alloc (.cells A 41)).alloc (.cells B 41) = grow (w.drewN 0) #[.cells A 41, .cells B 41] := by
  rw [alloc_eq_grow, alloc_eq_grow, grow_grow]; rfl
 have HG : Keep (∃ os, (w.alloc (.cells A 41)).alloc (.cells B 41) = grow w os) := ⟨_, hG⟩
 clear hA1 hG
 go_enter Tryz.func60, Tryz.ntmps60
 go_wp2_with (first | (refine wpList_boxA rfl 41 (.tmp 0) rfl A rfl ?_; refine wpList_boxA rfl 41 (.tmp 1) rfl B rfl ?_))
 generalize (w.alloc (.cells A 41)).alloc (.cells B 41) = w0 at *
 generalize w.heap.size = p at *
 go_loopw [5] (fun i wr => ∃ t n : Nat, t ≤ 32 ∧ i = .int .i64 (t : Int) ∧ (∀ k, k < t → x k = y k) ∧ wr = w0.drewN n) (fun i _ => 32 - (intOf i).toNat)
 case atStart => exact ⟨0, 0, by omega, rfl, fun k hk => by omega, by rw [World.drewN_zero]⟩
 case round =>
  obtain ⟨t, n, ht, rfl, hke, rfl⟩ := hrel
  have HK : Keep (∀ k, k < t → x k = y k) := ⟨hke⟩
  clear hke
  by_cases hlt : t < 32
  ·have c1 : (w0.drewN n).cell? ⟨p, t, none⟩ = some (.int .u8 (x t)) := by rw [World.cell?_drewN, hX.cell]; exact HA.out t (by omega)
   have c2 : (w0.drewN n).cell? ⟨p + 1, t, none⟩ = some (.int .u8 (y t)) := by rw [World.cell?_drewN, hY.cell]; exact HB.out t (by omega)
   obtain ⟨a, ha⟩ : ∃ a, Keep (x t = a) := ⟨_, ⟨rfl⟩⟩
   obtain ⟨b, hb⟩ : ∃ b, Keep (y t = b) := ⟨_, ⟨rfl⟩⟩
   rw [ha.out] at c1
   rw [hb.out] at c2
   obtain ⟨wn, hwn⟩ : ∃ wn, Keep (w0.drewN n = wn) := ⟨_, ⟨rfl⟩⟩
   rw [hwn.out] at c1 c2 ⊢
   have ht32 : (t : Int) < 32 := by omega
   go_wp2
   go_quiet (fail)
   have HR : Keep (a ≠ b → r = if a < b then -1 else 1) := ⟨fun h => by
    rw [hr.out, cmpG_at x y t 32 HK.out (by omega) (by rw [ha.out, hb.out]; exact h), ha.out, hb.out]⟩
   have d1 : (wn.drewN nq).cell? ⟨p, t, none⟩ = some (.int .u8 a) := by rw [World.cell?_drewN]; exact c1
   have d2 : (wn.drewN nq).cell? ⟨p + 1, t, none⟩ = some (.int .u8 b) := by rw [World.cell?_drewN]; exact c2
   obtain ⟨wm, hwm⟩ : ∃ wm, Keep (wn.drewN nq = wm) := ⟨_, ⟨rfl⟩⟩
   have HD : Keep (∃ k, wm = w0.drewN k) := ⟨_, by rw [← hwm.out, ← hwn.out, World.drewN_drewN]⟩
   rw [hwm.out] at d1 d2
   by_cases h1 : a < b
   ·go_wp2
    go_ret
    obtain ⟨os, hos⟩ := HG.out
    refine ⟨by rw [HR.out (by omega), if_pos (by omega)]; rfl, n + nq, os, ?_⟩
    rw [← hwn.out, hos, World.drewN_drewN]
    rfl
   ·go_wp2
    rw [hwm.out]
    go_quiet (fail)
    by_cases h2 : b < a
    ·go_wp2
     go_ret
     obtain ⟨k, hk⟩ := HD.out
     refine ⟨by rw [HR.out (by omega), if_neg (by omega)]; rfl, ?_⟩
     rw [hk, World.drewN_drewN]
     exact drewN_grown HG.out _
    ·have hab : a = b := by omega
     go_wp2
     go_roundw
     case rel =>
      obtain ⟨k, hk⟩ := HD.out
      exact ⟨t + 1, _, by omega, by go_num, fun k hk => by
       rcases Nat.lt_or_eq_of_le (Nat.le_of_lt_succ hk) with h | h
       ·exact HK.out k h
       ·subst h; rw [ha.out, hb.out, hab], by rw [hk, World.drewN_drewN]⟩
     case measure => simp [intOf]; omega
  ·obtain rfl : t = 32 := by omega
   go_wp2
   go_ret
   obtain ⟨os, hos⟩ := HG.out
   exact ⟨by rw [hr.out, (cmpG_zero x y 32 0).2 fun k _ hk => HK.out k (by omega)]; rfl, n, os, by rw [hos]; rfl⟩

theorem refCompare_any (x y : Hs) (w : World) : Calls Tryz.prog 60 #[.agg (bytesA 32 x.f), .agg (bytesA 32 y.f)] w fun e w' => e = .returned (.int .i64 (cf x y)) ∧ ∃ q os, w' = grow (w.drewN q) os :=
 refCompare_walk (bytesA 32 x.f) (bytesA 32 y.f) x.f y.f w (fun _ ht => bytesA_get _ _ _ ht) (fun _ ht => bytesA_get _ _ _ ht)
end Go.Proofs.YtdeiicldfgkidaaGreat.Sh
namespace Go.Proofs.YtdeiicldfgkidaaGreat.Sh
open Go.RowKit Go.Sort

def encH (h : Hs) : List Value := (bytesA 32 h.f).toList
theorem encH_len (h : Hs) : (encH h).length = 32 := by rw [encH, Array.length_toList, bytesA_size]
theorem encH_get (h : Hs) (j : Nat) (hj : j < 32) : (encH h)[j]? = some (.int .u8 (h.f j)) := by rw [encH, Array.getElem?_toList, bytesA_get _ _ _ hj]
theorem encH_one (h : Hs) (v : Value) (hv : v ∈ encH h) : v.oneCell' = true := by
 have := Array.all_eq_true'.1 (bytesA_one 32 h.f) v (by unfold encH at hv; exact Array.mem_toList_iff.1 hv)
 simpa using this
theorem encH_arr (h : Hs) : (encH h).toArray = bytesA 32 h.f := by rw [encH, Array.toArray_toList]
def flatH (L : List Hs) : List Value := L.flatMap encH
theorem flatH_cons (x : Hs) (L : List Hs) : flatH (x :: L) = encH x ++ flatH L := rfl
theorem flatH_app (L M : List Hs) : flatH (L ++ M) = flatH L ++ flatH M := by simp [flatH]
theorem flatH_len : ∀ L : List Hs, (flatH L).length = L.length * 32
 | [] => rfl
 | x :: L => by rw [flatH_cons, List.length_append, encH_len, flatH_len L, List.length_cons]; omega
theorem flatH_get : ∀ (L : List Hs) (i : Nat) (hi : i < L.length) (j : Nat), j < 32 → (flatH L)[i * 32 + j]? = (encH L[i])[j]?
 | x :: L, 0, _, j, hj => by rw [flatH_cons, List.getElem?_append_left (by rw [encH_len]; omega)]; simp
 | x :: L, i + 1, hi, j, hj => by
  rw [flatH_cons, List.getElem?_append_right (by rw [encH_len]; omega), encH_len, show (i + 1) * 32 + j - 32 = i * 32 + j by omega]
  simpa using flatH_get L i (by simpa using hi) j hj

def HRow (w : World) (v : Value) (L : List Hs) : Prop :=
 (∃ a c, v = .slice a 0 c ∧ L = [] ∧ (a = none → c = 0)) ∨ ∃ b off cap, v = .slice (some ⟨b, off, none⟩) L.length cap ∧ L.length ≤ cap ∧ w.rangeAt b off (flatH L)
theorem rangeAt_elem {w : World} {b off : Nat} {L : List Hs} (h : w.rangeAt b off (flatH L)) (i : Nat) (hi : i < L.length) : w.rangeAt b (off + i * 32) (encH L[i]) := by
 intro j v hv
 have hj : j < 32 := by
  have := (List.getElem?_eq_some_iff.1 hv).1
  rwa [encH_len] at this
 rw [Nat.add_assoc]
 exact h _ v (by rw [flatH_get L i hi j hj]; exact hv)
theorem HRow.form {w : World} {v : Value} {L : List Hs} (h : HRow w v L) : ∃ a c, v = .slice a L.length c := by
 rcases h with ⟨a, c, rfl, rfl, _⟩ | ⟨b, off, cap, rfl, _⟩
 ·exact ⟨a, c, rfl⟩
 ·exact ⟨_, cap, rfl⟩
theorem HRow.at {w : World} {a : Option Addr} {n c : Nat} {L : List Hs} (h : HRow w (.slice a n c) L) (hL : 0 < L.length) : ∃ b off, a = some ⟨b, off, none⟩ ∧ n = L.length ∧ L.length ≤ c ∧ w.rangeAt b off (flatH L) := by
 rcases h with ⟨_, _, _, rfl, _⟩ | ⟨b, off, cap, h1, h2, h3⟩
 ·simp at hL
 ·injection h1 with h1 h4 h5
  subst h1 h4 h5
  exact ⟨b, off, rfl, rfl, h2, h3⟩
theorem rangeAt_lt {w : World} {b off : Nat} {L : List Hs} (h : w.rangeAt b off (flatH L)) (hL : 0 < L.length) : b < w.heap.size := by
 have := h 0 (.int .u8 (L[0].f 0)) ((flatH_get L 0 hL 0 (by omega)).trans (encH_get _ _ (by omega)))
 exact cell_lt this
theorem rangeAt_below {w w' : World} {B b off : Nat} {cs : List Value} (h : w.rangeAt b off cs) (hb : Below B w w') (hlt : b < B) : w'.rangeAt b off cs := fun j v hv => by
 rw [hb.cell (p := ⟨b, off + j, none⟩) hlt]; exact h j v hv
theorem HRow.below {w w' : World} {v : Value} {L : List Hs} (h : HRow w v L) (hb : Below w.heap.size w w') : HRow w' v L := by
 rcases h with h | ⟨b, off, cap, h1, h2, h3⟩
 ·exact .inl h
 ·by_cases hL : 0 < L.length
  ·exact .inr ⟨b, off, cap, h1, h2, rangeAt_below h3 hb (rangeAt_lt h3 hL)⟩
  ·have : L = [] := List.eq_nil_of_length_eq_zero (by omega)
   subst this
   exact .inl ⟨_, _, h1, rfl, fun h => by cases h⟩
theorem HRow.of_owns {w : World} {base n : Nat} {v : Value} {L : List Hs} (h : w.ownsRow base 41 32 v n (flatH L)) : HRow w v L := by
 have hn : n = L.length := by have := h.1; rw [flatH_len] at this; omega
 subst hn
 rcases h.2 with ⟨rfl, h0⟩ | ⟨g, cap, cur, rfl, _, hg, hc, _, _, ht⟩
 ·exact .inl ⟨none, 0, rfl, List.eq_nil_of_length_eq_zero h0, fun _ => rfl⟩
 ·refine .inr ⟨g, 0, cap, rfl, hc, fun j v hv => ?_⟩
  rw [Nat.zero_add, cell_of_row w g j cur 41 (0, 0) hg]
  rw [← ht, List.getElem?_take] at hv
  split at hv
  ·rwa [Array.getElem?_toList] at hv
  ·cases hv
theorem Tryz.size41L (h : Hs) : (Tryz.prog.info? 41).map (·.size) = some (encH h).length := by rw [encH_len]; exact Tryz.size41

end Go.Proofs.YtdeiicldfgkidaaGreat.Sh
namespace Go.Proofs.YtdeiicldfgkidaaGreat.Sh
open Go.RowKit Go.Sort

theorem run_neqL (x y : Hs) (w : World) : (binOp .neq 41 (.agg (encH x).toArray) (.agg (encH y).toArray)).run Tryz.prog w = .ok (.bool (!decide (x = y))) w := by
 rw [encH_arr, encH_arr]; exact run_neqH x y w
theorem rangeAt_drewN {w : World} {b o n : Nat} {cs : List Value} (h : w.rangeAt b o cs) : (w.drewN n).rangeAt b o cs := h
theorem rangeAt_drew {w : World} {b o : Nat} {cs : List Value} (h : w.rangeAt b o cs) : w.drew.rangeAt b o cs := h

set_option maxRecDepth 8000 in
set_option maxHeartbeats 1000000 in
theorem same_walk (n b1 o1 c1 b2 o2 c2 : Nat) (L M : List Hs) (w : World) (hL : L.length = n) (hM : M.length = n) (h1 : w.rangeAt b1 o1 (flatH L)) (h2 : w.rangeAt b2 o2 (flatH M)) (hn : (n : Int) ≤ 9223372036854775807) :
  Calls Tryz.prog 21 #[.slice (some ⟨b1, o1, none⟩) n c1, .slice (some ⟨b2, o2, none⟩) n c2] w fun e w' => e = .returned (.bool (decide (L = M))) ∧ ∃ q, w' = w.drewN q := by
 obtain ⟨R, hR⟩ : ∃ R, Keep (R = decide (L = M)) := ⟨_, ⟨rfl⟩⟩
 rw [← hR.out]
 have HL : Keep (L.length = n) := ⟨hL⟩
 have HM : Keep (M.length = n) := ⟨hM⟩
 have H1 : Keep (w.rangeAt b1 o1 (flatH L)) := ⟨h1⟩
 have H2 : Keep (w.rangeAt b2 o2 (flatH M)) := ⟨h2⟩
 have hu := Tryz.underlying41
 clear hL hM h1 h2
 go_enter Tryz.func21, Tryz.ntmps21
 go_wp2
 go_loopw [5] (fun i wr => ∃ t q : Nat, t ≤ n ∧ i = .int .i64 (t : Int) ∧ (∀ k, k < t → L[k]? = M[k]?) ∧ wr = w.drewN q) (fun i _ => n - (intOf i).toNat)
 case atStart => exact ⟨0, 0, by omega, rfl, fun k hk => by omega, by rw [World.drewN_zero]⟩
 case round =>
  obtain ⟨t, q, ht, rfl, hke, rfl⟩ := hrel
  have HK : Keep (∀ k, k < t → L[k]? = M[k]?) := ⟨hke⟩
  clear hke
  by_cases hlt : t < n
  ·have l1 : t < L.length := by rw [HL.out]; exact hlt
   have l2 : t < M.length := by rw [HM.out]; exact hlt
   have hneq := run_neqL L[t] M[t]
   have cA : (w.drewN q).drew.rangeAt b1 (o1 + t * 32) (encH L[t]) := rangeAt_drew (rangeAt_drewN (rangeAt_elem H1.out t l1))
   have cB : (w.drewN q).drew.rangeAt b2 (o2 + t * 32) (encH M[t]) := rangeAt_drew (rangeAt_drewN (rangeAt_elem H2.out t l2))
   have hi1 := Tryz.size41L L[t]
   have hi2 := Tryz.size41L M[t]
   obtain ⟨E, hE⟩ : ∃ E, Keep (E = !decide (L[t] = M[t])) := ⟨_, ⟨rfl⟩⟩
   rw [← hE.out] at hneq
   have HE : Keep (E = false → L[t]? = M[t]?) := ⟨fun h => by
    have := hE.out; rw [h] at this
    rw [List.getElem?_eq_getElem l1, List.getElem?_eq_getElem l2]; simpa using this⟩
   have HF : Keep (E = true → R = false) := ⟨fun h => by
    have := hE.out; rw [h] at this
    rw [hR.out]; refine decide_eq_false fun e => ?_
    subst e; simp at this⟩
   clear hE
   generalize encH L[t] = CA at *
   generalize encH M[t] = CB at *
   obtain ⟨wn, hwn⟩ : ∃ wn, Keep (w.drewN q = wn) := ⟨_, ⟨rfl⟩⟩
   rw [hwn.out] at cA cB ⊢
   have hlt' : (t : Int) < (n : Int) := by omega
   clear l1 l2
   go_wp2
   refine wp_region_held_drew (S := fun w' => w'.rangeAt b1 (o1 + t * 32) CA ∧ w'.rangeAt b2 (o2 + t * 32) CB) (by kernel_rfl) ⟨cA, cB⟩ (fun hHeld => ?_)
   refine tkS (i := 0) (oi := ⟨some 17, Op.move (Operand.tmp 0), 25, _, _, none⟩) (v := Value.slice (some ⟨b1, o1, none⟩) n c1) rfl (Or.inl ⟨by rfl, fun w hS => by go_simp⟩) hHeld ?_
   refine tkS (i := 1) (oi := ⟨some 18, Op.move (Operand.tmp 5), 3, _, _, none⟩) (v := .int .i64 (t : Int)) rfl (Or.inl ⟨by rfl, fun w hS => by go_simp⟩) hHeld ?_
   refine tkS (i := 2) (oi := ⟨some 19, Op.indexAddr 25 (Operand.tmp 17) (Operand.tmp 18), 0, _, _, none⟩) (v := .pointer (some ⟨b1, o1 + t * 32, none⟩)) rfl (Or.inl ⟨by rfl, fun w hS => by go_simp⟩) hHeld ?_
   refine tkS (i := 3) (oi := ⟨some 20, Op.load 41 (Operand.tmp 19), 41, _, _, none⟩) (v := .agg (CA).toArray) rfl (yieldsIf_load_mid (by rfl) 41 (Operand.tmp 19) rfl b1 (o1 + t * 32) rfl CA _ (fun w hS => hS.1) hu rfl hi1) hHeld ?_
   refine tkS (i := 4) (oi := ⟨some 21, Op.move (Operand.tmp 1), 25, _, _, none⟩) (v := Value.slice (some ⟨b2, o2, none⟩) n c2) rfl (Or.inl ⟨by rfl, fun w hS => by go_simp⟩) hHeld ?_
   refine tkS (i := 5) (oi := ⟨some 22, Op.move (Operand.tmp 5), 3, _, _, none⟩) (v := .int .i64 (t : Int)) rfl (Or.inl ⟨by rfl, fun w hS => by go_simp⟩) hHeld ?_
   refine tkS (i := 6) (oi := ⟨some 23, Op.indexAddr 25 (Operand.tmp 21) (Operand.tmp 22), 0, _, _, none⟩) (v := .pointer (some ⟨b2, o2 + t * 32, none⟩)) rfl (Or.inl ⟨by rfl, fun w hS => by go_simp⟩) hHeld ?_
   refine tkS (i := 7) (oi := ⟨some 24, Op.load 41 (Operand.tmp 23), 41, _, _, none⟩) (v := .agg (CB).toArray) rfl (yieldsIf_load_mid (by rfl) 41 (Operand.tmp 23) rfl b2 (o2 + t * 32) rfl CB _ (fun w hS => hS.2) hu rfl hi2) hHeld ?_
   refine tkS (i := 8) (oi := ⟨some 25, Op.binOp BinOp.neq 41 (Operand.tmp 20) (Operand.tmp 24) 41, 4, _, _, none⟩) (v := .bool E) rfl (Or.inl ⟨by rfl, fun w hS => by go_simp⟩) hHeld ?_
   refine wpAnyH_done (by kernel_rfl) ?_ _
   have HD : Keep (∃ k, wn.drew = w.drewN k) := ⟨_, by rw [← hwn.out, World.drew_drewN]⟩
   cases E with
   | true =>
    have HF2 : Keep (R = false) := ⟨HF.out rfl⟩
    clear HF HE
    go_wp2
    go_ret
    exact ⟨by rw [HF2.out]; rfl, HD.out⟩
   | false =>
    have HE2 : Keep (L[t]? = M[t]?) := ⟨HE.out rfl⟩
    clear HF HE
    go_wp2
    go_roundw
    case rel =>
     obtain ⟨k, hk⟩ := HD.out
     exact ⟨t + 1, k, by omega, by go_num, fun k hk => by
      rcases Nat.lt_or_eq_of_le (Nat.le_of_lt_succ hk) with h | h
      ·exact HK.out k h
      ·subst h; exact HE2.out, hk⟩
    case measure => simp [intOf]; omega
  ·obtain rfl : t = n := by omega
   go_wp2
   go_ret
   refine ⟨?_, q, rfl⟩
   rw [hR.out, decide_eq_true (List.ext_getElem? fun i => ?_)]
   ·rfl
   ·by_cases hi : i < t
    ·exact HK.out i hi
    ·have e1 := HL.out
     have e2 := HM.out
     rw [List.getElem?_eq_none (by omega), List.getElem?_eq_none (by omega)]

set_option maxRecDepth 8000 in
set_option maxHeartbeats 400000 in
theorem same_ne (a1 a2 : Option Addr) (n m c1 c2 : Nat) (w : World) (h : n ≠ m) : Calls Tryz.prog 21 #[.slice a1 n c1, .slice a2 m c2] w fun e w' => e = .returned (.bool false) ∧ w' = w := by
 have h' : ¬ ((n : Int) = (m : Int)) := by omega
 go_enter Tryz.func21, Tryz.ntmps21
 go_wp2
 go_ret
 exact ⟨rfl, rfl⟩
set_option maxRecDepth 8000 in
set_option maxHeartbeats 400000 in
theorem same_none (a1 a2 : Option Addr) (c1 c2 : Nat) (w : World) : Calls Tryz.prog 21 #[.slice a1 0 c1, .slice a2 0 c2] w fun e w' => e = .returned (.bool true) ∧ w' = w := by
 go_enter Tryz.func21, Tryz.ntmps21
 go_wp2
 refine wp_loop_rounds 1 ?_; rw [rounds_succ]
 go_wp2
 go_ret
 exact ⟨rfl, rfl⟩
theorem same_any (v1 v2 : Value) (L M : List Hs) (w : World) (h1 : HRow w v1 L) (h2 : HRow w v2 M) (hn : (L.length : Int) ≤ 9223372036854775807) :
  Calls Tryz.prog 21 #[v1, v2] w fun e w' => e = .returned (.bool (decide (L = M))) ∧ ∃ q, w' = w.drewN q := by
 obtain ⟨a1, c1, rfl⟩ := h1.form
 obtain ⟨a2, c2, rfl⟩ := h2.form
 by_cases hl : L.length = M.length
 ·by_cases h0 : 0 < L.length
  ·obtain ⟨b1, o1, rfl, _, _, r1⟩ := h1.at h0
   obtain ⟨b2, o2, rfl, _, _, r2⟩ := h2.at (by omega)
   rw [← hl]
   exact same_walk L.length b1 o1 c1 b2 o2 c2 L M w rfl hl.symm r1 r2 hn
  ·have e1 : L = [] := List.eq_nil_of_length_eq_zero (by omega)
   have e2 : M = [] := List.eq_nil_of_length_eq_zero (by omega)
   subst e1 e2
   exact (same_none a1 a2 c1 c2 w).mono fun e w' h => ⟨by rw [h.1]; simp, 0, by rw [h.2, World.drewN_zero]⟩
 ·exact (same_ne a1 a2 _ _ c1 c2 w hl).mono fun e w' h => ⟨by rw [h.1, decide_eq_false fun e => hl (by rw [e])], 0, by rw [h.2, World.drewN_zero]⟩
end Go.Proofs.YtdeiicldfgkidaaGreat.Sh
namespace Go.Proofs.YtdeiicldfgkidaaGreat.Sh
open Go.RowKit Go.Sort

def risesB (L : List Hs) : Bool := (List.range (L.length - 1)).all fun i => decide (cf (L.getD i default) (L.getD (i + 1) default) < 0)
theorem risesB_iff (L : List Hs) : risesB L = true ↔ ∀ i, i + 1 < L.length → cf (L.getD i default) (L.getD (i + 1) default) < 0 := by
 unfold risesB
 rw [List.all_eq_true]
 constructor
 ·intro h i hi
  exact of_decide_eq_true (h i (List.mem_range.2 (by omega)))
 ·intro h i hi
  exact decide_eq_true (h i (by have := List.mem_range.1 hi; omega))
theorem Tryz.enter87 (w : World) (vs : Array Value) : (callFunc 87 vs).run Tryz.prog w = .ok (.enter 87 vs) w := by kernel_rfl

set_option maxRecDepth 8000 in
set_option maxHeartbeats 1000000 in
theorem rising_walk (n b o c : Nat) (L : List Hs) (w : World) (hL : L.length = n) (h1 : w.rangeAt b o (flatH L)) (hn : (n : Int) ≤ 9223372036854775806) (h0 : 0 < n) :
  Calls Tryz.prog 78 #[.slice (some ⟨b, o, none⟩) n c] w fun e w' => e = .returned (.bool (risesB L)) ∧ Below w.heap.size w w' := by
 obtain ⟨R, hR⟩ : ∃ R, Keep (R = risesB L) := ⟨_, ⟨rfl⟩⟩
 rw [← hR.out]
 have HL : Keep (L.length = n) := ⟨hL⟩
 have H1 : Keep (w.rangeAt b o (flatH L)) := ⟨h1⟩
 have hblt : b < w.heap.size := rangeAt_lt h1 (by omega)
 have hu := Tryz.underlying41
 clear hL h1
 go_enter Tryz.func78, Tryz.ntmps78
 go_wp2
 go_loopw [3] (fun i wr => ∃ t : Nat, t + 1 ≤ n ∧ i = .int .i64 ((t + 1 : Nat) : Int) ∧ (∀ k, k < t → cf (L.getD k default) (L.getD (k + 1) default) < 0) ∧ Below w.heap.size w wr) (fun i _ => n - (intOf i).toNat)
 case atStart => exact ⟨0, by omega, rfl, fun k hk => by omega, Below.refl _ _⟩
 case round =>
  obtain ⟨t, ht, rfl, hke, hB⟩ := hrel
  have HK : Keep (∀ k, k < t → cf (L.getD k default) (L.getD (k + 1) default) < 0) := ⟨hke⟩
  clear hke
  by_cases hlt : t + 1 < n
  ·have l1 : t < L.length := by rw [HL.out]; omega
   have l2 : t + 1 < L.length := by rw [HL.out]; exact hlt
   have HC : Keep (∀ w, Calls Tryz.prog 87 #[.agg (encH L[t]).toArray, .agg (encH L[t + 1]).toArray] w fun e w' => e = .returned (.int .i64 (cf L[t] L[t + 1])) ∧ Below w.heap.size w w') := ⟨fun w => by
    rw [encH_arr, encH_arr]
    refine (compare_any _ _ w).mono fun e w' h => ⟨h.1, ?_⟩
    obtain ⟨q, os, rfl⟩ := h.2
    exact grown_below w q os⟩
   have HS : Keep (∀ wx, Below wr.heap.size wr wx → wx.rangeAt b (o + t * 32) (encH L[t]) ∧ wx.rangeAt b (o + (t + 1) * 32) (encH L[t + 1])) := ⟨fun wx hx => by
    have hb2 := hB.trans (hx.mono hB.size)
    exact ⟨rangeAt_below (rangeAt_elem H1.out t l1) hb2 hblt, rangeAt_below (rangeAt_elem H1.out (t + 1) l2) hb2 hblt⟩⟩
   have hi1 := Tryz.size41L L[t]
   have hi2 := Tryz.size41L L[t + 1]
   obtain ⟨r, hr⟩ : ∃ r, Keep (r = cf L[t] L[t + 1]) := ⟨_, ⟨rfl⟩⟩
   rw [← hr.out] at HC
   have HE : Keep (r = cf (L.getD t default) (L.getD (t + 1) default)) := ⟨by
    rw [hr.out, List.getD_eq_getElem?_getD, List.getD_eq_getElem?_getD, List.getElem?_eq_getElem l1, List.getElem?_eq_getElem l2]; rfl⟩
   clear hr
   generalize encH L[t] = CA at *
   generalize encH L[t + 1] = CB at *
   clear l1 l2
   rename World => wn
   have hD0 : Below wn.heap.size wn wn.drew := (Below.refl _ _).drew
   have hlt' : ((t + 1 : Nat) : Int) < (n : Int) := by omega
   have hs1 : ((t + 1 : Nat) : Int) - 1 = (t : Int) := by omega
   have hlt2 : (t : Int) < (n : Int) := by omega
   have hwr : IntKind.i64.wrap (t : Int) = (t : Int) := by rw [IntKind.wrap_i64]; omega
   have hng : ¬ ((t : Int) + 1 < 0) := by omega
   go_wp2
   refine wp_region_held_drew (S := fun w' => w'.rangeAt b (o + t * 32) CA ∧ w'.rangeAt b (o + (t + 1) * 32) CB) (by kernel_rfl) (HS.out _ hD0) (fun hHeld => ?_)
   refine tkS (i := 0) (oi := ⟨some 10, Op.move (Operand.tmp 0), 25, _, _, none⟩) (v := Value.slice (some ⟨b, o, none⟩) n c) rfl (Or.inl ⟨by rfl, fun w hS => by go_simp⟩) hHeld ?_
   refine tkS (i := 1) (oi := ⟨some 11, Op.move (Operand.tmp 3), 3, _, _, none⟩) (v := .int .i64 ((t + 1 : Nat) : Int)) rfl (Or.inl ⟨by rfl, fun w hS => by go_simp⟩) hHeld ?_
   refine tkS (i := 2) (oi := ⟨some 12, Op.binOp BinOp.sub 3 (Operand.tmp 11) (Operand.const (Value.int IntKind.i64 1)) 3, 3, _, _, none⟩) (v := .int .i64 (t : Int)) rfl (Or.inl ⟨by rfl, fun w hS => by go_simp⟩) hHeld ?_
   refine tkS (i := 3) (oi := ⟨some 13, Op.indexAddr 25 (Operand.tmp 10) (Operand.tmp 12), 0, _, _, none⟩) (v := .pointer (some ⟨b, o + t * 32, none⟩)) rfl (Or.inl ⟨by rfl, fun w hS => by go_simp⟩) hHeld ?_
   refine tkS (i := 4) (oi := ⟨some 14, Op.load 41 (Operand.tmp 13), 41, _, _, none⟩) (v := .agg (CA).toArray) rfl (yieldsIf_load_mid (by rfl) 41 (Operand.tmp 13) rfl b (o + t * 32) rfl CA _ (fun w hS => hS.1) hu rfl hi1) hHeld ?_
   refine tkS (i := 5) (oi := ⟨some 15, Op.move (Operand.tmp 0), 25, _, _, none⟩) (v := Value.slice (some ⟨b, o, none⟩) n c) rfl (Or.inl ⟨by rfl, fun w hS => by go_simp⟩) hHeld ?_
   refine tkS (i := 6) (oi := ⟨some 16, Op.move (Operand.tmp 3), 3, _, _, none⟩) (v := .int .i64 ((t + 1 : Nat) : Int)) rfl (Or.inl ⟨by rfl, fun w hS => by go_simp⟩) hHeld ?_
   refine tkS (i := 7) (oi := ⟨some 17, Op.indexAddr 25 (Operand.tmp 15) (Operand.tmp 16), 0, _, _, none⟩) (v := .pointer (some ⟨b, o + (t + 1) * 32, none⟩)) rfl (Or.inl ⟨by rfl, fun w hS => by go_simp⟩) hHeld ?_
   refine tkS (i := 8) (oi := ⟨some 18, Op.load 41 (Operand.tmp 17), 41, _, _, none⟩) (v := .agg (CB).toArray) rfl (yieldsIf_load_mid (by rfl) 41 (Operand.tmp 17) rfl b (o + (t + 1) * 32) rfl CB _ (fun w hS => hS.2) hu rfl hi2) hHeld ?_
   refine wpAnyH_ready (rs := [9]) (by kernel_rfl) (by simp) ?_
   refine AllReadyH.cons (o := ⟨some 19, Op.call { callee := Callee.value (Operand.func 87), args := #[Operand.tmp 14, Operand.tmp 18], argTypes := #[41, 41] }, 3, _, _, none⟩) rfl (fun K hK => ?_) AllReadyH.nil
   rw [if_pos (by rfl)]
   refine wp_callF 87 #[.tmp 14, .tmp 18] #[41, 41] rfl Tryz.enter87 #[.agg CA.toArray, .agg CB.toArray] (by simp [Act.eval]) (fun v w' => v = .int .i64 r ∧ Below wn.drew.heap.size wn.drew w') ((HC.out wn.drew).mono fun e w' h => ⟨_, h.1, rfl, h.2⟩) ?_
   rintro v w5 ⟨rfl, hb5⟩
   have hB5 : Below wn.heap.size wn w5 := hD0.trans (hb5.mono hD0.size)
   refine hK.out _ _ (HS.out _ hB5) fun hHeld5 => ?_
   clear hK
   simp only [Act.put, pqA, pqB, pqC]
   refine tkS (i := 10) (oi := ⟨some 20, Op.binOp BinOp.geq 3 (Operand.tmp 19) (Operand.const (Value.int IntKind.i64 0)) 3, 4, _, _, none⟩) (v := .bool (decide (0 ≤ r))) rfl (Or.inl ⟨by rfl, fun w hS => by go_simp⟩) hHeld5 ?_
   refine wpAnyH_done (by kernel_rfl) ?_ _
   have hBn : Below w.heap.size w w5 := hB.trans (hB5.mono hB.size)
   by_cases hr0 : 0 ≤ r
   ·have HF : Keep (R = false) := ⟨by
     rw [hR.out, Bool.eq_false_iff]; intro h
     have := (risesB_iff L).1 h t (by rw [HL.out]; exact hlt)
     rw [← HE.out] at this; omega⟩
    go_wp2
    go_ret
    exact ⟨by rw [HF.out]; rfl, hBn⟩
   ·have HE2 : Keep (cf (L.getD t default) (L.getD (t + 1) default) < 0) := ⟨by rw [← HE.out]; omega⟩
    go_wp2
    go_roundw
    case rel => exact ⟨t + 1, by omega, by go_num, fun k hk => by
      rcases Nat.lt_or_eq_of_le (Nat.le_of_lt_succ hk) with h | h
      ·exact HK.out k h
      ·subst h; exact HE2.out, hBn⟩
    case measure => simp [intOf]; omega
  ·obtain rfl : t + 1 = n := by omega
   go_wp2
   go_ret
   refine ⟨?_, hB⟩
   rw [hR.out, (risesB_iff L).2 fun i hi => HK.out i (by have := HL.out; omega)]
   rfl
set_option maxRecDepth 8000 in
set_option maxHeartbeats 400000 in
theorem rising_none (a1 : Option Addr) (c1 : Nat) (w : World) : Calls Tryz.prog 78 #[.slice a1 0 c1] w fun e w' => e = .returned (.bool true) ∧ w' = w := by
 go_enter Tryz.func78, Tryz.ntmps78
 go_wp2
 refine wp_loop_rounds 1 ?_; rw [rounds_succ]
 go_wp2
 go_ret
 exact ⟨rfl, rfl⟩
theorem rising_any (v : Value) (L : List Hs) (w : World) (h : HRow w v L) (hn : (L.length : Int) ≤ 9223372036854775806) :
  Calls Tryz.prog 78 #[v] w fun e w' => e = .returned (.bool (risesB L)) ∧ Below w.heap.size w w' := by
 obtain ⟨a1, c1, rfl⟩ := h.form
 by_cases h0 : 0 < L.length
 ·obtain ⟨b1, o1, rfl, _, _, r1⟩ := h.at h0
  exact rising_walk L.length b1 o1 c1 L w rfl r1 hn h0
 ·have e1 : L = [] := List.eq_nil_of_length_eq_zero (by omega)
  subst e1
  exact (rising_none a1 c1 w).mono fun e w' h => ⟨by rw [h.1, (risesB_iff []).2 fun i hi => by simp at hi], by rw [h.2]; exact Below.refl _ _⟩

end Go.Proofs.YtdeiicldfgkidaaGreat.Sh
namespace Go.Proofs.YtdeiicldfgkidaaGreat
open Go.RowKit
set_option linter.unusedSimpArgs false
set_option linter.unusedVariables false

abbrev Hs := Sh.Hs
def hB (h : Hs) : List Int := hl 32 h.f
def hs (c : List Int) : Hs := Vector.ofFn fun i : Fin 32 => UInt8.ofNat (c.getD i.val 0).toNat
theorem hB_len (h : Hs) : (hB h).length = 32 := hl_len _ _
theorem hs_f (c : List Int) (hc : Byts c) (i : Nat) (hi : i < 32) : (hs c).f i = c.getD i 0 := by
 have := hc.getD i
 rw [Sh.Hs.f_get _ _ hi]
 simp only [hs, Vector.getElem_ofFn]
 rw [UInt8.toNat_ofNat_of_lt' (by show (c.getD i 0).toNat < 256; omega)]
 omega
theorem hB_hs (c : List Int) (h : c.length = 32) (hc : Byts c) : hB (hs c) = c := by
 unfold hB hl
 apply List.ext_getElem (by simp [h])
 intro i h1 h2
 simp only [List.getElem_map, List.getElem_range]
 rw [hs_f c hc i (by omega)]
 simp [List.getD_eq_getElem?_getD, h2]
theorem cmp_any (x y : Hs) (w : World) : Calls Tryz.prog 87 #[.agg (bytesA 32 x.f), .agg (bytesA 32 y.f)] w fun e w' => e = .returned (.int .i64 (Sh.cf x y)) ∧ Below w.heap.size w w' := by
 refine (Sh.compare_any x y w).mono ?_
 rintro e w' ⟨h1, q, os, rfl⟩
 exact ⟨h1, Sh.grown_below w q os⟩

def OwnH (w : World) (v : Value) (l : List Hs) : Prop := w.ownsRow 0 41 32 v l.length (Sh.flatH l)
theorem OwnH.form {w : World} {v : Value} {l : List Hs} (h : OwnH w v l) : (v = .slice none 0 0 ∧ l = []) ∨ ∃ g cap cur, v = .slice (some ⟨g, 0, none⟩) l.length cap ∧ Blk w g 41 cur ∧ l.length ≤ cap ∧ cur.toList.take (l.length * 32) = Sh.flatH l := by
 rcases h.2 with ⟨rfl, h0⟩ | ⟨g, cap, cur, rfl, _, h3, h4, h5, h6, h7⟩
 ·exact .inl ⟨rfl, List.eq_nil_of_length_eq_zero h0⟩
 ·exact .inr ⟨g, cap, cur, rfl, h3, h4, h7⟩
theorem OwnH.row {w : World} {v : Value} {l : List Hs} (h : OwnH w v l) : Sh.HRow w v l := Sh.HRow.of_owns h
theorem OwnH.sl {w : World} {v : Value} {l : List Hs} (h : OwnH w v l) : ∃ a c, v = .slice a l.length c := h.row.form
theorem OwnH.lt {w : World} {v : Value} {l : List Hs} (h : OwnH w v l) : ∀ k, v.ownBlock = some k → k < w.heap.size := fun k hk => (World.ownsRow.lt h k hk).2
theorem OwnH.grown {w w' : World} {v : Value} {l : List Hs} {S : Nat → Prop} (h : OwnH w v l) (hg : Grown w w' S) (hs : ∀ k, v.ownBlock = some k → ¬ S k) : OwnH w' v l := by
 refine ⟨h.1, ?_⟩
 rcases h.2 with h1 | ⟨g, cap, cur, rfl, h2, h3, h4⟩
 ·exact .inl h1
 ·exact .inr ⟨g, cap, cur, rfl, h2, hg.blk h3 (hs g rfl), h4⟩
theorem OwnH.below {w w' : World} {v : Value} {l : List Hs} (h : OwnH w v l) (hb : Below w.heap.size w w') : OwnH w' v l := h.grown (Grown.below (S := fun _ => False) hb) fun _ _ h => h
theorem OwnH.ne {w : World} {v : Value} {l : List Hs} {p : Nat} {T : TypeId} {cs : Array Value} (h : OwnH w v l) (hp : Blk w p T cs) (hT : T ≠ 41) : v.ownBlock ≠ some p := by
 intro e
 rcases h.form with ⟨rfl, _⟩ | ⟨g, cap, cur, rfl, h3, _⟩
 ·simp [Value.ownBlock] at e
 ·simp [Value.ownBlock] at e
  subst e
  exact hT (blk_type hp h3)
theorem ownH_empty (w : World) : OwnH (w.alloc (.cells #[] 41)) (.slice (some ⟨w.heap.size, 0, none⟩) 0 0) [] :=
 ⟨rfl, .inr ⟨w.heap.size, 0, #[], rfl, Nat.zero_le _, Blk.new w 41 #[], Nat.le_refl _, by decide, rfl, rfl⟩⟩
theorem Tryz.infoH : (Tryz.prog.info? 41).map (fun i => (i.zero, i.size, i.bytes)) = some (some (.agg (bytesA 32 fun _ => 0)), 32, 32) := by kernel_rfl
theorem run_appH (w : World) (ty : TypeId) (v : Value) (l : List Hs) (hown : OwnH w v l) (g : Nat) (x : Hs) (hg : Blk w g 41 (bytesA 32 x.f)) (hb : l.length ≤ 1000000000000) :
  ∃ v' w', (Builtin.append_ #[25, 25] ty #[v, .slice (some ⟨g, 0, none⟩) 1 1]).run Tryz.prog w = .ok v' w' ∧ OwnH w' v' (l ++ [x]) ∧ (Grown w w' fun k => v.ownBlock = some k) ∧ Moved w v v' := by
 obtain ⟨i, hi, hzz⟩ := Option.map_eq_some_iff.1 Tryz.infoH
 simp only [Prod.mk.injEq] at hzz
 obtain ⟨hz, hsz, hby⟩ := hzz
 have hzs : (Value.agg (bytesA 32 fun _ => 0)).cells.size = 32 := by show (bytesA 32 fun _ => 0).size = 32; exact bytesA_size _ _
 obtain ⟨v', w', hr, h1, h2, _, h3⟩ := run_append_own_at (P := Tryz.prog) w 0 25 ty 41 i (.agg (bytesA 32 fun _ => 0)) 32 32 Tryz.underlying25 hi hz hsz hby hzs (by omega) v l.length (Sh.flatH l) hown ⟨g, 0, none⟩ 1 1 (Sh.encH x) (by rw [Sh.encH_len]) (fun j u hu => by
   rw [Addr.add_mid, Nat.zero_add, hg.cell, ← Array.getElem?_toList]
   exact hu)
  (fun u hu => Sh.encH_one x u hu) (by unfold maxLen; omega) (by omega) (Nat.zero_le _)
 refine ⟨v', w', hr, ?_, Grown.of h2 fun k _ e => e, ?_⟩
 ·unfold OwnH
  rw [List.length_append, Sh.flatH_app, show Sh.flatH [x] = Sh.encH x by simp [Sh.flatH]]
  exact h1
 ·rcases h3 with h3 | h3
  ·exact .inl h3
  ·exact .inr ⟨_, h3, Nat.le_refl _⟩
theorem WL.appH {ops : Array Oper} {rest : List Oper} {o : Oper} {a : Act} {w : World} {Q : Exit → Act → World → Prop} (hw : Region.wanted o (yielded ops a.tmps) = true) (s x : Operand)
  (ho : o.op = .call { callee := .builtin .append, args := #[s, x], argTypes := #[25, 25] }) (v : Value) (l : List Hs) (g : Nat) (y : Hs)
  (hs : a.eval s = v) (hx : a.eval x = .slice (some ⟨g, 0, none⟩) 1 1) (hown : OwnH w v l) (hg : Blk w g 41 (bytesA 32 y.f)) (hb : l.length ≤ 1000000000000)
  (h : ∀ v' w', OwnH w' v' (l ++ [y]) → (Grown w w' fun k => v.ownBlock = some k) → Moved w v v' → WL Tryz.prog ops Q rest (a.put o.dst v') w') : WL Tryz.prog ops Q (o :: rest) a w :=
 ⟨wpList_wanted hw fun K hK => by
  obtain ⟨v', w', hr, h1, h2, h3⟩ := run_appH w o.type v l hown g y hg hb
  unfold Oper.wp execOp
  simp only [ho, resolve, invoke, builtin, Sem.run_bind, Sem.run_pure, Result.andThen_ok, List.map_toArray, List.map_cons, List.map_nil, hs, hx, hr]
  exact hK _ _ (h v' w' h1 h2 h3).out⟩
theorem bsH (x : Hs) (w : World) : (Instr.buildSlice 25 1 #[(0, .agg (bytesA 32 x.f))]).run Tryz.prog w = .ok (.slice (some ⟨w.heap.size, 0, none⟩) 1 1) (w.alloc (.cells (bytesA 32 x.f) 41)) := by kernel_rfl
theorem bsHE (w : World) : (Instr.buildSlice 25 0 #[]).run Tryz.prog w = .ok (.slice (some ⟨w.heap.size, 0, none⟩) 0 0) (w.alloc (.cells #[] 41)) := by kernel_rfl
def getH (L : List Int) : Nat → List Hs → Nat → Int × Nat × List Hs
 | 0, P, a => (0, a, P)
 | n + 1, P, a => if nextW (L.drop a) 32 ≠ 0 then (nextW (L.drop a) 32, a + nextN (L.drop a) 32, [])
  else if 0 < P.length ∧ 0 ≤ Sh.cf (P.getD (P.length - 1) default) (hs ((L.drop a).take 32)) then (52, a, [])
  else getH L n (P ++ [hs ((L.drop a).take 32)]) (a + 32)
theorem hrd_hs (D : List Int) (h : nextW D 32 = 0) (hD : Byts D) : bytesA 32 (hrd D 0) = bytesA 32 (hs (D.take 32)).f := bytesA_congr fun i hi => by
 have := nextN_0 _ _ h
 rw [hs_f _ (hD.take 32) i hi]
 unfold hrd
 rw [if_pos rfl, List.getD_eq_getElem?_getD, List.getD_eq_getElem?_getD, List.getElem?_take, if_pos hi]
def Gives (p : Nat) (R : Int × Nat) (w : World) (e : Ending) (w' : World) : Prop := R.1 ≠ 0 ∧ ∃ q, w.heap.size ≤ q ∧ e = .panicked [wr q] ∧ BadAt w' q R.1 R.2 ∧ Grown w w' fun k => k = p
def Reads (p : Nat) (s : ByteArray) (R : Int × Nat) (v : Value) (w : World) (e : Ending) (w' : World) : Prop :=
 (R.1 = 0 ∧ e = .returned v ∧ InAt w' p s R.2 none ∧ Grown w w' fun k => k = p) ∨ Gives p R w e w'
def formR (L : List Int) (a : Nat) : Int × Nat := if nextW (L.drop a) 1 ≠ 0 then (nextW (L.drop a) 1, a + nextN (L.drop a) 1) else if (L.drop a).getD 0 0 = 1 then (0, a + 1) else (5, a)
def auR (L : List Int) (a : Nat) : Int × Nat := if nextW (L.drop a) 1 ≠ 0 then (nextW (L.drop a) 1, a + nextN (L.drop a) 1) else if 1 ≤ (L.drop a).getD 0 0 ∧ (L.drop a).getD 0 0 ≤ 8 then (0, a + 1) else (50, a)
def ckR (L : List Int) (a : Nat) : Int × Nat := if (fstM (L.drop a) 4096).2.2 ≠ 0 then ((fstM (L.drop a) 4096).2.2, a + (fstM (L.drop a) 4096).2.1.toNat) else if (fstM (L.drop a) 4096).1 = 0 then (51, a) else (0, a + (fstM (L.drop a) 4096).2.1.toNat)
theorem readForm_any (p : Nat) (s : ByteArray) (a : Nat) (w : World) (hI : InAt w p s a none) (hb : s.size ≤ 140737488355328) :
  Calls Tryz.prog 43 #[ptr p] w (Reads p s (formR (lst s) a) (.tuple #[]) w) := by
 have HI := Keep.mk hI
 obtain ⟨D, hD⟩ : ∃ D, D = (lst s).drop a := ⟨_, rfl⟩
 obtain ⟨W, hW⟩ : ∃ W, W = nextW D 1 := ⟨_, rfl⟩
 obtain ⟨N, hN⟩ : ∃ N, N = nextN D 1 := ⟨_, rfl⟩
 obtain ⟨c, hc⟩ : ∃ c, c = if W = 0 then D.getD 0 0 else 0 := ⟨_, rfl⟩
 have HC := Keep.mk (ibyte_good p s a w hI hb D hD W hW N hN c hc)
 obtain ⟨R, hR⟩ : ∃ R, R = formR (lst s) a := ⟨_, rfl⟩
 have HR1 : Keep (¬ W = 0 → R = (W, a + N)) := ⟨fun h => by rw [hR]; unfold formR; rw [← hD, ← hW, ← hN, if_pos h]⟩
 have HN1 : Keep (W = 0 → N = 1) := ⟨fun h => by rw [hN, (nextN_0 D 1 (by rw [← hW]; exact h)).1]; rfl⟩
 have HR2 : Keep (W = 0 → c = 1 → R = (0, a + 1)) := ⟨fun h1 h2 => by rw [hR]; unfold formR; rw [← hD, ← hW, if_neg (by simp [h1])]; rw [hc, if_pos h1] at h2; rw [if_pos h2]⟩
 have HR3 : Keep (W = 0 → ¬ c = 1 → R = (5, a)) := ⟨fun h1 h2 => by rw [hR]; unfold formR; rw [← hD, ← hW, if_neg (by simp [h1])]; rw [hc, if_pos h1] at h2; rw [if_neg h2]⟩
 rw [← hR]
 clear hI hb hD hW hN hc hR
 go_enter Tryz.func43, Tryz.ntmps43
 refine wp_seq_k fun K1 hK1 => rgn ?_
 refine VlS (.pointer (some ⟨p, 0, none⟩)) ?_
 refine WL.callF (by kernel_rfl) 45 _ _ rfl Tryz.in45 #[ptr p] (by simp [Act.eval]) ?_
 refine (iat_any p s a none w HI.out).mono ?_
 rintro e w0 ⟨rfl, hw0⟩
 rw [hw0]
 clear hw0 w0
 refine ⟨_, rfl, ?_⟩
 simp only [Act.put, pqA, pqB, pqC]
 refine VlS (.int .i64 (a : Int)) ?_
 refine WL.nil (hK1 _ _ ?_)
 refine wp_seq_k fun K2 hK2 => rgn ?_
 refine VlS (.pointer (some ⟨p, 0, none⟩)) ?_
 refine WL.callF (by kernel_rfl) 82 _ _ rfl Tryz.in82 #[ptr p] (by simp [Act.eval]) ?_
 refine (HC.out).mono ?_
 rintro e w1 ⟨bad, er, rfl, h1, h2, h3⟩
 refine ⟨_, rfl, ?_⟩
 have H1 := Keep.mk h1
 have H2 := Keep.mk h2
 have H3 := Keep.mk h3
 clear h1 h2 h3
 simp only [Act.put, pqA, pqB, pqC]
 by_cases hE : W = 0
 ·rcases H3.out with ⟨e1, rfl, rfl⟩ | ⟨e1, _⟩
  rotate_left
  ·exact absurd hE e1
  refine VlS (.int .u8 c) ?_
  refine VlS (.nilIface) ?_
  refine WL.callF (by kernel_rfl) 81 _ _ rfl Tryz.in81 #[.int .u8 c, .nilIface] (by simp [Act.eval]) ?_
  refine (must81_ok (.int .u8 c) w1).mono ?_
  rintro e w0 ⟨rfl, hw0⟩
  rw [hw0]
  clear hw0 w0
  refine ⟨_, rfl, ?_⟩
  simp only [Act.put, pqA, pqB, pqC]
  by_cases h1_5 : c = 1
  ·skip
   refine VlS (.bool false) ?_
   refine WL.nil (hK2 _ _ ?_)
   refine wp_cond_false rfl ?_
   refine wp_skip ?_
   go_end0
   exact .inl ⟨by rw [HR2.out hE h1_5], rfl, by rw [HR2.out hE h1_5, ← HN1.out hE]; exact H1.out, H2.out⟩
  ·skip
   refine VlS (.bool true) ?_
   refine WL.nil (hK2 _ _ ?_)
   refine wp_cond_true rfl ?_
   refine rgn ?_
   refine VlS (.int .i64 (a : Int)) ?_
   refine WL.callP (by kernel_rfl) 50 _ _ rfl Tryz.in50 #[.int .i64 5, .int .i64 (a : Int)] (by simp [Act.eval]) ?_
   refine (at_any 5 a w1).mono ?_
   rintro e wz ⟨rfl, hbz, hwz⟩
   have HBd : Keep (BadAt wz w1.heap.size 5 a) := ⟨hbz⟩
   have HGd : Keep (Grown w wz fun k => k = p) := ⟨H2.out.trans (Grown.below hwz)⟩
   clear hbz hwz
   refine .inr ⟨_, rfl, ?_⟩
   try simp only [Exit.inBlock, Exit.then]
   refine ⟨rfl, ?_⟩
   exact .inr ⟨by rw [HR3.out hE h1_5]; exact (by decide : (5 : Int) ≠ 0), w1.heap.size, H2.out.size, rfl, by rw [HR3.out hE h1_5]; exact HBd.out, HGd.out⟩
 ·rcases H3.out with ⟨e1, _, _⟩ | ⟨_, q, hq, rfl, rfl, hbad⟩
  ·exact absurd e1 hE
  have Hbad := Keep.mk hbad
  clear hbad
  unfold err
  refine VlS (.int .u8 c) ?_
  refine VlS (.iface 69 (ptr q)) ?_
  refine WL.callP (by kernel_rfl) 81 _ _ rfl Tryz.in81 #[.int .u8 c, err q] (by simp [Act.eval, err]) ?_
  refine (must81_bad _ q w1).mono ?_
  rintro e w' ⟨rfl, rfl⟩
  refine .inr ⟨_, rfl, ?_⟩
  try simp only [Exit.inBlock, Exit.then]
  refine ⟨rfl, ?_⟩
  exact .inr ⟨by rw [HR1.out hE]; exact hE, q, hq, rfl, by rw [HR1.out hE]; exact Hbad.out, H2.out⟩
theorem readAuthor_any (p : Nat) (s : ByteArray) (a : Nat) (w : World) (hI : InAt w p s a none) (hb : s.size ≤ 140737488355328) :
  Calls Tryz.prog 44 #[ptr p] w (Reads p s (auR (lst s) a) (.int .i64 (((lst s).drop a).getD 0 0)) w) := by
 have HI := Keep.mk hI
 obtain ⟨D, hD⟩ : ∃ D, D = (lst s).drop a := ⟨_, rfl⟩
 obtain ⟨W, hW⟩ : ∃ W, W = nextW D 1 := ⟨_, rfl⟩
 obtain ⟨N, hN⟩ : ∃ N, N = nextN D 1 := ⟨_, rfl⟩
 obtain ⟨c, hc⟩ : ∃ c, c = if W = 0 then D.getD 0 0 else 0 := ⟨_, rfl⟩
 have HC := Keep.mk (ibyte_good p s a w hI hb D hD W hW N hN c hc)
 obtain ⟨R, hR⟩ : ∃ R, R = auR (lst s) a := ⟨_, rfl⟩
 have HR1 : Keep (¬ W = 0 → R = (W, a + N)) := ⟨fun h => by rw [hR]; unfold auR; rw [← hD, ← hW, ← hN, if_pos h]⟩
 have HN1 : Keep (W = 0 → N = 1) := ⟨fun h => by rw [hN, (nextN_0 D 1 (by rw [← hW]; exact h)).1]; rfl⟩
 have HR2 : Keep (W = 0 → (1 ≤ c ∧ c ≤ 8) → R = (0, a + 1)) := ⟨fun h1 h2 => by rw [hR]; unfold auR; rw [← hD, ← hW, if_neg (by simp [h1])]; rw [hc, if_pos h1] at h2; rw [if_pos h2]⟩
 have HR3 : Keep (W = 0 → ¬ (1 ≤ c ∧ c ≤ 8) → R = (50, a)) := ⟨fun h1 h2 => by rw [hR]; unfold auR; rw [← hD, ← hW, if_neg (by simp [h1])]; rw [hc, if_pos h1] at h2; rw [if_neg h2]⟩
 have Hcv : Keep (W = 0 → c = ((lst s).drop a).getD 0 0) := ⟨fun h => by rw [hc, if_pos h, hD]⟩
 have Hcr : Keep (0 ≤ c ∧ c < 256) := ⟨by
  have := ((lst_byts s).drop a).getD 0
  rw [← hD] at this
  rw [hc]; split <;> omega⟩
 rw [← hR]
 clear hI hb hD hW hN hc hR
 go_enter Tryz.func44, Tryz.ntmps44
 refine wp_seq_k fun K1 hK1 => rgn ?_
 refine VlS (.int .i64 0) ?_
 refine WL.nil (hK1 _ _ ?_)
 refine wp_seq_k fun K2 hK2 => rgn ?_
 refine VlS (.pointer (some ⟨p, 0, none⟩)) ?_
 refine WL.callF (by kernel_rfl) 45 _ _ rfl Tryz.in45 #[ptr p] (by simp [Act.eval]) ?_
 refine (iat_any p s a none w HI.out).mono ?_
 rintro e w0 ⟨rfl, hw0⟩
 rw [hw0]
 clear hw0 w0
 refine ⟨_, rfl, ?_⟩
 simp only [Act.put, pqA, pqB, pqC]
 refine VlS (.int .i64 (a : Int)) ?_
 refine WL.nil (hK2 _ _ ?_)
 refine wp_seq_k fun K3 hK3 => rgn ?_
 refine VlS (.pointer (some ⟨p, 0, none⟩)) ?_
 refine WL.callF (by kernel_rfl) 82 _ _ rfl Tryz.in82 #[ptr p] (by simp [Act.eval]) ?_
 refine (HC.out).mono ?_
 rintro e w1 ⟨bad, er, rfl, h1, h2, h3⟩
 refine ⟨_, rfl, ?_⟩
 have H1 := Keep.mk h1
 have H2 := Keep.mk h2
 have H3 := Keep.mk h3
 clear h1 h2 h3
 simp only [Act.put, pqA, pqB, pqC]
 by_cases hE : W = 0
 ·rcases H3.out with ⟨e1, rfl, rfl⟩ | ⟨e1, _⟩
  rotate_left
  ·exact absurd hE e1
  have hwc : IntKind.i64.wrap c = c := by rw [IntKind.wrap_i64]; have := Hcr.out; omega
  refine VlS (.int .u8 c) ?_
  refine VlS (.nilIface) ?_
  refine WL.callF (by kernel_rfl) 81 _ _ rfl Tryz.in81 #[.int .u8 c, .nilIface] (by simp [Act.eval]) ?_
  refine (must81_ok (.int .u8 c) w1).mono ?_
  rintro e w0 ⟨rfl, hw0⟩
  rw [hw0]
  clear hw0 w0
  refine ⟨_, rfl, ?_⟩
  simp only [Act.put, pqA, pqB, pqC]
  refine VlS (.int .i64 c) ?_
  refine VlS (.int .i64 c) ?_
  refine WL.nil (hK3 _ _ ?_)
  refine wp_seq_k fun K4 hK4 => ?_
  refine wp_seq_k fun K5 hK5 => ?_
  by_cases hA : 1 ≤ c ∧ c ≤ 8
  ·skip
   refine rgn ?_
   refine VlS (.int .i64 c) ?_
   refine WL.callF (by kernel_rfl) 77 _ _ rfl Tryz.in77 #[.int .i64 c] (by simp [Act.eval]) ?_
   refine (isAuthor_yes c w1 hA).mono ?_
   rintro e w0 ⟨rfl, hw0⟩
   rw [hw0]
   clear hw0 w0
   refine ⟨_, rfl, ?_⟩
   simp only [Act.put, pqA, pqB, pqC]
   refine VlS (.bool false) ?_
   refine WL.nil (hK5 _ _ ?_)
   refine wp_cond_false rfl ?_
   refine wp_skip ?_
   refine hK4 _ _ ?_
   refine wp_seq_k fun K6 hK6 => rgn ?_
   refine VlS (.int .i64 c) ?_
   refine VlS (.int .i64 c) ?_
   refine WL.nil (hK6 _ _ ?_)
   refine wp_ret ?_
   go_ret
   exact .inl ⟨by rw [HR2.out hE hA], by rw [← Hcv.out hE]; rfl, by rw [HR2.out hE hA, ← HN1.out hE]; exact H1.out, H2.out⟩
  ·skip
   refine rgn ?_
   refine VlS (.int .i64 c) ?_
   refine WL.callF (by kernel_rfl) 77 _ _ rfl Tryz.in77 #[.int .i64 c] (by simp [Act.eval]) ?_
   refine (isAuthor_no c w1 hA).mono ?_
   rintro e w0 ⟨rfl, hw0⟩
   rw [hw0]
   clear hw0 w0
   refine ⟨_, rfl, ?_⟩
   simp only [Act.put, pqA, pqB, pqC]
   refine VlS (.bool true) ?_
   refine WL.nil (hK5 _ _ ?_)
   refine wp_cond_true rfl ?_
   refine rgn ?_
   refine VlS (.int .i64 (a : Int)) ?_
   refine WL.callP (by kernel_rfl) 50 _ _ rfl Tryz.in50 #[.int .i64 50, .int .i64 (a : Int)] (by simp [Act.eval]) ?_
   refine (at_any 50 a w1).mono ?_
   rintro e wz ⟨rfl, hbz, hwz⟩
   have HBd : Keep (BadAt wz w1.heap.size 50 a) := ⟨hbz⟩
   have HGd : Keep (Grown w wz fun k => k = p) := ⟨H2.out.trans (Grown.below hwz)⟩
   clear hbz hwz
   refine .inr ⟨_, rfl, ?_⟩
   try simp only [Exit.inBlock, Exit.then]
   refine ⟨rfl, ?_⟩
   exact .inr ⟨by rw [HR3.out hE hA]; exact (by decide : (50 : Int) ≠ 0), w1.heap.size, H2.out.size, rfl, by rw [HR3.out hE hA]; exact HBd.out, HGd.out⟩
 ·rcases H3.out with ⟨e1, _, _⟩ | ⟨_, q, hq, rfl, rfl, hbad⟩
  ·exact absurd e1 hE
  have Hbad := Keep.mk hbad
  clear hbad
  unfold err
  refine VlS (.int .u8 c) ?_
  refine VlS (.iface 69 (ptr q)) ?_
  refine WL.callP (by kernel_rfl) 81 _ _ rfl Tryz.in81 #[.int .u8 c, err q] (by simp [Act.eval, err]) ?_
  refine (must81_bad _ q w1).mono ?_
  rintro e w' ⟨rfl, rfl⟩
  refine .inr ⟨_, rfl, ?_⟩
  try simp only [Exit.inBlock, Exit.then]
  refine ⟨rfl, ?_⟩
  exact .inr ⟨by rw [HR1.out hE]; exact hE, q, hq, rfl, by rw [HR1.out hE]; exact Hbad.out, H2.out⟩
theorem readClock_any (p : Nat) (s : ByteArray) (a : Nat) (w : World) (hI : InAt w p s a none) (hb : s.size ≤ 140737488355328) :
  Calls Tryz.prog 46 #[ptr p] w (Reads p s (ckR (lst s) a) (.int .i64 (fstM ((lst s).drop a) 4096).1) w) := by
 have HI := Keep.mk hI
 have hrg := fst_rng ((lst s).drop a) ((lst_byts s).drop a) 4096 (by decide)
 have hc0 : Calls Tryz.prog 48 #[ptr p, .int .u64 4096] w (RdPost p s (fstM ((lst s).drop a) 4096).2.2 (a + (fstM ((lst s).drop a) 4096).2.1.toNat) (.int .u64 (fstM ((lst s).drop a) 4096).1) w) := inum_good p s a 4096 w hI hb
 obtain ⟨R, hR⟩ : ∃ R, R = ckR (lst s) a := ⟨_, rfl⟩
 rw [← hR]
 unfold ckR at hR
 generalize fstM ((lst s).drop a) 4096 = M at *
 obtain ⟨c, n, W⟩ := M
 simp only at hR hc0 hrg ⊢
 obtain ⟨N, hN⟩ : ∃ N, N = n.toNat := ⟨_, rfl⟩
 rw [← hN] at hR hc0
 have HC := Keep.mk hc0
 have Hcr := Keep.mk hrg
 have HR1 : Keep (¬ W = 0 → R = (W, a + N)) := ⟨fun h => by rw [hR, if_pos h]⟩
 have HR2 : Keep (W = 0 → ¬ c = 0 → R = (0, a + N)) := ⟨fun h1 h2 => by rw [hR, if_neg (by simp [h1]), if_neg h2]⟩
 have HR3 : Keep (W = 0 → c = 0 → R = (51, a)) := ⟨fun h1 h2 => by rw [hR, if_neg (by simp [h1]), if_pos h2]⟩
 clear hI hb hR hN hrg hc0
 go_enter Tryz.func46, Tryz.ntmps46
 refine wp_seq_k fun K1 hK1 => rgn ?_
 refine VlS (.int .i64 0) ?_
 refine WL.nil (hK1 _ _ ?_)
 refine wp_seq_k fun K2 hK2 => rgn ?_
 refine VlS (.pointer (some ⟨p, 0, none⟩)) ?_
 refine WL.callF (by kernel_rfl) 45 _ _ rfl Tryz.in45 #[ptr p] (by simp [Act.eval]) ?_
 refine (iat_any p s a none w HI.out).mono ?_
 rintro e w0 ⟨rfl, hw0⟩
 rw [hw0]
 clear hw0 w0
 refine ⟨_, rfl, ?_⟩
 simp only [Act.put, pqA, pqB, pqC]
 refine VlS (.int .i64 (a : Int)) ?_
 refine WL.nil (hK2 _ _ ?_)
 refine wp_seq_k fun K3 hK3 => rgn ?_
 refine VlS (.pointer (some ⟨p, 0, none⟩)) ?_
 refine WL.callF (by kernel_rfl) 48 _ _ rfl Tryz.in48 #[ptr p, .int .u64 4096] (by simp [Act.eval]) ?_
 refine (HC.out).mono ?_
 rintro e w1 ⟨bad, er, rfl, h1, h2, h3⟩
 refine ⟨_, rfl, ?_⟩
 have H1 := Keep.mk h1
 have H2 := Keep.mk h2
 have H3 := Keep.mk h3
 clear h1 h2 h3
 simp only [Act.put, pqA, pqB, pqC]
 by_cases hE : W = 0
 ·rcases H3.out with ⟨e1, rfl, rfl⟩ | ⟨e1, _⟩
  rotate_left
  ·exact absurd hE e1
  have hwc : IntKind.i64.wrap c = c := by rw [IntKind.wrap_i64]; have := Hcr.out; omega
  refine VlS (.int .u64 c) ?_
  refine VlS (.nilIface) ?_
  refine WL.callF (by kernel_rfl) 47 _ _ rfl Tryz.in47 #[.int .u64 c, .nilIface] (by simp [Act.eval]) ?_
  refine (must47_ok (.int .u64 c) w1).mono ?_
  rintro e w0 ⟨rfl, hw0⟩
  rw [hw0]
  clear hw0 w0
  refine ⟨_, rfl, ?_⟩
  simp only [Act.put, pqA, pqB, pqC]
  refine VlS (.int .i64 c) ?_
  refine VlS (.int .i64 c) ?_
  refine WL.nil (hK3 _ _ ?_)
  refine wp_seq_k fun K4 hK4 => ?_
  refine wp_seq_k fun K5 hK5 => rgn ?_
  refine VlS (.int .i64 c) ?_
  by_cases h3_1 : c = 0
  ·skip
   refine VlS (.bool true) ?_
   refine WL.nil (hK5 _ _ ?_)
   refine wp_cond_true rfl ?_
   refine rgn ?_
   refine VlS (.int .i64 (a : Int)) ?_
   refine WL.callP (by kernel_rfl) 50 _ _ rfl Tryz.in50 #[.int .i64 51, .int .i64 (a : Int)] (by simp [Act.eval]) ?_
   refine (at_any 51 a w1).mono ?_
   rintro e wz ⟨rfl, hbz, hwz⟩
   have HBd : Keep (BadAt wz w1.heap.size 51 a) := ⟨hbz⟩
   have HGd : Keep (Grown w wz fun k => k = p) := ⟨H2.out.trans (Grown.below hwz)⟩
   clear hbz hwz
   refine .inr ⟨_, rfl, ?_⟩
   try simp only [Exit.inBlock, Exit.then]
   refine ⟨rfl, ?_⟩
   exact .inr ⟨by rw [HR3.out hE h3_1]; exact (by decide : (51 : Int) ≠ 0), w1.heap.size, H2.out.size, rfl, by rw [HR3.out hE h3_1]; exact HBd.out, HGd.out⟩
  ·skip
   refine VlS (.bool false) ?_
   refine WL.nil (hK5 _ _ ?_)
   refine wp_cond_false rfl ?_
   refine wp_skip ?_
   refine hK4 _ _ ?_
   refine wp_seq_k fun K6 hK6 => rgn ?_
   refine VlS (.int .i64 c) ?_
   refine VlS (.int .i64 c) ?_
   refine WL.nil (hK6 _ _ ?_)
   refine wp_ret ?_
   go_ret
   exact .inl ⟨by rw [HR2.out hE h3_1], rfl, by rw [HR2.out hE h3_1]; exact H1.out, H2.out⟩
 ·rcases H3.out with ⟨e1, _, _⟩ | ⟨_, q, hq, rfl, rfl, hbad⟩
  ·exact absurd e1 hE
  have Hbad := Keep.mk hbad
  clear hbad
  unfold err
  refine VlS (.int .u64 c) ?_
  refine VlS (.iface 69 (ptr q)) ?_
  refine WL.callP (by kernel_rfl) 47 _ _ rfl Tryz.in47 #[.int .u64 c, err q] (by simp [Act.eval, err]) ?_
  refine (must47_bad _ q w1).mono ?_
  rintro e w' ⟨rfl, rfl⟩
  refine .inr ⟨_, rfl, ?_⟩
  try simp only [Exit.inBlock, Exit.then]
  refine ⟨rfl, ?_⟩
  exact .inr ⟨by rw [HR1.out hE]; exact hE, q, hq, rfl, by rw [HR1.out hE]; exact Hbad.out, H2.out⟩
end Go.Proofs.YtdeiicldfgkidaaGreat
