import Derived.Test.YtbbhjgflaiacaaaOrdJ
namespace Go.Proofs.Ytbbhjgflaiacaaa
open Go.RowKit Go.Sort

theorem grown_below' (w : World) (q B : Nat) : Below B w (w.drewN q) := ⟨rfl, rfl, rfl, Nat.le_refl _, fun _ _ => rfl⟩
theorem take_setH (E : List Hs) (k : Nat) (x : Hs) (hk : k < E.length) : (E.set k x).take (k + 1) = E.take k ++ [x] := by
  rw [List.set_eq_take_append_cons_drop, if_pos hk, List.take_append, List.take_of_length_le (by rw [List.length_take]; omega), List.length_take, Nat.min_eq_left (by omega), show k + 1 - k = 1 by omega]
  simp
theorem once_snoc : ∀ (l : List Hs) (y x : Hs), once (l ++ [y] ++ [x]) = if y = x then once (l ++ [y]) else once (l ++ [y]) ++ [x]
  | [], y, x => by
    by_cases h : y = x
    · subst h; simp [once]
    · simp [once, h]
  | [z], y, x => by
    by_cases h1 : z = y
    · subst h1
      by_cases h : z = x
      · subst h; simp [once]
      · simp [once, h]
    · by_cases h : y = x
      · subst h; simp [once, h1]
      · simp [once, h, h1]
  | z :: z2 :: l, y, x => by
    have ih := once_snoc (z2 :: l) y x
    simp only [List.cons_append] at ih ⊢
    rw [once, ih, once]
    by_cases h1 : z = z2
    · rw [if_pos h1, if_pos h1]
    · rw [if_neg h1, if_neg h1]
      by_cases h : y = x
      · rw [if_pos h, if_pos h]
      · rw [if_neg h, if_neg h]; rfl
theorem once_take (D : List Hs) (s : Nat) (h : s + 1 < D.length) : once (D.take (s + 2)) = if D[s] = D[s + 1] then once (D.take (s + 1)) else once (D.take (s + 1)) ++ [D[s + 1]] := by
  have h1 : D.take (s + 1) = D.take s ++ [D[s]] := (List.take_append_getElem (by omega)).symm
  have h2 : D.take (s + 2) = D.take (s + 1) ++ [D[s + 1]] := (List.take_append_getElem h).symm
  rw [h2, h1, once_snoc]
theorem once_short : ∀ (D : List Hs), D.length < 2 → once D = D
  | [], _ => rfl
  | [_], _ => rfl
  | _ :: _ :: _, h => by simp only [List.length_cons] at h; omega
theorem once_length : ∀ (D : List Hs), (once D).length ≤ D.length
  | [] => Nat.le_refl _
  | [_] => Nat.le_refl _
  | x :: y :: r => by
    have ih := once_length (y :: r)
    rw [once]
    by_cases h : x = y
    · rw [if_pos h]; simp only [List.length_cons] at ih ⊢; omega
    · rw [if_neg h]; simp only [List.length_cons] at ih ⊢; omega

theorem blk_range {w : World} {g : Nat} {E : List Hs} (h : Blk w g 23 (flatH E).toArray) (i : Nat) (hi : i < E.length) : w.rangeAt g (i * 32) (encH E[i]) := fun j v hv => by
  have hj : j < 32 := by have := (List.getElem?_eq_some_iff.1 hv).1; rwa [encH_len] at this
  rw [h.cell, List.getElem?_toArray, flatH_get E i hi j hj]; exact hv
theorem blk_range_of {w : World} {g : Nat} {E D : List Hs} (h : Blk w g 23 (flatH E).toArray) (i : Nat) (hi : i < D.length) (he : E[i]? = D[i]?) : w.rangeAt g (i * 32) (encH D[i]) := by
  rw [List.getElem?_eq_getElem hi] at he
  obtain ⟨hi2, he2⟩ := List.getElem?_eq_some_iff.1 he
  rw [← he2]
  exact blk_range h i hi2

theorem wpList_clearH {ops : Array Oper} {rest : List Oper} {o : Oper} {a : Act} {w : World} {Q : Exit → Act → World → Prop} (hgd : o.guard = none) (x : Operand)
    (ho : o.op = .call { callee := .builtin .clear, args := #[x], argTypes := #[45] }) (g k m c : Nat) (E : List Hs) (hx : a.eval x = .slice (some ⟨g, k * 32, none⟩) m c)
    (hg : Blk w g 23 (flatH E).toArray) (hl : E.length = k + m) (hm : 0 < m)
    (h : wpList Try.prog ops Q rest (a.put o.dst (.tuple #[])) (w.setRow g (flatH (E.take k ++ List.replicate m default)).toArray)) : wpList Try.prog ops Q (o :: rest) a w := by
  have hrun := run_clearH w g k m c E o.type hg hl hm
  generalize (flatH (E.take k ++ List.replicate m default)).toArray = G at *
  refine wpList_plain hgd fun K hK => ?_
  unfold Oper.wp
  simp only [execOp, ho, resolve, invoke, builtin, List.map_toArray, List.map_cons, List.map_nil, hx, Sem.run_bind, Sem.run_pure, hrun, Result.andThen_ok]
  exact hK _ _ h

/-- What Compact leaves. -/
def CompPost (g n : Nat) (D : List Hs) (w : World) (e : Ending) (w' : World) : Prop :=
  ∃ (k : Nat) (E : List Hs), e = .returned (.slice (some ⟨g, 0, none⟩) k n) ∧ k ≤ n ∧ E.length = n ∧ E.take k = once D ∧ Blk w' g 23 (flatH E).toArray ∧ ∀ B, B ≤ g → Below B w w'

set_option maxHeartbeats 400000 in
theorem compact_short (g n : Nat) (D : List Hs) (w : World) (h : Blk w g 23 (flatH D).toArray) (hD : D.length = n) (h2 : n < 2) : Calls Try.prog 44 #[.slice (some ⟨g, 0, none⟩) n n] w (CompPost g n D w) := by
  have H : Keep (Blk w g 23 (flatH D).toArray) := ⟨h⟩
  have HD : Keep (D.length = n) := ⟨hD⟩
  clear h hD
  have h2' : (n : Int) < 2 := by omega
  go_enter Try.func44, Try.ntmps44
  go_wp2
  go_ret
  exact ⟨n, D, rfl, Nat.le_refl _, HD.out, by rw [List.take_of_length_le (by rw [HD.out]; omega), once_short D (by rw [HD.out]; exact h2)], H.out, fun B hB => Below.refl _ _⟩

set_option maxRecDepth 20000 in
set_option maxHeartbeats 1000000 in
theorem compact_walk (g n : Nat) (D : List Hs) (w : World) (h : Blk w g 23 (flatH D).toArray) (hD : D.length = n) (h2 : 2 ≤ n) (hn : n ≤ 4398046511104) : Calls Try.prog 44 #[.slice (some ⟨g, 0, none⟩) n n] w (CompPost g n D w) := by
  have H : Keep (Blk w g 23 (flatH D).toArray) := ⟨h⟩
  have HD : Keep (D.length = n) := ⟨hD⟩
  have hu := Try.underlying23
  clear h hD
  have h2' : ¬ ((n : Int) < 2) := by omega
  go_enter Try.func44, Try.ntmps44
  go_wp2
  go_loopw [3] (fun i wr => ∃ k q : Nat, 1 ≤ k ∧ k ≤ n ∧ i = .int .i64 (k : Int) ∧ once (D.take k) = D.take k ∧ wr = w.drewN q) (fun i _ => n - (intOf i).toNat)
  case atStart => exact ⟨1, 0, by omega, by omega, rfl, once_short _ (by rw [List.length_take]; omega), by rw [World.drewN_zero]⟩
  case round =>
    obtain ⟨k0, q, hk1, hkn, rfl, hon, rfl⟩ := hrel
    have HON : Keep (once (D.take k0) = D.take k0) := ⟨hon⟩
    clear hon
    by_cases hlt : k0 < n
    · obtain ⟨s, hs⟩ : ∃ s, Keep (k0 = s + 1) := ⟨k0 - 1, ⟨by omega⟩⟩
      have l1 : k0 < D.length := by rw [HD.out]; exact hlt
      have l2 : s < D.length := by have := hs.out; omega
      have heq := run_eqlL D[k0] D[s]
      have cA : (w.drewN q).drew.rangeAt g (k0 * 32) (encH D[k0]) := rangeAt_drew (rangeAt_drewN (blk_range H.out k0 l1))
      have cB : (w.drewN q).drew.rangeAt g (s * 32) (encH D[s]) := rangeAt_drew (rangeAt_drewN (blk_range H.out s l2))
      have hi1 := Try.size23L D[k0]
      have hi2 := Try.size23L D[s]
      obtain ⟨E, hE⟩ : ∃ E, Keep (E = decide (D[k0] = D[s])) := ⟨_, ⟨rfl⟩⟩
      rw [← hE.out] at heq
      have HE : Keep (E = false → once (D.take (k0 + 1)) = D.take (k0 + 1)) := ⟨fun h => by
        have h1 := hE.out; rw [h] at h1
        have h3 := hs.out
        subst h3
        rw [once_take D s l1, if_neg (fun e => of_decide_eq_false h1.symm e.symm), HON.out]
        exact List.take_append_getElem l1⟩
      have HF : Keep (E = true → once (D.take (k0 + 1)) = D.take k0) := ⟨fun h => by
        have h1 := hE.out; rw [h] at h1
        have h3 := hs.out
        subst h3
        rw [once_take D s l1, if_pos (of_decide_eq_true h1.symm).symm, HON.out]⟩
      clear hE
      generalize encH D[k0] = CA at *
      generalize encH D[s] = CB at *
      obtain ⟨wn, hwn⟩ : ∃ wn, Keep (w.drewN q = wn) := ⟨_, ⟨rfl⟩⟩
      rw [hwn.out] at cA cB ⊢
      have hsn : s < n := by have := hs.out; omega
      have f1 : (k0 : Int) < (n : Int) := by omega
      have f2 : (k0 : Int) - 1 = (s : Int) := by have := hs.out; omega
      have f3 : IntKind.i64.wrap (s : Int) = (s : Int) := by rw [IntKind.wrap_i64]; omega
      have f4 : (s : Int) < (n : Int) := by omega
      clear l1 l2
      go_wp2
      refine wp_region_held_drew (S := fun w' => w'.rangeAt g (k0 * 32) CA ∧ w'.rangeAt g (s * 32) CB) (by kernel_rfl) ⟨cA, cB⟩ (fun hHeld => ?_)
      refine wpAnyH_take (i := 0) (oi := ⟨some 16, Op.move (Operand.tmp 0), 45, _, _, none⟩) (v := Value.slice (some ⟨g, 0, none⟩) n n) rfl (by kernel_rfl) (by kernel_rfl) (by kernel_rfl) (fun _ _ _ h => h) (Or.inl ⟨by rfl, fun w hS => by go_simp⟩) hHeld ?_
      simp only [Act.put, List.setIfInBounds_toArray, List.set_cons_zero, List.set_cons_succ]
      refine wpAnyH_take (i := 1) (oi := ⟨some 17, Op.move (Operand.tmp 3), 3, _, _, none⟩) (v := .int .i64 (k0 : Int)) rfl (by kernel_rfl) (by kernel_rfl) (by kernel_rfl) (fun _ _ _ h => h) (Or.inl ⟨by rfl, fun w hS => by go_simp⟩) hHeld ?_
      simp only [Act.put, List.setIfInBounds_toArray, List.set_cons_zero, List.set_cons_succ]
      refine wpAnyH_take (i := 2) (oi := ⟨some 18, Op.indexAddr 45 (Operand.tmp 16) (Operand.tmp 17), 0, _, _, none⟩) (v := .pointer (some ⟨g, k0 * 32, none⟩)) rfl (by kernel_rfl) (by kernel_rfl) (by kernel_rfl) (fun _ _ _ h => h) (Or.inl ⟨by rfl, fun w hS => by go_simp⟩) hHeld ?_
      simp only [Act.put, List.setIfInBounds_toArray, List.set_cons_zero, List.set_cons_succ]
      refine wpAnyH_take (i := 3) (oi := ⟨some 19, Op.load 23 (Operand.tmp 18), 23, _, _, none⟩) (v := .agg (CA).toArray) rfl (by kernel_rfl) (by kernel_rfl) (by kernel_rfl) (fun _ _ _ h => h) (yieldsIf_load_mid (by rfl) 23 (Operand.tmp 18) rfl g (k0 * 32) rfl CA _ (fun w hS => hS.1) hu rfl hi1) hHeld ?_
      simp only [Act.put, List.setIfInBounds_toArray, List.set_cons_zero, List.set_cons_succ]
      refine wpAnyH_take (i := 4) (oi := ⟨some 20, Op.move (Operand.tmp 0), 45, _, _, none⟩) (v := Value.slice (some ⟨g, 0, none⟩) n n) rfl (by kernel_rfl) (by kernel_rfl) (by kernel_rfl) (fun _ _ _ h => h) (Or.inl ⟨by rfl, fun w hS => by go_simp⟩) hHeld ?_
      simp only [Act.put, List.setIfInBounds_toArray, List.set_cons_zero, List.set_cons_succ]
      refine wpAnyH_take (i := 5) (oi := ⟨some 21, Op.move (Operand.tmp 3), 3, _, _, none⟩) (v := .int .i64 (k0 : Int)) rfl (by kernel_rfl) (by kernel_rfl) (by kernel_rfl) (fun _ _ _ h => h) (Or.inl ⟨by rfl, fun w hS => by go_simp⟩) hHeld ?_
      simp only [Act.put, List.setIfInBounds_toArray, List.set_cons_zero, List.set_cons_succ]
      refine wpAnyH_take (i := 6) (oi := ⟨some 22, Op.binOp BinOp.sub 3 (Operand.tmp 21) (Operand.const (Value.int IntKind.i64 1)) 3, 3, _, _, none⟩) (v := .int .i64 (s : Int)) rfl (by kernel_rfl) (by kernel_rfl) (by kernel_rfl) (fun _ _ _ h => h) (Or.inl ⟨by rfl, fun w hS => by go_simp⟩) hHeld ?_
      simp only [Act.put, List.setIfInBounds_toArray, List.set_cons_zero, List.set_cons_succ]
      refine wpAnyH_take (i := 7) (oi := ⟨some 23, Op.indexAddr 45 (Operand.tmp 20) (Operand.tmp 22), 0, _, _, none⟩) (v := .pointer (some ⟨g, s * 32, none⟩)) rfl (by kernel_rfl) (by kernel_rfl) (by kernel_rfl) (fun _ _ _ h => h) (Or.inl ⟨by rfl, fun w hS => by go_simp⟩) hHeld ?_
      simp only [Act.put, List.setIfInBounds_toArray, List.set_cons_zero, List.set_cons_succ]
      refine wpAnyH_take (i := 8) (oi := ⟨some 24, Op.load 23 (Operand.tmp 23), 23, _, _, none⟩) (v := .agg (CB).toArray) rfl (by kernel_rfl) (by kernel_rfl) (by kernel_rfl) (fun _ _ _ h => h) (yieldsIf_load_mid (by rfl) 23 (Operand.tmp 23) rfl g (s * 32) rfl CB _ (fun w hS => hS.2) hu rfl hi2) hHeld ?_
      simp only [Act.put, List.setIfInBounds_toArray, List.set_cons_zero, List.set_cons_succ]
      refine wpAnyH_take (i := 9) (oi := ⟨some 25, Op.binOp BinOp.eql 23 (Operand.tmp 19) (Operand.tmp 24) 23, 4, _, _, none⟩) (v := .bool E) rfl (by kernel_rfl) (by kernel_rfl) (by kernel_rfl) (fun _ _ _ h => h) (Or.inl ⟨by rfl, fun w hS => by go_simp⟩) hHeld ?_
      simp only [Act.put, List.setIfInBounds_toArray, List.set_cons_zero, List.set_cons_succ]
      refine wpAnyH_done (by kernel_rfl) ?_ _
      have HD1 : Keep (∃ k, wn.drew = w.drewN k) := ⟨_, by rw [← hwn.out, World.drew_drewN]⟩
      cases E with
      | false =>
        have HE2 : Keep (once (D.take (k0 + 1)) = D.take (k0 + 1)) := ⟨HE.out rfl⟩
        clear HF HE
        go_wp2
        go_roundw
        case rel =>
          obtain ⟨k, hk⟩ := HD1.out
          exact ⟨k0 + 1, k, by omega, by omega, by go_num, HE2.out, hk⟩
        case measure => simp [intOf]; omega
      | true =>
        have HF2 : Keep (once (D.take (k0 + 1)) = D.take k0) := ⟨HF.out rfl⟩
        clear HF HE
        have f5 : (k0 : Int) ≤ (n : Int) := by omega
        have f6 : ¬ (n - k0 = 0) := by omega
        go_wp2
        have hstart : Blk wn.drew g 23 (flatH D).toArray := by rw [← hwn.out]; exact H.out
        have hstB : ∀ B, B ≤ g → Below B w wn.drew := fun B _ => by rw [← hwn.out]; rw [World.drew_drewN]; exact grown_below' w _ B
        go_loopw [3, 5] (fun a b wr => ∃ (k c d : Nat) (E : List Hs), c = d + 1 ∧ c ≤ n - k0 ∧ 1 ≤ k ∧ k ≤ k0 + d ∧ a = .int .i64 (k : Int) ∧ b = .int .i64 (c : Int) ∧ E.length = n ∧ E.take k = once (D.take (k0 + c)) ∧ (∀ i, k0 + d ≤ i → E[i]? = D[i]?) ∧ Blk wr g 23 (flatH E).toArray ∧ ∀ B, B ≤ g → Below B w wr) (fun _ b _ => n - (intOf b).toNat)
        case atStart => exact ⟨k0, 1, 0, D, rfl, by omega, hk1, by omega, rfl, rfl, HD.out, HF2.out.symm, fun i _ => rfl, hstart, hstB⟩
        case round =>
          clear hstart hstB
          obtain ⟨k, c, d, E, hcd, hc, hk1', hkd, rfl, rfl, hEl, hEt, hEd, hEb, hEB⟩ := hrel
          have HCD : Keep (c = d + 1) := ⟨hcd⟩
          have HEl : Keep (E.length = n) := ⟨hEl⟩
          have HEt : Keep (E.take k = once (D.take (k0 + c))) := ⟨hEt⟩
          have HEd : Keep (∀ i, k0 + d ≤ i → E[i]? = D[i]?) := ⟨hEd⟩
          have HEb : Keep (Blk wr g 23 (flatH E).toArray) := ⟨hEb⟩
          have HEB : Keep (∀ B, B ≤ g → Below B w wr) := ⟨hEB⟩
          have hdn : d + 1 ≤ n - k0 := by omega
          clear hcd hEl hEt hEd hEb hEB
          have g1 : (c : Int) - 1 = (d : Int) := by have := HCD.out; omega
          have g2 : IntKind.i64.wrap (d : Int) = (d : Int) := by rw [IntKind.wrap_i64]; omega
          have g3 : (d : Int) < ((n - k0 : Nat) : Int) := by omega
          have gkn : (k : Int) < (n : Int) := by omega
          obtain ⟨r, hr⟩ : ∃ r, Keep (n - k0 = r) := ⟨_, ⟨rfl⟩⟩
          rw [hr.out] at g3 hc hdn ⊢
          by_cases hcl : c < r
          · have m1 : k0 + c < D.length := by have := hr.out; rw [HD.out]; omega
            have m2 : k0 + d < D.length := by have := hr.out; rw [HD.out]; omega
            have g4 : (c : Int) < (r : Int) := by omega
            have hneq := run_neqL D[k0 + c] D[k0 + d]
            have cA : wr.drew.rangeAt g (k0 * 32 + c * 32) (encH D[k0 + c]) := by
              rw [← Nat.add_mul]; exact rangeAt_drew (blk_range_of HEb.out (k0 + c) m1 (HEd.out _ (by have := HCD.out; omega)))
            have cB : wr.drew.rangeAt g (k0 * 32 + d * 32) (encH D[k0 + d]) := by
              rw [← Nat.add_mul]; exact rangeAt_drew (blk_range_of HEb.out (k0 + d) m2 (HEd.out _ (Nat.le_refl _)))
            have hi1 := Try.size23L D[k0 + c]
            have hi2 := Try.size23L D[k0 + d]
            obtain ⟨x, hx⟩ : ∃ x, Keep (x = D[k0 + c]) := ⟨_, ⟨rfl⟩⟩
            obtain ⟨T, hT⟩ : ∃ T, Keep (T = !decide (D[k0 + c] = D[k0 + d])) := ⟨_, ⟨rfl⟩⟩
            rw [← hT.out] at hneq
            have HT0 : Keep (T = false → once (D.take (k0 + (c + 1))) = once (D.take (k0 + c))) := ⟨fun h => by
              have h1 := hT.out; rw [h] at h1
              have h3 := HCD.out
              subst h3
              have := once_take D (k0 + d) (by omega)
              have h2 : D[k0 + d + 1] = D[k0 + d] := of_decide_eq_true ((Bool.not_eq_false' _).mp h1.symm)
              rw [show k0 + (d + 1 + 1) = k0 + d + 2 by omega, this, if_pos h2.symm]
              rfl⟩
            have HT1 : Keep (T = true → once (D.take (k0 + (c + 1))) = once (D.take (k0 + c)) ++ [x]) := ⟨fun h => by
              have h1 := hT.out; rw [h] at h1
              have h3 := HCD.out
              subst h3
              have := once_take D (k0 + d) (by omega)
              have h2 : ¬ D[k0 + d + 1] = D[k0 + d] := of_decide_eq_false ((Bool.not_eq_true' _).mp h1.symm)
              rw [show k0 + (d + 1 + 1) = k0 + d + 2 by omega, this, if_neg (fun e => h2 e.symm), hx.out]
              rfl⟩
            have HX : Keep (E[k0 + c]? = some x) := ⟨by rw [HEd.out _ (by have := HCD.out; omega), List.getElem?_eq_getElem m1, hx.out]⟩
            rw [← hx.out] at hneq cA hi1
            clear hT hx
            obtain ⟨CA, hCA⟩ : ∃ CA, Keep (encH x = CA) := ⟨_, ⟨rfl⟩⟩
            rw [hCA.out] at hneq cA hi1
            generalize encH D[k0 + d] = CB at *
            have hrn : r ≤ n := by have := hr.out; omega
            clear m1 m2
            go_wp2
            refine wp_region_held_drew (S := fun w' => w'.rangeAt g (k0 * 32 + c * 32) CA ∧ w'.rangeAt g (k0 * 32 + d * 32) CB) (by kernel_rfl) ⟨cA, cB⟩ (fun hHeld => ?_)
            refine wpAnyH_take (i := 0) (oi := ⟨some 35, Op.move (Operand.tmp 4), 45, _, _, none⟩) (v := Value.slice (some ⟨g, k0 * 32, none⟩) r r) rfl (by kernel_rfl) (by kernel_rfl) (by kernel_rfl) (fun _ _ _ h => h) (Or.inl ⟨by rfl, fun w hS => by go_simp⟩) hHeld ?_
            simp only [Act.put, List.setIfInBounds_toArray, List.set_cons_zero, List.set_cons_succ]
            refine wpAnyH_take (i := 1) (oi := ⟨some 36, Op.move (Operand.tmp 5), 3, _, _, none⟩) (v := .int .i64 (c : Int)) rfl (by kernel_rfl) (by kernel_rfl) (by kernel_rfl) (fun _ _ _ h => h) (Or.inl ⟨by rfl, fun w hS => by go_simp⟩) hHeld ?_
            simp only [Act.put, List.setIfInBounds_toArray, List.set_cons_zero, List.set_cons_succ]
            refine wpAnyH_take (i := 2) (oi := ⟨some 37, Op.indexAddr 45 (Operand.tmp 35) (Operand.tmp 36), 0, _, _, none⟩) (v := .pointer (some ⟨g, k0 * 32 + c * 32, none⟩)) rfl (by kernel_rfl) (by kernel_rfl) (by kernel_rfl) (fun _ _ _ h => h) (Or.inl ⟨by rfl, fun w hS => by go_simp⟩) hHeld ?_
            simp only [Act.put, List.setIfInBounds_toArray, List.set_cons_zero, List.set_cons_succ]
            refine wpAnyH_take (i := 3) (oi := ⟨some 38, Op.load 23 (Operand.tmp 37), 23, _, _, none⟩) (v := .agg (CA).toArray) rfl (by kernel_rfl) (by kernel_rfl) (by kernel_rfl) (fun _ _ _ h => h) (yieldsIf_load_mid (by rfl) 23 (Operand.tmp 37) rfl g (k0 * 32 + c * 32) rfl CA _ (fun w hS => hS.1) hu rfl hi1) hHeld ?_
            simp only [Act.put, List.setIfInBounds_toArray, List.set_cons_zero, List.set_cons_succ]
            refine wpAnyH_take (i := 4) (oi := ⟨some 39, Op.move (Operand.tmp 4), 45, _, _, none⟩) (v := Value.slice (some ⟨g, k0 * 32, none⟩) r r) rfl (by kernel_rfl) (by kernel_rfl) (by kernel_rfl) (fun _ _ _ h => h) (Or.inl ⟨by rfl, fun w hS => by go_simp⟩) hHeld ?_
            simp only [Act.put, List.setIfInBounds_toArray, List.set_cons_zero, List.set_cons_succ]
            refine wpAnyH_take (i := 5) (oi := ⟨some 40, Op.move (Operand.tmp 5), 3, _, _, none⟩) (v := .int .i64 (c : Int)) rfl (by kernel_rfl) (by kernel_rfl) (by kernel_rfl) (fun _ _ _ h => h) (Or.inl ⟨by rfl, fun w hS => by go_simp⟩) hHeld ?_
            simp only [Act.put, List.setIfInBounds_toArray, List.set_cons_zero, List.set_cons_succ]
            refine wpAnyH_take (i := 6) (oi := ⟨some 41, Op.binOp BinOp.sub 3 (Operand.tmp 40) (Operand.const (Value.int IntKind.i64 1)) 3, 3, _, _, none⟩) (v := .int .i64 (d : Int)) rfl (by kernel_rfl) (by kernel_rfl) (by kernel_rfl) (fun _ _ _ h => h) (Or.inl ⟨by rfl, fun w hS => by go_simp⟩) hHeld ?_
            simp only [Act.put, List.setIfInBounds_toArray, List.set_cons_zero, List.set_cons_succ]
            refine wpAnyH_take (i := 7) (oi := ⟨some 42, Op.indexAddr 45 (Operand.tmp 39) (Operand.tmp 41), 0, _, _, none⟩) (v := .pointer (some ⟨g, k0 * 32 + d * 32, none⟩)) rfl (by kernel_rfl) (by kernel_rfl) (by kernel_rfl) (fun _ _ _ h => h) (Or.inl ⟨by rfl, fun w hS => by go_simp⟩) hHeld ?_
            simp only [Act.put, List.setIfInBounds_toArray, List.set_cons_zero, List.set_cons_succ]
            refine wpAnyH_take (i := 8) (oi := ⟨some 43, Op.load 23 (Operand.tmp 42), 23, _, _, none⟩) (v := .agg (CB).toArray) rfl (by kernel_rfl) (by kernel_rfl) (by kernel_rfl) (fun _ _ _ h => h) (yieldsIf_load_mid (by rfl) 23 (Operand.tmp 42) rfl g (k0 * 32 + d * 32) rfl CB _ (fun w hS => hS.2) hu rfl hi2) hHeld ?_
            simp only [Act.put, List.setIfInBounds_toArray, List.set_cons_zero, List.set_cons_succ]
            refine wpAnyH_take (i := 9) (oi := ⟨some 44, Op.binOp BinOp.neq 23 (Operand.tmp 38) (Operand.tmp 43) 23, 4, _, _, none⟩) (v := .bool T) rfl (by kernel_rfl) (by kernel_rfl) (by kernel_rfl) (fun _ _ _ h => h) (Or.inl ⟨by rfl, fun w hS => by go_simp⟩) hHeld ?_
            simp only [Act.put, List.setIfInBounds_toArray, List.set_cons_zero, List.set_cons_succ]
            refine wpAnyH_done (by kernel_rfl) ?_ _
            cases T with
            | false =>
              have HT2 : Keep (once (D.take (k0 + (c + 1))) = once (D.take (k0 + c))) := ⟨HT0.out rfl⟩
              clear HT0 HT1
              go_wp2
              go_roundw
              case rel => exact ⟨k, c + 1, c, E, rfl, by omega, hk1', by have := HCD.out; omega, rfl, by go_num, HEl.out, by rw [HT2.out]; exact HEt.out, fun i hi => HEd.out i (by have := HCD.out; omega), HEb.out, fun B hB => (HEB.out B hB).drew⟩
              case measure => simp [intOf]; omega
            | true =>
              have HT2 : Keep (once (D.take (k0 + (c + 1))) = once (D.take (k0 + c)) ++ [x]) := ⟨HT1.out rfl⟩
              clear HT0 HT1
              have HBW : Keep (Blk wr.drew g 23 (flatH E).toArray) := HEb
              have cA2 : wr.drew.rangeAt g (k0 * 32 + c * 32) CA := cA
              go_wp2_with (first | (refine wpList_load_mid rfl 23 (.tmp 49) rfl g (k0 * 32 + c * 32) rfl CA (.array 32 5) cA2 hu rfl hi1 ?_) | (refine wpList_storeH rfl (.tmp 51) (.tmp 50) rfl g k x E rfl (by rw [hCA.out]; rfl) HBW.out (by rw [HEl.out]; omega) ?_))
              have HBn : Keep (Blk (wr.drew.setRow g (flatH (E.set k x)).toArray) g 23 (flatH (E.set k x)).toArray) := ⟨HBW.out.setRow _⟩
              have HBB : Keep (∀ B, B ≤ g → Below B w (wr.drew.setRow g (flatH (E.set k x)).toArray)) := ⟨fun B hB => below_setRow (HEB.out B hB).drew hB _⟩
              refine ⟨⟨k + 1, c + 1, c, E.set k x, rfl, by omega, by omega, by have := HCD.out; omega, by go_num, by go_num, by rw [List.length_set]; exact HEl.out, ?_, ?_, HBn.out, HBB.out⟩, by simp [intOf]; omega⟩
              · rw [HT2.out, ← HEt.out, take_setH E k x (by rw [HEl.out]; omega)]
              · intro i hi
                rw [List.getElem?_set_ne (by have := HCD.out; omega)]
                exact HEd.out i (by have := HCD.out; omega)
          · have hce : c = r := by omega
            have HFin : Keep (E.take k = once D) := ⟨by
              rw [HEt.out, List.take_of_length_le (by have := hr.out; rw [HD.out]; omega)]⟩
            have g4 : ¬ ((c : Int) < (r : Int)) := by omega
            have hkn : k < n := by have := hr.out; omega
            have g5 : (k : Int) ≤ (n : Int) := by omega
            have g6 : ¬ (n - k = 0) := by omega
            have HBn : Keep (Blk (wr.setRow g (flatH (E.take k ++ List.replicate (n - k) default)).toArray) g 23 (flatH (E.take k ++ List.replicate (n - k) default)).toArray) := ⟨HEb.out.setRow _⟩
            have HBB : Keep (∀ B, B ≤ g → Below B w (wr.setRow g (flatH (E.take k ++ List.replicate (n - k) default)).toArray)) := ⟨fun B hB => below_setRow (HEB.out B hB) hB _⟩
            have hlk : E.length = k + (n - k) := by rw [HEl.out]; omega
            have HLK : Keep (E.length = k + (n - k)) := ⟨hlk⟩
            clear hlk
            go_wp2_with (refine wpList_clearH rfl (.tmp 56) rfl g k (n - k) (n - k) E rfl HEb.out HLK.out (by omega) ?_)
            go_ret
            have hlt2 : (E.take k).length = k := by rw [List.length_take, HEl.out]; omega
            refine ⟨k, E.take k ++ List.replicate (n - k) default, rfl, by omega, by rw [List.length_append, hlt2, List.length_replicate]; omega, ?_, HBn.out, HBB.out⟩
            rw [List.take_append, hlt2, Nat.sub_self, List.take_zero, List.append_nil, List.take_of_length_le (by omega), HFin.out]
    · obtain rfl : k0 = n := by omega
      have HBB : Keep (∀ B, B ≤ g → Below B w (w.drewN q)) := ⟨fun B _ => grown_below' w q B⟩
      go_wp2
      go_ret
      refine ⟨k0, D, rfl, Nat.le_refl _, HD.out, ?_, H.out, HBB.out⟩
      have h := HON.out
      rw [List.take_of_length_le (by rw [HD.out]; exact Nat.le_refl _)] at h
      rw [List.take_of_length_le (by rw [HD.out]; exact Nat.le_refl _), h]

/-- slices.Compact at hashes. -/
theorem compact_any (g n : Nat) (D : List Hs) (w : World) (h : Blk w g 23 (flatH D).toArray) (hD : D.length = n) (hn : n ≤ 4398046511104) : Calls Try.prog 44 #[.slice (some ⟨g, 0, none⟩) n n] w (CompPost g n D w) := by
  by_cases h2 : n < 2
  · exact compact_short g n D w h hD h2
  · exact compact_walk g n D w h hD (by omega) hn
end Go.Proofs.Ytbbhjgflaiacaaa
