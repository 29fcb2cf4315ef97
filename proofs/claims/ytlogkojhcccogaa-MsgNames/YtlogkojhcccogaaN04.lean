import Derived.Test.YtlogkojhcccogaaN03
import Derived.Test.YtlogkojhcccogaaN02
namespace Go.Proofs.Ytlogkojhcccogaa
open Go.RowKit
set_option linter.unusedSimpArgs false
set_option linter.unusedVariables false

set_option maxRecDepth 8000 in
set_option maxHeartbeats 1000000 in
theorem rising_walk (n b o c : Nat) (L : List Hs) (w : World) (hL : L.length = n) (h1 : w.rangeAt b o (Sh.flatH L)) (hn : (n : Int) ≤ 9223372036854775806) (h0 : 0 < n) :
    Calls Try.prog 22 #[.slice (some ⟨b, o, none⟩) n c] w fun e w' => e = .returned (.bool (Sh.risesB L)) ∧ Below w.heap.size w w' := by
  obtain ⟨R, hR⟩ : ∃ R, Keep (R = Sh.risesB L) := ⟨_, ⟨rfl⟩⟩
  rw [← hR.out]
  have HL : Keep (L.length = n) := ⟨hL⟩
  have H1 : Keep (w.rangeAt b o (Sh.flatH L)) := ⟨h1⟩
  have hblt : b < w.heap.size := Sh.rangeAt_lt h1 (by omega)
  have hu := Try.underlying101
  clear hL h1
  go_enter Try.func22, Try.ntmps22
  go_wp2
  go_loopw [3] (fun i wr => ∃ t : Nat, t + 1 ≤ n ∧ i = .int .i64 ((t + 1 : Nat) : Int) ∧ (∀ k, k < t → Sh.cf (L.getD k default) (L.getD (k + 1) default) < 0) ∧ Below w.heap.size w wr) (fun i _ => n - (intOf i).toNat)
  case atStart => exact ⟨0, by omega, rfl, fun k hk => by omega, Below.refl _ _⟩
  case round =>
    obtain ⟨t, ht, rfl, hke, hB⟩ := hrel
    have HK : Keep (∀ k, k < t → Sh.cf (L.getD k default) (L.getD (k + 1) default) < 0) := ⟨hke⟩
    clear hke
    by_cases hlt : t + 1 < n
    · have l1 : t < L.length := by rw [HL.out]; omega
      have l2 : t + 1 < L.length := by rw [HL.out]; exact hlt
      have HC : Keep (∀ w, Calls Try.prog 56 #[.agg (Sh.encH L[t + 1]).toArray, .agg (Sh.encH L[t]).toArray] w fun e w' => e = .returned (.bool (decide (0 < Sh.cf L[t + 1] L[t]))) ∧ Below w.heap.size w w') := ⟨fun w => by
        rw [Sh.encH_arr, Sh.encH_arr]
        exact behind_any _ _ w⟩
      rw [Sh.cf_swap L[t] L[t + 1]] at HC
      have HS : Keep (∀ wx, Below wr.heap.size wr wx → wx.rangeAt b (o + t * 32) (Sh.encH L[t]) ∧ wx.rangeAt b (o + (t + 1) * 32) (Sh.encH L[t + 1])) := ⟨fun wx hx => by
        have hb2 := hB.trans (hx.mono hB.size)
        exact ⟨Sh.rangeAt_below (Sh.rangeAt_elem H1.out t l1) hb2 hblt, Sh.rangeAt_below (Sh.rangeAt_elem H1.out (t + 1) l2) hb2 hblt⟩⟩
      have hi1 := Sh.Try.size101L L[t]
      have hi2 := Sh.Try.size101L L[t + 1]
      obtain ⟨r, hr⟩ : ∃ r, Keep (r = Sh.cf L[t] L[t + 1]) := ⟨_, ⟨rfl⟩⟩
      rw [← hr.out] at HC
      have HE : Keep (r = Sh.cf (L.getD t default) (L.getD (t + 1) default)) := ⟨by
        rw [hr.out, List.getD_eq_getElem?_getD, List.getD_eq_getElem?_getD, List.getElem?_eq_getElem l1, List.getElem?_eq_getElem l2]; rfl⟩
      clear hr
      generalize Sh.encH L[t] = CA at *
      generalize Sh.encH L[t + 1] = CB at *
      clear l1 l2
      rename World => wn
      have hD0 : Below wn.heap.size wn wn.drew := (Below.refl _ _).drew
      have hlt' : ((t + 1 : Nat) : Int) < (n : Int) := by omega
      have hs1 : ((t + 1 : Nat) : Int) - 1 = (t : Int) := by omega
      have hlt2 : (t : Int) < (n : Int) := by omega
      have hwr : IntKind.i64.wrap (t : Int) = (t : Int) := by rw [IntKind.wrap_i64]; omega
      have hng : ¬ ((t : Int) + 1 < 0) := by omega
      go_wp2
      refine wp_region_held_drew (S := fun w' => w'.rangeAt b (o + t * 32) CA ∧ w'.rangeAt b (o + (t + 1) * 32) CB) (by kernel_rfl) (HS.out _ hD0) (fun hHeld => ?_)
      refine wpAnyH_take (i := 0) (oi := ⟨some 10, Op.move (Operand.tmp 0), 23, _, _, none⟩) (v := Value.slice (some ⟨b, o, none⟩) n c) rfl (by kernel_rfl) (by kernel_rfl) (by kernel_rfl) (fun _ _ _ h => h) (Or.inl ⟨by rfl, fun w hS => by go_simp⟩) hHeld ?_
      simp only [Act.put, List.setIfInBounds_toArray, List.set_cons_zero, List.set_cons_succ]
      refine wpAnyH_take (i := 1) (oi := ⟨some 11, Op.move (Operand.tmp 3), 3, _, _, none⟩) (v := .int .i64 ((t + 1 : Nat) : Int)) rfl (by kernel_rfl) (by kernel_rfl) (by kernel_rfl) (fun _ _ _ h => h) (Or.inl ⟨by rfl, fun w hS => by go_simp⟩) hHeld ?_
      simp only [Act.put, List.setIfInBounds_toArray, List.set_cons_zero, List.set_cons_succ]
      refine wpAnyH_take (i := 2) (oi := ⟨some 12, Op.indexAddr 23 (Operand.tmp 10) (Operand.tmp 11), 0, _, _, none⟩) (v := .pointer (some ⟨b, o + (t + 1) * 32, none⟩)) rfl (by kernel_rfl) (by kernel_rfl) (by kernel_rfl) (fun _ _ _ h => h) (Or.inl ⟨by rfl, fun w hS => by go_simp⟩) hHeld ?_
      simp only [Act.put, List.setIfInBounds_toArray, List.set_cons_zero, List.set_cons_succ]
      refine wpAnyH_take (i := 3) (oi := ⟨some 13, Op.load 101 (Operand.tmp 12), 101, _, _, none⟩) (v := .agg (CB).toArray) rfl (by kernel_rfl) (by kernel_rfl) (by kernel_rfl) (fun _ _ _ h => h) (yieldsIf_load_mid (by rfl) 101 (Operand.tmp 12) rfl b (o + (t + 1) * 32) rfl CB _ (fun w hS => hS.2) hu rfl hi2) hHeld ?_
      simp only [Act.put, List.setIfInBounds_toArray, List.set_cons_zero, List.set_cons_succ]
      refine wpAnyH_take (i := 4) (oi := ⟨some 14, Op.move (Operand.tmp 0), 23, _, _, none⟩) (v := Value.slice (some ⟨b, o, none⟩) n c) rfl (by kernel_rfl) (by kernel_rfl) (by kernel_rfl) (fun _ _ _ h => h) (Or.inl ⟨by rfl, fun w hS => by go_simp⟩) hHeld ?_
      simp only [Act.put, List.setIfInBounds_toArray, List.set_cons_zero, List.set_cons_succ]
      refine wpAnyH_take (i := 5) (oi := ⟨some 15, Op.move (Operand.tmp 3), 3, _, _, none⟩) (v := .int .i64 ((t + 1 : Nat) : Int)) rfl (by kernel_rfl) (by kernel_rfl) (by kernel_rfl) (fun _ _ _ h => h) (Or.inl ⟨by rfl, fun w hS => by go_simp⟩) hHeld ?_
      simp only [Act.put, List.setIfInBounds_toArray, List.set_cons_zero, List.set_cons_succ]
      refine wpAnyH_take (i := 6) (oi := ⟨some 16, Op.binOp BinOp.sub 3 (Operand.tmp 15) (Operand.const (Value.int IntKind.i64 1)) 3, 3, _, _, none⟩) (v := .int .i64 (t : Int)) rfl (by kernel_rfl) (by kernel_rfl) (by kernel_rfl) (fun _ _ _ h => h) (Or.inl ⟨by rfl, fun w hS => by go_simp⟩) hHeld ?_
      simp only [Act.put, List.setIfInBounds_toArray, List.set_cons_zero, List.set_cons_succ]
      refine wpAnyH_take (i := 7) (oi := ⟨some 17, Op.indexAddr 23 (Operand.tmp 14) (Operand.tmp 16), 0, _, _, none⟩) (v := .pointer (some ⟨b, o + t * 32, none⟩)) rfl (by kernel_rfl) (by kernel_rfl) (by kernel_rfl) (fun _ _ _ h => h) (Or.inl ⟨by rfl, fun w hS => by go_simp⟩) hHeld ?_
      simp only [Act.put, List.setIfInBounds_toArray, List.set_cons_zero, List.set_cons_succ]
      refine wpAnyH_take (i := 8) (oi := ⟨some 18, Op.load 101 (Operand.tmp 17), 101, _, _, none⟩) (v := .agg (CA).toArray) rfl (by kernel_rfl) (by kernel_rfl) (by kernel_rfl) (fun _ _ _ h => h) (yieldsIf_load_mid (by rfl) 101 (Operand.tmp 17) rfl b (o + t * 32) rfl CA _ (fun w hS => hS.1) hu rfl hi1) hHeld ?_
      simp only [Act.put, List.setIfInBounds_toArray, List.set_cons_zero, List.set_cons_succ]
      refine wpAnyH_ready (rs := [9]) (by kernel_rfl) (by simp) ?_
      refine AllReadyH.cons (o := ⟨some 19, Op.call { callee := Callee.value (Operand.func 56), args := #[Operand.tmp 13, Operand.tmp 18], argTypes := #[101, 101] }, 4, _, _, none⟩) rfl (fun K hK => ?_) AllReadyH.nil
      rw [if_pos (by rfl)]
      refine wp_callF 56 #[.tmp 13, .tmp 18] #[101, 101] rfl Try.in56 #[.agg CB.toArray, .agg CA.toArray] (by simp [Act.eval]) (fun v w' => v = .bool (decide (0 < -r)) ∧ Below wn.drew.heap.size wn.drew w') ((HC.out wn.drew).mono fun e w' h => ⟨_, h.1, rfl, h.2⟩) ?_
      rintro v w5 ⟨rfl, hb5⟩
      have hB5 : Below wn.heap.size wn w5 := hD0.trans (hb5.mono hD0.size)
      refine hK.out _ _ (HS.out _ hB5) fun hHeld5 => ?_
      clear hK
      simp only [Act.put, List.setIfInBounds_toArray, List.set_cons_zero, List.set_cons_succ]
      refine wpAnyH_take (i := 10) (oi := ⟨some 20, Op.unOp UnOp.not 4 (Operand.tmp 19), 4, _, _, none⟩) (v := .bool (!decide (0 < -r))) rfl (by kernel_rfl) (by kernel_rfl) (by kernel_rfl) (fun _ _ _ h => h) (Or.inl ⟨by rfl, fun w hS => by go_simp⟩) hHeld5 ?_
      simp only [Act.put, List.setIfInBounds_toArray, List.set_cons_zero, List.set_cons_succ]
      refine wpAnyH_done (by kernel_rfl) ?_ _
      have hBn : Below w.heap.size w w5 := hB.trans (hB5.mono hB.size)
      by_cases hr0 : 0 ≤ r
      · have hdd : (!decide (0 < -r)) = true := by simp; omega
        rw [hdd]
        clear hdd
        have HF : Keep (R = false) := ⟨by
          rw [hR.out, Bool.eq_false_iff]; intro h
          have := (Sh.risesB_iff L).1 h t (by rw [HL.out]; exact hlt)
          rw [← HE.out] at this; omega⟩
        go_wp2
        go_ret
        exact ⟨by rw [HF.out]; rfl, hBn⟩
      · have hdd : (!decide (0 < -r)) = false := by simp; omega
        rw [hdd]
        clear hdd
        have HE2 : Keep (Sh.cf (L.getD t default) (L.getD (t + 1) default) < 0) := ⟨by rw [← HE.out]; omega⟩
        go_wp2
        go_roundw
        case rel => exact ⟨t + 1, by omega, by go_num, fun k hk => by
            rcases Nat.lt_or_eq_of_le (Nat.le_of_lt_succ hk) with h | h
            · exact HK.out k h
            · subst h; exact HE2.out, hBn⟩
        case measure => simp [intOf]; omega
    · obtain rfl : t + 1 = n := by omega
      go_wp2
      go_ret
      refine ⟨?_, hB⟩
      rw [hR.out, (Sh.risesB_iff L).2 fun i hi => HK.out i (by have := HL.out; omega)]
      rfl
set_option maxRecDepth 8000 in
set_option maxHeartbeats 400000 in
theorem rising_none (a1 : Option Addr) (c1 : Nat) (w : World) : Calls Try.prog 22 #[.slice a1 0 c1] w fun e w' => e = .returned (.bool true) ∧ w' = w := by
  go_enter Try.func22, Try.ntmps22
  go_wp2
  refine wp_loop_rounds 1 ?_; rw [rounds_succ]
  go_wp2
  go_ret
  exact ⟨rfl, rfl⟩
theorem rising_any (v : Value) (L : List Hs) (w : World) (h : Sh.HRow w v L) (hn : (L.length : Int) ≤ 9223372036854775806) :
    Calls Try.prog 22 #[v] w fun e w' => e = .returned (.bool (Sh.risesB L)) ∧ Below w.heap.size w w' := by
  obtain ⟨a1, c1, rfl⟩ := h.form
  by_cases h0 : 0 < L.length
  · obtain ⟨b1, o1, rfl, _, _, r1⟩ := h.at h0
    exact rising_walk L.length b1 o1 c1 L w rfl r1 hn h0
  · have e1 : L = [] := List.eq_nil_of_length_eq_zero (by omega)
    subst e1
    exact (rising_none a1 c1 w).mono fun e w' h => ⟨by rw [h.1, (Sh.risesB_iff []).2 fun i hi => by simp at hi], by rw [h.2]; exact Below.refl _ _⟩

theorem pow_le10 {t : Nat} (ht : t ≤ 10) : (1 : Int) ≤ 2 ^ t ∧ (2 : Int) ^ t ≤ 1024 := by
  have h : ∀ t : Fin 11, (1 : Int) ≤ 2 ^ t.val ∧ (2 : Int) ^ t.val ≤ 1024 := by decide
  exact h ⟨t, by omega⟩
def isP (n : Int) : Bool := [8, 16, 32, 64, 128, 256, 512, 1024, 2048, 4096, 8192].contains n
theorem and_pow0 : ∀ a : Fin 65, ∀ b : Fin 128, 8 ≤ 128 * a.val + b.val → 128 * a.val + b.val ≤ 8192 → (bits .and .i64 ((128 * a.val + b.val : Nat) : Int) (((128 * a.val + b.val : Nat) : Int) - 1) == 0) = isP ((128 * a.val + b.val : Nat) : Int) := by decide +kernel
theorem and_pow (n : Nat) (h1 : 8 ≤ n) (h2 : n ≤ 8192) : (bits .and .i64 (n : Int) ((n : Int) - 1) == 0) = isP n := by
  have h := and_pow0 ⟨n / 128, by omega⟩ ⟨n % 128, by omega⟩
  simp only [show 128 * (n / 128) + n % 128 = n by omega] at h
  exact h h1 h2
theorem isP_iff (n : Int) : isP n = true ↔ ∃ t : Nat, t ≤ 10 ∧ n = 8 * 2 ^ t := by
  constructor
  · intro h
    simp [isP] at h
    rcases h with rfl | rfl | rfl | rfl | rfl | rfl | rfl | rfl | rfl | rfl | rfl
    · exact ⟨0, by omega, rfl⟩
    · exact ⟨1, by omega, rfl⟩
    · exact ⟨2, by omega, rfl⟩
    · exact ⟨3, by omega, rfl⟩
    · exact ⟨4, by omega, rfl⟩
    · exact ⟨5, by omega, rfl⟩
    · exact ⟨6, by omega, rfl⟩
    · exact ⟨7, by omega, rfl⟩
    · exact ⟨8, by omega, rfl⟩
    · exact ⟨9, by omega, rfl⟩
    · exact ⟨10, by omega, rfl⟩
  · rintro ⟨t, ht, rfl⟩
    have h : ∀ t : Fin 11, isP (8 * 2 ^ t.val) = true := by decide +kernel
    exact h ⟨t, by omega⟩
theorem isP_rng {n : Int} (h : isP n = true) : 8 ≤ n ∧ n ≤ 8192 := by
  obtain ⟨t, ht, rfl⟩ := (isP_iff n).1 h
  have := pow_le10 ht
  omega
theorem isSize_any (n : Int) (w : World) : Calls Try.prog 57 #[.int .i64 n] w fun e w' => e = .returned (.bool (isP n)) ∧ w' = w := by
  by_cases h1 : 8 ≤ n
  · by_cases h2 : n ≤ 8192
    · have hw : IntKind.i64.wrap (n - 1) = n - 1 := by rw [IntKind.wrap_i64]; omega
      have ha := and_pow n.toNat (by omega) (by omega)
      simp only [Int.toNat_of_nonneg (show 0 ≤ n by omega)] at ha
      generalize isP n = b at *
      go_enter Try.func57, Try.ntmps57
      go_wp2
      go_ret
      exact ⟨by simp_all, rfl⟩
    · have hb : isP n = false := by cases hq : isP n with
        | false => rfl
        | true => have := isP_rng hq; omega
      rw [hb]
      go_enter Try.func57, Try.ntmps57
      go_wp2
      go_ret
      exact ⟨rfl, rfl⟩
  · have hb : isP n = false := by cases hq : isP n with
        | false => rfl
        | true => have := isP_rng hq; omega
    rw [hb]
    go_enter Try.func57, Try.ntmps57
    go_wp2
    go_ret
    exact ⟨rfl, rfl⟩

theorem right_any (v : Value) (l : List Int) (w : World) (h : RowAt w v l) : Calls Try.prog 23 #[v] w fun e w' => e = .returned (.bool (isP (l.length : Int))) ∧ w' = w := by
  obtain ⟨a, c, rfl⟩ := row_form h
  have HC := Keep.mk (isSize_any (l.length : Int) w)
  clear h
  go_enter Try.func23, Try.ntmps23
  go_wp2_with fail
  refine HC.out.mono ?_
  rintro e w' ⟨rfl, rfl⟩
  go_wp2
  go_ret
  exact ⟨rfl, rfl⟩
end Go.Proofs.Ytlogkojhcccogaa
namespace Go.Proofs.Ytlogkojhcccogaa
open Go.RowKit
set_option linter.unusedSimpArgs false
set_option linter.unusedVariables false

/-! ### Messages. -/
structure MsgV where
  k : Int
  hd : List Hs
  sa : Int
  bl : List Int
  wt : List Hs
  bk : List (List Int)
def zeroM : MsgV := ⟨0, [], 0, [], [], []⟩
def noS : Value := .slice none 0 0
/-- The cells of a message. -/
structure MC where
  k : Int
  h : Value
  s : Int
  b : Value
  w : Value
  x : Value
def msA (c : MC) : Array Value := #[.int .i64 c.k, c.h, .int .u64 c.s, c.b, c.w, c.x]
def zeroC : MC := ⟨0, noS, 0, noS, noS, noS⟩
theorem Try.new28M (w : World) : (Instr.alloc 28 true (.tuple #[])).run Try.prog w = .ok (.pointer (some ⟨w.heap.size, 0, none⟩)) (w.alloc (.cells (msA zeroC) 28)) := by kernel_rfl
theorem Try.size28 : (Try.prog.info? 28).map (·.size) = some 6 := by kernel_rfl
theorem Try.size28B (c : MC) : (Try.prog.info? 28).map (·.size) = some (msA c).size := Try.size28
theorem ms_built0 : Try.prog.built 28 [] = some (msA zeroC) := by kernel_rfl
theorem ms_built1 (a : Int) : Try.prog.built 28 [(0, .int .i64 a)] = some (msA ⟨a, noS, 0, noS, noS, noS⟩) := by kernel_rfl
/-- The lists of a message are slices. -/
structure SlC (c : MC) : Prop where
  h : ∃ a n k, c.h = .slice a n k
  b : ∃ a n k, c.b = .slice a n k
  w : ∃ a n k, c.w = .slice a n k
  x : ∃ a n k, c.x = .slice a n k
theorem SlC.zero : SlC zeroC := ⟨⟨_, _, _, rfl⟩, ⟨_, _, _, rfl⟩, ⟨_, _, _, rfl⟩, ⟨_, _, _, rfl⟩⟩
theorem SlC.one {c : MC} (h : SlC c) : (msA c).all (·.oneCell') = true := by
  obtain ⟨k, vh, s, vb, vw, vx⟩ := c
  obtain ⟨⟨_, _, _, h1⟩, ⟨_, _, _, h2⟩, ⟨_, _, _, h3⟩, ⟨_, _, _, h4⟩⟩ := h
  simp only at h1 h2 h3 h4
  subst h1 h2 h3 h4
  simp [msA, Value.oneCell']
theorem ms_0 (c : MC) : (msA c)[0]? = some (.int .i64 c.k) := rfl
theorem ms_1 (c : MC) : (msA c)[1]? = some c.h := rfl
theorem ms_2 (c : MC) : (msA c)[2]? = some (.int .u64 c.s) := rfl
theorem ms_3 (c : MC) : (msA c)[3]? = some c.b := rfl
theorem ms_4 (c : MC) : (msA c)[4]? = some c.w := rfl
theorem ms_5 (c : MC) : (msA c)[5]? = some c.x := rfl
theorem ms_sizes (c d : MC) : (msA c).size = (msA d).size := rfl
/-! ### Rows of bytes. -/
/-- The slice v holds these rows. -/
def RwsAt (w : World) (v : Value) (ls : List (List Int)) : Prop :=
  ∃ V : Nat → Value, ((∃ a c, v = .slice a 0 c ∧ ls = []) ∨ ∃ q o cap, v = .slice (some ⟨q, o, none⟩) ls.length cap ∧ ls.length ≤ cap ∧ ∀ i, i < ls.length → w.cell? ⟨q, o + i, none⟩ = some (V i)) ∧ ∀ i, i < ls.length → RowAt w (V i) (ls.getD i [])
theorem RwsAt.form {w : World} {v : Value} {ls : List (List Int)} (h : RwsAt w v ls) : ∃ a c, v = .slice a ls.length c := by
  obtain ⟨V, ⟨a, c, rfl, rfl⟩ | ⟨q, o, cap, rfl, _⟩, _⟩ := h
  · exact ⟨_, _, rfl⟩
  · exact ⟨_, _, rfl⟩
theorem RwsAt.nil (w : World) : RwsAt w noS [] := ⟨fun _ => noS, .inl ⟨_, _, rfl, rfl⟩, fun i hi => by simp at hi⟩
theorem RwsAt.below {w w' : World} {v : Value} {ls : List (List Int)} (h : RwsAt w v ls) (hb : Below w.heap.size w w') : RwsAt w' v ls := by
  obtain ⟨V, h1, h2⟩ := h
  refine ⟨V, ?_, fun i hi => (h2 i hi).below hb⟩
  rcases h1 with h1 | ⟨q, o, cap, h1, h3, h4⟩
  · exact .inl h1
  · exact .inr ⟨q, o, cap, h1, h3, fun i hi => by rw [hb.cell (p := ⟨q, o + i, none⟩) (cell_lt (h4 i hi))]; exact h4 i hi⟩
theorem RwsAt.at {w : World} {a : Option Addr} {n c : Nat} {ls : List (List Int)} (h : RwsAt w (.slice a n c) ls) (t : Nat) (ht : t < ls.length) : ∃ q o pa pc, a = some ⟨q, o, none⟩ ∧ n = ls.length ∧ w.cell? ⟨q, o + t, none⟩ = some (.slice pa (ls.getD t []).length pc) ∧ RowAt w (.slice pa (ls.getD t []).length pc) (ls.getD t []) := by
  obtain ⟨V, ⟨a', c', h1, rfl⟩ | ⟨q, o, cap, h1, _, h4⟩, h2⟩ := h
  · simp at ht
  · injection h1 with h1 h3 h5
    subst h1 h3
    obtain ⟨pa, pc, hv⟩ := row_form (h2 t ht)
    exact ⟨q, o, pa, pc, rfl, rfl, by rw [h4 t ht, hv], by rw [← hv]; exact h2 t ht⟩
/-- May each of some rows be a block? -/
def okR (ls : List (List Int)) : Bool := ls.all fun r => decide (0 < r.length ∧ r.length ≤ 1048576)
theorem okR_iff (ls : List (List Int)) : okR ls = true ↔ ∀ i, i < ls.length → 0 < (ls.getD i []).length ∧ (ls.getD i []).length ≤ 1048576 := by
  unfold okR
  rw [List.all_eq_true]
  constructor
  · intro h i hi
    have := h (ls.getD i []) (by rw [List.getD_eq_getElem?_getD, List.getElem?_eq_getElem hi]; exact List.getElem_mem hi)
    simpa using this
  · intro h r hr
    obtain ⟨i, hi, rfl⟩ := List.getElem_of_mem hr
    have := h i hi
    rw [List.getD_eq_getElem?_getD, List.getElem?_eq_getElem hi] at this
    simpa using this
theorem Try.in24 (w : World) (vs : Array Value) : (callFunc 24 vs).run Try.prog w = .ok (.enter 24 vs) w := by kernel_rfl
theorem Try.in25 (w : World) (vs : Array Value) : (callFunc 25 vs).run Try.prog w = .ok (.enter 25 vs) w := by kernel_rfl
theorem Try.in21 (w : World) (vs : Array Value) : (callFunc 21 vs).run Try.prog w = .ok (.enter 21 vs) w := by kernel_rfl
theorem Try.in58 (w : World) (vs : Array Value) : (callFunc 58 vs).run Try.prog w = .ok (.enter 58 vs) w := by kernel_rfl
set_option maxRecDepth 8000 in
set_option maxHeartbeats 1000000 in
theorem areBlocks_any (v : Value) (ls : List (List Int)) (w : World) (hr : RwsAt w v ls) (hm : (ls.length : Int) ≤ 9223372036854775807) (hrl : ∀ i, i < ls.length → ((ls.getD i []).length : Int) ≤ 9223372036854775807) :
    Calls Try.prog 24 #[v] w fun e w' => e = .returned (.bool (okR ls)) ∧ w' = w := by
  have HR := Keep.mk hr
  have HL := Keep.mk hrl
  obtain ⟨R, hR⟩ : ∃ R, Keep (R = okR ls) := ⟨_, ⟨rfl⟩⟩
  rw [← hR.out]
  obtain ⟨pa, pc, rfl⟩ := hr.form
  clear hr hrl
  obtain ⟨m, hmm⟩ : ∃ m, m = ls.length := ⟨_, rfl⟩
  rw [← hmm] at HR HL hm ⊢
  have Hm := Keep.mk hmm
  clear hmm
  go_enter Try.func24, Try.ntmps24
  go_wp2
  go_loopw [7] (fun i wr => ∃ t : Nat, t ≤ m ∧ i = .int .i64 (t : Int) ∧ Keep (∀ j, j < t → 0 < (ls.getD j []).length ∧ (ls.getD j []).length ≤ 1048576) ∧ wr = w) (fun i _ => m - (intOf i).toNat)
  case atStart => exact ⟨0, by omega, rfl, ⟨fun j hj => by omega⟩, rfl⟩
  case round =>
    obtain ⟨t, ht, rfl, HK, rfl⟩ := hrel
    by_cases hlt : t < m
    · obtain ⟨q, o, xa, xc, rfl, hmq, hc, _⟩ := HR.out.at t (by rw [← Hm.out]; exact hlt)
      clear hmq
      have hlt' : (t : Int) < (m : Int) := by omega
      have hll := HL.out t hlt
      have HF : Keep (¬ (0 < (ls.getD t []).length ∧ (ls.getD t []).length ≤ 1048576) → R = false) := ⟨fun h => by
        rw [hR.out, Bool.eq_false_iff]; intro h2
        exact h ((okR_iff ls).1 h2 t (by rw [← Hm.out]; exact hlt))⟩
      have HG : Keep ((0 < (ls.getD t []).length ∧ (ls.getD t []).length ≤ 1048576) → ∀ j, j < t + 1 → 0 < (ls.getD j []).length ∧ (ls.getD j []).length ≤ 1048576) := ⟨fun h j hj => by
        rcases Nat.lt_or_eq_of_le (Nat.le_of_lt_succ hj) with h2 | h2
        · exact HK.out j h2
        · subst h2; exact h⟩
      generalize (ls.getD t []).length = n at *
      by_cases h0 : n = 0
      · subst h0
        go_wp2
        go_ret
        exact ⟨by rw [HF.out (by omega)]; rfl, rfl⟩
      · have h0' : ¬ (n : Int) = 0 := by omega
        by_cases h1 : (1048576 : Int) < (n : Int)
        · go_wp2
          go_ret
          exact ⟨by rw [HF.out (by omega)]; rfl, rfl⟩
        · go_wp2
          go_roundw
          case rel => exact ⟨t + 1, by omega, by go_num, ⟨HG.out (by omega)⟩, trivial⟩
          case measure => simp [intOf]; omega
    · obtain rfl : t = m := by omega
      go_wp2
      go_ret
      exact ⟨by rw [hR.out, (okR_iff ls).2 fun i hi => HK.out i (by rw [Hm.out]; exact hi)]; rfl, rfl⟩
/-- How many rows fit, from number i on, where so many bytes are laid. -/
def fitG : List (List Int) → Nat → Nat → Nat
  | [], i, _ => i
  | r :: rs, i, a => if i = 256 ∨ 2097152 < 1 + (numL (i + 1)).length + (a + (bform r).length) then i else fitG rs (i + 1) (a + (bform r).length)
def fit (ls : List (List Int)) : Nat := fitG ls 0 0
theorem num_len (x : Nat) : (numL x).length ≤ 10 := numL_len x
set_option maxRecDepth 8000 in
set_option maxHeartbeats 2000000 in
theorem fitting_any (v : Value) (ls : List (List Int)) (w : World) (hr : RwsAt w v ls) (hm : (ls.length : Int) ≤ 9223372036854775807) (hrl : ∀ i, i < ls.length → (ls.getD i []).length ≤ 1048576) :
    Calls Try.prog 25 #[v] w fun e w' => e = .returned (.int .i64 (fit ls : Int)) ∧ w' = w := by
  have HR := Keep.mk hr
  have HL := Keep.mk hrl
  obtain ⟨R, hR⟩ : ∃ R, R = fit ls := ⟨_, rfl⟩
  rw [← hR]
  obtain ⟨pa, pc, rfl⟩ := hr.form
  clear hr hrl
  obtain ⟨m, hmm⟩ : ∃ m, m = ls.length := ⟨_, rfl⟩
  rw [← hmm] at HR HL hm ⊢
  have Hm := Keep.mk hmm
  have HSz := Keep.mk (fun (x : Nat) (hx : x < 18446744073709551616) => size_any x w hx)
  have H0 : Keep (R = fitG (ls.drop 0) 0 0) := ⟨by rw [hR]; rfl⟩
  clear hmm hR
  go_enter Try.func25, Try.ntmps25
  go_wp2
  go_loopw [3, 9] (fun l i wr => ∃ t a : Nat, t ≤ m ∧ t ≤ 256 ∧ i = .int .i64 (t : Int) ∧ l = .int .i64 (a : Int) ∧ a ≤ t * 1048586 ∧ Keep (R = fitG (ls.drop t) t a) ∧ wr = w) (fun _ i _ => m - (intOf i).toNat)
  case atStart => exact ⟨0, 0, by omega, by omega, rfl, rfl, by omega, H0, rfl⟩
  case round =>
    obtain ⟨t, a, ht, ht2, rfl, rfl, hal, HK, rfl⟩ := hrel
    by_cases hlt : t < m
    · obtain ⟨q, o, xa, xc, rfl, hmq, hc, _⟩ := HR.out.at t (by rw [← Hm.out]; exact hlt)
      have hlt' : (t : Int) < (m : Int) := by omega
      have hll := HL.out t hlt
      clear hmq
      have HS1 := Keep.mk (HSz.out (ls.getD t []).length (by omega))
      have HS2 := Keep.mk (HSz.out (t + 1) (by omega))
      have hn1 := num_len (ls.getD t []).length
      have hn2 := num_len (t + 1)
      have HD : Keep (R = if t = 256 ∨ 2097152 < 1 + (numL (t + 1)).length + (a + ((numL (ls.getD t []).length).length + (ls.getD t []).length)) then t else fitG (ls.drop (t + 1)) (t + 1) (a + ((numL (ls.getD t []).length).length + (ls.getD t []).length))) := ⟨by
        have hl : t < ls.length := by rw [← Hm.out]; exact hlt
        rw [HK.out, List.drop_eq_getElem_cons hl, fitG, List.getD_eq_getElem?_getD, List.getElem?_eq_getElem hl, Option.getD_some]
        simp only [bform, List.length_append]⟩
      generalize (ls.getD t []).length = n at *
      generalize (numL n).length = s1 at *
      generalize (numL (t + 1)).length = s2 at *
      go_wp2_with fail
      refine HS1.out.mono ?_
      rintro e w' ⟨rfl, rfl⟩
      go_wp2_with fail
      rw [show (t : Int) + 1 = ((t + 1 : Nat) : Int) by push_cast; rfl]
      refine HS2.out.mono ?_
      rintro e w' ⟨rfl, rfl⟩
      by_cases h1 : t = 256
      · have h1' : (t : Int) = 256 := by omega
        go_wp2
        go_ret
        exact ⟨by rw [HD.out, if_pos (.inl h1), h1]; rfl, rfl⟩
      · have h1' : ¬ (t : Int) = 256 := by omega
        by_cases h2 : (2097152 : Int) < 1 + (s2 : Int) + ((a : Int) + ((s1 : Int) + (n : Int)))
        · go_wp2
          go_ret
          exact ⟨by rw [HD.out, if_pos (.inr (by omega))]; rfl, rfl⟩
        · go_wp2
          case roundEnd => exact ⟨⟨t + 1, a + (s1 + n), by omega, by omega, by go_num, by go_num, by omega, ⟨by rw [HD.out, if_neg (by omega)]⟩, trivial⟩, by simp [intOf]; omega⟩
          all_goals (exfalso; rename_i hx; rcases hx with hx | hx; exact h1' (by simpa using hx); omega)
    · obtain rfl : t = m := by omega
      go_wp2
      go_ret
      exact ⟨by rw [HK.out, Hm.out, List.drop_length, fitG, ← Hm.out]; rfl, rfl⟩
/-! ### What a message has beside the fields of its kind. -/
def wipeC (i : Nat) (c : MC) : MC := if i = 0 then { c with h := noS } else if i = 1 then { c with s := 0 } else if i = 2 then { c with b := noS } else if i = 3 then { c with w := noS } else { c with x := noS }
def wfn (i : Nat) : Nat := if i = 0 then 74 else if i = 1 then 79 else if i = 2 then 84 else if i = 3 then 89 else 92
theorem wfn_in (i : Nat) (w : World) (vs : Array Value) : (callFunc (wfn i) vs).run Try.prog w = .ok (.enter (wfn i) vs) w := by
  unfold wfn
  repeat' split
  all_goals kernel_rfl
theorem fldA_w (i : Nat) : (fldA i)[0]? = some (.func (.func (wfn i)) #[] #[]) := by
  unfold fldA wfn
  repeat' split
  all_goals rfl
theorem SlC.wipe {c : MC} (h : SlC c) (i : Nat) : SlC (wipeC i c) := by
  unfold wipeC
  repeat' split
  · exact ⟨⟨_, _, _, rfl⟩, h.b, h.w, h.x⟩
  · exact ⟨h.h, h.b, h.w, h.x⟩
  · exact ⟨h.h, ⟨_, _, _, rfl⟩, h.w, h.x⟩
  · exact ⟨h.h, h.b, ⟨_, _, _, rfl⟩, h.x⟩
  · exact ⟨h.h, h.b, h.w, ⟨_, _, _, rfl⟩⟩
theorem wipe0_any (c : MC) (hc : SlC c) (g : Nat) (w : World) (h : Blk w g 28 (msA c)) : Calls Try.prog 74 #[ptr g] w fun e w' => e = .returned (.tuple #[]) ∧ Blk w' g 28 (msA (wipeC 0 c)) ∧ Grown w w' fun k => k = g := by
  obtain ⟨⟨_, _, _, e1⟩, ⟨_, _, _, e2⟩, ⟨_, _, _, e3⟩, ⟨_, _, _, e4⟩⟩ := hc
  obtain ⟨k, vh, s, vb, vw, vx⟩ := c
  simp only at e1 e2 e3 e4
  subst e1 e2 e3 e4
  have c0 := h.c 1 (ms_1 _)
  have f0 := h.frozen 1
  have HB := Keep.mk (h.set 1 (.slice none 0 0))
  have HG := Keep.mk (Grown.setCell w g 1 (.slice none 0 0) (S := fun k => k = g) fun _ => rfl)
  clear h
  go_enter Try.func74, Try.ntmps74
  go_wp2
  go_end0
  exact ⟨rfl, HB.out, HG.out⟩
theorem wipe1_any (c : MC) (hc : SlC c) (g : Nat) (w : World) (h : Blk w g 28 (msA c)) : Calls Try.prog 79 #[ptr g] w fun e w' => e = .returned (.tuple #[]) ∧ Blk w' g 28 (msA (wipeC 1 c)) ∧ Grown w w' fun k => k = g := by
  obtain ⟨⟨_, _, _, e1⟩, ⟨_, _, _, e2⟩, ⟨_, _, _, e3⟩, ⟨_, _, _, e4⟩⟩ := hc
  obtain ⟨k, vh, s, vb, vw, vx⟩ := c
  simp only at e1 e2 e3 e4
  subst e1 e2 e3 e4
  have c0 := h.c 2 (ms_2 _)
  have f0 := h.frozen 2
  have HB := Keep.mk (h.set 2 (.int .u64 0))
  have HG := Keep.mk (Grown.setCell w g 2 (.int .u64 0) (S := fun k => k = g) fun _ => rfl)
  clear h
  go_enter Try.func79, Try.ntmps79
  go_wp2
  go_end0
  exact ⟨rfl, HB.out, HG.out⟩
theorem wipe2_any (c : MC) (hc : SlC c) (g : Nat) (w : World) (h : Blk w g 28 (msA c)) : Calls Try.prog 84 #[ptr g] w fun e w' => e = .returned (.tuple #[]) ∧ Blk w' g 28 (msA (wipeC 2 c)) ∧ Grown w w' fun k => k = g := by
  obtain ⟨⟨_, _, _, e1⟩, ⟨_, _, _, e2⟩, ⟨_, _, _, e3⟩, ⟨_, _, _, e4⟩⟩ := hc
  obtain ⟨k, vh, s, vb, vw, vx⟩ := c
  simp only at e1 e2 e3 e4
  subst e1 e2 e3 e4
  have c0 := h.c 3 (ms_3 _)
  have f0 := h.frozen 3
  have HB := Keep.mk (h.set 3 (.slice none 0 0))
  have HG := Keep.mk (Grown.setCell w g 3 (.slice none 0 0) (S := fun k => k = g) fun _ => rfl)
  clear h
  go_enter Try.func84, Try.ntmps84
  go_wp2
  go_end0
  exact ⟨rfl, HB.out, HG.out⟩
theorem wipe3_any (c : MC) (hc : SlC c) (g : Nat) (w : World) (h : Blk w g 28 (msA c)) : Calls Try.prog 89 #[ptr g] w fun e w' => e = .returned (.tuple #[]) ∧ Blk w' g 28 (msA (wipeC 3 c)) ∧ Grown w w' fun k => k = g := by
  obtain ⟨⟨_, _, _, e1⟩, ⟨_, _, _, e2⟩, ⟨_, _, _, e3⟩, ⟨_, _, _, e4⟩⟩ := hc
  obtain ⟨k, vh, s, vb, vw, vx⟩ := c
  simp only at e1 e2 e3 e4
  subst e1 e2 e3 e4
  have c0 := h.c 4 (ms_4 _)
  have f0 := h.frozen 4
  have HB := Keep.mk (h.set 4 (.slice none 0 0))
  have HG := Keep.mk (Grown.setCell w g 4 (.slice none 0 0) (S := fun k => k = g) fun _ => rfl)
  clear h
  go_enter Try.func89, Try.ntmps89
  go_wp2
  go_end0
  exact ⟨rfl, HB.out, HG.out⟩
theorem wipe4_any (c : MC) (hc : SlC c) (g : Nat) (w : World) (h : Blk w g 28 (msA c)) : Calls Try.prog 92 #[ptr g] w fun e w' => e = .returned (.tuple #[]) ∧ Blk w' g 28 (msA (wipeC 4 c)) ∧ Grown w w' fun k => k = g := by
  obtain ⟨⟨_, _, _, e1⟩, ⟨_, _, _, e2⟩, ⟨_, _, _, e3⟩, ⟨_, _, _, e4⟩⟩ := hc
  obtain ⟨k, vh, s, vb, vw, vx⟩ := c
  simp only at e1 e2 e3 e4
  subst e1 e2 e3 e4
  have c0 := h.c 5 (ms_5 _)
  have f0 := h.frozen 5
  have HB := Keep.mk (h.set 5 (.slice none 0 0))
  have HG := Keep.mk (Grown.setCell w g 5 (.slice none 0 0) (S := fun k => k = g) fun _ => rfl)
  clear h
  go_enter Try.func92, Try.ntmps92
  go_wp2
  go_end0
  exact ⟨rfl, HB.out, HG.out⟩
theorem wipe_any (i : Nat) (c : MC) (hc : SlC c) (g : Nat) (w : World) (h : Blk w g 28 (msA c)) : Calls Try.prog (wfn i) #[ptr g] w fun e w' => e = .returned (.tuple #[]) ∧ Blk w' g 28 (msA (wipeC i c)) ∧ Grown w w' fun k => k = g := by
  unfold wfn
  by_cases h0 : i = 0
  · subst h0; exact wipe0_any c hc g w h
  rw [if_neg h0]
  by_cases h1 : i = 1
  · subst h1; exact wipe1_any c hc g w h
  rw [if_neg h1]
  by_cases h2 : i = 2
  · subst h2; exact wipe2_any c hc g w h
  rw [if_neg h2]
  by_cases h3 : i = 3
  · subst h3; exact wipe3_any c hc g w h
  rw [if_neg h3]
  have e : wipeC i c = wipeC 4 c := by unfold wipeC; simp [h0, h1, h2, h3]
  rw [e]
  exact wipe4_any c hc g w h
def wipesC (is : List Nat) (c : MC) : MC := is.foldl (fun c i => wipeC i c) c
theorem wipesC_step (is : List Nat) (t i : Nat) (c : MC) (h : is[t]? = some i) : wipesC (is.take (t + 1)) c = wipeC i (wipesC (is.take t) c) := by
  unfold wipesC
  rw [List.take_add_one, h]
  simp
theorem SlC.wipes {c : MC} (h : SlC c) : ∀ (is : List Nat), SlC (wipesC is c) := fun is => by
  unfold wipesC
  induction is generalizing c with
  | nil => exact h
  | cons i is ih => exact ih (h.wipe i)
/-- Has a message, wiped, anything left? -/
def leftB (hn : Nat) (s : Int) (bn wn xn : Nat) : Bool := decide (0 < hn) || (!decide (s = 0)) || decide (0 < bn) || decide (0 < wn) || decide (0 < xn)
set_option maxRecDepth 8000 in
set_option maxHeartbeats 2000000 in
theorem hasMore_any (c : MC) (hc : SlC c) (gf : Nat) (is : List Nat) (w : World) (hf : Blk w gf 71 (flatF is)) (hl : is.length ≤ 4) (R : Bool)
    (hR : ∀ ha hn hk, (wipesC is c).h = .slice ha hn hk → ∀ ba bn bk, (wipesC is c).b = .slice ba bn bk → ∀ wa wn wk, (wipesC is c).w = .slice wa wn wk → ∀ xa xn xk, (wipesC is c).x = .slice xa xn xk → R = leftB hn (wipesC is c).s bn wn xn) :
    Calls Try.prog 21 #[.agg (msA c), .slice (some ⟨gf, 0, none⟩) is.length is.length] w fun e w' => e = .returned (.bool R) ∧ Below w.heap.size w w' := by
  unfold leftB at hR
  have HF := Keep.mk hf
  have Hc := Keep.mk hc
  have HRs := Keep.mk hR
  have HNn := Keep.mk hl
  have Hgne : Keep (gf ≠ w.heap.size) := ⟨by have := hf.lt; omega⟩
  clear hf hc hR
  go_enter Try.func21, Try.ntmps21
  refine wp_seq_k fun K1 hK1 => ?_
  refine wp_region_list (WL.out ?_)
  refine WL.box (by kernel_rfl) 28 (.tmp 0) rfl _ rfl ?_
  have HM := Keep.mk (Blk.new w 28 (msA c))
  have B1 := Keep.mk (below_new w (.cells (msA c) 28))
  have HF1 := Keep.mk (HF.out.alloc (.cells (msA c) 28))
  have Hgf := Keep.mk HF.out.lt
  generalize w.alloc (.cells (msA c) 28) = w1 at *
  obtain ⟨g, hg⟩ : ∃ g, g = w.heap.size := ⟨_, rfl⟩
  rw [← hg] at HM B1 Hgf Hgne ⊢
  have HgE := Keep.mk hg
  clear hg
  simp only [Act.put, List.setIfInBounds_toArray, List.set_cons_zero, List.set_cons_succ]
  refine WL.val (by kernel_rfl) (.bool false) (by go_simp) ?_
  simp only [Act.put, List.setIfInBounds_toArray, List.set_cons_zero, List.set_cons_succ]
  refine WL.nil ?_
  refine hK1 _ _ ?_
  refine wp_seq_k fun K2 hK2 => ?_
  refine wp_seq_k fun K3 hK3 => ?_
  refine wp_region_list (WL.out ?_)
  refine WL.val (by kernel_rfl) (.slice (some ⟨gf, 0, none⟩) is.length is.length) (by go_simp) ?_
  simp only [Act.put, List.setIfInBounds_toArray, List.set_cons_zero, List.set_cons_succ]
  refine WL.val (by kernel_rfl) (.int .i64 (is.length : Int)) (by go_simp) ?_
  simp only [Act.put, List.setIfInBounds_toArray, List.set_cons_zero, List.set_cons_succ]
  refine WL.val (by kernel_rfl) (.int .i64 0) (by go_simp) ?_
  simp only [Act.put, List.setIfInBounds_toArray, List.set_cons_zero, List.set_cons_succ]
  refine WL.nil ?_
  refine hK3 _ _ ?_
  refine wp_block ?_
  refine wp_loop (fun ac wr => ∃ (t : Nat) (u6 u10 u11 u12 u13 u14 u15 u16 : Value), ac = { tmps := #[.agg (msA c), .slice (some ⟨gf, 0, none⟩) is.length is.length, .pointer (some ⟨g, 0, none⟩), undef, .bool false, undef, u6, .slice (some ⟨gf, 0, none⟩) is.length is.length, .int .i64 (is.length : Int), .int .i64 (t : Int), u10, u11, u12, u13, u14, u15, u16, undef, undef, undef, undef, undef, undef, undef, undef, undef, undef, undef, undef, undef, undef, undef, undef, undef, undef, undef, undef, undef, undef, undef, undef, undef, undef, undef], defers := [] } ∧ t ≤ is.length ∧ Keep (Blk wr g 28 (msA (wipesC (is.take t) c))) ∧ Keep (Blk wr gf 71 (flatF is)) ∧ Keep (Below g w wr)) (fun a _ => is.length - (intOf (a.tmps.getD 9 undef)).toNat) ⟨0, undef, undef, undef, undef, undef, undef, undef, undef, rfl, by omega, HM, HF1, B1⟩ ?_
  rintro ac wr ⟨t, u6, u10, u11, u12, u13, u14, u15, u16, rfl, ht, HMr, HFr, Hgr⟩
  by_cases hlt : t < is.length
  · have hlt' : (t : Int) < (is.length : Int) := by omega
    obtain ⟨i, hi⟩ : ∃ i, is[t]? = some i := ⟨_, List.getElem?_eq_getElem hlt⟩
    have Hi := Keep.mk hi
    clear hi
    have hwt : IntKind.i64.wrap ((t : Int) + 1) = (t : Int) + 1 := by rw [IntKind.wrap_i64]; omega
    refine wp_seq_k fun K4 hK4 => ?_
    refine wp_region_list (WL.out ?_)
    refine WL.val (by kernel_rfl) (.bool true) (by go_simp) ?_
    simp only [Act.put, List.setIfInBounds_toArray, List.set_cons_zero, List.set_cons_succ]
    refine WL.nil ?_
    refine hK4 _ _ ?_
    refine wp_seq_k fun K5 hK5 => ?_
    refine wp_cond_true rfl ?_
    refine wp_skip ?_
    refine hK5 _ _ ?_
    refine wp_seq_k fun K6 hK6 => ?_
    refine wp_block ?_
    refine wp_seq_k fun K7 hK7 => ?_
    refine wp_region_list (WL.out ?_)
    refine WL.val (by kernel_rfl) (.pointer (some ⟨gf, t * 3, none⟩)) (by go_simp) ?_
    simp only [Act.put, List.setIfInBounds_toArray, List.set_cons_zero, List.set_cons_succ]
    refine WL.mid (by kernel_rfl) 71 (.tmp 11) rfl gf (t * 3) rfl (fldA i).toList _ (fld_range HFr.out t i Hi.out) Try.underlying71 rfl (Try.size71L i) ?_
    rw [Array.toArray_toList]
    simp only [Act.put, List.setIfInBounds_toArray, List.set_cons_zero, List.set_cons_succ]
    refine WL.new (by kernel_rfl) 71 rfl _ Try.new71 ?_
    have HN := Keep.mk (Blk.new wr 71 noF)
    have HMn := Keep.mk (HMr.out.alloc (.cells noF 71))
    have HFn := Keep.mk (HFr.out.alloc (.cells noF 71))
    have Gn : Keep (Below g w (wr.alloc (.cells noF 71))) := ⟨Hgr.out.trans ((below_new wr _).mono (by rw [HgE.out]; exact Hgr.out.size))⟩
    have Hne : Keep (wr.heap.size ≠ g ∧ wr.heap.size ≠ gf ∧ g ≤ wr.heap.size) := ⟨by have := HMr.out.lt; have := HFr.out.lt; omega⟩
    generalize wr.alloc (.cells noF 71) = wn at *
    generalize wr.heap.size = gn at *
    simp only [Act.put, List.setIfInBounds_toArray, List.set_cons_zero, List.set_cons_succ]
    refine WL.storeR (by kernel_rfl) 71 (.tmp 6) (.tmp 12) rfl gn (fldA i) rfl rfl 71 noF HN.out (Try.size71B i) (noF_sizes i) (fldA_one i) ?_
    have HN2 := Keep.mk (HN.out.setRow (fldA i))
    have HM2 := Keep.mk (HMn.out.setRow_ne (b' := gn) (fun e => Hne.out.1 e.symm) (fldA i))
    have HF2 := Keep.mk (HFn.out.setRow_ne (b' := gn) (fun e => Hne.out.2.1 e.symm) (fldA i))
    have G2 : Keep (Below g w (wn.setRow gn (fldA i))) := ⟨below_setRow Gn.out Hne.out.2.2 _⟩
    generalize wn.setRow gn (fldA i) = w2 at *
    have c0 := HN2.out.c 0 (fldA_w i)
    simp only [Act.put]
    refine WL.nil ?_
    refine hK7 _ _ ?_
    refine wp_region_list (WL.out ?_)
    refine WL.val (by kernel_rfl) (.pointer (some ⟨gn, 0, none⟩)) (by go_simp) ?_
    simp only [Act.put, List.setIfInBounds_toArray, List.set_cons_zero, List.set_cons_succ]
    refine WL.val (by kernel_rfl) (.func (.func (wfn i)) #[] #[]) (by go_simp) ?_
    simp only [Act.put, List.setIfInBounds_toArray, List.set_cons_zero, List.set_cons_succ]
    refine WL.callV (by kernel_rfl) (wfn i) (.tmp 14) _ _ rfl rfl (wfn_in i) #[ptr g] (by simp [Act.eval]) ?_
    refine (wipe_any i _ (Hc.out.wipes _) g w2 HM2.out).mono ?_
    rintro e w3 ⟨rfl, h1, h2⟩
    refine ⟨_, rfl, ?_⟩
    rw [← wipesC_step is t i c Hi.out] at h1
    have HM3 := Keep.mk h1
    have HF3 := Keep.mk (h2.blk HF2.out (fun e => Hgne.out e))
    have G3 : Keep (Below g w w3) := ⟨G2.out.trans (h2.to_below (B := g) (fun k hk e => by omega) (by rw [HgE.out]; exact G2.out.size))⟩
    clear h1 h2
    simp only [Act.put, List.setIfInBounds_toArray, List.set_cons_zero, List.set_cons_succ]
    refine WL.nil ?_
    refine hK6 _ _ ?_
    refine wp_region_list (WL.out ?_)
    refine WL.val (by kernel_rfl) (.int .i64 ((t : Int) + 1)) (by go_simp) ?_
    simp only [Act.put, List.setIfInBounds_toArray, List.set_cons_zero, List.set_cons_succ]
    refine WL.val (by kernel_rfl) (.int .i64 ((t : Int) + 1)) (by go_simp) ?_
    simp only [Act.put, List.setIfInBounds_toArray, List.set_cons_zero, List.set_cons_succ]
    refine WL.nil ?_
    refine ⟨⟨t + 1, .pointer (some ⟨gn, 0, none⟩), .bool true, .pointer (some ⟨gf, t * 3, none⟩), .agg (fldA i), .pointer (some ⟨gn, 0, none⟩), .func (.func (wfn i)) #[] #[], .tuple #[], .int .i64 ((t : Int) + 1), rfl, by omega, HM3, HF3, G3⟩, by simp [intOf]; omega⟩
  · obtain rfl : t = is.length := by omega
    have HMe := HMr.out
    rw [List.take_length] at HMe
    have Hce := Hc.out.wipes is
    obtain ⟨D, hD⟩ : ∃ D, D = wipesC is c := ⟨_, rfl⟩
    rw [← hD] at HMe Hce HRs
    obtain ⟨⟨ha, hn, hk, e1⟩, ⟨ba, bn, bk, e2⟩, ⟨wa, wn, wk, e3⟩, ⟨xa, xn, xk, e4⟩⟩ := Hce
    have HV := Keep.mk (HRs.out ha hn hk e1 ba bn bk e2 wa wn wk e3 xa xn xk e4)
    have d1 := HMe.c 1 (ms_1 D)
    have d2 := HMe.c 2 (ms_2 D)
    have d3 := HMe.c 3 (ms_3 D)
    have d4 := HMe.c 4 (ms_4 D)
    have d5 := HMe.c 5 (ms_5 D)
    rw [e1] at d1
    rw [e2] at d3
    rw [e3] at d4
    rw [e4] at d5
    obtain ⟨s0, hs0⟩ : ∃ s0, s0 = D.s := ⟨_, rfl⟩
    rw [← hs0] at d2 HV
    clear hD e1 e2 e3 e4 hs0 HMe
    have hxn := HNn.out
    refine wp_seq_k fun K8 hK8 => ?_
    refine wp_region_list (WL.out ?_)
    refine WL.val (by kernel_rfl) (.bool false) (by go_simp) ?_
    simp only [Act.put, List.setIfInBounds_toArray, List.set_cons_zero, List.set_cons_succ]
    refine WL.nil ?_
    refine hK8 _ _ ?_
    refine wp_seq_k fun K9 hK9 => ?_
    refine wp_cond_false rfl ?_
    refine wp_exit ?_
    refine hK2 _ _ ?_
    refine wp_seq_k fun K10 hK10 => ?_
    refine wp_region_list (WL.out ?_)
    refine WL.val (by kernel_rfl) (.pointer (some ⟨g, 1, none⟩)) (by go_simp) ?_
    simp only [Act.put, List.setIfInBounds_toArray, List.set_cons_zero, List.set_cons_succ]
    refine WL.val (by kernel_rfl) (.slice ha hn hk) (by go_simp) ?_
    simp only [Act.put, List.setIfInBounds_toArray, List.set_cons_zero, List.set_cons_succ]
    refine WL.val (by kernel_rfl) (.int .i64 (hn : Int)) (by go_simp) ?_
    simp only [Act.put, List.setIfInBounds_toArray, List.set_cons_zero, List.set_cons_succ]
    by_cases h6_3 : 0 < hn
    · have h6_3i : (0 : Int) < (hn : Int) := by omega
      refine WL.val (by kernel_rfl) (.bool true) (by go_simp) ?_
      simp only [Act.put, List.setIfInBounds_toArray, List.set_cons_zero, List.set_cons_succ]
      refine WL.val (by kernel_rfl) (.bool true) (by go_simp) ?_
      simp only [Act.put, List.setIfInBounds_toArray, List.set_cons_zero, List.set_cons_succ]
      refine WL.skip (by kernel_rfl) ?_
      simp only [Act.put, List.setIfInBounds_toArray, List.set_cons_zero, List.set_cons_succ]
      refine WL.skip (by kernel_rfl) ?_
      simp only [Act.put, List.setIfInBounds_toArray, List.set_cons_zero, List.set_cons_succ]
      refine WL.skip (by kernel_rfl) ?_
      simp only [Act.put, List.setIfInBounds_toArray, List.set_cons_zero, List.set_cons_succ]
      refine WL.val (by kernel_rfl) (.bool true) (by go_simp) ?_
      simp only [Act.put, List.setIfInBounds_toArray, List.set_cons_zero, List.set_cons_succ]
      refine WL.val (by kernel_rfl) (.bool true) (by go_simp) ?_
      simp only [Act.put, List.setIfInBounds_toArray, List.set_cons_zero, List.set_cons_succ]
      refine WL.skip (by kernel_rfl) ?_
      simp only [Act.put, List.setIfInBounds_toArray, List.set_cons_zero, List.set_cons_succ]
      refine WL.skip (by kernel_rfl) ?_
      simp only [Act.put, List.setIfInBounds_toArray, List.set_cons_zero, List.set_cons_succ]
      refine WL.skip (by kernel_rfl) ?_
      simp only [Act.put, List.setIfInBounds_toArray, List.set_cons_zero, List.set_cons_succ]
      refine WL.skip (by kernel_rfl) ?_
      simp only [Act.put, List.setIfInBounds_toArray, List.set_cons_zero, List.set_cons_succ]
      refine WL.val (by kernel_rfl) (.bool true) (by go_simp) ?_
      simp only [Act.put, List.setIfInBounds_toArray, List.set_cons_zero, List.set_cons_succ]
      refine WL.val (by kernel_rfl) (.bool true) (by go_simp) ?_
      simp only [Act.put, List.setIfInBounds_toArray, List.set_cons_zero, List.set_cons_succ]
      refine WL.skip (by kernel_rfl) ?_
      simp only [Act.put, List.setIfInBounds_toArray, List.set_cons_zero, List.set_cons_succ]
      refine WL.skip (by kernel_rfl) ?_
      simp only [Act.put, List.setIfInBounds_toArray, List.set_cons_zero, List.set_cons_succ]
      refine WL.skip (by kernel_rfl) ?_
      simp only [Act.put, List.setIfInBounds_toArray, List.set_cons_zero, List.set_cons_succ]
      refine WL.skip (by kernel_rfl) ?_
      simp only [Act.put, List.setIfInBounds_toArray, List.set_cons_zero, List.set_cons_succ]
      refine WL.val (by kernel_rfl) (.bool true) (by go_simp) ?_
      simp only [Act.put, List.setIfInBounds_toArray, List.set_cons_zero, List.set_cons_succ]
      refine WL.val (by kernel_rfl) (.bool true) (by go_simp) ?_
      simp only [Act.put, List.setIfInBounds_toArray, List.set_cons_zero, List.set_cons_succ]
      refine WL.skip (by kernel_rfl) ?_
      simp only [Act.put, List.setIfInBounds_toArray, List.set_cons_zero, List.set_cons_succ]
      refine WL.skip (by kernel_rfl) ?_
      simp only [Act.put, List.setIfInBounds_toArray, List.set_cons_zero, List.set_cons_succ]
      refine WL.skip (by kernel_rfl) ?_
      simp only [Act.put, List.setIfInBounds_toArray, List.set_cons_zero, List.set_cons_succ]
      refine WL.skip (by kernel_rfl) ?_
      simp only [Act.put, List.setIfInBounds_toArray, List.set_cons_zero, List.set_cons_succ]
      refine WL.val (by kernel_rfl) (.bool true) (by go_simp) ?_
      simp only [Act.put, List.setIfInBounds_toArray, List.set_cons_zero, List.set_cons_succ]
      refine WL.val (by kernel_rfl) (.bool true) (by go_simp) ?_
      simp only [Act.put, List.setIfInBounds_toArray, List.set_cons_zero, List.set_cons_succ]
      refine WL.nil ?_
      refine hK10 _ _ ?_
      refine wp_ret ?_
      go_ret
      exact ⟨by rw [HV.out]; simp [*], by rw [← HgE.out]; exact Hgr.out⟩
    · have h6_3i : ¬ (0 : Int) < (hn : Int) := by omega
      refine WL.val (by kernel_rfl) (.bool false) (by go_simp) ?_
      simp only [Act.put, List.setIfInBounds_toArray, List.set_cons_zero, List.set_cons_succ]
      refine WL.val (by kernel_rfl) (.bool false) (by go_simp) ?_
      simp only [Act.put, List.setIfInBounds_toArray, List.set_cons_zero, List.set_cons_succ]
      refine WL.val (by kernel_rfl) (.pointer (some ⟨g, 2, none⟩)) (by go_simp) ?_
      simp only [Act.put, List.setIfInBounds_toArray, List.set_cons_zero, List.set_cons_succ]
      refine WL.val (by kernel_rfl) (.int .u64 s0) (by go_simp) ?_
      simp only [Act.put, List.setIfInBounds_toArray, List.set_cons_zero, List.set_cons_succ]
      by_cases h6_7 : s0 = 0
      · skip
        refine WL.val (by kernel_rfl) (.bool false) (by go_simp) ?_
        simp only [Act.put, List.setIfInBounds_toArray, List.set_cons_zero, List.set_cons_succ]
        refine WL.val (by kernel_rfl) (.bool false) (by go_simp) ?_
        simp only [Act.put, List.setIfInBounds_toArray, List.set_cons_zero, List.set_cons_succ]
        refine WL.val (by kernel_rfl) (.bool false) (by go_simp) ?_
        simp only [Act.put, List.setIfInBounds_toArray, List.set_cons_zero, List.set_cons_succ]
        refine WL.val (by kernel_rfl) (.pointer (some ⟨g, 3, none⟩)) (by go_simp) ?_
        simp only [Act.put, List.setIfInBounds_toArray, List.set_cons_zero, List.set_cons_succ]
        refine WL.val (by kernel_rfl) (.slice ba bn bk) (by go_simp) ?_
        simp only [Act.put, List.setIfInBounds_toArray, List.set_cons_zero, List.set_cons_succ]
        refine WL.val (by kernel_rfl) (.int .i64 (bn : Int)) (by go_simp) ?_
        simp only [Act.put, List.setIfInBounds_toArray, List.set_cons_zero, List.set_cons_succ]
        by_cases h6_13 : 0 < bn
        · have h6_13i : (0 : Int) < (bn : Int) := by omega
          refine WL.val (by kernel_rfl) (.bool true) (by go_simp) ?_
          simp only [Act.put, List.setIfInBounds_toArray, List.set_cons_zero, List.set_cons_succ]
          refine WL.val (by kernel_rfl) (.bool true) (by go_simp) ?_
          simp only [Act.put, List.setIfInBounds_toArray, List.set_cons_zero, List.set_cons_succ]
          refine WL.val (by kernel_rfl) (.bool true) (by go_simp) ?_
          simp only [Act.put, List.setIfInBounds_toArray, List.set_cons_zero, List.set_cons_succ]
          refine WL.skip (by kernel_rfl) ?_
          simp only [Act.put, List.setIfInBounds_toArray, List.set_cons_zero, List.set_cons_succ]
          refine WL.skip (by kernel_rfl) ?_
          simp only [Act.put, List.setIfInBounds_toArray, List.set_cons_zero, List.set_cons_succ]
          refine WL.skip (by kernel_rfl) ?_
          simp only [Act.put, List.setIfInBounds_toArray, List.set_cons_zero, List.set_cons_succ]
          refine WL.skip (by kernel_rfl) ?_
          simp only [Act.put, List.setIfInBounds_toArray, List.set_cons_zero, List.set_cons_succ]
          refine WL.val (by kernel_rfl) (.bool true) (by go_simp) ?_
          simp only [Act.put, List.setIfInBounds_toArray, List.set_cons_zero, List.set_cons_succ]
          refine WL.val (by kernel_rfl) (.bool true) (by go_simp) ?_
          simp only [Act.put, List.setIfInBounds_toArray, List.set_cons_zero, List.set_cons_succ]
          refine WL.skip (by kernel_rfl) ?_
          simp only [Act.put, List.setIfInBounds_toArray, List.set_cons_zero, List.set_cons_succ]
          refine WL.skip (by kernel_rfl) ?_
          simp only [Act.put, List.setIfInBounds_toArray, List.set_cons_zero, List.set_cons_succ]
          refine WL.skip (by kernel_rfl) ?_
          simp only [Act.put, List.setIfInBounds_toArray, List.set_cons_zero, List.set_cons_succ]
          refine WL.skip (by kernel_rfl) ?_
          simp only [Act.put, List.setIfInBounds_toArray, List.set_cons_zero, List.set_cons_succ]
          refine WL.val (by kernel_rfl) (.bool true) (by go_simp) ?_
          simp only [Act.put, List.setIfInBounds_toArray, List.set_cons_zero, List.set_cons_succ]
          refine WL.val (by kernel_rfl) (.bool true) (by go_simp) ?_
          simp only [Act.put, List.setIfInBounds_toArray, List.set_cons_zero, List.set_cons_succ]
          refine WL.nil ?_
          refine hK10 _ _ ?_
          refine wp_ret ?_
          go_ret
          exact ⟨by rw [HV.out]; simp [*], by rw [← HgE.out]; exact Hgr.out⟩
        · have h6_13i : ¬ (0 : Int) < (bn : Int) := by omega
          refine WL.val (by kernel_rfl) (.bool false) (by go_simp) ?_
          simp only [Act.put, List.setIfInBounds_toArray, List.set_cons_zero, List.set_cons_succ]
          refine WL.val (by kernel_rfl) (.bool false) (by go_simp) ?_
          simp only [Act.put, List.setIfInBounds_toArray, List.set_cons_zero, List.set_cons_succ]
          refine WL.val (by kernel_rfl) (.bool false) (by go_simp) ?_
          simp only [Act.put, List.setIfInBounds_toArray, List.set_cons_zero, List.set_cons_succ]
          refine WL.val (by kernel_rfl) (.pointer (some ⟨g, 4, none⟩)) (by go_simp) ?_
          simp only [Act.put, List.setIfInBounds_toArray, List.set_cons_zero, List.set_cons_succ]
          refine WL.val (by kernel_rfl) (.slice wa wn wk) (by go_simp) ?_
          simp only [Act.put, List.setIfInBounds_toArray, List.set_cons_zero, List.set_cons_succ]
          refine WL.val (by kernel_rfl) (.int .i64 (wn : Int)) (by go_simp) ?_
          simp only [Act.put, List.setIfInBounds_toArray, List.set_cons_zero, List.set_cons_succ]
          by_cases h6_19 : 0 < wn
          · have h6_19i : (0 : Int) < (wn : Int) := by omega
            refine WL.val (by kernel_rfl) (.bool true) (by go_simp) ?_
            simp only [Act.put, List.setIfInBounds_toArray, List.set_cons_zero, List.set_cons_succ]
            refine WL.val (by kernel_rfl) (.bool true) (by go_simp) ?_
            simp only [Act.put, List.setIfInBounds_toArray, List.set_cons_zero, List.set_cons_succ]
            refine WL.val (by kernel_rfl) (.bool true) (by go_simp) ?_
            simp only [Act.put, List.setIfInBounds_toArray, List.set_cons_zero, List.set_cons_succ]
            refine WL.skip (by kernel_rfl) ?_
            simp only [Act.put, List.setIfInBounds_toArray, List.set_cons_zero, List.set_cons_succ]
            refine WL.skip (by kernel_rfl) ?_
            simp only [Act.put, List.setIfInBounds_toArray, List.set_cons_zero, List.set_cons_succ]
            refine WL.skip (by kernel_rfl) ?_
            simp only [Act.put, List.setIfInBounds_toArray, List.set_cons_zero, List.set_cons_succ]
            refine WL.skip (by kernel_rfl) ?_
            simp only [Act.put, List.setIfInBounds_toArray, List.set_cons_zero, List.set_cons_succ]
            refine WL.val (by kernel_rfl) (.bool true) (by go_simp) ?_
            simp only [Act.put, List.setIfInBounds_toArray, List.set_cons_zero, List.set_cons_succ]
            refine WL.val (by kernel_rfl) (.bool true) (by go_simp) ?_
            simp only [Act.put, List.setIfInBounds_toArray, List.set_cons_zero, List.set_cons_succ]
            refine WL.nil ?_
            refine hK10 _ _ ?_
            refine wp_ret ?_
            go_ret
            exact ⟨by rw [HV.out]; simp [*], by rw [← HgE.out]; exact Hgr.out⟩
          · have h6_19i : ¬ (0 : Int) < (wn : Int) := by omega
            refine WL.val (by kernel_rfl) (.bool false) (by go_simp) ?_
            simp only [Act.put, List.setIfInBounds_toArray, List.set_cons_zero, List.set_cons_succ]
            refine WL.val (by kernel_rfl) (.bool false) (by go_simp) ?_
            simp only [Act.put, List.setIfInBounds_toArray, List.set_cons_zero, List.set_cons_succ]
            refine WL.val (by kernel_rfl) (.bool false) (by go_simp) ?_
            simp only [Act.put, List.setIfInBounds_toArray, List.set_cons_zero, List.set_cons_succ]
            refine WL.val (by kernel_rfl) (.pointer (some ⟨g, 5, none⟩)) (by go_simp) ?_
            simp only [Act.put, List.setIfInBounds_toArray, List.set_cons_zero, List.set_cons_succ]
            refine WL.val (by kernel_rfl) (.slice xa xn xk) (by go_simp) ?_
            simp only [Act.put, List.setIfInBounds_toArray, List.set_cons_zero, List.set_cons_succ]
            refine WL.val (by kernel_rfl) (.int .i64 (xn : Int)) (by go_simp) ?_
            simp only [Act.put, List.setIfInBounds_toArray, List.set_cons_zero, List.set_cons_succ]
            by_cases h6_25 : 0 < xn
            · have h6_25i : (0 : Int) < (xn : Int) := by omega
              refine WL.val (by kernel_rfl) (.bool true) (by go_simp) ?_
              simp only [Act.put, List.setIfInBounds_toArray, List.set_cons_zero, List.set_cons_succ]
              refine WL.val (by kernel_rfl) (.bool true) (by go_simp) ?_
              simp only [Act.put, List.setIfInBounds_toArray, List.set_cons_zero, List.set_cons_succ]
              refine WL.val (by kernel_rfl) (.bool true) (by go_simp) ?_
              simp only [Act.put, List.setIfInBounds_toArray, List.set_cons_zero, List.set_cons_succ]
              refine WL.nil ?_
              refine hK10 _ _ ?_
              refine wp_ret ?_
              go_ret
              exact ⟨by rw [HV.out]; simp [*], by rw [← HgE.out]; exact Hgr.out⟩
            · have h6_25i : ¬ (0 : Int) < (xn : Int) := by omega
              refine WL.val (by kernel_rfl) (.bool false) (by go_simp) ?_
              simp only [Act.put, List.setIfInBounds_toArray, List.set_cons_zero, List.set_cons_succ]
              refine WL.val (by kernel_rfl) (.bool false) (by go_simp) ?_
              simp only [Act.put, List.setIfInBounds_toArray, List.set_cons_zero, List.set_cons_succ]
              refine WL.val (by kernel_rfl) (.bool false) (by go_simp) ?_
              simp only [Act.put, List.setIfInBounds_toArray, List.set_cons_zero, List.set_cons_succ]
              refine WL.nil ?_
              refine hK10 _ _ ?_
              refine wp_ret ?_
              go_ret
              exact ⟨by rw [HV.out]; simp [*], by rw [← HgE.out]; exact Hgr.out⟩
      · skip
        refine WL.val (by kernel_rfl) (.bool true) (by go_simp) ?_
        simp only [Act.put, List.setIfInBounds_toArray, List.set_cons_zero, List.set_cons_succ]
        refine WL.val (by kernel_rfl) (.bool true) (by go_simp) ?_
        simp only [Act.put, List.setIfInBounds_toArray, List.set_cons_zero, List.set_cons_succ]
        refine WL.val (by kernel_rfl) (.bool true) (by go_simp) ?_
        simp only [Act.put, List.setIfInBounds_toArray, List.set_cons_zero, List.set_cons_succ]
        refine WL.skip (by kernel_rfl) ?_
        simp only [Act.put, List.setIfInBounds_toArray, List.set_cons_zero, List.set_cons_succ]
        refine WL.skip (by kernel_rfl) ?_
        simp only [Act.put, List.setIfInBounds_toArray, List.set_cons_zero, List.set_cons_succ]
        refine WL.skip (by kernel_rfl) ?_
        simp only [Act.put, List.setIfInBounds_toArray, List.set_cons_zero, List.set_cons_succ]
        refine WL.skip (by kernel_rfl) ?_
        simp only [Act.put, List.setIfInBounds_toArray, List.set_cons_zero, List.set_cons_succ]
        refine WL.val (by kernel_rfl) (.bool true) (by go_simp) ?_
        simp only [Act.put, List.setIfInBounds_toArray, List.set_cons_zero, List.set_cons_succ]
        refine WL.val (by kernel_rfl) (.bool true) (by go_simp) ?_
        simp only [Act.put, List.setIfInBounds_toArray, List.set_cons_zero, List.set_cons_succ]
        refine WL.skip (by kernel_rfl) ?_
        simp only [Act.put, List.setIfInBounds_toArray, List.set_cons_zero, List.set_cons_succ]
        refine WL.skip (by kernel_rfl) ?_
        simp only [Act.put, List.setIfInBounds_toArray, List.set_cons_zero, List.set_cons_succ]
        refine WL.skip (by kernel_rfl) ?_
        simp only [Act.put, List.setIfInBounds_toArray, List.set_cons_zero, List.set_cons_succ]
        refine WL.skip (by kernel_rfl) ?_
        simp only [Act.put, List.setIfInBounds_toArray, List.set_cons_zero, List.set_cons_succ]
        refine WL.val (by kernel_rfl) (.bool true) (by go_simp) ?_
        simp only [Act.put, List.setIfInBounds_toArray, List.set_cons_zero, List.set_cons_succ]
        refine WL.val (by kernel_rfl) (.bool true) (by go_simp) ?_
        simp only [Act.put, List.setIfInBounds_toArray, List.set_cons_zero, List.set_cons_succ]
        refine WL.skip (by kernel_rfl) ?_
        simp only [Act.put, List.setIfInBounds_toArray, List.set_cons_zero, List.set_cons_succ]
        refine WL.skip (by kernel_rfl) ?_
        simp only [Act.put, List.setIfInBounds_toArray, List.set_cons_zero, List.set_cons_succ]
        refine WL.skip (by kernel_rfl) ?_
        simp only [Act.put, List.setIfInBounds_toArray, List.set_cons_zero, List.set_cons_succ]
        refine WL.skip (by kernel_rfl) ?_
        simp only [Act.put, List.setIfInBounds_toArray, List.set_cons_zero, List.set_cons_succ]
        refine WL.val (by kernel_rfl) (.bool true) (by go_simp) ?_
        simp only [Act.put, List.setIfInBounds_toArray, List.set_cons_zero, List.set_cons_succ]
        refine WL.val (by kernel_rfl) (.bool true) (by go_simp) ?_
        simp only [Act.put, List.setIfInBounds_toArray, List.set_cons_zero, List.set_cons_succ]
        refine WL.nil ?_
        refine hK10 _ _ ?_
        refine wp_ret ?_
        go_ret
        exact ⟨by rw [HV.out]; simp [*], by rw [← HgE.out]; exact Hgr.out⟩
end Go.Proofs.Ytlogkojhcccogaa
