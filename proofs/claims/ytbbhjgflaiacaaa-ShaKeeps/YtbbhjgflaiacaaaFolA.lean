import Derived.Test.YtbbhjgflaiacaaaOrdM
namespace Go.Proofs.Ytbbhjgflaiacaaa
open Go.RowKit Go.Sort

theorem layUp_rng (s : Nat → Int) : ∀ t i, 0 ≤ layUp s t i ∧ layUp s t i < 256
  | 0, i => by simp [layUp]
  | t + 1, i => by
    have ih := layUp_rng s t i
    simp only [layUp, upd]
    repeat' split
    all_goals first | exact ih | omega
theorem shaP_rng (l : List Int) (i : Nat) : 0 ≤ shaP l i ∧ shaP l i < 256 := layUp_rng _ 8 i
/-- The hash of a row, as a hash. -/
def shaH (l : List Int) : Hs := Hs.mk' (shaP l) fun i _ => shaP_rng l i
theorem shaH_f (l : List Int) (i : Nat) (hi : i < 32) : (shaH l).f i = shaP l i := Hs.mk'_f _ _ i hi
theorem shaH_arr (l : List Int) : bytesA 32 (shaP l) = (encH (shaH l)).toArray := by
  rw [encH_arr]; exact bytesA_congr fun i hi => (shaH_f l i hi).symm

theorem dgt_rng (k : Int) (h0 : 0 ≤ k) (h1 : k < 16) : 48 ≤ dgt k ∧ dgt k ≤ 102 := by unfold dgt; split <;> omega
theorem dgt_mono (a b : Int) (h : a < b) : dgt a < dgt b := by unfold dgt; split <;> split <;> omega
theorem hexv_dgt (k : Nat) (hk : k < 16) : hexv (dgt k) = k := by
  have : ∀ k : Fin 16, hexv (dgt (k.val : Int)) = (k.val : Int) := by decide +kernel
  exact this ⟨k, hk⟩
theorem or_dgt (a b : Nat) (ha : a < 16) (hb : b < 16) : bits .or .i64 ((a : Int) * 16) (b : Int) % 256 = (a : Int) * 16 + b := by
  have : ∀ a b : Fin 16, bits .or .i64 ((a.val : Int) * 16) (b.val : Int) % 256 = (a.val : Int) * 16 + b.val := by decide +kernel
  exact this ⟨a, ha⟩ ⟨b, hb⟩

theorem chr_rng (x : Hs) (j : Nat) (hj : j < 64) : 48 ≤ chr x.f j ∧ chr x.f j ≤ 102 := by
  have hb := x.bnd (j / 2) (by omega)
  unfold chr
  split
  · exact dgt_rng _ (by omega) (by omega)
  · exact dgt_rng _ (by omega) (by omega)
theorem byteAt_pr (x : Hs) (j : Nat) (hj : j < 64) : byteAt (prS x.f) j = chr x.f j := by
  have hr := chr_rng x j hj
  unfold byteAt prS
  rw [strOfNums_data, List.map_map, List.getD_eq_getElem?_getD, List.getElem?_map, List.getElem?_range hj]
  simp only [Option.map_some, Option.getD_some, Function.comp]
  rw [UInt8.toNat_ofNat']
  omega
theorem prS_size (c : Nat → Int) : (prS c).size = 64 := by unfold prS; rw [strOfNums_size]; simp
theorem pr_hi (x : Hs) (t : Nat) (ht : t < 32) : hexv (byteAt (prS x.f) (2 * t)) = x.f t / 16 := by
  have hb := x.bnd t ht
  rw [byteAt_pr x _ (by omega), chr_even]
  obtain ⟨k, hk⟩ : ∃ k : Nat, x.f t / 16 = k := ⟨(x.f t / 16).toNat, by omega⟩
  rw [hk]; exact hexv_dgt k (by omega)
theorem pr_lo (x : Hs) (t : Nat) (ht : t < 32) : hexv (byteAt (prS x.f) (2 * t + 1)) = x.f t % 16 := by
  have hb := x.bnd t ht
  rw [byteAt_pr x _ (by omega), chr_odd]
  obtain ⟨k, hk⟩ : ∃ k : Nat, x.f t % 16 = k := ⟨(x.f t % 16).toNat, by omega⟩
  rw [hk]; exact hexv_dgt k (by omega)
theorem pr_ok (x : Hs) : ∀ t, t ≤ 32 → okUp (byteAt (prS x.f)) t = true
  | 0, _ => rfl
  | t + 1, h => by
    have hb := x.bnd t (by omega)
    rw [okUp, pr_ok x t (by omega), pr_hi x t (by omega), pr_lo x t (by omega), decide_eq_true (by omega : (0 : Int) ≤ x.f t / 16), decide_eq_true (by omega : (0 : Int) ≤ x.f t % 16)]; rfl
theorem pr_par (x : Hs) : ∀ t, t ≤ 32 → ∀ i, i < t → parUp (byteAt (prS x.f)) t i = x.f i
  | 0, _, i, h => by omega
  | t + 1, h, i, hi => by
    have hb := x.bnd t (by omega)
    rw [parUp, upd]
    by_cases e : i = t
    · subst e
      rw [if_pos rfl, pr_hi x i (by omega), pr_lo x i (by omega)]
      obtain ⟨k, hk⟩ : ∃ k : Nat, x.f i / 16 = k := ⟨(x.f i / 16).toNat, by omega⟩
      obtain ⟨m, hm⟩ : ∃ m : Nat, x.f i % 16 = m := ⟨(x.f i % 16).toNat, by omega⟩
      rw [hk, hm, or_dgt k m (by omega) (by omega)]
      omega
    · rw [if_neg e]; exact pr_par x t (by omega) i (by omega)
theorem pE_pr (x : Hs) : pE (prS x.f) = 0 := by
  unfold pE parE
  rw [if_pos (prS_size _), if_pos (pr_ok x 32 (Nat.le_refl _))]
theorem pF_pr (x : Hs) : bytesA 32 (pF (prS x.f)) = (encH x).toArray := by
  rw [encH_arr]
  refine bytesA_congr fun i hi => ?_
  unfold pF parF
  rw [if_pos (prS_size _), if_pos (pr_ok x 32 (Nat.le_refl _))]
  exact pr_par x 32 (Nat.le_refl _) i hi

/-- Two digits a byte. -/
def strF (c : Nat → Int) : Nat → Nat → List UInt8
  | 0, _ => []
  | n + 1, i => UInt8.ofNat (dgt (c i / 16)).toNat :: UInt8.ofNat (dgt (c i % 16)).toNat :: strF c n (i + 1)
theorem strF_range (c : Nat → Int) : ∀ n i, (List.range' (2 * i) (2 * n)).map (fun j => UInt8.ofNat (chr c j).toNat) = strF c n i
  | 0, i => rfl
  | n + 1, i => by
    rw [show 2 * (n + 1) = 2 * n + 1 + 1 by omega, List.range'_succ, List.range'_succ, List.map_cons, List.map_cons, chr_even, chr_odd, strF, ← strF_range c n (i + 1)]
    rfl
theorem prS_list (c : Nat → Int) : (prS c).data.toList = strF c 32 0 := by
  unfold prS
  rw [strOfNums_data, List.map_map, ← strF_range c 32 0, List.range_eq_range']
  rfl

theorem u8_lt (a b : Int) (ha : 48 ≤ a ∧ a ≤ 102) (hb : 48 ≤ b ∧ b ≤ 102) : (UInt8.ofNat a.toNat < UInt8.ofNat b.toNat) ↔ a < b := by
  rw [UInt8.lt_iff_toNat_lt, UInt8.toNat_ofNat', UInt8.toNat_ofNat']; omega
theorem u8_eq (a b : Int) (ha : 48 ≤ a ∧ a ≤ 102) (hb : 48 ≤ b ∧ b ≤ 102) : (UInt8.ofNat a.toNat = UInt8.ofNat b.toNat) ↔ a = b := by
  rw [← UInt8.toNat_inj, UInt8.toNat_ofNat', UInt8.toNat_ofNat']; omega
theorem less_str (x y : Hs) : ∀ n i, i + n ≤ 32 → Op.bytesLess (strF x.f n i) (strF y.f n i) = decide (cmpG x.f y.f n i < 0)
  | 0, i, _ => rfl
  | n + 1, i, h => by
    have hx := x.bnd i (by omega)
    have hy := y.bnd i (by omega)
    have ih := less_str x y n (i + 1) (by omega)
    rw [strF, strF, Op.bytesLess, Op.bytesLess, ih, cmpG]
    have h1 := dgt_rng (x.f i / 16) (by omega) (by omega)
    have h2 := dgt_rng (x.f i % 16) (by omega) (by omega)
    have h3 := dgt_rng (y.f i / 16) (by omega) (by omega)
    have h4 := dgt_rng (y.f i % 16) (by omega) (by omega)
    have m1 := dgt_mono (x.f i / 16) (y.f i / 16)
    have m2 := dgt_mono (y.f i / 16) (x.f i / 16)
    have m3 := dgt_mono (x.f i % 16) (y.f i % 16)
    have m4 := dgt_mono (y.f i % 16) (x.f i % 16)
    have L1 := u8_lt _ _ h1 h3
    have E1 := u8_eq _ _ h1 h3
    have L2 := u8_lt _ _ h2 h4
    have E2 := u8_eq _ _ h2 h4
    generalize UInt8.ofNat (dgt (x.f i / 16)).toNat = A1 at *
    generalize UInt8.ofNat (dgt (y.f i / 16)).toNat = B1 at *
    generalize UInt8.ofNat (dgt (x.f i % 16)).toNat = A2 at *
    generalize UInt8.ofNat (dgt (y.f i % 16)).toNat = B2 at *
    generalize cmpG x.f y.f n (i + 1) = c at *
    rcases Int.lt_trichotomy (x.f i / 16) (y.f i / 16) with g | g | g
    · have a1 : A1 < B1 := L1.2 (m1 g)
      have a2 : x.f i < y.f i := by omega
      simp [a1, a2]
    · have a1 : ¬ A1 < B1 := fun h => by have := L1.1 h; rw [g] at this; omega
      have a2 : A1 = B1 := E1.2 (by rw [g])
      rcases Int.lt_trichotomy (x.f i % 16) (y.f i % 16) with k | k | k
      · have a3 : A2 < B2 := L2.2 (m3 k)
        have a4 : x.f i < y.f i := by omega
        simp [a2, a3, a4]
      · have a3 : ¬ A2 < B2 := fun h => by have := L2.1 h; rw [k] at this; omega
        have a4 : A2 = B2 := E2.2 (by rw [k])
        have a5 : x.f i = y.f i := by omega
        simp [a2, a4, a5]
      · have k' := m4 k
        have a3 : ¬ A2 < B2 := fun h => by have := L2.1 h; omega
        have a4 : ¬ A2 = B2 := fun h => by have := E2.1 h; omega
        have a5 : ¬ x.f i < y.f i := by omega
        have a6 : y.f i < x.f i := by omega
        simp [a2, a3, a4, a5, a6]
    · have g' := m2 g
      have a1 : ¬ A1 < B1 := fun h => by have := L1.1 h; omega
      have a2 : ¬ A1 = B1 := fun h => by have := E1.1 h; omega
      have a3 : ¬ x.f i < y.f i := by omega
      have a4 : y.f i < x.f i := by omega
      simp [a1, a2, a3, a4]
/-- Texts stand in the order of their hashes. -/
theorem less_pr (x y : Hs) : Op.bytesLess (prS x.f).toList (prS y.f).toList = decide (cf x y < 0) := by
  rw [ByteArray.toList_eq, ByteArray.toList_eq, prS_list, prS_list]
  exact less_str x y 32 0 (Nat.le_refl _)
theorem rises_of {L : List Hs} (h : L.Pairwise Lt) : risesB L = true := by
  rw [risesB_iff]
  intro i hi
  have h1 := List.pairwise_iff_getElem.1 h i (i + 1) (by omega) hi (by omega)
  rw [List.getD_eq_getElem?_getD, List.getD_eq_getElem?_getD, List.getElem?_eq_getElem (by omega), List.getElem?_eq_getElem hi]
  exact h1
theorem cmpG_rng (a b : Nat → Int) : ∀ n i, -1 ≤ cmpG a b n i ∧ cmpG a b n i ≤ 1
  | 0, _ => by simp [cmpG]
  | n + 1, i => by
    have ih := cmpG_rng a b n (i + 1)
    unfold cmpG
    split
    · omega
    · split
      · omega
      · exact ih
theorem cf_rng (x y : Hs) : -1 ≤ cf x y ∧ cf x y ≤ 1 := cmpG_rng _ _ _ _
end Go.Proofs.Ytbbhjgflaiacaaa
