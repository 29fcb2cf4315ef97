import Derived.Test.YtjklmkeedhgncaaA11
namespace Go.Proofs.Ytjklmkeedhgncaa
open Go.RowKit
set_option linter.unusedSimpArgs false
set_option linter.unusedVariables false
theorem BkH.rsv {B : Nat} {w : World} {x : Nat} {rows : List (List Int)} (h : BkH B w x rows) (h0 : 0 < rows.length) : ∃ vr us, w.cell? ⟨x, 0, none⟩ = some vr ∧ RsV w vr us rows ∧ us.length = rows.length := by
 obtain ⟨vr, cs, h1, h2, h3, h4⟩ := h.ex
 exact ⟨vr, cs, h1.c 0 rfl, RsV.of_owns h2 (by omega) h3 (fun j u l hu hl => (h4 j u l hu hl).row), h3⟩
theorem shaL_byts (l : List Int) : Byts (shaL l) := fun c hc => by
 obtain ⟨i, _, rfl⟩ := List.mem_map.1 hc
 exact shaP_rng l i
theorem treeL_byts {k : Nat} {L : List CV} (h1 : 1 ≤ L.length) (h2 : L.length ≤ k) : Byts (treeL k L) := by
 match k, h2 with
 | 0, h2 => omega
 | k + 1, _ =>
  unfold treeL RtP.tree
  split <;> exact shaL_byts _
theorem le8_byts (n : Nat) : Byts (le8 n) := fun c hc => by
 obtain ⟨i, _, rfl⟩ := List.mem_map.1 hc
 exact ⟨Int.emod_nonneg _ (by omega), Int.emod_lt_of_pos _ (by omega)⟩
def RowOk (r : List Int) : Prop := Byts r ∧ r.length ≤ 140737488355000
theorem leafR_ok {c : CV} (h : (0 ≤ c.k ∧ c.k < 9223372036854775808) ∧ c.s.size + c.l.length ≤ 140737488350000) (hb : Byts c.l) : RowOk (RtP.leafR numL c.ce) := by
 have e : RtP.leafR numL c.ce = [0] ++ (numL c.k.toNat ++ (numL (lst c.s).length ++ (lst c.s ++ (numL c.l.length ++ c.l)))) := rfl
 rw [e]
 have h1 := lst_len c.s
 refine ⟨(Byts.one (by omega)).app ((numL_byts _ (by omega)).app ((numL_byts _ (by omega)).app ((lst_byts _).app ((numL_byts _ (by omega)).app hb)))), ?_⟩
 have := numL_len c.k.toNat
 have := numL_len (lst c.s).length
 have := numL_len c.l.length
 simp only [List.length_append, List.length_singleton]
 omega
theorem innR_ok {a b : List Int} (ha : Byts a) (hb : Byts b) (h1 : a.length = 32) (h2 : b.length = 32) : RowOk (RtP.innR a b) := by
 have e : RtP.innR a b = [1] ++ (a ++ b) := rfl
 rw [e]
 exact ⟨(Byts.one (by omega)).app (ha.app hb), by simp [h1, h2]⟩
theorem treeR_ok : ∀ (k : Nat) (L : List CV), 1 ≤ L.length → L.length ≤ k → Fit L → (∀ c ∈ L, Byts c.l) → ∀ r ∈ treeR k L, RowOk r
 | 0, L, h1, h2, _, _, _, _ => by omega
 | k + 1, L, h1, h2, hF, hB, r, hr => by
  by_cases h : L.length ≤ 1
  ·match L, h1, h with
   | [c], _, _ =>
    rw [treeR_one] at hr
    simp at hr
    subst hr
    exact leafR_ok (hF c (by simp)) (hB c (by simp))
  ·have hh := RtP.half_le (n := L.length) (by omega)
   have hl1 : (L.take (RtP.half L.length)).length = RtP.half L.length := by rw [List.length_take]; omega
   have hl2 : (L.drop (RtP.half L.length)).length = L.length - RtP.half L.length := List.length_drop
   rw [treeR_two h] at hr
   rcases List.mem_append.1 hr with hr | hr
   ·exact treeR_ok k _ (by omega) (by omega) (fun c hc => hF c (List.mem_of_mem_take hc)) (fun c hc => hB c (List.mem_of_mem_take hc)) r hr
   ·rcases List.mem_append.1 hr with hr | hr
    ·exact treeR_ok k _ (by omega) (by omega) (fun c hc => hF c (List.mem_of_mem_drop hc)) (fun c hc => hB c (List.mem_of_mem_drop hc)) r hr
    ·simp at hr
     subst hr
     exact innR_ok (treeL_byts (by omega) (by omega)) (treeL_byts (by omega) (by omega)) (treeL_len (by omega) (by omega)) (treeL_len (by omega) (by omega))
theorem rootS_ok {L : List CV} (hF : Fit L) (hB : ∀ c ∈ L, Byts c.l) : ∀ r ∈ rootS L, RowOk r := by
 intro r hr
 rw [rootS_eq] at hr
 rcases List.mem_append.1 hr with hr | hr
 ·by_cases h : 1 ≤ L.length
  ·exact treeR_ok _ L h (Nat.le_refl _) hF hB r hr
  ·have : L = [] := List.eq_nil_of_length_eq_zero (by omega)
   subst this
   simp [treeR, RtP.treeRs] at hr
 ·simp at hr
  subst hr
  rw [rootL_eq]
  have e : RtP.topR le8 L.length (treeL L.length L) = [2] ++ (le8 L.length ++ (if 0 < L.length then treeL L.length L else [])) := rfl
  rw [e]
  by_cases h : 0 < L.length
  ·rw [if_pos h]
   exact ⟨(Byts.one (by omega)).app ((le8_byts _).app (treeL_byts h (Nat.le_refl _))), by simp [le8_len, treeL_len (k := L.length) h (Nat.le_refl _)]⟩
  ·rw [if_neg h]
   exact ⟨(Byts.one (by omega)).app ((le8_byts _).app Byts.nil), by simp [le8_len]⟩
theorem rootS_len (L : List CV) : (rootS L).length ≤ 2 * L.length + 1 ∧ 0 < (rootS L).length := by
 rw [rootS_eq, List.length_append, List.length_singleton]
 by_cases h : 1 ≤ L.length
 ·have := treeR_len L.length L h (Nat.le_refl _); omega
 ·have : L = [] := List.eq_nil_of_length_eq_zero (by omega)
  subst this
  simp [treeR, RtP.treeRs]
theorem numL_pre (a b : Nat) (s t : List Int) (ha : a < 18446744073709551616) (hb : b < 18446744073709551616) (h : numL a ++ s = numL b ++ t) : a = b ∧ s = t := by
 have h1 := fstG_numL a ha s
 rw [h, fstG_numL b hb t] at h1
 have e : a = b := by
  have := congrArg (fun z : Int × Int × Int => z.1) h1
  simp at this
  omega
 subst e
 exact ⟨rfl, List.append_cancel_left h⟩
def d0 : CV := ⟨0, ByteArray.empty, .nilFunc, []⟩
theorem CV.sm {c : CV} (h : (0 ≤ c.k ∧ c.k < 9223372036854775808) ∧ c.s.size + c.l.length ≤ 140737488350000) : c.ce.Sm := by
 have := lst_len c.s
 refine ⟨?_, ?_, ?_⟩
 ·show c.k.toNat < _; omega
 ·show (lst c.s).length < _; omega
 ·show c.l.length < _; omega
theorem lst_inj {a b : ByteArray} (h : lst a = lst b) : a = b := by rw [← nums_lst a, ← nums_lst b, h]

end Go.Proofs.Ytjklmkeedhgncaa
