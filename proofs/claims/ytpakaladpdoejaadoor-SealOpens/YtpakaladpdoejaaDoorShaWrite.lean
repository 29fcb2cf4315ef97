import Derived.Test.YtpakaladpdoejaaDoorShaWo
namespace Go.Proofs.YtpakaladpdoejaaDoor
open Go.RowKit

structure Dg where
  s : Nat → Int
  r : Nat → Int
  n : Nat
def absorb (d : Dg) (x : Int) : Dg := ⟨if d.n % 64 = 63 then mixF d.s (upd d.r (d.n % 64) x) else d.s, upd d.r (d.n % 64) x, d.n + 1⟩
def absorbN (d : Dg) (x : Nat → Int) : Nat → Dg
  | 0 => d
  | i + 1 => absorb (absorbN d x i) (x i)
theorem absorbN_n (d : Dg) (x : Nat → Int) (i : Nat) : (absorbN d x i).n = d.n + i := by
  induction i with
  | zero => rfl
  | succ i ih => simp only [absorbN, absorb, ih]; omega
theorem absorbN_add (d : Dg) (x : Nat → Int) (i k : Nat) : absorbN d x (i + k) = absorbN (absorbN d x i) (fun j => x (i + j)) k := by
  induction k with
  | zero => rfl
  | succ k ih => rw [← Nat.add_assoc]; simp only [absorbN, ih]
theorem putN_succ (r : Nat → Int) (u k : Nat) (y : Nat → Int) : upd (putN r u k y) (u + k) (y k) = putN r u (k + 1) y := by
  funext j
  simp only [upd, putN]
  by_cases h1 : j = u + k
  · subst h1; simp
  · by_cases h2 : u ≤ j ∧ j < u + k
    · rw [if_neg h1, if_pos h2, if_pos (by omega)]
    · rw [if_neg h1, if_neg h2, if_neg (by omega)]
theorem putN_zero (r : Nat → Int) (u : Nat) (y : Nat → Int) : putN r u 0 y = r := by
  funext j; simp only [putN]; rw [if_neg (by omega)]
theorem absorb_chunk (d : Dg) (y : Nat → Int) (k : Nat) (h : d.n % 64 + k ≤ 64) :
    absorbN d y k = ⟨if d.n % 64 + k = 64 then mixF d.s (putN d.r (d.n % 64) k y) else d.s, putN d.r (d.n % 64) k y, d.n + k⟩ := by
  induction k with
  | zero => simp only [absorbN, putN_zero]; rw [if_neg (by omega)]; rfl
  | succ k ih =>
    simp only [absorbN]
    rw [ih (by omega), if_neg (by omega)]
    have e : (d.n + k) % 64 = d.n % 64 + k := by omega
    simp only [absorb, e, putN_succ]
    by_cases h63 : d.n % 64 + k = 63
    · rw [if_pos h63, if_pos (by omega)]; rfl
    · rw [if_neg h63, if_neg (by omega)]; rfl

theorem Tryd.elem65 : Tryd.prog.elem 49 = 5 := by kernel_rfl
theorem Tryd.alen65 : Tryd.prog.arrayLen 49 = 64 := by kernel_rfl
theorem slice65 (w : World) (g u : Nat) (h : u < 64) : (Instr.sliceAt 49 (.pointer (some ⟨g, 8, none⟩)) (some (.int .i64 (u : Int))) none none).run Tryd.prog w = .ok (.slice (some ⟨g, 8 + u, none⟩) (64 - u) (64 - u)) w := by
  rw [run_sliceAt_array_l (P := Tryd.prog) (w := w) (t := 49) (a := ⟨g, 8, none⟩) (by rw [Tryd.elem65, Tryd.alen65]; exact Tryd.underlying49) .i64 (u : Int) (by omega) (by rw [Tryd.alen65]; omega), Tryd.elem65, Tryd.alen65, Tryd.sizeOf5]
  have : ¬ 64 = u := by omega
  simp [slicedAt, Result.andThen, Addr.add_mid, this]

theorem lit8 (c : Nat → Int) : (#[.int .u32 (c 0), .int .u32 (c 1), .int .u32 (c 2), .int .u32 (c 3), .int .u32 (c 4), .int .u32 (c 5), .int .u32 (c 6), .int .u32 (c 7)] : Array Value) = wordsA 8 c := by kernel_rfl

theorem grownBy_drewN (w : World) (n : Nat) (o : Option Nat) : w.grownBy (w.drewN n) o := ⟨rfl, rfl, rfl, Nat.le_refl _, fun _ _ _ => rfl⟩
theorem grownBy_cell {w w' : World} {g h j : Nat} {v : Value} (hg : w.grownBy w' (some g)) (hne : h ≠ g) (hc : w.cell? ⟨h, j, none⟩ = some v) : w'.cell? ⟨h, j, none⟩ = some v := by
  have hlt : h < w.heap.size := by
    apply Nat.lt_of_not_le; intro hle
    simp [World.cell?, Array.getElem?_eq_none hle] at hc
  rw [World.cell?_of_block (w := w) (hg.block h hlt (by simpa using hne))]; exact hc

set_option maxRecDepth 8000 in
set_option maxHeartbeats 1000000 in
theorem write_any (g : Nat) (d : Dg) (x : Nat → Int) (len cap h off : Nat) (w : World) (hg : Blk w g 94 (digA d.s d.r d.n)) (hgh : h ≠ g)
    (hx : ∀ i, i < len → w.cell? ⟨h, off + i, none⟩ = some (.int .u8 (x i))) (hlen : (d.n : Int) + len ≤ 1152921504606846976) (hcap : len ≤ cap) :
    Calls Tryd.prog 32 #[ptr g, .slice (some ⟨h, off, none⟩) len cap] w fun e w' => e = .returned (.tuple #[]) ∧ Blk w' g 94 (digA (absorbN d x len).s (absorbN d x len).r (absorbN d x len).n) ∧ w.grownBy w' (some g) := by
  have HX : Keep (∀ i, i < len → w.cell? ⟨h, off + i, none⟩ = some (.int .u8 (x i))) := ⟨hx⟩
  clear hx
  go_enter Tryd.func32, Tryd.ntmps32
  go_wp2
  go_loopw [1] (fun b wr => ∃ i o c : Nat, i ≤ len ∧ b = .slice (some ⟨h, o, none⟩) (len - i) c ∧ len - i ≤ c ∧ Hid (i < len → o = off + i) ∧ Blk wr g 94 (digA (absorbN d x i).s (absorbN d x i).r (absorbN d x i).n) ∧ w.grownBy wr (some g)) (fun b _ => match b with | .slice _ l _ => l | _ => 0)
  case atStart => exact ⟨0, off, cap, by omega, rfl, by omega, fun _ => rfl, hg, grownBy_refl _ _⟩
  case round =>
    obtain ⟨i, o, c, hi, rfl, hc, HO, hD, hgr⟩ := hrel
    clear hg
    have hni := absorbN_n d x i
    obtain ⟨D, hDD⟩ : ∃ D, Keep (D = absorbN d x i) := ⟨_, ⟨rfl⟩⟩
    rw [← hDD.out] at hD hni
    obtain ⟨s, r, n⟩ := D
    dsimp only at hD hni
    by_cases hlt : i < len
    · have c72 : wr.cell? ⟨g, 72, none⟩ = some (.int .i64 n) := by rw [hD.cell, digA_n]
      have hn0 : (n : Int) + (len - i : Nat) ≤ 1152921504606846976 := by omega
      clear hni
      obtain rfl := HO.out hlt
      obtain ⟨u, hu0⟩ : ∃ u, u = n % 64 := ⟨_, rfl⟩
      have hu : (n : Int) % 64 = (u : Int) := by omega
      have hu64 : u < 64 := by omega
      have hu64' : (u : Int) < 64 := by omega
      have HU : Keep (u = n % 64) := ⟨hu0⟩
      clear hu0
      have hsl := slice65 wr g u hu64
      obtain ⟨k, hk0⟩ : ∃ k, k = Nat.min (len - i) (64 - u) := ⟨_, rfl⟩
      have hk1 : k ≤ len - i := by rw [hk0]; exact Nat.min_le_left _ _
      have hk2' : k ≤ 64 - u := by rw [hk0]; exact Nat.min_le_right _ _
      have hk2 : u + k ≤ 64 := by omega
      clear hk2'
      have hk3 : 0 < k := by rw [hk0]; exact Nat.lt_min.2 ⟨by omega, by omega⟩
      have HK : Keep (k = Nat.min (len - i) (64 - u)) := ⟨hk0⟩
      clear hk0
      have HS : Keep (∀ j v, ((List.range k).map fun j => Value.int .u8 (x (i + j)))[j]? = some v → wr.cell? ((⟨h, off + i, none⟩ : Addr).add j) = some v) := by
        refine ⟨?_⟩
        intro j v hv
        have hj : j < k := by have := (List.getElem?_eq_some_iff.1 hv).1; simpa using this
        rw [List.getElem?_map, List.getElem?_range hj] at hv
        rw [Addr.add_mid, Nat.add_assoc]
        refine grownBy_cell hgr hgh ?_
        rw [HX.out _ (by omega)]
        simpa using hv
      have HL : Keep (((List.range k).map fun j => Value.int .u8 (x (i + j))).length = Nat.min (len - i) (64 - u)) := by
        refine ⟨?_⟩; rw [← HK.out]; simp
      have HF : Keep (8 + u + ((List.range k).map fun j => Value.int .u8 (x (i + j))).length ≤ (digA s r n).size) := by
        refine ⟨?_⟩; rw [digA_size]; simp; omega
      have H1 : Keep (∀ v ∈ ((List.range k).map fun j => Value.int .u8 (x (i + j))), v.oneCell' = true) := by
        refine ⟨?_⟩; intro v hv; simp at hv; obtain ⟨_, _, rfl⟩ := hv; rfl
      obtain ⟨w1, hw1⟩ : ∃ w1, Keep (w1 = wr.setRow g ((digA s r n).toList.take (8 + u) ++ (((List.range k).map fun j => Value.int .u8 (x (i + j))) ++ (digA s r n).toList.drop (8 + u + ((List.range k).map fun j => Value.int .u8 (x (i + j))).length))).toArray) := ⟨_, ⟨rfl⟩⟩
      have hD1 : Blk w1 g 94 (digA s (putN r u k (fun j => x (i + j))) n) := by
        have := hD.setRow (digA s (putN r u k (fun j => x (i + j))) n)
        rw [← digA_splice s r n u k (fun j => x (i + j)) hk2] at this ⊢
        rw [hw1.out, List.length_map, List.length_range]; exact this
      have hgr1 : w.grownBy w1 (some g) := by rw [hw1.out]; exact grownBy_trans hgr (grownBy_setRow _ _ _)
      have c72' : w1.cell? ⟨g, 72, none⟩ = some (.int .i64 n) := by rw [hD1.cell, digA_n]
      have f72' : w1.frozen? ⟨g, 72, none⟩ = false := hD1.frozen 72
      go_wp2_with (refine wpList_copy_own rfl (.tmp 18) (.tmp 19) 22 22 rfl 5 Tryd.underlying22 Tryd.size5 g (8 + u) (64 - u) (64 - u) ⟨h, off + i, none⟩ (len - i) c rfl rfl (digA s r n) 94 hD ((List.range k).map fun j => Value.int .u8 (x (i + j))) HL.out HS.out HF.out H1.out ?_; rw [← hw1.out, List.length_map, List.length_range]; refine Hid.out ?_)
      clear c72 hsl hD
      refine hid_in ?_
      have hch : Keep (absorbN d x (i + k) = ⟨if u + k = 64 then mixF s (putN r u k fun j => x (i + j)) else s, putN r u k fun j => x (i + j), n + k⟩) := by
        refine ⟨?_⟩
        rw [absorbN_add, ← hDD.out]
        have := absorb_chunk ⟨s, r, n⟩ (fun j => x (i + j)) k (by rw [← HU.out]; exact hk2)
        rw [← HU.out] at this
        exact this
      have hcc : Keep ((if c = k then some (⟨h, off + i, none⟩ : Addr) else some ⟨h, off + i + k, none⟩) = some ⟨h, if c = k then off + i else off + i + k, none⟩) := ⟨by split <;> rfl⟩
      have hoo : Keep (i + k < len → (if c = k then off + i else off + i + k) = off + (i + k)) := ⟨fun hl => by rw [if_neg (by omega)]; omega⟩
      clear HX HS HL HF H1 hw1 HO
      by_cases huk : u + k = 64
      · have hukb : ((u : Int) + (k : Int) == 64) = true := by simp; omega
        by_cases hck : c = k
        · have hck' := hck.symm
          subst hck'
          go_wp2
          have hD2 := hD1.set 72 (.int .i64 ((n : Int) + k))
          rw [digA_setn] at hD2
          have hgr2 := grownBy_trans hgr1 (grownBy_setCell w1 g 72 (.int .i64 ((n : Int) + k)))
          generalize w1.setCell ⟨g, 72, none⟩ (.int .i64 ((n : Int) + k)) = w2 at *
          clear hD1 hgr1 c72' f72' hgr
          refine wo_region _ g w2 s _ ((n : Int) + k) _ (by simp) rfl hD2 _ ?_
          intro wc hgr3 hD3
          rw [putsTo_wo]
          simp only [Act.put, List.setIfInBounds_toArray, List.set_cons_succ, List.set_cons_zero]
          go_wp2
          have hx3 : Blk wc g 94 (digA (absorbN d x (i + k)).s (absorbN d x (i + k)).r (absorbN d x (i + k)).n) := by
            rw [hch.out, if_pos huk]
            simpa using hD3
          refine ⟨⟨i + k, off + i, 0, by omega, by rw [show len - (i + k) = 0 by omega], by omega, fun hl => absurd hl (by omega), hx3, grownBy_trans hgr2 hgr3⟩, by dsimp only; omega⟩
        · go_wp2
          have hD2 := hD1.set 72 (.int .i64 ((n : Int) + k))
          rw [digA_setn] at hD2
          have hgr2 := grownBy_trans hgr1 (grownBy_setCell w1 g 72 (.int .i64 ((n : Int) + k)))
          generalize w1.setCell ⟨g, 72, none⟩ (.int .i64 ((n : Int) + k)) = w2 at *
          clear hD1 hgr1 c72' f72' hgr
          refine wo_region _ g w2 s _ ((n : Int) + k) _ (by simp) rfl hD2 _ ?_
          intro wc hgr3 hD3
          rw [putsTo_wo]
          simp only [Act.put, List.setIfInBounds_toArray, List.set_cons_succ, List.set_cons_zero]
          go_wp2
          have hx3 : Blk wc g 94 (digA (absorbN d x (i + k)).s (absorbN d x (i + k)).r (absorbN d x (i + k)).n) := by
            rw [hch.out, if_pos huk]
            simpa using hD3
          refine ⟨⟨i + k, off + i + k, c - k, by omega, by rw [Nat.sub_sub], by omega, fun _ => Nat.add_assoc _ _ _, hx3, grownBy_trans hgr2 hgr3⟩, by dsimp only; omega⟩
      · have hukb : ((u : Int) + (k : Int) == 64) = false := by simp; omega
        go_wp2
        refine ⟨⟨i + k, _, c - k, by omega, by rw [hcc.out, Nat.sub_sub], by omega, hoo.out, ?_, grownBy_trans hgr1 (grownBy_setCell _ _ _ _)⟩, by dsimp only; omega⟩
        have h2 := hD1.set 72 (.int .i64 ((n : Int) + k))
        rw [digA_setn] at h2
        rw [hch.out, if_neg huk]
        simpa using h2
    · obtain rfl : i = len := by omega
      rw [Nat.sub_self]
      have hfin : Blk wr g 94 (digA (absorbN d x i).s (absorbN d x i).r (absorbN d x i).n) := by rw [← hDD.out]; exact hD
      go_wp2
      go_end0
      exact ⟨rfl, hfin, hgr⟩
end Go.Proofs.YtpakaladpdoejaaDoor
