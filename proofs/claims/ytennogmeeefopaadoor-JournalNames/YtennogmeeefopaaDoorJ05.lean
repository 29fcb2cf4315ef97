import Derived.Test.YtennogmeeefopaaDoorJ04
import Derived.Test.YtennogmeeefopaaDoorJ03
import Derived.Deep.RegionHeld3
namespace Go.Proofs.YtennogmeeefopaaDoor
open Go.RowKit

structure Dg where
  s : Nat → Int
  r : Nat → Int
  n : Nat
def absorb (d : Dg) (x : Int) : Dg := ⟨if d.n % 64 = 63 then mixF d.s (upd d.r (d.n % 64) x) else d.s, upd d.r (d.n % 64) x, d.n + 1⟩
def absorbN (d : Dg) (x : Nat → Int) : Nat → Dg
  | 0 => d
  | i + 1 => absorb (absorbN d x i) (x i)
theorem absorbN_n (d : Dg) (x : Nat → Int) (i : Nat) : (absorbN d x i).n = d.n + i := by
  induction i with
  | zero => rfl
  | succ i ih => simp only [absorbN, absorb, ih]; omega
theorem absorbN_add (d : Dg) (x : Nat → Int) (i k : Nat) : absorbN d x (i + k) = absorbN (absorbN d x i) (fun j => x (i + j)) k := by
  induction k with
  | zero => rfl
  | succ k ih => rw [← Nat.add_assoc]; simp only [absorbN, ih]
theorem putN_succ (r : Nat → Int) (u k : Nat) (y : Nat → Int) : upd (putN r u k y) (u + k) (y k) = putN r u (k + 1) y := by
  funext j
  simp only [upd, putN]
  by_cases h1 : j = u + k
  · subst h1; simp
  · by_cases h2 : u ≤ j ∧ j < u + k
    · rw [if_neg h1, if_pos h2, if_pos (by omega)]
    · rw [if_neg h1, if_neg h2, if_neg (by omega)]
theorem putN_zero (r : Nat → Int) (u : Nat) (y : Nat → Int) : putN r u 0 y = r := by
  funext j; simp only [putN]; rw [if_neg (by omega)]
theorem absorb_chunk (d : Dg) (y : Nat → Int) (k : Nat) (h : d.n % 64 + k ≤ 64) :
    absorbN d y k = ⟨if d.n % 64 + k = 64 then mixF d.s (putN d.r (d.n % 64) k y) else d.s, putN d.r (d.n % 64) k y, d.n + k⟩ := by
  induction k with
  | zero => simp only [absorbN, putN_zero]; rw [if_neg (by omega)]; rfl
  | succ k ih =>
    simp only [absorbN]
    rw [ih (by omega), if_neg (by omega)]
    have e : (d.n + k) % 64 = d.n % 64 + k := by omega
    simp only [absorb, e, putN_succ]
    by_cases h63 : d.n % 64 + k = 63
    · rw [if_pos h63, if_pos (by omega)]; rfl
    · rw [if_neg h63, if_neg (by omega)]; rfl

theorem Tryd.elemQ : Tryd.prog.elem 139 = 5 := by kernel_rfl
theorem Tryd.alenQ : Tryd.prog.arrayLen 139 = 64 := by kernel_rfl
theorem slice65 (w : World) (g u : Nat) (h : u < 64) : (Instr.sliceAt 139 (.pointer (some ⟨g, 8, none⟩)) (some (.int .i64 (u : Int))) none none).run Tryd.prog w = .ok (.slice (some ⟨g, 8 + u, none⟩) (64 - u) (64 - u)) w := by
  rw [run_sliceAt_array_l (P := Tryd.prog) (w := w) (t := 139) (a := ⟨g, 8, none⟩) (by rw [Tryd.elemQ, Tryd.alenQ]; exact Tryd.underlying139) .i64 (u : Int) (by omega) (by rw [Tryd.alenQ]; omega), Tryd.elemQ, Tryd.alenQ, Tryd.sizeOf5]
  have : ¬ 64 = u := by omega
  simp [slicedAt, Result.andThen, Addr.add_mid, this]

theorem lit8 (c : Nat → Int) : (#[.int .u32 (c 0), .int .u32 (c 1), .int .u32 (c 2), .int .u32 (c 3), .int .u32 (c 4), .int .u32 (c 5), .int .u32 (c 6), .int .u32 (c 7)] : Array Value) = wordsA 8 c := by kernel_rfl

theorem grownBy_drewN (w : World) (n : Nat) (o : Option Nat) : w.grownBy (w.drewN n) o := ⟨rfl, rfl, rfl, Nat.le_refl _, fun _ _ _ => rfl⟩
theorem grownBy_cell {w w' : World} {g h j : Nat} {v : Value} (hg : w.grownBy w' (some g)) (hne : h ≠ g) (hc : w.cell? ⟨h, j, none⟩ = some v) : w'.cell? ⟨h, j, none⟩ = some v := by
  have hlt : h < w.heap.size := by
    apply Nat.lt_of_not_le; intro hle
    simp [World.cell?, Array.getElem?_eq_none hle] at hc
  rw [World.cell?_of_block (w := w) (hg.block h hlt (by simpa using hne))]; exact hc

set_option maxRecDepth 8000 in
set_option maxHeartbeats 1000000 in
theorem write_any (g : Nat) (d : Dg) (x : Nat → Int) (len cap h off : Nat) (w : World) (hg : Blk w g 141 (digA d.s d.r d.n)) (hgh : h ≠ g)
    (hx : ∀ i, i < len → w.cell? ⟨h, off + i, none⟩ = some (.int .u8 (x i))) (hlen : (d.n : Int) + len ≤ 1152921504606846976) (hcap : len ≤ cap) :
    Calls Tryd.prog 63 #[ptr g, .slice (some ⟨h, off, none⟩) len cap] w fun e w' => e = .returned (.tuple #[]) ∧ Blk w' g 141 (digA (absorbN d x len).s (absorbN d x len).r (absorbN d x len).n) ∧ w.grownBy w' (some g) := by
  have HX : Keep (∀ i, i < len → w.cell? ⟨h, off + i, none⟩ = some (.int .u8 (x i))) := ⟨hx⟩
  clear hx
  go_enter Tryd.func63, Tryd.ntmps63
  go_wp2
  go_loopw [1] (fun b wr => ∃ i o c : Nat, i ≤ len ∧ b = .slice (some ⟨h, o, none⟩) (len - i) c ∧ len - i ≤ c ∧ Hid (i < len → o = off + i) ∧ Blk wr g 141 (digA (absorbN d x i).s (absorbN d x i).r (absorbN d x i).n) ∧ w.grownBy wr (some g)) (fun b _ => match b with | .slice _ l _ => l | _ => 0)
  case atStart => exact ⟨0, off, cap, by omega, rfl, by omega, fun _ => rfl, hg, grownBy_refl _ _⟩
  case round =>
    obtain ⟨i, o, c, hi, rfl, hc, HO, hD, hgr⟩ := hrel
    clear hg
    have hni := absorbN_n d x i
    obtain ⟨D, hDD⟩ : ∃ D, Keep (D = absorbN d x i) := ⟨_, ⟨rfl⟩⟩
    rw [← hDD.out] at hD hni
    obtain ⟨s, r, n⟩ := D
    dsimp only at hD hni
    by_cases hlt : i < len
    · have c72 : wr.cell? ⟨g, 72, none⟩ = some (.int .i64 n) := by rw [hD.cell, digA_n]
      have hn0 : (n : Int) + (len - i : Nat) ≤ 1152921504606846976 := by omega
      clear hni
      obtain rfl := HO.out hlt
      obtain ⟨u, hu0⟩ : ∃ u, u = n % 64 := ⟨_, rfl⟩
      have hu : (n : Int) % 64 = (u : Int) := by omega
      have hu64 : u < 64 := by omega
      have hu64' : (u : Int) < 64 := by omega
      have HU : Keep (u = n % 64) := ⟨hu0⟩
      clear hu0
      have hsl := slice65 wr g u hu64
      obtain ⟨k, hk0⟩ : ∃ k, k = Nat.min (len - i) (64 - u) := ⟨_, rfl⟩
      have hk1 : k ≤ len - i := by rw [hk0]; exact Nat.min_le_left _ _
      have hk2' : k ≤ 64 - u := by rw [hk0]; exact Nat.min_le_right _ _
      have hk2 : u + k ≤ 64 := by omega
      clear hk2'
      have hk3 : 0 < k := by rw [hk0]; exact Nat.lt_min.2 ⟨by omega, by omega⟩
      have HK : Keep (k = Nat.min (len - i) (64 - u)) := ⟨hk0⟩
      clear hk0
      have HS : Keep (∀ j v, ((List.range k).map fun j => Value.int .u8 (x (i + j)))[j]? = some v → wr.cell? ((⟨h, off + i, none⟩ : Addr).add j) = some v) := by
        refine ⟨?_⟩
        intro j v hv
        have hj : j < k := by have := (List.getElem?_eq_some_iff.1 hv).1; simpa using this
        rw [List.getElem?_map, List.getElem?_range hj] at hv
        rw [Addr.add_mid, Nat.add_assoc]
        refine grownBy_cell hgr hgh ?_
        rw [HX.out _ (by omega)]
        simpa using hv
      have HL : Keep (((List.range k).map fun j => Value.int .u8 (x (i + j))).length = Nat.min (len - i) (64 - u)) := by
        refine ⟨?_⟩; rw [← HK.out]; simp
      have HF : Keep (8 + u + ((List.range k).map fun j => Value.int .u8 (x (i + j))).length ≤ (digA s r n).size) := by
        refine ⟨?_⟩; rw [digA_size]; simp; omega
      have H1 : Keep (∀ v ∈ ((List.range k).map fun j => Value.int .u8 (x (i + j))), v.oneCell' = true) := by
        refine ⟨?_⟩; intro v hv; simp at hv; obtain ⟨_, _, rfl⟩ := hv; rfl
      obtain ⟨w1, hw1⟩ : ∃ w1, Keep (w1 = wr.setRow g ((digA s r n).toList.take (8 + u) ++ (((List.range k).map fun j => Value.int .u8 (x (i + j))) ++ (digA s r n).toList.drop (8 + u + ((List.range k).map fun j => Value.int .u8 (x (i + j))).length))).toArray) := ⟨_, ⟨rfl⟩⟩
      have hD1 : Blk w1 g 141 (digA s (putN r u k (fun j => x (i + j))) n) := by
        have := hD.setRow (digA s (putN r u k (fun j => x (i + j))) n)
        rw [← digA_splice s r n u k (fun j => x (i + j)) hk2] at this ⊢
        rw [hw1.out, List.length_map, List.length_range]; exact this
      have hgr1 : w.grownBy w1 (some g) := by rw [hw1.out]; exact grownBy_trans hgr (grownBy_setRow _ _ _)
      have c72' : w1.cell? ⟨g, 72, none⟩ = some (.int .i64 n) := by rw [hD1.cell, digA_n]
      have f72' : w1.frozen? ⟨g, 72, none⟩ = false := hD1.frozen 72
      go_wp2_with (refine wpList_copy_own rfl (.tmp 18) (.tmp 19) 37 37 rfl 5 Tryd.underlying37 Tryd.size5 g (8 + u) (64 - u) (64 - u) ⟨h, off + i, none⟩ (len - i) c rfl rfl (digA s r n) 141 hD ((List.range k).map fun j => Value.int .u8 (x (i + j))) HL.out HS.out HF.out H1.out ?_; rw [← hw1.out, List.length_map, List.length_range]; refine Hid.out ?_)
      clear c72 hsl hD
      refine hid_in ?_
      have hch : Keep (absorbN d x (i + k) = ⟨if u + k = 64 then mixF s (putN r u k fun j => x (i + j)) else s, putN r u k fun j => x (i + j), n + k⟩) := by
        refine ⟨?_⟩
        rw [absorbN_add, ← hDD.out]
        have := absorb_chunk ⟨s, r, n⟩ (fun j => x (i + j)) k (by rw [← HU.out]; exact hk2)
        rw [← HU.out] at this
        exact this
      have hcc : Keep ((if c = k then some (⟨h, off + i, none⟩ : Addr) else some ⟨h, off + i + k, none⟩) = some ⟨h, if c = k then off + i else off + i + k, none⟩) := ⟨by split <;> rfl⟩
      have hoo : Keep (i + k < len → (if c = k then off + i else off + i + k) = off + (i + k)) := ⟨fun hl => by rw [if_neg (by omega)]; omega⟩
      clear HX HS HL HF H1 hw1 HO
      by_cases huk : u + k = 64
      · have hukb : ((u : Int) + (k : Int) == 64) = true := by simp; omega
        by_cases hck : c = k
        · have hck' := hck.symm
          subst hck'
          go_wp2
          have hD2 := hD1.set 72 (.int .i64 ((n : Int) + k))
          rw [digA_setn] at hD2
          have hgr2 := grownBy_trans hgr1 (grownBy_setCell w1 g 72 (.int .i64 ((n : Int) + k)))
          generalize w1.setCell ⟨g, 72, none⟩ (.int .i64 ((n : Int) + k)) = w2 at *
          clear hD1 hgr1 c72' f72' hgr
          refine wo_region _ g w2 s _ ((n : Int) + k) _ (by simp) rfl hD2 _ ?_
          intro wc hgr3 hD3
          rw [putsTo_wo]
          simp only [Act.put, List.setIfInBounds_toArray, List.set_cons_succ, List.set_cons_zero]
          go_wp2
          have hx3 : Blk wc g 141 (digA (absorbN d x (i + k)).s (absorbN d x (i + k)).r (absorbN d x (i + k)).n) := by
            rw [hch.out, if_pos huk]
            simpa using hD3
          refine ⟨⟨i + k, off + i, 0, by omega, by rw [show len - (i + k) = 0 by omega], by omega, fun hl => absurd hl (by omega), hx3, grownBy_trans hgr2 hgr3⟩, by dsimp only; omega⟩
        · go_wp2
          have hD2 := hD1.set 72 (.int .i64 ((n : Int) + k))
          rw [digA_setn] at hD2
          have hgr2 := grownBy_trans hgr1 (grownBy_setCell w1 g 72 (.int .i64 ((n : Int) + k)))
          generalize w1.setCell ⟨g, 72, none⟩ (.int .i64 ((n : Int) + k)) = w2 at *
          clear hD1 hgr1 c72' f72' hgr
          refine wo_region _ g w2 s _ ((n : Int) + k) _ (by simp) rfl hD2 _ ?_
          intro wc hgr3 hD3
          rw [putsTo_wo]
          simp only [Act.put, List.setIfInBounds_toArray, List.set_cons_succ, List.set_cons_zero]
          go_wp2
          have hx3 : Blk wc g 141 (digA (absorbN d x (i + k)).s (absorbN d x (i + k)).r (absorbN d x (i + k)).n) := by
            rw [hch.out, if_pos huk]
            simpa using hD3
          refine ⟨⟨i + k, off + i + k, c - k, by omega, by rw [Nat.sub_sub], by omega, fun _ => Nat.add_assoc _ _ _, hx3, grownBy_trans hgr2 hgr3⟩, by dsimp only; omega⟩
      · have hukb : ((u : Int) + (k : Int) == 64) = false := by simp; omega
        go_wp2
        refine ⟨⟨i + k, _, c - k, by omega, by rw [hcc.out, Nat.sub_sub], by omega, hoo.out, ?_, grownBy_trans hgr1 (grownBy_setCell _ _ _ _)⟩, by dsimp only; omega⟩
        have h2 := hD1.set 72 (.int .i64 ((n : Int) + k))
        rw [digA_setn] at h2
        rw [hch.out, if_neg huk]
        simpa using h2
    · obtain rfl : i = len := by omega
      rw [Nat.sub_self]
      have hfin : Blk wr g 141 (digA (absorbN d x i).s (absorbN d x i).r (absorbN d x i).n) := by rw [← hDD.out]; exact hD
      go_wp2
      go_end0
      exact ⟨rfl, hfin, hgr⟩
end Go.Proofs.YtennogmeeefopaaDoor
namespace Go.Proofs.YtennogmeeefopaaDoor
open Go.RowKit

/-- How many zeros stand behind the first byte of the end. -/
def zerosF (n : Nat) : Nat := (119 - n % 64) % 64
/-- What comes behind a row of n bytes. -/
def endL (n : Nat) (j : Nat) : List Value := (Value.int .u8 128 :: List.replicate (zerosF n) (.int .u8 0)) ++ (List.range j).map fun t => .int .u8 (8 * (n : Int) / 2 ^ (56 - 8 * t) % 256)

theorem run_make28 (l c : Nat) (hlc : l ≤ c) (hc : c ≤ 1000) (w : World) : (Instr.makeSlice 37 (.int .i64 (l : Int)) (.int .i64 (c : Int))).run Tryd.prog w = .ok (.slice (some ⟨w.heap.size, 0, none⟩) l c) (w.alloc (.cells (bytesA c fun _ => 0) 5)) := by
  obtain ⟨i, hi, hzz⟩ := Option.map_eq_some_iff.1 Tryd.info5
  simp only [Prod.mk.injEq] at hzz
  obtain ⟨hz, hs, hb⟩ := hzz
  have hr := run_make (P := Tryd.prog) w 37 5 i (.int .u8 0) Tryd.underlying37 hi hz .i64 .i64 (l : Int) (c : Int) (by omega) (by omega) (by rw [hb]; omega) (by omega)
  simp only [Int.toNat_natCast, hs, Nat.mul_one, Value.cells] at hr
  rw [made_bytes] at hr
  exact hr

set_option maxRecDepth 8000 in
set_option maxHeartbeats 1000000 in
theorem end_any (n : Nat) (w : World) (hn : (n : Int) ≤ 1152921504606846976) :
    Calls Tryd.prog 73 #[.int .i64 (n : Int)] w fun e w' => ∃ g, e = .returned (.slice (some ⟨g, 0, none⟩) (zerosF n + 9) (zerosF n + 9)) ∧ w.heap.size ≤ g ∧
      (∀ i v, (endL n 8)[i]? = some v → w'.cell? ⟨g, i, none⟩ = some v) ∧ Below w.heap.size w w' := by
  have hz : (119 - (n : Int) % 64) % 64 = (zerosF n : Int) := by unfold zerosF; omega
  have hzl : zerosF n < 64 := by unfold zerosF; omega
  obtain ⟨z, hzz⟩ : ∃ z, Keep (z = zerosF n) := ⟨_, ⟨rfl⟩⟩
  rw [← hzz.out] at hz hzl ⊢
  have hmk : ∀ w : World, (Instr.makeSlice 37 (.int .i64 (1 + (z : Int))) (.int .i64 (1 + (z : Int) + 8))).run Tryd.prog w = .ok (.slice (some ⟨w.heap.size, 0, none⟩) (z + 1) (z + 9)) (w.alloc (.cells (bytesA (z + 9) fun _ => 0) 5)) := by
    intro w
    have := run_make28 (z + 1) (z + 9) (by omega) (by omega) w
    rwa [show ((z + 1 : Nat) : Int) = 1 + (z : Int) by omega, show ((z + 9 : Nat) : Int) = 1 + (z : Int) + 8 by omega] at this
  have w1 : IntKind.u64.wrap (n : Int) = n := by rw [IntKind.wrap_u64]; omega
  have w2 : IntKind.u64.wrap (8 * (n : Int)) = 8 * n := by rw [IntKind.wrap_u64]; omega
  have hK := Blk.new w 5 (bytesA (z + 9) fun _ => 0)
  have c0 : (w.alloc (.cells (bytesA (z + 9) fun _ => 0) 5)).cell? ⟨w.heap.size, 0, none⟩ = some (.int .u8 0) := by rw [hK.cell, bytesA_get _ _ _ (by omega)]
  have f0 : (w.alloc (.cells (bytesA (z + 9) fun _ => 0) 5)).frozen? ⟨w.heap.size, 0, none⟩ = false := hK.frozen 0
  go_enter Tryd.func73, Tryd.ntmps73
  go_wp2
  have hown : (w.alloc (.cells ((bytesA (z + 9) fun _ => 0).setIfInBounds 0 (.int .u8 128)) 5)).ownsRow w.heap.size 5 1 (.slice (some ⟨w.heap.size, 0, none⟩) (z + 1) (z + 9)) (z + 1) (endL n 0) := by
    have hl : (endL n 0).length = z + 1 := by simp [endL, ← hzz.out]
    refine ⟨by rw [hl]; omega, .inr ⟨w.heap.size, z + 9, _, rfl, Nat.le_refl _, heap_alloc_new _ _, by omega, by unfold maxLen; omega, by simp [bytesA_size], ?_⟩⟩
    rw [bytesA_set]
    apply List.ext_getElem?
    intro i
    rw [List.getElem?_take, Array.getElem?_toList]
    by_cases h : i < (z + 1) * 1
    · rw [if_pos h, bytesA_get _ _ _ (by omega)]
      simp only [endL, List.range_zero, List.map_nil, List.append_nil, ← hzz.out, upd]
      cases i with
      | zero => rfl
      | succ i => rw [if_neg (by omega), List.getElem?_cons_succ, List.getElem?_replicate, if_pos (by omega)]
    · rw [if_neg h, List.getElem?_eq_none (by rw [hl]; omega)]
  have hB : Below w.heap.size w (w.alloc (.cells ((bytesA (z + 9) fun _ => 0).setIfInBounds 0 (.int .u8 128)) 5)) := below_new _ _
  clear c0 f0 hK
  generalize w.alloc (.cells ((bytesA (z + 9) fun _ => 0).setIfInBounds 0 (.int .u8 128)) 5) = w0 at *
  simp only [hz]
  go_loopw [4, 6] (fun b sh wr => ∃ j : Nat, j ≤ 8 ∧ sh = .int .i64 (56 - 8 * (j : Int)) ∧ b = .slice (some ⟨w.heap.size, 0, none⟩) (z + 1 + j) (z + 9) ∧ wr.ownsRow w.heap.size 5 1 (.slice (some ⟨w.heap.size, 0, none⟩) (z + 1 + j) (z + 9)) (z + 1 + j) (endL n j) ∧ Below w.heap.size w wr) (fun _ sh _ => (intOf sh + 8).toNat)
  case atStart => exact ⟨0, by omega, by simp, rfl, hown, hB⟩
  case round =>
    clear hown hB
    obtain ⟨j, hj, rfl, rfl, hown, hB⟩ := hrel
    by_cases hlt : j < 8
    · have hs0 : 0 ≤ 56 - 8 * (j : Int) := by omega
      have hs1 : 56 - 8 * (j : Int) ≤ 64 := by omega
      obtain ⟨i5, hi5, hzz5⟩ := Option.map_eq_some_iff.1 Tryd.info5
      simp only [Prod.mk.injEq] at hzz5
      have hone : Keep (∀ u ∈ [Value.int .u8 (8 * (n : Int) / 2 ^ (56 - 8 * j) % 256)], u.oneCell' = true) := ⟨by intro u hu; simp at hu; subst hu; rfl⟩
      have hownA : Keep ((wr.alloc (.cells #[Value.int .u8 (8 * (n : Int) / 2 ^ (56 - 8 * j) % 256)] 5)).ownsRow w.heap.size 5 1 (.slice (some ⟨w.heap.size, 0, none⟩) (z + 1 + j) (z + 9)) (z + 1 + j) (endL n j)) := ⟨by
        obtain ⟨h1, h2⟩ := hown
        refine ⟨h1, ?_⟩
        rcases h2 with h2 | ⟨g, cap, cur, e, hg, hh, r⟩
        · exact .inl h2
        · exact .inr ⟨g, cap, cur, e, hg, by rw [Below.heap_alloc _ _ _ (Array.getElem?_eq_some_iff.1 hh).1]; exact hh, r⟩⟩
      have hKi : Keep (Tryd.prog.info? 5 = some i5) := ⟨hi5⟩
      have hKs : Keep (i5.size = 1) := ⟨hzz5.2.1⟩
      clear hi5 hzz5
      go_wp2_with (at_builtin; refine wpList_append_fits _ rfl (.tmp 26) (.tmp 31) 37 rfl w.heap.size 5 i5 1 Tryd.underlying37 hKi.out hKs.out w.heap.size (z + 1 + j) (z + 9) (endL n j) rfl hownA.out ⟨wr.heap.size, 0, none⟩ 1 1 [Value.int .u8 (8 * (n : Int) / 2 ^ (56 - 8 * j) % 256)] rfl rfl (cell_one_new _ _ _) hone.out (by omega) ?_; intro w' hown' hgr')
      have hlz : w.heap.size ≤ wr.heap.size := hB.size
      have hB' : Below w.heap.size w w' := (hB.alloc hlz (.cells #[Value.int .u8 (8 * (n : Int) / 2 ^ (56 - 8 * j) % 256)] 5)).grown hgr' (by simp; omega) (fun k e => by injection e with e; omega)
      have hL : endL n j ++ [Value.int .u8 (8 * (n : Int) / 2 ^ (56 - 8 * j) % 256)] = endL n (j + 1) := by simp only [endL, List.range_succ, List.map_append, List.map_cons, List.map_nil, List.append_assoc]
      rw [hL] at hown'
      go_roundw
      case rel =>
        exact ⟨j + 1, by omega, by congr 1; omega, rfl, hown', hB'⟩
      case measure => simp [intOf]; omega
    · obtain rfl : j = 8 := by omega
      go_wp2
      go_ret
      refine ⟨w.heap.size, rfl, Nat.le_refl _, fun i v hv => ?_, hB⟩
      have hi : i < (endL n 8).length := (List.getElem?_eq_some_iff.1 hv).1
      rw [hown.cellAt i (by rw [← hown.1]; exact hi)]
      exact hv
end Go.Proofs.YtennogmeeefopaaDoor
namespace Go.Proofs.YtennogmeeefopaaDoor
open Go.RowKit

/-- The words as bytes, the highest byte of each first: the first t words laid. -/
def layUp (s : Nat → Int) : Nat → (Nat → Int)
  | 0 => fun _ => 0
  | t + 1 => upd (upd (upd (upd (layUp s t) (4 * t) (s t / 16777216 % 256)) (4 * t + 1) (s t / 65536 % 256)) (4 * t + 2) (s t / 256 % 256)) (4 * t + 3) (s t % 256)

theorem index60_0 (s : Nat → Int) (w : World) : (Instr.index 137 (.agg (wordsA 8 s)) (.int .i64 0)).run Tryd.prog w = .ok (.int .u32 (s 0)) w := by kernel_rfl
theorem index60_1 (s : Nat → Int) (w : World) : (Instr.index 137 (.agg (wordsA 8 s)) (.int .i64 1)).run Tryd.prog w = .ok (.int .u32 (s 1)) w := by kernel_rfl
theorem index60_2 (s : Nat → Int) (w : World) : (Instr.index 137 (.agg (wordsA 8 s)) (.int .i64 2)).run Tryd.prog w = .ok (.int .u32 (s 2)) w := by kernel_rfl
theorem index60_3 (s : Nat → Int) (w : World) : (Instr.index 137 (.agg (wordsA 8 s)) (.int .i64 3)).run Tryd.prog w = .ok (.int .u32 (s 3)) w := by kernel_rfl
theorem index60_4 (s : Nat → Int) (w : World) : (Instr.index 137 (.agg (wordsA 8 s)) (.int .i64 4)).run Tryd.prog w = .ok (.int .u32 (s 4)) w := by kernel_rfl
theorem index60_5 (s : Nat → Int) (w : World) : (Instr.index 137 (.agg (wordsA 8 s)) (.int .i64 5)).run Tryd.prog w = .ok (.int .u32 (s 5)) w := by kernel_rfl
theorem index60_6 (s : Nat → Int) (w : World) : (Instr.index 137 (.agg (wordsA 8 s)) (.int .i64 6)).run Tryd.prog w = .ok (.int .u32 (s 6)) w := by kernel_rfl
theorem index60_7 (s : Nat → Int) (w : World) : (Instr.index 137 (.agg (wordsA 8 s)) (.int .i64 7)).run Tryd.prog w = .ok (.int .u32 (s 7)) w := by kernel_rfl
theorem index60 (s : Nat → Int) (t : Nat) (ht : t < 8) (w : World) : (Instr.index 137 (.agg (wordsA 8 s)) (.int .i64 (t : Int))).run Tryd.prog w = .ok (.int .u32 (s t)) w := by
  match t, ht with
  | 0, _ => exact index60_0 s w
  | 1, _ => exact index60_1 s w
  | 2, _ => exact index60_2 s w
  | 3, _ => exact index60_3 s w
  | 4, _ => exact index60_4 s w
  | 5, _ => exact index60_5 s w
  | 6, _ => exact index60_6 s w
  | 7, _ => exact index60_7 s w
  | n + 8, h => omega

set_option maxRecDepth 8000 in
set_option maxHeartbeats 1000000 in
theorem lay_any (s : Nat → Int) (w : World) :
    Calls Tryd.prog 74 #[.agg (wordsA 8 s)] w fun e w' => e = .returned (.agg (bytesA 32 (layUp s 8))) ∧ Below w.heap.size w w' := by
  go_enter Tryd.func74, Tryd.ntmps74
  go_wp2_with (first | (refine wpList_boxA rfl 137 (.tmp 0) rfl (wordsA 8 s) rfl ?_; refine wpList_new rfl 93 rfl _ Tryd.new93 ?_) | (refine wpList_new rfl 93 rfl _ Tryd.new93 ?_) | (refine wpList_load_row rfl 137 (.tmp 1) rfl w.heap.size rfl 137 (wordsA 8 s) (0, 0) (.array 8 111) (((Blk.new w 137 (wordsA 8 s)).alloc _).alloc _) Tryd.underlying137 rfl (Tryd.size137W _) ?_))
  have hR := (Blk.new (w.alloc (.cells (wordsA 8 s) 137)) 93 (bytesA 32 fun _ => 0)).alloc (.cells (bytesA 32 fun _ => 0) 93)
  have hH := Blk.new ((w.alloc (.cells (wordsA 8 s) 137)).alloc (.cells (bytesA 32 fun _ => 0) 93)) 93 (bytesA 32 fun _ => 0)
  have hB : Below w.heap.size w (((w.alloc (.cells (wordsA 8 s) 137)).alloc (.cells (bytesA 32 fun _ => 0) 93)).alloc (.cells (bytesA 32 fun _ => 0) 93)) :=
    (((Below.refl _ _).alloc (Nat.le_refl _) _).alloc (by simp) _).alloc (by simp; omega) _
  simp only [World.size_alloc] at hR hH
  generalize (((w.alloc (.cells (wordsA 8 s) 137)).alloc (.cells (bytesA 32 fun _ => 0) 93)).alloc (.cells (bytesA 32 fun _ => 0) 93)) = w0 at *
  go_loopw [7] (fun i wr => ∃ t : Nat, t ≤ 8 ∧ i = .int .i64 t ∧ Blk wr (w.heap.size + 1) 93 (bytesA 32 fun _ => 0) ∧ Blk wr (w.heap.size + 1 + 1) 93 (bytesA 32 (layUp s t)) ∧ Below w.heap.size w wr) (fun i _ => 8 - (intOf i).toNat)
  case atStart => exact ⟨0, by omega, rfl, hR, hH, hB⟩
  case round =>
    clear hR hH hB
    obtain ⟨t, ht, rfl, hR, hH, hB⟩ := hrel
    by_cases hlt : t < 8
    · have hix := index60 s t hlt
      have hlt' : (t : Int) < 8 := by omega
      have c0 : wr.cell? ⟨w.heap.size + 1 + 1, 4 * t, none⟩ = some (.int .u8 (layUp s t (4 * t))) := by rw [hH.cell, bytesA_get _ _ _ (by omega)]
      have f0 : wr.frozen? ⟨w.heap.size + 1 + 1, 4 * t, none⟩ = false := hH.frozen _
      have c1 : wr.cell? ⟨w.heap.size + 1 + 1, 4 * t + 1, none⟩ = some (.int .u8 (layUp s t (4 * t + 1))) := by rw [hH.cell, bytesA_get _ _ _ (by omega)]
      have f1 : wr.frozen? ⟨w.heap.size + 1 + 1, 4 * t + 1, none⟩ = false := hH.frozen _
      have c2 : wr.cell? ⟨w.heap.size + 1 + 1, 4 * t + 2, none⟩ = some (.int .u8 (layUp s t (4 * t + 2))) := by rw [hH.cell, bytesA_get _ _ _ (by omega)]
      have f2 : wr.frozen? ⟨w.heap.size + 1 + 1, 4 * t + 2, none⟩ = false := hH.frozen _
      have c3 : wr.cell? ⟨w.heap.size + 1 + 1, 4 * t + 3, none⟩ = some (.int .u8 (layUp s t (4 * t + 3))) := by rw [hH.cell, bytesA_get _ _ _ (by omega)]
      have f3 : wr.frozen? ⟨w.heap.size + 1 + 1, 4 * t + 3, none⟩ = false := hH.frozen _
      go_wp2
      go_roundw
      case rel =>
        have ne : w.heap.size + 1 ≠ w.heap.size + 1 + 1 := by omega
        have le : w.heap.size ≤ w.heap.size + 1 + 1 := by omega
        have h := (((hH.set (4 * t) (.int .u8 (s t / 16777216 % 256))).set (4 * t + 1) (.int .u8 (s t / 65536 % 256))).set (4 * t + 2) (.int .u8 (s t / 256 % 256))).set (4 * t + 3) (.int .u8 (s t % 256))
        rw [bytesA_set, bytesA_set, bytesA_set, bytesA_set] at h
        exact ⟨t + 1, by omega, by go_num, (((hR.set_ne ne _).set_ne ne _).set_ne ne _).set_ne ne _, h, (((hB.setCell le _).setCell le _).setCell le _).setCell le _⟩
      case measure => simp [intOf]; omega
    · obtain rfl : t = 8 := by omega
      clear hlt ht
      obtain ⟨c, hc⟩ : ∃ c, Keep (c = layUp s 8) := ⟨_, ⟨rfl⟩⟩
      rw [← hc.out] at hH
      go_wp2_with (refine wpList_load_row rfl 93 (.tmp 3) rfl (w.heap.size + 1 + 1) rfl 93 (bytesA 32 c) (0, 0) (.array 32 5) hH Tryd.underlying93 rfl (Tryd.size93B _) ?_; refine wpList_store_row rfl 93 (.tmp 2) (.tmp 38) rfl (w.heap.size + 1) (bytesA 32 c) rfl rfl 93 (bytesA 32 fun _ => 0) hR (Tryd.size93B _) (bytesA_sizes _ _ _) (bytesA_one _ _) ?_)
      exact bodyPost_ret (v := .agg (bytesA 32 c)) (results_cell_row Tryd.results74 _ _ (w.heap.size + 1) 93 _ (0, 0) _ rfl (hR.setRow _) Tryd.underlying93 rfl (Tryd.size93B _)) rfl ⟨by rw [hc.out], below_setRow hB (by omega) _⟩
end Go.Proofs.YtennogmeeefopaaDoor
namespace Go.Proofs.YtennogmeeefopaaDoor
open Go.RowKit

/-- The bytes behind a row of n bytes. -/
def endX (n i : Nat) : Int := if i = 0 then 128 else if i ≤ zerosF n then 0 else 8 * (n : Int) / 2 ^ (56 - 8 * (i - zerosF n - 1)) % 256
theorem endL_get (n i : Nat) (h : i < zerosF n + 9) : (endL n 8)[i]? = some (.int .u8 (endX n i)) := by
  unfold endL endX
  rw [List.getElem?_append, List.length_cons, List.length_replicate]
  by_cases h1 : i < zerosF n + 1
  · rw [if_pos h1]
    cases i with
    | zero => rfl
    | succ i => rw [List.getElem?_cons_succ, List.getElem?_replicate, if_pos (by omega), if_neg (by omega), if_pos (by omega)]
  · rw [if_neg h1, if_neg (by omega), if_neg (by omega), List.getElem?_map, List.getElem?_range (by omega)]
    simp only [Option.map_some]
    rw [show i - (zerosF n + 1) = i - zerosF n - 1 by omega]

/-- A Digest that is begun. -/
def dg0 : Dg := ⟨beginF, fun _ => 0, 0⟩
/-- What Sum tells. -/
def sumF (d : Dg) : Nat → Int := layUp (absorbN d (endX d.n) (zerosF d.n + 9)).s 8

theorem Tryd.new141 (w : World) : (Instr.alloc 141 true (.tuple #[])).run Tryd.prog w = .ok (.pointer (some ⟨w.heap.size, 0, none⟩)) (w.alloc (.cells (digA (fun _ => 0) (fun _ => 0) 0) 141)) := by kernel_rfl
theorem digA_sizes (s r s' r' : Nat → Int) (n n' : Int) : (digA s r n).size = (digA s' r' n').size := by rw [digA_size, digA_size]

set_option maxRecDepth 8000 in
set_option maxHeartbeats 1000000 in
theorem sum_any (g : Nat) (d : Dg) (w : World) (hg : Blk w g 141 (digA d.s d.r d.n)) (hn : (d.n : Int) ≤ 576460752303423488) :
    Calls Tryd.prog 64 #[ptr g] w fun e w' => e = .returned (.agg (bytesA 32 (sumF d))) ∧ Below w.heap.size w w' := by
  have hlt := hg.lt
  obtain ⟨s, r, n⟩ := d
  dsimp only at hg hn
  have hg1 := (hg.alloc (.cells (bytesA 32 fun _ => 0) 93))
  have hc1 := Blk.new (w.alloc (.cells (bytesA 32 fun _ => 0) 93)) 141 (digA (fun _ => 0) (fun _ => 0) 0)
  have HG : Keep (Blk (w.alloc (.cells (bytesA 32 fun _ => 0) 93)) g 141 (digA s r n)) := ⟨hg1⟩
  have HC : Keep (Blk ((w.alloc (.cells (bytesA 32 fun _ => 0) 93)).alloc (.cells (digA (fun _ => 0) (fun _ => 0) 0) 141)) (w.heap.size + 1) 141 (digA (fun _ => 0) (fun _ => 0) 0)) := ⟨by simpa using hc1⟩
  have hg2 := (hg1.alloc (.cells (digA (fun _ => 0) (fun _ => 0) 0) 141)).setRow_ne (b' := w.heap.size + 1) (by omega) (digA s r n)
  have hc2 := HC.out.setRow (digA s r n)
  have hr2 := ((Blk.new w 93 (bytesA 32 fun _ => 0)).alloc (.cells (digA (fun _ => 0) (fun _ => 0) 0) 141)).setRow_ne (b' := w.heap.size + 1) (by omega) (digA s r n)
  have hB2 : Below w.heap.size w (((w.alloc (.cells (bytesA 32 fun _ => 0) 93)).alloc (.cells (digA (fun _ => 0) (fun _ => 0) 0) 141)).setRow (w.heap.size + 1) (digA s r n)) :=
    below_setRow (((Below.refl _ _).alloc (Nat.le_refl _) _).alloc (by simp) _) (by omega) _
  clear hg hg1 hc1
  obtain ⟨w2, hw2⟩ : ∃ w2, Keep (w2 = ((w.alloc (.cells (bytesA 32 fun _ => 0) 93)).alloc (.cells (digA (fun _ => 0) (fun _ => 0) 0) 141)).setRow (w.heap.size + 1) (digA s r n)) := ⟨_, ⟨rfl⟩⟩
  rw [← hw2.out] at hg2 hc2 hr2 hB2
  have c72 : w2.cell? ⟨g, 72, none⟩ = some (.int .i64 n) := by rw [hg2.cell, digA_n]
  go_enter Tryd.func64, Tryd.ntmps64
  go_wp2_with (first | (refine wpList_new rfl 93 rfl _ Tryd.new93 ?_) | (refine wpList_load_row rfl 141 (.tmp 5) rfl g rfl 141 (digA s r n) (0, 0) _ HG.out Tryd.underlying141 rfl (Tryd.size141D _ _ _) ?_; refine wpList_new rfl 141 rfl _ Tryd.new141 ?_; refine wpList_store_row rfl 141 (.tmp 3) (.tmp 6) rfl (w.heap.size + 1) (digA s r n) (by simp [Act.put, Act.eval]) rfl 141 (digA (fun _ => 0) (fun _ => 0) 0) HC.out (Tryd.size141D _ _ _) (digA_sizes _ _ _ _ _ _) (digA_one _ _ _) ?_; rw [← hw2.out]))
  refine (end_any n _ (by omega)).mono ?_
  rintro e w3 ⟨h, rfl, hle, hcells, hB3⟩
  have hsz2 := hB2.size
  have hc3 := hc2.below hB3 hc2.lt
  have hr3 := hr2.below hB3 hr2.lt
  have hltc := hc2.lt
  have hz9 : zerosF n + 9 ≤ 72 := by unfold zerosF; omega
  have HX : Keep (∀ i, i < zerosF n + 9 → w3.cell? ⟨h, 0 + i, none⟩ = some (.int .u8 (endX n i))) := ⟨fun i hi => by rw [Nat.zero_add]; exact hcells i _ (endL_get n i hi)⟩
  clear hcells c72
  have HB3 : Keep (Below w.heap.size w w3) := ⟨hB2.trans (hB3.mono hsz2)⟩
  go_wp2_with fail
  refine (write_any (w.heap.size + 1) ⟨s, r, n⟩ (endX n) (zerosF n + 9) (zerosF n + 9) h 0 w3 hc3 (by omega) HX.out (by dsimp only; omega) (Nat.le_refl _)).mono ?_
  rintro e w4 ⟨rfl, hc4, hgr4⟩
  have hr4 : Blk w4 w.heap.size 93 (bytesA 32 fun _ => 0) := by
    unfold Blk; rw [hgr4.block _ hr3.lt (by simp)]; exact hr3
  have hB4 : Below w.heap.size w w4 := HB3.out.grown hgr4 (by have := HB3.out.size; omega) (fun k e => by injection e with e; omega)
  obtain ⟨D, hD⟩ : ∃ D, Keep (D = absorbN ⟨s, r, n⟩ (endX n) (zerosF n + 9)) := ⟨_, ⟨rfl⟩⟩
  rw [← hD.out] at hc4
  obtain ⟨s', r', n'⟩ := D
  dsimp only at hc4
  have hrng := dig_range0 hc4
  go_wp2_with (refine wpList_load_mid rfl 137 (.tmp 13) rfl (w.heap.size + 1) 0 rfl (wordsA 8 s').toList (.array 8 111) hrng Tryd.underlying137 rfl (by rw [Array.length_toList]; exact Tryd.size137W s') ?_; rw [Array.toArray_toList])
  refine (lay_any s' _).mono ?_
  rintro e w5 ⟨rfl, hB5⟩
  have hr5 := hr4.below hB5 hr4.lt
  have hB5' := hB4.trans (hB5.mono hB4.size)
  obtain ⟨c, hc⟩ : ∃ c, Keep (c = layUp s' 8) := ⟨_, ⟨rfl⟩⟩
  rw [← hc.out]
  go_wp2_with (refine wpList_store_row rfl 93 (.tmp 2) (.tmp 15) rfl w.heap.size (bytesA 32 c) rfl rfl 93 (bytesA 32 fun _ => 0) hr5 (Tryd.size93B _) (bytesA_sizes _ _ _) (bytesA_one _ _) ?_)
  exact bodyPost_ret (v := .agg (bytesA 32 c)) (results_cell_row Tryd.results64 _ _ w.heap.size 93 _ (0, 0) _ rfl (hr5.setRow _) Tryd.underlying93 rfl (Tryd.size93B _)) rfl ⟨by rw [hc.out]; unfold sumF; rw [← hD.out], below_setRow hB5' (Nat.le_refl _) _⟩
end Go.Proofs.YtennogmeeefopaaDoor
namespace Go.Proofs.YtennogmeeefopaaDoor
open Go.RowKit

def absorbL (d : Dg) (l : List Int) : Dg := l.foldl absorb d
theorem absorbL_append (d : Dg) (l m : List Int) : absorbL d (l ++ m) = absorbL (absorbL d l) m := by simp [absorbL]
theorem absorbN_L (d : Dg) (l : List Int) (k : Nat) (hk : k ≤ l.length) : absorbN d (fun i => l.getD i 0) k = absorbL d (l.take k) := by
  induction k with
  | zero => rfl
  | succ k ih =>
    rw [List.take_succ_eq_append_getElem (by omega), absorbL_append, ← ih (by omega)]
    simp [absorbN, absorbL, List.getD, show k < l.length by omega]
theorem absorbN_all (d : Dg) (l : List Int) : absorbN d (fun i => l.getD i 0) l.length = absorbL d l := by
  rw [absorbN_L d l l.length (Nat.le_refl _), List.take_length]
theorem absorbL_n (d : Dg) (l : List Int) : (absorbL d l).n = d.n + l.length := by rw [← absorbN_all, absorbN_n]

set_option maxRecDepth 8000 in
set_option maxHeartbeats 400000 in
theorem write_none (g : Nat) (a : Option Addr) (c : Nat) (w : World) :
    Calls Tryd.prog 63 #[ptr g, .slice a 0 c] w fun e w' => e = .returned (.tuple #[]) ∧ w' = w := by
  go_enter Tryd.func63, Tryd.ntmps63
  go_wp2
  refine wp_loop_rounds 1 ?_; rw [rounds_succ]
  go_wp2
  go_end0
  exact ⟨rfl, rfl⟩

/-- A row into a Digest that was made since w0. -/
theorem write_row (g : Nat) (d : Dg) (v : Value) (l : List Int) (w0 w : World) (hb : Below w0.heap.size w0 w) (hg0 : w0.heap.size ≤ g) (hrow : RowAt w0 v l) (hg : Blk w g 141 (digA d.s d.r d.n))
    (hlen : (d.n : Int) + l.length ≤ 1152921504606846976) :
    Calls Tryd.prog 63 #[ptr g, v] w fun e w' => e = .returned (.tuple #[]) ∧ Blk w' g 141 (digA (absorbL d l).s (absorbL d l).r (absorbL d l).n) ∧ Below w0.heap.size w0 w' := by
  rcases hrow with ⟨rfl, rfl⟩ | ⟨a, c, rfl, rfl⟩ | ⟨h, off, cap, rfl, hcap, hx⟩
  · refine (write_none g none 0 w).mono ?_
    rintro e w' ⟨rfl, rfl⟩
    exact ⟨rfl, hg, hb⟩
  · refine (write_none g (some a) c w).mono ?_
    rintro e w' ⟨rfl, rfl⟩
    exact ⟨rfl, hg, hb⟩
  · by_cases h0 : l.length = 0
    · obtain rfl := List.eq_nil_of_length_eq_zero h0
      refine (write_none g (some ⟨h, off, none⟩) cap w).mono ?_
      rintro e w' ⟨rfl, rfl⟩
      exact ⟨rfl, hg, hb⟩
    · have hlt := cell_lt (hx 0 (by omega))
      refine (write_any g d (fun i => l.getD i 0) l.length cap h off w hg (by omega) (fun i hi => by rw [hb.cell (p := ⟨h, off + i, none⟩) hlt]; exact hx i hi) hlen hcap).mono ?_
      rintro e w' ⟨rfl, h1, h2⟩
      rw [absorbN_all] at h1
      exact ⟨rfl, h1, hb.grown h2 (by have := hb.size; omega) (fun k e => by injection e with e; omega)⟩

/-- The SHA-256 of bytes, as the program makes it. -/
def shaP (l : List Int) : Nat → Int := sumF (absorbL dg0 l)

def concat (rows : Nat → List Int) : Nat → List Int
  | 0 => []
  | i + 1 => concat rows i ++ rows i

theorem concat_le (rows : Nat → List Int) (i m : Nat) (hi : i ≤ m) : (concat rows i).length ≤ (concat rows m).length := by
  obtain ⟨k, rfl⟩ : ∃ k, m = i + k := ⟨m - i, by omega⟩
  clear hi
  induction k with
  | zero => exact Nat.le_refl _
  | succ k ih => rw [← Nat.add_assoc]; simp only [concat, List.length_append]; exact Nat.le_trans ih (Nat.le_add_right _ _)

set_option maxRecDepth 8000 in
set_option maxHeartbeats 1000000 in
theorem ofAll_any (q o m cap : Nat) (V : Nat → Value) (rows : Nat → List Int) (w : World) (hV : ∀ i, i < m → w.cell? ⟨q, o + i, none⟩ = some (V i)) (hrow : ∀ i, i < m → RowAt w (V i) (rows i))
    (hm : (m : Int) ≤ 9223372036854775807) (hlen : ((concat rows m).length : Int) ≤ 576460752303423488) :
    Calls Tryd.prog 50 #[.slice (some ⟨q, o, none⟩) m cap] w fun e w' => e = .returned (.agg (bytesA 32 (shaP (concat rows m)))) ∧ Below w.heap.size w w' := by
  have hbA := below_new w (.cells (bytesA 32 fun _ => 0) 93)
  have HV : Keep (∀ i, i < m → (w.alloc (.cells (bytesA 32 fun _ => 0) 93)).cell? ⟨q, o + i, none⟩ = some (V i)) := ⟨fun i hi => by rw [hbA.cell (p := ⟨q, o + i, none⟩) (cell_lt (hV i hi))]; exact hV i hi⟩
  have HR : Keep (∀ i, i < m → RowAt (w.alloc (.cells (bytesA 32 fun _ => 0) 93)) (V i) (rows i)) := ⟨fun i hi => (hrow i hi).below hbA⟩
  clear hV hrow
  go_enter Tryd.func50, Tryd.ntmps50
  go_wp2_with (first | (refine wpList_new rfl 93 rfl _ Tryd.new93 ?_))
  refine (new_any _).mono ?_
  rintro e w1 ⟨rfl, rfl⟩
  simp only [World.size_alloc]
  go_wp2_with fail
  have hG := Blk.new ((w.alloc (.cells (bytesA 32 fun _ => 0) 93)).alloc (.cells (wordsA 8 beginF) 137)) 141 (digA beginF (fun _ => 0) 0)
  have hR := Blk.new w 93 (bytesA 32 fun _ => 0)
  have hsA : (w.alloc (.cells (bytesA 32 fun _ => 0) 93)).heap.size = w.heap.size + 1 := by simp
  have hB : Below (w.heap.size + 1) (w.alloc (.cells (bytesA 32 fun _ => 0) 93)) (((w.alloc (.cells (bytesA 32 fun _ => 0) 93)).alloc (.cells (wordsA 8 beginF) 137)).alloc (.cells (digA beginF (fun _ => 0) 0) 141)) :=
    ((Below.refl _ _).alloc (by simp) _).alloc (by simp) _
  simp only [World.size_alloc] at hG
  generalize (((w.alloc (.cells (bytesA 32 fun _ => 0) 93)).alloc (.cells (wordsA 8 beginF) 137)).alloc (.cells (digA beginF (fun _ => 0) 0) 141)) = w0 at *
  generalize w.alloc (.cells (bytesA 32 fun _ => 0) 93) = wA at *
  have HL : Keep (∀ i, i ≤ m → (concat rows i).length ≤ (concat rows m).length) := ⟨fun i hi => concat_le rows i m hi⟩
  have HA : Keep (wA.heap.size = w.heap.size + 1) := ⟨hsA⟩
  clear hsA
  go_loopw [9] (fun i wr => ∃ t : Nat, t ≤ m ∧ i = .int .i64 t ∧ Blk wr (w.heap.size + 1 + 1) 141 (digA (absorbL dg0 (concat rows t)).s (absorbL dg0 (concat rows t)).r (absorbL dg0 (concat rows t)).n) ∧ Below (w.heap.size + 1) wA wr) (fun i _ => m - (intOf i).toNat)
  case atStart => exact ⟨0, by omega, rfl, hG, hB⟩
  case round =>
    clear hG hB
    obtain ⟨t, ht, rfl, hGr, hBr⟩ := hrel
    by_cases hlt : t < m
    · have hlt' : (t : Int) < (m : Int) := by omega
      have hcell := HV.out t hlt
      have hc : wr.cell? ⟨q, o + t, none⟩ = some (V t) := by rw [hBr.cell (p := ⟨q, o + t, none⟩) (by rw [← HA.out]; exact cell_lt hcell)]; exact hcell
      clear hcell
      have hLt := HL.out (t + 1) hlt
      simp only [concat, List.length_append] at hLt
      have HRow : Keep (RowAt wA (V t) (rows t)) := ⟨HR.out t hlt⟩
      go_wp2_with fail
      refine (write_row (w.heap.size + 1 + 1) (absorbL dg0 (concat rows t)) (V t) (rows t) wA wr (by rw [HA.out]; exact hBr) (by rw [HA.out]; omega) HRow.out hGr (by rw [absorbL_n]; show ((0 + (concat rows t).length : Nat) : Int) + _ ≤ _; omega)).mono ?_
      rintro e w' ⟨rfl, hG', hB'⟩
      rw [HA.out] at hB'
      rw [← absorbL_append] at hG'
      go_wp2
      go_roundw
      case rel => exact ⟨t + 1, by omega, by go_num, hG', hB'⟩
      case measure => simp [intOf]; omega
    · obtain rfl : t = m := by omega
      go_wp2_with fail
      refine (sum_any (w.heap.size + 1 + 1) (absorbL dg0 (concat rows t)) wr hGr (by rw [absorbL_n]; show ((0 + (concat rows t).length : Nat) : Int) ≤ _; omega)).mono ?_
      rintro e w5 ⟨rfl, hB5⟩
      have hr5 : Blk w5 w.heap.size 93 (bytesA 32 fun _ => 0) := (hR.below hBr (by omega)).below hB5 (by have := hGr.lt; omega)
      have hB5' : Below w.heap.size w w5 := hbA.trans ((hBr.mono (by omega)).trans (hB5.mono (by have := hGr.lt; omega)))
      obtain ⟨c, hc⟩ : ∃ c, Keep (c = sumF (absorbL dg0 (concat rows t))) := ⟨_, ⟨rfl⟩⟩
      rw [← hc.out]
      go_wp2_with (refine wpList_store_row rfl 93 (.tmp 2) (.tmp 18) rfl w.heap.size (bytesA 32 c) rfl rfl 93 (bytesA 32 fun _ => 0) hr5 (Tryd.size93B _) (bytesA_sizes _ _ _) (bytesA_one _ _) ?_)
      exact bodyPost_ret (v := .agg (bytesA 32 c)) (results_cell_row Tryd.results50 _ _ w.heap.size 93 _ (0, 0) _ rfl (hr5.setRow _) Tryd.underlying93 rfl (Tryd.size93B _)) rfl ⟨by rw [hc.out]; rfl, below_setRow hB5' (Nat.le_refl _) _⟩

end Go.Proofs.YtennogmeeefopaaDoor
namespace Go.Proofs.YtennogmeeefopaaDoor
open Go.RowKit
set_option linter.unusedSimpArgs false
set_option linter.unusedVariables false

theorem Tryd.in35 (w : World) (vs : Array Value) : (callFunc 35 vs).run Tryd.prog w = .ok (.enter 35 vs) w := by kernel_rfl
theorem Tryd.in50 (w : World) (vs : Array Value) : (callFunc 50 vs).run Tryd.prog w = .ok (.enter 50 vs) w := by kernel_rfl
theorem Tryd.in54 (w : World) (vs : Array Value) : (callFunc 54 vs).run Tryd.prog w = .ok (.enter 54 vs) w := by kernel_rfl
theorem Tryd.in46 (w : World) (vs : Array Value) : (callFunc 46 vs).run Tryd.prog w = .ok (.enter 46 vs) w := by kernel_rfl
theorem Tryd.newH (w : World) : (Instr.alloc 93 true (.tuple #[])).run Tryd.prog w = .ok (.pointer (some ⟨w.heap.size, 0, none⟩)) (w.alloc (.cells (bytesA 32 fun _ => 0) 93)) := by kernel_rfl
theorem Tryd.newA16 (w : World) : (Instr.alloc 112 true (.tuple #[])).run Tryd.prog w = .ok (.pointer (some ⟨w.heap.size, 0, none⟩)) (w.alloc (.cells (bytesA 16 fun _ => 0) 112)) := by kernel_rfl
theorem Tryd.size112 : (Tryd.prog.info? 112).map (·.size) = some 16 := by kernel_rfl
theorem Tryd.size112B (c : Nat → Int) : (Tryd.prog.info? 112).map (·.size) = some (bytesA 16 c).size := by rw [bytesA_size]; exact Tryd.size112
theorem bsR1 (a : Option Addr) (n c : Nat) (w : World) : (Instr.buildSlice 23 1 #[(0, .slice a n c)]).run Tryd.prog w = .ok (.slice (some ⟨w.heap.size, 0, none⟩) 1 1) (w.alloc (.cells #[.slice a n c] 37)) := by kernel_rfl
theorem concat_one (l : List Int) : concat (fun _ => l) 1 = l := by simp [concat]
set_option maxRecDepth 8000 in
theorem of_any (v : Value) (l : List Int) (w : World) (hr : RowAt w v l) (hl : (l.length : Int) ≤ 576460752303423488) : Calls Tryd.prog 35 #[v] w fun e w' => e = .returned (.agg (bytesA 32 (shaP l))) ∧ Below w.heap.size w w' := by
  obtain ⟨va, vc, rfl⟩ := row_form hr
  have HR := Keep.mk hr
  have HL := Keep.mk hl
  clear hr hl
  go_enter Tryd.func35, Tryd.ntmps35
  refine wp_seq_k fun K1 hK1 => ?_
  refine wp_region_list (WL.out ?_)
  refine WL.new (by kernel_rfl) 93 rfl _ Tryd.newH ?_
  have HP := Keep.mk (Blk.new w 93 (bytesA 32 fun _ => 0))
  have B1 := Keep.mk (below_new w (.cells (bytesA 32 fun _ => 0) 93))
  have HR1 := Keep.mk (HR.out.below B1.out)
  clear HR
  generalize w.alloc (.cells (bytesA 32 fun _ => 0) 93) = w1 at *
  obtain ⟨q, hq⟩ : ∃ p, Keep (p = w.heap.size) := ⟨_, ⟨rfl⟩⟩
  rw [← hq.out] at HP ⊢
  simp only [Act.put, List.setIfInBounds_toArray, List.set_cons_zero, List.set_cons_succ]
  refine WL.nil ?_
  refine hK1 _ _ ?_
  refine wp_seq_k fun K2 hK2 => ?_
  refine wp_region_list (WL.out ?_)
  refine WL.val (by kernel_rfl) (.slice va l.length vc) (by go_simp) ?_
  simp only [Act.put, List.setIfInBounds_toArray, List.set_cons_zero, List.set_cons_succ]
  refine WL.bs (by kernel_rfl) 23 1 _ rfl #[(0, .slice va l.length vc)] (by simp [Act.eval]) _ _ (bsR1 va l.length vc w1) ?_
  have HB := Keep.mk (Blk.new w1 37 #[.slice va l.length vc])
  have HP2 := Keep.mk (HP.out.alloc (.cells #[.slice va l.length vc] 37))
  have hbx := below_new w1 (.cells #[.slice va l.length vc] 37)
  have HR2 := Keep.mk (HR1.out.below hbx)
  have B2 : Keep (Below w.heap.size w (w1.alloc (.cells #[.slice va l.length vc] 37))) := ⟨B1.out.trans (hbx.mono B1.out.size)⟩
  clear HP HR1 hbx
  generalize w1.alloc (.cells #[.slice va l.length vc] 37) = w2 at *
  obtain ⟨r, hr⟩ : ∃ p, Keep (p = w1.heap.size) := ⟨_, ⟨rfl⟩⟩
  rw [← hr.out] at HB ⊢
  simp only [Act.put, List.setIfInBounds_toArray, List.set_cons_zero, List.set_cons_succ]
  have hof := ofAll_any r 0 1 1 (fun _ => .slice va l.length vc) (fun _ => l) w2 (fun i hi => by rw [show i = 0 by omega]; exact HB.out.c 0 rfl) (fun i hi => HR2.out) (by omega) (by rw [concat_one]; exact HL.out)
  rw [concat_one] at hof
  refine WL.callF (by kernel_rfl) 50 _ _ rfl Tryd.in50 #[.slice (some ⟨r, 0, none⟩) 1 1] (by simp [Act.eval]) ?_
  refine (hof).mono ?_
  rintro e w3 ⟨rfl, hb3⟩
  refine ⟨_, rfl, ?_⟩
  have HP3 := Keep.mk (HP2.out.below hb3 HP2.out.lt)
  have B3 : Keep (Below w.heap.size w w3) := ⟨B2.out.trans (hb3.mono B2.out.size)⟩
  clear hb3 hof HP2 HR2
  simp only [Act.put, List.setIfInBounds_toArray, List.set_cons_zero, List.set_cons_succ]
  refine WL.storeR (by kernel_rfl) 93 (.tmp 2) (.tmp 5) rfl q (bytesA 32 (shaP l)) rfl rfl 93 (bytesA 32 fun _ => 0) HP3.out (Tryd.size93B _) (bytesA_sizes _ _ _) (bytesA_one _ _) ?_
  have HP4 := Keep.mk (HP3.out.setRow (bytesA 32 (shaP l)))
  have B4 : Keep (Below w.heap.size w (w3.setRow q (bytesA 32 (shaP l)))) := ⟨below_setRow B3.out (by rw [hq.out]; exact Nat.le_refl _) _⟩
  clear HP3
  generalize w3.setRow q (bytesA 32 (shaP l)) = w4 at *
  simp only [Act.put]
  refine WL.nil ?_
  refine hK2 _ _ ?_
  refine wp_ret ?_
  try simp only [Exit.inBlock, Exit.then]
  refine bodyPost_ret (v := .agg (bytesA 32 (shaP l))) (results_cell1_row Tryd.results35 _ _ q 93 _ (0, 0) _ rfl HP4.out Tryd.underlying93 rfl (Tryd.size93B _)) rfl ?_
  exact ⟨rfl, B4.out⟩
/-- A number's byte. -/
def byN (n : Int) (i : Nat) : Int := (n / 256 ^ i) % 256
def hdP (n : Int) (t : Nat) : Nat → Int := fun i => if i < 4 then (if i < t then byN n i else 0) else if i < 8 then (if i - 4 < t then 255 - byN n (i - 4) else 0) else 0
theorem hd_step (n : Int) (t : Nat) (y : Int) (i : Nat) (ht : t < 4) (hy : y = byN n t) : upd (upd (hdP n t) t y) (4 + t) (255 - y) i = hdP n (t + 1) i := by
  unfold upd hdP
  subst hy
  by_cases h1 : i = 4 + t
  · subst h1; rw [if_pos rfl, if_neg (by omega), if_pos (by omega), if_pos (by omega), show 4 + t - 4 = t by omega]
  · rw [if_neg h1]
    by_cases h2 : i = t
    · subst h2; rw [if_pos rfl, if_pos (by omega), if_pos (by omega)]
    · rw [if_neg h2]
      by_cases h3 : i < 4
      · rw [if_pos h3, if_pos h3]
        by_cases h4 : i < t
        · rw [if_pos h4, if_pos (by omega)]
        · rw [if_neg h4, if_neg (by omega)]
      · rw [if_neg h3, if_neg h3]
        by_cases h5 : i < 8
        · rw [if_pos h5, if_pos h5]
          by_cases h4 : i - 4 < t
          · rw [if_pos h4, if_pos (by omega)]
          · rw [if_neg h4, if_neg (by omega)]
        · rw [if_neg h5, if_neg h5]
theorem xor_all : ∀ m : Fin 256, bits BinOp.xor IntKind.u8 (if IntKind.u8.signed = true then -1 else IntKind.u8.max) (m.val : Int) = 255 - (m.val : Int) := by decide +kernel
theorem xor_byte (y : Int) (h : 0 ≤ y ∧ y < 256) : bits BinOp.xor IntKind.u8 (if IntKind.u8.signed = true then -1 else IntKind.u8.max) y = 255 - y := by
  have := xor_all ⟨y.toNat, by omega⟩
  rw [show ((y.toNat : Nat) : Int) = y by omega] at this
  exact this
/-- A frame's head. -/
def hdF (l : List Int) : Nat → Int := fun i => if i < 4 then byN l.length i else if i < 8 then 255 - byN l.length (i - 4) else shaP l (i - 8)
theorem wp_copy {P : Program} {o : Oper} {a : Act} {w : World} {K : Act → World → Prop} {Q : Exit → Act → World → Prop} (d s : Operand) (ho : o.op = .call { callee := .builtin .copy, args := #[d, s], argTypes := #[37, 37] })
    (vd vs v : Value) (w' : World) (hd : a.eval d = vd) (hs : a.eval s = vs) (hrun : (Builtin.copy_ #[37, 37] o.type #[vd, vs]).run P w = .ok v w') (h : K (a.put o.dst v) w') : o.wp P a w K Q := by
  unfold Oper.wp execOp
  simp only [ho, resolve, invoke, builtin, Sem.run_bind, Sem.run_pure, Result.andThen_ok, List.map_toArray, List.map_cons, List.map_nil, hd, hs, hrun]
  exact h
theorem row_part {w : World} {g : Nat} {T : TypeId} {n m : Nat} {c : Nat → Int} (h : Blk w g T (bytesA n c)) (hm : m ≤ n) : RowAt w (.slice (some ⟨g, 0, none⟩) m n) (hl m c) := by
  refine .inr (.inr ⟨g, 0, n, by rw [hl_len], by rw [hl_len]; exact hm, fun i hi => ?_⟩)
  rw [hl_len] at hi
  rw [Nat.zero_add, h.cell, bytesA_get _ _ _ (by omega), hl_get _ _ _ hi]
theorem hd_cells (l : List Int) (n : Int) (hn : n = (l.length : Int)) : ((bytesA 16 (hdP n 4)).toList.take 8 ++ bv (hl 8 (shaP l)) ++ (bytesA 16 (hdP n 4)).toList.drop (8 + (hl 8 (shaP l)).length)).toArray = bytesA 16 (hdF l) := by
  apply Array.toList_inj.1
  rw [hl_len, hl_bytesA, hl_bytesA, bv_take, List.drop_of_length_le (by rw [bv_len, hl_len]; exact Nat.le_refl _), List.append_nil, ← bv_app]
  subst hn
  unfold hdF
  generalize shaP l = s
  try congr 1
  try simp [hl, hdP, hdF, List.range_succ, bv]
set_option maxRecDepth 8000 in
theorem head_any (v : Value) (l : List Int) (w : World) (hr : RowAt w v l) (hl : (l.length : Int) ≤ 1048576) : Calls Tryd.prog 54 #[v] w fun e w' => e = .returned (.agg (bytesA 16 (hdF l))) ∧ Below w.heap.size w w' := by
  obtain ⟨va, vc, rfl⟩ := row_form hr
  have HR := Keep.mk hr
  have HL := Keep.mk hl
  clear hr hl
  go_enter Tryd.func54, Tryd.ntmps54
  refine wp_seq_k fun K1 hK1 => ?_
  refine wp_region_list (WL.out ?_)
  refine WL.new (by kernel_rfl) 112 rfl _ Tryd.newA16 ?_
  have HQ := Keep.mk (Blk.new w 112 (bytesA 16 fun _ => 0))
  have B1 := Keep.mk (below_new w (.cells (bytesA 16 fun _ => 0) 112))
  generalize w.alloc (.cells (bytesA 16 fun _ => 0) 112) = w1 at *
  obtain ⟨q, hq⟩ : ∃ p, Keep (p = w.heap.size) := ⟨_, ⟨rfl⟩⟩
  rw [← hq.out] at HQ ⊢
  simp only [Act.put, List.setIfInBounds_toArray, List.set_cons_zero, List.set_cons_succ]
  refine WL.nil ?_
  refine hK1 _ _ ?_
  refine wp_seq_k fun K2 hK2 => ?_
  refine wp_region_list (WL.out ?_)
  refine WL.new (by kernel_rfl) 112 rfl _ Tryd.newA16 ?_
  have HB := Keep.mk (Blk.new w1 112 (bytesA 16 fun _ => 0))
  have hbx := below_new w1 (.cells (bytesA 16 fun _ => 0) 112)
  have HQ2 := Keep.mk (HQ.out.below hbx HQ.out.lt)
  have B2 : Keep (Below w.heap.size w (w1.alloc (.cells (bytesA 16 fun _ => 0) 112))) := ⟨B1.out.trans (hbx.mono B1.out.size)⟩
  have hqb : Keep (q < w1.heap.size) := ⟨HQ.out.lt⟩
  clear hbx HQ
  generalize w1.alloc (.cells (bytesA 16 fun _ => 0) 112) = w2 at *
  obtain ⟨b, hb⟩ : ∃ p, Keep (p = w1.heap.size) := ⟨_, ⟨rfl⟩⟩
  rw [← hb.out] at HB hqb ⊢
  have hqn : Keep (q < b ∧ w.heap.size ≤ q) := ⟨hqb.out, by rw [hq.out]; exact Nat.le_refl _⟩
  simp only [Act.put, List.setIfInBounds_toArray, List.set_cons_zero, List.set_cons_succ]
  refine WL.nil ?_
  refine hK2 _ _ ?_
  refine wp_seq_k fun K3 hK3 => ?_
  refine wp_region_list (WL.out ?_)
  obtain ⟨n, hn⟩ : ∃ n : Int, Keep (n = (l.length : Int) ∧ 0 ≤ n ∧ n < 4294967296) := ⟨_, ⟨rfl, by omega, by have := HL.out; omega⟩⟩
  have hn32' : IntKind.u32.wrap (l.length : Int) = n := by rw [hn.out.1, IntKind.wrap_u32]; have := HL.out; omega
  refine WL.val (by kernel_rfl) (.slice va l.length vc) (by go_simp) ?_
  simp only [Act.put, List.setIfInBounds_toArray, List.set_cons_zero, List.set_cons_succ]
  refine WL.val (by kernel_rfl) (.int .i64 (l.length : Int)) (by go_simp) ?_
  simp only [Act.put, List.setIfInBounds_toArray, List.set_cons_zero, List.set_cons_succ]
  refine WL.val (by kernel_rfl) (.int .u32 n) (by go_simp) ?_
  simp only [Act.put, List.setIfInBounds_toArray, List.set_cons_zero, List.set_cons_succ]
  refine WL.val (by kernel_rfl) (.int .u32 n) (by go_simp) ?_
  simp only [Act.put, List.setIfInBounds_toArray, List.set_cons_zero, List.set_cons_succ]
  refine WL.nil ?_
  refine hK3 _ _ ?_
  refine wp_seq_k fun K4 hK4 => ?_
  refine wp_seq_k fun K5 hK5 => ?_
  refine wp_region_list (WL.out ?_)
  refine WL.val (by kernel_rfl) (.int .i64 0) (by go_simp) ?_
  simp only [Act.put, List.setIfInBounds_toArray, List.set_cons_zero, List.set_cons_succ]
  refine WL.nil ?_
  refine hK5 _ _ ?_
  refine wp_block ?_
  refine wp_loop (fun ac wr => ∃ (t : Nat) (f : Nat → Value), ac = { tmps := #[.slice va l.length vc, undef, .pointer (some ⟨q, 0, none⟩), .pointer (some ⟨b, 0, none⟩), .int .u32 n, f 5, undef, .slice va l.length vc, .int .i64 (l.length : Int), .int .u32 n, .int .i64 (t : Int), f 11, f 12, f 13, f 14, f 15, f 16, f 17, f 18, f 19, f 20, f 21, f 22, f 23, f 24, f 25, f 26, f 27, undef, undef, undef, undef, undef, undef], defers := [] } ∧ t ≤ 4 ∧ Blk wr b 112 (bytesA 16 (hdP n t)) ∧ Grown w2 wr fun k => k = b) (fun a _ => 4 - (intOf (a.tmps.getD 10 undef)).toNat) ⟨0, fun i => [.slice va l.length vc, undef, .pointer (some ⟨q, 0, none⟩), .pointer (some ⟨b, 0, none⟩), .int .u32 n, undef, undef, .slice va l.length vc, .int .i64 (l.length : Int), .int .u32 n, .int .i64 0, undef, undef, undef, undef, undef, undef, undef, undef, undef, undef, undef, undef, undef, undef, undef, undef, undef, undef, undef, undef, undef, undef, undef].getD i undef, rfl, by omega, by rw [show bytesA 16 (hdP n 0) = bytesA 16 fun _ => 0 from bytesA_congr fun i hi => by simp [hdP]]; exact HB.out, Grown.refl _ _⟩ ?_
  rintro ac wr ⟨t, f, rfl, ht, hH, hG⟩
  have JH := Keep.mk hH
  have JG := Keep.mk hG
  clear hH hG
  by_cases hlt : t < 4
  · have hlt' : (t : Int) < 4 := by omega
    have f_o := JH.out.frozen t
    have hw8 : IntKind.i64.wrap (8 * (t : Int)) = 8 * (t : Int) := by rw [IntKind.wrap_i64]; omega
    obtain ⟨y, hy⟩ : ∃ y, Keep (y = byN n t) := ⟨_, ⟨rfl⟩⟩
    have h16t : (t : Int) < 16 := by omega
    have hpw : n / 2 ^ (8 * (t : Int)).toNat = n / 256 ^ t := by rw [show (8 * (t : Int)).toNat = 8 * t by omega, Int.pow_mul]; rfl
    have cto := JH.out.c t (bytesA_get _ _ _ (by omega))
    have hxr : bits BinOp.xor IntKind.u8 (if IntKind.u8.signed = true then -1 else IntKind.u8.max) y = 255 - y := by rw [hy.out]; exact xor_byte _ (by unfold byN; omega)
    have hsh : IntKind.u8.wrap (n / 256 ^ t) = y := by rw [hy.out]; simp only [byN, IntKind.wrap_u8]
    refine wp_seq_k fun K6 hK6 => ?_
    refine wp_region_list (WL.out ?_)
    refine WL.val (by kernel_rfl) (.bool true) (by go_simp) ?_
    simp only [Act.put, List.setIfInBounds_toArray, List.set_cons_zero, List.set_cons_succ]
    refine WL.nil ?_
    refine hK6 _ _ ?_
    refine wp_seq_k fun K7 hK7 => ?_
    refine wp_cond_true rfl ?_
    refine wp_skip ?_
    refine hK7 _ _ ?_
    refine wp_seq_k fun K8 hK8 => ?_
    refine wp_block ?_
    refine wp_seq_k fun K9 hK9 => ?_
    refine wp_region_list (WL.out ?_)
    refine WL.val (by kernel_rfl) (.int .i64 (t : Int)) (by go_simp) ?_
    simp only [Act.put, List.setIfInBounds_toArray, List.set_cons_zero, List.set_cons_succ]
    refine WL.val (by kernel_rfl) (.int .i64 (t : Int)) (by go_simp) ?_
    simp only [Act.put, List.setIfInBounds_toArray, List.set_cons_zero, List.set_cons_succ]
    refine WL.nil ?_
    refine hK9 _ _ ?_
    refine wp_seq_k fun K10 hK10 => ?_
    refine wp_region_list (WL.out ?_)
    refine WL.val (by kernel_rfl) (.int .i64 (t : Int)) (by go_simp) ?_
    simp only [Act.put, List.setIfInBounds_toArray, List.set_cons_zero, List.set_cons_succ]
    refine WL.val (by kernel_rfl) (.int .u32 n) (by go_simp) ?_
    simp only [Act.put, List.setIfInBounds_toArray, List.set_cons_zero, List.set_cons_succ]
    refine WL.val (by kernel_rfl) (.int .i64 (t : Int)) (by go_simp) ?_
    simp only [Act.put, List.setIfInBounds_toArray, List.set_cons_zero, List.set_cons_succ]
    refine WL.val (by kernel_rfl) (.int .i64 (8 * (t : Int))) (by go_simp) ?_
    simp only [Act.put, List.setIfInBounds_toArray, List.set_cons_zero, List.set_cons_succ]
    refine WL.val (by kernel_rfl) (.int .u32 (n / 256 ^ t)) (by go_simp) ?_
    simp only [Act.put, List.setIfInBounds_toArray, List.set_cons_zero, List.set_cons_succ]
    refine WL.val (by kernel_rfl) (.int .u8 y) (by go_simp) ?_
    simp only [Act.put, List.setIfInBounds_toArray, List.set_cons_zero, List.set_cons_succ]
    refine WL.val (by kernel_rfl) (.pointer (some ⟨b, t, none⟩)) (by go_simp) ?_
    simp only [Act.put, List.setIfInBounds_toArray, List.set_cons_zero, List.set_cons_succ]
    refine WL.cell (by kernel_rfl) (wr.setCell ⟨b, t, none⟩ (.int .u8 y)) (by go_simp) ?_
    clear f_o cto
    have J1 : Keep (Blk (wr.setCell ⟨b, t, none⟩ (.int .u8 y)) b 112 (bytesA 16 (upd (hdP n t) t y))) := ⟨by have h := JH.out.set t (.int .u8 y); rw [bytesA_set] at h; exact h⟩
    have G1 : Keep (Grown w2 (wr.setCell ⟨b, t, none⟩ (.int .u8 y)) fun k => k = b) := ⟨JG.out.trans (Grown.setCell wr b t _ fun _ => rfl)⟩
    generalize wr.setCell ⟨b, t, none⟩ (.int .u8 y) = w3 at *
    have ct : w3.cell? ⟨b, t, none⟩ = some (.int .u8 y) := J1.out.c t (by rw [bytesA_get _ _ _ (by omega)]; simp [upd])
    have f_o := J1.out.frozen (4 + t)
    have hw4 : IntKind.i64.wrap (4 + (t : Int)) = 4 + (t : Int) := by rw [IntKind.wrap_i64]; omega
    have h16 : 4 + (t : Int) < 16 := by omega
    have h0n : ¬ 4 + (t : Int) < 0 := by omega
    have ct4 := J1.out.c (4 + t) (bytesA_get _ _ _ (by omega))
    have h16n : (4 + (t : Int)).toNat = 4 + t := by omega
    simp only [Act.put]
    refine WL.nil ?_
    refine hK10 _ _ ?_
    refine wp_region_list (WL.out ?_)
    refine WL.val (by kernel_rfl) (.int .i64 (t : Int)) (by go_simp) ?_
    simp only [Act.put, List.setIfInBounds_toArray, List.set_cons_zero, List.set_cons_succ]
    refine WL.val (by kernel_rfl) (.int .i64 (4 + (t : Int))) (by go_simp) ?_
    simp only [Act.put, List.setIfInBounds_toArray, List.set_cons_zero, List.set_cons_succ]
    refine WL.val (by kernel_rfl) (.int .i64 (t : Int)) (by go_simp) ?_
    simp only [Act.put, List.setIfInBounds_toArray, List.set_cons_zero, List.set_cons_succ]
    refine WL.val (by kernel_rfl) (.pointer (some ⟨b, t, none⟩)) (by go_simp) ?_
    simp only [Act.put, List.setIfInBounds_toArray, List.set_cons_zero, List.set_cons_succ]
    refine WL.val (by kernel_rfl) (.int .u8 y) (by go_simp) ?_
    simp only [Act.put, List.setIfInBounds_toArray, List.set_cons_zero, List.set_cons_succ]
    refine WL.val (by kernel_rfl) (.int .u8 (255 - y)) (by go_simp) ?_
    simp only [Act.put, List.setIfInBounds_toArray, List.set_cons_zero, List.set_cons_succ]
    refine WL.val (by kernel_rfl) (.pointer (some ⟨b, 4 + t, none⟩)) (by go_simp) ?_
    simp only [Act.put, List.setIfInBounds_toArray, List.set_cons_zero, List.set_cons_succ]
    refine WL.cell (by kernel_rfl) (w3.setCell ⟨b, 4 + t, none⟩ (.int .u8 (255 - y))) (by go_simp) ?_
    clear f_o ct ct4
    have J2 : Keep (Blk (w3.setCell ⟨b, 4 + t, none⟩ (.int .u8 (255 - y))) b 112 (bytesA 16 (hdP n (t + 1)))) := ⟨by have h := J1.out.set (4 + t) (.int .u8 (255 - y)); rw [bytesA_set, bytesA_congr (d := hdP n (t + 1)) (fun i hi => hd_step n t y i hlt hy.out)] at h; exact h⟩
    have G2 : Keep (Grown w2 (w3.setCell ⟨b, 4 + t, none⟩ (.int .u8 (255 - y))) fun k => k = b) := ⟨G1.out.trans (Grown.setCell w3 b _ _ fun _ => rfl)⟩
    generalize w3.setCell ⟨b, 4 + t, none⟩ (.int .u8 (255 - y)) = w4 at *
    have hwt : IntKind.i64.wrap ((t : Int) + 1) = (t : Int) + 1 := by rw [IntKind.wrap_i64]; omega
    simp only [Act.put]
    refine WL.nil ?_
    refine hK8 _ _ ?_
    refine wp_region_list (WL.out ?_)
    refine WL.val (by kernel_rfl) (.int .i64 ((t : Int) + 1)) (by go_simp) ?_
    simp only [Act.put, List.setIfInBounds_toArray, List.set_cons_zero, List.set_cons_succ]
    refine WL.val (by kernel_rfl) (.int .i64 ((t : Int) + 1)) (by go_simp) ?_
    simp only [Act.put, List.setIfInBounds_toArray, List.set_cons_zero, List.set_cons_succ]
    refine WL.nil ?_
    refine ⟨⟨t + 1, fun i => [.slice va l.length vc, undef, .pointer (some ⟨q, 0, none⟩), .pointer (some ⟨b, 0, none⟩), .int .u32 n, .int .i64 (t : Int), undef, .slice va l.length vc, .int .i64 (l.length : Int), .int .u32 n, .int .i64 ((t : Int) + 1), .bool true, .int .i64 (t : Int), .int .i64 (t : Int), .int .u32 n, .int .i64 (t : Int), .int .i64 (8 * (t : Int)), .int .u32 (n / 256 ^ t), .int .u8 y, .pointer (some ⟨b, t, none⟩), .int .i64 (t : Int), .int .i64 (4 + (t : Int)), .int .i64 (t : Int), .pointer (some ⟨b, t, none⟩), .int .u8 y, .int .u8 (255 - y), .pointer (some ⟨b, 4 + t, none⟩), .int .i64 ((t : Int) + 1), undef, undef, undef, undef, undef, undef].getD i undef, rfl, by omega, J2.out, G2.out⟩, ?_⟩
    simp only [intOf]; show 4 - ((t : Int) + 1).toNat < 4 - ((t : Int)).toNat; omega
  · have h4 : t = 4 := by omega
    subst h4
    have HQ3 := Keep.mk (JG.out.blk HQ2.out (by have := hqn.out.1; omega))
    have B3 : Keep (Below w.heap.size w wr) := ⟨B2.out.trans (JG.out.to_below (B := w.heap.size) (fun k hk e => by have := hqn.out; omega) B2.out.size)⟩
    have HR3 := Keep.mk (HR.out.below B3.out)
    refine wp_seq_k fun K11 hK11 => ?_
    refine wp_region_list (WL.out ?_)
    refine WL.val (by kernel_rfl) (.bool false) (by go_simp) ?_
    simp only [Act.put, List.setIfInBounds_toArray, List.set_cons_zero, List.set_cons_succ]
    refine WL.nil ?_
    refine hK11 _ _ ?_
    refine wp_seq_k fun K12 hK12 => ?_
    refine wp_cond_false rfl ?_
    refine wp_exit ?_
    refine hK4 _ _ ?_
    refine wp_seq_k fun K13 hK13 => ?_
    refine wp_region_list (WL.out ?_)
    refine WL.val (by kernel_rfl) (.slice va l.length vc) (by go_simp) ?_
    simp only [Act.put, List.setIfInBounds_toArray, List.set_cons_zero, List.set_cons_succ]
    refine WL.callF (by kernel_rfl) 35 _ _ rfl Tryd.in35 #[.slice va l.length vc] (by simp [Act.eval]) ?_
    refine (of_any _ l wr HR3.out (by have := HL.out; omega)).mono ?_
    rintro e w5 ⟨rfl, hb5⟩
    refine ⟨_, rfl, ?_⟩
    have J5 := Keep.mk (JH.out.below hb5 JH.out.lt)
    have HQ5 := Keep.mk (HQ3.out.below hb5 HQ3.out.lt)
    have B5 : Keep (Below w.heap.size w w5) := ⟨B3.out.trans (hb5.mono B3.out.size)⟩
    clear hb5 JH HQ3 HR3
    simp only [Act.put, List.setIfInBounds_toArray, List.set_cons_zero, List.set_cons_succ]
    refine WL.new (by kernel_rfl) 93 rfl _ Tryd.newH ?_
    have HS := Keep.mk (Blk.new w5 93 (bytesA 32 fun _ => 0))
    have hbx := below_new w5 (.cells (bytesA 32 fun _ => 0) 93)
    have J6 := Keep.mk (J5.out.below hbx J5.out.lt)
    have HQ6 := Keep.mk (HQ5.out.below hbx HQ5.out.lt)
    have B6 : Keep (Below w.heap.size w (w5.alloc (.cells (bytesA 32 fun _ => 0) 93))) := ⟨B5.out.trans (hbx.mono B5.out.size)⟩
    have hbs : Keep (b < w5.heap.size) := ⟨J5.out.lt⟩
    clear hbx J5 HQ5
    generalize w5.alloc (.cells (bytesA 32 fun _ => 0) 93) = w6 at *
    obtain ⟨s, hs⟩ : ∃ p, Keep (p = w5.heap.size) := ⟨_, ⟨rfl⟩⟩
    rw [← hs.out] at HS hbs ⊢
    simp only [Act.put, List.setIfInBounds_toArray, List.set_cons_zero, List.set_cons_succ]
    refine WL.storeR (by kernel_rfl) 93 (.tmp 6) (.tmp 29) rfl s (bytesA 32 (shaP l)) rfl rfl 93 (bytesA 32 fun _ => 0) HS.out (Tryd.size93B _) (bytesA_sizes _ _ _) (bytesA_one _ _) ?_
    have HS7 := Keep.mk (HS.out.setRow (bytesA 32 (shaP l)))
    have J7 := Keep.mk (J6.out.setRow_ne (b' := s) (by have := hbs.out; omega) (bytesA 32 (shaP l)))
    have HQ7 := Keep.mk (HQ6.out.setRow_ne (b' := s) (by have := hbs.out; have := hqn.out; omega) (bytesA 32 (shaP l)))
    have B7 : Keep (Below w.heap.size w (w6.setRow s (bytesA 32 (shaP l)))) := ⟨below_setRow B6.out (by rw [hs.out]; exact B5.out.size) _⟩
    clear HS J6 HQ6
    generalize w6.setRow s (bytesA 32 (shaP l)) = w7 at *
    simp only [Act.put]
    refine WL.nil ?_
    refine hK13 _ _ ?_
    refine wp_seq_k fun K14 hK14 => ?_
    refine wp_region_held_drew (S := fun _ => True) (by kernel_rfl) (trivial) (fun hHeld => ?_)
    refine wpAnyH_take (i := 0) (oi := ⟨some 30, Op.slice 112 (Operand.tmp 3) (some (Operand.const (Value.int IntKind.i64 8))) none none, 37, _, _, none⟩) (v := .slice (some ⟨b, 8, none⟩) 8 8) rfl (by kernel_rfl) (by kernel_rfl) (by kernel_rfl) (fun _ _ _ h => h) (Or.inl ⟨by rfl, fun w hS => by go_simp⟩) hHeld ?_
    simp only [Act.put, List.setIfInBounds_toArray, List.set_cons_zero, List.set_cons_succ]
    refine wpAnyH_take (i := 1) (oi := ⟨some 31, Op.slice 93 (Operand.tmp 6) none (some (Operand.const (Value.int IntKind.i64 8))) none, 37, _, _, none⟩) (v := .slice (some ⟨s, 0, none⟩) 8 32) rfl (by kernel_rfl) (by kernel_rfl) (by kernel_rfl) (fun _ _ _ h => h) (Or.inl ⟨by rfl, fun w hS => by go_simp⟩) hHeld ?_
    simp only [Act.put, List.setIfInBounds_toArray, List.set_cons_zero, List.set_cons_succ]
    refine wpAnyH_ready (rs := [2]) (by kernel_rfl) (by simp) ?_
    refine AllReadyH.cons (o := ⟨some 32, Op.call { callee := Callee.builtin Builtin.copy, args := #[Operand.tmp 30, Operand.tmp 31], argTypes := #[37, 37] }, 3, _, _, none⟩) rfl (fun K hK => ?_) AllReadyH.nil
    rw [if_pos (by rfl)]
    refine wp_copy (Operand.tmp 30) (Operand.tmp 31) rfl (.slice (some ⟨b, 8, none⟩) 8 8) (.slice (some ⟨s, 0, none⟩) 8 32) _ _ rfl rfl (run_copyG w7.drew b 8 8 8 _ (hl 8 (shaP l)) 3 112 _ J7.out.drew (by rw [hl_len]; exact Nat.le_refl _) (by rw [hl_len, bytesA_size]; exact Nat.le_refl _) (row_part HS7.out.drew (by omega))) ?_
    refine hK _ _ trivial fun hH9 => ?_
    rw [show goInt (hl 8 (shaP l)).length = .int .i64 8 by rw [hl_len]; rfl, hd_cells l n hn.out.1]
    have J8 := Keep.mk (J7.out.drew.setRow (bytesA 16 (hdF l)))
    have HQ8 := Keep.mk (HQ7.out.drew.setRow_ne (b' := b) (by have := hqn.out; omega) (bytesA 16 (hdF l)))
    have B8 : Keep (Below w.heap.size w (w7.drew.setRow b (bytesA 16 (hdF l)))) := ⟨below_setRow B7.out.drew (by have := hqn.out; omega) _⟩
    clear J7 HS7 HQ7
    generalize w7.drew.setRow b (bytesA 16 (hdF l)) = w8 at *
    simp only [Act.put, List.setIfInBounds_toArray, List.set_cons_zero, List.set_cons_succ]
    refine wpAnyH_done (by kernel_rfl) ?_ _
    refine hK14 _ _ ?_
    refine wp_seq_k fun K15 hK15 => ?_
    refine wp_region_list (WL.out ?_)
    refine WL.row (by kernel_rfl) 112 (.tmp 3) rfl b rfl 112 (bytesA 16 (hdF l)) _ J8.out Tryd.underlying112 rfl (Tryd.size112B _) ?_
    simp only [Act.put, List.setIfInBounds_toArray, List.set_cons_zero, List.set_cons_succ]
    refine WL.storeR (by kernel_rfl) 112 (.tmp 2) (.tmp 33) rfl q (bytesA 16 (hdF l)) rfl rfl 112 (bytesA 16 fun _ => 0) HQ8.out (Tryd.size112B _) (bytesA_sizes _ _ _) (bytesA_one _ _) ?_
    have HQ9 := Keep.mk (HQ8.out.setRow (bytesA 16 (hdF l)))
    have B9 : Keep (Below w.heap.size w (w8.setRow q (bytesA 16 (hdF l)))) := ⟨below_setRow B8.out hqn.out.2 _⟩
    clear HQ8 J8
    generalize w8.setRow q (bytesA 16 (hdF l)) = w9 at *
    simp only [Act.put]
    refine WL.nil ?_
    refine hK15 _ _ ?_
    refine wp_ret ?_
    try simp only [Exit.inBlock, Exit.then]
    refine bodyPost_ret (v := .agg (bytesA 16 (hdF l))) (results_cell1_row Tryd.results54 _ _ q 112 _ (0, 0) _ rfl HQ9.out Tryd.underlying112 rfl (Tryd.size112B _)) rfl ?_
    exact ⟨rfl, B9.out⟩
theorem make_frame (o : Oper) (a : Act) (ho : o.op = .makeSlice 37 (.const (.int .i64 0)) (.tmp 9)) (y : Operand) (N : Nat) (hy : a.eval (.tmp 9) = .int .i64 (N : Int)) (hN : N ≤ 281474976710656) (w : World) : (execOp a.eval o).run Tryd.prog w = .ok (.value (.slice (some ⟨w.heap.size, 0, none⟩) 0 N)) (w.alloc (.cells (bytesA N fun _ => 0) 5)) := by
  have hrun := run_makeB 0 N (Nat.zero_le _) hN w
  unfold execOp
  simp only [ho, hy, Sem.run_bind]
  rw [show a.eval (.const (.int .i64 0)) = .int .i64 ((0 : Nat) : Int) from rfl, hrun]
  rfl
set_option maxRecDepth 8000 in
theorem frame_any (v : Value) (l : List Int) (w : World) (hr : RowAt w v l) (hl' : (l.length : Int) ≤ 1048576) : Calls Tryd.prog 46 #[v] w fun e w' => ∃ v', e = .returned v' ∧ Own w' v' (hl 16 (hdF l) ++ l) ∧ (∀ k, v'.ownBlock = some k → w.heap.size ≤ k) ∧ Below w.heap.size w w' := by
  obtain ⟨va, vc, rfl⟩ := row_form hr
  have HR := Keep.mk hr
  have HL := Keep.mk hl'
  clear hr hl'
  go_enter Tryd.func46, Tryd.ntmps46
  skip
  refine wp_seq_k fun K1 hK1 => ?_
  refine wp_region_list (WL.out ?_)
  refine WL.val (by kernel_rfl) (.slice none 0 0) (by go_simp) ?_
  simp only [Act.put, List.setIfInBounds_toArray, List.set_cons_zero, List.set_cons_succ]
  refine WL.nil ?_
  refine hK1 _ _ ?_
  refine wp_seq_k fun K2 hK2 => ?_
  refine wp_region_list (WL.out ?_)
  refine WL.val (by kernel_rfl) (.slice va l.length vc) (by go_simp) ?_
  simp only [Act.put, List.setIfInBounds_toArray, List.set_cons_zero, List.set_cons_succ]
  refine WL.callF (by kernel_rfl) 54 _ _ rfl Tryd.in54 #[.slice va l.length vc] (by simp [Act.eval]) ?_
  refine (head_any _ l w HR.out HL.out).mono ?_
  rintro e w1 ⟨rfl, hb1⟩
  refine ⟨_, rfl, ?_⟩
  have B1 := Keep.mk hb1
  have HR1 := Keep.mk (HR.out.below hb1)
  clear hb1
  simp only [Act.put, List.setIfInBounds_toArray, List.set_cons_zero, List.set_cons_succ]
  refine WL.new (by kernel_rfl) 112 rfl _ Tryd.newA16 ?_
  have HP := Keep.mk (Blk.new w1 112 (bytesA 16 fun _ => 0))
  have hbx := below_new w1 (.cells (bytesA 16 fun _ => 0) 112)
  have B2 : Keep (Below w.heap.size w (w1.alloc (.cells (bytesA 16 fun _ => 0) 112))) := ⟨B1.out.trans (hbx.mono B1.out.size)⟩
  clear hbx
  generalize w1.alloc (.cells (bytesA 16 fun _ => 0) 112) = w2 at *
  obtain ⟨q, hq⟩ : ∃ p, Keep (p = w1.heap.size) := ⟨_, ⟨rfl⟩⟩
  rw [← hq.out] at HP ⊢
  have hqw : Keep (w.heap.size ≤ q) := ⟨by rw [hq.out]; exact B1.out.size⟩
  simp only [Act.put, List.setIfInBounds_toArray, List.set_cons_zero, List.set_cons_succ]
  refine WL.storeR (by kernel_rfl) 112 (.tmp 3) (.tmp 6) rfl q (bytesA 16 (hdF l)) rfl rfl 112 (bytesA 16 fun _ => 0) HP.out (Tryd.size112B _) (bytesA_sizes _ _ _) (bytesA_one _ _) ?_
  have HP3 := Keep.mk (HP.out.setRow (bytesA 16 (hdF l)))
  have B3 : Keep (Below w.heap.size w (w2.setRow q (bytesA 16 (hdF l)))) := ⟨below_setRow B2.out hqw.out _⟩
  clear HP
  generalize w2.setRow q (bytesA 16 (hdF l)) = w3 at *
  obtain ⟨N, hN⟩ : ∃ N : Nat, Keep (N = 16 + l.length) := ⟨_, ⟨rfl⟩⟩
  have hwN : IntKind.i64.wrap (16 + (l.length : Int)) = (N : Int) := by rw [IntKind.wrap_i64]; have := hN.out; have := HL.out; omega
  simp only [Act.put]
  refine WL.nil ?_
  refine hK2 _ _ ?_
  refine wp_seq_k fun K3 hK3 => ?_
  refine wp_region_list (WL.out ?_)
  refine WL.val (by kernel_rfl) (.slice va l.length vc) (by go_simp) ?_
  simp only [Act.put, List.setIfInBounds_toArray, List.set_cons_zero, List.set_cons_succ]
  refine WL.val (by kernel_rfl) (.int .i64 (l.length : Int)) (by go_simp) ?_
  simp only [Act.put, List.setIfInBounds_toArray, List.set_cons_zero, List.set_cons_succ]
  refine WL.val (by kernel_rfl) (.int .i64 (N : Int)) (by go_simp) ?_
  simp only [Act.put, List.setIfInBounds_toArray, List.set_cons_zero, List.set_cons_succ]
  refine WL.valW (by kernel_rfl) (.slice (some ⟨w3.heap.size, 0, none⟩) 0 N) (w3.alloc (.cells (bytesA N fun _ => 0) 5)) (make_frame _ _ rfl (.tmp 9) N rfl (by have := hN.out; have := HL.out; omega) w3) ?_
  have HM := Keep.mk (Blk.new w3 5 (bytesA N fun _ => 0))
  have hbx := below_new w3 (.cells (bytesA N fun _ => 0) 5)
  have HP4 := Keep.mk (HP3.out.below hbx HP3.out.lt)
  have B4 : Keep (Below w.heap.size w (w3.alloc (.cells (bytesA N fun _ => 0) 5))) := ⟨B3.out.trans (hbx.mono B3.out.size)⟩
  have hmw : Keep (w.heap.size ≤ w3.heap.size ∧ q < w3.heap.size) := ⟨B3.out.size, HP3.out.lt⟩
  clear hbx HP3
  generalize w3.alloc (.cells (bytesA N fun _ => 0) 5) = w4 at *
  obtain ⟨m, hm⟩ : ∃ p, Keep (p = w3.heap.size) := ⟨_, ⟨rfl⟩⟩
  rw [← hm.out] at HM hmw ⊢
  have HO : Keep (Own w4 (.slice (some ⟨m, 0, none⟩) 0 N) []) := ⟨Own.mk (l := []) HM.out (Nat.zero_le _) (by unfold maxLen; have := hN.out; have := HL.out; omega) (bytesA_size _ _) (by simp [bv])⟩
  simp only [Act.put, List.setIfInBounds_toArray, List.set_cons_zero, List.set_cons_succ]
  refine WL.val (by kernel_rfl) (.slice (some ⟨m, 0, none⟩) 0 N) (by go_simp) ?_
  simp only [Act.put, List.setIfInBounds_toArray, List.set_cons_zero, List.set_cons_succ]
  refine WL.nil ?_
  refine hK3 _ _ ?_
  refine wp_seq_k fun K4 hK4 => ?_
  refine wp_region_list (WL.out ?_)
  have HPr : Keep (RowAt w4 (.slice (some ⟨q, 0, none⟩) 16 16) (hl 16 (hdF l))) := ⟨row_arr HP4.out⟩
  refine WL.val (by kernel_rfl) (.slice (some ⟨m, 0, none⟩) 0 N) (by go_simp) ?_
  simp only [Act.put, List.setIfInBounds_toArray, List.set_cons_zero, List.set_cons_succ]
  refine WL.val (by kernel_rfl) (.slice (some ⟨q, 0, none⟩) 16 16) (by go_simp) ?_
  simp only [Act.put, List.setIfInBounds_toArray, List.set_cons_zero, List.set_cons_succ]
  refine WL.call (by kernel_rfl) fun K hK => ?_
  refine wp_app (.tmp 11) (.tmp 12) rfl (.slice (some ⟨m, 0, none⟩) 0 N) (.slice (some ⟨q, 0, none⟩) 16 16) [] (hl 16 (hdF l)) rfl rfl HO.out HPr.out (by simp only [hl_len, List.length_nil, List.length_append]; have := HL.out; omega) fun v5 w5 hp => ?_
  refine hK _ _ ?_
  have HA5 := Keep.mk hp
  clear hp
  simp only [Act.put, List.setIfInBounds_toArray, List.set_cons_zero, List.set_cons_succ]
  have HO5 := Keep.mk HA5.out.1
  have N5 : Keep (∀ k, v5.ownBlock = some k → w.heap.size ≤ k) := ⟨fun k hk => own_new HA5.out (by have := B4.out.size; omega) (fun j hj => by obtain rfl : m = j := Option.some.inj hj; exact hmw.out.1) k hk⟩
  have B5 : Keep (Below w.heap.size w w5) := ⟨B4.out.trans (HA5.out.grown.to_below (B := w.heap.size) (fun k hk e => by have e2 : m = k := Option.some.inj e; have := hmw.out; omega) B4.out.size)⟩
  have HR5 := Keep.mk (HR.out.below B5.out)
  obtain ⟨a5, n5, c5, e5⟩ := HO5.out.sl
  subst e5
  refine WL.val (by kernel_rfl) (.slice va l.length vc) (by go_simp) ?_
  simp only [Act.put, List.setIfInBounds_toArray, List.set_cons_zero, List.set_cons_succ]
  refine WL.call (by kernel_rfl) fun K hK => ?_
  refine wp_app (.tmp 13) (.tmp 14) rfl (.slice a5 n5 c5) (.slice va l.length vc) ([] ++ hl 16 (hdF l)) l rfl rfl HO5.out HR5.out (by simp only [hl_len, List.length_nil, List.length_append]; have := HL.out; omega) fun v6 w6 hp => ?_
  refine hK _ _ ?_
  have HA6 := Keep.mk hp
  clear hp
  simp only [Act.put, List.setIfInBounds_toArray, List.set_cons_zero, List.set_cons_succ]
  refine WL.val (by kernel_rfl) (v6) (by go_simp) ?_
  simp only [Act.put, List.setIfInBounds_toArray, List.set_cons_zero, List.set_cons_succ]
  refine WL.nil ?_
  refine hK4 _ _ ?_
  refine wp_ret ?_
  go_ret
  refine ⟨v6, rfl, ?_, fun k hk => own_new HA6.out B5.out.size N5.out k hk, B5.out.trans (HA6.out.grown.to_below (B := w.heap.size) (fun k hk e => by have := N5.out k e; omega) B5.out.size)⟩
  have h := HA6.out.1
  rw [List.nil_append] at h
  exact h
end Go.Proofs.YtennogmeeefopaaDoor
namespace Go.Proofs.YtennogmeeefopaaDoor
open Go.RowKit
set_option linter.unusedSimpArgs false
set_option linter.unusedVariables false

theorem Tryd.in24 (w : World) (vs : Array Value) : (callFunc 24 vs).run Tryd.prog w = .ok (.enter 24 vs) w := by kernel_rfl
theorem Tryd.in25 (w : World) (vs : Array Value) : (callFunc 25 vs).run Tryd.prog w = .ok (.enter 25 vs) w := by kernel_rfl
/-- Places: owned lists of them. -/
def pL (l : List (Int × Int)) : List Value := l.flatMap fun c => [.int .i64 c.1, .int .i64 c.2]
theorem pL_len : ∀ l : List (Int × Int), (pL l).length = l.length * 2
  | [] => rfl
  | c :: r => by simp [pL]; have := pL_len r; simp [pL] at this; omega
theorem pL_one (l : List (Int × Int)) : ∀ u ∈ pL l, u.oneCell' = true := fun u hu => by
  simp [pL] at hu
  obtain ⟨a, b, _, rfl | rfl⟩ := hu <;> rfl
def OwnP (w : World) (v : Value) (l : List (Int × Int)) : Prop := w.ownsRow 0 79 2 v l.length (pL l)
theorem ownP_nil (w : World) : OwnP w (.slice none 0 0) [] := ⟨rfl, .inl ⟨rfl, rfl⟩⟩
theorem OwnP.sl {w : World} {v : Value} {l : List (Int × Int)} (h : OwnP w v l) : ∃ a c, v = .slice a l.length c := by
  rcases h.2 with ⟨rfl, h0⟩ | ⟨g, cap, cur, rfl, _⟩
  · have : l.length = 0 := by have h1 := h.1; rw [h0] at h1; have := pL_len l; simp at h1; omega
    exact ⟨none, 0, by rw [this]⟩
  · exact ⟨_, _, rfl⟩
theorem OwnP.grown {w w' : World} {v : Value} {l : List (Int × Int)} {S : Nat → Prop} (h : OwnP w v l) (hg : Grown w w' S) (hs : ∀ k, v.ownBlock = some k → ¬ S k) : OwnP w' v l := by
  rcases h with ⟨h1, h2 | ⟨g, cap, cur, h2, h3, h4, h5⟩⟩
  · exact ⟨h1, .inl h2⟩
  · exact ⟨h1, .inr ⟨g, cap, cur, h2, h3, hg.blk h4 (hs g (by rw [h2]; rfl)), h5⟩⟩
theorem OwnP.typ {w : World} {v : Value} {l : List (Int × Int)} (h : OwnP w v l) {k : Nat} (hk : v.ownBlock = some k) : Typ w k 79 := by
  rcases h.2 with ⟨rfl, _⟩ | ⟨g, cap, cur, rfl, _, h4, _⟩
  · cases hk
  · obtain rfl : g = k := Option.some.inj hk
    exact Blk.typ h4
theorem Tryd.infoPl : (Tryd.prog.info? 79).map (fun i => (i.zero, i.size, i.bytes)) = some (some (.agg #[.int .i64 (0), .int .i64 (0)]), 2, 16) := by kernel_rfl
theorem run_appP (w : World) (ty : TypeId) (v : Value) (l : List (Int × Int)) (hown : OwnP w v l) (g c : Nat) (x : Int × Int) (hg : Blk w g 79 #[.int .i64 (x.1), .int .i64 (x.2)]) (hb : l.length ≤ 1000000000000) :
    ∃ v' w', (Builtin.append_ #[59, 59] ty #[v, .slice (some ⟨g, 0, none⟩) 1 c]).run Tryd.prog w = .ok v' w' ∧ OwnP w' v' (l ++ [x]) ∧ (Grown w w' fun k => v.ownBlock = some k) ∧ Moved w v v' := by
  obtain ⟨i, hi, hzz⟩ := Option.map_eq_some_iff.1 Tryd.infoPl
  simp only [Prod.mk.injEq] at hzz
  obtain ⟨hz, hsz, hby⟩ := hzz
  obtain ⟨v', w', hr, h1, h2, _, h3⟩ := run_append_own_at (P := Tryd.prog) w 0 59 ty 79 i (.agg #[.int .i64 (0), .int .i64 (0)]) 2 16 Tryd.underlying59 hi hz hsz hby rfl (by omega) v l.length (pL l) hown ⟨g, 0, none⟩ 1 c (pL [x]) rfl (fun j u hu => by
      rw [Addr.add_mid, Nat.zero_add, hg.cell]; simpa [pL] using hu)
    (pL_one _) (by unfold maxLen; omega) (by omega) (Nat.zero_le _)
  refine ⟨v', w', hr, ?_, Grown.of h2 fun k _ e => e, ?_⟩
  · unfold OwnP
    rw [List.length_append, show pL (l ++ [x]) = pL l ++ pL [x] by simp [pL]]
    exact h1
  · rcases h3 with h3 | h3
    · exact .inl h3
    · exact .inr ⟨_, h3, Nat.le_refl _⟩
theorem wp_appP {Q : Exit → Act → World → Prop} {o : Oper} {a : Act} {w : World} {K : Act → World → Prop} (s x : Operand)
    (ho : o.op = .call { callee := .builtin .append, args := #[s, x], argTypes := #[59, 59] }) (v : Value) (l : List (Int × Int)) (g c : Nat) (y : Int × Int)
    (hs : a.eval s = v) (hx : a.eval x = .slice (some ⟨g, 0, none⟩) 1 c) (hown : OwnP w v l) (hg : Blk w g 79 #[.int .i64 (y.1), .int .i64 (y.2)]) (hb : l.length ≤ 1000000000000)
    (h : ∀ v' w', OwnP w' v' (l ++ [y]) → (Grown w w' fun k => v.ownBlock = some k) → Moved w v v' → K (a.put o.dst v') w') : o.wp Tryd.prog a w K Q := by
  obtain ⟨v', w', hr, h1, h2, h3⟩ := run_appP w o.type v l hown g c y hg hb
  unfold Oper.wp execOp
  simp only [ho, resolve, invoke, builtin, Sem.run_bind, Sem.run_pure, Result.andThen_ok, List.map_toArray, List.map_cons, List.map_nil, hs, hx, hr]
  exact h v' w' h1 h2 h3
theorem bsP (a b : Int) (w : World) : (Instr.buildSlice 59 1 #[(0, .agg #[.int .i64 (a), .int .i64 (b)])]).run Tryd.prog w = .ok (.slice (some ⟨w.heap.size, 0, none⟩) 1 1) (w.alloc (.cells #[.int .i64 (a), .int .i64 (b)] 79)) := by kernel_rfl
theorem wp_bs {P : Program} {o : Oper} {a : Act} {w : World} {K : Act → World → Prop} {Q : Exit → Act → World → Prop} (t : TypeId) (n : Nat) (parts : Array (Nat × Operand)) (ho : o.op = .buildSlice t n parts)
    (vs : Array (Nat × Value)) (hv : parts.map (fun x => (x.1, a.eval x.2)) = vs) (v : Value) (w' : World) (hrun : (Instr.buildSlice t n vs).run P w = .ok v w') (h : K (a.put o.dst v) w') : o.wp P a w K Q := by
  unfold Oper.wp execOp
  simp only [ho, hv, Sem.run_bind, hrun, Result.andThen_ok, Sem.run_pure]
  exact h
theorem jA_size (d : Nat) (vf : Value) (pr sz : Int) (la de : Bool) : (jA d vf pr sz la de).size = 6 := rfl
theorem nm0_rgt : rgt (nmS 0) = true := by rw [nmS_0]; decide +kernel
set_option maxRecDepth 8000 in
set_option maxHeartbeats 2000000 in
theorem japp_none (g d p i : Nat) (v vf vp : Value) (l : List Int) (cs : List FC) (D : DV) (pl : List (Int × Int)) (sz : Int) (la : Bool) (w : World) (hT : Tab w) (hJ : Blk w g 61 (jA d vp (-1) sz la false)) (hDk : Blk w d 75 #[ptr p]) (hD : DskAt w p vf cs D) (hPl : OwnP w vp pl) (hPp : ∀ k, vp.ownBlock = some k → k ≠ p) (hPn : pl.length ≤ 1000000000) (hO : D.out = false) (hF : fnd (nmS 0) D.fs 0 = (i, false)) (hC : cs.length < 256)
    (hL : 1 ≤ (l.length : Int) ∧ (l.length : Int) ≤ 1048576) (hU : 0 ≤ D.used ∧ 0 ≤ D.room ∧ D.room ≤ 70368744177664 ∧ 16 + (l.length : Int) ≤ D.room - D.used) (hA : 0 ≤ D.acts ∧ D.acts ≤ 4611686018427387904) (hFu : -9223372036854775808 < D.fuse ∧ D.fuse ≤ 9223372036854775807 ∧ ¬ D.fuse = 0) (hR : RowAt w v l) :
    Calls Tryd.prog 24 #[ptr g, v] w fun e w' => e = .returned (.int .i64 0) ∧ ∃ vp' vf' cs', Blk w' g 61 (jA d vp' 0 (16 + (l.length : Int)) true false) ∧ OwnP w' vp' (pl ++ [(0, 0)]) ∧ DskAt w' p vf' cs' (D.appNew i (nmS 0) (hl 16 (hdF l) ++ l)) ∧ (Grown w w' fun k => k = p ∨ k = g ∨ vp.ownBlock = some k) ∧ (∀ k, DskS p vf' cs' k → DskS p vf cs k ∨ w.heap.size ≤ k) ∧ ∀ k, vp'.ownBlock = some k → vp.ownBlock = some k ∨ w.heap.size ≤ k := by
  obtain ⟨ba, bc, rfl⟩ := row_form hR
  obtain ⟨pa, pc, rfl⟩ := hPl.sl
  have HZ : Keep (0 < w.heap.size) := ⟨Nat.lt_of_le_of_lt (Nat.zero_le _) hJ.lt⟩
  have HT := Keep.mk hT
  have HJ := Keep.mk hJ
  have HDk := Keep.mk hDk
  have HD := Keep.mk hD
  have HPl := Keep.mk hPl
  have HPp := Keep.mk hPp
  have HPn := Keep.mk hPn
  have HPw : Keep (∀ k, (Value.slice pa pl.length pc).ownBlock = some k → k < w.heap.size) := ⟨fun k hk => (hPl.typ hk).lt⟩
  have HPg : Keep (∀ k, (Value.slice pa pl.length pc).ownBlock = some k → k ≠ g) := ⟨fun k hk e => by subst e; have := (hPl.typ hk).one hJ.typ; revert this; decide⟩
  have HO := Keep.mk hO
  have HF := Keep.mk hF
  have HC := Keep.mk hC
  have HL := Keep.mk hL
  have HU := Keep.mk hU
  have HA := Keep.mk hA
  have HFu := Keep.mk hFu
  have HR := Keep.mk hR
  clear hT hJ hDk hD hPl hPp hPn hO hF hC hL hU hA hFu hR
  go_enter Tryd.func24, Tryd.ntmps24
  have c5 := HJ.out.c 5 (by rfl : (jA d (.slice pa pl.length pc) (-1) sz la false)[5]? = some (.bool false))
  have hl0 : ¬ (l.length : Int) = 0 := by have := HL.out; omega
  have hl1 : ¬ (1048576 : Int) < (l.length : Int) := by have := HL.out; omega
  have hln : ¬ l.length = 0 := by have := HL.out; omega
  have hwl : IntKind.i64.wrap (16 + (l.length : Int)) = 16 + (l.length : Int) := by rw [IntKind.wrap_i64]; have := HL.out; omega
  refine wp_seq_k fun K1 hK1 => ?_
  refine wp_region_list (WL.out ?_)
  refine WL.val (by kernel_rfl) (.int .i64 0) (by go_simp) ?_
  simp only [Act.put, List.setIfInBounds_toArray, List.set_cons_zero, List.set_cons_succ]
  refine WL.nil ?_
  refine hK1 _ _ ?_
  refine wp_seq_k fun K2 hK2 => ?_
  refine wp_block ?_
  refine wp_seq_k fun K3 hK3 => ?_
  refine wp_region_list (WL.out ?_)
  refine WL.val (by kernel_rfl) (.pointer (some ⟨g, 0, none⟩)) (by go_simp) ?_
  simp only [Act.put, List.setIfInBounds_toArray, List.set_cons_zero, List.set_cons_succ]
  refine WL.val (by kernel_rfl) (.pointer (some ⟨g, 0, none⟩)) (by go_simp) ?_
  simp only [Act.put, List.setIfInBounds_toArray, List.set_cons_zero, List.set_cons_succ]
  refine WL.val (by kernel_rfl) (.pointer (some ⟨g, 5, none⟩)) (by go_simp) ?_
  simp only [Act.put, List.setIfInBounds_toArray, List.set_cons_zero, List.set_cons_succ]
  refine WL.val (by kernel_rfl) (.bool false) (by go_simp) ?_
  simp only [Act.put, List.setIfInBounds_toArray, List.set_cons_zero, List.set_cons_succ]
  refine WL.val (by kernel_rfl) (.bool false) (by go_simp) ?_
  simp only [Act.put, List.setIfInBounds_toArray, List.set_cons_zero, List.set_cons_succ]
  refine WL.nil ?_
  refine hK3 _ _ ?_
  refine wp_cond_false rfl ?_
  refine wp_seq_k fun K4 hK4 => ?_
  refine wp_region_list (WL.out ?_)
  refine WL.val (by kernel_rfl) (.slice ba l.length bc) (by go_simp) ?_
  simp only [Act.put, List.setIfInBounds_toArray, List.set_cons_zero, List.set_cons_succ]
  refine WL.val (by kernel_rfl) (.int .i64 (l.length : Int)) (by go_simp) ?_
  simp only [Act.put, List.setIfInBounds_toArray, List.set_cons_zero, List.set_cons_succ]
  refine WL.val (by kernel_rfl) (.bool false) (by go_simp) ?_
  simp only [Act.put, List.setIfInBounds_toArray, List.set_cons_zero, List.set_cons_succ]
  refine WL.val (by kernel_rfl) (.bool false) (by go_simp) ?_
  simp only [Act.put, List.setIfInBounds_toArray, List.set_cons_zero, List.set_cons_succ]
  refine WL.nil ?_
  refine hK4 _ _ ?_
  refine wp_cond_false rfl ?_
  refine wp_seq_k fun K5 hK5 => ?_
  refine wp_region_list (WL.out ?_)
  refine WL.val (by kernel_rfl) (.slice ba l.length bc) (by go_simp) ?_
  simp only [Act.put, List.setIfInBounds_toArray, List.set_cons_zero, List.set_cons_succ]
  refine WL.val (by kernel_rfl) (.int .i64 (l.length : Int)) (by go_simp) ?_
  simp only [Act.put, List.setIfInBounds_toArray, List.set_cons_zero, List.set_cons_succ]
  refine WL.val (by kernel_rfl) (.bool false) (by go_simp) ?_
  simp only [Act.put, List.setIfInBounds_toArray, List.set_cons_zero, List.set_cons_succ]
  refine WL.val (by kernel_rfl) (.bool false) (by go_simp) ?_
  simp only [Act.put, List.setIfInBounds_toArray, List.set_cons_zero, List.set_cons_succ]
  refine WL.nil ?_
  refine hK5 _ _ ?_
  refine wp_cond_false rfl ?_
  refine wp_skip ?_
  refine hK2 _ _ ?_
  refine wp_seq_k fun K6 hK6 => ?_
  refine wp_region_list (WL.out ?_)
  refine WL.val (by kernel_rfl) (.pointer (some ⟨g, 0, none⟩)) (by go_simp) ?_
  simp only [Act.put, List.setIfInBounds_toArray, List.set_cons_zero, List.set_cons_succ]
  refine WL.val (by kernel_rfl) (.slice ba l.length bc) (by go_simp) ?_
  simp only [Act.put, List.setIfInBounds_toArray, List.set_cons_zero, List.set_cons_succ]
  refine WL.val (by kernel_rfl) (.int .i64 (l.length : Int)) (by go_simp) ?_
  simp only [Act.put, List.setIfInBounds_toArray, List.set_cons_zero, List.set_cons_succ]
  refine WL.val (by kernel_rfl) (.int .i64 (16 + (l.length : Int))) (by go_simp) ?_
  simp only [Act.put, List.setIfInBounds_toArray, List.set_cons_zero, List.set_cons_succ]
  clear c5 hl0 hl1 hln hwl
  refine WL.callF (by kernel_rfl) 44 _ _ rfl Tryd.in44 #[ptr g, .int .i64 (16 + (l.length : Int))] (by simp [Act.eval]) ?_
  refine (next_none g _ w (HJ.out.c 2 rfl)).mono ?_
  rintro e w1 ⟨rfl, hb1⟩
  refine ⟨_, rfl, ?_⟩
  have B1 := Keep.mk hb1
  clear hb1
  simp only [Act.put, List.setIfInBounds_toArray, List.set_cons_zero, List.set_cons_succ]
  refine WL.new (by kernel_rfl) 79 rfl _ Tryd.newPl ?_
  have HP := Keep.mk (Blk.new w1 79 #[.int .i64 (0), .int .i64 (0)])
  have hbx := below_new w1 (.cells #[.int .i64 (0), .int .i64 (0)] 79)
  have B2 : Keep (Below w.heap.size w (w1.alloc (.cells #[.int .i64 (0), .int .i64 (0)] 79))) := ⟨B1.out.trans (hbx.mono B1.out.size)⟩
  clear hbx
  change WL _ _ _ _ _ (w1.alloc (.cells #[.int .i64 (0), .int .i64 (0)] 79))
  generalize w1.alloc (.cells #[.int .i64 (0), .int .i64 (0)] 79) = w2 at *
  obtain ⟨q, hq⟩ : ∃ p, Keep (p = w1.heap.size) := ⟨_, ⟨rfl⟩⟩
  rw [← hq.out] at HP ⊢
  have hqw : Keep (w.heap.size ≤ q) := ⟨by rw [hq.out]; exact B1.out.size⟩
  simp only [Act.put, List.setIfInBounds_toArray, List.set_cons_zero, List.set_cons_succ]
  refine WL.storeR (by kernel_rfl) 79 (.tmp 5) (.tmp 25) rfl q #[.int .i64 (0), .int .i64 (0)] rfl rfl 79 #[.int .i64 (0), .int .i64 (0)] HP.out (by kernel_rfl) rfl (by kernel_rfl) ?_
  have HP3 := Keep.mk (HP.out.setRow #[.int .i64 (0), .int .i64 (0)])
  have B3 : Keep (Below w.heap.size w (w2.setRow q #[.int .i64 (0), .int .i64 (0)])) := ⟨below_setRow B2.out hqw.out _⟩
  clear HP
  generalize w2.setRow q #[.int .i64 (0), .int .i64 (0)] = w3 at *
  have q0 := HP3.out.c 0 (by rfl : (#[.int .i64 (0), .int .i64 (0)] : Array Value)[0]? = some (.int .i64 0))
  have HJ3 := Keep.mk (HJ.out.below B3.out HJ.out.lt)
  have HT3 := Keep.mk (HT.out.below B3.out HZ.out)
  simp only [Act.put]
  refine WL.nil ?_
  refine hK6 _ _ ?_
  refine wp_seq_k fun K7 hK7 => ?_
  refine wp_seq_k fun K8 hK8 => ?_
  refine wp_region_list (WL.out ?_)
  refine WL.val (by kernel_rfl) (.pointer (some ⟨q, 0, none⟩)) (by go_simp) ?_
  simp only [Act.put, List.setIfInBounds_toArray, List.set_cons_zero, List.set_cons_succ]
  refine WL.val (by kernel_rfl) (.int .i64 0) (by go_simp) ?_
  simp only [Act.put, List.setIfInBounds_toArray, List.set_cons_zero, List.set_cons_succ]
  refine WL.val (by kernel_rfl) (.bool false) (by go_simp) ?_
  simp only [Act.put, List.setIfInBounds_toArray, List.set_cons_zero, List.set_cons_succ]
  refine WL.nil ?_
  refine hK8 _ _ ?_
  refine wp_cond_false rfl ?_
  refine wp_skip ?_
  refine hK7 _ _ ?_
  refine wp_seq_k fun K9 hK9 => ?_
  refine wp_seq_k fun K10 hK10 => ?_
  clear q0
  have hS0 : Keep (w3.drew.cell? ⟨g, 2, none⟩ = some (.int .i64 (-1))) := ⟨HJ3.out.drew.c 2 rfl⟩
  refine wp_region_held_drew (S := fun wx => wx.cell? ⟨g, 2, none⟩ = some (.int .i64 (-1))) (by kernel_rfl) (hS0.out) (fun hHeld => ?_)
  refine wpAnyH_take (i := 0) (oi := ⟨some 29, Op.move (Operand.tmp 0), 22, _, _, none⟩) (v := .pointer (some ⟨g, 0, none⟩)) rfl (by kernel_rfl) (by kernel_rfl) (by kernel_rfl) (fun _ _ _ h => h) (Or.inl ⟨by rfl, fun w hS => by go_simp⟩) hHeld ?_
  simp only [Act.put, List.setIfInBounds_toArray, List.set_cons_zero, List.set_cons_succ]
  refine wpAnyH_take (i := 1) (oi := ⟨some 30, Op.nilCheck (Operand.tmp 29), 0, _, _, none⟩) (v := .pointer (some ⟨g, 0, none⟩)) rfl (by kernel_rfl) (by kernel_rfl) (by kernel_rfl) (fun _ _ _ h => h) (Or.inl ⟨by rfl, fun w hS => by go_simp⟩) hHeld ?_
  simp only [Act.put, List.setIfInBounds_toArray, List.set_cons_zero, List.set_cons_succ]
  refine wpAnyH_take (i := 2) (oi := ⟨some 31, Op.fieldAddr 61 (Operand.tmp 30) 2, 0, _, _, none⟩) (v := .pointer (some ⟨g, 2, none⟩)) rfl (by kernel_rfl) (by kernel_rfl) (by kernel_rfl) (fun _ _ _ h => h) (Or.inl ⟨by rfl, fun w hS => by go_simp⟩) hHeld ?_
  simp only [Act.put, List.setIfInBounds_toArray, List.set_cons_zero, List.set_cons_succ]
  refine wpAnyH_take (i := 3) (oi := ⟨some 32, Op.load 3 (Operand.tmp 31), 3, _, _, none⟩) (v := .int .i64 (-1)) rfl (by kernel_rfl) (by kernel_rfl) (by kernel_rfl) (fun _ _ _ h => h) (Or.inl ⟨by rfl, fun w hS => by go_simp⟩) hHeld ?_
  simp only [Act.put, List.setIfInBounds_toArray, List.set_cons_zero, List.set_cons_succ]
  refine wpAnyH_take (i := 4) (oi := ⟨some 33, Op.binOp BinOp.neq 3 (Operand.tmp 32) (Operand.const (Value.int IntKind.i64 (-1))) 3, 4, _, _, none⟩) (v := .bool false) rfl (by kernel_rfl) (by kernel_rfl) (by kernel_rfl) (fun _ _ _ h => h) (Or.inl ⟨by rfl, fun w hS => by go_simp⟩) hHeld ?_
  simp only [Act.put, List.setIfInBounds_toArray, List.set_cons_zero, List.set_cons_succ]
  refine wpAnyH_take (i := 5) (oi := ⟨some 34, Op.move (Operand.tmp 33), 4, _, _, none⟩) (v := .bool false) rfl (by kernel_rfl) (by kernel_rfl) (by kernel_rfl) (fun _ _ _ h => h) (Or.inl ⟨by rfl, fun w hS => by go_simp⟩) hHeld ?_
  simp only [Act.put, List.setIfInBounds_toArray, List.set_cons_zero, List.set_cons_succ]
  refine wpAnyH_take (i := 6) (oi := ⟨some 35, Op.fieldAddr 79 (Operand.tmp 5) 0, 0, _, _, some (5, true)⟩) (v := undef) rfl (by kernel_rfl) (by kernel_rfl) (by kernel_rfl) (fun _ _ _ h => h) (Or.inr ⟨by rfl, rfl⟩) hHeld ?_
  simp only [Act.put, List.setIfInBounds_toArray, List.set_cons_zero, List.set_cons_succ]
  refine wpAnyH_take (i := 7) (oi := ⟨some 36, Op.load 3 (Operand.tmp 35), 3, _, _, some (5, true)⟩) (v := undef) rfl (by kernel_rfl) (by kernel_rfl) (by kernel_rfl) (fun _ _ _ h => h) (Or.inr ⟨by rfl, rfl⟩) hHeld ?_
  simp only [Act.put, List.setIfInBounds_toArray, List.set_cons_zero, List.set_cons_succ]
  refine wpAnyH_take (i := 8) (oi := ⟨some 37, Op.move (Operand.tmp 0), 22, _, _, some (5, true)⟩) (v := undef) rfl (by kernel_rfl) (by kernel_rfl) (by kernel_rfl) (fun _ _ _ h => h) (Or.inr ⟨by rfl, rfl⟩) hHeld ?_
  simp only [Act.put, List.setIfInBounds_toArray, List.set_cons_zero, List.set_cons_succ]
  refine wpAnyH_take (i := 9) (oi := ⟨some 38, Op.nilCheck (Operand.tmp 37), 0, _, _, some (5, true)⟩) (v := undef) rfl (by kernel_rfl) (by kernel_rfl) (by kernel_rfl) (fun _ _ _ h => h) (Or.inr ⟨by rfl, rfl⟩) hHeld ?_
  simp only [Act.put, List.setIfInBounds_toArray, List.set_cons_zero, List.set_cons_succ]
  refine wpAnyH_take (i := 10) (oi := ⟨some 39, Op.fieldAddr 61 (Operand.tmp 38) 2, 0, _, _, some (5, true)⟩) (v := undef) rfl (by kernel_rfl) (by kernel_rfl) (by kernel_rfl) (fun _ _ _ h => h) (Or.inr ⟨by rfl, rfl⟩) hHeld ?_
  simp only [Act.put, List.setIfInBounds_toArray, List.set_cons_zero, List.set_cons_succ]
  refine wpAnyH_take (i := 11) (oi := ⟨some 40, Op.load 3 (Operand.tmp 39), 3, _, _, some (5, true)⟩) (v := undef) rfl (by kernel_rfl) (by kernel_rfl) (by kernel_rfl) (fun _ _ _ h => h) (Or.inr ⟨by rfl, rfl⟩) hHeld ?_
  simp only [Act.put, List.setIfInBounds_toArray, List.set_cons_zero, List.set_cons_succ]
  refine wpAnyH_take (i := 12) (oi := ⟨some 41, Op.binOp BinOp.neq 3 (Operand.tmp 36) (Operand.tmp 40) 3, 4, _, _, some (5, true)⟩) (v := undef) rfl (by kernel_rfl) (by kernel_rfl) (by kernel_rfl) (fun _ _ _ h => h) (Or.inr ⟨by rfl, rfl⟩) hHeld ?_
  simp only [Act.put, List.setIfInBounds_toArray, List.set_cons_zero, List.set_cons_succ]
  refine wpAnyH_take (i := 13) (oi := ⟨some 42, Op.pick (Operand.tmp 34) (Operand.tmp 41) (Operand.const (Value.bool false)), 4, _, _, none⟩) (v := .bool false) rfl (by kernel_rfl) (by kernel_rfl) (by kernel_rfl) (fun _ _ _ h => h) (Or.inl ⟨by rfl, fun w hS => by go_simp⟩) hHeld ?_
  simp only [Act.put, List.setIfInBounds_toArray, List.set_cons_zero, List.set_cons_succ]
  refine wpAnyH_done (by kernel_rfl) ?_ _
  refine hK10 _ _ ?_
  refine wp_cond_false rfl ?_
  refine wp_skip ?_
  refine hK9 _ _ ?_
  refine wp_seq_k fun K11 hK11 => ?_
  have HJ4 : Keep (Blk w3.drew g 61 (jA d (.slice pa pl.length pc) (-1) sz la false)) := ⟨HJ3.out.drew⟩
  have HP4 : Keep (Blk w3.drew q 79 #[.int .i64 (0), .int .i64 (0)]) := ⟨HP3.out.drew⟩
  have HT4 : Keep (Tab w3.drew) := ⟨HT3.out.below (Below.refl w3.heap.size w3).drew (Nat.lt_of_le_of_lt (Nat.zero_le _) HJ3.out.lt)⟩
  have B4 : Keep (Below w.heap.size w w3.drew) := ⟨B3.out.drew⟩
  clear hS0 HJ3 HP3 HT3
  generalize w3.drew = w4 at *
  have HS4 : Keep (∀ wx, Below w4.heap.size w4 wx → wx.cell? ⟨g, 0, none⟩ = some (ptr d) ∧ wx.cell? ⟨q, 0, none⟩ = some (.int .i64 0)) := ⟨fun wx hx => ⟨(HJ4.out.below hx HJ4.out.lt).c 0 rfl, (HP4.out.below hx HP4.out.lt).c 0 rfl⟩⟩
  have D4 : Keep (Below w4.heap.size w4 w4.drew) := ⟨(Below.refl _ _).drew⟩
  refine wp_region_held_drew (S := fun wx => wx.cell? ⟨g, 0, none⟩ = some (ptr d) ∧ wx.cell? ⟨q, 0, none⟩ = some (.int .i64 0)) (by kernel_rfl) (HS4.out _ D4.out) (fun hHeld => ?_)
  refine wpAnyH_take (i := 0) (oi := ⟨some 58, Op.move (Operand.tmp 0), 22, _, _, none⟩) (v := .pointer (some ⟨g, 0, none⟩)) rfl (by kernel_rfl) (by kernel_rfl) (by kernel_rfl) (fun _ _ _ h => h) (Or.inl ⟨by rfl, fun w hS => by obtain ⟨hS1, hS2⟩ := hS; go_simp⟩) hHeld ?_
  simp only [Act.put, List.setIfInBounds_toArray, List.set_cons_zero, List.set_cons_succ]
  refine wpAnyH_take (i := 1) (oi := ⟨some 59, Op.move (Operand.tmp 0), 22, _, _, none⟩) (v := .pointer (some ⟨g, 0, none⟩)) rfl (by kernel_rfl) (by kernel_rfl) (by kernel_rfl) (fun _ _ _ h => h) (Or.inl ⟨by rfl, fun w hS => by obtain ⟨hS1, hS2⟩ := hS; go_simp⟩) hHeld ?_
  simp only [Act.put, List.setIfInBounds_toArray, List.set_cons_zero, List.set_cons_succ]
  refine wpAnyH_take (i := 2) (oi := ⟨some 60, Op.nilCheck (Operand.tmp 59), 0, _, _, none⟩) (v := .pointer (some ⟨g, 0, none⟩)) rfl (by kernel_rfl) (by kernel_rfl) (by kernel_rfl) (fun _ _ _ h => h) (Or.inl ⟨by rfl, fun w hS => by obtain ⟨hS1, hS2⟩ := hS; go_simp⟩) hHeld ?_
  simp only [Act.put, List.setIfInBounds_toArray, List.set_cons_zero, List.set_cons_succ]
  refine wpAnyH_take (i := 3) (oi := ⟨some 61, Op.fieldAddr 61 (Operand.tmp 60) 0, 0, _, _, none⟩) (v := .pointer (some ⟨g, 0, none⟩)) rfl (by kernel_rfl) (by kernel_rfl) (by kernel_rfl) (fun _ _ _ h => h) (Or.inl ⟨by rfl, fun w hS => by obtain ⟨hS1, hS2⟩ := hS; go_simp⟩) hHeld ?_
  simp only [Act.put, List.setIfInBounds_toArray, List.set_cons_zero, List.set_cons_succ]
  refine wpAnyH_take (i := 4) (oi := ⟨some 62, Op.load 30 (Operand.tmp 61), 30, _, _, none⟩) (v := .pointer (some ⟨d, 0, none⟩)) rfl (by kernel_rfl) (by kernel_rfl) (by kernel_rfl) (fun _ _ _ h => h) (Or.inl ⟨by rfl, fun w hS => by obtain ⟨hS1, hS2⟩ := hS; go_simp⟩) hHeld ?_
  simp only [Act.put, List.setIfInBounds_toArray, List.set_cons_zero, List.set_cons_succ]
  refine wpAnyH_take (i := 5) (oi := ⟨some 63, Op.fieldAddr 79 (Operand.tmp 5) 0, 0, _, _, none⟩) (v := .pointer (some ⟨q, 0, none⟩)) rfl (by kernel_rfl) (by kernel_rfl) (by kernel_rfl) (fun _ _ _ h => h) (Or.inl ⟨by rfl, fun w hS => by obtain ⟨hS1, hS2⟩ := hS; go_simp⟩) hHeld ?_
  simp only [Act.put, List.setIfInBounds_toArray, List.set_cons_zero, List.set_cons_succ]
  refine wpAnyH_take (i := 6) (oi := ⟨some 64, Op.load 3 (Operand.tmp 63), 3, _, _, none⟩) (v := .int .i64 0) rfl (by kernel_rfl) (by kernel_rfl) (by kernel_rfl) (fun _ _ _ h => h) (Or.inl ⟨by rfl, fun w hS => by obtain ⟨hS1, hS2⟩ := hS; go_simp⟩) hHeld ?_
  simp only [Act.put, List.setIfInBounds_toArray, List.set_cons_zero, List.set_cons_succ]
  refine wpAnyH_take (i := 8) (oi := ⟨some 66, Op.move (Operand.tmp 1), 37, _, _, none⟩) (v := .slice ba l.length bc) rfl (by kernel_rfl) (by kernel_rfl) (by kernel_rfl) (fun _ _ _ h => h) (Or.inl ⟨by rfl, fun w hS => by obtain ⟨hS1, hS2⟩ := hS; go_simp⟩) hHeld ?_
  simp only [Act.put, List.setIfInBounds_toArray, List.set_cons_zero, List.set_cons_succ]
  refine wpAnyH_ready (rs := [7]) (by kernel_rfl) (by simp) ?_
  refine AllReadyH.cons (o := ⟨some 65, Op.call { callee := Callee.value (Operand.func 31), args := #[Operand.tmp 64], argTypes := #[3] }, 9, _, _, none⟩) rfl (fun K hK => ?_) AllReadyH.nil
  rw [if_pos (by rfl)]
  refine wp_callF 31 _ _ rfl Tryd.in31 #[.int .i64 ((0 : Nat) : Int)] (by simp [Act.eval]) (fun vz wz => vz = .string (nmS 0) ∧ Below w4.heap.size w4 wz) ?_ ?_
  · refine (name_any 0 (by omega) w4.drew (HT4.out.below D4.out (Nat.lt_of_le_of_lt (Nat.zero_le _) HJ4.out.lt))).mono ?_
    rintro e wz ⟨rfl, h⟩
    exact ⟨_, rfl, rfl, D4.out.trans (h.mono D4.out.size)⟩
  rintro vz w5 ⟨rfl, h5⟩
  have B5 := Keep.mk h5
  clear h5
  obtain ⟨nn, hnn⟩ : ∃ s, Keep (s = nmS 0) := ⟨_, ⟨rfl⟩⟩
  rw [← hnn.out]
  refine hK _ _ (HS4.out _ B5.out) fun hH5 => ?_
  clear hK
  simp only [Act.put, List.setIfInBounds_toArray, List.set_cons_zero, List.set_cons_succ]
  refine wpAnyH_ready (rs := [9]) (by kernel_rfl) (by simp) ?_
  refine AllReadyH.cons (o := ⟨some 67, Op.call { callee := Callee.value (Operand.func 46), args := #[Operand.tmp 66], argTypes := #[37] }, 37, _, _, none⟩) rfl (fun K hK => ?_) AllReadyH.nil
  rw [if_pos (by rfl)]
  refine wp_callF 46 _ _ rfl Tryd.in46 #[.slice ba l.length bc] (by simp [Act.eval]) (fun vz wz => Own wz vz (hl 16 (hdF l) ++ l) ∧ (∀ k, vz.ownBlock = some k → w5.heap.size ≤ k) ∧ Below w5.heap.size w5 wz) ?_ ?_
  · refine (frame_any _ l w5 (HR.out.below (B4.out.trans (B5.out.mono B4.out.size))) (by have := HL.out; omega)).mono ?_
    rintro e wz ⟨v6, rfl, h1, h2, h3⟩
    exact ⟨_, rfl, h1, h2, h3⟩
  rintro vz w6 ⟨h1, h2, h3⟩
  have HO6 := Keep.mk h1
  have N6 := Keep.mk h2
  have B6 : Keep (Below w4.heap.size w4 w6) := ⟨B5.out.trans (h3.mono B5.out.size)⟩
  have L6 : Keep (w4.heap.size ≤ w5.heap.size ∧ w.heap.size ≤ w4.heap.size) := ⟨B5.out.size, B4.out.size⟩
  clear h1 h2 h3
  obtain ⟨va, vn, vc, e6⟩ := HO6.out.sl
  subst e6
  refine hK _ _ (HS4.out _ B6.out) fun hH6 => ?_
  clear hK
  simp only [Act.put, List.setIfInBounds_toArray, List.set_cons_zero, List.set_cons_succ]
  refine wpAnyH_ready (rs := [10]) (by kernel_rfl) (by simp) ?_
  refine AllReadyH.cons (o := ⟨some 68, Op.call { callee := Callee.value (Operand.func 45), args := #[Operand.tmp 62, Operand.tmp 65, Operand.tmp 67], argTypes := #[30, 9, 37] }, 24, _, _, none⟩) rfl (fun K hK => ?_) AllReadyH.nil
  rw [if_pos (by rfl)]
  have BW6 : Keep (Below w.heap.size w w6) := ⟨B4.out.trans (B6.out.mono B4.out.size)⟩
  refine wp_callF 45 _ _ rfl Tryd.in45 #[ptr d, .string nn, .slice va vn vc] (by simp [Act.eval]) (fun vz wz => vz = .int .i64 0 ∧ ∃ vf' cs', DskAt wz p vf' cs' (D.appNew i nn (hl 16 (hdF l) ++ l)) ∧ (Grown w6 wz fun k => k = p) ∧ ∀ k, DskS p vf' cs' k → DskS p vf cs k ∨ w6.heap.size ≤ k) ?_ ?_
  · refine (append_new d p i nn (.slice va vn vc) vf (hl 16 (hdF l) ++ l) cs D w6 (HDk.out.below BW6.out HDk.out.lt) (HD.out.below BW6.out) HO.out (by rw [hnn.out]; exact nm0_rgt) (by rw [hnn.out]; exact HF.out) HC.out (by have := HU.out; simp [hl_len]; omega) HA.out HFu.out HO6.out.row (fun k hk e => by have := N6.out k hk; have := L6.out; have := HD.out.blk.lt; omega)).mono ?_
    rintro e wz ⟨rfl, vf1, cs1, h1, h2, h3⟩
    exact ⟨_, rfl, rfl, vf1, cs1, h1, h2, h3⟩
  rintro vz w7 ⟨rfl, vf', cs', h1, h2, h3⟩
  have HD7 := Keep.mk h1
  have G7 := Keep.mk h2
  have N7 : Keep (∀ k, DskS p vf' cs' k → DskS p vf cs k ∨ w.heap.size ≤ k) := ⟨fun k hk => (h3 k hk).imp id fun h => by have := BW6.out.size; omega⟩
  clear h1 h2 h3
  have HJ7 : Keep (Blk w7 g 61 (jA d (.slice pa pl.length pc) (-1) sz la false)) := ⟨G7.out.blk (HJ4.out.below B6.out HJ4.out.lt) (fun e => by subst e; have := HJ.out.typ.one HD.out.blk.typ; revert this; decide)⟩
  have HP7 : Keep (Blk w7 q 79 #[.int .i64 (0), .int .i64 (0)]) := ⟨G7.out.blk (HP4.out.below B6.out HP4.out.lt) (fun e => by have := hqw.out; have := HD.out.blk.lt; omega)⟩
  have HO7 : Keep (OwnP w7 (.slice pa pl.length pc) pl) := ⟨(HPl.out.grown (Grown.below (S := fun _ => False) BW6.out) fun _ _ h => h).grown G7.out fun k hk e => HPp.out k hk e⟩
  have GW7 : Keep (Grown w w7 fun k => k = p) := ⟨(Grown.below BW6.out).trans G7.out⟩
  refine hK _ _ (⟨HJ7.out.c 0 rfl, HP7.out.c 0 rfl⟩) fun hH7 => ?_
  clear hK
  simp only [Act.put, List.setIfInBounds_toArray, List.set_cons_zero, List.set_cons_succ]
  refine wpAnyH_ready (rs := [11]) (by kernel_rfl) (by simp) ?_
  refine AllReadyH.cons (o := ⟨some 69, Op.call { callee := Callee.value (Operand.func 29), args := #[Operand.tmp 58, Operand.tmp 68], argTypes := #[22, 24] }, 24, _, _, none⟩) rfl (fun K hK => ?_) AllReadyH.nil
  rw [if_pos (by rfl)]
  refine wp_callF 29 _ _ rfl Tryd.in29 #[ptr g, .int .i64 0] (by simp [Act.eval]) (fun vz wz => vz = .int .i64 0 ∧ w7 = wz) ?_ ?_
  · refine (told_ok g 0 (by omega) w7).mono ?_
    rintro e wz ⟨rfl, h⟩
    exact ⟨_, rfl, rfl, h.symm⟩
  rintro vz wy ⟨rfl, hy⟩
  subst hy
  refine hK _ _ (⟨HJ7.out.c 0 rfl, HP7.out.c 0 rfl⟩) fun hH8 => ?_
  clear hK
  simp only [Act.put, List.setIfInBounds_toArray, List.set_cons_zero, List.set_cons_succ]
  refine wpAnyH_take (i := 12) (oi := ⟨some 7, Op.assign (Operand.tmp 69), 24, _, _, none⟩) (v := .int .i64 0) rfl (by kernel_rfl) (by kernel_rfl) (by kernel_rfl) (fun _ _ _ h => h) (Or.inl ⟨by rfl, fun w hS => by obtain ⟨hS1, hS2⟩ := hS; go_simp⟩) hH8 ?_
  simp only [Act.put, List.setIfInBounds_toArray, List.set_cons_zero, List.set_cons_succ]
  refine wpAnyH_done (by kernel_rfl) ?_ _
  refine hK11 _ _ ?_
  refine wp_seq_k fun K12 hK12 => ?_
  refine wp_seq_k fun K13 hK13 => ?_
  refine wp_region_list (WL.out ?_)
  refine WL.val (by kernel_rfl) (.int .i64 0) (by go_simp) ?_
  simp only [Act.put, List.setIfInBounds_toArray, List.set_cons_zero, List.set_cons_succ]
  refine WL.val (by kernel_rfl) (.bool false) (by go_simp) ?_
  simp only [Act.put, List.setIfInBounds_toArray, List.set_cons_zero, List.set_cons_succ]
  refine WL.nil ?_
  refine hK13 _ _ ?_
  refine wp_cond_false rfl ?_
  refine wp_skip ?_
  refine hK12 _ _ ?_
  refine wp_seq_k fun K14 hK14 => ?_
  refine wp_seq_k fun K15 hK15 => ?_
  refine wp_region_list (WL.out ?_)
  refine WL.val (by kernel_rfl) (.int .i64 0) (by go_simp) ?_
  simp only [Act.put, List.setIfInBounds_toArray, List.set_cons_zero, List.set_cons_succ]
  refine WL.val (by kernel_rfl) (.bool false) (by go_simp) ?_
  simp only [Act.put, List.setIfInBounds_toArray, List.set_cons_zero, List.set_cons_succ]
  refine WL.nil ?_
  refine hK15 _ _ ?_
  refine wp_cond_false rfl ?_
  refine wp_skip ?_
  refine hK14 _ _ ?_
  refine wp_seq_k fun K16 hK16 => ?_
  have HJ8 : Keep (Blk w7.drew g 61 (jA d (.slice pa pl.length pc) (-1) sz la false)) := ⟨HJ7.out.drew⟩
  have HP8 : Keep (Blk w7.drew q 79 #[.int .i64 (0), .int .i64 (0)]) := ⟨HP7.out.drew⟩
  have HO8 : Keep (OwnP w7.drew (.slice pa pl.length pc) pl) := ⟨HO7.out⟩
  have HD8 : Keep (DskAt w7.drew p vf' cs' (D.appNew i nn (hl 16 (hdF l) ++ l))) := ⟨HD7.out.grown (Grown.refl w7 (fun _ => False)).drew fun _ _ h => h⟩
  have GW8 : Keep (Grown w w7.drew fun k => k = p) := ⟨GW7.out.drew⟩
  clear HJ7 HP7 HO7 HD7 GW7 HJ4 HP4 HS4 HT4 G7 B6 B5 BW6 HO6 N6 L6 D4
  refine wp_region_held_drew (S := fun wx => Blk wx q 79 #[.int .i64 (0), .int .i64 (0)]) (by kernel_rfl) (HP8.out) (fun hHeld => ?_)
  generalize w7.drew = w8 at *
  refine wpAnyH_take (i := 0) (oi := ⟨some 75, Op.move (Operand.tmp 0), 22, _, _, none⟩) (v := .pointer (some ⟨g, 0, none⟩)) rfl (by kernel_rfl) (by kernel_rfl) (by kernel_rfl) (fun _ _ _ h => h) (Or.inl ⟨by rfl, fun w hS => by go_simp⟩) hHeld ?_
  simp only [Act.put, List.setIfInBounds_toArray, List.set_cons_zero, List.set_cons_succ]
  refine wpAnyH_take (i := 1) (oi := ⟨some 76, Op.move (Operand.tmp 0), 22, _, _, none⟩) (v := .pointer (some ⟨g, 0, none⟩)) rfl (by kernel_rfl) (by kernel_rfl) (by kernel_rfl) (fun _ _ _ h => h) (Or.inl ⟨by rfl, fun w hS => by go_simp⟩) hHeld ?_
  simp only [Act.put, List.setIfInBounds_toArray, List.set_cons_zero, List.set_cons_succ]
  refine wpAnyH_take (i := 2) (oi := ⟨some 77, Op.nilCheck (Operand.tmp 76), 0, _, _, none⟩) (v := .pointer (some ⟨g, 0, none⟩)) rfl (by kernel_rfl) (by kernel_rfl) (by kernel_rfl) (fun _ _ _ h => h) (Or.inl ⟨by rfl, fun w hS => by go_simp⟩) hHeld ?_
  simp only [Act.put, List.setIfInBounds_toArray, List.set_cons_zero, List.set_cons_succ]
  refine wpAnyH_take (i := 3) (oi := ⟨some 78, Op.fieldAddr 61 (Operand.tmp 77) 1, 0, _, _, none⟩) (v := .pointer (some ⟨g, 1, none⟩)) rfl (by kernel_rfl) (by kernel_rfl) (by kernel_rfl) (fun _ _ _ h => h) (Or.inl ⟨by rfl, fun w hS => by go_simp⟩) hHeld ?_
  simp only [Act.put, List.setIfInBounds_toArray, List.set_cons_zero, List.set_cons_succ]
  refine wpAnyH_take (i := 5) (oi := ⟨some 80, Op.load 79 (Operand.tmp 5), 79, _, _, none⟩) (v := .agg #[.int .i64 (0), .int .i64 (0)]) rfl (by kernel_rfl) (by kernel_rfl) (by kernel_rfl) (fun _ _ _ h => h) (yieldsIf_load_mid (by rfl) 79 (.tmp 5) rfl q 0 rfl (#[.int .i64 (0), .int .i64 (0)] : Array Value).toList _ (fun w hS => blk_range hS) Tryd.underlying79 rfl (by kernel_rfl)) hHeld ?_
  simp only [Act.put, List.setIfInBounds_toArray, List.set_cons_zero, List.set_cons_succ]
  refine wpAnyH_ready (rs := [4, 6]) (by kernel_rfl) (by simp) ?_
  refine AllReadyH.cons (o := ⟨some 79, Op.load 59 (Operand.tmp 78), 59, _, _, none⟩) rfl (fun K hK => ?_) (AllReadyH.cons (o := ⟨some 81, Op.buildSlice 59 1 #[(0, Operand.tmp 80)], 59, _, _, none⟩) rfl (fun K hK => ?_) AllReadyH.nil)
  all_goals rw [if_pos (by rfl)]
  · have cl : w8.cell? ⟨g, 1, none⟩ = some (.slice pa pl.length pc) := HJ8.out.c 1 rfl
    refine wp_val (.slice pa pl.length pc) (by go_simp) ?_
    clear cl
    refine hK _ _ (HP8.out) fun hL8 => ?_
    clear hK
    simp only [Act.put, List.setIfInBounds_toArray, List.set_cons_zero, List.set_cons_succ]
    refine wpAnyH_ready (rs := [6]) (by kernel_rfl) (by simp) ?_
    refine AllReadyH.cons (o := ⟨some 81, Op.buildSlice 59 1 #[(0, Operand.tmp 80)], 59, _, _, none⟩) rfl (fun K hK => ?_) AllReadyH.nil
    rw [if_pos (by rfl)]
    refine wp_bs 59 1 _ rfl #[(0, .agg #[.int .i64 (0), .int .i64 (0)])] (by simp [Act.eval]) _ _ (bsP 0 0 w8) ?_
    have hbx := below_new w8 (.cells #[.int .i64 (0), .int .i64 (0)] 79)
    have HN9 := Keep.mk (Blk.new w8 79 #[.int .i64 (0), .int .i64 (0)])
    have HJ9 := Keep.mk (HJ8.out.below hbx HJ8.out.lt)
    have HP9 := Keep.mk (HP8.out.below hbx HP8.out.lt)
    have HO9 := Keep.mk (HO8.out.grown (Grown.below (S := fun _ => False) hbx) fun _ _ h => h)
    have HD9 := Keep.mk (HD8.out.below hbx)
    have GW9 : Keep (Grown w (w8.alloc (.cells #[.int .i64 (0), .int .i64 (0)] 79)) fun k => k = p) := ⟨GW8.out.trans (Grown.below hbx)⟩
    clear hbx
    generalize w8.alloc (.cells #[.int .i64 (0), .int .i64 (0)] 79) = w9 at *
    obtain ⟨g9, hg9⟩ : ∃ p, Keep (p = w8.heap.size) := ⟨_, ⟨rfl⟩⟩
    rw [← hg9.out] at HN9 ⊢
    refine hK _ _ (HP9.out) fun hB9 => ?_
    clear hK
    simp only [Act.put, List.setIfInBounds_toArray, List.set_cons_zero, List.set_cons_succ]
    refine wpAnyH_ready (rs := [7]) (by kernel_rfl) (by simp) ?_
    refine AllReadyH.cons (o := ⟨some 82, Op.call { callee := Callee.builtin Builtin.append, args := #[Operand.tmp 79, Operand.tmp 81], argTypes := #[59, 59] }, 59, _, _, none⟩) rfl (fun K hK => ?_) AllReadyH.nil
    rw [if_pos (by rfl)]
    refine wp_appP (.tmp 79) (.tmp 81) rfl (.slice pa pl.length pc) pl g9 1 (0, 0) rfl rfl HO9.out HN9.out (by have := HPn.out; omega) fun v10 w10 h1 h2 h3 => ?_
    have HO10 := Keep.mk h1
    have M10 : Keep (∀ k, v10.ownBlock = some k → (Value.slice pa pl.length pc).ownBlock = some k ∨ w.heap.size ≤ k) := ⟨fun k hk => by rcases h3 with e | ⟨j, e, hj⟩ <;> rw [hk] at e; exact .inl e.symm; right; have := Option.some.inj e; have := GW9.out.size; omega⟩
    have HJ10 : Keep (Blk w10 g 61 (jA d (.slice pa pl.length pc) (-1) sz la false)) := ⟨h2.blk HJ9.out fun e => HPg.out g e rfl⟩
    have HP10 : Keep (Blk w10 q 79 #[.int .i64 (0), .int .i64 (0)]) := ⟨h2.blk HP9.out fun e => by have := HPw.out q e; have := hqw.out; omega⟩
    have HD10 : Keep (DskAt w10 p vf' cs' (D.appNew i nn (hl 16 (hdF l) ++ l))) := ⟨HD9.out.grown h2 fun k hk e => by have ht := HO9.out.typ e; rcases hk with h | h | h <;> (have := h.one ht; revert this; decide)⟩
    have GW10 : Keep (Grown w w10 fun k => k = p ∨ k = g ∨ (Value.slice pa pl.length pc).ownBlock = some k) := ⟨(GW9.out.mono fun k _ e => .inl e).next h2 fun k _ e => .inr (.inr e)⟩
    clear h1 h2 h3
    obtain ⟨a10, c10, e10⟩ := HO10.out.sl
    subst e10
    obtain ⟨n10, hn10⟩ : ∃ q, Keep (q = (pl ++ [(0, 0)]).length) := ⟨_, ⟨rfl⟩⟩
    rw [← hn10.out] at HO10 M10 ⊢
    refine hK _ _ (HP10.out) fun hA10 => ?_
    clear hK
    simp only [Act.put, List.setIfInBounds_toArray, List.set_cons_zero, List.set_cons_succ]
    refine wpAnyH_take (i := 8) (oi := ⟨some 83, Op.nilCheck (Operand.tmp 75), 0, _, _, none⟩) (v := .pointer (some ⟨g, 0, none⟩)) rfl (by kernel_rfl) (by kernel_rfl) (by kernel_rfl) (fun _ _ _ h => h) (Or.inl ⟨by rfl, fun w hS => by go_simp⟩) hA10 ?_
    simp only [Act.put, List.setIfInBounds_toArray, List.set_cons_zero, List.set_cons_succ]
    refine wpAnyH_take (i := 9) (oi := ⟨some 84, Op.fieldAddr 61 (Operand.tmp 83) 1, 0, _, _, none⟩) (v := .pointer (some ⟨g, 1, none⟩)) rfl (by kernel_rfl) (by kernel_rfl) (by kernel_rfl) (fun _ _ _ h => h) (Or.inl ⟨by rfl, fun w hS => by go_simp⟩) hA10 ?_
    simp only [Act.put, List.setIfInBounds_toArray, List.set_cons_zero, List.set_cons_succ]
    refine wpAnyH_ready (rs := [10]) (by kernel_rfl) (by simp) ?_
    refine AllReadyH.cons (o := ⟨none, Op.store 59 (Operand.tmp 84) (Operand.tmp 82), 0, _, _, none⟩) rfl (fun K hK => ?_) AllReadyH.nil
    rw [if_pos (by rfl)]
    have f_o := HJ10.out.frozen 1
    have cl : w10.cell? ⟨g, 1, none⟩ = some (.slice pa pl.length pc) := HJ10.out.c 1 rfl
    refine wp_cellS (w10.setCell ⟨g, 1, none⟩ (.slice a10 n10 c10)) (by go_simp) ?_
    clear f_o cl
    have HJ11 : Keep (Blk (w10.setCell ⟨g, 1, none⟩ (.slice a10 n10 c10)) g 61 (jA d (.slice a10 n10 c10) (-1) sz la false)) := ⟨HJ10.out.set 1 (.slice a10 n10 c10)⟩
    have hgs : Grown w10 (w10.setCell ⟨g, 1, none⟩ (.slice a10 n10 c10)) fun k => k = g := Grown.setCell w10 g 1 _ fun _ => rfl
    have HP11 : Keep (Blk (w10.setCell ⟨g, 1, none⟩ (.slice a10 n10 c10)) q 79 #[.int .i64 (0), .int .i64 (0)]) := ⟨hgs.blk HP10.out fun e => by have := hqw.out; have := HJ.out.lt; omega⟩
    have HO11 : Keep (OwnP (w10.setCell ⟨g, 1, none⟩ (.slice a10 n10 c10)) (.slice a10 n10 c10) (pl ++ [(0, 0)])) := ⟨HO10.out.grown hgs fun k hk e => by subst e; rcases M10.out _ hk with h | h; exact HPg.out _ h rfl; have := HJ.out.lt; omega⟩
    have HD11 : Keep (DskAt (w10.setCell ⟨g, 1, none⟩ (.slice a10 n10 c10)) p vf' cs' (D.appNew i nn (hl 16 (hdF l) ++ l))) := ⟨HD10.out.grown hgs fun k hk e => by subst e; have hj := HJ10.out.typ; rcases hk with h | h | h <;> (have := h.one hj; revert this; decide)⟩
    have GW11 : Keep (Grown w (w10.setCell ⟨g, 1, none⟩ (.slice a10 n10 c10)) fun k => k = p ∨ k = g ∨ (Value.slice pa pl.length pc).ownBlock = some k) := ⟨GW10.out.next hgs fun k _ e => .inr (.inl e)⟩
    clear hgs HJ10 HP10 HO10 HD10 GW10
    generalize w10.setCell ⟨g, 1, none⟩ (.slice a10 n10 c10) = w11 at *
    refine hK _ _ (HP11.out) fun hS11 => ?_
    clear hK
    simp only [Act.put, List.setIfInBounds_toArray, List.set_cons_zero, List.set_cons_succ]
    refine wpAnyH_done (by kernel_rfl) ?_ _
    refine hK16 _ _ ?_
    refine wp_seq_k fun K17 hK17 => ?_
    have HP12 : Keep (Blk w11.drew q 79 #[.int .i64 (0), .int .i64 (0)]) := ⟨HP11.out.drew⟩
    have HJ12 : Keep (Blk w11.drew g 61 (jA d (.slice a10 n10 c10) (-1) sz la false)) := ⟨HJ11.out.drew⟩
    have hwl : IntKind.i64.wrap (16 + (l.length : Int)) = 16 + (l.length : Int) := by rw [IntKind.wrap_i64]; have := HL.out; omega
    have hw16 : IntKind.i64.wrap 16 = 16 := by rw [IntKind.wrap_i64]; rfl
    refine wp_region_held_drew (S := fun wx => Blk wx q 79 #[.int .i64 (0), .int .i64 (0)]) (by kernel_rfl) (HP12.out) (fun hHeld => ?_)
    refine wpAnyH_take (i := 0) (oi := ⟨some 85, Op.move (Operand.tmp 0), 22, _, _, none⟩) (v := .pointer (some ⟨g, 0, none⟩)) rfl (by kernel_rfl) (by kernel_rfl) (by kernel_rfl) (fun _ _ _ h => h) (Or.inl ⟨by rfl, fun w hS => by have q0 := hS.c 0 (by rfl : (#[.int .i64 (0), .int .i64 (0)] : Array Value)[0]? = some (.int .i64 0)); have q1 := hS.c 1 (by rfl : (#[.int .i64 (0), .int .i64 (0)] : Array Value)[1]? = some (.int .i64 0)); go_simp⟩) hHeld ?_
    simp only [Act.put, List.setIfInBounds_toArray, List.set_cons_zero, List.set_cons_succ]
    refine wpAnyH_take (i := 1) (oi := ⟨some 86, Op.move (Operand.tmp 0), 22, _, _, none⟩) (v := .pointer (some ⟨g, 0, none⟩)) rfl (by kernel_rfl) (by kernel_rfl) (by kernel_rfl) (fun _ _ _ h => h) (Or.inl ⟨by rfl, fun w hS => by have q0 := hS.c 0 (by rfl : (#[.int .i64 (0), .int .i64 (0)] : Array Value)[0]? = some (.int .i64 0)); have q1 := hS.c 1 (by rfl : (#[.int .i64 (0), .int .i64 (0)] : Array Value)[1]? = some (.int .i64 0)); go_simp⟩) hHeld ?_
    simp only [Act.put, List.setIfInBounds_toArray, List.set_cons_zero, List.set_cons_succ]
    refine wpAnyH_take (i := 2) (oi := ⟨some 87, Op.fieldAddr 79 (Operand.tmp 5) 0, 0, _, _, none⟩) (v := .pointer (some ⟨q, 0, none⟩)) rfl (by kernel_rfl) (by kernel_rfl) (by kernel_rfl) (fun _ _ _ h => h) (Or.inl ⟨by rfl, fun w hS => by have q0 := hS.c 0 (by rfl : (#[.int .i64 (0), .int .i64 (0)] : Array Value)[0]? = some (.int .i64 0)); have q1 := hS.c 1 (by rfl : (#[.int .i64 (0), .int .i64 (0)] : Array Value)[1]? = some (.int .i64 0)); go_simp⟩) hHeld ?_
    simp only [Act.put, List.setIfInBounds_toArray, List.set_cons_zero, List.set_cons_succ]
    refine wpAnyH_take (i := 3) (oi := ⟨some 88, Op.load 3 (Operand.tmp 87), 3, _, _, none⟩) (v := .int .i64 0) rfl (by kernel_rfl) (by kernel_rfl) (by kernel_rfl) (fun _ _ _ h => h) (Or.inl ⟨by rfl, fun w hS => by have q0 := hS.c 0 (by rfl : (#[.int .i64 (0), .int .i64 (0)] : Array Value)[0]? = some (.int .i64 0)); have q1 := hS.c 1 (by rfl : (#[.int .i64 (0), .int .i64 (0)] : Array Value)[1]? = some (.int .i64 0)); go_simp⟩) hHeld ?_
    simp only [Act.put, List.setIfInBounds_toArray, List.set_cons_zero, List.set_cons_succ]
    refine wpAnyH_take (i := 4) (oi := ⟨some 89, Op.fieldAddr 79 (Operand.tmp 5) 1, 0, _, _, none⟩) (v := .pointer (some ⟨q, 1, none⟩)) rfl (by kernel_rfl) (by kernel_rfl) (by kernel_rfl) (fun _ _ _ h => h) (Or.inl ⟨by rfl, fun w hS => by have q0 := hS.c 0 (by rfl : (#[.int .i64 (0), .int .i64 (0)] : Array Value)[0]? = some (.int .i64 0)); have q1 := hS.c 1 (by rfl : (#[.int .i64 (0), .int .i64 (0)] : Array Value)[1]? = some (.int .i64 0)); go_simp⟩) hHeld ?_
    simp only [Act.put, List.setIfInBounds_toArray, List.set_cons_zero, List.set_cons_succ]
    refine wpAnyH_take (i := 5) (oi := ⟨some 90, Op.load 3 (Operand.tmp 89), 3, _, _, none⟩) (v := .int .i64 0) rfl (by kernel_rfl) (by kernel_rfl) (by kernel_rfl) (fun _ _ _ h => h) (Or.inl ⟨by rfl, fun w hS => by have q0 := hS.c 0 (by rfl : (#[.int .i64 (0), .int .i64 (0)] : Array Value)[0]? = some (.int .i64 0)); have q1 := hS.c 1 (by rfl : (#[.int .i64 (0), .int .i64 (0)] : Array Value)[1]? = some (.int .i64 0)); go_simp⟩) hHeld ?_
    simp only [Act.put, List.setIfInBounds_toArray, List.set_cons_zero, List.set_cons_succ]
    refine wpAnyH_take (i := 6) (oi := ⟨some 91, Op.binOp BinOp.add 3 (Operand.tmp 90) (Operand.const (Value.int IntKind.i64 16)) 3, 3, _, _, none⟩) (v := .int .i64 16) rfl (by kernel_rfl) (by kernel_rfl) (by kernel_rfl) (fun _ _ _ h => h) (Or.inl ⟨by rfl, fun w hS => by have q0 := hS.c 0 (by rfl : (#[.int .i64 (0), .int .i64 (0)] : Array Value)[0]? = some (.int .i64 0)); have q1 := hS.c 1 (by rfl : (#[.int .i64 (0), .int .i64 (0)] : Array Value)[1]? = some (.int .i64 0)); go_simp⟩) hHeld ?_
    simp only [Act.put, List.setIfInBounds_toArray, List.set_cons_zero, List.set_cons_succ]
    refine wpAnyH_take (i := 7) (oi := ⟨some 92, Op.move (Operand.tmp 1), 37, _, _, none⟩) (v := .slice ba l.length bc) rfl (by kernel_rfl) (by kernel_rfl) (by kernel_rfl) (fun _ _ _ h => h) (Or.inl ⟨by rfl, fun w hS => by have q0 := hS.c 0 (by rfl : (#[.int .i64 (0), .int .i64 (0)] : Array Value)[0]? = some (.int .i64 0)); have q1 := hS.c 1 (by rfl : (#[.int .i64 (0), .int .i64 (0)] : Array Value)[1]? = some (.int .i64 0)); go_simp⟩) hHeld ?_
    simp only [Act.put, List.setIfInBounds_toArray, List.set_cons_zero, List.set_cons_succ]
    refine wpAnyH_take (i := 8) (oi := ⟨some 93, Op.call { callee := Callee.builtin Builtin.len, args := #[Operand.tmp 92], argTypes := #[37] }, 3, _, _, none⟩) (v := .int .i64 (l.length : Int)) rfl (by kernel_rfl) (by kernel_rfl) (by kernel_rfl) (fun _ _ _ h => h) (Or.inl ⟨by rfl, fun w hS => by have q0 := hS.c 0 (by rfl : (#[.int .i64 (0), .int .i64 (0)] : Array Value)[0]? = some (.int .i64 0)); have q1 := hS.c 1 (by rfl : (#[.int .i64 (0), .int .i64 (0)] : Array Value)[1]? = some (.int .i64 0)); go_simp⟩) hHeld ?_
    simp only [Act.put, List.setIfInBounds_toArray, List.set_cons_zero, List.set_cons_succ]
    refine wpAnyH_take (i := 9) (oi := ⟨some 94, Op.binOp BinOp.add 3 (Operand.tmp 91) (Operand.tmp 93) 3, 3, _, _, none⟩) (v := .int .i64 (16 + (l.length : Int))) rfl (by kernel_rfl) (by kernel_rfl) (by kernel_rfl) (fun _ _ _ h => h) (Or.inl ⟨by rfl, fun w hS => by have q0 := hS.c 0 (by rfl : (#[.int .i64 (0), .int .i64 (0)] : Array Value)[0]? = some (.int .i64 0)); have q1 := hS.c 1 (by rfl : (#[.int .i64 (0), .int .i64 (0)] : Array Value)[1]? = some (.int .i64 0)); go_simp⟩) hHeld ?_
    simp only [Act.put, List.setIfInBounds_toArray, List.set_cons_zero, List.set_cons_succ]
    refine wpAnyH_take (i := 10) (oi := ⟨some 95, Op.nilCheck (Operand.tmp 85), 0, _, _, none⟩) (v := .pointer (some ⟨g, 0, none⟩)) rfl (by kernel_rfl) (by kernel_rfl) (by kernel_rfl) (fun _ _ _ h => h) (Or.inl ⟨by rfl, fun w hS => by have q0 := hS.c 0 (by rfl : (#[.int .i64 (0), .int .i64 (0)] : Array Value)[0]? = some (.int .i64 0)); have q1 := hS.c 1 (by rfl : (#[.int .i64 (0), .int .i64 (0)] : Array Value)[1]? = some (.int .i64 0)); go_simp⟩) hHeld ?_
    simp only [Act.put, List.setIfInBounds_toArray, List.set_cons_zero, List.set_cons_succ]
    refine wpAnyH_take (i := 11) (oi := ⟨some 96, Op.fieldAddr 61 (Operand.tmp 95) 2, 0, _, _, none⟩) (v := .pointer (some ⟨g, 2, none⟩)) rfl (by kernel_rfl) (by kernel_rfl) (by kernel_rfl) (fun _ _ _ h => h) (Or.inl ⟨by rfl, fun w hS => by have q0 := hS.c 0 (by rfl : (#[.int .i64 (0), .int .i64 (0)] : Array Value)[0]? = some (.int .i64 0)); have q1 := hS.c 1 (by rfl : (#[.int .i64 (0), .int .i64 (0)] : Array Value)[1]? = some (.int .i64 0)); go_simp⟩) hHeld ?_
    simp only [Act.put, List.setIfInBounds_toArray, List.set_cons_zero, List.set_cons_succ]
    refine wpAnyH_ready (rs := [12]) (by kernel_rfl) (by simp) ?_
    refine AllReadyH.cons (o := ⟨none, Op.store 3 (Operand.tmp 96) (Operand.tmp 88), 0, _, _, none⟩) rfl (fun K hK => ?_) AllReadyH.nil
    rw [if_pos (by rfl)]
    have f_o := HJ12.out.frozen 2
    have cl : w11.drew.cell? ⟨g, 2, none⟩ = some (.int .i64 (-1)) := HJ12.out.c 2 rfl
    refine wp_cellS (w11.drew.setCell ⟨g, 2, none⟩ (.int .i64 0)) (by go_simp) ?_
    clear f_o cl
    have HJ13 : Keep (Blk (w11.drew.setCell ⟨g, 2, none⟩ (.int .i64 0)) g 61 (jA d (.slice a10 n10 c10) 0 sz la false)) := ⟨HJ12.out.set 2 _⟩
    have HP13 : Keep (Blk (w11.drew.setCell ⟨g, 2, none⟩ (.int .i64 0)) q 79 #[.int .i64 (0), .int .i64 (0)]) := ⟨HP12.out.set_ne (fun e => by have := hqw.out; have := HJ.out.lt; omega) _⟩
    have G13 : Keep (Grown w11 (w11.drew.setCell ⟨g, 2, none⟩ (.int .i64 0)) fun k => k = g) := ⟨(Grown.refl w11 (fun k => k = g)).drew.trans (Grown.setCell w11.drew g 2 _ fun _ => rfl)⟩
    generalize w11.drew.setCell ⟨g, 2, none⟩ (.int .i64 0) = w13 at *
    refine hK _ _ HP13.out fun hA12 => ?_
    clear hK
    simp only [Act.put, List.setIfInBounds_toArray, List.set_cons_zero, List.set_cons_succ]
    refine wpAnyH_take (i := 13) (oi := ⟨some 97, Op.nilCheck (Operand.tmp 86), 0, _, _, none⟩) (v := .pointer (some ⟨g, 0, none⟩)) rfl (by kernel_rfl) (by kernel_rfl) (by kernel_rfl) (fun _ _ _ h => h) (Or.inl ⟨by rfl, fun w hS => by have q0 := hS.c 0 (by rfl : (#[.int .i64 (0), .int .i64 (0)] : Array Value)[0]? = some (.int .i64 0)); have q1 := hS.c 1 (by rfl : (#[.int .i64 (0), .int .i64 (0)] : Array Value)[1]? = some (.int .i64 0)); go_simp⟩) hA12 ?_
    simp only [Act.put, List.setIfInBounds_toArray, List.set_cons_zero, List.set_cons_succ]
    refine wpAnyH_take (i := 14) (oi := ⟨some 98, Op.fieldAddr 61 (Operand.tmp 97) 3, 0, _, _, none⟩) (v := .pointer (some ⟨g, 3, none⟩)) rfl (by kernel_rfl) (by kernel_rfl) (by kernel_rfl) (fun _ _ _ h => h) (Or.inl ⟨by rfl, fun w hS => by have q0 := hS.c 0 (by rfl : (#[.int .i64 (0), .int .i64 (0)] : Array Value)[0]? = some (.int .i64 0)); have q1 := hS.c 1 (by rfl : (#[.int .i64 (0), .int .i64 (0)] : Array Value)[1]? = some (.int .i64 0)); go_simp⟩) hA12 ?_
    simp only [Act.put, List.setIfInBounds_toArray, List.set_cons_zero, List.set_cons_succ]
    refine wpAnyH_ready (rs := [15]) (by kernel_rfl) (by simp) ?_
    refine AllReadyH.cons (o := ⟨none, Op.store 3 (Operand.tmp 98) (Operand.tmp 94), 0, _, _, none⟩) rfl (fun K hK => ?_) AllReadyH.nil
    rw [if_pos (by rfl)]
    have f_o := HJ13.out.frozen 3
    have cl : w13.cell? ⟨g, 3, none⟩ = some (.int .i64 sz) := HJ13.out.c 3 rfl
    refine wp_cellS (w13.setCell ⟨g, 3, none⟩ (.int .i64 (16 + (l.length : Int)))) (by go_simp) ?_
    clear f_o cl
    have HJ14 : Keep (Blk (w13.setCell ⟨g, 3, none⟩ (.int .i64 (16 + (l.length : Int)))) g 61 (jA d (.slice a10 n10 c10) 0 (16 + (l.length : Int)) la false)) := ⟨HJ13.out.set 3 _⟩
    have HP14 : Keep (Blk (w13.setCell ⟨g, 3, none⟩ (.int .i64 (16 + (l.length : Int)))) q 79 #[.int .i64 (0), .int .i64 (0)]) := ⟨HP13.out.set_ne (fun e => by have := hqw.out; have := HJ.out.lt; omega) _⟩
    have G14 : Keep (Grown w11 (w13.setCell ⟨g, 3, none⟩ (.int .i64 (16 + (l.length : Int)))) fun k => k = g) := ⟨G13.out.trans (Grown.setCell w13 g 3 _ fun _ => rfl)⟩
    have HJ11t : Keep (Typ w11 g 61) := ⟨HJ11.out.typ⟩
    clear HJ12 HP12 HJ13 HP13 HJ11 hwl hw16
    generalize w13.setCell ⟨g, 3, none⟩ (.int .i64 (16 + (l.length : Int))) = w14 at *
    refine hK _ _ HP14.out fun hA13 => ?_
    clear hK
    have f_o := HJ14.out.frozen 4
    have cl : w14.cell? ⟨g, 4, none⟩ = some (.bool la) := HJ14.out.c 4 rfl
    simp only [Act.put, List.setIfInBounds_toArray, List.set_cons_zero, List.set_cons_succ]
    refine wpAnyH_done (by kernel_rfl) ?_ _
    refine hK17 _ _ ?_
    refine wp_seq_k fun K18 hK18 => ?_
    refine wp_region_list (WL.out ?_)
    refine WL.val (by kernel_rfl) (.pointer (some ⟨g, 0, none⟩)) (by go_simp) ?_
    simp only [Act.put, List.setIfInBounds_toArray, List.set_cons_zero, List.set_cons_succ]
    refine WL.val (by kernel_rfl) (.pointer (some ⟨g, 0, none⟩)) (by go_simp) ?_
    simp only [Act.put, List.setIfInBounds_toArray, List.set_cons_zero, List.set_cons_succ]
    refine WL.val (by kernel_rfl) (.pointer (some ⟨g, 4, none⟩)) (by go_simp) ?_
    simp only [Act.put, List.setIfInBounds_toArray, List.set_cons_zero, List.set_cons_succ]
    refine WL.cell (by kernel_rfl) (w14.setCell ⟨g, 4, none⟩ (.bool true)) (by go_simp) ?_
    clear f_o cl
    have HJ15 : Keep (Blk (w14.setCell ⟨g, 4, none⟩ (.bool true)) g 61 (jA d (.slice a10 n10 c10) 0 (16 + (l.length : Int)) true false)) := ⟨HJ14.out.set 4 _⟩
    have G15 : Keep (Grown w11 (w14.setCell ⟨g, 4, none⟩ (.bool true)) fun k => k = g) := ⟨G14.out.trans (Grown.setCell w14 g 4 _ fun _ => rfl)⟩
    clear HJ14 G14
    generalize w14.setCell ⟨g, 4, none⟩ (.bool true) = w15 at *
    simp only [Act.put]
    refine WL.nil ?_
    refine hK18 _ _ ?_
    refine wp_seq_k fun K19 hK19 => ?_
    refine wp_region_list (WL.out ?_)
    refine WL.val (by kernel_rfl) (.int .i64 0) (by go_simp) ?_
    simp only [Act.put, List.setIfInBounds_toArray, List.set_cons_zero, List.set_cons_succ]
    refine WL.nil ?_
    refine hK19 _ _ ?_
    refine wp_ret ?_
    go_ret
    refine ⟨rfl, .slice a10 n10 c10, vf', cs', HJ15.out, HO11.out.grown G15.out fun k hk e => ?_, ?_, GW11.out.next G15.out fun k _ e => .inr (.inl e), N7.out, M10.out⟩
    · subst e; rcases M10.out _ hk with h | h; exact HPg.out _ h rfl; have := HJ.out.lt; omega
    · rw [hnn.out] at HD11; exact HD11.out.grown G15.out fun k hk e => by subst e; have hj := HJ11t.out; rcases hk with h | h | h <;> (have := h.one hj; revert this; decide)
  · refine wp_bs 59 1 _ rfl #[(0, .agg #[.int .i64 (0), .int .i64 (0)])] (by simp [Act.eval]) _ _ (bsP 0 0 w8) ?_
    have hbx := below_new w8 (.cells #[.int .i64 (0), .int .i64 (0)] 79)
    have HN9 := Keep.mk (Blk.new w8 79 #[.int .i64 (0), .int .i64 (0)])
    have HJ9 := Keep.mk (HJ8.out.below hbx HJ8.out.lt)
    have HP9 := Keep.mk (HP8.out.below hbx HP8.out.lt)
    have HO9 := Keep.mk (HO8.out.grown (Grown.below (S := fun _ => False) hbx) fun _ _ h => h)
    have HD9 := Keep.mk (HD8.out.below hbx)
    have GW9 : Keep (Grown w (w8.alloc (.cells #[.int .i64 (0), .int .i64 (0)] 79)) fun k => k = p) := ⟨GW8.out.trans (Grown.below hbx)⟩
    clear hbx
    generalize w8.alloc (.cells #[.int .i64 (0), .int .i64 (0)] 79) = w9 at *
    obtain ⟨g9, hg9⟩ : ∃ p, Keep (p = w8.heap.size) := ⟨_, ⟨rfl⟩⟩
    rw [← hg9.out] at HN9 ⊢
    refine hK _ _ (HP9.out) fun hB9 => ?_
    clear hK
    simp only [Act.put, List.setIfInBounds_toArray, List.set_cons_zero, List.set_cons_succ]
    refine wpAnyH_ready (rs := [4]) (by kernel_rfl) (by simp) ?_
    refine AllReadyH.cons (o := ⟨some 79, Op.load 59 (Operand.tmp 78), 59, _, _, none⟩) rfl (fun K hK => ?_) AllReadyH.nil
    rw [if_pos (by rfl)]
    have cl : w9.cell? ⟨g, 1, none⟩ = some (.slice pa pl.length pc) := HJ9.out.c 1 rfl
    refine wp_val (.slice pa pl.length pc) (by go_simp) ?_
    clear cl
    refine hK _ _ (HP9.out) fun hL9 => ?_
    clear hK
    simp only [Act.put, List.setIfInBounds_toArray, List.set_cons_zero, List.set_cons_succ]
    refine wpAnyH_ready (rs := [7]) (by kernel_rfl) (by simp) ?_
    refine AllReadyH.cons (o := ⟨some 82, Op.call { callee := Callee.builtin Builtin.append, args := #[Operand.tmp 79, Operand.tmp 81], argTypes := #[59, 59] }, 59, _, _, none⟩) rfl (fun K hK => ?_) AllReadyH.nil
    rw [if_pos (by rfl)]
    refine wp_appP (.tmp 79) (.tmp 81) rfl (.slice pa pl.length pc) pl g9 1 (0, 0) rfl rfl HO9.out HN9.out (by have := HPn.out; omega) fun v10 w10 h1 h2 h3 => ?_
    have HO10 := Keep.mk h1
    have M10 : Keep (∀ k, v10.ownBlock = some k → (Value.slice pa pl.length pc).ownBlock = some k ∨ w.heap.size ≤ k) := ⟨fun k hk => by rcases h3 with e | ⟨j, e, hj⟩ <;> rw [hk] at e; exact .inl e.symm; right; have := Option.some.inj e; have := GW9.out.size; omega⟩
    have HJ10 : Keep (Blk w10 g 61 (jA d (.slice pa pl.length pc) (-1) sz la false)) := ⟨h2.blk HJ9.out fun e => HPg.out g e rfl⟩
    have HP10 : Keep (Blk w10 q 79 #[.int .i64 (0), .int .i64 (0)]) := ⟨h2.blk HP9.out fun e => by have := HPw.out q e; have := hqw.out; omega⟩
    have HD10 : Keep (DskAt w10 p vf' cs' (D.appNew i nn (hl 16 (hdF l) ++ l))) := ⟨HD9.out.grown h2 fun k hk e => by have ht := HO9.out.typ e; rcases hk with h | h | h <;> (have := h.one ht; revert this; decide)⟩
    have GW10 : Keep (Grown w w10 fun k => k = p ∨ k = g ∨ (Value.slice pa pl.length pc).ownBlock = some k) := ⟨(GW9.out.mono fun k _ e => .inl e).next h2 fun k _ e => .inr (.inr e)⟩
    clear h1 h2 h3
    obtain ⟨a10, c10, e10⟩ := HO10.out.sl
    subst e10
    obtain ⟨n10, hn10⟩ : ∃ q, Keep (q = (pl ++ [(0, 0)]).length) := ⟨_, ⟨rfl⟩⟩
    rw [← hn10.out] at HO10 M10 ⊢
    refine hK _ _ (HP10.out) fun hA10 => ?_
    clear hK
    simp only [Act.put, List.setIfInBounds_toArray, List.set_cons_zero, List.set_cons_succ]
    refine wpAnyH_take (i := 8) (oi := ⟨some 83, Op.nilCheck (Operand.tmp 75), 0, _, _, none⟩) (v := .pointer (some ⟨g, 0, none⟩)) rfl (by kernel_rfl) (by kernel_rfl) (by kernel_rfl) (fun _ _ _ h => h) (Or.inl ⟨by rfl, fun w hS => by go_simp⟩) hA10 ?_
    simp only [Act.put, List.setIfInBounds_toArray, List.set_cons_zero, List.set_cons_succ]
    refine wpAnyH_take (i := 9) (oi := ⟨some 84, Op.fieldAddr 61 (Operand.tmp 83) 1, 0, _, _, none⟩) (v := .pointer (some ⟨g, 1, none⟩)) rfl (by kernel_rfl) (by kernel_rfl) (by kernel_rfl) (fun _ _ _ h => h) (Or.inl ⟨by rfl, fun w hS => by go_simp⟩) hA10 ?_
    simp only [Act.put, List.setIfInBounds_toArray, List.set_cons_zero, List.set_cons_succ]
    refine wpAnyH_ready (rs := [10]) (by kernel_rfl) (by simp) ?_
    refine AllReadyH.cons (o := ⟨none, Op.store 59 (Operand.tmp 84) (Operand.tmp 82), 0, _, _, none⟩) rfl (fun K hK => ?_) AllReadyH.nil
    rw [if_pos (by rfl)]
    have f_o := HJ10.out.frozen 1
    have cl : w10.cell? ⟨g, 1, none⟩ = some (.slice pa pl.length pc) := HJ10.out.c 1 rfl
    refine wp_cellS (w10.setCell ⟨g, 1, none⟩ (.slice a10 n10 c10)) (by go_simp) ?_
    clear f_o cl
    have HJ11 : Keep (Blk (w10.setCell ⟨g, 1, none⟩ (.slice a10 n10 c10)) g 61 (jA d (.slice a10 n10 c10) (-1) sz la false)) := ⟨HJ10.out.set 1 (.slice a10 n10 c10)⟩
    have hgs : Grown w10 (w10.setCell ⟨g, 1, none⟩ (.slice a10 n10 c10)) fun k => k = g := Grown.setCell w10 g 1 _ fun _ => rfl
    have HP11 : Keep (Blk (w10.setCell ⟨g, 1, none⟩ (.slice a10 n10 c10)) q 79 #[.int .i64 (0), .int .i64 (0)]) := ⟨hgs.blk HP10.out fun e => by have := hqw.out; have := HJ.out.lt; omega⟩
    have HO11 : Keep (OwnP (w10.setCell ⟨g, 1, none⟩ (.slice a10 n10 c10)) (.slice a10 n10 c10) (pl ++ [(0, 0)])) := ⟨HO10.out.grown hgs fun k hk e => by subst e; rcases M10.out _ hk with h | h; exact HPg.out _ h rfl; have := HJ.out.lt; omega⟩
    have HD11 : Keep (DskAt (w10.setCell ⟨g, 1, none⟩ (.slice a10 n10 c10)) p vf' cs' (D.appNew i nn (hl 16 (hdF l) ++ l))) := ⟨HD10.out.grown hgs fun k hk e => by subst e; have hj := HJ10.out.typ; rcases hk with h | h | h <;> (have := h.one hj; revert this; decide)⟩
    have GW11 : Keep (Grown w (w10.setCell ⟨g, 1, none⟩ (.slice a10 n10 c10)) fun k => k = p ∨ k = g ∨ (Value.slice pa pl.length pc).ownBlock = some k) := ⟨GW10.out.next hgs fun k _ e => .inr (.inl e)⟩
    clear hgs HJ10 HP10 HO10 HD10 GW10
    generalize w10.setCell ⟨g, 1, none⟩ (.slice a10 n10 c10) = w11 at *
    refine hK _ _ (HP11.out) fun hS11 => ?_
    clear hK
    simp only [Act.put, List.setIfInBounds_toArray, List.set_cons_zero, List.set_cons_succ]
    refine wpAnyH_done (by kernel_rfl) ?_ _
    refine hK16 _ _ ?_
    refine wp_seq_k fun K20 hK20 => ?_
    have HP12 : Keep (Blk w11.drew q 79 #[.int .i64 (0), .int .i64 (0)]) := ⟨HP11.out.drew⟩
    have HJ12 : Keep (Blk w11.drew g 61 (jA d (.slice a10 n10 c10) (-1) sz la false)) := ⟨HJ11.out.drew⟩
    have hwl : IntKind.i64.wrap (16 + (l.length : Int)) = 16 + (l.length : Int) := by rw [IntKind.wrap_i64]; have := HL.out; omega
    have hw16 : IntKind.i64.wrap 16 = 16 := by rw [IntKind.wrap_i64]; rfl
    refine wp_region_held_drew (S := fun wx => Blk wx q 79 #[.int .i64 (0), .int .i64 (0)]) (by kernel_rfl) (HP12.out) (fun hHeld => ?_)
    refine wpAnyH_take (i := 0) (oi := ⟨some 85, Op.move (Operand.tmp 0), 22, _, _, none⟩) (v := .pointer (some ⟨g, 0, none⟩)) rfl (by kernel_rfl) (by kernel_rfl) (by kernel_rfl) (fun _ _ _ h => h) (Or.inl ⟨by rfl, fun w hS => by have q0 := hS.c 0 (by rfl : (#[.int .i64 (0), .int .i64 (0)] : Array Value)[0]? = some (.int .i64 0)); have q1 := hS.c 1 (by rfl : (#[.int .i64 (0), .int .i64 (0)] : Array Value)[1]? = some (.int .i64 0)); go_simp⟩) hHeld ?_
    simp only [Act.put, List.setIfInBounds_toArray, List.set_cons_zero, List.set_cons_succ]
    refine wpAnyH_take (i := 1) (oi := ⟨some 86, Op.move (Operand.tmp 0), 22, _, _, none⟩) (v := .pointer (some ⟨g, 0, none⟩)) rfl (by kernel_rfl) (by kernel_rfl) (by kernel_rfl) (fun _ _ _ h => h) (Or.inl ⟨by rfl, fun w hS => by have q0 := hS.c 0 (by rfl : (#[.int .i64 (0), .int .i64 (0)] : Array Value)[0]? = some (.int .i64 0)); have q1 := hS.c 1 (by rfl : (#[.int .i64 (0), .int .i64 (0)] : Array Value)[1]? = some (.int .i64 0)); go_simp⟩) hHeld ?_
    simp only [Act.put, List.setIfInBounds_toArray, List.set_cons_zero, List.set_cons_succ]
    refine wpAnyH_take (i := 2) (oi := ⟨some 87, Op.fieldAddr 79 (Operand.tmp 5) 0, 0, _, _, none⟩) (v := .pointer (some ⟨q, 0, none⟩)) rfl (by kernel_rfl) (by kernel_rfl) (by kernel_rfl) (fun _ _ _ h => h) (Or.inl ⟨by rfl, fun w hS => by have q0 := hS.c 0 (by rfl : (#[.int .i64 (0), .int .i64 (0)] : Array Value)[0]? = some (.int .i64 0)); have q1 := hS.c 1 (by rfl : (#[.int .i64 (0), .int .i64 (0)] : Array Value)[1]? = some (.int .i64 0)); go_simp⟩) hHeld ?_
    simp only [Act.put, List.setIfInBounds_toArray, List.set_cons_zero, List.set_cons_succ]
    refine wpAnyH_take (i := 3) (oi := ⟨some 88, Op.load 3 (Operand.tmp 87), 3, _, _, none⟩) (v := .int .i64 0) rfl (by kernel_rfl) (by kernel_rfl) (by kernel_rfl) (fun _ _ _ h => h) (Or.inl ⟨by rfl, fun w hS => by have q0 := hS.c 0 (by rfl : (#[.int .i64 (0), .int .i64 (0)] : Array Value)[0]? = some (.int .i64 0)); have q1 := hS.c 1 (by rfl : (#[.int .i64 (0), .int .i64 (0)] : Array Value)[1]? = some (.int .i64 0)); go_simp⟩) hHeld ?_
    simp only [Act.put, List.setIfInBounds_toArray, List.set_cons_zero, List.set_cons_succ]
    refine wpAnyH_take (i := 4) (oi := ⟨some 89, Op.fieldAddr 79 (Operand.tmp 5) 1, 0, _, _, none⟩) (v := .pointer (some ⟨q, 1, none⟩)) rfl (by kernel_rfl) (by kernel_rfl) (by kernel_rfl) (fun _ _ _ h => h) (Or.inl ⟨by rfl, fun w hS => by have q0 := hS.c 0 (by rfl : (#[.int .i64 (0), .int .i64 (0)] : Array Value)[0]? = some (.int .i64 0)); have q1 := hS.c 1 (by rfl : (#[.int .i64 (0), .int .i64 (0)] : Array Value)[1]? = some (.int .i64 0)); go_simp⟩) hHeld ?_
    simp only [Act.put, List.setIfInBounds_toArray, List.set_cons_zero, List.set_cons_succ]
    refine wpAnyH_take (i := 5) (oi := ⟨some 90, Op.load 3 (Operand.tmp 89), 3, _, _, none⟩) (v := .int .i64 0) rfl (by kernel_rfl) (by kernel_rfl) (by kernel_rfl) (fun _ _ _ h => h) (Or.inl ⟨by rfl, fun w hS => by have q0 := hS.c 0 (by rfl : (#[.int .i64 (0), .int .i64 (0)] : Array Value)[0]? = some (.int .i64 0)); have q1 := hS.c 1 (by rfl : (#[.int .i64 (0), .int .i64 (0)] : Array Value)[1]? = some (.int .i64 0)); go_simp⟩) hHeld ?_
    simp only [Act.put, List.setIfInBounds_toArray, List.set_cons_zero, List.set_cons_succ]
    refine wpAnyH_take (i := 6) (oi := ⟨some 91, Op.binOp BinOp.add 3 (Operand.tmp 90) (Operand.const (Value.int IntKind.i64 16)) 3, 3, _, _, none⟩) (v := .int .i64 16) rfl (by kernel_rfl) (by kernel_rfl) (by kernel_rfl) (fun _ _ _ h => h) (Or.inl ⟨by rfl, fun w hS => by have q0 := hS.c 0 (by rfl : (#[.int .i64 (0), .int .i64 (0)] : Array Value)[0]? = some (.int .i64 0)); have q1 := hS.c 1 (by rfl : (#[.int .i64 (0), .int .i64 (0)] : Array Value)[1]? = some (.int .i64 0)); go_simp⟩) hHeld ?_
    simp only [Act.put, List.setIfInBounds_toArray, List.set_cons_zero, List.set_cons_succ]
    refine wpAnyH_take (i := 7) (oi := ⟨some 92, Op.move (Operand.tmp 1), 37, _, _, none⟩) (v := .slice ba l.length bc) rfl (by kernel_rfl) (by kernel_rfl) (by kernel_rfl) (fun _ _ _ h => h) (Or.inl ⟨by rfl, fun w hS => by have q0 := hS.c 0 (by rfl : (#[.int .i64 (0), .int .i64 (0)] : Array Value)[0]? = some (.int .i64 0)); have q1 := hS.c 1 (by rfl : (#[.int .i64 (0), .int .i64 (0)] : Array Value)[1]? = some (.int .i64 0)); go_simp⟩) hHeld ?_
    simp only [Act.put, List.setIfInBounds_toArray, List.set_cons_zero, List.set_cons_succ]
    refine wpAnyH_take (i := 8) (oi := ⟨some 93, Op.call { callee := Callee.builtin Builtin.len, args := #[Operand.tmp 92], argTypes := #[37] }, 3, _, _, none⟩) (v := .int .i64 (l.length : Int)) rfl (by kernel_rfl) (by kernel_rfl) (by kernel_rfl) (fun _ _ _ h => h) (Or.inl ⟨by rfl, fun w hS => by have q0 := hS.c 0 (by rfl : (#[.int .i64 (0), .int .i64 (0)] : Array Value)[0]? = some (.int .i64 0)); have q1 := hS.c 1 (by rfl : (#[.int .i64 (0), .int .i64 (0)] : Array Value)[1]? = some (.int .i64 0)); go_simp⟩) hHeld ?_
    simp only [Act.put, List.setIfInBounds_toArray, List.set_cons_zero, List.set_cons_succ]
    refine wpAnyH_take (i := 9) (oi := ⟨some 94, Op.binOp BinOp.add 3 (Operand.tmp 91) (Operand.tmp 93) 3, 3, _, _, none⟩) (v := .int .i64 (16 + (l.length : Int))) rfl (by kernel_rfl) (by kernel_rfl) (by kernel_rfl) (fun _ _ _ h => h) (Or.inl ⟨by rfl, fun w hS => by have q0 := hS.c 0 (by rfl : (#[.int .i64 (0), .int .i64 (0)] : Array Value)[0]? = some (.int .i64 0)); have q1 := hS.c 1 (by rfl : (#[.int .i64 (0), .int .i64 (0)] : Array Value)[1]? = some (.int .i64 0)); go_simp⟩) hHeld ?_
    simp only [Act.put, List.setIfInBounds_toArray, List.set_cons_zero, List.set_cons_succ]
    refine wpAnyH_take (i := 10) (oi := ⟨some 95, Op.nilCheck (Operand.tmp 85), 0, _, _, none⟩) (v := .pointer (some ⟨g, 0, none⟩)) rfl (by kernel_rfl) (by kernel_rfl) (by kernel_rfl) (fun _ _ _ h => h) (Or.inl ⟨by rfl, fun w hS => by have q0 := hS.c 0 (by rfl : (#[.int .i64 (0), .int .i64 (0)] : Array Value)[0]? = some (.int .i64 0)); have q1 := hS.c 1 (by rfl : (#[.int .i64 (0), .int .i64 (0)] : Array Value)[1]? = some (.int .i64 0)); go_simp⟩) hHeld ?_
    simp only [Act.put, List.setIfInBounds_toArray, List.set_cons_zero, List.set_cons_succ]
    refine wpAnyH_take (i := 11) (oi := ⟨some 96, Op.fieldAddr 61 (Operand.tmp 95) 2, 0, _, _, none⟩) (v := .pointer (some ⟨g, 2, none⟩)) rfl (by kernel_rfl) (by kernel_rfl) (by kernel_rfl) (fun _ _ _ h => h) (Or.inl ⟨by rfl, fun w hS => by have q0 := hS.c 0 (by rfl : (#[.int .i64 (0), .int .i64 (0)] : Array Value)[0]? = some (.int .i64 0)); have q1 := hS.c 1 (by rfl : (#[.int .i64 (0), .int .i64 (0)] : Array Value)[1]? = some (.int .i64 0)); go_simp⟩) hHeld ?_
    simp only [Act.put, List.setIfInBounds_toArray, List.set_cons_zero, List.set_cons_succ]
    refine wpAnyH_ready (rs := [12]) (by kernel_rfl) (by simp) ?_
    refine AllReadyH.cons (o := ⟨none, Op.store 3 (Operand.tmp 96) (Operand.tmp 88), 0, _, _, none⟩) rfl (fun K hK => ?_) AllReadyH.nil
    rw [if_pos (by rfl)]
    have f_o := HJ12.out.frozen 2
    have cl : w11.drew.cell? ⟨g, 2, none⟩ = some (.int .i64 (-1)) := HJ12.out.c 2 rfl
    refine wp_cellS (w11.drew.setCell ⟨g, 2, none⟩ (.int .i64 0)) (by go_simp) ?_
    clear f_o cl
    have HJ13 : Keep (Blk (w11.drew.setCell ⟨g, 2, none⟩ (.int .i64 0)) g 61 (jA d (.slice a10 n10 c10) 0 sz la false)) := ⟨HJ12.out.set 2 _⟩
    have HP13 : Keep (Blk (w11.drew.setCell ⟨g, 2, none⟩ (.int .i64 0)) q 79 #[.int .i64 (0), .int .i64 (0)]) := ⟨HP12.out.set_ne (fun e => by have := hqw.out; have := HJ.out.lt; omega) _⟩
    have G13 : Keep (Grown w11 (w11.drew.setCell ⟨g, 2, none⟩ (.int .i64 0)) fun k => k = g) := ⟨(Grown.refl w11 (fun k => k = g)).drew.trans (Grown.setCell w11.drew g 2 _ fun _ => rfl)⟩
    generalize w11.drew.setCell ⟨g, 2, none⟩ (.int .i64 0) = w13 at *
    refine hK _ _ HP13.out fun hA12 => ?_
    clear hK
    simp only [Act.put, List.setIfInBounds_toArray, List.set_cons_zero, List.set_cons_succ]
    refine wpAnyH_take (i := 13) (oi := ⟨some 97, Op.nilCheck (Operand.tmp 86), 0, _, _, none⟩) (v := .pointer (some ⟨g, 0, none⟩)) rfl (by kernel_rfl) (by kernel_rfl) (by kernel_rfl) (fun _ _ _ h => h) (Or.inl ⟨by rfl, fun w hS => by have q0 := hS.c 0 (by rfl : (#[.int .i64 (0), .int .i64 (0)] : Array Value)[0]? = some (.int .i64 0)); have q1 := hS.c 1 (by rfl : (#[.int .i64 (0), .int .i64 (0)] : Array Value)[1]? = some (.int .i64 0)); go_simp⟩) hA12 ?_
    simp only [Act.put, List.setIfInBounds_toArray, List.set_cons_zero, List.set_cons_succ]
    refine wpAnyH_take (i := 14) (oi := ⟨some 98, Op.fieldAddr 61 (Operand.tmp 97) 3, 0, _, _, none⟩) (v := .pointer (some ⟨g, 3, none⟩)) rfl (by kernel_rfl) (by kernel_rfl) (by kernel_rfl) (fun _ _ _ h => h) (Or.inl ⟨by rfl, fun w hS => by have q0 := hS.c 0 (by rfl : (#[.int .i64 (0), .int .i64 (0)] : Array Value)[0]? = some (.int .i64 0)); have q1 := hS.c 1 (by rfl : (#[.int .i64 (0), .int .i64 (0)] : Array Value)[1]? = some (.int .i64 0)); go_simp⟩) hA12 ?_
    simp only [Act.put, List.setIfInBounds_toArray, List.set_cons_zero, List.set_cons_succ]
    refine wpAnyH_ready (rs := [15]) (by kernel_rfl) (by simp) ?_
    refine AllReadyH.cons (o := ⟨none, Op.store 3 (Operand.tmp 98) (Operand.tmp 94), 0, _, _, none⟩) rfl (fun K hK => ?_) AllReadyH.nil
    rw [if_pos (by rfl)]
    have f_o := HJ13.out.frozen 3
    have cl : w13.cell? ⟨g, 3, none⟩ = some (.int .i64 sz) := HJ13.out.c 3 rfl
    refine wp_cellS (w13.setCell ⟨g, 3, none⟩ (.int .i64 (16 + (l.length : Int)))) (by go_simp) ?_
    clear f_o cl
    have HJ14 : Keep (Blk (w13.setCell ⟨g, 3, none⟩ (.int .i64 (16 + (l.length : Int)))) g 61 (jA d (.slice a10 n10 c10) 0 (16 + (l.length : Int)) la false)) := ⟨HJ13.out.set 3 _⟩
    have HP14 : Keep (Blk (w13.setCell ⟨g, 3, none⟩ (.int .i64 (16 + (l.length : Int)))) q 79 #[.int .i64 (0), .int .i64 (0)]) := ⟨HP13.out.set_ne (fun e => by have := hqw.out; have := HJ.out.lt; omega) _⟩
    have G14 : Keep (Grown w11 (w13.setCell ⟨g, 3, none⟩ (.int .i64 (16 + (l.length : Int)))) fun k => k = g) := ⟨G13.out.trans (Grown.setCell w13 g 3 _ fun _ => rfl)⟩
    have HJ11t : Keep (Typ w11 g 61) := ⟨HJ11.out.typ⟩
    clear HJ12 HP12 HJ13 HP13 HJ11 hwl hw16
    generalize w13.setCell ⟨g, 3, none⟩ (.int .i64 (16 + (l.length : Int))) = w14 at *
    refine hK _ _ HP14.out fun hA13 => ?_
    clear hK
    have f_o := HJ14.out.frozen 4
    have cl : w14.cell? ⟨g, 4, none⟩ = some (.bool la) := HJ14.out.c 4 rfl
    simp only [Act.put, List.setIfInBounds_toArray, List.set_cons_zero, List.set_cons_succ]
    refine wpAnyH_done (by kernel_rfl) ?_ _
    refine hK20 _ _ ?_
    refine wp_seq_k fun K21 hK21 => ?_
    refine wp_region_list (WL.out ?_)
    refine WL.val (by kernel_rfl) (.pointer (some ⟨g, 0, none⟩)) (by go_simp) ?_
    simp only [Act.put, List.setIfInBounds_toArray, List.set_cons_zero, List.set_cons_succ]
    refine WL.val (by kernel_rfl) (.pointer (some ⟨g, 0, none⟩)) (by go_simp) ?_
    simp only [Act.put, List.setIfInBounds_toArray, List.set_cons_zero, List.set_cons_succ]
    refine WL.val (by kernel_rfl) (.pointer (some ⟨g, 4, none⟩)) (by go_simp) ?_
    simp only [Act.put, List.setIfInBounds_toArray, List.set_cons_zero, List.set_cons_succ]
    refine WL.cell (by kernel_rfl) (w14.setCell ⟨g, 4, none⟩ (.bool true)) (by go_simp) ?_
    clear f_o cl
    have HJ15 : Keep (Blk (w14.setCell ⟨g, 4, none⟩ (.bool true)) g 61 (jA d (.slice a10 n10 c10) 0 (16 + (l.length : Int)) true false)) := ⟨HJ14.out.set 4 _⟩
    have G15 : Keep (Grown w11 (w14.setCell ⟨g, 4, none⟩ (.bool true)) fun k => k = g) := ⟨G14.out.trans (Grown.setCell w14 g 4 _ fun _ => rfl)⟩
    clear HJ14 G14
    generalize w14.setCell ⟨g, 4, none⟩ (.bool true) = w15 at *
    simp only [Act.put]
    refine WL.nil ?_
    refine hK21 _ _ ?_
    refine wp_seq_k fun K22 hK22 => ?_
    refine wp_region_list (WL.out ?_)
    refine WL.val (by kernel_rfl) (.int .i64 0) (by go_simp) ?_
    simp only [Act.put, List.setIfInBounds_toArray, List.set_cons_zero, List.set_cons_succ]
    refine WL.nil ?_
    refine hK22 _ _ ?_
    refine wp_ret ?_
    go_ret
    refine ⟨rfl, .slice a10 n10 c10, vf', cs', HJ15.out, HO11.out.grown G15.out fun k hk e => ?_, ?_, GW11.out.next G15.out fun k _ e => .inr (.inl e), N7.out, M10.out⟩
    · subst e; rcases M10.out _ hk with h | h; exact HPg.out _ h rfl; have := HJ.out.lt; omega
    · rw [hnn.out] at HD11; exact HD11.out.grown G15.out fun k hk e => by subst e; have hj := HJ11t.out; rcases hk with h | h | h <;> (have := h.one hj; revert this; decide)
end Go.Proofs.YtennogmeeefopaaDoor
