import Derived.Test.YtjklmkeedhgncaaU02
import Derived.Test.YtjklmkeedhgncaaU01
import Derived.Laws.AppendOwnNone
namespace Go.Proofs.Ytjklmkeedhgncaa
open Go.RowKit

def endX (n i : Nat) : Int := if i = 0 then 128 else if i ≤ zerosF n then 0 else 8 * (n : Int) / 2 ^ (56 - 8 * (i - zerosF n - 1)) % 256
theorem endL_get (n i : Nat) (h : i < zerosF n + 9) : (endL n 8)[i]? = some (.int .u8 (endX n i)) := by
  unfold endL endX
  rw [List.getElem?_append, List.length_cons, List.length_replicate]
  by_cases h1 : i < zerosF n + 1
  · rw [if_pos h1]
    cases i with
    | zero => rfl
    | succ i => rw [List.getElem?_cons_succ, List.getElem?_replicate, if_pos (by omega), if_neg (by omega), if_pos (by omega)]
  · rw [if_neg h1, if_neg (by omega), if_neg (by omega), List.getElem?_map, List.getElem?_range (by omega)]
    simp only [Option.map_some]
    rw [show i - (zerosF n + 1) = i - zerosF n - 1 by omega]

def dg0 : Dg := ⟨beginF, fun _ => 0, 0⟩
def sumF (d : Dg) : Nat → Int := layUp (absorbN d (endX d.n) (zerosF d.n + 9)).s 8

theorem Try.new125 (w : World) : (Instr.alloc 125 true (.tuple #[])).run Try.prog w = .ok (.pointer (some ⟨w.heap.size, 0, none⟩)) (w.alloc (.cells (digA (fun _ => 0) (fun _ => 0) 0) 125)) := by kernel_rfl
theorem digA_sizes (s r s' r' : Nat → Int) (n n' : Int) : (digA s r n).size = (digA s' r' n').size := by rw [digA_size, digA_size]

set_option maxRecDepth 8000 in
set_option maxHeartbeats 1000000 in
theorem sum_any (g : Nat) (d : Dg) (w : World) (hg : Blk w g 125 (digA d.s d.r d.n)) (hn : (d.n : Int) ≤ 576460752303423488) :
    Calls Try.prog 63 #[ptr g] w fun e w' => e = .returned (.agg (bytesA 32 (sumF d))) ∧ Below w.heap.size w w' := by
  have hlt := hg.lt
  obtain ⟨s, r, n⟩ := d
  dsimp only at hg hn
  have hg1 := (hg.alloc (.cells (bytesA 32 fun _ => 0) 25))
  have hc1 := Blk.new (w.alloc (.cells (bytesA 32 fun _ => 0) 25)) 125 (digA (fun _ => 0) (fun _ => 0) 0)
  have HG : Keep (Blk (w.alloc (.cells (bytesA 32 fun _ => 0) 25)) g 125 (digA s r n)) := ⟨hg1⟩
  have HC : Keep (Blk ((w.alloc (.cells (bytesA 32 fun _ => 0) 25)).alloc (.cells (digA (fun _ => 0) (fun _ => 0) 0) 125)) (w.heap.size + 1) 125 (digA (fun _ => 0) (fun _ => 0) 0)) := ⟨by simpa using hc1⟩
  have hg2 := (hg1.alloc (.cells (digA (fun _ => 0) (fun _ => 0) 0) 125)).setRow_ne (b' := w.heap.size + 1) (by omega) (digA s r n)
  have hc2 := HC.out.setRow (digA s r n)
  have hr2 := ((Blk.new w 25 (bytesA 32 fun _ => 0)).alloc (.cells (digA (fun _ => 0) (fun _ => 0) 0) 125)).setRow_ne (b' := w.heap.size + 1) (by omega) (digA s r n)
  have hB2 : Below w.heap.size w (((w.alloc (.cells (bytesA 32 fun _ => 0) 25)).alloc (.cells (digA (fun _ => 0) (fun _ => 0) 0) 125)).setRow (w.heap.size + 1) (digA s r n)) :=
    below_setRow (((Below.refl _ _).alloc (Nat.le_refl _) _).alloc (by simp) _) (by omega) _
  clear hg hg1 hc1
  obtain ⟨w2, hw2⟩ : ∃ w2, Keep (w2 = ((w.alloc (.cells (bytesA 32 fun _ => 0) 25)).alloc (.cells (digA (fun _ => 0) (fun _ => 0) 0) 125)).setRow (w.heap.size + 1) (digA s r n)) := ⟨_, ⟨rfl⟩⟩
  rw [← hw2.out] at hg2 hc2 hr2 hB2
  have c72 : w2.cell? ⟨g, 72, none⟩ = some (.int .i64 n) := by rw [hg2.cell, digA_n]
  go_enter Try.func63, Try.ntmps63
  go_wp2_with (first | (refine wpList_new rfl 25 rfl _ Try.new25 ?_) | (refine wpList_load_row rfl 125 (.tmp 5) rfl g rfl 125 (digA s r n) (0, 0) _ HG.out Try.underlying125 rfl (Try.size125D _ _ _) ?_; refine wpList_new rfl 125 rfl _ Try.new125 ?_; refine wpList_store_row rfl 125 (.tmp 3) (.tmp 6) rfl (w.heap.size + 1) (digA s r n) (by simp [Act.put, Act.eval]) rfl 125 (digA (fun _ => 0) (fun _ => 0) 0) HC.out (Try.size125D _ _ _) (digA_sizes _ _ _ _ _ _) (digA_one _ _ _) ?_; rw [← hw2.out]))
  refine (end_any n _ (by omega)).mono ?_
  rintro e w3 ⟨h, rfl, hle, hcells, hB3⟩
  have hsz2 := hB2.size
  have hc3 := hc2.below hB3 hc2.lt
  have hr3 := hr2.below hB3 hr2.lt
  have hltc := hc2.lt
  have hz9 : zerosF n + 9 ≤ 72 := by unfold zerosF; omega
  have HX : Keep (∀ i, i < zerosF n + 9 → w3.cell? ⟨h, 0 + i, none⟩ = some (.int .u8 (endX n i))) := ⟨fun i hi => by rw [Nat.zero_add]; exact hcells i _ (endL_get n i hi)⟩
  clear hcells c72
  have HB3 : Keep (Below w.heap.size w w3) := ⟨hB2.trans (hB3.mono hsz2)⟩
  go_wp2_with fail
  refine (write_any (w.heap.size + 1) ⟨s, r, n⟩ (endX n) (zerosF n + 9) (zerosF n + 9) h 0 w3 hc3 (by omega) HX.out (by dsimp only; omega) (Nat.le_refl _)).mono ?_
  rintro e w4 ⟨rfl, hc4, hgr4⟩
  have hr4 : Blk w4 w.heap.size 25 (bytesA 32 fun _ => 0) := by
    unfold Blk; rw [hgr4.block _ hr3.lt (by simp)]; exact hr3
  have hB4 : Below w.heap.size w w4 := HB3.out.grown hgr4 (by have := HB3.out.size; omega) (fun k e => by injection e with e; omega)
  obtain ⟨D, hD⟩ : ∃ D, Keep (D = absorbN ⟨s, r, n⟩ (endX n) (zerosF n + 9)) := ⟨_, ⟨rfl⟩⟩
  rw [← hD.out] at hc4
  obtain ⟨s', r', n'⟩ := D
  dsimp only at hc4
  have hrng := dig_range0 hc4
  go_wp2_with (refine wpList_load_mid rfl 82 (.tmp 13) rfl (w.heap.size + 1) 0 rfl (wordsA 8 s').toList (.array 8 81) hrng Try.underlying82 rfl (by rw [Array.length_toList]; exact Try.size82W s') ?_; rw [Array.toArray_toList])
  refine (lay_any s' _).mono ?_
  rintro e w5 ⟨rfl, hB5⟩
  have hr5 := hr4.below hB5 hr4.lt
  have hB5' := hB4.trans (hB5.mono hB4.size)
  obtain ⟨c, hc⟩ : ∃ c, Keep (c = layUp s' 8) := ⟨_, ⟨rfl⟩⟩
  rw [← hc.out]
  go_wp2_with (refine wpList_store_row rfl 25 (.tmp 2) (.tmp 15) rfl w.heap.size (bytesA 32 c) rfl rfl 25 (bytesA 32 fun _ => 0) hr5 (Try.size25B _) (bytesA_sizes _ _ _) (bytesA_one _ _) ?_)
  exact bodyPost_ret (v := .agg (bytesA 32 c)) (results_cell_row Try.results63 _ _ w.heap.size 25 _ (0, 0) _ rfl (hr5.setRow _) Try.underlying25 rfl (Try.size25B _)) rfl ⟨by rw [hc.out]; unfold sumF; rw [← hD.out], below_setRow hB5' (Nat.le_refl _) _⟩
def absorbL (d : Dg) (l : List Int) : Dg := l.foldl absorb d
theorem absorbL_append (d : Dg) (l m : List Int) : absorbL d (l ++ m) = absorbL (absorbL d l) m := by simp [absorbL]
theorem absorbN_L (d : Dg) (l : List Int) (k : Nat) (hk : k ≤ l.length) : absorbN d (fun i => l.getD i 0) k = absorbL d (l.take k) := by
  induction k with
  | zero => rfl
  | succ k ih =>
    rw [List.take_succ_eq_append_getElem (by omega), absorbL_append, ← ih (by omega)]
    simp [absorbN, absorbL, List.getD, show k < l.length by omega]
theorem absorbN_all (d : Dg) (l : List Int) : absorbN d (fun i => l.getD i 0) l.length = absorbL d l := by
  rw [absorbN_L d l l.length (Nat.le_refl _), List.take_length]
theorem absorbL_n (d : Dg) (l : List Int) : (absorbL d l).n = d.n + l.length := by rw [← absorbN_all, absorbN_n]

set_option maxRecDepth 8000 in
set_option maxHeartbeats 400000 in
theorem write_none (g : Nat) (a : Option Addr) (c : Nat) (w : World) :
    Calls Try.prog 62 #[ptr g, .slice a 0 c] w fun e w' => e = .returned (.tuple #[]) ∧ w' = w := by
  go_enter Try.func62, Try.ntmps62
  go_wp2
  refine wp_loop_rounds 1 ?_; rw [rounds_succ]
  go_wp2
  go_end0
  exact ⟨rfl, rfl⟩

theorem write_row (g : Nat) (d : Dg) (v : Value) (l : List Int) (w0 w : World) (hb : Below w0.heap.size w0 w) (hg0 : w0.heap.size ≤ g) (hrow : RowAt w0 v l) (hg : Blk w g 125 (digA d.s d.r d.n))
    (hlen : (d.n : Int) + l.length ≤ 1152921504606846976) :
    Calls Try.prog 62 #[ptr g, v] w fun e w' => e = .returned (.tuple #[]) ∧ Blk w' g 125 (digA (absorbL d l).s (absorbL d l).r (absorbL d l).n) ∧ Below w0.heap.size w0 w' := by
  rcases hrow with ⟨rfl, rfl⟩ | ⟨a, c, rfl, rfl⟩ | ⟨h, off, cap, rfl, hcap, hx⟩
  · refine (write_none g none 0 w).mono ?_
    rintro e w' ⟨rfl, rfl⟩
    exact ⟨rfl, hg, hb⟩
  · refine (write_none g (some a) c w).mono ?_
    rintro e w' ⟨rfl, rfl⟩
    exact ⟨rfl, hg, hb⟩
  · by_cases h0 : l.length = 0
    · obtain rfl := List.eq_nil_of_length_eq_zero h0
      refine (write_none g (some ⟨h, off, none⟩) cap w).mono ?_
      rintro e w' ⟨rfl, rfl⟩
      exact ⟨rfl, hg, hb⟩
    · have hlt := cell_lt (hx 0 (by omega))
      refine (write_any g d (fun i => l.getD i 0) l.length cap h off w hg (by omega) (fun i hi => by rw [hb.cell (p := ⟨h, off + i, none⟩) hlt]; exact hx i hi) hlen hcap).mono ?_
      rintro e w' ⟨rfl, h1, h2⟩
      rw [absorbN_all] at h1
      exact ⟨rfl, h1, hb.grown h2 (by have := hb.size; omega) (fun k e => by injection e with e; omega)⟩

def shaP (l : List Int) : Nat → Int := sumF (absorbL dg0 l)

def concat (rows : Nat → List Int) : Nat → List Int
  | 0 => []
  | i + 1 => concat rows i ++ rows i

theorem concat_le (rows : Nat → List Int) (i m : Nat) (hi : i ≤ m) : (concat rows i).length ≤ (concat rows m).length := by
  obtain ⟨k, rfl⟩ : ∃ k, m = i + k := ⟨m - i, by omega⟩
  clear hi
  induction k with
  | zero => exact Nat.le_refl _
  | succ k ih => rw [← Nat.add_assoc]; simp only [concat, List.length_append]; exact Nat.le_trans ih (Nat.le_add_right _ _)

set_option maxRecDepth 8000 in
set_option maxHeartbeats 1000000 in
theorem ofAll_any (q o m cap : Nat) (V : Nat → Value) (rows : Nat → List Int) (w : World) (hV : ∀ i, i < m → w.cell? ⟨q, o + i, none⟩ = some (V i)) (hrow : ∀ i, i < m → RowAt w (V i) (rows i))
    (hm : (m : Int) ≤ 9223372036854775807) (hlen : ((concat rows m).length : Int) ≤ 576460752303423488) :
    Calls Try.prog 41 #[.slice (some ⟨q, o, none⟩) m cap] w fun e w' => e = .returned (.agg (bytesA 32 (shaP (concat rows m)))) ∧ Below w.heap.size w w' := by
  have hbA := below_new w (.cells (bytesA 32 fun _ => 0) 25)
  have HV : Keep (∀ i, i < m → (w.alloc (.cells (bytesA 32 fun _ => 0) 25)).cell? ⟨q, o + i, none⟩ = some (V i)) := ⟨fun i hi => by rw [hbA.cell (p := ⟨q, o + i, none⟩) (cell_lt (hV i hi))]; exact hV i hi⟩
  have HR : Keep (∀ i, i < m → RowAt (w.alloc (.cells (bytesA 32 fun _ => 0) 25)) (V i) (rows i)) := ⟨fun i hi => (hrow i hi).below hbA⟩
  clear hV hrow
  go_enter Try.func41, Try.ntmps41
  go_wp2_with (first | (refine wpList_new rfl 25 rfl _ Try.new25 ?_))
  refine (new_any _).mono ?_
  rintro e w1 ⟨rfl, rfl⟩
  simp only [World.size_alloc]
  go_wp2_with fail
  have hG := Blk.new ((w.alloc (.cells (bytesA 32 fun _ => 0) 25)).alloc (.cells (wordsA 8 beginF) 82)) 125 (digA beginF (fun _ => 0) 0)
  have hR := Blk.new w 25 (bytesA 32 fun _ => 0)
  have hsA : (w.alloc (.cells (bytesA 32 fun _ => 0) 25)).heap.size = w.heap.size + 1 := by simp
  have hB : Below (w.heap.size + 1) (w.alloc (.cells (bytesA 32 fun _ => 0) 25)) (((w.alloc (.cells (bytesA 32 fun _ => 0) 25)).alloc (.cells (wordsA 8 beginF) 82)).alloc (.cells (digA beginF (fun _ => 0) 0) 125)) :=
    ((Below.refl _ _).alloc (by simp) _).alloc (by simp) _
  simp only [World.size_alloc] at hG
  generalize (((w.alloc (.cells (bytesA 32 fun _ => 0) 25)).alloc (.cells (wordsA 8 beginF) 82)).alloc (.cells (digA beginF (fun _ => 0) 0) 125)) = w0 at *
  generalize w.alloc (.cells (bytesA 32 fun _ => 0) 25) = wA at *
  have HL : Keep (∀ i, i ≤ m → (concat rows i).length ≤ (concat rows m).length) := ⟨fun i hi => concat_le rows i m hi⟩
  have HA : Keep (wA.heap.size = w.heap.size + 1) := ⟨hsA⟩
  clear hsA
  go_loopw [9] (fun i wr => ∃ t : Nat, t ≤ m ∧ i = .int .i64 t ∧ Blk wr (w.heap.size + 1 + 1) 125 (digA (absorbL dg0 (concat rows t)).s (absorbL dg0 (concat rows t)).r (absorbL dg0 (concat rows t)).n) ∧ Below (w.heap.size + 1) wA wr) (fun i _ => m - (intOf i).toNat)
  case atStart => exact ⟨0, by omega, rfl, hG, hB⟩
  case round =>
    clear hG hB
    obtain ⟨t, ht, rfl, hGr, hBr⟩ := hrel
    by_cases hlt : t < m
    · have hlt' : (t : Int) < (m : Int) := by omega
      have hcell := HV.out t hlt
      have hc : wr.cell? ⟨q, o + t, none⟩ = some (V t) := by rw [hBr.cell (p := ⟨q, o + t, none⟩) (by rw [← HA.out]; exact cell_lt hcell)]; exact hcell
      clear hcell
      have hLt := HL.out (t + 1) hlt
      simp only [concat, List.length_append] at hLt
      have HRow : Keep (RowAt wA (V t) (rows t)) := ⟨HR.out t hlt⟩
      go_wp2_with fail
      refine (write_row (w.heap.size + 1 + 1) (absorbL dg0 (concat rows t)) (V t) (rows t) wA wr (by rw [HA.out]; exact hBr) (by rw [HA.out]; omega) HRow.out hGr (by rw [absorbL_n]; show ((0 + (concat rows t).length : Nat) : Int) + _ ≤ _; omega)).mono ?_
      rintro e w' ⟨rfl, hG', hB'⟩
      rw [HA.out] at hB'
      rw [← absorbL_append] at hG'
      go_wp2
      go_roundw
      case rel => exact ⟨t + 1, by omega, by go_num, hG', hB'⟩
      case measure => simp [intOf]; omega
    · obtain rfl : t = m := by omega
      go_wp2_with fail
      refine (sum_any (w.heap.size + 1 + 1) (absorbL dg0 (concat rows t)) wr hGr (by rw [absorbL_n]; show ((0 + (concat rows t).length : Nat) : Int) ≤ _; omega)).mono ?_
      rintro e w5 ⟨rfl, hB5⟩
      have hr5 : Blk w5 w.heap.size 25 (bytesA 32 fun _ => 0) := (hR.below hBr (by omega)).below hB5 (by have := hGr.lt; omega)
      have hB5' : Below w.heap.size w w5 := hbA.trans ((hBr.mono (by omega)).trans (hB5.mono (by have := hGr.lt; omega)))
      obtain ⟨c, hc⟩ : ∃ c, Keep (c = sumF (absorbL dg0 (concat rows t))) := ⟨_, ⟨rfl⟩⟩
      rw [← hc.out]
      go_wp2_with (refine wpList_store_row rfl 25 (.tmp 2) (.tmp 18) rfl w.heap.size (bytesA 32 c) rfl rfl 25 (bytesA 32 fun _ => 0) hr5 (Try.size25B _) (bytesA_sizes _ _ _) (bytesA_one _ _) ?_)
      exact bodyPost_ret (v := .agg (bytesA 32 c)) (results_cell_row Try.results41 _ _ w.heap.size 25 _ (0, 0) _ rfl (hr5.setRow _) Try.underlying25 rfl (Try.size25B _)) rfl ⟨by rw [hc.out]; rfl, below_setRow hB5' (Nat.le_refl _) _⟩

theorem bits_or_comm (k : IntKind) (a b : Int) : bits .or k a b = bits .or k b a := by
  simp only [bits, BitVec.or_comm]
theorem rot_swap (x n : Int) : bits .or .u32 (x / 2 ^ n.toNat) (x * 2 ^ (32 - n).toNat % 4294967296) = rot x n := by
  rw [bits_or_comm]; rfl

set_option maxRecDepth 8000 in
set_option maxHeartbeats 400000 in
theorem turned_any (x n : Int) (w : World) (h1 : 1 ≤ n) (h2 : n ≤ 31) :
    Calls Try.prog 65 #[.int .u32 x, .int .i64 n] w fun e w' => e = .returned (.int .u32 (rot x n)) ∧ ∃ k, w' = w.drewN k := by
  have hs : 32 - n ≤ 32 := by omega
  have hs0 : 0 ≤ 32 - n := by omega
  have hn0 : 0 ≤ n := by omega
  have hn1 : n ≤ 32 := by omega
  go_enter Try.func65, Try.ntmps65
  go_wp2
  go_quiet (fail)
  go_wp2
  go_ret
  refine ⟨?_, nq, rfl⟩
  rw [← rot_swap]
  rfl

theorem nextW_flat (c : Nat → Int) (t : Nat) : nextW c t = (c (t - 16) + sig0 (c (t - 15)) + c (t - 7) + sig1 (c (t - 2))) % 4294967296 := by
  unfold nextW
  generalize sig0 (c (t - 15)) = x
  generalize sig1 (c (t - 2)) = y
  omega

set_option maxRecDepth 8000 in
set_option maxHeartbeats 2000000 in
theorem words_any (b : Nat → Int) (h off cap : Nat) (w : World) (hx : ∀ i, i < 64 → w.cell? ⟨h, off + i, none⟩ = some (.int .u8 (b i))) :
    Calls Try.prog 64 #[.slice (some ⟨h, off, none⟩) 64 cap] w fun e w' => e = .returned (.agg (wordsA 64 (sched b 64))) ∧ Below w.heap.size w w' := by
  have HX : Keep (∀ i, i < 64 → w.cell? ⟨h, off + i, none⟩ = some (.int .u8 (b i))) := ⟨hx⟩
  have hhlt := cell_lt (hx 0 (by omega))
  clear hx
  have HC : Keep (Blk ((w.alloc (.cells (wordsA 64 fun _ => 0) 84)).alloc (.cells (wordsA 64 fun _ => 0) 84)) (w.heap.size + 1) 84 (wordsA 64 fun _ => 0)) := ⟨by
    have h := Blk.new (w.alloc (.cells (wordsA 64 fun _ => 0) 84)) 84 (wordsA 64 fun _ => 0)
    simp only [World.size_alloc] at h; exact h⟩
  have hR := ((Blk.new w 84 (wordsA 64 fun _ => 0)).alloc (.cells (wordsA 64 fun _ => 0) 84)).setRow_ne (b' := w.heap.size + 1) (by omega) (wordsA 64 fun _ => 0)
  have hW := HC.out.setRow (wordsA 64 fun _ => 0)
  have hB : Below w.heap.size w (((w.alloc (.cells (wordsA 64 fun _ => 0) 84)).alloc (.cells (wordsA 64 fun _ => 0) 84)).setRow (w.heap.size + 1) (wordsA 64 fun _ => 0)) :=
    below_setRow (((Below.refl _ _).alloc (Nat.le_refl _) _).alloc (by simp) _) (by omega) _
  go_enter Try.func64, Try.ntmps64
  go_wp2_with (first | (refine wpList_new rfl 84 rfl _ Try.new84 ?_) | (refine wpList_bld rfl 84 _ rfl (wordsA 64 fun _ => 0) (by kernel_rfl) ?_; refine wpList_new rfl 84 rfl _ Try.new84 ?_; refine wpList_store_row rfl 84 (.tmp 3) (.tmp 8) rfl (w.heap.size + 1) (wordsA 64 fun _ => 0) (by simp [Act.put, Act.eval]) rfl 84 (wordsA 64 fun _ => 0) HC.out (Try.size84W _) (wordsA_sizes _ _ _) (wordsA_one _ _) ?_))
  generalize (((w.alloc (.cells (wordsA 64 fun _ => 0) 84)).alloc (.cells (wordsA 64 fun _ => 0) 84)).setRow (w.heap.size + 1) (wordsA 64 fun _ => 0)) = w0 at *
  clear HC
  go_loopw [4] (fun i wr => ∃ t : Nat, t ≤ 16 ∧ i = .int .i64 t ∧ Blk wr w.heap.size 84 (wordsA 64 fun _ => 0) ∧ Blk wr (w.heap.size + 1) 84 (wordsA 64 (sched b t)) ∧ Below w.heap.size w wr) (fun i _ => 16 - (intOf i).toNat)
  case atStart => exact ⟨0, by omega, rfl, hR, hW, hB⟩
  case round =>
    clear hR hW hB
    obtain ⟨t, ht, rfl, hR, hW, hB⟩ := hrel
    by_cases hlt : t < 16
    · have hlt' : (t : Int) < 16 := by omega
      have e0 : wr.cell? ⟨h, off + 4 * t, none⟩ = some (.int .u8 (b (4 * t))) := by rw [hB.cell (p := ⟨h, off + 4 * t, none⟩) hhlt]; exact HX.out _ (by omega)
      have e1 : wr.cell? ⟨h, off + (4 * t + 1), none⟩ = some (.int .u8 (b (4 * t + 1))) := by rw [hB.cell (p := ⟨h, off + (4 * t + 1), none⟩) hhlt]; exact HX.out _ (by omega)
      have e2 : wr.cell? ⟨h, off + (4 * t + 2), none⟩ = some (.int .u8 (b (4 * t + 2))) := by rw [hB.cell (p := ⟨h, off + (4 * t + 2), none⟩) hhlt]; exact HX.out _ (by omega)
      have e3 : wr.cell? ⟨h, off + (4 * t + 3), none⟩ = some (.int .u8 (b (4 * t + 3))) := by rw [hB.cell (p := ⟨h, off + (4 * t + 3), none⟩) hhlt]; exact HX.out _ (by omega)
      have e4 : wr.cell? ⟨w.heap.size + 1, t, none⟩ = some (.int .u32 (sched b t t)) := by rw [hW.cell, wordsA_get _ _ _ (by omega)]
      have e5 : wr.frozen? ⟨w.heap.size + 1, t, none⟩ = false := hW.frozen t
      go_wp2
      go_region
      go_wp2
      go_roundw
      case rel => exact ⟨t + 1, by omega, by go_num, (hR.set_ne (by omega) _).drew, by
        have h := (hW.set t (.int .u32 (be32 b t))).drew
        rw [wordsA_set] at h
        simp only [sched, if_pos hlt]; exact h, (hB.setCell (by show w.heap.size ≤ w.heap.size + 1; omega) _).drew⟩
      case measure => simp [intOf]; omega
    · obtain rfl : t = 16 := by omega
      clear hlt ht HX hhlt
      go_wp2
      go_loopw [5] (fun i wr => ∃ t : Nat, 16 ≤ t ∧ t ≤ 64 ∧ i = .int .i64 t ∧ Blk wr w.heap.size 84 (wordsA 64 fun _ => 0) ∧ Blk wr (w.heap.size + 1) 84 (wordsA 64 (sched b t)) ∧ Below w.heap.size w wr) (fun i _ => 64 - (intOf i).toNat)
      case atStart => exact ⟨16, by omega, by omega, rfl, hR, hW, hB⟩
      case round =>
        clear hR hW hB
        obtain ⟨t, ht0, ht, rfl, hR, hW, hB⟩ := hrel
        by_cases hlt : t < 64
        · have e16 : wr.cell? ⟨w.heap.size + 1, t - 16, none⟩ = some (.int .u32 (sched b t (t - 16))) := by rw [hW.cell, wordsA_get _ _ _ (by omega)]
          have e15 : wr.cell? ⟨w.heap.size + 1, t - 15, none⟩ = some (.int .u32 (sched b t (t - 15))) := by rw [hW.cell, wordsA_get _ _ _ (by omega)]
          have e7 : wr.cell? ⟨w.heap.size + 1, t - 7, none⟩ = some (.int .u32 (sched b t (t - 7))) := by rw [hW.cell, wordsA_get _ _ _ (by omega)]
          have e2 : wr.cell? ⟨w.heap.size + 1, t - 2, none⟩ = some (.int .u32 (sched b t (t - 2))) := by rw [hW.cell, wordsA_get _ _ _ (by omega)]
          have e0 : wr.cell? ⟨w.heap.size + 1, t, none⟩ = some (.int .u32 (sched b t t)) := by rw [hW.cell, wordsA_get _ _ _ (by omega)]
          have ef : wr.frozen? ⟨w.heap.size + 1, t, none⟩ = false := hW.frozen t
          have hlt' : (t : Int) < 64 := by omega
          have ht0' : (16 : Int) ≤ (t : Int) := by omega
          go_wp2
          go_quiet (fail)
          go_wp2_with (go_at_call 65; refine (turned_any _ _ _ (by omega) (by omega)).mono ?_; rintro e w' ⟨rfl, k, rfl⟩)
          go_region
          go_wp2
          go_roundw
          case rel =>
            go_tidy
            try simp only [IntKind.wrap_u32']
            repeat apply Exists.intro
            refine ⟨?_, rfl⟩
            have hv : Keep (Blk (wr.setCell ⟨w.heap.size + 1, t, none⟩ (.int .u32 ((sched b t (t - 16) + sig0 (sched b t (t - 15)) + sched b t (t - 7) + sig1 (sched b t (t - 2))) % 4294967296))) (w.heap.size + 1) 84 (wordsA 64 (sched b (t + 1)))) := ⟨by
              have h := hW.set t (.int .u32 (nextW (sched b t) t))
              rw [wordsA_set] at h
              rw [← nextW_flat]
              simp only [sched, if_neg (show ¬ t < 16 by omega)]; exact h⟩
            exact ⟨t + 1, by omega, by omega, by go_num, (blk_drewN hR _).set_ne (by omega) _, hv.out, (below_drewN hB _).setCell (by show w.heap.size ≤ w.heap.size + 1; omega) _⟩
          case measure => simp [intOf]; omega
        · obtain rfl : t = 64 := by omega
          clear hlt ht ht0
          obtain ⟨c, hc⟩ : ∃ c, Keep (c = sched b 64) := ⟨_, ⟨rfl⟩⟩
          rw [← hc.out] at hW
          go_wp2_with (refine wpList_load_row rfl 84 (.tmp 3) rfl (w.heap.size + 1) rfl 84 (wordsA 64 c) (0, 0) (.array 64 81) hW Try.underlying84 rfl (Try.size84W _) ?_; refine wpList_store_row rfl 84 (.tmp 2) (.tmp 91) rfl w.heap.size (wordsA 64 c) rfl rfl 84 (wordsA 64 fun _ => 0) hR (Try.size84W _) (wordsA_sizes _ _ _) (wordsA_one _ _) ?_)
          exact bodyPost_ret (v := .agg (wordsA 64 c)) (results_cell_row Try.results64 _ _ w.heap.size 84 _ (0, 0) _ rfl (hR.setRow _) Try.underlying84 rfl (Try.size84W _)) rfl ⟨by rw [hc.out], below_setRow hB (Nat.le_refl _) _⟩
def r8F (r : R8) (i : Nat) : Int := [r.a, r.b, r.c, r.d, r.e, r.f, r.g, r.h].getD i 0
def addUp (s v : Nat → Int) : Nat → (Nat → Int)
  | 0 => s
  | t + 1 => upd (addUp s v t) t ((addUp s v t t + v t) % 4294967296)

theorem wordsA_congr {n : Nat} {f g : Nat → Int} (h : ∀ i, i < n → f i = g i) : wordsA n f = wordsA n g := by
  unfold wordsA; congr 1; funext i; rw [h i.val i.isLt]
theorem addUp_out (s : Nat → Int) (r : R8) : wordsA 8 (addUp s (r8F r) 8) = wordsA 8 (outF s r) := by
  apply wordsA_congr
  intro i hi
  match i, hi with
  | 0, _ => rfl
  | 1, _ => rfl
  | 2, _ => rfl
  | 3, _ => rfl
  | 4, _ => rfl
  | 5, _ => rfl
  | 6, _ => rfl
  | 7, _ => rfl

set_option maxRecDepth 8000 in
set_option maxHeartbeats 2000000 in
theorem piece_any (s b : Nat → Int) (h off cap : Nat) (w : World) (hx : ∀ i, i < 64 → w.cell? ⟨h, off + i, none⟩ = some (.int .u8 (b i))) :
    Calls Try.prog 45 #[.agg (wordsA 8 s), .slice (some ⟨h, off, none⟩) 64 cap, .agg (wordsA 64 roundsF)] w fun e w' => e = .returned (.agg (wordsA 8 (mixF s b))) ∧ Below w.heap.size w w' := by
  have hhlt := cell_lt (hx 0 (by omega))
  have hB0 : Below w.heap.size w (((w.alloc (.cells (wordsA 8 s) 82)).alloc (.cells (wordsA 64 roundsF) 84)).alloc (.cells (wordsA 8 fun _ => 0) 82)) :=
    (((Below.refl _ _).alloc (Nat.le_refl _) _).alloc (by simp) _).alloc (by simp; omega) _
  have hS := ((Blk.new w 82 (wordsA 8 s)).alloc (.cells (wordsA 64 roundsF) 84)).alloc (.cells (wordsA 8 fun _ => 0) 82)
  have hK := (Blk.new (w.alloc (.cells (wordsA 8 s) 82)) 84 (wordsA 64 roundsF)).alloc (.cells (wordsA 8 fun _ => 0) 82)
  have hR := Blk.new ((w.alloc (.cells (wordsA 8 s) 82)).alloc (.cells (wordsA 64 roundsF) 84)) 82 (wordsA 8 fun _ => 0)
  simp only [World.size_alloc] at hK hR
  have HX : Keep (∀ i, i < 64 → (((w.alloc (.cells (wordsA 8 s) 82)).alloc (.cells (wordsA 64 roundsF) 84)).alloc (.cells (wordsA 8 fun _ => 0) 82)).cell? ⟨h, off + i, none⟩ = some (.int .u8 (b i))) :=
    ⟨fun i hi => by rw [hB0.cell (p := ⟨h, off + i, none⟩) hhlt]; exact hx i hi⟩
  clear hx
  go_enter Try.func45, Try.ntmps45
  go_wp2_with (first | (refine wpList_boxA rfl 82 (.tmp 0) rfl (wordsA 8 s) rfl ?_; refine wpList_boxA rfl 84 (.tmp 2) rfl (wordsA 64 roundsF) rfl ?_; refine wpList_new rfl 82 rfl _ Try.new82 ?_; simp only [Act.put, List.setIfInBounds_toArray, List.set_cons_succ, List.set_cons_zero, World.size_alloc]))
  generalize (((w.alloc (.cells (wordsA 8 s) 82)).alloc (.cells (wordsA 64 roundsF) 84)).alloc (.cells (wordsA 8 fun _ => 0) 82)) = w0 at *
  refine (words_any b h off cap w0 HX.out).mono ?_
  rintro e w1 ⟨rfl, hB1⟩
  have hsz0 : w.heap.size + 3 ≤ w0.heap.size := by have := hR.lt; omega
  have hS1 := hS.below hB1 hS.lt
  have hK1 := hK.below hB1 hK.lt
  have hR1 := hR.below hB1 hR.lt
  have hB1' := hB0.trans (hB1.mono hB0.size)
  have hsz1 := hB1.size
  obtain ⟨c, hc⟩ : ∃ c, Keep (c = sched b 64) := ⟨_, ⟨rfl⟩⟩
  rw [← hc.out]
  clear hS hK hR hB0 hB1 HX hhlt
  have hW2 : Blk (w1.alloc (.cells (wordsA 64 c) 84)) w1.heap.size 84 (wordsA 64 c) := Blk.new _ _ _
  have HZ : Keep (Blk (w1.alloc (.cells (wordsA 64 fun _ => 0) 84)) w1.heap.size 84 (wordsA 64 fun _ => 0)) := ⟨Blk.new _ _ _⟩
  have HS2 : Keep (Blk (w1.alloc (.cells (wordsA 64 c) 84)) w.heap.size 82 (wordsA 8 s)) := ⟨hS1.alloc _⟩
  have HZ2 : Keep (Blk ((w1.alloc (.cells (wordsA 64 c) 84)).alloc (.cells (wordsA 8 fun _ => 0) 82)) (w1.heap.size + 1) 82 (wordsA 8 fun _ => 0)) := ⟨by
    have h := Blk.new (w1.alloc (.cells (wordsA 64 c) 84)) 82 (wordsA 8 fun _ => 0)
    simp only [World.size_alloc] at h; exact h⟩
  have hV3 := HZ2.out.setRow (wordsA 8 s)
  have hS3 := (HS2.out.alloc (.cells (wordsA 8 fun _ => 0) 82)).setRow_ne (b' := w1.heap.size + 1) (by have := hS1.lt; omega) (wordsA 8 s)
  have hK3 := ((hK1.alloc (.cells (wordsA 64 c) 84)).alloc (.cells (wordsA 8 fun _ => 0) 82)).setRow_ne (b' := w1.heap.size + 1) (by have := hK1.lt; omega) (wordsA 8 s)
  have hR3 := ((hR1.alloc (.cells (wordsA 64 c) 84)).alloc (.cells (wordsA 8 fun _ => 0) 82)).setRow_ne (b' := w1.heap.size + 1) (by have := hR1.lt; omega) (wordsA 8 s)
  have hW3 := (hW2.alloc (.cells (wordsA 8 fun _ => 0) 82)).setRow_ne (b' := w1.heap.size + 1) (by omega) (wordsA 8 s)
  have hB3 : Below w.heap.size w (((w1.alloc (.cells (wordsA 64 c) 84)).alloc (.cells (wordsA 8 fun _ => 0) 82)).setRow (w1.heap.size + 1) (wordsA 8 s)) :=
    below_setRow ((hB1'.alloc (by omega) _).alloc (by simp; omega) _) (by omega) _
  clear hS1 hK1 hR1 hB1' hW2
  go_wp2_with (first | (refine wpList_new rfl 84 rfl _ Try.new84 ?_; refine wpList_store_row rfl 84 (.tmp 7) (.tmp 16) rfl w1.heap.size (wordsA 64 c) rfl rfl 84 (wordsA 64 fun _ => 0) HZ.out (Try.size84W _) (wordsA_sizes _ _ _) (wordsA_one _ _) ?_; rw [World.setRow_alloc_new]) | (refine wpList_load_row rfl 82 (.tmp 3) rfl w.heap.size rfl 82 (wordsA 8 s) (0, 0) (.array 8 81) HS2.out Try.underlying82 rfl (Try.size82W _) ?_; refine wpList_new rfl 82 rfl _ Try.new82 ?_; refine wpList_store_row rfl 82 (.tmp 8) (.tmp 17) rfl (w1.heap.size + 1) (wordsA 8 s) (by simp [Act.put, Act.eval]) rfl 82 (wordsA 8 fun _ => 0) HZ2.out (Try.size82W _) (wordsA_sizes _ _ _) (wordsA_one _ _) ?_; simp only [Act.put, List.setIfInBounds_toArray, List.set_cons_succ, List.set_cons_zero, World.size_alloc]))
  generalize (((w1.alloc (.cells (wordsA 64 c) 84)).alloc (.cells (wordsA 8 fun _ => 0) 82)).setRow (w1.heap.size + 1) (wordsA 8 s)) = w3 at *
  go_loopw [9] (fun i wr => ∃ t : Nat, t ≤ 64 ∧ i = .int .i64 t ∧ Blk wr (w1.heap.size + 1) 82 (wordsA 8 (r8F (runF roundsF c (r8 s) t))) ∧ Blk wr w.heap.size 82 (wordsA 8 s) ∧ Blk wr (w.heap.size + 1) 84 (wordsA 64 roundsF) ∧ Blk wr (w.heap.size + 1 + 1) 82 (wordsA 8 fun _ => 0) ∧ Blk wr w1.heap.size 84 (wordsA 64 c) ∧ Below w.heap.size w wr) (fun i _ => 64 - (intOf i).toNat)
  case atStart => exact ⟨0, by omega, rfl, hV3, hS3, hK3, hR3, hW3, hB3⟩
  case round =>
    clear hV3 hS3 hK3 hR3 hW3 hB3 HZ HS2 HZ2
    obtain ⟨t, ht, rfl, hV, hS, hK, hR, hW, hB⟩ := hrel
    obtain ⟨r, hr⟩ : ∃ r, Keep (r = runF roundsF c (r8 s) t) := ⟨_, ⟨rfl⟩⟩
    rw [← hr.out] at hV
    obtain ⟨ra, rb, rc, rd, re, rf, rg, rh⟩ := r
    by_cases hlt : t < 64
    · have hlt' : (t : Int) < 64 := by omega
      have eg : wr.cell? ⟨w.heap.size + 1, t, none⟩ = some (.int .u32 (roundsF t)) := by rw [hK.cell, wordsA_get _ _ _ (by omega)]
      have ek : wr.cell? ⟨w1.heap.size, t, none⟩ = some (.int .u32 (c t)) := by rw [hW.cell, wordsA_get _ _ _ (by omega)]
      have v0 : wr.cell? ⟨w1.heap.size + 1, 0, none⟩ = some (.int .u32 ra) := by rw [hV.cell, wordsA_get _ _ _ (by omega)]; rfl
      have v1 : wr.cell? ⟨w1.heap.size + 1, 1, none⟩ = some (.int .u32 rb) := by rw [hV.cell, wordsA_get _ _ _ (by omega)]; rfl
      have v2 : wr.cell? ⟨w1.heap.size + 1, 2, none⟩ = some (.int .u32 rc) := by rw [hV.cell, wordsA_get _ _ _ (by omega)]; rfl
      have v3 : wr.cell? ⟨w1.heap.size + 1, 3, none⟩ = some (.int .u32 rd) := by rw [hV.cell, wordsA_get _ _ _ (by omega)]; rfl
      have v4 : wr.cell? ⟨w1.heap.size + 1, 4, none⟩ = some (.int .u32 re) := by rw [hV.cell, wordsA_get _ _ _ (by omega)]; rfl
      have v5 : wr.cell? ⟨w1.heap.size + 1, 5, none⟩ = some (.int .u32 rf) := by rw [hV.cell, wordsA_get _ _ _ (by omega)]; rfl
      have v6 : wr.cell? ⟨w1.heap.size + 1, 6, none⟩ = some (.int .u32 rg) := by rw [hV.cell, wordsA_get _ _ _ (by omega)]; rfl
      have v7 : wr.cell? ⟨w1.heap.size + 1, 7, none⟩ = some (.int .u32 rh) := by rw [hV.cell, wordsA_get _ _ _ (by omega)]; rfl
      obtain ⟨kt, hkt⟩ : ∃ kt, Keep (kt = roundsF t) := ⟨_, ⟨rfl⟩⟩
      obtain ⟨wt, hwt⟩ : ∃ wt, Keep (wt = c t) := ⟨_, ⟨rfl⟩⟩
      rw [← hkt.out] at eg
      rw [← hwt.out] at ek
      go_wp2
      go_quiet (fail)
      have v0a : (wr.drewN nq).cell? ⟨w1.heap.size + 1, 0, none⟩ = some (.int .u32 ra) := v0
      have v1a : (wr.drewN nq).cell? ⟨w1.heap.size + 1, 1, none⟩ = some (.int .u32 rb) := v1
      have v2a : (wr.drewN nq).cell? ⟨w1.heap.size + 1, 2, none⟩ = some (.int .u32 rc) := v2
      have v3a : (wr.drewN nq).cell? ⟨w1.heap.size + 1, 3, none⟩ = some (.int .u32 rd) := v3
      have v4a : (wr.drewN nq).cell? ⟨w1.heap.size + 1, 4, none⟩ = some (.int .u32 re) := v4
      have v5a : (wr.drewN nq).cell? ⟨w1.heap.size + 1, 5, none⟩ = some (.int .u32 rf) := v5
      have v6a : (wr.drewN nq).cell? ⟨w1.heap.size + 1, 6, none⟩ = some (.int .u32 rg) := v6
      have v7a : (wr.drewN nq).cell? ⟨w1.heap.size + 1, 7, none⟩ = some (.int .u32 rh) := v7
      have ega : (wr.drewN nq).cell? ⟨w.heap.size + 1, t, none⟩ = some (.int .u32 kt) := eg
      have eka : (wr.drewN nq).cell? ⟨w1.heap.size, t, none⟩ = some (.int .u32 wt) := ek
      have hVa := blk_drewN hV nq
      have hSa := blk_drewN hS nq
      have hKa := blk_drewN hK nq
      have hRa := blk_drewN hR nq
      have hWa := blk_drewN hW nq
      have hBa := below_drewN hB nq
      clear v0 v1 v2 v3 v4 v5 v6 v7 eg ek hV hS hK hR hW hB
      generalize wr.drewN nq = wa at *
      clear nq
      go_wp2
      go_quiet ((go_at_call 65; exact Calls.quiet_of (turned_any _ _ _ (by omega) (by omega))))
      have v0b : (wa.drewN nq).cell? ⟨w1.heap.size + 1, 0, none⟩ = some (.int .u32 ra) := v0a
      have v1b : (wa.drewN nq).cell? ⟨w1.heap.size + 1, 1, none⟩ = some (.int .u32 rb) := v1a
      have v2b : (wa.drewN nq).cell? ⟨w1.heap.size + 1, 2, none⟩ = some (.int .u32 rc) := v2a
      have v3b : (wa.drewN nq).cell? ⟨w1.heap.size + 1, 3, none⟩ = some (.int .u32 rd) := v3a
      have v4b : (wa.drewN nq).cell? ⟨w1.heap.size + 1, 4, none⟩ = some (.int .u32 re) := v4a
      have v5b : (wa.drewN nq).cell? ⟨w1.heap.size + 1, 5, none⟩ = some (.int .u32 rf) := v5a
      have v6b : (wa.drewN nq).cell? ⟨w1.heap.size + 1, 6, none⟩ = some (.int .u32 rg) := v6a
      have v7b : (wa.drewN nq).cell? ⟨w1.heap.size + 1, 7, none⟩ = some (.int .u32 rh) := v7a
      have egb : (wa.drewN nq).cell? ⟨w.heap.size + 1, t, none⟩ = some (.int .u32 kt) := ega
      have ekb : (wa.drewN nq).cell? ⟨w1.heap.size, t, none⟩ = some (.int .u32 wt) := eka
      have hVb := blk_drewN hVa nq
      have hSb := blk_drewN hSa nq
      have hKb := blk_drewN hKa nq
      have hRb := blk_drewN hRa nq
      have hWb := blk_drewN hWa nq
      have hBb := below_drewN hBa nq
      clear v0a v1a v2a v3a v4a v5a v6a v7a ega eka hVa hSa hKa hRa hWa hBa
      generalize wa.drewN nq = wb at *
      clear nq
      go_wp2
      go_quiet ((go_at_call 65; exact Calls.quiet_of (turned_any _ _ _ (by omega) (by omega))))
      have v0c : (wb.drewN nq).cell? ⟨w1.heap.size + 1, 0, none⟩ = some (.int .u32 ra) := v0b
      have v1c : (wb.drewN nq).cell? ⟨w1.heap.size + 1, 1, none⟩ = some (.int .u32 rb) := v1b
      have v2c : (wb.drewN nq).cell? ⟨w1.heap.size + 1, 2, none⟩ = some (.int .u32 rc) := v2b
      have v3c : (wb.drewN nq).cell? ⟨w1.heap.size + 1, 3, none⟩ = some (.int .u32 rd) := v3b
      have v4c : (wb.drewN nq).cell? ⟨w1.heap.size + 1, 4, none⟩ = some (.int .u32 re) := v4b
      have v5c : (wb.drewN nq).cell? ⟨w1.heap.size + 1, 5, none⟩ = some (.int .u32 rf) := v5b
      have v6c : (wb.drewN nq).cell? ⟨w1.heap.size + 1, 6, none⟩ = some (.int .u32 rg) := v6b
      have v7c : (wb.drewN nq).cell? ⟨w1.heap.size + 1, 7, none⟩ = some (.int .u32 rh) := v7b
      have egc : (wb.drewN nq).cell? ⟨w.heap.size + 1, t, none⟩ = some (.int .u32 kt) := egb
      have ekc : (wb.drewN nq).cell? ⟨w1.heap.size, t, none⟩ = some (.int .u32 wt) := ekb
      have hVc := blk_drewN hVb nq
      have hSc := blk_drewN hSb nq
      have hKc := blk_drewN hKb nq
      have hRc := blk_drewN hRb nq
      have hWc := blk_drewN hWb nq
      have hBc := below_drewN hBb nq
      clear v0b v1b v2b v3b v4b v5b v6b v7b egb ekb hVb hSb hKb hRb hWb hBb
      generalize wb.drewN nq = wc at *
      clear nq
      go_wp2_with (refine wpList_bld rfl 82 _ rfl (wordsA 8 (r8F (stepF kt wt ⟨ra, rb, rc, rd, re, rf, rg, rh⟩))) (by kernel_rfl) ?_; refine wpList_store_row rfl 82 (.tmp 8) (.tmp 99) rfl (w1.heap.size + 1) (wordsA 8 (r8F (stepF kt wt ⟨ra, rb, rc, rd, re, rf, rg, rh⟩))) rfl rfl 82 (wordsA 8 (r8F ⟨ra, rb, rc, rd, re, rf, rg, rh⟩)) hVc (Try.size82W _) (wordsA_sizes _ _ _) (wordsA_one _ _) ?_)
      go_roundw
      case rel =>
        have hn : runF roundsF c (r8 s) (t + 1) = stepF kt wt ⟨ra, rb, rc, rd, re, rf, rg, rh⟩ := by rw [hkt.out, hwt.out, hr.out]; rfl
        have ne0 : w.heap.size ≠ w1.heap.size + 1 := by omega
        have ne1 : w.heap.size + 1 ≠ w1.heap.size + 1 := by omega
        have ne2 : w.heap.size + 1 + 1 ≠ w1.heap.size + 1 := by omega
        exact ⟨t + 1, by omega, by go_num, by rw [hn]; exact hVc.setRow _, hSc.setRow_ne ne0 _, hKc.setRow_ne ne1 _, hRc.setRow_ne ne2 _, hWc.setRow_ne (by omega) _, below_setRow hBc (by omega) _⟩
      case measure => simp [intOf]; omega
    · obtain rfl : t = 64 := by omega
      clear hlt ht hK hW
      have hfin : Keep (mixF s b = outF s ⟨ra, rb, rc, rd, re, rf, rg, rh⟩) := ⟨by unfold mixF; rw [← hc.out, ← hr.out]⟩
      obtain ⟨v, hv⟩ : ∃ v, Keep (v = r8F ⟨ra, rb, rc, rd, re, rf, rg, rh⟩) := ⟨_, ⟨rfl⟩⟩
      rw [← hv.out] at hV
      go_wp2
      go_loopw [14] (fun i wr => ∃ t : Nat, t ≤ 8 ∧ i = .int .i64 t ∧ Blk wr (w1.heap.size + 1) 82 (wordsA 8 v) ∧ Blk wr w.heap.size 82 (wordsA 8 (addUp s v t)) ∧ Blk wr (w.heap.size + 1 + 1) 82 (wordsA 8 fun _ => 0) ∧ Below w.heap.size w wr) (fun i _ => 8 - (intOf i).toNat)
      case atStart => exact ⟨0, by omega, rfl, hV, hS, hR, hB⟩
      case round =>
        clear hV hS hR hB
        obtain ⟨t, ht, rfl, hV, hS, hR, hB⟩ := hrel
        by_cases hlt : t < 8
        · have hlt' : (t : Int) < 8 := by omega
          have c1 : wr.cell? ⟨w.heap.size, t, none⟩ = some (.int .u32 (addUp s v t t)) := by rw [hS.cell, wordsA_get _ _ _ (by omega)]
          have c2 : wr.cell? ⟨w1.heap.size + 1, t, none⟩ = some (.int .u32 (v t)) := by rw [hV.cell, wordsA_get _ _ _ (by omega)]
          have c3 : wr.frozen? ⟨w.heap.size, t, none⟩ = false := hS.frozen t
          go_wp2
          go_region
          go_wp2
          go_roundw
          case rel =>
            have h := hS.set t (.int .u32 ((addUp s v t t + v t) % 4294967296))
            rw [wordsA_set] at h
            exact ⟨t + 1, by omega, by go_num, (hV.set_ne (by omega) _).drew, h.drew, (hR.set_ne (by omega) _).drew, (hB.setCell (Nat.le_refl _) _).drew⟩
          case measure => simp [intOf]; omega
        · obtain rfl : t = 8 := by omega
          clear hlt ht
          obtain ⟨d, hd⟩ : ∃ d, Keep (d = addUp s v 8) := ⟨_, ⟨rfl⟩⟩
          rw [← hd.out] at hS
          go_wp2_with (refine wpList_load_row rfl 82 (.tmp 3) rfl w.heap.size rfl 82 (wordsA 8 d) (0, 0) (.array 8 81) hS Try.underlying82 rfl (Try.size82W _) ?_; refine wpList_store_row rfl 82 (.tmp 6) (.tmp 112) rfl (w.heap.size + 1 + 1) (wordsA 8 d) rfl rfl 82 (wordsA 8 fun _ => 0) hR (Try.size82W _) (wordsA_sizes _ _ _) (wordsA_one _ _) ?_)
          exact bodyPost_ret (v := .agg (wordsA 8 d)) (results_cell_row Try.results45 _ _ (w.heap.size + 1 + 1) 82 _ (0, 0) _ rfl (hR.setRow _) Try.underlying82 rfl (Try.size82W _)) rfl ⟨by rw [hfin.out, hd.out, hv.out, addUp_out], below_setRow hB (by omega) _⟩
theorem owns_nil (w : World) (base : Nat) : w.ownsRow base 5 1 (.slice none 0 0) 0 [] := ⟨rfl, .inl ⟨rfl, rfl⟩⟩
theorem wpList_appR {ops : Array Oper} {rest : List Oper} {o : Oper} {a : Act} {w : World} {Q : Exit → Act → World → Prop} (hgd : o.guard = none) (s x : Operand)
    (ho : o.op = .call { callee := .builtin .append, args := #[s, x], argTypes := #[38, 38] }) (base : Nat) (v vx : Value) (n : Nat) (xs : List Value) (l : List Int)
    (hs : a.eval s = v) (hx : a.eval x = vx) (hown : w.ownsRow base 5 1 v n xs) (hrow : RowAt w vx l) (hb : n + l.length ≤ 140737488355328) (hbase : base ≤ w.heap.size)
    (h : ∀ v' w', w'.ownsRow base 5 1 v' (n + l.length) (xs ++ bv l) → w.grownBy w' v.ownBlock → wpList Try.prog ops Q rest (a.put o.dst v') w') : wpList Try.prog ops Q (o :: rest) a w := by
  obtain ⟨i, hi, hzz⟩ := Option.map_eq_some_iff.1 Try.info5
  simp only [Prod.mk.injEq] at hzz
  obtain ⟨hz, hsz, hby⟩ := hzz
  rcases hrow with ⟨rfl, rfl⟩ | ⟨ad, c, rfl, rfl⟩ | ⟨b, off, cap, rfl, hcap, hc⟩
  · refine wpList_append_own_none hgd s x 38 ho base 5 i 1 Try.underlying38 hi v n xs hs hown hx (h v w ?_ (World.grownBy.refl w _))
    simpa [bv] using hown
  · refine wpList_append_own w hgd s x 38 ho base 5 i (.int .u8 0) 1 1 Try.underlying38 hi hz hsz hby rfl (by omega) v n xs hs hown ad 0 c [] hx rfl (fun j u hu => by simp at hu) (fun u hu => by simp at hu) (by unfold maxLen; simp at hb; omega) (by simp at hb; omega) hbase ?_
    intro v' w' h1 h2 _
    exact h v' w' h1 h2
  · refine wpList_append_own w hgd s x 38 ho base 5 i (.int .u8 0) 1 1 Try.underlying38 hi hz hsz hby rfl (by omega) v n xs hs hown ⟨b, off, none⟩ l.length cap (bv l) hx (by rw [bv_len]; omega)
      (fun j u hu => by
        have hj : j < l.length := by have := (List.getElem?_eq_some_iff.1 hu).1; rwa [bv_len] at this
        rw [bv_get l j hj] at hu
        rw [Addr.add_mid, hc j hj]; exact hu)
      (fun u hu => by simp [bv] at hu; obtain ⟨_, _, rfl⟩ := hu; rfl) (by unfold maxLen; omega) (by omega) hbase ?_
    intro v' w' h1 h2 _
    exact h v' w' h1 h2

theorem owns_form {w : World} {base : Nat} {v : Value} {n : Nat} {xs : List Value} (h : w.ownsRow base 5 1 v n xs) (hn : 0 < n) : ∃ g cap, v = .slice (some ⟨g, 0, none⟩) n cap ∧ base ≤ g ∧ n ≤ cap := by
  obtain ⟨_, h2⟩ := h
  rcases h2 with ⟨_, h0⟩ | ⟨g, cap, cur, e, hg, _, hc, _⟩
  · omega
  · exact ⟨g, cap, e, hg, hc⟩
theorem owns_block {w : World} {base : Nat} {v : Value} {n : Nat} {xs : List Value} (h : w.ownsRow base 5 1 v n xs) : ∀ k, v.ownBlock = some k → base ≤ k := by
  intro k hk
  obtain ⟨_, h2⟩ := h
  rcases h2 with ⟨rfl, _⟩ | ⟨g, cap, cur, rfl, hg, _⟩
  · simp [Value.ownBlock] at hk
  · simp [Value.ownBlock] at hk; omega

set_option maxRecDepth 8000 in
set_option maxHeartbeats 1000000 in
theorem padded_any (vb : Value) (l : List Int) (w : World) (hrow : RowAt w vb l) (hl : l.length ≤ 140737488355000) :
    Calls Try.prog 42 #[vb] w fun e w' => ∃ v, e = .returned v ∧ w'.ownsRow w.heap.size 5 1 v (l.length + zerosF l.length + 9) (bv l ++ endL l.length 8) ∧ Below w.heap.size w w' := by
  obtain ⟨pa, pn, pc, rfl, hpn⟩ : ∃ a n c, vb = .slice a n c ∧ n = l.length := by
    rcases hrow with ⟨rfl, rfl⟩ | ⟨a, c, rfl, rfl⟩ | ⟨h, off, cap, rfl, _⟩
    · exact ⟨_, _, _, rfl, rfl⟩
    · exact ⟨_, _, _, rfl, rfl⟩
    · exact ⟨_, _, _, rfl, rfl⟩
  have HRow : Keep (RowAt w (.slice pa pn pc) l) := ⟨hrow⟩
  clear hrow
  obtain ⟨n, hn⟩ : ∃ n, Keep (n = l.length) := ⟨_, ⟨rfl⟩⟩
  rw [← hn.out] at hpn hl ⊢
  subst hpn
  go_enter Try.func42, Try.ntmps42
  go_wp2_with (first | (at_builtin; refine wpList_appR rfl _ (.tmp 6) rfl w.heap.size (.slice none 0 0) (.slice pa pn pc) 0 [] l rfl rfl (owns_nil _ _) HRow.out (by rw [← hn.out]; omega) (Nat.le_refl _) ?_; intro v1 w1 hown1 hgr1; refine Hid.out ?_))
  refine hid_in ?_
  rw [List.nil_append, Nat.zero_add, ← hn.out] at hown1
  have hB1 : Below w.heap.size w w1 := (Below.refl _ _).grown hgr1 (Nat.le_refl _) (fun k e => by simp [Value.ownBlock] at e)
  have hs1 := hB1.size
  clear hgr1
  have HR2 := row_one w1 128
  have HO2 : Keep ((w1.alloc (.cells #[.int .u8 128] 5)).ownsRow w.heap.size 5 1 v1 pn (bv l)) := ⟨hown1.alloc _⟩
  have hblk := owns_block hown1
  go_wp2_with (first | (at_builtin; refine wpList_appR rfl (.tmp 8) (.tmp 9) rfl w.heap.size v1 (.slice (some ⟨w1.heap.size, 0, none⟩) 1 1) pn (bv l) [128] rfl rfl HO2.out HR2 (by simp; omega) (by simp; omega) ?_; intro v2 w2 hown2 hgr2; refine Hid.out ?_))
  refine hid_in ?_
  have hB2 : Below w.heap.size w w2 := (hB1.alloc hs1 (.cells #[.int .u8 128] 5)).grown hgr2 (by simp; omega) hblk
  clear hgr2 HO2 HR2 hown1 hB1 hblk
  obtain ⟨z, hz⟩ : ∃ z, Keep (z = zerosF pn) := ⟨_, ⟨rfl⟩⟩
  have hz1 : z < 64 := by rw [hz.out]; unfold zerosF; omega
  have HZ : Keep ((pn + 1 + z) % 64 = 56 ∧ ∀ k, k < z → (pn + 1 + k) % 64 ≠ 56) := ⟨by rw [hz.out]; unfold zerosF; exact ⟨by omega, fun k hk => by omega⟩⟩
  have hl2 : l.length = pn := hn.out.symm
  go_wp2
  go_loopw [3] (fun b wr => ∃ k : Nat, k ≤ z ∧ wr.ownsRow w.heap.size 5 1 b (pn + 1 + k) (bv l ++ (.int .u8 128 :: List.replicate k (.int .u8 0))) ∧ Below w.heap.size w wr) (fun b _ => match b with | .slice _ q _ => pn + 1 + z - q | _ => 0)
  case atStart => exact ⟨0, by omega, hown2, hB2⟩
  case round =>
    clear hown2 hB2
    obtain ⟨k, hk, hown, hB⟩ := hrel
    obtain ⟨g, cap, rfl, hg, hcap⟩ := owns_form hown (by omega)
    have hs := hB.size
    by_cases hlt : k < z
    · have hne := HZ.out.2 k hlt
      have hb : ((((pn + 1 + k : Nat) : Int) % 64) != 56) = true := by rw [bne_iff_ne]; omega
      have HRo := row_one wr 0
      have HO : Keep ((wr.alloc (.cells #[.int .u8 0] 5)).ownsRow w.heap.size 5 1 (.slice (some ⟨g, 0, none⟩) (pn + 1 + k) cap) (pn + 1 + k) (bv l ++ (.int .u8 128 :: List.replicate k (.int .u8 0)))) := ⟨hown.alloc _⟩
      go_wp2_with (first | (at_builtin; refine wpList_appR rfl (.tmp 15) (.tmp 16) rfl w.heap.size (.slice (some ⟨g, 0, none⟩) (pn + 1 + k) cap) (.slice (some ⟨wr.heap.size, 0, none⟩) 1 1) (pn + 1 + k) _ [0] rfl rfl HO.out HRo (by simp; omega) (by simp; omega) ?_; intro v2 w2 hown2 hgr2; refine Hid.out ?_))
      refine hid_in ?_
      have hB2 : Below w.heap.size w w2 := (hB.alloc hs (.cells #[.int .u8 0] 5)).grown hgr2 (by simp; omega) (fun j e => by simp [Value.ownBlock] at e; omega)
      have hLs : (bv l ++ (Value.int .u8 128 :: List.replicate k (.int .u8 0))) ++ bv [0] = bv l ++ (.int .u8 128 :: List.replicate (k + 1) (.int .u8 0)) := by
        rw [List.replicate_succ']; simp [bv]
      rw [hLs] at hown2
      obtain ⟨g2, cap2, rfl, hg2, hcap2⟩ := owns_form hown2 (by simp)
      clear HO HRo hgr2
      go_wp2
      refine ⟨⟨k + 1, by omega, hown2, hB2⟩, by dsimp only [List.length_cons, List.length_nil]; omega⟩
    · obtain rfl : k = z := by omega
      have hb : ((((pn + 1 + k : Nat) : Int) % 64) != 56) = false := by rw [bne_eq_false_iff_eq]; have := HZ.out.1; omega
      have hpe : endL pn 0 = (.int .u8 128 :: List.replicate k (.int .u8 0)) := by simp [endL, hz.out]
      rw [← hpe] at hown
      clear hpe
      have w1' : IntKind.u64.wrap (pn : Int) = pn := by rw [IntKind.wrap_u64]; omega
      have w2' : IntKind.u64.wrap (8 * (pn : Int)) = 8 * pn := by rw [IntKind.wrap_u64]; omega
      go_wp2
      have hb3 : ((((pn : Int) + 1 + (k : Int)) % 64) != 56) = false := by rw [bne_eq_false_iff_eq]; have := HZ.out.1; omega
      rw [hb3]
      go_loopw [3, 5] (fun b i wr => ∃ j : Nat, j ≤ 8 ∧ i = .int .i64 (7 - (j : Int)) ∧ wr.ownsRow w.heap.size 5 1 b (pn + 1 + k + j) (bv l ++ endL pn j) ∧ Below w.heap.size w wr) (fun _ i _ => (intOf i + 1).toNat)
      case atStart => exact ⟨0, by omega, by simp, hown, hB⟩
      case round =>
        clear hown hB
        obtain ⟨j, hj, rfl, hown, hB⟩ := hrel
        obtain ⟨g, cap, rfl, hg, hcap⟩ := owns_form hown (by omega)
        have hs := hB.size
        by_cases hlt : j < 8
        · have hs0 : 0 ≤ 8 * (7 - (j : Int)) := by omega
          have hs1 : 8 * (7 - (j : Int)) ≤ 64 := by omega
          have hs2 : (8 * (7 - (j : Int))).toNat = 56 - 8 * j := by omega
          have HRo := row_one wr (8 * (pn : Int) / 2 ^ (56 - 8 * j) % 256)
          have HO : Keep ((wr.alloc (.cells #[.int .u8 (8 * (pn : Int) / 2 ^ (56 - 8 * j) % 256)] 5)).ownsRow w.heap.size 5 1 (.slice (some ⟨g, 0, none⟩) (pn + 1 + k + j) cap) (pn + 1 + k + j) (bv l ++ endL pn j)) := ⟨hown.alloc _⟩
          go_wp2_with (first | (at_builtin; refine wpList_appR rfl (.tmp 26) (.tmp 32) rfl w.heap.size (.slice (some ⟨g, 0, none⟩) (pn + 1 + k + j) cap) (.slice (some ⟨wr.heap.size, 0, none⟩) 1 1) (pn + 1 + k + j) _ [8 * (pn : Int) / 2 ^ (56 - 8 * j) % 256] rfl rfl HO.out HRo (by simp; omega) (by simp; omega) ?_; intro v2 w2 hown2 hgr2; refine Hid.out ?_))
          refine hid_in ?_
          have hB2 : Below w.heap.size w w2 := (hB.alloc hs _).grown hgr2 (by simp; omega) (fun j e => by simp [Value.ownBlock] at e; omega)
          have hLs : (bv l ++ endL pn j) ++ bv [8 * (pn : Int) / 2 ^ (56 - 8 * j) % 256] = bv l ++ endL pn (j + 1) := by
            simp only [endL, List.range_succ, List.map_append, List.map_cons, List.map_nil, List.append_assoc, bv]
          rw [hLs] at hown2
          clear HO HRo hgr2
          go_wp2
          go_roundw
          case rel => exact ⟨j + 1, by omega, by congr 1; omega, hown2, hB2⟩
          case measure => simp [intOf]; omega
        · obtain rfl : j = 8 := by omega
          go_wp2
          go_ret
          exact ⟨_, rfl, by rw [← hz.out, show pn + k + 9 = pn + 1 + k + 8 by omega]; exact hown, hB⟩
def ro0 (q : String) : Oper := { dst := some 19, op := Op.load 82 (Operand.tmp 4), type := 82, pos := q, after := #[], guard := none }
def ro1 (q : String) : Oper := { dst := some 20, op := Op.move (Operand.tmp 3), type := 38, pos := q, after := #[], guard := none }
def ro2 (q : String) : Oper := { dst := some 21, op := Op.move (Operand.tmp 6), type := 3, pos := q, after := #[], guard := none }
def ro3 (q : String) : Oper := { dst := some 22, op := Op.move (Operand.tmp 6), type := 3, pos := q, after := #[], guard := none }
def ro4 (q : String) : Oper := { dst := some 23, op := Op.binOp BinOp.add 3 (Operand.tmp 22) (Operand.const (Value.int IntKind.i64 64)) 3, type := 3, pos := q, after := #[{ on := 3, ground := Ground.data }], guard := none }
def ro5 (q : String) : Oper := { dst := some 24, op := Op.slice 38 (Operand.tmp 20) (some (Operand.tmp 21)) (some (Operand.tmp 23)) none, type := 38, pos := q, after := #[{ on := 1, ground := Ground.data }, { on := 2, ground := Ground.data }, { on := 4, ground := Ground.data }], guard := none }
def ro6 (q : String) : Oper := { dst := some 25, op := Op.load 84 (Operand.tmp 5), type := 84, pos := q, after := #[], guard := none }
def ro7 (q : String) : Oper := { dst := some 26, op := Op.call { callee := Callee.value (Operand.func 45), args := #[Operand.tmp 19, Operand.tmp 24, Operand.tmp 25], argTypes := #[82, 38, 84] }, type := 82, pos := q, after := #[{ on := 0, ground := Ground.data }, { on := 5, ground := Ground.data }, { on := 6, ground := Ground.data }], guard := none }
def ro8 (q : String) : Oper := { dst := none, op := Op.store 82 (Operand.tmp 4) (Operand.tmp 26), type := 0, pos := q, after := #[{ on := 7, ground := Ground.data }, { on := 7, ground := Ground.chain }, { on := 0, ground := Ground.phase }, { on := 1, ground := Ground.phase }, { on := 2, ground := Ground.phase }, { on := 3, ground := Ground.phase }, { on := 4, ground := Ground.phase }, { on := 5, ground := Ground.phase }, { on := 6, ground := Ground.phase }, { on := 7, ground := Ground.phase }], guard := none }
def roA (q : String) : Array Oper := #[ro0 q, ro1 q, ro2 q, ro3 q, ro4 q, ro5 q, ro6 q, ro7 q, ro8 q]
theorem Try.enter45 (w : World) (vs : Array Value) : (callFunc 45 vs).run Try.prog w = .ok (.enter 45 vs) w := by kernel_rfl
theorem Try.elemBz : Try.prog.elem 38 = 5 := by kernel_rfl

theorem sliceBz (w : World) (g n cap at_ : Nat) (h1 : at_ + 64 ≤ n) (h2 : n ≤ cap) :
    (Instr.sliceAt 38 (.slice (some ⟨g, 0, none⟩) n cap) (some (.int .i64 (at_ : Int))) (some (.int .i64 ((at_ : Int) + 64))) none).run Try.prog w = .ok (.slice (some ⟨g, at_, none⟩) 64 (cap - at_)) w := by
  rw [run_sliceAt_slice (P := Try.prog) (w := w) 38 _ _ _ _ (by rw [Try.elemBz]; exact Try.underlying38)]
  rw [run_slice_lh (P := Try.prog) (w := w) (t := 38) (ht := by rw [Try.elemBz]; exact Try.underlying38) (kl := .i64) (kh := .i64) (h0 := by omega) (h1 := by omega) (h2 := by omega), Try.elemBz, Try.sizeOf5]
  have e1 : ((at_ : Int) + 64).toNat = at_ + 64 := by omega
  have e2 : ¬ cap = at_ := by omega
  simp [sliced, Result.andThen, e1, e2, Addr.add_mid]

def roV (g n cap at_ : Nat) (s p : Nat → Int) : Nat → Value
  | 0 => .agg (wordsA 8 s)
  | 1 => .slice (some ⟨g, 0, none⟩) n cap
  | 2 => .int .i64 (at_ : Int)
  | 3 => .int .i64 (at_ : Int)
  | 4 => .int .i64 ((at_ : Int) + 64)
  | 5 => .slice (some ⟨g, at_, none⟩) 64 (cap - at_)
  | 6 => .agg (wordsA 64 roundsF)
  | 7 => .agg (wordsA 8 (mixF s p))
  | _ => undef
structure RoW (b4 b5 g at_ : Nat) (w0 : World) (s p : Nat → Int) (l : Array Bool) (w : World) : Prop where
  gr : w0.grownBy w (some b4)
  a : l.getD 8 false = false → Blk w b4 82 (wordsA 8 s)
  b : l.getD 8 false = true → Blk w b4 82 (wordsA 8 (mixF s p))
  c : l.getD 8 false = true → l.getD 0 false = true
  k : Blk w b5 84 (wordsA 64 roundsF)
  x : ∀ i, i < 64 → w.cell? ⟨g, at_ + i, none⟩ = some (.int .u8 (p i))
theorem RoW.next {b4 b5 g at_ : Nat} {w0 w w' : World} {s p : Nat → Int} {l : Array Bool} (h : RoW b4 b5 g at_ w0 s p l w) (hb : Below w.heap.size w w') (i : Nat) (hi : i ≠ 8) : RoW b4 b5 g at_ w0 s p (l.setIfInBounds i true) w' where
  gr := grownBy_trans h.gr (grownBy_below hb _)
  a e := by rw [getD_set_ne false hi] at e; exact (h.a e).below hb (h.a e).lt
  b e := by rw [getD_set_ne false hi] at e; exact (h.b e).below hb (h.b e).lt
  c e := by rw [getD_set_ne false hi] at e; exact getD_set_true (h.c e)
  k := h.k.below hb h.k.lt
  x j hj := by rw [hb.cell (p := ⟨g, at_ + j, none⟩) (cell_lt (h.x j hj))]; exact h.x j hj

theorem wp_sliceOp {P : Program} {Q : Exit → Act → World → Prop} {o : Oper} {a : Act} {w : World} {K : Act → World → Prop} (t : TypeId) (x lo hi : Operand) (ho : o.op = .slice t x (some lo) (some hi) none) (vx vl vh v : Value) (hx : a.eval x = vx) (hl : a.eval lo = vl) (hh : a.eval hi = vh)
    (hrun : (Instr.sliceAt t vx (some vl) (some vh) none).run P w = .ok v w) (h : K (a.put o.dst v) w) : o.wp P a w K Q := by
  refine wp_val v ?_ h
  unfold execOp
  simp only [ho, Option.map_some, Option.map_none, hx, hl, hh, Sem.run_bind, hrun, Result.andThen_ok]
  rfl

theorem add64 (at_ : Nat) (h : at_ ≤ 1152921504606846976) (w : World) (a : Act) (o : Oper) (ho : o.op = .binOp .add 3 (.tmp 22) (.const (.int .i64 64)) 3) (hx : a.eval (.tmp 22) = .int .i64 (at_ : Int)) :
    (execOp a.eval o).run Try.prog w = .ok (.value (.int .i64 ((at_ : Int) + 64))) w := by
  have hw : IntKind.i64.wrap ((at_ : Int) + 64) = (at_ : Int) + 64 := by rw [IntKind.wrap_i64]; omega
  have hc : a.eval (.const (.int .i64 64)) = .int .i64 64 := rfl
  unfold execOp
  simp only [ho, hx, hc]
  simp [go_sem, hw]

set_option maxRecDepth 8000 in
set_option maxHeartbeats 1000000 in
theorem ro_step (q : String) (b4 b5 g n cap at_ : Nat) (w0 : World) (s p : Nat → Int) (a0 : Act) (h3 : a0.eval (.tmp 3) = .slice (some ⟨g, 0, none⟩) n cap) (h4 : a0.eval (.tmp 4) = ptr b4) (h5 : a0.eval (.tmp 5) = ptr b5) (h6 : a0.eval (.tmp 6) = .int .i64 (at_ : Int))
    (hn : at_ + 64 ≤ n) (hcap : n ≤ cap) (hsm : at_ ≤ 1152921504606846976) (hne5 : b5 ≠ b4) (hneg : g ≠ b4) (Q : Exit → Act → World → Prop)
    (l : Array Bool) (a : Act) (w : World) (i : Nat) (o : Oper)
    (hold : ∀ t : Nat, (∀ (j : Nat) (o' : Oper), (roA q)[j]? = some o' → o'.dst ≠ some t) → a.eval (.tmp t) = a0.eval (.tmp t))
    (hval : ∀ (j : Nat) (o' : Oper) (d : Nat), (roA q)[j]? = some o' → o'.dst = some d → l.getD j false = true → a.eval (.tmp d) = roV g n cap at_ s p j)
    (hW : RoW b4 b5 g at_ w0 s p l w) (_ : l.size = (roA q).size) (hi : l.getD i true = false) (ho : (roA q)[i]? = some o) (he : ∀ e ∈ o.after, Region.binds .any e = true → l.getD e.on false = true) :
    o.guard = none ∧ o.wp Try.prog a w (fun a' w' => a' = a.put o.dst (roV g n cap at_ s p i) ∧ RoW b4 b5 g at_ w0 s p (l.setIfInBounds i true) w') Q := by
  have hfree : ∀ t : Nat, t < 19 → a.eval (.tmp t) = a0.eval (.tmp t) := by
    intro t ht
    refine hold t ?_
    intro j o' hj hd
    match j, hj with
    | 0, hj => have e : ro0 q = o' := Option.some.inj hj; rw [← e] at hd; simp [ro0] at hd; subst hd; exact absurd ht (by decide)
    | 1, hj => have e : ro1 q = o' := Option.some.inj hj; rw [← e] at hd; simp [ro1] at hd; subst hd; exact absurd ht (by decide)
    | 2, hj => have e : ro2 q = o' := Option.some.inj hj; rw [← e] at hd; simp [ro2] at hd; subst hd; exact absurd ht (by decide)
    | 3, hj => have e : ro3 q = o' := Option.some.inj hj; rw [← e] at hd; simp [ro3] at hd; subst hd; exact absurd ht (by decide)
    | 4, hj => have e : ro4 q = o' := Option.some.inj hj; rw [← e] at hd; simp [ro4] at hd; subst hd; exact absurd ht (by decide)
    | 5, hj => have e : ro5 q = o' := Option.some.inj hj; rw [← e] at hd; simp [ro5] at hd; subst hd; exact absurd ht (by decide)
    | 6, hj => have e : ro6 q = o' := Option.some.inj hj; rw [← e] at hd; simp [ro6] at hd; subst hd; exact absurd ht (by decide)
    | 7, hj => have e : ro7 q = o' := Option.some.inj hj; rw [← e] at hd; simp [ro7] at hd; subst hd; exact absurd ht (by decide)
    | 8, hj => have e : ro8 q = o' := Option.some.inj hj; rw [← e] at hd; simp [ro8] at hd
    | m + 9, hj => simp [roA] at hj
  have f3 := (hfree 3 (by omega)).trans h3
  have f4 := (hfree 4 (by omega)).trans h4
  have f5 := (hfree 5 (by omega)).trans h5
  have f6 := (hfree 6 (by omega)).trans h6
  have v := fun (j d : Nat) (o' : Oper) (h1 : (roA q)[j]? = some o') (h2 : o'.dst = some d) (h3 : l.getD j false = true) => hval j o' d h1 h2 h3
  match i, hi, ho with
  | 0, hi, ho =>
    have e : ro0 q = o := Option.some.inj ho
    have hb : Blk w b4 82 (wordsA 8 s) := hW.a (by
      cases h : l.getD 8 false with
      | false => rfl
      | true => have := hW.c h; rw [getD_ft hi] at this; cases this)
    exact ⟨by rw [← e]; rfl, wp_load_row 82 (.tmp 4) (by rw [← e]; rfl) b4 f4 82 (wordsA 8 s) (0, 0) (.array 8 81) hb Try.underlying82 rfl (Try.size82W _) ⟨rfl, hW.next (Below.refl _ _) 0 (by decide)⟩⟩
  | 1, hi, ho =>
    have e : ro1 q = o := Option.some.inj ho
    exact ⟨by rw [← e]; rfl, wp_move (.tmp 3) (by rw [← e]; rfl) _ f3 ⟨rfl, hW.next (Below.refl _ _) 1 (by decide)⟩⟩
  | 2, hi, ho =>
    have e : ro2 q = o := Option.some.inj ho
    exact ⟨by rw [← e]; rfl, wp_move (.tmp 6) (by rw [← e]; rfl) _ f6 ⟨rfl, hW.next (Below.refl _ _) 2 (by decide)⟩⟩
  | 3, hi, ho =>
    have e : ro3 q = o := Option.some.inj ho
    exact ⟨by rw [← e]; rfl, wp_move (.tmp 6) (by rw [← e]; rfl) _ f6 ⟨rfl, hW.next (Below.refl _ _) 3 (by decide)⟩⟩
  | 4, hi, ho =>
    have e : ro4 q = o := Option.some.inj ho
    have qq : a.eval (.tmp 22) = .int .i64 (at_ : Int) := v 3 22 (ro3 q) rfl rfl (he ⟨3, .data⟩ (by rw [← e]; simp [ro4]) rfl)
    exact ⟨by rw [← e]; rfl, wp_val (.int .i64 ((at_ : Int) + 64)) (add64 at_ hsm w a o (by rw [← e]; rfl) qq) ⟨rfl, hW.next (Below.refl _ _) 4 (by decide)⟩⟩
  | 5, hi, ho =>
    have e : ro5 q = o := Option.some.inj ho
    have q1 : a.eval (.tmp 20) = .slice (some ⟨g, 0, none⟩) n cap := v 1 20 (ro1 q) rfl rfl (he ⟨1, .data⟩ (by rw [← e]; simp [ro5]) rfl)
    have q2 : a.eval (.tmp 21) = .int .i64 (at_ : Int) := v 2 21 (ro2 q) rfl rfl (he ⟨2, .data⟩ (by rw [← e]; simp [ro5]) rfl)
    have q3 : a.eval (.tmp 23) = .int .i64 ((at_ : Int) + 64) := v 4 23 (ro4 q) rfl rfl (he ⟨4, .data⟩ (by rw [← e]; simp [ro5]) rfl)
    exact ⟨by rw [← e]; rfl, wp_sliceOp 38 (.tmp 20) (.tmp 21) (.tmp 23) (by rw [← e]; rfl) _ _ _ _ q1 q2 q3 (sliceBz w g n cap at_ hn hcap) ⟨rfl, hW.next (Below.refl _ _) 5 (by decide)⟩⟩
  | 6, hi, ho =>
    have e : ro6 q = o := Option.some.inj ho
    exact ⟨by rw [← e]; rfl, wp_load_row 84 (.tmp 5) (by rw [← e]; rfl) b5 f5 84 (wordsA 64 roundsF) (0, 0) (.array 64 81) hW.k Try.underlying84 rfl (Try.size84W _) ⟨rfl, hW.next (Below.refl _ _) 6 (by decide)⟩⟩
  | 7, hi, ho =>
    have e : ro7 q = o := Option.some.inj ho
    have q1 : a.eval (.tmp 19) = .agg (wordsA 8 s) := v 0 19 (ro0 q) rfl rfl (he ⟨0, .data⟩ (by rw [← e]; simp [ro7]) rfl)
    have q2 : a.eval (.tmp 24) = .slice (some ⟨g, at_, none⟩) 64 (cap - at_) := v 5 24 (ro5 q) rfl rfl (he ⟨5, .data⟩ (by rw [← e]; simp [ro7]) rfl)
    have q3 : a.eval (.tmp 25) = .agg (wordsA 64 roundsF) := v 6 25 (ro6 q) rfl rfl (he ⟨6, .data⟩ (by rw [← e]; simp [ro7]) rfl)
    exact ⟨by rw [← e]; rfl, wp_callF 45 #[.tmp 19, .tmp 24, .tmp 25] #[82, 38, 84] (by rw [← e]; rfl) Try.enter45 #[.agg (wordsA 8 s), .slice (some ⟨g, at_, none⟩) 64 (cap - at_), .agg (wordsA 64 roundsF)] (by simp only [List.map_toArray, List.map_cons, List.map_nil, q1, q2, q3])
      (fun v w' => v = .agg (wordsA 8 (mixF s p)) ∧ Below w.heap.size w w') ((piece_any s p g at_ (cap - at_) w hW.x).mono (by rintro e w' ⟨rfl, hb⟩; exact ⟨_, rfl, rfl, hb⟩))
      (by rintro v w' ⟨rfl, hb⟩; exact ⟨rfl, hW.next hb 7 (by decide)⟩)⟩
  | 8, hi, ho =>
    have e : ro8 q = o := Option.some.inj ho
    have q2 : a.eval (.tmp 26) = .agg (wordsA 8 (mixF s p)) := v 7 26 (ro7 q) rfl rfl (he ⟨7, .data⟩ (by rw [← e]; simp [ro8]) rfl)
    have l0 := he ⟨0, .phase⟩ (by rw [← e]; simp [ro8]) rfl
    have hb := hW.a (getD_ft hi)
    refine ⟨by rw [← e]; rfl, wp_store_row 82 (.tmp 4) (.tmp 26) (by rw [← e]; rfl) b4 (wordsA 8 (mixF s p)) f4 q2 82 (wordsA 8 s) hb (Try.size82W _) (wordsA_sizes _ _ _) (wordsA_one _ _) ?_⟩
    have h8 : (l.setIfInBounds 8 true).getD 8 false = true := by
      obtain ⟨h1, _⟩ := getD_lt hi
      simp [Array.getD, h1]
    exact ⟨rfl, { gr := grownBy_trans hW.gr (grownBy_setRow _ _ _), a := fun e => (by rw [h8] at e; cases e), b := fun _ => Blk.setRow hb _, c := fun _ => getD_set_true l0, k := hW.k.setRow_ne hne5 _, x := fun j hj => (by rw [cell_setRow_other w b4 _ ⟨g, at_ + j, none⟩ hneg]; exact hW.x j hj) }⟩
  | m + 9, hi, ho => simp [roA] at ho

theorem ro_region (q : String) (b4 b5 g n cap at_ : Nat) (w0 : World) (s p : Nat → Int) (a0 : Act) (hsz : a0.tmps.size = 45) (h3 : a0.eval (.tmp 3) = .slice (some ⟨g, 0, none⟩) n cap) (h4 : a0.eval (.tmp 4) = ptr b4) (h5 : a0.eval (.tmp 5) = ptr b5) (h6 : a0.eval (.tmp 6) = .int .i64 (at_ : Int))
    (hn : at_ + 64 ≤ n) (hcap : n ≤ cap) (hsm : at_ ≤ 1152921504606846976) (hne5 : b5 ≠ b4) (hneg : g ≠ b4) (hb4 : Blk w0 b4 82 (wordsA 8 s)) (hb5 : Blk w0 b5 84 (wordsA 64 roundsF)) (hx : ∀ i, i < 64 → w0.cell? ⟨g, at_ + i, none⟩ = some (.int .u8 (p i))) (Q : Exit → Act → World → Prop)
    (hQ : ∀ wc, w0.grownBy wc (some b4) → Blk wc b4 82 (wordsA 8 (mixF s p)) → Q .normal (putsTo (roA q) (roV g n cap at_ s p) a0 9) wc) :
    (Code.region 7 (roA q) true).wp Try.prog Q a0 w0 := by
  refine wp_region_vals (by kernel_rfl) (roV g n cap at_ s p) (RoW b4 b5 g at_ w0 s p) (by rw [hsz]; kernel_rfl) (by kernel_rfl) (ro_step q b4 b5 g n cap at_ w0 s p a0 h3 h4 h5 h6 hn hcap hsm hne5 hneg Q) ?_ ?_
  · intro l wc hW hall
    exact hQ wc hW.gr (hW.b (hall 8 (by simp [roA])))
  · exact ⟨⟨rfl, rfl, rfl, Nat.le_refl _, fun _ _ _ => rfl⟩, fun _ => hb4.drew, fun h => by simp [Array.getD] at h, fun h => by simp [Array.getD] at h, hb5.drew, hx⟩
theorem putsTo_ro (q : String) (g n cap at_ : Nat) (s p : Nat → Int) (a0 : Act) : putsTo (roA q) (roV g n cap at_ s p) a0 9 =
    ((((((((a0.put (some 19) (.agg (wordsA 8 s))).put (some 20) (.slice (some ⟨g, 0, none⟩) n cap)).put (some 21) (.int .i64 (at_ : Int))).put (some 22) (.int .i64 (at_ : Int))).put (some 23) (.int .i64 ((at_ : Int) + 64))).put (some 24) (.slice (some ⟨g, at_, none⟩) 64 (cap - at_))).put (some 25) (.agg (wordsA 64 roundsF))).put (some 26) (.agg (wordsA 8 (mixF s p)))) := by kernel_rfl
def endZ (n : Nat) : List Int := (List.range (zerosF n + 9)).map (endX n)
theorem endZ_len (n : Nat) : (endZ n).length = zerosF n + 9 := by simp [endZ]
theorem endL_len (n j : Nat) : (endL n j).length = zerosF n + 1 + j := by simp [endL]; omega
theorem endL_Z (n : Nat) : endL n 8 = bv (endZ n) := by
  apply List.ext_getElem?
  intro i
  by_cases h : i < zerosF n + 9
  · rw [endL_get n i h, bv_get _ _ (by rw [endZ_len]; exact h)]
    simp [endZ, h, List.getD]
  · rw [List.getElem?_eq_none (by rw [endL_len]; omega), List.getElem?_eq_none (by rw [bv_len, endZ_len]; omega)]
def padI (l : List Int) : List Int := l ++ endZ l.length
def piecesN (n : Nat) : Nat := (n + zerosF n + 9) / 64
theorem pad_len (l : List Int) : (padI l).length = 64 * piecesN l.length := by
  simp only [padI, List.length_append, endZ_len, piecesN]
  unfold zerosF; omega
def refUp (L : List Int) : Nat → (Nat → Int)
  | 0 => beginF
  | m + 1 => mixF (refUp L m) fun j => L.getD (64 * m + j) 0
def layR (s : Nat → Int) : Nat → (Nat → Int)
  | 0 => fun _ => 0
  | i + 1 => upd (layR s i) i (s (i / 4) / 2 ^ (24 - 8 * (i % 4)) % 256)

set_option maxRecDepth 8000 in
set_option maxHeartbeats 2000000 in
theorem refOf_any (v : Value) (l : List Int) (w : World) (hrow : RowAt w v l) (hl : l.length ≤ 140737488355000) :
    Calls Try.prog 23 #[v] w fun e w' => e = .returned (.agg (bytesA 32 (layR (refUp (padI l) (piecesN l.length)) 32))) ∧ Below w.heap.size w w' := by
  have hbA := below_new w (.cells (bytesA 32 fun _ => 0) 25)
  have HRow : Keep (RowAt (w.alloc (.cells (bytesA 32 fun _ => 0) 25)) v l) := ⟨hrow.below hbA⟩
  have hRA := Blk.new w 25 (bytesA 32 fun _ => 0)
  have hsA : (w.alloc (.cells (bytesA 32 fun _ => 0) 25)).heap.size = w.heap.size + 1 := by simp
  clear hrow
  go_enter Try.func23, Try.ntmps23
  go_wp2_with (first | (refine wpList_new rfl 25 rfl _ Try.new25 ?_))
  generalize w.alloc (.cells (bytesA 32 fun _ => 0) 25) = wA at *
  refine (padded_any v l wA HRow.out hl).mono ?_
  rintro e w1 ⟨pv, rfl, hown, hB1⟩
  rw [endL_Z] at hown
  have hL0 : bv l ++ bv (endZ l.length) = bv (padI l) := by simp [bv, padI]
  rw [hL0] at hown
  clear hL0
  have hpl := pad_len l
  obtain ⟨M, hM⟩ : ∃ M, Keep (M = piecesN l.length) := ⟨_, ⟨rfl⟩⟩
  have hlen2 : l.length + zerosF l.length + 9 = 64 * M := by rw [hM.out, ← hpl]; simp only [padI, List.length_append, endZ_len]; omega
  rw [hlen2] at hown
  rw [← hM.out] at hpl
  obtain ⟨L, hLL⟩ : ∃ L, Keep (L = padI l) := ⟨_, ⟨rfl⟩⟩
  rw [← hLL.out] at hown hpl
  have hM1 : 0 < M := by omega
  have hM2 : 64 * M ≤ 140737488355000 + 80 := by rw [← hlen2]; unfold zerosF; omega
  clear hlen2
  obtain ⟨nn, hnn⟩ : ∃ nn, Keep (nn = 64 * M) := ⟨_, ⟨rfl⟩⟩
  rw [← hnn.out] at hown hpl hM2
  have hn1 : 0 < nn := by rw [hnn.out]; omega
  obtain ⟨g, cap, rfl, hg, hcap⟩ := owns_form hown (by omega)
  have HC : Keep (∀ i, i < nn → w1.cell? ⟨g, i, none⟩ = some (.int .u8 (L.getD i 0))) := ⟨fun i hi => by
    rw [hown.cellAt i (by omega), bv_get L i (by omega)]⟩
  have hglt : g < w1.heap.size := cell_lt (HC.out 0 (by omega))
  clear hown
  go_wp2_with fail
  refine (beginr_any _).mono ?_
  rintro e w2 ⟨rfl, rfl⟩
  have HZ : Keep (Blk ((w1.alloc (.cells (wordsA 8 beginF) 82)).alloc (.cells (wordsA 8 fun _ => 0) 82)) (w1.heap.size + 1) 82 (wordsA 8 fun _ => 0)) := ⟨by
    have h := Blk.new (w1.alloc (.cells (wordsA 8 beginF) 82)) 82 (wordsA 8 fun _ => 0)
    simp only [World.size_alloc] at h; exact h⟩
  have h4 := HZ.out.setRow (wordsA 8 beginF)
  have hB2 : Below w1.heap.size w1 (((w1.alloc (.cells (wordsA 8 beginF) 82)).alloc (.cells (wordsA 8 fun _ => 0) 82)).setRow (w1.heap.size + 1) (wordsA 8 beginF)) := below_setRow (((Below.refl _ _).alloc (Nat.le_refl _) _).alloc (by simp) _) (by omega) _
  go_wp2_with (refine wpList_new rfl 82 rfl _ Try.new82 ?_; refine wpList_store_row rfl 82 (.tmp 4) (.tmp 11) rfl (w1.heap.size + 1) (wordsA 8 beginF) (by simp [Act.put, Act.eval]) rfl 82 (wordsA 8 fun _ => 0) HZ.out (Try.size82W _) (wordsA_sizes _ _ _) (wordsA_one _ _) ?_; simp only [Act.put, List.setIfInBounds_toArray, List.set_cons_succ, List.set_cons_zero, World.size_alloc])
  generalize (((w1.alloc (.cells (wordsA 8 beginF) 82)).alloc (.cells (wordsA 8 fun _ => 0) 82)).setRow (w1.heap.size + 1) (wordsA 8 beginF)) = w2 at *
  clear HZ
  refine (roundsr_any _).mono ?_
  rintro e w3 ⟨rfl, rfl⟩
  have hsz2 := h4.lt
  have HZ : Keep (Blk ((w2.alloc (.cells (wordsA 64 roundsF) 84)).alloc (.cells (wordsA 64 fun _ => 0) 84)) (w2.heap.size + 1) 84 (wordsA 64 fun _ => 0)) := ⟨by
    have h := Blk.new (w2.alloc (.cells (wordsA 64 roundsF) 84)) 84 (wordsA 64 fun _ => 0)
    simp only [World.size_alloc] at h; exact h⟩
  have h5 := HZ.out.setRow (wordsA 64 roundsF)
  have hB3 : Below w2.heap.size w2 (((w2.alloc (.cells (wordsA 64 roundsF) 84)).alloc (.cells (wordsA 64 fun _ => 0) 84)).setRow (w2.heap.size + 1) (wordsA 64 roundsF)) := below_setRow (((Below.refl _ _).alloc (Nat.le_refl _) _).alloc (by simp) _) (by omega) _
  go_wp2_with (refine wpList_new rfl 84 rfl _ Try.new84 ?_; refine wpList_store_row rfl 84 (.tmp 5) (.tmp 12) rfl (w2.heap.size + 1) (wordsA 64 roundsF) (by simp [Act.put, Act.eval]) rfl 84 (wordsA 64 fun _ => 0) HZ.out (Try.size84W _) (wordsA_sizes _ _ _) (wordsA_one _ _) ?_; simp only [Act.put, List.setIfInBounds_toArray, List.set_cons_succ, List.set_cons_zero, World.size_alloc])
  generalize (((w2.alloc (.cells (wordsA 64 roundsF) 84)).alloc (.cells (wordsA 64 fun _ => 0) 84)).setRow (w2.heap.size + 1) (wordsA 64 roundsF)) = w3 at *
  clear HZ
  have hR3 : Blk w3 w.heap.size 25 (bytesA 32 fun _ => 0) := ((hRA.below hB1 (by omega)).below hB2 (by have := hB1.size; omega)).below hB3 (by have := hB1.size; omega)
  have h43 := h4.below hB3 h4.lt
  have HC3 : Keep (∀ i, i < nn → w3.cell? ⟨g, i, none⟩ = some (.int .u8 (L.getD i 0))) := ⟨fun i hi => by
    rw [hB3.cell (p := ⟨g, i, none⟩) (by show g < _; have := hB2.size; omega), hB2.cell (p := ⟨g, i, none⟩) hglt]; exact HC.out i hi⟩
  have hBw : Below w.heap.size w w3 := (hbA.trans (hB1.mono (by omega))).trans ((hB2.mono (by have := hB1.size; omega)).trans (hB3.mono (by have := hB1.size; omega)))
  have hs1 := hB1.size
  have hs2 := hB2.size
  clear hRA h4 HC hB1 hB2 hB3 hbA HRow
  go_loopw [6] (fun i wr => ∃ m a : Nat, Keep (a = 64 * m) ∧ m ≤ M ∧ i = .int .i64 (a : Int) ∧ Blk wr (w1.heap.size + 1) 82 (wordsA 8 (refUp L m)) ∧ Blk wr (w2.heap.size + 1) 84 (wordsA 64 roundsF) ∧ Keep (∀ i, i < nn → wr.cell? ⟨g, i, none⟩ = some (.int .u8 (L.getD i 0))) ∧ Blk wr w.heap.size 25 (bytesA 32 fun _ => 0) ∧ Below w.heap.size w wr) (fun i _ => nn - (intOf i).toNat)
  case atStart => exact ⟨0, 0, ⟨rfl⟩, by omega, rfl, h43, h5, HC3, hR3, hBw⟩
  case round =>
    clear h43 h5 HC3 hR3 hBw
    obtain ⟨m, a, ha, hm, rfl, h4, h5, HC, hR, hB⟩ := hrel
    by_cases hlt : m < M
    · have ha1 : a + 64 ≤ nn := by rw [ha.out, hnn.out]; omega
      have ha2 : (a : Int) < (nn : Int) := by omega
      have HX : Keep (∀ i, i < 64 → wr.cell? ⟨g, a + i, none⟩ = some (.int .u8 ((fun j => L.getD (64 * m + j) 0) i))) := ⟨fun i hi => by rw [HC.out _ (by omega), ha.out]⟩
      go_wp2
      refine ro_region _ (w1.heap.size + 1) (w2.heap.size + 1) g nn cap a wr (refUp L m) (fun j => L.getD (64 * m + j) 0) _ (by simp) rfl rfl rfl rfl ha1 hcap (by omega) (by omega) (by omega) h4 h5 HX.out _ ?_
      intro wc hgr h4'
      rw [putsTo_ro]
      simp only [Act.put, List.setIfInBounds_toArray, List.set_cons_succ, List.set_cons_zero]
      have h5' : Blk wc (w2.heap.size + 1) 84 (wordsA 64 roundsF) := by unfold Blk; rw [hgr.block _ h5.lt (by simp; omega)]; exact h5
      have hR' : Blk wc w.heap.size 25 (bytesA 32 fun _ => 0) := by unfold Blk; rw [hgr.block _ hR.lt (by simp; omega)]; exact hR
      have HC' : Keep (∀ i, i < nn → wc.cell? ⟨g, i, none⟩ = some (.int .u8 (L.getD i 0))) := ⟨fun i hi => grownBy_cell hgr (by omega) (HC.out i hi)⟩
      have hB' : Below w.heap.size w wc := hB.grown hgr hB.size (fun k e => by injection e with e; omega)
      have hn' : Keep (refUp L (m + 1) = mixF (refUp L m) (fun j => L.getD (64 * m + j) 0)) := ⟨rfl⟩
      go_wp2
      go_roundw
      case rel => exact ⟨m + 1, a + 64, ⟨by rw [ha.out]; omega⟩, by omega, by go_num, by rw [hn'.out]; exact h4', h5', HC', hR', hB'⟩
      case measure => simp [intOf]; omega
    · obtain rfl : m = M := by omega
      have hae : a = nn := by rw [ha.out, hnn.out]
      have ha3 : ¬ ((a : Int) < (nn : Int)) := by omega
      obtain ⟨S, hS⟩ : ∃ S, Keep (S = refUp L m) := ⟨_, ⟨rfl⟩⟩
      rw [← hS.out] at h4
      clear ha HC h5 hae
      have HZ : Keep (Blk (wr.alloc (.cells (bytesA 32 fun _ => 0) 25)) wr.heap.size 25 (bytesA 32 fun _ => 0)) := ⟨Blk.new _ _ _⟩
      have h7 := Blk.new wr 25 (bytesA 32 fun _ => 0)
      have h47 := h4.alloc (.cells (bytesA 32 fun _ => 0) 25)
      have hR7 := hR.alloc (.cells (bytesA 32 fun _ => 0) 25)
      have hB7 := hB.alloc hB.size (.cells (bytesA 32 fun _ => 0) 25)
      have hl4 := h4.lt
      have hlR := hR.lt
      go_wp2_with (refine wpList_bld rfl 25 _ rfl (bytesA 32 fun _ => 0) (by kernel_rfl) ?_; refine wpList_new rfl 25 rfl _ Try.new25 ?_; refine wpList_store_row rfl 25 (.tmp 7) (.tmp 27) rfl wr.heap.size (bytesA 32 fun _ => 0) rfl rfl 25 (bytesA 32 fun _ => 0) HZ.out (Try.size25B _) (bytesA_sizes _ _ _) (bytesA_one _ _) ?_; rw [World.setRow_alloc_new])
      clear h4 hR HZ
      generalize wr.alloc (.cells (bytesA 32 fun _ => 0) 25) = w7 at *
      have hsB := hB.size
      clear hB
      generalize wr.heap.size = b7 at *
      clear wr
      go_loopw [8] (fun i wx => ∃ t : Nat, t ≤ 32 ∧ i = .int .i64 (t : Int) ∧ Blk wx (w1.heap.size + 1) 82 (wordsA 8 S) ∧ Blk wx b7 25 (bytesA 32 (layR S t)) ∧ Blk wx w.heap.size 25 (bytesA 32 fun _ => 0) ∧ Below w.heap.size w wx) (fun i _ => 32 - (intOf i).toNat)
      case atStart => exact ⟨0, by omega, rfl, h47, h7, hR7, hB7⟩
      case round =>
        clear h47 h7 hR7 hB7
        obtain ⟨t, ht, rfl, h4, h7, hR, hB⟩ := hrel
        by_cases hlt : t < 32
        · have hlt' : (t : Int) < 32 := by omega
          have c1 : wr.cell? ⟨w1.heap.size + 1, t / 4, none⟩ = some (.int .u32 (S (t / 4))) := by rw [h4.cell, wordsA_get _ _ _ (by omega)]
          have c2 : wr.cell? ⟨b7, t, none⟩ = some (.int .u8 (layR S t t)) := by rw [h7.cell, bytesA_get _ _ _ (by omega)]
          have c3 : wr.frozen? ⟨b7, t, none⟩ = false := h7.frozen t
          have e1 : (24 - 8 * ((t : Int) % 4)).toNat = 24 - 8 * (t % 4) := by omega
          have e2 : 0 ≤ 24 - 8 * ((t : Int) % 4) := by omega
          have e3 : 24 - 8 * ((t : Int) % 4) ≤ 32 := by omega
          have e4 : ((t : Int) / 4) < 8 := by omega
          have e5 : 0 ≤ ((t : Int) / 4) := by omega
          have e6 : ((t : Int) / 4).toNat = t / 4 := by omega
          go_wp2
          go_roundw
          case rel =>
            have h := h7.set t (.int .u8 (S (t / 4) / 2 ^ (24 - 8 * (t % 4)) % 256))
            rw [bytesA_set] at h
            exact ⟨t + 1, by omega, by go_num, h4.set_ne (by omega) _, h, hR.set_ne (by omega) _, hB.setCell (by show w.heap.size ≤ b7; omega) _⟩
          case measure => simp [intOf]; omega
        · obtain rfl : t = 32 := by omega
          clear hlt ht
          obtain ⟨c, hc⟩ : ∃ c, Keep (c = layR S 32) := ⟨_, ⟨rfl⟩⟩
          rw [← hc.out] at h7
          go_wp2_with (refine wpList_load_row rfl 25 (.tmp 7) rfl b7 rfl 25 (bytesA 32 c) (0, 0) (.array 32 5) h7 Try.underlying25 rfl (Try.size25B _) ?_; refine wpList_store_row rfl 25 (.tmp 2) (.tmp 44) rfl w.heap.size (bytesA 32 c) rfl rfl 25 (bytesA 32 fun _ => 0) hR (Try.size25B _) (bytesA_sizes _ _ _) (bytesA_one _ _) ?_)
          exact bodyPost_ret (v := .agg (bytesA 32 c)) (results_cell_row Try.results23 _ _ w.heap.size 25 _ (0, 0) _ rfl (hR.setRow _) Try.underlying25 rfl (Try.size25B _)) rfl ⟨by rw [hc.out, hS.out, hLL.out, hM.out], below_setRow hB (Nat.le_refl _) _⟩
theorem be32_congr {c d : Nat → Int} {t : Nat} (ht : t < 16) (h : ∀ i, i < 64 → c i = d i) : be32 c t = be32 d t := by
  unfold be32; rw [h (4 * t) (by omega), h (4 * t + 1) (by omega), h (4 * t + 2) (by omega), h (4 * t + 3) (by omega)]

theorem sched_congr {p q : Nat → Int} (hp : ∀ i, i < 64 → p i = q i) (t : Nat) (ht : t ≤ 64) : sched p t = sched q t := by
  induction t with
  | zero => rfl
  | succ t ih =>
    have e := ih (by omega)
    simp only [sched, e]
    by_cases h16 : t < 16
    · rw [if_pos h16, if_pos h16, be32_congr h16 hp]
    · rw [if_neg h16, if_neg h16]
theorem mixF_congr {s p q : Nat → Int} (hp : ∀ i, i < 64 → p i = q i) : mixF s p = mixF s q := by
  unfold mixF; rw [sched_congr hp 64 (Nat.le_refl _)]

theorem absorb_pieces (L : List Int) (m : Nat) (hm : 64 * m ≤ L.length) : (absorbL dg0 (L.take (64 * m))).s = refUp L m ∧ (absorbL dg0 (L.take (64 * m))).n = 64 * m := by
  induction m with
  | zero => exact ⟨rfl, rfl⟩
  | succ m ih =>
    obtain ⟨i1, i2⟩ := ih (by omega)
    have hn : (absorbL dg0 (L.take (64 * (m + 1)))).n = 64 * (m + 1) := by rw [absorbL_n, List.length_take]; show 0 + _ = _; omega
    refine ⟨?_, hn⟩
    have hsp : L.take (64 * (m + 1)) = L.take (64 * m) ++ (L.drop (64 * m)).take 64 := by
      rw [show 64 * (m + 1) = 64 * m + 64 by omega, List.take_add]
    have hl : ((L.drop (64 * m)).take 64).length = 64 := by rw [List.length_take, List.length_drop]; omega
    rw [hsp, absorbL_append, ← absorbN_all, hl, absorb_chunk _ _ 64 (by rw [i2]; omega)]
    dsimp only
    rw [i2, if_pos (by omega), i1]
    simp only [refUp]
    apply mixF_congr
    intro j hj
    simp only [putN]
    rw [if_pos (by omega)]
    have e : j - 64 * m % 64 = j := by omega
    rw [e, List.getD_eq_getElem?_getD, List.getElem?_take, if_pos hj, List.getElem?_drop, ← List.getD_eq_getElem?_getD]

theorem lay_same (s : Nat → Int) (i : Nat) (hi : i < 32) : layR s 32 i = layUp s 8 i := by
  have h : ∀ (k : Fin 32) (s : Nat → Int), layR s 32 k.val = s (k.val / 4) / 2 ^ (24 - 8 * (k.val % 4)) % 256 := by
    intro k s
    obtain ⟨k, hk⟩ := k
    have g : ∀ n, k < n → layR s n k = s (k / 4) / 2 ^ (24 - 8 * (k % 4)) % 256 := by
      intro n hn
      induction n with
      | zero => omega
      | succ n ih =>
        simp only [layR, upd]
        by_cases e : k = n
        · rw [if_pos e, e]
        · rw [if_neg e]; exact ih (by omega)
    exact g 32 hk
  rw [h ⟨i, hi⟩ s]
  match i, hi with
  | 0, _ => simp [layUp, upd]
  | 1, _ => simp [layUp, upd]
  | 2, _ => simp [layUp, upd]
  | 3, _ => simp [layUp, upd]
  | 4, _ => simp [layUp, upd]
  | 5, _ => simp [layUp, upd]
  | 6, _ => simp [layUp, upd]
  | 7, _ => simp [layUp, upd]
  | 8, _ => simp [layUp, upd]
  | 9, _ => simp [layUp, upd]
  | 10, _ => simp [layUp, upd]
  | 11, _ => simp [layUp, upd]
  | 12, _ => simp [layUp, upd]
  | 13, _ => simp [layUp, upd]
  | 14, _ => simp [layUp, upd]
  | 15, _ => simp [layUp, upd]
  | 16, _ => simp [layUp, upd]
  | 17, _ => simp [layUp, upd]
  | 18, _ => simp [layUp, upd]
  | 19, _ => simp [layUp, upd]
  | 20, _ => simp [layUp, upd]
  | 21, _ => simp [layUp, upd]
  | 22, _ => simp [layUp, upd]
  | 23, _ => simp [layUp, upd]
  | 24, _ => simp [layUp, upd]
  | 25, _ => simp [layUp, upd]
  | 26, _ => simp [layUp, upd]
  | 27, _ => simp [layUp, upd]
  | 28, _ => simp [layUp, upd]
  | 29, _ => simp [layUp, upd]
  | 30, _ => simp [layUp, upd]
  | 31, _ => simp [layUp, upd]
  | n + 32, h => omega

theorem sha_same (l : List Int) : bytesA 32 (layR (refUp (padI l) (piecesN l.length)) 32) = bytesA 32 (shaP l) := by
  rw [bytesA_congr (d := layUp (refUp (padI l) (piecesN l.length)) 8) (fun i hi => lay_same _ i hi)]
  have h := (absorb_pieces (padI l) (piecesN l.length) (by rw [pad_len]; exact Nat.le_refl _)).1
  rw [← pad_len, List.take_length] at h
  have hn : (absorbL dg0 l).n = l.length := by rw [absorbL_n]; show 0 + _ = _; omega
  unfold shaP sumF
  rw [← h, hn]
  have e : absorbL dg0 (padI l) = absorbN (absorbL dg0 l) (endX l.length) (zerosF l.length + 9) := by
    rw [padI, absorbL_append, ← absorbN_all, endZ_len]
    have : ∀ (d : Dg) (k : Nat), k ≤ zerosF l.length + 9 → absorbN d (fun i => (endZ l.length).getD i 0) k = absorbN d (endX l.length) k := by
      intro d k hk
      induction k with
      | zero => rfl
      | succ k ih =>
        simp only [absorbN]
        rw [ih (by omega)]
        simp [endZ, List.getD, show k < zerosF l.length + 9 by omega]
    exact this _ _ (Nat.le_refl _)
  rw [e]
theorem refOf_sha (v : Value) (l : List Int) (w : World) (hrow : RowAt w v l) (hl : l.length ≤ 140737488355000) :
    Calls Try.prog 23 #[v] w fun e w' => e = .returned (.agg (bytesA 32 (shaP l))) ∧ Below w.heap.size w w' := by
  rw [← sha_same]; exact refOf_any v l w hrow hl




end Go.Proofs.Ytjklmkeedhgncaa
namespace Go.Proofs.Ytjklmkeedhgncaa
open Go.RowKit
set_option linter.unusedSimpArgs false
set_option linter.unusedVariables false
theorem owns_grown {w w' : World} {B T s n : Nat} {v : Value} {xs : List Value} {S : Nat → Prop} (h : w.ownsRow B T s v n xs) (hg : Grown w w' S) (hs : ∀ k, v.ownBlock = some k → ¬ S k) : w'.ownsRow B T s v n xs := by
  rcases h.2 with ⟨rfl, e⟩ | ⟨g, cap, cur, rfl, h1, h2, h3, h4, h5, h6⟩
  · exact ⟨h.1, .inl ⟨rfl, e⟩⟩
  · have hB : Blk w g T cur := h2
    exact ⟨h.1, .inr ⟨g, cap, cur, rfl, h1, hg.blk hB (hs g rfl), h3, h4, h5, h6⟩⟩
theorem owns_below {w w' : World} {B T s n : Nat} {v : Value} {xs : List Value} (h : w.ownsRow B T s v n xs) (hb : Below w.heap.size w w') : w'.ownsRow B T s v n xs := owns_grown h (Grown.below (S := fun _ => False) hb) fun _ _ e => e
theorem owns_lt {w : World} {B T s n : Nat} {v : Value} {xs : List Value} (h : w.ownsRow B T s v n xs) : ∀ k, v.ownBlock = some k → B ≤ k ∧ k < w.heap.size := fun k hk => World.ownsRow.lt h k hk
theorem owns_sl {w : World} {B T s n : Nat} {v : Value} {xs : List Value} (h : w.ownsRow B T s v n xs) : ∃ a c, v = .slice a n c := by
  rcases h.2 with ⟨rfl, e⟩ | ⟨g, cap, cur, rfl, _⟩
  · exact ⟨none, 0, by rw [e]⟩
  · exact ⟨_, _, rfl⟩
theorem owns_at {w : World} {B T n c : Nat} {a : Option Addr} {xs : List Value} (h : w.ownsRow B T 1 (.slice a n c) n xs) {i : Nat} (hi : i < n) {u : Value} (hu : xs[i]? = some u) : ∃ g, a = some ⟨g, 0, none⟩ ∧ w.cell? ⟨g, i, none⟩ = some u ∧ g < w.heap.size := by
  rcases h.2 with ⟨e, e2⟩ | ⟨g, cap, cur, e, h1, h2, h3, h4, h5, h6⟩
  · omega
  · injection e with e1 e2 e3
    have hB : Blk w g T cur := h2
    refine ⟨g, e1, ?_, hB.lt⟩
    rw [hB.cell, ← Array.getElem?_toList]
    rw [← h6, List.getElem?_take] at hu
    split at hu
    · exact hu
    · cases hu
theorem Try.in23 (w : World) (vs : Array Value) : (callFunc 23 vs).run Try.prog w = .ok (.enter 23 vs) w := by kernel_rfl
def BkS (B : Nat) (w : World) (k : Nat) : Prop := B ≤ k ∧ (Typ w k 61 ∨ Typ w k 38)
structure BkH (B : Nat) (w : World) (x : Nat) (R : List (List Int)) : Prop where
  mk' ::
  ge : B ≤ x
  ex : ∃ (vr : Value) (cs : List Value), Blk w x 61 #[vr] ∧ w.ownsRow B 38 1 vr cs.length cs ∧ cs.length = R.length ∧ ∀ (i : Nat) (v : Value) (l : List Int), cs[i]? = some v → R[i]? = some l → Own w v l
theorem owns_typ {w : World} {B T s n : Nat} {v : Value} {xs : List Value} (h : w.ownsRow B T s v n xs) {k : Nat} (hk : v.ownBlock = some k) : Typ w k T := by
  rcases h.2 with ⟨rfl, _⟩ | ⟨g, cap, cur, rfl, _, h3, _⟩
  · simp [Value.ownBlock] at hk
  · simp [Value.ownBlock] at hk
    subst hk
    exact ⟨cur, _, h3⟩
theorem infoBy : (Try.prog.info? 38).map (fun i => (i.zero, i.size, i.bytes)) = some (some (.slice none 0 0), 1, 24) := by kernel_rfl
theorem bsRw1 (a : Option Addr) (n c : Nat) (w : World) : (Instr.buildSlice 59 1 #[(0, .slice a n c)]).run Try.prog w = .ok (.slice (some ⟨w.heap.size, 0, none⟩) 1 1) (w.alloc (.cells #[.slice a n c] 38)) := by kernel_rfl

theorem bsK (c : Int) (w : World) : (Instr.buildSlice 38 1 #[(0, .int .u8 c)]).run Try.prog w = .ok (.slice (some ⟨w.heap.size, 0, none⟩) 1 1) (w.alloc (.cells (bv [c]).toArray 5)) := by kernel_rfl

end Go.Proofs.Ytjklmkeedhgncaa
