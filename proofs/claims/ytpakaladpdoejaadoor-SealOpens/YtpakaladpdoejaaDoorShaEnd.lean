import Derived.Test.YtpakaladpdoejaaDoorShaWrite
namespace Go.Proofs.YtpakaladpdoejaaDoor
open Go.RowKit

/-- How many zeros stand behind the first byte of the end. -/
def zerosF (n : Nat) : Nat := (119 - n % 64) % 64
/-- What comes behind a row of n bytes. -/
def endL (n : Nat) (j : Nat) : List Value := (Value.int .u8 128 :: List.replicate (zerosF n) (.int .u8 0)) ++ (List.range j).map fun t => .int .u8 (8 * (n : Int) / 2 ^ (56 - 8 * t) % 256)

theorem run_make28 (l c : Nat) (hlc : l ≤ c) (hc : c ≤ 1000) (w : World) : (Instr.makeSlice 22 (.int .i64 (l : Int)) (.int .i64 (c : Int))).run Tryd.prog w = .ok (.slice (some ⟨w.heap.size, 0, none⟩) l c) (w.alloc (.cells (bytesA c fun _ => 0) 5)) := by
  obtain ⟨i, hi, hzz⟩ := Option.map_eq_some_iff.1 Tryd.info5
  simp only [Prod.mk.injEq] at hzz
  obtain ⟨hz, hs, hb⟩ := hzz
  have hr := run_make (P := Tryd.prog) w 22 5 i (.int .u8 0) Tryd.underlying22 hi hz .i64 .i64 (l : Int) (c : Int) (by omega) (by omega) (by rw [hb]; omega) (by omega)
  simp only [Int.toNat_natCast, hs, Nat.mul_one, Value.cells] at hr
  rw [made_bytes] at hr
  exact hr

set_option maxRecDepth 8000 in
set_option maxHeartbeats 1000000 in
theorem end_any (n : Nat) (w : World) (hn : (n : Int) ≤ 1152921504606846976) :
    Calls Tryd.prog 43 #[.int .i64 (n : Int)] w fun e w' => ∃ g, e = .returned (.slice (some ⟨g, 0, none⟩) (zerosF n + 9) (zerosF n + 9)) ∧ w.heap.size ≤ g ∧
      (∀ i v, (endL n 8)[i]? = some v → w'.cell? ⟨g, i, none⟩ = some v) ∧ Below w.heap.size w w' := by
  have hz : (119 - (n : Int) % 64) % 64 = (zerosF n : Int) := by unfold zerosF; omega
  have hzl : zerosF n < 64 := by unfold zerosF; omega
  obtain ⟨z, hzz⟩ : ∃ z, Keep (z = zerosF n) := ⟨_, ⟨rfl⟩⟩
  rw [← hzz.out] at hz hzl ⊢
  have hmk : ∀ w : World, (Instr.makeSlice 22 (.int .i64 (1 + (z : Int))) (.int .i64 (1 + (z : Int) + 8))).run Tryd.prog w = .ok (.slice (some ⟨w.heap.size, 0, none⟩) (z + 1) (z + 9)) (w.alloc (.cells (bytesA (z + 9) fun _ => 0) 5)) := by
    intro w
    have := run_make28 (z + 1) (z + 9) (by omega) (by omega) w
    rwa [show ((z + 1 : Nat) : Int) = 1 + (z : Int) by omega, show ((z + 9 : Nat) : Int) = 1 + (z : Int) + 8 by omega] at this
  have w1 : IntKind.u64.wrap (n : Int) = n := by rw [IntKind.wrap_u64]; omega
  have w2 : IntKind.u64.wrap (8 * (n : Int)) = 8 * n := by rw [IntKind.wrap_u64]; omega
  have hK := Blk.new w 5 (bytesA (z + 9) fun _ => 0)
  have c0 : (w.alloc (.cells (bytesA (z + 9) fun _ => 0) 5)).cell? ⟨w.heap.size, 0, none⟩ = some (.int .u8 0) := by rw [hK.cell, bytesA_get _ _ _ (by omega)]
  have f0 : (w.alloc (.cells (bytesA (z + 9) fun _ => 0) 5)).frozen? ⟨w.heap.size, 0, none⟩ = false := hK.frozen 0
  go_enter Tryd.func43, Tryd.ntmps43
  go_wp2
  have hown : (w.alloc (.cells ((bytesA (z + 9) fun _ => 0).setIfInBounds 0 (.int .u8 128)) 5)).ownsRow w.heap.size 5 1 (.slice (some ⟨w.heap.size, 0, none⟩) (z + 1) (z + 9)) (z + 1) (endL n 0) := by
    have hl : (endL n 0).length = z + 1 := by simp [endL, ← hzz.out]
    refine ⟨by rw [hl]; omega, .inr ⟨w.heap.size, z + 9, _, rfl, Nat.le_refl _, heap_alloc_new _ _, by omega, by unfold maxLen; omega, by simp [bytesA_size], ?_⟩⟩
    rw [bytesA_set]
    apply List.ext_getElem?
    intro i
    rw [List.getElem?_take, Array.getElem?_toList]
    by_cases h : i < (z + 1) * 1
    · rw [if_pos h, bytesA_get _ _ _ (by omega)]
      simp only [endL, List.range_zero, List.map_nil, List.append_nil, ← hzz.out, upd]
      cases i with
      | zero => rfl
      | succ i => rw [if_neg (by omega), List.getElem?_cons_succ, List.getElem?_replicate, if_pos (by omega)]
    · rw [if_neg h, List.getElem?_eq_none (by rw [hl]; omega)]
  have hB : Below w.heap.size w (w.alloc (.cells ((bytesA (z + 9) fun _ => 0).setIfInBounds 0 (.int .u8 128)) 5)) := below_new _ _
  clear c0 f0 hK
  generalize w.alloc (.cells ((bytesA (z + 9) fun _ => 0).setIfInBounds 0 (.int .u8 128)) 5) = w0 at *
  simp only [hz]
  go_loopw [4, 6] (fun b sh wr => ∃ j : Nat, j ≤ 8 ∧ sh = .int .i64 (56 - 8 * (j : Int)) ∧ b = .slice (some ⟨w.heap.size, 0, none⟩) (z + 1 + j) (z + 9) ∧ wr.ownsRow w.heap.size 5 1 (.slice (some ⟨w.heap.size, 0, none⟩) (z + 1 + j) (z + 9)) (z + 1 + j) (endL n j) ∧ Below w.heap.size w wr) (fun _ sh _ => (intOf sh + 8).toNat)
  case atStart => exact ⟨0, by omega, by simp, rfl, hown, hB⟩
  case round =>
    clear hown hB
    obtain ⟨j, hj, rfl, rfl, hown, hB⟩ := hrel
    by_cases hlt : j < 8
    · have hs0 : 0 ≤ 56 - 8 * (j : Int) := by omega
      have hs1 : 56 - 8 * (j : Int) ≤ 64 := by omega
      obtain ⟨i5, hi5, hzz5⟩ := Option.map_eq_some_iff.1 Tryd.info5
      simp only [Prod.mk.injEq] at hzz5
      have hone : Keep (∀ u ∈ [Value.int .u8 (8 * (n : Int) / 2 ^ (56 - 8 * j) % 256)], u.oneCell' = true) := ⟨by intro u hu; simp at hu; subst hu; rfl⟩
      have hownA : Keep ((wr.alloc (.cells #[Value.int .u8 (8 * (n : Int) / 2 ^ (56 - 8 * j) % 256)] 5)).ownsRow w.heap.size 5 1 (.slice (some ⟨w.heap.size, 0, none⟩) (z + 1 + j) (z + 9)) (z + 1 + j) (endL n j)) := ⟨by
        obtain ⟨h1, h2⟩ := hown
        refine ⟨h1, ?_⟩
        rcases h2 with h2 | ⟨g, cap, cur, e, hg, hh, r⟩
        · exact .inl h2
        · exact .inr ⟨g, cap, cur, e, hg, by rw [Below.heap_alloc _ _ _ (Array.getElem?_eq_some_iff.1 hh).1]; exact hh, r⟩⟩
      have hKi : Keep (Tryd.prog.info? 5 = some i5) := ⟨hi5⟩
      have hKs : Keep (i5.size = 1) := ⟨hzz5.2.1⟩
      clear hi5 hzz5
      go_wp2_with (at_builtin; refine wpList_append_fits _ rfl (.tmp 26) (.tmp 31) 22 rfl w.heap.size 5 i5 1 Tryd.underlying22 hKi.out hKs.out w.heap.size (z + 1 + j) (z + 9) (endL n j) rfl hownA.out ⟨wr.heap.size, 0, none⟩ 1 1 [Value.int .u8 (8 * (n : Int) / 2 ^ (56 - 8 * j) % 256)] rfl rfl (cell_one_new _ _ _) hone.out (by omega) ?_; intro w' hown' hgr')
      have hlz : w.heap.size ≤ wr.heap.size := hB.size
      have hB' : Below w.heap.size w w' := (hB.alloc hlz (.cells #[Value.int .u8 (8 * (n : Int) / 2 ^ (56 - 8 * j) % 256)] 5)).grown hgr' (by simp; omega) (fun k e => by injection e with e; omega)
      have hL : endL n j ++ [Value.int .u8 (8 * (n : Int) / 2 ^ (56 - 8 * j) % 256)] = endL n (j + 1) := by simp only [endL, List.range_succ, List.map_append, List.map_cons, List.map_nil, List.append_assoc]
      rw [hL] at hown'
      go_roundw
      case rel =>
        exact ⟨j + 1, by omega, by congr 1; omega, rfl, hown', hB'⟩
      case measure => simp [intOf]; omega
    · obtain rfl : j = 8 := by omega
      go_wp2
      go_ret
      refine ⟨w.heap.size, rfl, Nat.le_refl _, fun i v hv => ?_, hB⟩
      have hi : i < (endL n 8).length := (List.getElem?_eq_some_iff.1 hv).1
      rw [hown.cellAt i (by rw [← hown.1]; exact hi)]
      exact hv
end Go.Proofs.YtpakaladpdoejaaDoor
