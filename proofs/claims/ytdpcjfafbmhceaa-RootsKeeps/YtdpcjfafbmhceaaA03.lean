import Derived.Test.YtdpcjfafbmhceaaA02
import Derived.Test.YtdpcjfafbmhceaaA01
import Derived.Laws.AppendOwnNone
import Derived.Deep.DeepAppendWide
namespace Go.Proofs.Ytdpcjfafbmhceaa
open Go.RowKit
def qT (n : Nat) : Nat := (119 - n % 64) % 64
def jp (n : Nat) (j : Nat) : List Value := (Value.int .u8 128 :: List.replicate (qT n) (.int .u8 0)) ++ (List.range j).map fun t => .int .u8 (8 * (n : Int) / 2 ^ (56 - 8 * t) % 256)
theorem QK (l c : Nat) (hlc : l ≤ c) (hc : c ≤ 1000) (w : World) : (Instr.makeSlice 42 (.int .i64 (l : Int)) (.int .i64 (c : Int))).run Try.prog w = .ok (.slice (some ⟨w.heap.size, 0, none⟩) l c) (w.alloc (.cells (qb c fun _ => 0) 5)) := by
 obtain ⟨i, hi, hzz⟩ := Option.map_eq_some_iff.1 zB
 simp only [Prod.mk.injEq] at hzz
 obtain ⟨hz, hs, hb⟩ := hzz
 have hr := run_make (P := Try.prog) w 42 5 i (.int .u8 0) Try.underlying42 hi hz .i64 .i64 (l : Int) (c : Int) (by omega) (by omega) (by rw [hb]; omega) (by omega)
 simp only [Int.toNat_natCast, hs, Nat.mul_one, Value.cells] at hr
 rw [km] at hr
 exact hr
set_option maxRecDepth 8000 in
set_option maxHeartbeats 1000000 in
theorem VF (n : Nat) (w : World) (hn : (n : Int) ≤ 1152921504606846976) :
  Calls Try.prog 80 #[.int .i64 (n : Int)] w fun e w' => ∃ g, e = .returned (.slice (some ⟨g, 0, none⟩) (qT n + 9) (qT n + 9)) ∧ w.heap.size ≤ g ∧
   (∀ i v, (jp n 8)[i]? = some v → w'.cell? ⟨g, i, none⟩ = some v) ∧ Below w.heap.size w w' := by
 have hz : (119 - (n : Int) % 64) % 64 = (qT n : Int) := by unfold qT; omega
 have hzl : qT n < 64 := by unfold qT; omega
 obtain ⟨z, hzz⟩ : ∃ z, Keep (z = qT n) := ⟨_, ⟨rfl⟩⟩
 rw [← hzz.o] at hz hzl ⊢
 have hmk : ∀ w : World, (Instr.makeSlice 42 (.int .i64 (1 + (z : Int))) (.int .i64 (1 + (z : Int) + 8))).run Try.prog w = .ok (.slice (some ⟨w.heap.size, 0, none⟩) (z + 1) (z + 9)) (w.alloc (.cells (qb (z + 9) fun _ => 0) 5)) := by
  intro w
  have := QK (z + 1) (z + 9) (by omega) (by omega) w
  rwa [show ((z + 1 : Nat) : Int) = 1 + (z : Int) by omega, show ((z + 9 : Nat) : Int) = 1 + (z : Int) + 8 by omega] at this
 have w1 : IntKind.u64.wrap (n : Int) = n := by rw [IntKind.wrap_u64]; omega
 have w2 : IntKind.u64.wrap (8 * (n : Int)) = 8 * n := by rw [IntKind.wrap_u64]; omega
 have hK := Blk.new w 5 (qb (z + 9) fun _ => 0)
 have c0 : (w.alloc (.cells (qb (z + 9) fun _ => 0) 5)).cell? ⟨w.heap.size, 0, none⟩ = some (.int .u8 0) := by rw [hK.cell, qN _ _ _ (by omega)]
 have f0 : (w.alloc (.cells (qb (z + 9) fun _ => 0) 5)).frozen? ⟨w.heap.size, 0, none⟩ = false := hK.frozen 0
 go_enter Try.func80, Try.ntmps80
 go_wp2
 have hown : (w.alloc (.cells ((qb (z + 9) fun _ => 0).setIfInBounds 0 (.int .u8 128)) 5)).ownsRow w.heap.size 5 1 (.slice (some ⟨w.heap.size, 0, none⟩) (z + 1) (z + 9)) (z + 1) (jp n 0) := by
  have hl : (jp n 0).length = z + 1 := by simp [jp, ← hzz.o]
  refine ⟨by rw [hl]; omega, .inr ⟨w.heap.size, z + 9, _, rfl, Nat.le_refl _, heap_alloc_new _ _, by omega, by unfold maxLen; omega, by simp [qB], ?_⟩⟩
  rw [zZ]
  apply List.ext_getElem?
  intro i
  rw [List.getElem?_take, Array.getElem?_toList]
  by_cases h : i < (z + 1) * 1
  ·rw [if_pos h, qN _ _ _ (by omega)]
   simp only [jp, List.range_zero, List.map_nil, List.append_nil, ← hzz.o, upd]
   cases i with
   | zero => rfl
   | succ i => rw [if_neg (by omega), List.getElem?_cons_succ, List.getElem?_replicate, if_pos (by omega)]
  ·rw [if_neg h, List.getElem?_eq_none (by rw [hl]; omega)]
 have hB : Below w.heap.size w (w.alloc (.cells ((qb (z + 9) fun _ => 0).setIfInBounds 0 (.int .u8 128)) 5)) := qg _ _
 clear c0 f0 hK
 generalize w.alloc (.cells ((qb (z + 9) fun _ => 0).setIfInBounds 0 (.int .u8 128)) 5) = w0 at *
 simp only [hz]
 go_loopw [4, 6] (fun b sh wr => ∃ j : Nat, j ≤ 8 ∧ sh = .int .i64 (56 - 8 * (j : Int)) ∧ b = .slice (some ⟨w.heap.size, 0, none⟩) (z + 1 + j) (z + 9) ∧ wr.ownsRow w.heap.size 5 1 (.slice (some ⟨w.heap.size, 0, none⟩) (z + 1 + j) (z + 9)) (z + 1 + j) (jp n j) ∧ Below w.heap.size w wr) (fun _ sh _ => (intOf sh + 8).toNat)
 case atStart => exact ⟨0, by omega, by simp, rfl, hown, hB⟩
 case round =>
  clear hown hB
  obtain ⟨j, hj, rfl, rfl, hown, hB⟩ := hrel
  by_cases hlt : j < 8
  ·have hs0 : 0 ≤ 56 - 8 * (j : Int) := by omega
   have hs1 : 56 - 8 * (j : Int) ≤ 64 := by omega
   obtain ⟨i5, hi5, hzz5⟩ := Option.map_eq_some_iff.1 zB
   simp only [Prod.mk.injEq] at hzz5
   have hone : Keep (∀ u ∈ [Value.int .u8 (8 * (n : Int) / 2 ^ (56 - 8 * j) % 256)], u.oneCell' = true) := ⟨by intro u hu; simp at hu; subst hu; rfl⟩
   have hownA : Keep ((wr.alloc (.cells #[Value.int .u8 (8 * (n : Int) / 2 ^ (56 - 8 * j) % 256)] 5)).ownsRow w.heap.size 5 1 (.slice (some ⟨w.heap.size, 0, none⟩) (z + 1 + j) (z + 9)) (z + 1 + j) (jp n j)) := ⟨by
    obtain ⟨h1, h2⟩ := hown
    refine ⟨h1, ?_⟩
    rcases h2 with h2 | ⟨g, cap, cur, e, hg, hh, r⟩
    ·exact .inl h2
    ·exact .inr ⟨g, cap, cur, e, hg, by rw [Below.heap_alloc _ _ _ (Array.getElem?_eq_some_iff.1 hh).1]; exact hh, r⟩⟩
   have hKi : Keep (Try.prog.info? 5 = some i5) := ⟨hi5⟩
   have hKs : Keep (i5.size = 1) := ⟨hzz5.2.1⟩
   clear hi5 hzz5
   go_wp2_with (at_builtin; refine wpList_append_fits _ rfl (.tmp 26) (.tmp 31) 42 rfl w.heap.size 5 i5 1 Try.underlying42 hKi.o hKs.o w.heap.size (z + 1 + j) (z + 9) (jp n j) rfl hownA.o ⟨wr.heap.size, 0, none⟩ 1 1 [Value.int .u8 (8 * (n : Int) / 2 ^ (56 - 8 * j) % 256)] rfl rfl (cell_one_new _ _ _) hone.o (by omega) ?_; intro w' hown' hgr')
   have hlz : w.heap.size ≤ wr.heap.size := hB.size
   have hB' : Below w.heap.size w w' := (hB.alloc hlz (.cells #[Value.int .u8 (8 * (n : Int) / 2 ^ (56 - 8 * j) % 256)] 5)).grown hgr' (by simp; omega) (fun k e => by injection e with e; omega)
   have hL : jp n j ++ [Value.int .u8 (8 * (n : Int) / 2 ^ (56 - 8 * j) % 256)] = jp n (j + 1) := by simp only [jp, List.range_succ, List.map_append, List.map_cons, List.map_nil, List.append_assoc]
   rw [hL] at hown'
   go_roundw
   case rel =>
    exact ⟨j + 1, by omega, by congr 1; omega, rfl, hown', hB'⟩
   case measure => simp [intOf]; omega
  ·obtain rfl : j = 8 := by omega
   go_wp2
   go_ret
   refine ⟨w.heap.size, rfl, Nat.le_refl _, fun i v hv => ?_, hB⟩
   have hi : i < (jp n 8).length := (List.getElem?_eq_some_iff.1 hv).1
   rw [hown.cellAt i (by rw [← hown.1]; exact hi)]
   exact hv
def qU (s : Nat → Int) : Nat → (Nat → Int)
 | 0 => fun _ => 0
 | t + 1 => upd (upd (upd (upd (qU s t) (4 * t) (s t / 16777216 % 256)) (4 * t + 1) (s t / 65536 % 256)) (4 * t + 2) (s t / 256 % 256)) (4 * t + 3) (s t % 256)
theorem YM (s : Nat → Int) (w : World) : (Instr.index 81 (.agg (qe 8 s)) (.int .i64 0)).run Try.prog w = .ok (.int .u32 (s 0)) w := by kernel_rfl
theorem YL (s : Nat → Int) (w : World) : (Instr.index 81 (.agg (qe 8 s)) (.int .i64 1)).run Try.prog w = .ok (.int .u32 (s 1)) w := by kernel_rfl
theorem YK (s : Nat → Int) (w : World) : (Instr.index 81 (.agg (qe 8 s)) (.int .i64 2)).run Try.prog w = .ok (.int .u32 (s 2)) w := by kernel_rfl
theorem YJ (s : Nat → Int) (w : World) : (Instr.index 81 (.agg (qe 8 s)) (.int .i64 3)).run Try.prog w = .ok (.int .u32 (s 3)) w := by kernel_rfl
theorem YI (s : Nat → Int) (w : World) : (Instr.index 81 (.agg (qe 8 s)) (.int .i64 4)).run Try.prog w = .ok (.int .u32 (s 4)) w := by kernel_rfl
theorem YH (s : Nat → Int) (w : World) : (Instr.index 81 (.agg (qe 8 s)) (.int .i64 5)).run Try.prog w = .ok (.int .u32 (s 5)) w := by kernel_rfl
theorem YG (s : Nat → Int) (w : World) : (Instr.index 81 (.agg (qe 8 s)) (.int .i64 6)).run Try.prog w = .ok (.int .u32 (s 6)) w := by kernel_rfl
theorem YF (s : Nat → Int) (w : World) : (Instr.index 81 (.agg (qe 8 s)) (.int .i64 7)).run Try.prog w = .ok (.int .u32 (s 7)) w := by kernel_rfl
theorem Vo (s : Nat → Int) (t : Nat) (ht : t < 8) (w : World) : (Instr.index 81 (.agg (qe 8 s)) (.int .i64 (t : Int))).run Try.prog w = .ok (.int .u32 (s t)) w := by
 match t, ht with
 | 0, _ => exact YM s w
 | 1, _ => exact YL s w
 | 2, _ => exact YK s w
 | 3, _ => exact YJ s w
 | 4, _ => exact YI s w
 | 5, _ => exact YH s w
 | 6, _ => exact YG s w
 | 7, _ => exact YF s w
 | n + 8, h => omega
set_option maxRecDepth 8000 in
set_option maxHeartbeats 1000000 in
theorem Vn (s : Nat → Int) (w : World) :
  Calls Try.prog 81 #[.agg (qe 8 s)] w fun e w' => e = .returned (.agg (qb 32 (qU s 8))) ∧ Below w.heap.size w w' := by
 go_enter Try.func81, Try.ntmps81
 go_wp2_with (first | (refine zD rfl 81 (.tmp 0) rfl (qe 8 s) rfl ?_; refine qM rfl 32 rfl _ qm ?_) | (refine qM rfl 32 rfl _ qm ?_) | (refine wpList_load_row rfl 81 (.tmp 1) rfl w.heap.size rfl 81 (qe 8 s) (0, 0) (.array 8 80) (((Blk.new w 81 (qe 8 s)).alloc _).alloc _) Try.underlying81 rfl (qV _) ?_))
 have hR := (Blk.new (w.alloc (.cells (qe 8 s) 81)) 32 (qb 32 fun _ => 0)).alloc (.cells (qb 32 fun _ => 0) 32)
 have hH := Blk.new ((w.alloc (.cells (qe 8 s) 81)).alloc (.cells (qb 32 fun _ => 0) 32)) 32 (qb 32 fun _ => 0)
 have hB : Below w.heap.size w (((w.alloc (.cells (qe 8 s) 81)).alloc (.cells (qb 32 fun _ => 0) 32)).alloc (.cells (qb 32 fun _ => 0) 32)) :=
  (((Below.refl _ _).alloc (Nat.le_refl _) _).alloc (by simp) _).alloc (by simp; omega) _
 simp only [World.size_alloc] at hR hH
 generalize (((w.alloc (.cells (qe 8 s) 81)).alloc (.cells (qb 32 fun _ => 0) 32)).alloc (.cells (qb 32 fun _ => 0) 32)) = w0 at *
 go_loopw [7] (fun i wr => ∃ t : Nat, t ≤ 8 ∧ i = .int .i64 t ∧ Blk wr (w.heap.size + 1) 32 (qb 32 fun _ => 0) ∧ Blk wr (w.heap.size + 1 + 1) 32 (qb 32 (qU s t)) ∧ Below w.heap.size w wr) (fun i _ => 8 - (intOf i).toNat)
 case atStart => exact ⟨0, by omega, rfl, hR, hH, hB⟩
 case round =>
  clear hR hH hB
  obtain ⟨t, ht, rfl, hR, hH, hB⟩ := hrel
  by_cases hlt : t < 8
  ·have hix := Vo s t hlt
   have hlt' : (t : Int) < 8 := by omega
   have c0 : wr.cell? ⟨w.heap.size + 1 + 1, 4 * t, none⟩ = some (.int .u8 (qU s t (4 * t))) := by rw [hH.cell, qN _ _ _ (by omega)]
   have f0 : wr.frozen? ⟨w.heap.size + 1 + 1, 4 * t, none⟩ = false := hH.frozen _
   have c1 : wr.cell? ⟨w.heap.size + 1 + 1, 4 * t + 1, none⟩ = some (.int .u8 (qU s t (4 * t + 1))) := by rw [hH.cell, qN _ _ _ (by omega)]
   have f1 : wr.frozen? ⟨w.heap.size + 1 + 1, 4 * t + 1, none⟩ = false := hH.frozen _
   have c2 : wr.cell? ⟨w.heap.size + 1 + 1, 4 * t + 2, none⟩ = some (.int .u8 (qU s t (4 * t + 2))) := by rw [hH.cell, qN _ _ _ (by omega)]
   have f2 : wr.frozen? ⟨w.heap.size + 1 + 1, 4 * t + 2, none⟩ = false := hH.frozen _
   have c3 : wr.cell? ⟨w.heap.size + 1 + 1, 4 * t + 3, none⟩ = some (.int .u8 (qU s t (4 * t + 3))) := by rw [hH.cell, qN _ _ _ (by omega)]
   have f3 : wr.frozen? ⟨w.heap.size + 1 + 1, 4 * t + 3, none⟩ = false := hH.frozen _
   go_wp2
   go_roundw
   case rel =>
    have ne : w.heap.size + 1 ≠ w.heap.size + 1 + 1 := by omega
    have le : w.heap.size ≤ w.heap.size + 1 + 1 := by omega
    have h := (((hH.set (4 * t) (.int .u8 (s t / 16777216 % 256))).set (4 * t + 1) (.int .u8 (s t / 65536 % 256))).set (4 * t + 2) (.int .u8 (s t / 256 % 256))).set (4 * t + 3) (.int .u8 (s t % 256))
    rw [zZ, zZ, zZ, zZ] at h
    exact ⟨t + 1, by omega, by go_num, (((hR.set_ne ne _).set_ne ne _).set_ne ne _).set_ne ne _, h, (((hB.setCell le _).setCell le _).setCell le _).setCell le _⟩
   case measure => simp [intOf]; omega
  ·obtain rfl : t = 8 := by omega
   clear hlt ht
   obtain ⟨c, hc⟩ : ∃ c, Keep (c = qU s 8) := ⟨_, ⟨rfl⟩⟩
   rw [← hc.o] at hH
   go_wp2_with (refine wpList_load_row rfl 32 (.tmp 3) rfl (w.heap.size + 1 + 1) rfl 32 (qb 32 c) (0, 0) (.array 32 5) hH Try.underlying32 rfl (qd _) ?_; refine wpList_store_row rfl 32 (.tmp 2) (.tmp 38) rfl (w.heap.size + 1) (qb 32 c) rfl rfl 32 (qb 32 fun _ => 0) hR (qd _) (qh _ _ _) (qi _ _) ?_)
   exact bodyPost_ret (v := .agg (qb 32 c)) (results_cell_row Try.results81 _ _ (w.heap.size + 1) 32 _ (0, 0) _ rfl (hR.setRow _) Try.underlying32 rfl (qd _)) rfl ⟨by rw [hc.o], qf hB (by omega) _⟩
def Kl (n i : Nat) : Int := if i = 0 then 128 else if i ≤ qT n then 0 else 8 * (n : Int) / 2 ^ (56 - 8 * (i - qT n - 1)) % 256
theorem Qd (n i : Nat) (h : i < qT n + 9) : (jp n 8)[i]? = some (.int .u8 (Kl n i)) := by
 unfold jp Kl
 rw [List.getElem?_append, List.length_cons, List.length_replicate]
 by_cases h1 : i < qT n + 1
 ·rw [if_pos h1]
  cases i with
  | zero => rfl
  | succ i => rw [List.getElem?_cons_succ, List.getElem?_replicate, if_pos (by omega), if_neg (by omega), if_pos (by omega)]
 ·rw [if_neg h1, if_neg (by omega), if_neg (by omega), List.getElem?_map, List.getElem?_range (by omega)]
  simp only [Option.map_some]
  rw [show i - (qT n + 1) = i - qT n - 1 by omega]
def dg0 : Dg := ⟨zf, fun _ => 0, 0⟩
def Zo (d : Dg) : Nat → Int := qU (qI d (Kl d.n) (qT d.n + 9)).s 8
theorem Xp (w : World) : (Instr.alloc 120 true (.tuple #[])).run Try.prog w = .ok (.pointer (some ⟨w.heap.size, 0, none⟩)) (w.alloc (.cells (qS (fun _ => 0) (fun _ => 0) 0) 120)) := by kernel_rfl
theorem Xg (s r s' r' : Nat → Int) (n n' : Int) : (qS s r n).size = (qS s' r' n').size := by rw [zy, zy]
set_option maxRecDepth 8000 in
set_option maxHeartbeats 1000000 in
theorem UT (g : Nat) (d : Dg) (w : World) (hg : Blk w g 120 (qS d.s d.r d.n)) (hn : (d.n : Int) ≤ 576460752303423488) :
  Calls Try.prog 61 #[ptr g] w fun e w' => e = .returned (.agg (qb 32 (Zo d))) ∧ Below w.heap.size w w' := by
 have hlt := hg.lt
 obtain ⟨s, r, n⟩ := d
 dsimp only at hg hn
 have hg1 := (hg.alloc (.cells (qb 32 fun _ => 0) 32))
 have hc1 := Blk.new (w.alloc (.cells (qb 32 fun _ => 0) 32)) 120 (qS (fun _ => 0) (fun _ => 0) 0)
 have HG : Keep (Blk (w.alloc (.cells (qb 32 fun _ => 0) 32)) g 120 (qS s r n)) := ⟨hg1⟩
 have HC : Keep (Blk ((w.alloc (.cells (qb 32 fun _ => 0) 32)).alloc (.cells (qS (fun _ => 0) (fun _ => 0) 0) 120)) (w.heap.size + 1) 120 (qS (fun _ => 0) (fun _ => 0) 0)) := ⟨by simpa using hc1⟩
 have hg2 := (hg1.alloc (.cells (qS (fun _ => 0) (fun _ => 0) 0) 120)).setRow_ne (b' := w.heap.size + 1) (by omega) (qS s r n)
 have hc2 := HC.o.setRow (qS s r n)
 have hr2 := ((Blk.new w 32 (qb 32 fun _ => 0)).alloc (.cells (qS (fun _ => 0) (fun _ => 0) 0) 120)).setRow_ne (b' := w.heap.size + 1) (by omega) (qS s r n)
 have hB2 : Below w.heap.size w (((w.alloc (.cells (qb 32 fun _ => 0) 32)).alloc (.cells (qS (fun _ => 0) (fun _ => 0) 0) 120)).setRow (w.heap.size + 1) (qS s r n)) :=
  qf (((Below.refl _ _).alloc (Nat.le_refl _) _).alloc (by simp) _) (by omega) _
 clear hg hg1 hc1
 obtain ⟨w2, hw2⟩ : ∃ w2, Keep (w2 = ((w.alloc (.cells (qb 32 fun _ => 0) 32)).alloc (.cells (qS (fun _ => 0) (fun _ => 0) 0) 120)).setRow (w.heap.size + 1) (qS s r n)) := ⟨_, ⟨rfl⟩⟩
 rw [← hw2.o] at hg2 hc2 hr2 hB2
 have c72 : w2.cell? ⟨g, 72, none⟩ = some (.int .i64 n) := by rw [hg2.cell, yo]
 go_enter Try.func61, Try.ntmps61
 go_wp2_with (first | (refine qM rfl 32 rfl _ qm ?_) | (refine wpList_load_row rfl 120 (.tmp 5) rfl g rfl 120 (qS s r n) (0, 0) _ HG.o Try.underlying120 rfl (yL _ _ _) ?_; refine qM rfl 120 rfl _ Xp ?_; refine wpList_store_row rfl 120 (.tmp 3) (.tmp 6) rfl (w.heap.size + 1) (qS s r n) (by simp [Act.put, Act.eval]) rfl 120 (qS (fun _ => 0) (fun _ => 0) 0) HC.o (yL _ _ _) (Xg _ _ _ _ _ _) (Ui _ _ _) ?_; rw [← hw2.o]))
 refine (VF n _ (by omega)).mono ?_
 rintro e w3 ⟨h, rfl, hle, hcells, hB3⟩
 have hsz2 := hB2.size
 have hc3 := hc2.below hB3 hc2.lt
 have hr3 := hr2.below hB3 hr2.lt
 have hltc := hc2.lt
 have hz9 : qT n + 9 ≤ 72 := by unfold qT; omega
 have HX : Keep (∀ i, i < qT n + 9 → w3.cell? ⟨h, 0 + i, none⟩ = some (.int .u8 (Kl n i))) := ⟨fun i hi => by rw [Nat.zero_add]; exact hcells i _ (Qd n i hi)⟩
 clear hcells c72
 have HB3 : Keep (Below w.heap.size w w3) := ⟨hB2.trans (hB3.mono hsz2)⟩
 go_wp2_with fail
 refine (Jb (w.heap.size + 1) ⟨s, r, n⟩ (Kl n) (qT n + 9) (qT n + 9) h 0 w3 hc3 (by omega) HX.o (by dsimp only; omega) (Nat.le_refl _)).mono ?_
 rintro e w4 ⟨rfl, hc4, hgr4⟩
 have hr4 : Blk w4 w.heap.size 32 (qb 32 fun _ => 0) := by
  unfold Blk; rw [hgr4.block _ hr3.lt (by simp)]; exact hr3
 have hB4 : Below w.heap.size w w4 := HB3.o.grown hgr4 (by have := HB3.o.size; omega) (fun k e => by injection e with e; omega)
 obtain ⟨D, hD⟩ : ∃ D, Keep (D = qI ⟨s, r, n⟩ (Kl n) (qT n + 9)) := ⟨_, ⟨rfl⟩⟩
 rw [← hD.o] at hc4
 obtain ⟨s', r', n'⟩ := D
 dsimp only at hc4
 have hrng := kq hc4
 go_wp2_with (refine wpList_load_mid rfl 81 (.tmp 13) rfl (w.heap.size + 1) 0 rfl (qe 8 s').toList (.array 8 80) hrng Try.underlying81 rfl (by rw [Array.length_toList]; exact qV s') ?_; rw [Array.toArray_toList])
 refine (Vn s' _).mono ?_
 rintro e w5 ⟨rfl, hB5⟩
 have hr5 := hr4.below hB5 hr4.lt
 have hB5' := hB4.trans (hB5.mono hB4.size)
 obtain ⟨c, hc⟩ : ∃ c, Keep (c = qU s' 8) := ⟨_, ⟨rfl⟩⟩
 rw [← hc.o]
 go_wp2_with (refine wpList_store_row rfl 32 (.tmp 2) (.tmp 15) rfl w.heap.size (qb 32 c) rfl rfl 32 (qb 32 fun _ => 0) hr5 (qd _) (qh _ _ _) (qi _ _) ?_)
 exact bodyPost_ret (v := .agg (qb 32 c)) (results_cell_row Try.results61 _ _ w.heap.size 32 _ (0, 0) _ rfl (hr5.setRow _) Try.underlying32 rfl (qd _)) rfl ⟨by rw [hc.o]; unfold Zo; rw [← hD.o], qf hB5' (Nat.le_refl _) _⟩
def ze (d : Dg) (l : List Int) : Dg := l.foldl Kr d
theorem je (d : Dg) (l m : List Int) : ze d (l ++ m) = ze (ze d l) m := by simp [ze]
theorem Zc (d : Dg) (l : List Int) (k : Nat) (hk : k ≤ l.length) : qI d (fun i => l.getD i 0) k = ze d (l.take k) := by
 induction k with
 | zero => rfl
 | succ k ih =>
  rw [List.take_succ_eq_append_getElem (by omega), je, ← ih (by omega)]
  simp [qI, ze, List.getD, show k < l.length by omega]
theorem jM (d : Dg) (l : List Int) : qI d (fun i => l.getD i 0) l.length = ze d l := by
 rw [Zc d l l.length (Nat.le_refl _), List.take_length]
theorem xW (d : Dg) (l : List Int) : (ze d l).n = d.n + l.length := by rw [← jM, JG]
set_option maxRecDepth 8000 in
set_option maxHeartbeats 400000 in
theorem ye (g : Nat) (a : Option Addr) (c : Nat) (w : World) :
  Calls Try.prog 60 #[ptr g, .slice a 0 c] w fun e w' => e = .returned (.tuple #[]) ∧ w' = w := by
 go_enter Try.func60, Try.ntmps60
 go_wp2
 refine wp_loop_rounds 1 ?_; rw [rounds_succ]
 go_wp2
 go_end0
 exact ⟨rfl, rfl⟩
theorem XT (g : Nat) (d : Dg) (v : Value) (l : List Int) (w0 w : World) (hb : Below w0.heap.size w0 w) (hg0 : w0.heap.size ≤ g) (hrow : RowAt w0 v l) (hg : Blk w g 120 (qS d.s d.r d.n))
  (hlen : (d.n : Int) + l.length ≤ 1152921504606846976) :
  Calls Try.prog 60 #[ptr g, v] w fun e w' => e = .returned (.tuple #[]) ∧ Blk w' g 120 (qS (ze d l).s (ze d l).r (ze d l).n) ∧ Below w0.heap.size w0 w' := by
 rcases hrow with ⟨rfl, rfl⟩ | ⟨a, c, rfl, rfl⟩ | ⟨h, off, cap, rfl, hcap, hx⟩
 ·refine (ye g none 0 w).mono ?_
  rintro e w' ⟨rfl, rfl⟩
  exact ⟨rfl, hg, hb⟩
 ·refine (ye g (some a) c w).mono ?_
  rintro e w' ⟨rfl, rfl⟩
  exact ⟨rfl, hg, hb⟩
 ·by_cases h0 : l.length = 0
  ·obtain rfl := List.eq_nil_of_length_eq_zero h0
   refine (ye g (some ⟨h, off, none⟩) cap w).mono ?_
   rintro e w' ⟨rfl, rfl⟩
   exact ⟨rfl, hg, hb⟩
  ·have hlt := zM (hx 0 (by omega))
   refine (Jb g d (fun i => l.getD i 0) l.length cap h off w hg (by omega) (fun i hi => by rw [hb.cell (p := ⟨h, off + i, none⟩) hlt]; exact hx i hi) hlen hcap).mono ?_
   rintro e w' ⟨rfl, h1, h2⟩
   rw [jM] at h1
   exact ⟨rfl, h1, hb.grown h2 (by have := hb.size; omega) (fun k e => by injection e with e; omega)⟩
def qy (l : List Int) : Nat → Int := Zo (ze dg0 l)
def zA (rows : Nat → List Int) : Nat → List Int
 | 0 => []
 | i + 1 => zA rows i ++ rows i
theorem YS (rows : Nat → List Int) (i m : Nat) (hi : i ≤ m) : (zA rows i).length ≤ (zA rows m).length := by
 obtain ⟨k, rfl⟩ : ∃ k, m = i + k := ⟨m - i, by omega⟩
 clear hi
 induction k with
 | zero => exact Nat.le_refl _
 | succ k ih => rw [← Nat.add_assoc]; simp only [zA, List.length_append]; exact Nat.le_trans ih (Nat.le_add_right _ _)
set_option maxRecDepth 8000 in
set_option maxHeartbeats 1000000 in
theorem Yz (q o m cap : Nat) (V : Nat → Value) (rows : Nat → List Int) (w : World) (hV : ∀ i, i < m → w.cell? ⟨q, o + i, none⟩ = some (V i)) (hrow : ∀ i, i < m → RowAt w (V i) (rows i))
  (hm : (m : Int) ≤ 9223372036854775807) (hlen : ((zA rows m).length : Int) ≤ 576460752303423488) :
  Calls Try.prog 41 #[.slice (some ⟨q, o, none⟩) m cap] w fun e w' => e = .returned (.agg (qb 32 (qy (zA rows m)))) ∧ Below w.heap.size w w' := by
 have hbA := qg w (.cells (qb 32 fun _ => 0) 32)
 have HV : Keep (∀ i, i < m → (w.alloc (.cells (qb 32 fun _ => 0) 32)).cell? ⟨q, o + i, none⟩ = some (V i)) := ⟨fun i hi => by rw [hbA.cell (p := ⟨q, o + i, none⟩) (zM (hV i hi))]; exact hV i hi⟩
 have HR : Keep (∀ i, i < m → RowAt (w.alloc (.cells (qb 32 fun _ => 0) 32)) (V i) (rows i)) := ⟨fun i hi => (hrow i hi).below hbA⟩
 clear hV hrow
 go_enter Try.func41, Try.ntmps41
 go_wp2_with (first | (refine qM rfl 32 rfl _ qm ?_))
 refine (Vi _).mono ?_
 rintro e w1 ⟨rfl, rfl⟩
 simp only [World.size_alloc]
 go_wp2_with fail
 have hG := Blk.new ((w.alloc (.cells (qb 32 fun _ => 0) 32)).alloc (.cells (qe 8 zf) 81)) 120 (qS zf (fun _ => 0) 0)
 have hR := Blk.new w 32 (qb 32 fun _ => 0)
 have hsA : (w.alloc (.cells (qb 32 fun _ => 0) 32)).heap.size = w.heap.size + 1 := by simp
 have hB : Below (w.heap.size + 1) (w.alloc (.cells (qb 32 fun _ => 0) 32)) (((w.alloc (.cells (qb 32 fun _ => 0) 32)).alloc (.cells (qe 8 zf) 81)).alloc (.cells (qS zf (fun _ => 0) 0) 120)) :=
  ((Below.refl _ _).alloc (by simp) _).alloc (by simp) _
 simp only [World.size_alloc] at hG
 generalize (((w.alloc (.cells (qb 32 fun _ => 0) 32)).alloc (.cells (qe 8 zf) 81)).alloc (.cells (qS zf (fun _ => 0) 0) 120)) = w0 at *
 generalize w.alloc (.cells (qb 32 fun _ => 0) 32) = wA at *
 have HL : Keep (∀ i, i ≤ m → (zA rows i).length ≤ (zA rows m).length) := ⟨fun i hi => YS rows i m hi⟩
 have HA : Keep (wA.heap.size = w.heap.size + 1) := ⟨hsA⟩
 clear hsA
 go_loopw [9] (fun i wr => ∃ t : Nat, t ≤ m ∧ i = .int .i64 t ∧ Blk wr (w.heap.size + 1 + 1) 120 (qS (ze dg0 (zA rows t)).s (ze dg0 (zA rows t)).r (ze dg0 (zA rows t)).n) ∧ Below (w.heap.size + 1) wA wr) (fun i _ => m - (intOf i).toNat)
 case atStart => exact ⟨0, by omega, rfl, hG, hB⟩
 case round =>
  clear hG hB
  obtain ⟨t, ht, rfl, hGr, hBr⟩ := hrel
  by_cases hlt : t < m
  ·have hlt' : (t : Int) < (m : Int) := by omega
   have hcell := HV.o t hlt
   have hc : wr.cell? ⟨q, o + t, none⟩ = some (V t) := by rw [hBr.cell (p := ⟨q, o + t, none⟩) (by rw [← HA.o]; exact zM hcell)]; exact hcell
   clear hcell
   have hLt := HL.o (t + 1) hlt
   simp only [zA, List.length_append] at hLt
   have Xr : Keep (RowAt wA (V t) (rows t)) := ⟨HR.o t hlt⟩
   go_wp2_with fail
   refine (XT (w.heap.size + 1 + 1) (ze dg0 (zA rows t)) (V t) (rows t) wA wr (by rw [HA.o]; exact hBr) (by rw [HA.o]; omega) Xr.o hGr (by rw [xW]; show ((0 + (zA rows t).length : Nat) : Int) + _ ≤ _; omega)).mono ?_
   rintro e w' ⟨rfl, hG', hB'⟩
   rw [HA.o] at hB'
   rw [← je] at hG'
   go_wp2
   go_roundw
   case rel => exact ⟨t + 1, by omega, by go_num, hG', hB'⟩
   case measure => simp [intOf]; omega
  ·obtain rfl : t = m := by omega
   go_wp2_with fail
   refine (UT (w.heap.size + 1 + 1) (ze dg0 (zA rows t)) wr hGr (by rw [xW]; show ((0 + (zA rows t).length : Nat) : Int) ≤ _; omega)).mono ?_
   rintro e w5 ⟨rfl, hB5⟩
   have hr5 : Blk w5 w.heap.size 32 (qb 32 fun _ => 0) := (hR.below hBr (by omega)).below hB5 (by have := hGr.lt; omega)
   have hB5' : Below w.heap.size w w5 := hbA.trans ((hBr.mono (by omega)).trans (hB5.mono (by have := hGr.lt; omega)))
   obtain ⟨c, hc⟩ : ∃ c, Keep (c = Zo (ze dg0 (zA rows t))) := ⟨_, ⟨rfl⟩⟩
   rw [← hc.o]
   go_wp2_with (refine wpList_store_row rfl 32 (.tmp 2) (.tmp 18) rfl w.heap.size (qb 32 c) rfl rfl 32 (qb 32 fun _ => 0) hr5 (qd _) (qh _ _ _) (qi _ _) ?_)
   exact bodyPost_ret (v := .agg (qb 32 c)) (results_cell_row Try.results41 _ _ w.heap.size 32 _ (0, 0) _ rfl (hr5.setRow _) Try.underlying32 rfl (qd _)) rfl ⟨by rw [hc.o]; rfl, qf hB5' (Nat.le_refl _) _⟩
theorem Kq (k : IntKind) (a b : Int) : bits .or k a b = bits .or k b a := by
 simp only [bits, BitVec.or_comm]
theorem ZA (x n : Int) : bits .or .u32 (x / 2 ^ n.toNat) (x * 2 ^ (32 - n).toNat % 4294967296) = rot x n := by
 rw [Kq]; rfl
set_option maxRecDepth 8000 in
set_option maxHeartbeats 400000 in
theorem yf (x n : Int) (w : World) (h1 : 1 ≤ n) (h2 : n ≤ 31) :
  Calls Try.prog 63 #[.int .u32 x, .int .i64 n] w fun e w' => e = .returned (.int .u32 (rot x n)) ∧ ∃ k, w' = w.drewN k := by
 have hs : 32 - n ≤ 32 := by omega
 have hs0 : 0 ≤ 32 - n := by omega
 have hn0 : 0 ≤ n := by omega
 have hn1 : n ≤ 32 := by omega
 go_enter Try.func63, Try.ntmps63
 go_wp2
 go_quiet (fail)
 go_wp2
 go_ret
 refine ⟨?_, nq, rfl⟩
 rw [← ZA]
 rfl
theorem QS (c : Nat → Int) (t : Nat) : KQ c t = (c (t - 16) + UY (c (t - 15)) + c (t - 7) + UX (c (t - 2))) % 4294967296 := by
 unfold KQ
 generalize UY (c (t - 15)) = x
 generalize UX (c (t - 2)) = y
 omega
set_option maxRecDepth 8000 in
set_option maxHeartbeats 2000000 in
theorem XV (b : Nat → Int) (h off cap : Nat) (w : World) (hx : ∀ i, i < 64 → w.cell? ⟨h, off + i, none⟩ = some (.int .u8 (b i))) :
  Calls Try.prog 62 #[.slice (some ⟨h, off, none⟩) 64 cap] w fun e w' => e = .returned (.agg (qe 64 (qG b 64))) ∧ Below w.heap.size w w' := by
 have HX : Keep (∀ i, i < 64 → w.cell? ⟨h, off + i, none⟩ = some (.int .u8 (b i))) := ⟨hx⟩
 have hhlt := zM (hx 0 (by omega))
 clear hx
 have HC : Keep (Blk ((w.alloc (.cells (qe 64 fun _ => 0) 83)).alloc (.cells (qe 64 fun _ => 0) 83)) (w.heap.size + 1) 83 (qe 64 fun _ => 0)) := ⟨by
  have h := Blk.new (w.alloc (.cells (qe 64 fun _ => 0) 83)) 83 (qe 64 fun _ => 0)
  simp only [World.size_alloc] at h; exact h⟩
 have hR := ((Blk.new w 83 (qe 64 fun _ => 0)).alloc (.cells (qe 64 fun _ => 0) 83)).setRow_ne (b' := w.heap.size + 1) (by omega) (qe 64 fun _ => 0)
 have hW := HC.o.setRow (qe 64 fun _ => 0)
 have hB : Below w.heap.size w (((w.alloc (.cells (qe 64 fun _ => 0) 83)).alloc (.cells (qe 64 fun _ => 0) 83)).setRow (w.heap.size + 1) (qe 64 fun _ => 0)) :=
  qf (((Below.refl _ _).alloc (Nat.le_refl _) _).alloc (by simp) _) (by omega) _
 go_enter Try.func62, Try.ntmps62
 go_wp2_with (first | (refine qM rfl 83 rfl _ zN ?_) | (refine zE rfl 83 _ rfl (qe 64 fun _ => 0) (by kernel_rfl) ?_; refine qM rfl 83 rfl _ zN ?_; refine wpList_store_row rfl 83 (.tmp 3) (.tmp 8) rfl (w.heap.size + 1) (qe 64 fun _ => 0) (by simp [Act.put, Act.eval]) rfl 83 (qe 64 fun _ => 0) HC.o (zh _) (qW _ _ _) (qP _ _) ?_))
 generalize (((w.alloc (.cells (qe 64 fun _ => 0) 83)).alloc (.cells (qe 64 fun _ => 0) 83)).setRow (w.heap.size + 1) (qe 64 fun _ => 0)) = w0 at *
 clear HC
 go_loopw [4] (fun i wr => ∃ t : Nat, t ≤ 16 ∧ i = .int .i64 t ∧ Blk wr w.heap.size 83 (qe 64 fun _ => 0) ∧ Blk wr (w.heap.size + 1) 83 (qe 64 (qG b t)) ∧ Below w.heap.size w wr) (fun i _ => 16 - (intOf i).toNat)
 case atStart => exact ⟨0, by omega, rfl, hR, hW, hB⟩
 case round =>
  clear hR hW hB
  obtain ⟨t, ht, rfl, hR, hW, hB⟩ := hrel
  by_cases hlt : t < 16
  ·have hlt' : (t : Int) < 16 := by omega
   have e0 : wr.cell? ⟨h, off + 4 * t, none⟩ = some (.int .u8 (b (4 * t))) := by rw [hB.cell (p := ⟨h, off + 4 * t, none⟩) hhlt]; exact HX.o _ (by omega)
   have e1 : wr.cell? ⟨h, off + (4 * t + 1), none⟩ = some (.int .u8 (b (4 * t + 1))) := by rw [hB.cell (p := ⟨h, off + (4 * t + 1), none⟩) hhlt]; exact HX.o _ (by omega)
   have e2 : wr.cell? ⟨h, off + (4 * t + 2), none⟩ = some (.int .u8 (b (4 * t + 2))) := by rw [hB.cell (p := ⟨h, off + (4 * t + 2), none⟩) hhlt]; exact HX.o _ (by omega)
   have e3 : wr.cell? ⟨h, off + (4 * t + 3), none⟩ = some (.int .u8 (b (4 * t + 3))) := by rw [hB.cell (p := ⟨h, off + (4 * t + 3), none⟩) hhlt]; exact HX.o _ (by omega)
   have e4 : wr.cell? ⟨w.heap.size + 1, t, none⟩ = some (.int .u32 (qG b t t)) := by rw [hW.cell, qr _ _ _ (by omega)]
   have e5 : wr.frozen? ⟨w.heap.size + 1, t, none⟩ = false := hW.frozen t
   go_wp2
   go_region
   go_wp2
   go_roundw
   case rel => exact ⟨t + 1, by omega, by go_num, (hR.set_ne (by omega) _).drew, by
    have h := (hW.set t (.int .u32 (YY b t))).drew
    rw [jA] at h
    simp only [qG, if_pos hlt]; exact h, (hB.setCell (by show w.heap.size ≤ w.heap.size + 1; omega) _).drew⟩
   case measure => simp [intOf]; omega
  ·obtain rfl : t = 16 := by omega
   clear hlt ht HX hhlt
   go_wp2
   go_loopw [5] (fun i wr => ∃ t : Nat, 16 ≤ t ∧ t ≤ 64 ∧ i = .int .i64 t ∧ Blk wr w.heap.size 83 (qe 64 fun _ => 0) ∧ Blk wr (w.heap.size + 1) 83 (qe 64 (qG b t)) ∧ Below w.heap.size w wr) (fun i _ => 64 - (intOf i).toNat)
   case atStart => exact ⟨16, by omega, by omega, rfl, hR, hW, hB⟩
   case round =>
    clear hR hW hB
    obtain ⟨t, ht0, ht, rfl, hR, hW, hB⟩ := hrel
    by_cases hlt : t < 64
    ·have e16 : wr.cell? ⟨w.heap.size + 1, t - 16, none⟩ = some (.int .u32 (qG b t (t - 16))) := by rw [hW.cell, qr _ _ _ (by omega)]
     have e15 : wr.cell? ⟨w.heap.size + 1, t - 15, none⟩ = some (.int .u32 (qG b t (t - 15))) := by rw [hW.cell, qr _ _ _ (by omega)]
     have e7 : wr.cell? ⟨w.heap.size + 1, t - 7, none⟩ = some (.int .u32 (qG b t (t - 7))) := by rw [hW.cell, qr _ _ _ (by omega)]
     have e2 : wr.cell? ⟨w.heap.size + 1, t - 2, none⟩ = some (.int .u32 (qG b t (t - 2))) := by rw [hW.cell, qr _ _ _ (by omega)]
     have e0 : wr.cell? ⟨w.heap.size + 1, t, none⟩ = some (.int .u32 (qG b t t)) := by rw [hW.cell, qr _ _ _ (by omega)]
     have ef : wr.frozen? ⟨w.heap.size + 1, t, none⟩ = false := hW.frozen t
     have hlt' : (t : Int) < 64 := by omega
     have ht0' : (16 : Int) ≤ (t : Int) := by omega
     go_wp2
     go_quiet (fail)
     go_wp2_with (go_at_call 63; refine (yf _ _ _ (by omega) (by omega)).mono ?_; rintro e w' ⟨rfl, k, rfl⟩)
     go_region
     go_wp2
     go_roundw
     case rel =>
      go_tidy
      try simp only [IntKind.wrap_u32']
      repeat apply Exists.intro
      refine ⟨?_, rfl⟩
      have hv : Keep (Blk (wr.setCell ⟨w.heap.size + 1, t, none⟩ (.int .u32 ((qG b t (t - 16) + UY (qG b t (t - 15)) + qG b t (t - 7) + UX (qG b t (t - 2))) % 4294967296))) (w.heap.size + 1) 83 (qe 64 (qG b (t + 1)))) := ⟨by
       have h := hW.set t (.int .u32 (KQ (qG b t) t))
       rw [jA] at h
       rw [← QS]
       simp only [qG, if_neg (show ¬ t < 16 by omega)]; exact h⟩
      exact ⟨t + 1, by omega, by omega, by go_num, (qL hR _).set_ne (by omega) _, hv.o, (below_drewN hB _).setCell (by show w.heap.size ≤ w.heap.size + 1; omega) _⟩
     case measure => simp [intOf]; omega
    ·obtain rfl : t = 64 := by omega
     clear hlt ht ht0
     obtain ⟨c, hc⟩ : ∃ c, Keep (c = qG b 64) := ⟨_, ⟨rfl⟩⟩
     rw [← hc.o] at hW
     go_wp2_with (refine wpList_load_row rfl 83 (.tmp 3) rfl (w.heap.size + 1) rfl 83 (qe 64 c) (0, 0) (.array 64 80) hW Try.underlying83 rfl (zh _) ?_; refine wpList_store_row rfl 83 (.tmp 2) (.tmp 91) rfl w.heap.size (qe 64 c) rfl rfl 83 (qe 64 fun _ => 0) hR (zh _) (qW _ _ _) (qP _ _) ?_)
     exact bodyPost_ret (v := .agg (qe 64 c)) (results_cell_row Try.results62 _ _ w.heap.size 83 _ (0, 0) _ rfl (hR.setRow _) Try.underlying83 rfl (zh _)) rfl ⟨by rw [hc.o], qf hB (Nat.le_refl _) _⟩
def r8F (r : R8) (i : Nat) : Int := [r.a, r.b, r.c, r.d, r.e, r.f, r.g, r.h].getD i 0
def kC (s v : Nat → Int) : Nat → (Nat → Int)
 | 0 => s
 | t + 1 => upd (kC s v t) t ((kC s v t t + v t) % 4294967296)
theorem JU {n : Nat} {f g : Nat → Int} (h : ∀ i, i < n → f i = g i) : qe n f = qe n g := by
 unfold qe; congr 1; funext i; rw [h i.val i.isLt]
theorem Zb (s : Nat → Int) (r : R8) : qe 8 (kC s (r8F r) 8) = qe 8 (QR s r) := by
 apply JU
 intro i hi
 match i, hi with
 | 0, _ => rfl
 | 1, _ => rfl
 | 2, _ => rfl
 | 3, _ => rfl
 | 4, _ => rfl
 | 5, _ => rfl
 | 6, _ => rfl
 | 7, _ => rfl
set_option maxRecDepth 8000 in
set_option maxHeartbeats 2000000 in
theorem Ys (s b : Nat → Int) (h off cap : Nat) (w : World) (hx : ∀ i, i < 64 → w.cell? ⟨h, off + i, none⟩ = some (.int .u8 (b i))) :
  Calls Try.prog 45 #[.agg (qe 8 s), .slice (some ⟨h, off, none⟩) 64 cap, .agg (qe 64 qu)] w fun e w' => e = .returned (.agg (qe 8 (jf s b))) ∧ Below w.heap.size w w' := by
 have hhlt := zM (hx 0 (by omega))
 have hB0 : Below w.heap.size w (((w.alloc (.cells (qe 8 s) 81)).alloc (.cells (qe 64 qu) 83)).alloc (.cells (qe 8 fun _ => 0) 81)) :=
  (((Below.refl _ _).alloc (Nat.le_refl _) _).alloc (by simp) _).alloc (by simp; omega) _
 have hS := ((Blk.new w 81 (qe 8 s)).alloc (.cells (qe 64 qu) 83)).alloc (.cells (qe 8 fun _ => 0) 81)
 have hK := (Blk.new (w.alloc (.cells (qe 8 s) 81)) 83 (qe 64 qu)).alloc (.cells (qe 8 fun _ => 0) 81)
 have hR := Blk.new ((w.alloc (.cells (qe 8 s) 81)).alloc (.cells (qe 64 qu) 83)) 81 (qe 8 fun _ => 0)
 simp only [World.size_alloc] at hK hR
 have HX : Keep (∀ i, i < 64 → (((w.alloc (.cells (qe 8 s) 81)).alloc (.cells (qe 64 qu) 83)).alloc (.cells (qe 8 fun _ => 0) 81)).cell? ⟨h, off + i, none⟩ = some (.int .u8 (b i))) :=
  ⟨fun i hi => by rw [hB0.cell (p := ⟨h, off + i, none⟩) hhlt]; exact hx i hi⟩
 clear hx
 go_enter Try.func45, Try.ntmps45
 go_wp2_with (first | (refine zD rfl 81 (.tmp 0) rfl (qe 8 s) rfl ?_; refine zD rfl 83 (.tmp 2) rfl (qe 64 qu) rfl ?_; refine qM rfl 81 rfl _ jz ?_; simp only [Act.put, List.setIfInBounds_toArray, List.set_cons_succ, List.set_cons_zero, World.size_alloc]))
 generalize (((w.alloc (.cells (qe 8 s) 81)).alloc (.cells (qe 64 qu) 83)).alloc (.cells (qe 8 fun _ => 0) 81)) = w0 at *
 refine (XV b h off cap w0 HX.o).mono ?_
 rintro e w1 ⟨rfl, hB1⟩
 have hsz0 : w.heap.size + 3 ≤ w0.heap.size := by have := hR.lt; omega
 have hS1 := hS.below hB1 hS.lt
 have hK1 := hK.below hB1 hK.lt
 have hR1 := hR.below hB1 hR.lt
 have hB1' := hB0.trans (hB1.mono hB0.size)
 have hsz1 := hB1.size
 obtain ⟨c, hc⟩ : ∃ c, Keep (c = qG b 64) := ⟨_, ⟨rfl⟩⟩
 rw [← hc.o]
 clear hS hK hR hB0 hB1 HX hhlt
 have hW2 : Blk (w1.alloc (.cells (qe 64 c) 83)) w1.heap.size 83 (qe 64 c) := Blk.new _ _ _
 have HZ : Keep (Blk (w1.alloc (.cells (qe 64 fun _ => 0) 83)) w1.heap.size 83 (qe 64 fun _ => 0)) := ⟨Blk.new _ _ _⟩
 have HS2 : Keep (Blk (w1.alloc (.cells (qe 64 c) 83)) w.heap.size 81 (qe 8 s)) := ⟨hS1.alloc _⟩
 have HZ2 : Keep (Blk ((w1.alloc (.cells (qe 64 c) 83)).alloc (.cells (qe 8 fun _ => 0) 81)) (w1.heap.size + 1) 81 (qe 8 fun _ => 0)) := ⟨by
  have h := Blk.new (w1.alloc (.cells (qe 64 c) 83)) 81 (qe 8 fun _ => 0)
  simp only [World.size_alloc] at h; exact h⟩
 have hV3 := HZ2.o.setRow (qe 8 s)
 have hS3 := (HS2.o.alloc (.cells (qe 8 fun _ => 0) 81)).setRow_ne (b' := w1.heap.size + 1) (by have := hS1.lt; omega) (qe 8 s)
 have hK3 := ((hK1.alloc (.cells (qe 64 c) 83)).alloc (.cells (qe 8 fun _ => 0) 81)).setRow_ne (b' := w1.heap.size + 1) (by have := hK1.lt; omega) (qe 8 s)
 have hR3 := ((hR1.alloc (.cells (qe 64 c) 83)).alloc (.cells (qe 8 fun _ => 0) 81)).setRow_ne (b' := w1.heap.size + 1) (by have := hR1.lt; omega) (qe 8 s)
 have hW3 := (hW2.alloc (.cells (qe 8 fun _ => 0) 81)).setRow_ne (b' := w1.heap.size + 1) (by omega) (qe 8 s)
 have hB3 : Below w.heap.size w (((w1.alloc (.cells (qe 64 c) 83)).alloc (.cells (qe 8 fun _ => 0) 81)).setRow (w1.heap.size + 1) (qe 8 s)) :=
  qf ((hB1'.alloc (by omega) _).alloc (by simp; omega) _) (by omega) _
 clear hS1 hK1 hR1 hB1' hW2
 go_wp2_with (first | (refine qM rfl 83 rfl _ zN ?_; refine wpList_store_row rfl 83 (.tmp 7) (.tmp 16) rfl w1.heap.size (qe 64 c) rfl rfl 83 (qe 64 fun _ => 0) HZ.o (zh _) (qW _ _ _) (qP _ _) ?_; rw [World.setRow_alloc_new]) | (refine wpList_load_row rfl 81 (.tmp 3) rfl w.heap.size rfl 81 (qe 8 s) (0, 0) (.array 8 80) HS2.o Try.underlying81 rfl (qV _) ?_; refine qM rfl 81 rfl _ jz ?_; refine wpList_store_row rfl 81 (.tmp 8) (.tmp 17) rfl (w1.heap.size + 1) (qe 8 s) (by simp [Act.put, Act.eval]) rfl 81 (qe 8 fun _ => 0) HZ2.o (qV _) (qW _ _ _) (qP _ _) ?_; simp only [Act.put, List.setIfInBounds_toArray, List.set_cons_succ, List.set_cons_zero, World.size_alloc]))
 generalize (((w1.alloc (.cells (qe 64 c) 83)).alloc (.cells (qe 8 fun _ => 0) 81)).setRow (w1.heap.size + 1) (qe 8 s)) = w3 at *
 go_loopw [9] (fun i wr => ∃ t : Nat, t ≤ 64 ∧ i = .int .i64 t ∧ Blk wr (w1.heap.size + 1) 81 (qe 8 (r8F (yh qu c (r8 s) t))) ∧ Blk wr w.heap.size 81 (qe 8 s) ∧ Blk wr (w.heap.size + 1) 83 (qe 64 qu) ∧ Blk wr (w.heap.size + 1 + 1) 81 (qe 8 fun _ => 0) ∧ Blk wr w1.heap.size 83 (qe 64 c) ∧ Below w.heap.size w wr) (fun i _ => 64 - (intOf i).toNat)
 case atStart => exact ⟨0, by omega, rfl, hV3, hS3, hK3, hR3, hW3, hB3⟩
 case round =>
  clear hV3 hS3 hK3 hR3 hW3 hB3 HZ HS2 HZ2
  obtain ⟨t, ht, rfl, hV, hS, hK, hR, hW, hB⟩ := hrel
  obtain ⟨r, hr⟩ : ∃ r, Keep (r = yh qu c (r8 s) t) := ⟨_, ⟨rfl⟩⟩
  rw [← hr.o] at hV
  obtain ⟨ra, rb, rc, rd, re, rf, rg, rh⟩ := r
  by_cases hlt : t < 64
  ·have hlt' : (t : Int) < 64 := by omega
   have eg : wr.cell? ⟨w.heap.size + 1, t, none⟩ = some (.int .u32 (qu t)) := by rw [hK.cell, qr _ _ _ (by omega)]
   have ek : wr.cell? ⟨w1.heap.size, t, none⟩ = some (.int .u32 (c t)) := by rw [hW.cell, qr _ _ _ (by omega)]
   have v0 : wr.cell? ⟨w1.heap.size + 1, 0, none⟩ = some (.int .u32 ra) := by rw [hV.cell, qr _ _ _ (by omega)]; rfl
   have v1 : wr.cell? ⟨w1.heap.size + 1, 1, none⟩ = some (.int .u32 rb) := by rw [hV.cell, qr _ _ _ (by omega)]; rfl
   have v2 : wr.cell? ⟨w1.heap.size + 1, 2, none⟩ = some (.int .u32 rc) := by rw [hV.cell, qr _ _ _ (by omega)]; rfl
   have v3 : wr.cell? ⟨w1.heap.size + 1, 3, none⟩ = some (.int .u32 rd) := by rw [hV.cell, qr _ _ _ (by omega)]; rfl
   have v4 : wr.cell? ⟨w1.heap.size + 1, 4, none⟩ = some (.int .u32 re) := by rw [hV.cell, qr _ _ _ (by omega)]; rfl
   have v5 : wr.cell? ⟨w1.heap.size + 1, 5, none⟩ = some (.int .u32 rf) := by rw [hV.cell, qr _ _ _ (by omega)]; rfl
   have v6 : wr.cell? ⟨w1.heap.size + 1, 6, none⟩ = some (.int .u32 rg) := by rw [hV.cell, qr _ _ _ (by omega)]; rfl
   have v7 : wr.cell? ⟨w1.heap.size + 1, 7, none⟩ = some (.int .u32 rh) := by rw [hV.cell, qr _ _ _ (by omega)]; rfl
   obtain ⟨kt, hkt⟩ : ∃ kt, Keep (kt = qu t) := ⟨_, ⟨rfl⟩⟩
   obtain ⟨wt, hwt⟩ : ∃ wt, Keep (wt = c t) := ⟨_, ⟨rfl⟩⟩
   rw [← hkt.o] at eg
   rw [← hwt.o] at ek
   go_wp2
   go_quiet (fail)
   have v0a : (wr.drewN nq).cell? ⟨w1.heap.size + 1, 0, none⟩ = some (.int .u32 ra) := v0
   have v1a : (wr.drewN nq).cell? ⟨w1.heap.size + 1, 1, none⟩ = some (.int .u32 rb) := v1
   have v2a : (wr.drewN nq).cell? ⟨w1.heap.size + 1, 2, none⟩ = some (.int .u32 rc) := v2
   have v3a : (wr.drewN nq).cell? ⟨w1.heap.size + 1, 3, none⟩ = some (.int .u32 rd) := v3
   have v4a : (wr.drewN nq).cell? ⟨w1.heap.size + 1, 4, none⟩ = some (.int .u32 re) := v4
   have v5a : (wr.drewN nq).cell? ⟨w1.heap.size + 1, 5, none⟩ = some (.int .u32 rf) := v5
   have v6a : (wr.drewN nq).cell? ⟨w1.heap.size + 1, 6, none⟩ = some (.int .u32 rg) := v6
   have v7a : (wr.drewN nq).cell? ⟨w1.heap.size + 1, 7, none⟩ = some (.int .u32 rh) := v7
   have ega : (wr.drewN nq).cell? ⟨w.heap.size + 1, t, none⟩ = some (.int .u32 kt) := eg
   have eka : (wr.drewN nq).cell? ⟨w1.heap.size, t, none⟩ = some (.int .u32 wt) := ek
   have hVa := qL hV nq
   have hSa := qL hS nq
   have hKa := qL hK nq
   have hRa := qL hR nq
   have hWa := qL hW nq
   have hBa := below_drewN hB nq
   clear v0 v1 v2 v3 v4 v5 v6 v7 eg ek hV hS hK hR hW hB
   generalize wr.drewN nq = wa at *
   clear nq
   go_wp2
   go_quiet ((go_at_call 63; exact Calls.quiet_of (yf _ _ _ (by omega) (by omega))))
   have v0b : (wa.drewN nq).cell? ⟨w1.heap.size + 1, 0, none⟩ = some (.int .u32 ra) := v0a
   have v1b : (wa.drewN nq).cell? ⟨w1.heap.size + 1, 1, none⟩ = some (.int .u32 rb) := v1a
   have v2b : (wa.drewN nq).cell? ⟨w1.heap.size + 1, 2, none⟩ = some (.int .u32 rc) := v2a
   have v3b : (wa.drewN nq).cell? ⟨w1.heap.size + 1, 3, none⟩ = some (.int .u32 rd) := v3a
   have v4b : (wa.drewN nq).cell? ⟨w1.heap.size + 1, 4, none⟩ = some (.int .u32 re) := v4a
   have v5b : (wa.drewN nq).cell? ⟨w1.heap.size + 1, 5, none⟩ = some (.int .u32 rf) := v5a
   have v6b : (wa.drewN nq).cell? ⟨w1.heap.size + 1, 6, none⟩ = some (.int .u32 rg) := v6a
   have v7b : (wa.drewN nq).cell? ⟨w1.heap.size + 1, 7, none⟩ = some (.int .u32 rh) := v7a
   have egb : (wa.drewN nq).cell? ⟨w.heap.size + 1, t, none⟩ = some (.int .u32 kt) := ega
   have ekb : (wa.drewN nq).cell? ⟨w1.heap.size, t, none⟩ = some (.int .u32 wt) := eka
   have hVb := qL hVa nq
   have hSb := qL hSa nq
   have hKb := qL hKa nq
   have hRb := qL hRa nq
   have hWb := qL hWa nq
   have hBb := below_drewN hBa nq
   clear v0a v1a v2a v3a v4a v5a v6a v7a ega eka hVa hSa hKa hRa hWa hBa
   generalize wa.drewN nq = wb at *
   clear nq
   go_wp2
   go_quiet ((go_at_call 63; exact Calls.quiet_of (yf _ _ _ (by omega) (by omega))))
   have v0c : (wb.drewN nq).cell? ⟨w1.heap.size + 1, 0, none⟩ = some (.int .u32 ra) := v0b
   have v1c : (wb.drewN nq).cell? ⟨w1.heap.size + 1, 1, none⟩ = some (.int .u32 rb) := v1b
   have v2c : (wb.drewN nq).cell? ⟨w1.heap.size + 1, 2, none⟩ = some (.int .u32 rc) := v2b
   have v3c : (wb.drewN nq).cell? ⟨w1.heap.size + 1, 3, none⟩ = some (.int .u32 rd) := v3b
   have v4c : (wb.drewN nq).cell? ⟨w1.heap.size + 1, 4, none⟩ = some (.int .u32 re) := v4b
   have v5c : (wb.drewN nq).cell? ⟨w1.heap.size + 1, 5, none⟩ = some (.int .u32 rf) := v5b
   have v6c : (wb.drewN nq).cell? ⟨w1.heap.size + 1, 6, none⟩ = some (.int .u32 rg) := v6b
   have v7c : (wb.drewN nq).cell? ⟨w1.heap.size + 1, 7, none⟩ = some (.int .u32 rh) := v7b
   have egc : (wb.drewN nq).cell? ⟨w.heap.size + 1, t, none⟩ = some (.int .u32 kt) := egb
   have ekc : (wb.drewN nq).cell? ⟨w1.heap.size, t, none⟩ = some (.int .u32 wt) := ekb
   have hVc := qL hVb nq
   have hSc := qL hSb nq
   have hKc := qL hKb nq
   have hRc := qL hRb nq
   have hWc := qL hWb nq
   have hBc := below_drewN hBb nq
   clear v0b v1b v2b v3b v4b v5b v6b v7b egb ekb hVb hSb hKb hRb hWb hBb
   generalize wb.drewN nq = wc at *
   clear nq
   go_wp2_with (refine zE rfl 81 _ rfl (qe 8 (r8F (KC kt wt ⟨ra, rb, rc, rd, re, rf, rg, rh⟩))) (by kernel_rfl) ?_; refine wpList_store_row rfl 81 (.tmp 8) (.tmp 99) rfl (w1.heap.size + 1) (qe 8 (r8F (KC kt wt ⟨ra, rb, rc, rd, re, rf, rg, rh⟩))) rfl rfl 81 (qe 8 (r8F ⟨ra, rb, rc, rd, re, rf, rg, rh⟩)) hVc (qV _) (qW _ _ _) (qP _ _) ?_)
   go_roundw
   case rel =>
    have hn : yh qu c (r8 s) (t + 1) = KC kt wt ⟨ra, rb, rc, rd, re, rf, rg, rh⟩ := by rw [hkt.o, hwt.o, hr.o]; rfl
    have ne0 : w.heap.size ≠ w1.heap.size + 1 := by omega
    have ne1 : w.heap.size + 1 ≠ w1.heap.size + 1 := by omega
    have ne2 : w.heap.size + 1 + 1 ≠ w1.heap.size + 1 := by omega
    exact ⟨t + 1, by omega, by go_num, by rw [hn]; exact hVc.setRow _, hSc.setRow_ne ne0 _, hKc.setRow_ne ne1 _, hRc.setRow_ne ne2 _, hWc.setRow_ne (by omega) _, qf hBc (by omega) _⟩
   case measure => simp [intOf]; omega
  ·obtain rfl : t = 64 := by omega
   clear hlt ht hK hW
   have hfin : Keep (jf s b = QR s ⟨ra, rb, rc, rd, re, rf, rg, rh⟩) := ⟨by unfold jf; rw [← hc.o, ← hr.o]⟩
   obtain ⟨v, hv⟩ : ∃ v, Keep (v = r8F ⟨ra, rb, rc, rd, re, rf, rg, rh⟩) := ⟨_, ⟨rfl⟩⟩
   rw [← hv.o] at hV
   go_wp2
   go_loopw [14] (fun i wr => ∃ t : Nat, t ≤ 8 ∧ i = .int .i64 t ∧ Blk wr (w1.heap.size + 1) 81 (qe 8 v) ∧ Blk wr w.heap.size 81 (qe 8 (kC s v t)) ∧ Blk wr (w.heap.size + 1 + 1) 81 (qe 8 fun _ => 0) ∧ Below w.heap.size w wr) (fun i _ => 8 - (intOf i).toNat)
   case atStart => exact ⟨0, by omega, rfl, hV, hS, hR, hB⟩
   case round =>
    clear hV hS hR hB
    obtain ⟨t, ht, rfl, hV, hS, hR, hB⟩ := hrel
    by_cases hlt : t < 8
    ·have hlt' : (t : Int) < 8 := by omega
     have c1 : wr.cell? ⟨w.heap.size, t, none⟩ = some (.int .u32 (kC s v t t)) := by rw [hS.cell, qr _ _ _ (by omega)]
     have c2 : wr.cell? ⟨w1.heap.size + 1, t, none⟩ = some (.int .u32 (v t)) := by rw [hV.cell, qr _ _ _ (by omega)]
     have c3 : wr.frozen? ⟨w.heap.size, t, none⟩ = false := hS.frozen t
     go_wp2
     go_region
     go_wp2
     go_roundw
     case rel =>
      have h := hS.set t (.int .u32 ((kC s v t t + v t) % 4294967296))
      rw [jA] at h
      exact ⟨t + 1, by omega, by go_num, (hV.set_ne (by omega) _).drew, h.drew, (hR.set_ne (by omega) _).drew, (hB.setCell (Nat.le_refl _) _).drew⟩
     case measure => simp [intOf]; omega
    ·obtain rfl : t = 8 := by omega
     clear hlt ht
     obtain ⟨d, hd⟩ : ∃ d, Keep (d = kC s v 8) := ⟨_, ⟨rfl⟩⟩
     rw [← hd.o] at hS
     go_wp2_with (refine wpList_load_row rfl 81 (.tmp 3) rfl w.heap.size rfl 81 (qe 8 d) (0, 0) (.array 8 80) hS Try.underlying81 rfl (qV _) ?_; refine wpList_store_row rfl 81 (.tmp 6) (.tmp 112) rfl (w.heap.size + 1 + 1) (qe 8 d) rfl rfl 81 (qe 8 fun _ => 0) hR (qV _) (qW _ _ _) (qP _ _) ?_)
     exact bodyPost_ret (v := .agg (qe 8 d)) (results_cell_row Try.results45 _ _ (w.heap.size + 1 + 1) 81 _ (0, 0) _ rfl (hR.setRow _) Try.underlying81 rfl (qV _)) rfl ⟨by rw [hfin.o, hd.o, hv.o, Zb], qf hB (by omega) _⟩
theorem ZH (w : World) (base : Nat) : w.ownsRow base 5 1 (.slice none 0 0) 0 [] := ⟨rfl, .inl ⟨rfl, rfl⟩⟩
theorem jJ {ops : Array Oper} {rest : List Oper} {o : Oper} {a : Act} {w : World} {Q : Exit → Act → World → Prop} (hgd : o.guard = none) (s x : Operand)
  (ho : o.op = .call { callee := .builtin .append, args := #[s, x], argTypes := #[42, 42] }) (base : Nat) (v vx : Value) (n : Nat) (xs : List Value) (l : List Int)
  (hs : a.eval s = v) (hx : a.eval x = vx) (hown : w.ownsRow base 5 1 v n xs) (hrow : RowAt w vx l) (hb : n + l.length ≤ 200000000000000) (hbase : base ≤ w.heap.size)
  (h : ∀ v' w', w'.ownsRow base 5 1 v' (n + l.length) (xs ++ bv l) → w.grownBy w' v.ownBlock → wpList Try.prog ops Q rest (a.put o.dst v') w') : wpList Try.prog ops Q (o :: rest) a w := by
 obtain ⟨i, hi, hzz⟩ := Option.map_eq_some_iff.1 zB
 simp only [Prod.mk.injEq] at hzz
 obtain ⟨hz, hsz, hby⟩ := hzz
 rcases hrow with ⟨rfl, rfl⟩ | ⟨ad, c, rfl, rfl⟩ | ⟨b, off, cap, rfl, hcap, hc⟩
 ·refine wpList_append_own_none hgd s x 42 ho base 5 i 1 Try.underlying42 hi v n xs hs hown hx (h v w ?_ (World.grownBy.refl w _))
  simpa [bv] using hown
 ·refine wpList_append_own_wide w hgd s x 42 ho base 5 i (.int .u8 0) 1 1 Try.underlying42 hi hz hsz hby rfl (by omega) v n xs hs hown ad 0 c [] hx rfl (fun j u hu => by simp at hu) (fun u hu => by simp at hu) (by unfold maxLen; simp at hb; omega) (by simp at hb; omega) hbase ?_
  intro v' w' h1 h2 _
  exact h v' w' h1 h2
 ·refine wpList_append_own_wide w hgd s x 42 ho base 5 i (.int .u8 0) 1 1 Try.underlying42 hi hz hsz hby rfl (by omega) v n xs hs hown ⟨b, off, none⟩ l.length cap (bv l) hx (by rw [qY]; omega)
   (fun j u hu => by
    have hj : j < l.length := by have := (List.getElem?_eq_some_iff.1 hu).1; rwa [qY] at this
    rw [jP l j hj] at hu
    rw [Addr.add_mid, hc j hj]; exact hu)
   (fun u hu => by simp [bv] at hu; obtain ⟨_, _, rfl⟩ := hu; rfl) (by unfold maxLen; omega) (by omega) hbase ?_
  intro v' w' h1 h2 _
  exact h v' w' h1 h2
theorem xT {w : World} {base : Nat} {v : Value} {n : Nat} {xs : List Value} (h : w.ownsRow base 5 1 v n xs) (hn : 0 < n) : ∃ g cap, v = .slice (some ⟨g, 0, none⟩) n cap ∧ base ≤ g ∧ n ≤ cap := by
 obtain ⟨_, h2⟩ := h
 rcases h2 with ⟨_, h0⟩ | ⟨g, cap, cur, e, hg, _, hc, _⟩
 ·omega
 ·exact ⟨g, cap, e, hg, hc⟩
theorem QP {w : World} {base : Nat} {v : Value} {n : Nat} {xs : List Value} (h : w.ownsRow base 5 1 v n xs) : ∀ k, v.ownBlock = some k → base ≤ k := by
 intro k hk
 obtain ⟨_, h2⟩ := h
 rcases h2 with ⟨rfl, _⟩ | ⟨g, cap, cur, rfl, hg, _⟩
 ·simp [Value.ownBlock] at hk
 ·simp [Value.ownBlock] at hk; omega
set_option maxRecDepth 8000 in
set_option maxHeartbeats 1000000 in
theorem QN (vb : Value) (l : List Int) (w : World) (hrow : RowAt w vb l) (hl : l.length ≤ 140737650005000) :
  Calls Try.prog 42 #[vb] w fun e w' => ∃ v, e = .returned v ∧ w'.ownsRow w.heap.size 5 1 v (l.length + qT l.length + 9) (bv l ++ jp l.length 8) ∧ Below w.heap.size w w' := by
 obtain ⟨pa, pn, pc, rfl, hpn⟩ : ∃ a n c, vb = .slice a n c ∧ n = l.length := by
  rcases hrow with ⟨rfl, rfl⟩ | ⟨a, c, rfl, rfl⟩ | ⟨h, off, cap, rfl, _⟩
  ·exact ⟨_, _, _, rfl, rfl⟩
  ·exact ⟨_, _, _, rfl, rfl⟩
  ·exact ⟨_, _, _, rfl, rfl⟩
 have Xr : Keep (RowAt w (.slice pa pn pc) l) := ⟨hrow⟩
 clear hrow
 obtain ⟨n, hn⟩ : ∃ n, Keep (n = l.length) := ⟨_, ⟨rfl⟩⟩
 rw [← hn.out] at hpn hl ⊢
 subst hpn
 go_enter Try.func42, Try.ntmps42
 go_wp2_with (first | (at_builtin; refine jJ rfl _ (.tmp 6) rfl w.heap.size (.slice none 0 0) (.slice pa pn pc) 0 [] l rfl rfl (ZH _ _) Xr.out (by rw [← hn.out]; omega) (Nat.le_refl _) ?_; intro v1 w1 hown1 hgr1; refine Hid.out ?_))
 refine zp ?_
 rw [List.nil_append, Nat.zero_add, ← hn.out] at hown1
 have hB1 : Below w.heap.size w w1 := (Below.refl _ _).grown hgr1 (Nat.le_refl _) (fun k e => by simp [Value.ownBlock] at e)
 have hs1 := hB1.size
 clear hgr1
 have HR2 := jb w1 128
 have HO2 : Keep ((w1.alloc (.cells #[.int .u8 128] 5)).ownsRow w.heap.size 5 1 v1 pn (bv l)) := ⟨hown1.alloc _⟩
 have hblk := QP hown1
 go_wp2_with (first | (at_builtin; refine jJ rfl (.tmp 8) (.tmp 9) rfl w.heap.size v1 (.slice (some ⟨w1.heap.size, 0, none⟩) 1 1) pn (bv l) [128] rfl rfl HO2.out HR2 (by simp; omega) (by simp; omega) ?_; intro v2 w2 hown2 hgr2; refine Hid.out ?_))
 refine zp ?_
 have hB2 : Below w.heap.size w w2 := (hB1.alloc hs1 (.cells #[.int .u8 128] 5)).grown hgr2 (by simp; omega) hblk
 clear hgr2 HO2 HR2 hown1 hB1 hblk
 obtain ⟨z, hz⟩ : ∃ z, Keep (z = qT pn) := ⟨_, ⟨rfl⟩⟩
 have hz1 : z < 64 := by rw [hz.out]; unfold qT; omega
 have HZ : Keep ((pn + 1 + z) % 64 = 56 ∧ ∀ k, k < z → (pn + 1 + k) % 64 ≠ 56) := ⟨by rw [hz.out]; unfold qT; exact ⟨by omega, fun k hk => by omega⟩⟩
 have hl2 : l.length = pn := hn.out.symm
 go_wp2
 go_loopw [3] (fun b wr => ∃ k : Nat, k ≤ z ∧ wr.ownsRow w.heap.size 5 1 b (pn + 1 + k) (bv l ++ (.int .u8 128 :: List.replicate k (.int .u8 0))) ∧ Below w.heap.size w wr) (fun b _ => match b with | .slice _ q _ => pn + 1 + z - q | _ => 0)
 case atStart => exact ⟨0, by omega, hown2, hB2⟩
 case round =>
  clear hown2 hB2
  obtain ⟨k, hk, hown, hB⟩ := hrel
  obtain ⟨g, cap, rfl, hg, hcap⟩ := xT hown (by omega)
  have hs := hB.size
  by_cases hlt : k < z
  ·have hne := HZ.out.2 k hlt
   have hb : ((((pn + 1 + k : Nat) : Int) % 64) != 56) = true := by rw [bne_iff_ne]; omega
   have HRo := jb wr 0
   have HO : Keep ((wr.alloc (.cells #[.int .u8 0] 5)).ownsRow w.heap.size 5 1 (.slice (some ⟨g, 0, none⟩) (pn + 1 + k) cap) (pn + 1 + k) (bv l ++ (.int .u8 128 :: List.replicate k (.int .u8 0)))) := ⟨hown.alloc _⟩
   go_wp2_with (first | (at_builtin; refine jJ rfl (.tmp 15) (.tmp 16) rfl w.heap.size (.slice (some ⟨g, 0, none⟩) (pn + 1 + k) cap) (.slice (some ⟨wr.heap.size, 0, none⟩) 1 1) (pn + 1 + k) _ [0] rfl rfl HO.out HRo (by simp; omega) (by simp; omega) ?_; intro v2 w2 hown2 hgr2; refine Hid.out ?_))
   refine zp ?_
   have hB2 : Below w.heap.size w w2 := (hB.alloc hs (.cells #[.int .u8 0] 5)).grown hgr2 (by simp; omega) (fun j e => by simp [Value.ownBlock] at e; omega)
   have hLs : (bv l ++ (Value.int .u8 128 :: List.replicate k (.int .u8 0))) ++ bv [0] = bv l ++ (.int .u8 128 :: List.replicate (k + 1) (.int .u8 0)) := by
    rw [List.replicate_succ']; simp [bv]
   rw [hLs] at hown2
   obtain ⟨g2, cap2, rfl, hg2, hcap2⟩ := xT hown2 (by simp)
   clear HO HRo hgr2
   go_wp2
   refine ⟨⟨k + 1, by omega, hown2, hB2⟩, by dsimp only [List.length_cons, List.length_nil]; omega⟩
  ·obtain rfl : k = z := by omega
   have hb : ((((pn + 1 + k : Nat) : Int) % 64) != 56) = false := by rw [bne_eq_false_iff_eq]; have := HZ.out.1; omega
   have hpe : jp pn 0 = (.int .u8 128 :: List.replicate k (.int .u8 0)) := by simp [jp, hz.out]
   rw [← hpe] at hown
   clear hpe
   have w1' : IntKind.u64.wrap (pn : Int) = pn := by rw [IntKind.wrap_u64]; omega
   have w2' : IntKind.u64.wrap (8 * (pn : Int)) = 8 * pn := by rw [IntKind.wrap_u64]; omega
   go_wp2
   have hb3 : ((((pn : Int) + 1 + (k : Int)) % 64) != 56) = false := by rw [bne_eq_false_iff_eq]; have := HZ.out.1; omega
   rw [hb3]
   go_loopw [3, 5] (fun b i wr => ∃ j : Nat, j ≤ 8 ∧ i = .int .i64 (7 - (j : Int)) ∧ wr.ownsRow w.heap.size 5 1 b (pn + 1 + k + j) (bv l ++ jp pn j) ∧ Below w.heap.size w wr) (fun _ i _ => (intOf i + 1).toNat)
   case atStart => exact ⟨0, by omega, by simp, hown, hB⟩
   case round =>
    clear hown hB
    obtain ⟨j, hj, rfl, hown, hB⟩ := hrel
    obtain ⟨g, cap, rfl, hg, hcap⟩ := xT hown (by omega)
    have hs := hB.size
    by_cases hlt : j < 8
    ·have hs0 : 0 ≤ 8 * (7 - (j : Int)) := by omega
     have hs1 : 8 * (7 - (j : Int)) ≤ 64 := by omega
     have hs2 : (8 * (7 - (j : Int))).toNat = 56 - 8 * j := by omega
     have HRo := jb wr (8 * (pn : Int) / 2 ^ (56 - 8 * j) % 256)
     have HO : Keep ((wr.alloc (.cells #[.int .u8 (8 * (pn : Int) / 2 ^ (56 - 8 * j) % 256)] 5)).ownsRow w.heap.size 5 1 (.slice (some ⟨g, 0, none⟩) (pn + 1 + k + j) cap) (pn + 1 + k + j) (bv l ++ jp pn j)) := ⟨hown.alloc _⟩
     go_wp2_with (first | (at_builtin; refine jJ rfl (.tmp 26) (.tmp 32) rfl w.heap.size (.slice (some ⟨g, 0, none⟩) (pn + 1 + k + j) cap) (.slice (some ⟨wr.heap.size, 0, none⟩) 1 1) (pn + 1 + k + j) _ [8 * (pn : Int) / 2 ^ (56 - 8 * j) % 256] rfl rfl HO.out HRo (by simp; omega) (by simp; omega) ?_; intro v2 w2 hown2 hgr2; refine Hid.out ?_))
     refine zp ?_
     have hB2 : Below w.heap.size w w2 := (hB.alloc hs _).grown hgr2 (by simp; omega) (fun j e => by simp [Value.ownBlock] at e; omega)
     have hLs : (bv l ++ jp pn j) ++ bv [8 * (pn : Int) / 2 ^ (56 - 8 * j) % 256] = bv l ++ jp pn (j + 1) := by
      simp only [jp, List.range_succ, List.map_append, List.map_cons, List.map_nil, List.append_assoc, bv]
     rw [hLs] at hown2
     clear HO HRo hgr2
     go_wp2
     go_roundw
     case rel => exact ⟨j + 1, by omega, by congr 1; omega, hown2, hB2⟩
     case measure => simp [intOf]; omega
    ·obtain rfl : j = 8 := by omega
     go_wp2
     go_ret
     exact ⟨_, rfl, by rw [← hz.out, show pn + k + 9 = pn + 1 + k + 8 by omega]; exact hown, hB⟩
def ro0 (q : String) : Oper := { dst := some 19, op := Op.load 81 (Operand.tmp 4), type := 81, pos := q, after := #[], guard := none }
def ro1 (q : String) : Oper := { dst := some 20, op := Op.move (Operand.tmp 3), type := 42, pos := q, after := #[], guard := none }
def ro2 (q : String) : Oper := { dst := some 21, op := Op.move (Operand.tmp 6), type := 3, pos := q, after := #[], guard := none }
def ro3 (q : String) : Oper := { dst := some 22, op := Op.move (Operand.tmp 6), type := 3, pos := q, after := #[], guard := none }
def ro4 (q : String) : Oper := { dst := some 23, op := Op.binOp BinOp.add 3 (Operand.tmp 22) (Operand.const (Value.int IntKind.i64 64)) 3, type := 3, pos := q, after := #[{ on := 3, ground := Ground.data }], guard := none }
def ro5 (q : String) : Oper := { dst := some 24, op := Op.slice 42 (Operand.tmp 20) (some (Operand.tmp 21)) (some (Operand.tmp 23)) none, type := 42, pos := q, after := #[{ on := 1, ground := Ground.data }, { on := 2, ground := Ground.data }, { on := 4, ground := Ground.data }], guard := none }
def ro6 (q : String) : Oper := { dst := some 25, op := Op.load 83 (Operand.tmp 5), type := 83, pos := q, after := #[], guard := none }
def ro7 (q : String) : Oper := { dst := some 26, op := Op.call { callee := Callee.value (Operand.func 45), args := #[Operand.tmp 19, Operand.tmp 24, Operand.tmp 25], argTypes := #[81, 42, 83] }, type := 81, pos := q, after := #[{ on := 0, ground := Ground.data }, { on := 5, ground := Ground.data }, { on := 6, ground := Ground.data }], guard := none }
def ro8 (q : String) : Oper := { dst := none, op := Op.store 81 (Operand.tmp 4) (Operand.tmp 26), type := 0, pos := q, after := #[{ on := 7, ground := Ground.data }, { on := 7, ground := Ground.chain }, { on := 0, ground := Ground.phase }, { on := 1, ground := Ground.phase }, { on := 2, ground := Ground.phase }, { on := 3, ground := Ground.phase }, { on := 4, ground := Ground.phase }, { on := 5, ground := Ground.phase }, { on := 6, ground := Ground.phase }, { on := 7, ground := Ground.phase }], guard := none }
def roA (q : String) : Array Oper := #[ro0 q, ro1 q, ro2 q, ro3 q, ro4 q, ro5 q, ro6 q, ro7 q, ro8 q]
theorem QC (w : World) (vs : Array Value) : (callFunc 45 vs).run Try.prog w = .ok (.enter 45 vs) w := by kernel_rfl
theorem yq : Try.prog.elem 42 = 5 := by kernel_rfl
theorem UV (w : World) (g n cap at_ : Nat) (h1 : at_ + 64 ≤ n) (h2 : n ≤ cap) :
  (Instr.sliceAt 42 (.slice (some ⟨g, 0, none⟩) n cap) (some (.int .i64 (at_ : Int))) (some (.int .i64 ((at_ : Int) + 64))) none).run Try.prog w = .ok (.slice (some ⟨g, at_, none⟩) 64 (cap - at_)) w := by
 rw [run_sliceAt_slice (P := Try.prog) (w := w) 42 _ _ _ _ (by rw [yq]; exact Try.underlying42)]
 rw [run_slice_lh (P := Try.prog) (w := w) (t := 42) (ht := by rw [yq]; exact Try.underlying42) (kl := .i64) (kh := .i64) (h0 := by omega) (h1 := by omega) (h2 := by omega), yq, xI]
 have e1 : ((at_ : Int) + 64).toNat = at_ + 64 := by omega
 have e2 : ¬ cap = at_ := by omega
 simp [sliced, Result.andThen, e1, e2, Addr.add_mid]
def roV (g n cap at_ : Nat) (s p : Nat → Int) : Nat → Value
 | 0 => .agg (qe 8 s)
 | 1 => .slice (some ⟨g, 0, none⟩) n cap
 | 2 => .int .i64 (at_ : Int)
 | 3 => .int .i64 (at_ : Int)
 | 4 => .int .i64 ((at_ : Int) + 64)
 | 5 => .slice (some ⟨g, at_, none⟩) 64 (cap - at_)
 | 6 => .agg (qe 64 qu)
 | 7 => .agg (qe 8 (jf s p))
 | _ => undef
structure RoW (b4 b5 g at_ : Nat) (w0 : World) (s p : Nat → Int) (l : Array Bool) (w : World) : Prop where
 gr : w0.grownBy w (some b4)
 a : l.getD 8 false = false → Blk w b4 81 (qe 8 s)
 b : l.getD 8 false = true → Blk w b4 81 (qe 8 (jf s p))
 c : l.getD 8 false = true → l.getD 0 false = true
 k : Blk w b5 83 (qe 64 qu)
 x : ∀ i, i < 64 → w.cell? ⟨g, at_ + i, none⟩ = some (.int .u8 (p i))
theorem RoW.next {b4 b5 g at_ : Nat} {w0 w w' : World} {s p : Nat → Int} {l : Array Bool} (h : RoW b4 b5 g at_ w0 s p l w) (hb : Below w.heap.size w w') (i : Nat) (hi : i ≠ 8) : RoW b4 b5 g at_ w0 s p (l.setIfInBounds i true) w' where
 gr := zg h.gr (yb hb _)
 a e := by rw [getD_set_ne false hi] at e; exact (h.a e).below hb (h.a e).lt
 b e := by rw [getD_set_ne false hi] at e; exact (h.b e).below hb (h.b e).lt
 c e := by rw [getD_set_ne false hi] at e; exact getD_set_true (h.c e)
 k := h.k.below hb h.k.lt
 x j hj := by rw [hb.cell (p := ⟨g, at_ + j, none⟩) (zM (h.x j hj))]; exact h.x j hj
theorem QE {P : Program} {Q : Exit → Act → World → Prop} {o : Oper} {a : Act} {w : World} {K : Act → World → Prop} (t : TypeId) (x lo hi : Operand) (ho : o.op = .slice t x (some lo) (some hi) none) (vx vl vh v : Value) (hx : a.eval x = vx) (hl : a.eval lo = vl) (hh : a.eval hi = vh)
  (hrun : (Instr.sliceAt t vx (some vl) (some vh) none).run P w = .ok v w) (h : K (a.put o.dst v) w) : o.wp P a w K Q := by
 refine zq v ?_ h
 unfold execOp
 simp only [ho, Option.map_some, Option.map_none, hx, hl, hh, Sem.run_bind, hrun, Result.andThen_ok]
 rfl
theorem DA (at_ : Nat) (h : at_ ≤ 1152921504606846976) (w : World) (a : Act) (o : Oper) (ho : o.op = .binOp .add 3 (.tmp 22) (.const (.int .i64 64)) 3) (hx : a.eval (.tmp 22) = .int .i64 (at_ : Int)) :
  (execOp a.eval o).run Try.prog w = .ok (.value (.int .i64 ((at_ : Int) + 64))) w := by
 have hw : IntKind.i64.wrap ((at_ : Int) + 64) = (at_ : Int) + 64 := by rw [IntKind.wrap_i64]; omega
 have hc : a.eval (.const (.int .i64 64)) = .int .i64 64 := rfl
 unfold execOp
 simp only [ho, hx, hc]
 simp [go_sem, hw]
set_option maxRecDepth 8000 in
set_option maxHeartbeats 1000000 in
theorem Vd (q : String) (b4 b5 g n cap at_ : Nat) (w0 : World) (s p : Nat → Int) (a0 : Act) (h3 : a0.eval (.tmp 3) = .slice (some ⟨g, 0, none⟩) n cap) (h4 : a0.eval (.tmp 4) = ptr b4) (h5 : a0.eval (.tmp 5) = ptr b5) (h6 : a0.eval (.tmp 6) = .int .i64 (at_ : Int))
  (hn : at_ + 64 ≤ n) (hcap : n ≤ cap) (hsm : at_ ≤ 1152921504606846976) (hne5 : b5 ≠ b4) (hneg : g ≠ b4) (Q : Exit → Act → World → Prop)
  (l : Array Bool) (a : Act) (w : World) (i : Nat) (o : Oper)
  (hold : ∀ t : Nat, (∀ (j : Nat) (o' : Oper), (roA q)[j]? = some o' → o'.dst ≠ some t) → a.eval (.tmp t) = a0.eval (.tmp t))
  (hval : ∀ (j : Nat) (o' : Oper) (d : Nat), (roA q)[j]? = some o' → o'.dst = some d → l.getD j false = true → a.eval (.tmp d) = roV g n cap at_ s p j)
  (hW : RoW b4 b5 g at_ w0 s p l w) (_ : l.size = (roA q).size) (hi : l.getD i true = false) (ho : (roA q)[i]? = some o) (he : ∀ e ∈ o.after, Region.binds .any e = true → l.getD e.on false = true) :
  o.guard = none ∧ o.wp Try.prog a w (fun a' w' => a' = a.put o.dst (roV g n cap at_ s p i) ∧ RoW b4 b5 g at_ w0 s p (l.setIfInBounds i true) w') Q := by
 have hfree : ∀ t : Nat, t < 19 → a.eval (.tmp t) = a0.eval (.tmp t) := by
  intro t ht
  refine hold t ?_
  intro j o' hj hd
  match j, hj with
  | 0, hj => have e : ro0 q = o' := Option.some.inj hj; rw [← e] at hd; simp [ro0] at hd; subst hd; exact absurd ht (by decide)
  | 1, hj => have e : ro1 q = o' := Option.some.inj hj; rw [← e] at hd; simp [ro1] at hd; subst hd; exact absurd ht (by decide)
  | 2, hj => have e : ro2 q = o' := Option.some.inj hj; rw [← e] at hd; simp [ro2] at hd; subst hd; exact absurd ht (by decide)
  | 3, hj => have e : ro3 q = o' := Option.some.inj hj; rw [← e] at hd; simp [ro3] at hd; subst hd; exact absurd ht (by decide)
  | 4, hj => have e : ro4 q = o' := Option.some.inj hj; rw [← e] at hd; simp [ro4] at hd; subst hd; exact absurd ht (by decide)
  | 5, hj => have e : ro5 q = o' := Option.some.inj hj; rw [← e] at hd; simp [ro5] at hd; subst hd; exact absurd ht (by decide)
  | 6, hj => have e : ro6 q = o' := Option.some.inj hj; rw [← e] at hd; simp [ro6] at hd; subst hd; exact absurd ht (by decide)
  | 7, hj => have e : ro7 q = o' := Option.some.inj hj; rw [← e] at hd; simp [ro7] at hd; subst hd; exact absurd ht (by decide)
  | 8, hj => have e : ro8 q = o' := Option.some.inj hj; rw [← e] at hd; simp [ro8] at hd
  | m + 9, hj => simp [roA] at hj
 have f3 := (hfree 3 (by omega)).trans h3
 have f4 := (hfree 4 (by omega)).trans h4
 have f5 := (hfree 5 (by omega)).trans h5
 have f6 := (hfree 6 (by omega)).trans h6
 have v := fun (j d : Nat) (o' : Oper) (h1 : (roA q)[j]? = some o') (h2 : o'.dst = some d) (h3 : l.getD j false = true) => hval j o' d h1 h2 h3
 match i, hi, ho with
 | 0, hi, ho =>
  have e : ro0 q = o := Option.some.inj ho
  have hb : Blk w b4 81 (qe 8 s) := hW.a (by
   cases h : l.getD 8 false with
   | false => rfl
   | true => have := hW.c h; rw [yH hi] at this; cases this)
  exact ⟨by rw [← e]; rfl, wp_load_row 81 (.tmp 4) (by rw [← e]; rfl) b4 f4 81 (qe 8 s) (0, 0) (.array 8 80) hb Try.underlying81 rfl (qV _) ⟨rfl, hW.next (Below.refl _ _) 0 (by decide)⟩⟩
 | 1, hi, ho =>
  have e : ro1 q = o := Option.some.inj ho
  exact ⟨by rw [← e]; rfl, xN (.tmp 3) (by rw [← e]; rfl) _ f3 ⟨rfl, hW.next (Below.refl _ _) 1 (by decide)⟩⟩
 | 2, hi, ho =>
  have e : ro2 q = o := Option.some.inj ho
  exact ⟨by rw [← e]; rfl, xN (.tmp 6) (by rw [← e]; rfl) _ f6 ⟨rfl, hW.next (Below.refl _ _) 2 (by decide)⟩⟩
 | 3, hi, ho =>
  have e : ro3 q = o := Option.some.inj ho
  exact ⟨by rw [← e]; rfl, xN (.tmp 6) (by rw [← e]; rfl) _ f6 ⟨rfl, hW.next (Below.refl _ _) 3 (by decide)⟩⟩
 | 4, hi, ho =>
  have e : ro4 q = o := Option.some.inj ho
  have qq : a.eval (.tmp 22) = .int .i64 (at_ : Int) := v 3 22 (ro3 q) rfl rfl (he ⟨3, .data⟩ (by rw [← e]; simp [ro4]) rfl)
  exact ⟨by rw [← e]; rfl, zq (.int .i64 ((at_ : Int) + 64)) (DA at_ hsm w a o (by rw [← e]; rfl) qq) ⟨rfl, hW.next (Below.refl _ _) 4 (by decide)⟩⟩
 | 5, hi, ho =>
  have e : ro5 q = o := Option.some.inj ho
  have q1 : a.eval (.tmp 20) = .slice (some ⟨g, 0, none⟩) n cap := v 1 20 (ro1 q) rfl rfl (he ⟨1, .data⟩ (by rw [← e]; simp [ro5]) rfl)
  have q2 : a.eval (.tmp 21) = .int .i64 (at_ : Int) := v 2 21 (ro2 q) rfl rfl (he ⟨2, .data⟩ (by rw [← e]; simp [ro5]) rfl)
  have q3 : a.eval (.tmp 23) = .int .i64 ((at_ : Int) + 64) := v 4 23 (ro4 q) rfl rfl (he ⟨4, .data⟩ (by rw [← e]; simp [ro5]) rfl)
  exact ⟨by rw [← e]; rfl, QE 42 (.tmp 20) (.tmp 21) (.tmp 23) (by rw [← e]; rfl) _ _ _ _ q1 q2 q3 (UV w g n cap at_ hn hcap) ⟨rfl, hW.next (Below.refl _ _) 5 (by decide)⟩⟩
 | 6, hi, ho =>
  have e : ro6 q = o := Option.some.inj ho
  exact ⟨by rw [← e]; rfl, wp_load_row 83 (.tmp 5) (by rw [← e]; rfl) b5 f5 83 (qe 64 qu) (0, 0) (.array 64 80) hW.k Try.underlying83 rfl (zh _) ⟨rfl, hW.next (Below.refl _ _) 6 (by decide)⟩⟩
 | 7, hi, ho =>
  have e : ro7 q = o := Option.some.inj ho
  have q1 : a.eval (.tmp 19) = .agg (qe 8 s) := v 0 19 (ro0 q) rfl rfl (he ⟨0, .data⟩ (by rw [← e]; simp [ro7]) rfl)
  have q2 : a.eval (.tmp 24) = .slice (some ⟨g, at_, none⟩) 64 (cap - at_) := v 5 24 (ro5 q) rfl rfl (he ⟨5, .data⟩ (by rw [← e]; simp [ro7]) rfl)
  have q3 : a.eval (.tmp 25) = .agg (qe 64 qu) := v 6 25 (ro6 q) rfl rfl (he ⟨6, .data⟩ (by rw [← e]; simp [ro7]) rfl)
  exact ⟨by rw [← e]; rfl, qz 45 #[.tmp 19, .tmp 24, .tmp 25] #[81, 42, 83] (by rw [← e]; rfl) QC #[.agg (qe 8 s), .slice (some ⟨g, at_, none⟩) 64 (cap - at_), .agg (qe 64 qu)] (by simp only [List.map_toArray, List.map_cons, List.map_nil, q1, q2, q3])
   (fun v w' => v = .agg (qe 8 (jf s p)) ∧ Below w.heap.size w w') ((Ys s p g at_ (cap - at_) w hW.x).mono (by rintro e w' ⟨rfl, hb⟩; exact ⟨_, rfl, rfl, hb⟩))
   (by rintro v w' ⟨rfl, hb⟩; exact ⟨rfl, hW.next hb 7 (by decide)⟩)⟩
 | 8, hi, ho =>
  have e : ro8 q = o := Option.some.inj ho
  have q2 : a.eval (.tmp 26) = .agg (qe 8 (jf s p)) := v 7 26 (ro7 q) rfl rfl (he ⟨7, .data⟩ (by rw [← e]; simp [ro8]) rfl)
  have l0 := he ⟨0, .phase⟩ (by rw [← e]; simp [ro8]) rfl
  have hb := hW.a (yH hi)
  refine ⟨by rw [← e]; rfl, wp_store_row 81 (.tmp 4) (.tmp 26) (by rw [← e]; rfl) b4 (qe 8 (jf s p)) f4 q2 81 (qe 8 s) hb (qV _) (qW _ _ _) (qP _ _) ?_⟩
  have h8 : (l.setIfInBounds 8 true).getD 8 false = true := by
   obtain ⟨h1, _⟩ := yG hi
   simp [Array.getD, h1]
  exact ⟨rfl, { gr := zg hW.gr (jc _ _ _), a := fun e => (by rw [h8] at e; cases e), b := fun _ => Blk.setRow hb _, c := fun _ => getD_set_true l0, k := hW.k.setRow_ne hne5 _, x := fun j hj => (by rw [cell_setRow_other w b4 _ ⟨g, at_ + j, none⟩ hneg]; exact hW.x j hj) }⟩
 | m + 9, hi, ho => simp [roA] at ho
theorem Yn (q : String) (b4 b5 g n cap at_ : Nat) (w0 : World) (s p : Nat → Int) (a0 : Act) (hsz : a0.tmps.size = 45) (h3 : a0.eval (.tmp 3) = .slice (some ⟨g, 0, none⟩) n cap) (h4 : a0.eval (.tmp 4) = ptr b4) (h5 : a0.eval (.tmp 5) = ptr b5) (h6 : a0.eval (.tmp 6) = .int .i64 (at_ : Int))
  (hn : at_ + 64 ≤ n) (hcap : n ≤ cap) (hsm : at_ ≤ 1152921504606846976) (hne5 : b5 ≠ b4) (hneg : g ≠ b4) (hb4 : Blk w0 b4 81 (qe 8 s)) (hb5 : Blk w0 b5 83 (qe 64 qu)) (hx : ∀ i, i < 64 → w0.cell? ⟨g, at_ + i, none⟩ = some (.int .u8 (p i))) (Q : Exit → Act → World → Prop)
  (hQ : ∀ wc, w0.grownBy wc (some b4) → Blk wc b4 81 (qe 8 (jf s p)) → Q .normal (zx (roA q) (roV g n cap at_ s p) a0 9) wc) :
  (Code.region 7 (roA q) true).wp Try.prog Q a0 w0 := by
 refine xr (by kernel_rfl) (roV g n cap at_ s p) (RoW b4 b5 g at_ w0 s p) (by rw [hsz]; kernel_rfl) (by kernel_rfl) (Vd q b4 b5 g n cap at_ w0 s p a0 h3 h4 h5 h6 hn hcap hsm hne5 hneg Q) ?_ ?_
 ·intro l wc hW hall
  exact hQ wc hW.gr (hW.b (hall 8 (by simp [roA])))
 ·exact ⟨⟨rfl, rfl, rfl, Nat.le_refl _, fun _ _ _ => rfl⟩, fun _ => hb4.drew, fun h => by simp [Array.getD] at h, fun h => by simp [Array.getD] at h, hb5.drew, hx⟩
theorem Yp (q : String) (g n cap at_ : Nat) (s p : Nat → Int) (a0 : Act) : zx (roA q) (roV g n cap at_ s p) a0 9 =
  ((((((((a0.put (some 19) (.agg (qe 8 s))).put (some 20) (.slice (some ⟨g, 0, none⟩) n cap)).put (some 21) (.int .i64 (at_ : Int))).put (some 22) (.int .i64 (at_ : Int))).put (some 23) (.int .i64 ((at_ : Int) + 64))).put (some 24) (.slice (some ⟨g, at_, none⟩) 64 (cap - at_))).put (some 25) (.agg (qe 64 qu))).put (some 26) (.agg (qe 8 (jf s p)))) := by kernel_rfl
def Qc (n : Nat) : List Int := (List.range (qT n + 9)).map (Kl n)
theorem xG (n : Nat) : (Qc n).length = qT n + 9 := by simp [Qc]
theorem Ug (n j : Nat) : (jp n j).length = qT n + 1 + j := by simp [jp]; omega
theorem GK (n : Nat) : jp n 8 = bv (Qc n) := by
 apply List.ext_getElem?
 intro i
 by_cases h : i < qT n + 9
 ·rw [Qd n i h, jP _ _ (by rw [xG]; exact h)]
  simp [Qc, h, List.getD]
 ·rw [List.getElem?_eq_none (by rw [Ug]; omega), List.getElem?_eq_none (by rw [qY, xG]; omega)]
def vy (l : List Int) : List Int := l ++ Qc l.length
def xj (n : Nat) : Nat := (n + qT n + 9) / 64
theorem Kd (l : List Int) : (vy l).length = 64 * xj l.length := by
 simp only [vy, List.length_append, xG, xj]
 unfold qT; omega
def xA (L : List Int) : Nat → (Nat → Int)
 | 0 => zf
 | m + 1 => jf (xA L m) fun j => L.getD (64 * m + j) 0
def kQ (s : Nat → Int) : Nat → (Nat → Int)
 | 0 => fun _ => 0
 | i + 1 => upd (kQ s i) i (s (i / 4) / 2 ^ (24 - 8 * (i % 4)) % 256)
set_option maxRecDepth 8000 in
set_option maxHeartbeats 2000000 in
theorem Yo (v : Value) (l : List Int) (w : World) (hrow : RowAt w v l) (hl : l.length ≤ 140737650005000) :
  Calls Try.prog 21 #[v] w fun e w' => e = .returned (.agg (qb 32 (kQ (xA (vy l) (xj l.length)) 32))) ∧ Below w.heap.size w w' := by
 have hbA := qg w (.cells (qb 32 fun _ => 0) 32)
 have Xr : Keep (RowAt (w.alloc (.cells (qb 32 fun _ => 0) 32)) v l) := ⟨hrow.below hbA⟩
 have hRA := Blk.new w 32 (qb 32 fun _ => 0)
 have hsA : (w.alloc (.cells (qb 32 fun _ => 0) 32)).heap.size = w.heap.size + 1 := by simp
 clear hrow
 go_enter Try.func21, Try.ntmps21
 go_wp2_with (first | (refine qM rfl 32 rfl _ qm ?_))
 generalize w.alloc (.cells (qb 32 fun _ => 0) 32) = wA at *
 refine (QN v l wA Xr.o hl).mono ?_
 rintro e w1 ⟨pv, rfl, hown, hB1⟩
 rw [GK] at hown
 have hL0 : bv l ++ bv (Qc l.length) = bv (vy l) := by simp [bv, vy]
 rw [hL0] at hown
 clear hL0
 have hpl := Kd l
 obtain ⟨M, hM⟩ : ∃ M, Keep (M = xj l.length) := ⟨_, ⟨rfl⟩⟩
 have hlen2 : l.length + qT l.length + 9 = 64 * M := by rw [hM.o, ← hpl]; simp only [vy, List.length_append, xG]; omega
 rw [hlen2] at hown
 rw [← hM.o] at hpl
 obtain ⟨L, hLL⟩ : ∃ L, Keep (L = vy l) := ⟨_, ⟨rfl⟩⟩
 rw [← hLL.o] at hown hpl
 have hM1 : 0 < M := by omega
 have hM2 : 64 * M ≤ 140737650005000 + 80 := by rw [← hlen2]; unfold qT; omega
 clear hlen2
 obtain ⟨nn, hnn⟩ : ∃ nn, Keep (nn = 64 * M) := ⟨_, ⟨rfl⟩⟩
 rw [← hnn.o] at hown hpl hM2
 have hn1 : 0 < nn := by rw [hnn.o]; omega
 obtain ⟨g, cap, rfl, hg, hcap⟩ := xT hown (by omega)
 have HC : Keep (∀ i, i < nn → w1.cell? ⟨g, i, none⟩ = some (.int .u8 (L.getD i 0))) := ⟨fun i hi => by
  rw [hown.cellAt i (by omega), jP L i (by omega)]⟩
 have hglt : g < w1.heap.size := zM (HC.o 0 (by omega))
 clear hown
 go_wp2_with fail
 refine (Xl _).mono ?_
 rintro e w2 ⟨rfl, rfl⟩
 have HZ : Keep (Blk ((w1.alloc (.cells (qe 8 zf) 81)).alloc (.cells (qe 8 fun _ => 0) 81)) (w1.heap.size + 1) 81 (qe 8 fun _ => 0)) := ⟨by
  have h := Blk.new (w1.alloc (.cells (qe 8 zf) 81)) 81 (qe 8 fun _ => 0)
  simp only [World.size_alloc] at h; exact h⟩
 have h4 := HZ.o.setRow (qe 8 zf)
 have hB2 : Below w1.heap.size w1 (((w1.alloc (.cells (qe 8 zf) 81)).alloc (.cells (qe 8 fun _ => 0) 81)).setRow (w1.heap.size + 1) (qe 8 zf)) := qf (((Below.refl _ _).alloc (Nat.le_refl _) _).alloc (by simp) _) (by omega) _
 go_wp2_with (refine qM rfl 81 rfl _ jz ?_; refine wpList_store_row rfl 81 (.tmp 4) (.tmp 11) rfl (w1.heap.size + 1) (qe 8 zf) (by simp [Act.put, Act.eval]) rfl 81 (qe 8 fun _ => 0) HZ.o (qV _) (qW _ _ _) (qP _ _) ?_; simp only [Act.put, List.setIfInBounds_toArray, List.set_cons_succ, List.set_cons_zero, World.size_alloc])
 generalize (((w1.alloc (.cells (qe 8 zf) 81)).alloc (.cells (qe 8 fun _ => 0) 81)).setRow (w1.heap.size + 1) (qe 8 zf)) = w2 at *
 clear HZ
 refine (KJ _).mono ?_
 rintro e w3 ⟨rfl, rfl⟩
 have hsz2 := h4.lt
 have HZ : Keep (Blk ((w2.alloc (.cells (qe 64 qu) 83)).alloc (.cells (qe 64 fun _ => 0) 83)) (w2.heap.size + 1) 83 (qe 64 fun _ => 0)) := ⟨by
  have h := Blk.new (w2.alloc (.cells (qe 64 qu) 83)) 83 (qe 64 fun _ => 0)
  simp only [World.size_alloc] at h; exact h⟩
 have h5 := HZ.o.setRow (qe 64 qu)
 have hB3 : Below w2.heap.size w2 (((w2.alloc (.cells (qe 64 qu) 83)).alloc (.cells (qe 64 fun _ => 0) 83)).setRow (w2.heap.size + 1) (qe 64 qu)) := qf (((Below.refl _ _).alloc (Nat.le_refl _) _).alloc (by simp) _) (by omega) _
 go_wp2_with (refine qM rfl 83 rfl _ zN ?_; refine wpList_store_row rfl 83 (.tmp 5) (.tmp 12) rfl (w2.heap.size + 1) (qe 64 qu) (by simp [Act.put, Act.eval]) rfl 83 (qe 64 fun _ => 0) HZ.o (zh _) (qW _ _ _) (qP _ _) ?_; simp only [Act.put, List.setIfInBounds_toArray, List.set_cons_succ, List.set_cons_zero, World.size_alloc])
 generalize (((w2.alloc (.cells (qe 64 qu) 83)).alloc (.cells (qe 64 fun _ => 0) 83)).setRow (w2.heap.size + 1) (qe 64 qu)) = w3 at *
 clear HZ
 have hR3 : Blk w3 w.heap.size 32 (qb 32 fun _ => 0) := ((hRA.below hB1 (by omega)).below hB2 (by have := hB1.size; omega)).below hB3 (by have := hB1.size; omega)
 have h43 := h4.below hB3 h4.lt
 have HC3 : Keep (∀ i, i < nn → w3.cell? ⟨g, i, none⟩ = some (.int .u8 (L.getD i 0))) := ⟨fun i hi => by
  rw [hB3.cell (p := ⟨g, i, none⟩) (by show g < _; have := hB2.size; omega), hB2.cell (p := ⟨g, i, none⟩) hglt]; exact HC.o i hi⟩
 have hBw : Below w.heap.size w w3 := (hbA.trans (hB1.mono (by omega))).trans ((hB2.mono (by have := hB1.size; omega)).trans (hB3.mono (by have := hB1.size; omega)))
 have hs1 := hB1.size
 have hs2 := hB2.size
 clear hRA h4 HC hB1 hB2 hB3 hbA Xr
 go_loopw [6] (fun i wr => ∃ m a : Nat, Keep (a = 64 * m) ∧ m ≤ M ∧ i = .int .i64 (a : Int) ∧ Blk wr (w1.heap.size + 1) 81 (qe 8 (xA L m)) ∧ Blk wr (w2.heap.size + 1) 83 (qe 64 qu) ∧ Keep (∀ i, i < nn → wr.cell? ⟨g, i, none⟩ = some (.int .u8 (L.getD i 0))) ∧ Blk wr w.heap.size 32 (qb 32 fun _ => 0) ∧ Below w.heap.size w wr) (fun i _ => nn - (intOf i).toNat)
 case atStart => exact ⟨0, 0, ⟨rfl⟩, by omega, rfl, h43, h5, HC3, hR3, hBw⟩
 case round =>
  clear h43 h5 HC3 hR3 hBw
  obtain ⟨m, a, ha, hm, rfl, h4, h5, HC, hR, hB⟩ := hrel
  by_cases hlt : m < M
  ·have ha1 : a + 64 ≤ nn := by rw [ha.o, hnn.o]; omega
   have ha2 : (a : Int) < (nn : Int) := by omega
   have HX : Keep (∀ i, i < 64 → wr.cell? ⟨g, a + i, none⟩ = some (.int .u8 ((fun j => L.getD (64 * m + j) 0) i))) := ⟨fun i hi => by rw [HC.o _ (by omega), ha.o]⟩
   go_wp2
   refine Yn _ (w1.heap.size + 1) (w2.heap.size + 1) g nn cap a wr (xA L m) (fun j => L.getD (64 * m + j) 0) _ (by simp) rfl rfl rfl rfl ha1 hcap (by omega) (by omega) (by omega) h4 h5 HX.o _ ?_
   intro wc hgr h4'
   rw [Yp]
   simp only [Act.put, List.setIfInBounds_toArray, List.set_cons_succ, List.set_cons_zero]
   have h5' : Blk wc (w2.heap.size + 1) 83 (qe 64 qu) := by unfold Blk; rw [hgr.block _ h5.lt (by simp; omega)]; exact h5
   have hR' : Blk wc w.heap.size 32 (qb 32 fun _ => 0) := by unfold Blk; rw [hgr.block _ hR.lt (by simp; omega)]; exact hR
   have HC' : Keep (∀ i, i < nn → wc.cell? ⟨g, i, none⟩ = some (.int .u8 (L.getD i 0))) := ⟨fun i hi => yF hgr (by omega) (HC.o i hi)⟩
   have hB' : Below w.heap.size w wc := hB.grown hgr hB.size (fun k e => by injection e with e; omega)
   have hn' : Keep (xA L (m + 1) = jf (xA L m) (fun j => L.getD (64 * m + j) 0)) := ⟨rfl⟩
   go_wp2
   go_roundw
   case rel => exact ⟨m + 1, a + 64, ⟨by rw [ha.o]; omega⟩, by omega, by go_num, by rw [hn'.out]; exact h4', h5', HC', hR', hB'⟩
   case measure => simp [intOf]; omega
  ·obtain rfl : m = M := by omega
   have hae : a = nn := by rw [ha.o, hnn.o]
   have ha3 : ¬ ((a : Int) < (nn : Int)) := by omega
   obtain ⟨S, hS⟩ : ∃ S, Keep (S = xA L m) := ⟨_, ⟨rfl⟩⟩
   rw [← hS.o] at h4
   clear ha HC h5 hae
   have HZ : Keep (Blk (wr.alloc (.cells (qb 32 fun _ => 0) 32)) wr.heap.size 32 (qb 32 fun _ => 0)) := ⟨Blk.new _ _ _⟩
   have h7 := Blk.new wr 32 (qb 32 fun _ => 0)
   have h47 := h4.alloc (.cells (qb 32 fun _ => 0) 32)
   have hR7 := hR.alloc (.cells (qb 32 fun _ => 0) 32)
   have hB7 := hB.alloc hB.size (.cells (qb 32 fun _ => 0) 32)
   have hl4 := h4.lt
   have hlR := hR.lt
   go_wp2_with (refine zE rfl 32 _ rfl (qb 32 fun _ => 0) (by kernel_rfl) ?_; refine qM rfl 32 rfl _ qm ?_; refine wpList_store_row rfl 32 (.tmp 7) (.tmp 27) rfl wr.heap.size (qb 32 fun _ => 0) rfl rfl 32 (qb 32 fun _ => 0) HZ.o (qd _) (qh _ _ _) (qi _ _) ?_; rw [World.setRow_alloc_new])
   clear h4 hR HZ
   generalize wr.alloc (.cells (qb 32 fun _ => 0) 32) = w7 at *
   have hsB := hB.size
   clear hB
   generalize wr.heap.size = b7 at *
   clear wr
   go_loopw [8] (fun i wx => ∃ t : Nat, t ≤ 32 ∧ i = .int .i64 (t : Int) ∧ Blk wx (w1.heap.size + 1) 81 (qe 8 S) ∧ Blk wx b7 32 (qb 32 (kQ S t)) ∧ Blk wx w.heap.size 32 (qb 32 fun _ => 0) ∧ Below w.heap.size w wx) (fun i _ => 32 - (intOf i).toNat)
   case atStart => exact ⟨0, by omega, rfl, h47, h7, hR7, hB7⟩
   case round =>
    clear h47 h7 hR7 hB7
    obtain ⟨t, ht, rfl, h4, h7, hR, hB⟩ := hrel
    by_cases hlt : t < 32
    ·have hlt' : (t : Int) < 32 := by omega
     have c1 : wr.cell? ⟨w1.heap.size + 1, t / 4, none⟩ = some (.int .u32 (S (t / 4))) := by rw [h4.cell, qr _ _ _ (by omega)]
     have c2 : wr.cell? ⟨b7, t, none⟩ = some (.int .u8 (kQ S t t)) := by rw [h7.cell, qN _ _ _ (by omega)]
     have c3 : wr.frozen? ⟨b7, t, none⟩ = false := h7.frozen t
     have e1 : (24 - 8 * ((t : Int) % 4)).toNat = 24 - 8 * (t % 4) := by omega
     have e2 : 0 ≤ 24 - 8 * ((t : Int) % 4) := by omega
     have e3 : 24 - 8 * ((t : Int) % 4) ≤ 32 := by omega
     have e4 : ((t : Int) / 4) < 8 := by omega
     have e5 : 0 ≤ ((t : Int) / 4) := by omega
     have e6 : ((t : Int) / 4).toNat = t / 4 := by omega
     go_wp2
     go_roundw
     case rel =>
      have h := h7.set t (.int .u8 (S (t / 4) / 2 ^ (24 - 8 * (t % 4)) % 256))
      rw [zZ] at h
      exact ⟨t + 1, by omega, by go_num, h4.set_ne (by omega) _, h, hR.set_ne (by omega) _, hB.setCell (by show w.heap.size ≤ b7; omega) _⟩
     case measure => simp [intOf]; omega
    ·obtain rfl : t = 32 := by omega
     clear hlt ht
     obtain ⟨c, hc⟩ : ∃ c, Keep (c = kQ S 32) := ⟨_, ⟨rfl⟩⟩
     rw [← hc.o] at h7
     go_wp2_with (refine wpList_load_row rfl 32 (.tmp 7) rfl b7 rfl 32 (qb 32 c) (0, 0) (.array 32 5) h7 Try.underlying32 rfl (qd _) ?_; refine wpList_store_row rfl 32 (.tmp 2) (.tmp 44) rfl w.heap.size (qb 32 c) rfl rfl 32 (qb 32 fun _ => 0) hR (qd _) (qh _ _ _) (qi _ _) ?_)
     exact bodyPost_ret (v := .agg (qb 32 c)) (results_cell_row Try.results21 _ _ w.heap.size 32 _ (0, 0) _ rfl (hR.setRow _) Try.underlying32 rfl (qd _)) rfl ⟨by rw [hc.o, hS.o, hLL.o, hM.o], qf hB (Nat.le_refl _) _⟩
theorem Xm {c d : Nat → Int} {t : Nat} (ht : t < 16) (h : ∀ i, i < 64 → c i = d i) : YY c t = YY d t := by
 unfold YY; rw [h (4 * t) (by omega), h (4 * t + 1) (by omega), h (4 * t + 2) (by omega), h (4 * t + 3) (by omega)]
theorem KF {p q : Nat → Int} (hp : ∀ i, i < 64 → p i = q i) (t : Nat) (ht : t ≤ 64) : qG p t = qG q t := by
 induction t with
 | zero => rfl
 | succ t ih =>
  have e := ih (by omega)
  simp only [qG, e]
  by_cases h16 : t < 16
  ·rw [if_pos h16, if_pos h16, Xm h16 hp]
  ·rw [if_neg h16, if_neg h16]
theorem QU {s p q : Nat → Int} (hp : ∀ i, i < 64 → p i = q i) : jf s p = jf s q := by
 unfold jf; rw [KF hp 64 (Nat.le_refl _)]
theorem kS (L : List Int) (m : Nat) (hm : 64 * m ≤ L.length) : (ze dg0 (L.take (64 * m))).s = xA L m ∧ (ze dg0 (L.take (64 * m))).n = 64 * m := by
 induction m with
 | zero => exact ⟨rfl, rfl⟩
 | succ m ih =>
  obtain ⟨i1, i2⟩ := ih (by omega)
  have hn : (ze dg0 (L.take (64 * (m + 1)))).n = 64 * (m + 1) := by rw [xW, List.length_take]; show 0 + _ = _; omega
  refine ⟨?_, hn⟩
  have hsp : L.take (64 * (m + 1)) = L.take (64 * m) ++ (L.drop (64 * m)).take 64 := by
   rw [show 64 * (m + 1) = 64 * m + 64 by omega, List.take_add]
  have hl : ((L.drop (64 * m)).take 64).length = 64 := by rw [List.length_take, List.length_drop]; omega
  rw [hsp, je, ← jM, hl, yK _ _ 64 (by rw [i2]; omega)]
  dsimp only
  rw [i2, if_pos (by omega), i1]
  simp only [xA]
  apply QU
  intro j hj
  simp only [xX]
  rw [if_pos (by omega)]
  have e : j - 64 * m % 64 = j := by omega
  rw [e, List.getD_eq_getElem?_getD, List.getElem?_take, if_pos hj, List.getElem?_drop, ← List.getD_eq_getElem?_getD]
theorem ZS (s : Nat → Int) (i : Nat) (hi : i < 32) : kQ s 32 i = qU s 8 i := by
 have h : ∀ (k : Fin 32) (s : Nat → Int), kQ s 32 k.val = s (k.val / 4) / 2 ^ (24 - 8 * (k.val % 4)) % 256 := by
  intro k s
  obtain ⟨k, hk⟩ := k
  have g : ∀ n, k < n → kQ s n k = s (k / 4) / 2 ^ (24 - 8 * (k % 4)) % 256 := by
   intro n hn
   induction n with
   | zero => omega
   | succ n ih =>
    simp only [kQ, upd]
    by_cases e : k = n
    ·rw [if_pos e, e]
    ·rw [if_neg e]; exact ih (by omega)
  exact g 32 hk
 rw [h ⟨i, hi⟩ s]
 match i, hi with
 | 0, _ => simp [qU, upd]
 | 1, _ => simp [qU, upd]
 | 2, _ => simp [qU, upd]
 | 3, _ => simp [qU, upd]
 | 4, _ => simp [qU, upd]
 | 5, _ => simp [qU, upd]
 | 6, _ => simp [qU, upd]
 | 7, _ => simp [qU, upd]
 | 8, _ => simp [qU, upd]
 | 9, _ => simp [qU, upd]
 | 10, _ => simp [qU, upd]
 | 11, _ => simp [qU, upd]
 | 12, _ => simp [qU, upd]
 | 13, _ => simp [qU, upd]
 | 14, _ => simp [qU, upd]
 | 15, _ => simp [qU, upd]
 | 16, _ => simp [qU, upd]
 | 17, _ => simp [qU, upd]
 | 18, _ => simp [qU, upd]
 | 19, _ => simp [qU, upd]
 | 20, _ => simp [qU, upd]
 | 21, _ => simp [qU, upd]
 | 22, _ => simp [qU, upd]
 | 23, _ => simp [qU, upd]
 | 24, _ => simp [qU, upd]
 | 25, _ => simp [qU, upd]
 | 26, _ => simp [qU, upd]
 | 27, _ => simp [qU, upd]
 | 28, _ => simp [qU, upd]
 | 29, _ => simp [qU, upd]
 | 30, _ => simp [qU, upd]
 | 31, _ => simp [qU, upd]
 | n + 32, h => omega
theorem Zt (l : List Int) : qb 32 (kQ (xA (vy l) (xj l.length)) 32) = qb 32 (qy l) := by
 rw [jd (d := qU (xA (vy l) (xj l.length)) 8) (fun i hi => ZS _ i hi)]
 have h := (kS (vy l) (xj l.length) (by rw [Kd]; exact Nat.le_refl _)).1
 rw [← Kd, List.take_length] at h
 have hn : (ze dg0 l).n = l.length := by rw [xW]; show 0 + _ = _; omega
 unfold qy Zo
 rw [← h, hn]
 have e : ze dg0 (vy l) = qI (ze dg0 l) (Kl l.length) (qT l.length + 9) := by
  rw [vy, je, ← jM, xG]
  have : ∀ (d : Dg) (k : Nat), k ≤ qT l.length + 9 → qI d (fun i => (Qc l.length).getD i 0) k = qI d (Kl l.length) k := by
   intro d k hk
   induction k with
   | zero => rfl
   | succ k ih =>
    simp only [qI]
    rw [ih (by omega)]
    simp [Qc, List.getD, show k < qT l.length + 9 by omega]
  exact this _ _ (Nat.le_refl _)
 rw [e]
theorem Jn (v : Value) (l : List Int) (w : World) (hrow : RowAt w v l) (hl : l.length ≤ 140737650005000) :
  Calls Try.prog 21 #[v] w fun e w' => e = .returned (.agg (qb 32 (qy l))) ∧ Below w.heap.size w w' := by
 rw [← Zt]; exact Yo v l w hrow hl
end Go.Proofs.Ytdpcjfafbmhceaa
namespace Go.Proofs.Ytdpcjfafbmhceaa
open Go.RowKit
set_option linter.unusedSimpArgs false
set_option linter.unusedVariables false
theorem qo {w w' : World} {B T s n : Nat} {v : Value} {xs : List Value} {S : Nat → Prop} (h : w.ownsRow B T s v n xs) (hg : Grown w w' S) (hs : ∀ k, v.ownBlock = some k → ¬ S k) : w'.ownsRow B T s v n xs := by
 rcases h.2 with ⟨rfl, e⟩ | ⟨g, cap, cur, rfl, h1, h2, h3, h4, h5, h6⟩
 ·exact ⟨h.1, .inl ⟨rfl, e⟩⟩
 ·have hB : Blk w g T cur := h2
  exact ⟨h.1, .inr ⟨g, cap, cur, rfl, h1, hg.blk hB (hs g rfl), h3, h4, h5, h6⟩⟩
theorem qj {w w' : World} {B T s n : Nat} {v : Value} {xs : List Value} (h : w.ownsRow B T s v n xs) (hb : Below w.heap.size w w') : w'.ownsRow B T s v n xs := qo h (gF hb) fun _ _ e => e
theorem zV {w : World} {B T s n : Nat} {v : Value} {xs : List Value} (h : w.ownsRow B T s v n xs) : ∀ k, v.ownBlock = some k → B ≤ k ∧ k < w.heap.size := fun k hk => World.ownsRow.lt h k hk
theorem qE {w : World} {B T s n : Nat} {v : Value} {xs : List Value} (h : w.ownsRow B T s v n xs) : ∃ a c, v = .slice a n c := by
 rcases h.2 with ⟨rfl, e⟩ | ⟨g, cap, cur, rfl, _⟩
 ·exact ⟨none, 0, by rw [e]⟩
 ·exact ⟨_, _, rfl⟩
theorem vE {w : World} {B T n c : Nat} {a : Option Addr} {xs : List Value} (h : w.ownsRow B T 1 (.slice a n c) n xs) {i : Nat} (hi : i < n) {u : Value} (hu : xs[i]? = some u) : ∃ g, a = some ⟨g, 0, none⟩ ∧ w.cell? ⟨g, i, none⟩ = some u ∧ g < w.heap.size := by
 rcases h.2 with ⟨e, e2⟩ | ⟨g, cap, cur, e, h1, h2, h3, h4, h5, h6⟩
 ·omega
 ·injection e with e1 e2 e3
  have hB : Blk w g T cur := h2
  refine ⟨g, e1, ?_, hB.lt⟩
  rw [hB.cell, ← Array.getElem?_toList]
  rw [← h6, List.getElem?_take] at hu
  split at hu
  ·exact hu
  ·cases hu
theorem UC (w : World) (vs : Array Value) : (callFunc 21 vs).run Try.prog w = .ok (.enter 21 vs) w := by kernel_rfl
def BkS (B : Nat) (w : World) (k : Nat) : Prop := B ≤ k ∧ (Typ w k 77 ∨ Typ w k 42)
structure BkH (B : Nat) (w : World) (x : Nat) (R : List (List Int)) : Prop where
 mk' ::
 ge : B ≤ x
 ex : ∃ (vr : Value) (cs : List Value), Blk w x 77 #[vr] ∧ w.ownsRow B 42 1 vr cs.length cs ∧ cs.length = R.length ∧ ∀ (i : Nat) (v : Value) (l : List Int), cs[i]? = some v → R[i]? = some l → Own w v l
theorem qn {w : World} {B T s n : Nat} {v : Value} {xs : List Value} (h : w.ownsRow B T s v n xs) {k : Nat} (hk : v.ownBlock = some k) : Typ w k T := by
 rcases h.2 with ⟨rfl, _⟩ | ⟨g, cap, cur, rfl, _, h3, _⟩
 ·simp [Value.ownBlock] at hk
 ·simp [Value.ownBlock] at hk
  subst hk
  exact ⟨cur, _, h3⟩
theorem BkH.grown {B : Nat} {w w' : World} {x : Nat} {R : List (List Int)} {S : Nat → Prop} (h : BkH B w x R) (hg : Grown w w' S) (hs : ∀ k, S k → ¬ Typ w k 77 ∧ ¬ Typ w k 42 ∧ (∀ (v : Value) (l : List Int), Own w v l → v.ownBlock = some k → False)) : BkH B w' x R := by
 obtain ⟨hB, vr, cs, h1, h2, h3, h4⟩ := h
 refine ⟨hB, vr, cs, hg.blk h1 fun e => (hs _ e).1 h1.typ, qo h2 hg fun k hk e => (hs _ e).2.1 (qn h2 hk), h3, fun i v l hv hl => (h4 i v l hv hl).grown hg fun k hk e => (hs _ e).2.2 v l (h4 i v l hv hl) hk⟩
theorem BkH.below {B : Nat} {w w' : World} {x : Nat} {R : List (List Int)} (h : BkH B w x R) (hb : Below w.heap.size w w') : BkH B w' x R := h.grown (gF hb) fun _ e => e.elim
theorem BkS.next {B : Nat} {a b c : World} (h : Grown a b (BkS B a)) (k : Grown b c (BkS B b)) : Grown a c (BkS B a) := h.next k fun i hi e => by
 by_cases hs : BkS B a i
 ·exact hs
 ·refine ⟨e.1, ?_⟩
  have hb := h.block i hi hs
  have e2 := e.2
  unfold Typ at e2 ⊢
  rw [hb] at e2
  exact e2
theorem Own.bk {B : Nat} {w w' : World} {v : Value} {l : List Int} (h : Own w v l) (hg : Grown w w' (BkS B w)) : Own w' v l := h.grown hg fun k hk e => by
 rcases e.2 with e | e
 ·exact absurd ((h.typ hk).one e) (by decide)
 ·exact absurd ((h.typ hk).one e) (by decide)
theorem Blk.bk {B : Nat} {w w' : World} {k T : Nat} {cs : Array Value} (h : Blk w k T cs) (hg : Grown w w' (BkS B w)) (h1 : T ≠ 77) (h2 : T ≠ 42) : Blk w' k T cs := hg.blk h fun e => by
 rcases e.2 with e | e
 ·exact h1 (h.typ.one e)
 ·exact h2 (h.typ.one e)
theorem Grown.bkBelow {B : Nat} {w w' : World} (hg : Grown w w' (BkS B w)) (hB : B ≤ w.heap.size) : Below B w w' := by
 refine ⟨hg.os, hg.tape, hg.output, hg.size, fun i hi => hg.block i (by omega) fun e => ?_⟩
 have := e.1
 omega
theorem ZW : (Try.prog.info? 42).map (fun i => (i.zero, i.size, i.bytes)) = some (some (.slice none 0 0), 1, 24) := by kernel_rfl
theorem kv (a : Option Addr) (n c : Nat) (w : World) : (Instr.buildSlice 48 1 #[(0, .slice a n c)]).run Try.prog w = .ok (.slice (some ⟨w.heap.size, 0, none⟩) 1 1) (w.alloc (.cells #[.slice a n c] 42)) := by kernel_rfl
theorem Yh (w : World) (ty : TypeId) (B : Nat) (v : Value) (n : Nat) (xs : List Value) (hown : w.ownsRow B 42 1 v n xs) (gx : Nat) (a : Option Addr) (m c : Nat) (hc : w.cell? ⟨gx, 0, none⟩ = some (.slice a m c)) (hb : n + 1 ≤ 4398046511104) (hB : B ≤ w.heap.size) :
  ∃ v' w', (Builtin.append_ #[48, 48] ty #[v, .slice (some ⟨gx, 0, none⟩) 1 1]).run Try.prog w = .ok v' w' ∧ w'.ownsRow B 42 1 v' (n + 1) (xs ++ [.slice a m c]) ∧ (Grown w w' fun k => v.ownBlock = some k) ∧ (v'.ownBlock = v.ownBlock ∨ v'.ownBlock = some w.heap.size) := by
 obtain ⟨i, hi, hzz⟩ := Option.map_eq_some_iff.1 ZW
 simp only [Prod.mk.injEq] at hzz
 obtain ⟨hz, hsz, hby⟩ := hzz
 obtain ⟨v', w', hr, h1, h2, _, h3⟩ := run_append_own_at (P := Try.prog) w B 48 ty 42 i (.slice none 0 0) 1 24 Try.underlying48 hi hz hsz hby rfl (by omega) v n xs hown ⟨gx, 0, none⟩ 1 1 [.slice a m c] rfl (fun j u hu => by
  cases j with
  | zero => simp at hu; subst hu; exact hc
  | succ j => simp at hu) (fun u hu => by simp at hu; subst hu; rfl) (by unfold maxLen; omega) (by omega) hB
 exact ⟨v', w', hr, h1, Grown.of h2 fun k _ e => e, h3⟩
theorem WL.appRw {ops : Array Oper} {rest : List Oper} {o : Oper} {a : Act} {w : World} {Q : Exit → Act → World → Prop} (hw : Region.wanted o (yielded ops a.tmps) = true) (s x : Operand)
  (ho : o.op = .call { callee := .builtin .append, args := #[s, x], argTypes := #[48, 48] }) (v : Value) (B n : Nat) (xs : List Value) (gx : Nat) (aa : Option Addr) (m c : Nat)
  (hs : a.eval s = v) (hx : a.eval x = .slice (some ⟨gx, 0, none⟩) 1 1) (hown : w.ownsRow B 42 1 v n xs) (hc : w.cell? ⟨gx, 0, none⟩ = some (.slice aa m c)) (hb : n + 1 ≤ 4398046511104) (hB : B ≤ w.heap.size)
  (h : ∀ v' w', w'.ownsRow B 42 1 v' (n + 1) (xs ++ [.slice aa m c]) → (Grown w w' fun k => v.ownBlock = some k) → (v'.ownBlock = v.ownBlock ∨ v'.ownBlock = some w.heap.size) → WL Try.prog ops Q rest (a.put o.dst v') w') : WL Try.prog ops Q (o :: rest) a w :=
 ⟨qC hw fun K hK => by
  obtain ⟨v', w', hr, h1, h2, h3⟩ := Yh w o.type B v n xs hown gx aa m c hc hb hB
  unfold Oper.wp execOp
  simp only [ho, resolve, invoke, builtin, Sem.run_bind, Sem.run_pure, Result.andThen_ok, List.map_toArray, List.map_cons, List.map_nil, hs, hx, hr]
  exact hK _ _ (h v' w' h1 h2 h3).o⟩
theorem yE (B x : Nat) (vb : Value) (l : List Int) (R : List (List Int)) (w : World) (h : BkH B w x R) (hY : Own w vb l) (hL : l.length ≤ 140737650005000) (hN : R.length + 1 ≤ 4398046511104) (hB : B ≤ w.heap.size) :
  Calls Try.prog 75 #[.pointer (some ⟨x, 0, none⟩), vb] w fun e w' => e = .returned (.agg (qb 32 (qy l))) ∧ BkH B w' x (R ++ [l]) ∧ Grown w w' (BkS B w) := by
 obtain ⟨hG, vr, cs, hX, hO, hC, hE⟩ := h
 obtain ⟨ra, rc, rfl⟩ := qE hO
 obtain ⟨ba, bc, rfl⟩ := qR hY.row
 have HG := kk hG
 have HX := kk hX
 have HO := kk hO
 have HC := kk hC
 have HE := kk hE
 have HY := kk hY
 have HL := kk hL
 have HN : Keep (cs.length + 1 ≤ 4398046511104) := ⟨by rw [hC]; exact hN⟩
 have HB := kk hB
 clear hG hX hO hC hE hY hL hN hB
 go_enter Try.func75, Try.ntmps75
 refine wp_seq_k fun K1 hK1 => rgn (zO 32 qm fun r w1 hr0 R1 B1 => ?_)
 have X1 := kbx HX B1.o
 have O1 := kk (qj HO.o B1.o)
 have c0 := X1.o.c 0 (by rfl : (#[.slice ra cs.length rc] : Array Value)[0]? = some (.slice ra cs.length rc))
 refine WL.nil (hK1 _ _ (wp_seq_k fun K2 hK2 => rgn (Vv (.pointer (some ⟨x, 0, none⟩)) (h:=Vv (.pointer (some ⟨x, 0, none⟩)) (h:=Vv (.pointer (some ⟨x, 0, none⟩)) (h:=Vv (.pointer (some ⟨x, 0, none⟩)) (h:=Vv (.slice ra cs.length rc) (h:=Vv (.slice ba l.length bc) (h:=?_)))))))))
 clear c0
 refine WL.bs (by kernel_rfl) 48 1 _ rfl #[(0, .slice ba l.length bc)] (by simp [Act.eval]) _ _ (kv ba l.length bc w1) ?_
 have G2 := kk (Blk.new w1 42 #[.slice ba l.length bc])
 have B2 := kk (qg w1 (.cells #[.slice ba l.length bc] 42))
 generalize w1.alloc (.cells #[.slice ba l.length bc] 42) = w2 at *
 obtain ⟨g, hg0⟩ := nm w1
 rw [← hg0.o] at G2 ⊢
 have X2 := kbx X1 B2.o
 have O2 := kk (qj O1.o B2.o)
 have B3 := tb B1 B2.o
 have S2 : Keep (B ≤ w2.heap.size) := ⟨Nat.le_trans HB.o (B3.o.size)⟩
 simp only [Act.put, pqA, pqB, pqC]
 refine WL.appRw (by kernel_rfl) (.tmp 9) (.tmp 11) rfl (.slice ra cs.length rc) B cs.length cs g ba l.length bc rfl rfl O2.o (G2.o.c 0 rfl) (by have := HN.o; omega) S2.o ?_
 intro v' w3 k1 k2 k3
 obtain ⟨va, vc, hv'⟩ := qE k1
 subst hv'
 have O3 := kk k1
 have G3 : Keep (Grown w2 w3 fun k => (.slice ra cs.length rc : Value).ownBlock = some k) := ⟨k2⟩
 have X3 : Keep (Blk w3 x 77 #[.slice ra cs.length rc]) := ⟨k2.blk X2.o fun e => absurd ((qn O2.o e).one X2.o.typ) (by decide)⟩
 have M3 := kk k3
 clear k1 k2 k3
 have c0 := X3.o.c 0 (by rfl : (#[.slice ra cs.length rc] : Array Value)[0]? = some (.slice ra cs.length rc))
 have f0 := X3.o.frozen 0
 simp only [Act.put, pqA, pqB, pqC]
 refine Vv (.pointer (some ⟨x, 0, none⟩)) (h:=Vv (.pointer (some ⟨x, 0, none⟩)) (h:=?_))
 refine WL.cell (by kernel_rfl) (w3.setCell ⟨x, 0, none⟩ (.slice va (cs.length + 1) vc)) (by go_simp) ?_
 clear c0 f0
 have X4 : Keep (Blk (w3.setCell ⟨x, 0, none⟩ (.slice va (cs.length + 1) vc)) x 77 #[.slice va (cs.length + 1) vc]) := ⟨X3.o.set 0 _⟩
 have g4 : Grown w3 (w3.setCell ⟨x, 0, none⟩ (.slice va (cs.length + 1) vc)) (fun k => k = x) := Grown.setCell w3 x 0 _ fun _ => rfl
 generalize w3.setCell ⟨x, 0, none⟩ (.slice va (cs.length + 1) vc) = w4 at *
 have O4 : Keep (w4.ownsRow B 42 1 (.slice va (cs.length + 1) vc) (cs.length + 1) (cs ++ [.slice ba l.length bc])) := ⟨qo O3.o g4 fun k hk e => by subst e; exact absurd ((qn O3.o hk).one X3.o.typ) (by decide)⟩
 have G4 : Keep (Grown w w4 (BkS B w)) := ⟨by
  refine ((Grown.below (S := BkS B w) B3.o).next G3.o fun k hk e => ?_).next g4 fun k hk e => ?_
  ·have ht := qn HO.o e
   exact ⟨(zV HO.o k e).1, .inr ht⟩
  ·subst e; exact ⟨HG.o, .inl HX.o.typ⟩⟩
 have Y4 : Keep (RowAt w4 (.slice ba l.length bc) l) := ⟨(HY.o.bk G4.o).row⟩
 have R4 : Keep (Blk w4 r 32 (qb 32 fun _ => 0)) := ⟨by
  have a1 := R1.o.below B2.o R1.o.lt
  have a2 := G3.o.blk a1 fun e => absurd ((qn O2.o e).one a1.typ) (by decide)
  exact g4.blk a2 fun e => by subst e; exact absurd (a2.typ.one X3.o.typ) (by decide)⟩
 clear g4 M3
 simp only [Act.put]
 refine WL.nil (hK2 _ _ (wp_seq_k fun K3 hK3 => rgn (Vv (.slice ba l.length bc) (h:=ClS (vs := #[.slice ba l.length bc]) (Jn _ l w4 Y4.o HL.o) ?_))))
 rintro e w5 ⟨rfl, h5⟩
 refine ⟨_, rfl, ?_⟩
 have B5 := kk h5
 have R5 := kbx R4 h5
 clear h5
 refine StR (qb 32 (qy l)) R5.o (qd _) (qh _ _ _) (qi _ _) ?_
 have R6 := kk (R5.o.setRow (qb 32 (qy l)))
 have g6 : Grown w5 (w5.setRow r (qb 32 (qy l))) (fun k => k = r) := Grown.setRow w5 r _ fun _ => rfl
 generalize w5.setRow r (qb 32 (qy l)) = w6 at *
 refine WL.nil (hK3 _ _ (wp_ret ?_))
 refine bodyPost_ret (v := .agg (qb 32 (qy l))) (results_cell_row Try.results75 _ _ r 32 _ (0, 0) _ rfl R6.o Try.underlying32 rfl (qd _)) rfl ⟨rfl, ?_, ?_⟩
 ·have hh : BkH B w4 x (R ++ [l]) := by
   refine ⟨HG.o, .slice va (cs.length + 1) vc, cs ++ [.slice ba l.length bc], X4.o, by simpa using O4.o, by simp [HC.o], fun i v m hv hm => ?_⟩
   by_cases hi : i < cs.length
   ·rw [List.getElem?_append_left hi] at hv
    rw [List.getElem?_append_left (by rw [← HC.o]; exact hi)] at hm
    exact (HE.o i v m hv hm).bk G4.o
   ·have hl1 := (List.getElem?_eq_some_iff.1 hv).1
    have e : i = cs.length := by simp at hl1; omega
    subst e
    rw [List.getElem?_append_right (Nat.le_refl _)] at hv
    rw [List.getElem?_append_right (by rw [HC.o]; exact Nat.le_refl _)] at hm
    simp at hv
    rw [HC.o] at hm
    simp at hm
    subst hv hm
    exact HY.o.bk G4.o
  refine (hh.below B5.o).grown g6 fun k e => ?_
  subst e
  exact ⟨fun e => absurd (e.one R5.o.typ) (by decide), fun e => absurd (e.one R5.o.typ) (by decide), fun v m ho e => absurd ((ho.typ e).one R5.o.typ) (by decide)⟩
 ·refine (G4.o.belowS B5.o).next g6 fun k hk e => ?_
  subst e
  have := hr0.o
  omega
theorem bsK (c : Int) (w : World) : (Instr.buildSlice 42 1 #[(0, .int .u8 c)]).run Try.prog w = .ok (.slice (some ⟨w.heap.size, 0, none⟩) 1 1) (w.alloc (.cells (bv [c]).toArray 5)) := by kernel_rfl
theorem ZI (w : World) (l : List Int) (hb : l.length ≤ 140737488355328) : Own (w.alloc (.cells (bv l).toArray 5)) (.slice (some ⟨w.heap.size, 0, none⟩) l.length l.length) l :=
 ⟨by simp [bv], .inr ⟨w.heap.size, l.length, (bv l).toArray, rfl, Nat.zero_le _, Blk.new w 5 _, Nat.le_refl _, by unfold maxLen; omega, by simp [bv], by simp [bv, List.take_of_length_le]⟩⟩
structure OB (w0 w : World) (v : Value) (l : List Int) : Prop where
 own : Own w v l
 nw : ∀ k, v.ownBlock = some k → w0.heap.size ≤ k
 bel : Below w0.heap.size w0 w
theorem OB.start (w : World) (c : Int) : OB w (w.alloc (.cells (bv [c]).toArray 5)) (.slice (some ⟨w.heap.size, 0, none⟩) 1 1) [c] :=
 ⟨ZI w [c] (by simp), fun k hk => by simp [Value.ownBlock] at hk; omega, qg w _⟩
theorem OB.lay {w0 w w' : World} {v v' : Value} {l l' : List Int} (h : OB w0 w v l) (ho : Own w' v' l') (hm : Moved w v v') (hg : Grown w w' fun k => v.ownBlock = some k) : OB w0 w' v' l' := by
 refine ⟨ho, fun k hk => ?_, ?_⟩
 ·rcases hm with e | ⟨j, e, hj⟩
  ·rw [e] at hk; exact h.nw k hk
  ·rw [e] at hk; injection hk with hk; have := h.bel.size; omega
 ·refine h.bel.trans ⟨hg.os, hg.tape, hg.output, hg.size, fun i hi => hg.block i (Nat.lt_of_lt_of_le hi h.bel.size) fun e => ?_⟩
  have := h.nw i e
  omega
theorem OB.below {w0 w w' : World} {v : Value} {l : List Int} (h : OB w0 w v l) (hb : Below w.heap.size w w') : OB w0 w' v l :=
 ⟨h.own.grown (gF hb) fun _ _ e => e, h.nw, h.bel.trans (hb.mono h.bel.size)⟩
theorem BkH.setRow {B : Nat} {w : World} {x r T : Nat} {R : List (List Int)} {old : Array Value} (h : BkH B w x R) (hr : Blk w r T old) (c : Array Value) (h1 : T ≠ 77) (h2 : T ≠ 42) (h3 : T ≠ 5) : BkH B (w.setRow r c) x R :=
 h.grown (Grown.setRow w r c (S := fun k => k = r) fun _ => rfl) fun k e => by
  subst e
  exact ⟨fun e => h1 (hr.typ.one e), fun e => h2 (hr.typ.one e), fun v m ho e => h3 (hr.typ.one (ho.typ e))⟩
theorem kz {B : Nat} {w wi w7 : World} {r : Nat} (c : Array Value) (hb : Below w.heap.size w wi) (hg : Grown wi w7 (BkS B wi)) (hr : w.heap.size ≤ r) : Grown w (w7.setRow r c) (BkS B w) :=
 (BkS.next (Grown.below hb) hg).next (Grown.setRow w7 r c (S := fun k => k = r) fun _ => rfl) fun k hk e => by omega
theorem WL.bytes {ops : Array Oper} {rest : List Oper} {o : Oper} {a : Act} {w : World} {Q : Exit → Act → World → Prop} (hw : Region.wanted o (yielded ops a.tmps) = true) (x : Operand) (ho : o.op = .convert 9 42 x) (s : ByteArray) (hx : a.eval x = .string s) (hb : s.size ≤ 140737488355328)
  (h : ∀ v w', OwnT w' v (lst s) → v.ownBlock = some w.heap.size → Below w.heap.size w w' → WL Try.prog ops Q rest (a.put o.dst v) w') : WL Try.prog ops Q (o :: rest) a w := by
 obtain ⟨v, w', h1, h2, h3, h4⟩ := Xi w s hb
 refine WL.valW hw v w' ?_ (h v w' h2 h3 h4)
 unfold execOp
 simp only [ho, hx, Sem.run_bind, h1, Result.andThen_ok]
 rfl
set_option maxRecDepth 8000 in
theorem ZQ (B x k : Nat) (s : ByteArray) (vv : Value) (v : List Int) (R : List (List Int)) (w : World) (hK : BkH B w x R) (hV : RowAt w vv v) (hVl : v ≠ [] → ∀ k, vv.ownBlock = some k → k < w.heap.size) (hKd : k < 9223372036854775808) (hS : (s.size ≤ 140737488351232 ∧ v.length ≤ 140000000)) (hN : R.length + 1 ≤ 4398046511104) (hB : B ≤ w.heap.size) :
  Calls Try.prog 76 #[.pointer (some ⟨x, 0, none⟩), .agg #[.int .i64 (k : Int), .string s, vv]] w fun e w' => e = .returned (.agg (qb 32 (qy (RtP.leafR qQ ⟨k, lst s, v⟩)))) ∧ BkH B w' x (R ++ [RtP.leafR qQ ⟨k, lst s, v⟩]) ∧ Grown w w' (BkS B w) := by
 obtain ⟨va, vc, rfl⟩ := qR hV
 have HK := kk hK
 have HV := kk hV
 have HVl := kk hVl
 have HKd := kk hKd
 have HS := kk hS
 have HN := kk hN
 have HB := kk hB
 have hkw : IntKind.u64.wrap (k : Int) = (k : Int) := by rw [IntKind.wrap_u64]; omega
 clear hK hV hVl hKd hS hN hB
 go_enter Try.func76, Try.ntmps76
 refine wp_seq_k fun K1 hK1 => rgn (xM 44 (.tmp 1) #[.int .i64 (k : Int), .string s, .slice va v.length vc] fun c w1 hc0 C1 b1 => ?_)
 refine zO 32 qm fun r w2 hr0 R2 b2 => ?_
 have C2 := kbx C1 b2.o
 have B2 := tb b1 b2.o
 have hrw : Keep (w.heap.size ≤ r) := ⟨by rw [hr0.o]; exact b1.o.size⟩
 have BK2 := kk (HK.o.below B2.o)
 have V2 := kk (HV.o.below B2.o)
 have L2 : Keep (w.heap.size ≤ w2.heap.size) := ⟨B2.o.size⟩
 clear C1 b1 b2 hr0 hc0
 refine WL.nil (hK1 _ _ (wp_seq_k fun K2 hK2 => rgn ?_))
 refine WL.bs (by kernel_rfl) 42 1 _ rfl #[(0, .int .u8 0)] (by simp [Act.eval]) _ _ (bsK 0 w2) ?_
 have O3 := kk (OB.start w2 0)
 generalize w2.alloc (.cells (bv [0]).toArray 5) = w3 at *
 obtain ⟨v3, hv3⟩ : ∃ z, Keep (z = Value.slice (some ⟨w2.heap.size, 0, none⟩) 1 1) := ⟨_, ⟨rfl⟩⟩
 rw [← hv3.o] at O3 ⊢
 clear hv3
 have d0 := (C2.o.below O3.o.bel C2.o.lt).c 0 (by rfl : (#[.int .i64 (k : Int), .string s, .slice va v.length vc] : Array Value)[0]? = some (.int .i64 (k : Int)))
 simp only [Act.put, pqA, pqB, pqC]
 refine Vv (v3) (h:=WL.nil (hK2 _ _ (wp_seq_k fun K3 hK3 => rgn (Vv (v3) (h:=Vv (.pointer (some ⟨c, 0, none⟩)) (h:=Vv (.int .i64 (k : Int)) (h:=Vv (.int .u64 (k : Int)) (h:=?_))))))))
 clear d0
 refine ClS (KL v3 [0] k w3 O3.o.own (by have := HKd.o; omega) (by have := qO k; have := HS.o; simp; omega)) ?_
 rintro e w4 ⟨v4, rfl, k1, k2, k3⟩
 refine ⟨_, rfl, ?_⟩
 have O4 := kk (O3.o.lay k1 k2 k3)
 clear k1 k2 k3 O3
 have d1 := (C2.o.below O4.o.bel C2.o.lt).c 1 (by rfl : (#[.int .i64 (k : Int), .string s, .slice va v.length vc] : Array Value)[1]? = some (.string s))
 refine Vv (v4) (h:=WL.nil (hK3 _ _ (wp_seq_k fun K4 hK4 => rgn (Vv (v4) (h:=Vv (.pointer (some ⟨c, 1, none⟩)) (h:=Vv (.string s) (h:=?_)))))))
 clear d1
 refine WL.bytes (by kernel_rfl) (.tmp 14) rfl s rfl (by have := HS.o; omega) ?_
 intro v5 w5 k1 k2 k3
 have Y5 := kk k1.row
 have O5 := kk (O4.o.below k3)
 have E5 : Keep (∀ k, v5.ownBlock = some k → v4.ownBlock ≠ some k) := ⟨fun k hk e => by rw [k2] at hk; injection hk with hk; have := O4.o.own.lt k e; omega⟩
 clear k1 k2 k3 O4
 simp only [Act.put, pqA, pqB, pqC]
 refine ClS (vs := #[v4, v5]) (vV v4 v5 ([0] ++ qQ k) (lst s) w5 O5.o.own Y5.o (fun _ => E5.o) (by have := qO k; have := qO (lst s).length; have := zF s; have := HS.o; simp [zJ]; omega) (by have := qO k; have := qO (lst s).length; have := zF s; have := HS.o; simp [zJ]; omega)) ?_
 rintro e w6 ⟨v6, rfl, k1, k2, k3⟩
 refine ⟨_, rfl, ?_⟩
 have O6 := kk (O5.o.lay k1 k2 k3)
 clear k1 k2 k3 O5
 clear Y5 E5
 have d2 := (C2.o.below O6.o.bel C2.o.lt).c 2 (by rfl : (#[.int .i64 (k : Int), .string s, .slice va v.length vc] : Array Value)[2]? = some (.slice va v.length vc))
 have E6 : Keep (v ≠ [] → ∀ k, (Value.slice va v.length vc).ownBlock = some k → v6.ownBlock ≠ some k) := ⟨fun h0 k hk e => by have := O6.o.nw k e; have := HVl.o h0 k hk; have := L2.o; omega⟩
 refine Vv (v6) (h:=WL.nil (hK4 _ _ (wp_seq_k fun K5 hK5 => rgn (Vv (.pointer (some ⟨x, 0, none⟩)) (h:=Vv (v6) (h:=Vv (.pointer (some ⟨c, 2, none⟩)) (h:=Vv (.slice va v.length vc) (h:=?_))))))))
 clear d2
 refine ClS (vs := #[v6, .slice va v.length vc]) (vV v6 _ ([0] ++ qQ k ++ zJ (lst s)) v w6 O6.o.own (V2.o.below O6.o.bel) E6.o (by have := qO k; have := qO (lst s).length; have := qO v.length; have := zF s; have := HS.o; simp [zJ]; omega) (by have := qO k; have := qO (lst s).length; have := qO v.length; have := zF s; have := HS.o; simp [zJ]; omega)) ?_
 rintro e w7 ⟨v7, rfl, k1, k2, k3⟩
 refine ⟨_, rfl, ?_⟩
 have O7 := kk (O6.o.lay k1 k2 k3)
 clear k1 k2 k3 O6
 clear E6
 have e7 : [0] ++ qQ k ++ zJ (lst s) ++ zJ v = RtP.leafR qQ ⟨k, lst s, v⟩ := by simp [RtP.leafR, zJ]
 rw [e7] at O7
 have BK7 := kk (BK2.o.below O7.o.bel)
 have R7 := kbx R2 O7.o.bel
 have hl7 : Keep ((RtP.leafR qQ ⟨k, lst s, v⟩).length ≤ 140737650005000) := ⟨by rw [← e7]; have := qO k; have := qO (lst s).length; have := qO v.length; have := zF s; have := HS.o; simp [zJ]; omega⟩
 have B7 := tb B2 O7.o.bel
 refine ClS (yE B x v7 (RtP.leafR qQ ⟨k, lst s, v⟩) R w7 BK7.o O7.o.own hl7.o HN.o (by have := HB.o; have := B7.o.size; omega)) ?_
 rintro e w8 ⟨rfl, k1, k2⟩
 refine ⟨_, rfl, ?_⟩
 have BK8 := kk k1
 have G8 := kk k2
 have R8 := kk (R7.o.bk k2 (by decide) (by decide))
 clear k1 k2
 refine StR (qb 32 (qy (RtP.leafR qQ ⟨k, lst s, v⟩))) R8.o (qd _) (qh _ _ _) (qi _ _) ?_
 have R9 := kk (R8.o.setRow (qb 32 (qy (RtP.leafR qQ ⟨k, lst s, v⟩))))
 have BK9 := kk (BK8.o.setRow R8.o (qb 32 (qy (RtP.leafR qQ ⟨k, lst s, v⟩))) (by decide) (by decide) (by decide))
 have G9 := kk (kz (r := r) (qb 32 (qy (RtP.leafR qQ ⟨k, lst s, v⟩))) B7.o G8.o hrw.o)
 generalize w8.setRow r (qb 32 (qy (RtP.leafR qQ ⟨k, lst s, v⟩))) = w9 at *
 refine WL.nil (hK5 _ _ (wp_ret ?_))
 refine bodyPost_ret (v := .agg (qb 32 (qy (RtP.leafR qQ ⟨k, lst s, v⟩)))) (results_cell_row Try.results76 _ _ r 32 _ (0, 0) _ rfl R9.o Try.underlying32 rfl (qd _)) rfl ⟨rfl, BK9.o, G9.o⟩
set_option maxRecDepth 8000 in
theorem YE (B x : Nat) (a b : Nat → Int) (R : List (List Int)) (w : World) (hK : BkH B w x R) (hN : R.length + 1 ≤ 4398046511104) (hB : B ≤ w.heap.size) :
  Calls Try.prog 77 #[.pointer (some ⟨x, 0, none⟩), .agg (qb 32 a), .agg (qb 32 b)] w fun e w' => e = .returned (.agg (qb 32 (qy (RtP.innR (hl 32 a) (hl 32 b))))) ∧ BkH B w' x (R ++ [RtP.innR (hl 32 a) (hl 32 b)]) ∧ Grown w w' (BkS B w) := by
 have HK := kk hK
 have HN := kk hN
 have HB := kk hB
 clear hK hN hB
 go_enter Try.func77, Try.ntmps77
 refine wp_seq_k fun K1 hK1 => rgn (xM 32 (.tmp 1) (qb 32 a) fun c w1 hc0 C1 b1 => ?_)
 refine xM 32 (.tmp 2) (qb 32 b) fun d w2 hd0 D2 b2 => ?_
 have C2 := kbx C1 b2.o
 have B2 := tb b1 b2.o
 clear C1 b1 b2 hc0 hd0
 refine zO 32 qm fun r w3 hr0 R3 b3 => ?_
 have C3 := kbx C2 b3.o
 have D3 := kbx D2 b3.o
 have B3 := tb B2 b3.o
 have hrw : Keep (w.heap.size ≤ r) := ⟨by rw [hr0.o]; exact B2.o.size⟩
 have BK3 := kk (HK.o.below B3.o)
 clear C2 D2 b3 hr0 B2
 refine WL.nil (hK1 _ _ (wp_seq_k fun K2 hK2 => rgn ?_))
 refine WL.bs (by kernel_rfl) 42 1 _ rfl #[(0, .int .u8 1)] (by simp [Act.eval]) _ _ (bsK 1 w3) ?_
 have O4 := kk (OB.start w3 1)
 generalize w3.alloc (.cells (bv [1]).toArray 5) = w4 at *
 obtain ⟨v4, hv4⟩ : ∃ z, Keep (z = Value.slice (some ⟨w3.heap.size, 0, none⟩) 1 1) := ⟨_, ⟨rfl⟩⟩
 rw [← hv4.o] at O4 ⊢
 clear hv4
 simp only [Act.put, pqA, pqB, pqC]
 refine WL.row (by kernel_rfl) 32 (.tmp 4) rfl c rfl 32 (qb 32 a) _ (C3.o.below O4.o.bel C3.o.lt) Try.underlying32 rfl (qd _) ?_
 simp only [Act.put, pqA, pqB, pqC]
 refine ClS (yS v4 [1] a w4 O4.o.own (by simp)) ?_
 rintro e w5 ⟨v5, rfl, k1, k2, k3⟩
 refine ⟨_, rfl, ?_⟩
 have O5 := kk (O4.o.lay k1 k2 k3)
 clear k1 k2 k3 O4
 refine Vv (v5) (h:=WL.nil (hK2 _ _ (wp_seq_k fun K3 hK3 => rgn (Vv (.pointer (some ⟨x, 0, none⟩)) (h:=Vv (v5) (h:=?_))))))
 refine WL.row (by kernel_rfl) 32 (.tmp 5) rfl d rfl 32 (qb 32 b) _ (D3.o.below O5.o.bel D3.o.lt) Try.underlying32 rfl (qd _) ?_
 simp only [Act.put, pqA, pqB, pqC]
 refine ClS (yS v5 ([1] ++ hl 32 a) b w5 O5.o.own (by simp [jm])) ?_
 rintro e w7 ⟨v7, rfl, k1, k2, k3⟩
 refine ⟨_, rfl, ?_⟩
 have O7 := kk (O5.o.lay k1 k2 k3)
 clear k1 k2 k3 O5
 have e7 : [1] ++ hl 32 a ++ hl 32 b = RtP.innR (hl 32 a) (hl 32 b) := by simp [RtP.innR]
 rw [e7] at O7
 have BK7 := kk (BK3.o.below O7.o.bel)
 have R7 := kbx R3 O7.o.bel
 have hl7 : Keep ((RtP.innR (hl 32 a) (hl 32 b)).length ≤ 140737650005000) := ⟨by rw [← e7]; simp [jm]⟩
 have B7 := tb B3 O7.o.bel
 refine ClS (yE B x v7 (RtP.innR (hl 32 a) (hl 32 b)) R w7 BK7.o O7.o.own hl7.o HN.o (by have := HB.o; have := B7.o.size; omega)) ?_
 rintro e w8 ⟨rfl, k1, k2⟩
 refine ⟨_, rfl, ?_⟩
 have BK8 := kk k1
 have G8 := kk k2
 have R8 := kk (R7.o.bk k2 (by decide) (by decide))
 clear k1 k2
 refine StR (qb 32 (qy (RtP.innR (hl 32 a) (hl 32 b)))) R8.o (qd _) (qh _ _ _) (qi _ _) ?_
 have R9 := kk (R8.o.setRow (qb 32 (qy (RtP.innR (hl 32 a) (hl 32 b)))))
 have BK9 := kk (BK8.o.setRow R8.o (qb 32 (qy (RtP.innR (hl 32 a) (hl 32 b)))) (by decide) (by decide) (by decide))
 have G9 := kk (kz (r := r) (qb 32 (qy (RtP.innR (hl 32 a) (hl 32 b)))) B7.o G8.o hrw.o)
 generalize w8.setRow r (qb 32 (qy (RtP.innR (hl 32 a) (hl 32 b)))) = w9 at *
 refine WL.nil (hK3 _ _ (wp_ret ?_))
 refine bodyPost_ret (v := .agg (qb 32 (qy (RtP.innR (hl 32 a) (hl 32 b))))) (results_cell_row Try.results77 _ _ r 32 _ (0, 0) _ rfl R9.o Try.underlying32 rfl (qd _)) rfl ⟨rfl, BK9.o, G9.o⟩
end Go.Proofs.Ytdpcjfafbmhceaa
