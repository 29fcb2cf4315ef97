import Derived.Test.YtogmdfhicbmplaaB07
import Derived.Test.YtogmdfhicbmplaaB04
import Derived.Shelf.SlSortCmp.NoneTotal
import Derived.Laws.CopyRow
namespace Go.Proofs.Ytogmdfhicbmplaa
open Go.Shelf

def Try.sortH_ren : Go.Shelf.Ren := ⟨fun | 6 => 89 | 15 => 96 | 14 => 95 | 28 => 107 | 29 => 108 | 20 => 99 | 21 => 100 | 22 => 101 | 23 => 102 | 24 => 103 | 25 => 104 | 26 => 105 | 27 => 106 | 46 => 110 | 47 => 111 | 48 => 112 | 49 => 113 | 50 => 114 | 57 => 115 | n => n, fun | 22 => 37 | 24 => 36 | 25 => 84 | 3 => 3 | 39 => 83 | 0 => 0 | 53 => 117 | 55 => 119 | 4 => 4 | 46 => 111 | 45 => 110 | 50 => 99 | 5 => 5 | 9 => 9 | 66 => 120 | 70 => 124 | 76 => 126 | 77 => 127 | n => n, fun | n => n⟩
theorem Try.sortH : Go.Proofs.SlLaysF0.n6 Try.prog Try.sortH_ren := {
 mixed := by kernel_rfl
 f6 := ⟨Try.f89.name, by decide, Try.func89.trans (congrArg some (by kernel_rfl))⟩
 f14 := ⟨Try.f95.name, by decide, Try.func95.trans (congrArg some (by kernel_rfl))⟩
 f15 := Try.func96.trans (congrArg some (by kernel_rfl))
 f20 := ⟨Try.f99.name, by decide, Try.func99.trans (congrArg some (by kernel_rfl))⟩
 f21 := ⟨Try.f100.name, by decide, Try.func100.trans (congrArg some (by kernel_rfl))⟩
 f22 := ⟨Try.f101.name, by decide, Try.func101.trans (congrArg some (by kernel_rfl))⟩
 f23 := ⟨Try.f102.name, by decide, Try.func102.trans (congrArg some (by kernel_rfl))⟩
 f24 := ⟨Try.f103.name, by decide, Try.func103.trans (congrArg some (by kernel_rfl))⟩
 f25 := ⟨Try.f104.name, by decide, Try.func104.trans (congrArg some (by kernel_rfl))⟩
 f26 := ⟨Try.f105.name, by decide, Try.func105.trans (congrArg some (by kernel_rfl))⟩
 f27 := ⟨Try.f106.name, by decide, Try.func106.trans (congrArg some (by kernel_rfl))⟩
 f28 := Try.func107.trans (congrArg some (by kernel_rfl))
 f29 := Try.func108.trans (congrArg some (by kernel_rfl))
 f46 := ⟨Try.f110.name, by decide, Try.func110.trans (congrArg some (by kernel_rfl))⟩
 f47 := Try.func111.trans (congrArg some (by kernel_rfl))
 f48 := Try.func112.trans (congrArg some (by kernel_rfl))
 f49 := ⟨Try.f113.name, by decide, Try.func113.trans (congrArg some (by kernel_rfl))⟩
 f50 := ⟨Try.f114.name, by decide, Try.func114.trans (congrArg some (by kernel_rfl))⟩
 f57 := ⟨Try.f115.name, by decide, Try.func115.trans (congrArg some (by kernel_rfl))⟩
 t0 := Try.underlying0
 a0 := Try.isAgg0
 z0 := Try.sizeOf0
 v0 := Try.zeroValue0
 t3 := Try.underlying3
 a3 := Try.isAgg3
 z3 := Try.sizeOf3
 v3 := Try.zeroValue3
 t4 := Try.underlying4
 a4 := Try.isAgg4
 z4 := Try.sizeOf4
 v4 := Try.zeroValue4
 t5 := Try.underlying5
 a5 := Try.isAgg5
 z5 := Try.sizeOf5
 v5 := Try.zeroValue5
 t9 := Try.underlying9
 a9 := Try.isAgg9
 z9 := Try.sizeOf9
 v9 := Try.zeroValue9
 t22 := Try.underlying37
 a22 := Try.isAgg37
 z22 := Try.sizeOf37
 v22 := Try.zeroValue37
 t25 := Try.underlying84
 a25 := Try.isAgg84
 z25 := Try.sizeOf84
 v25 := Try.zeroValue84
 t39 := Try.underlying83
 a39 := Try.isAgg83
 z39 := Try.sizeOf83
 v39 := Try.zeroValue83
 t45 := Try.underlying110
 a45 := Try.isAgg110
 z45 := Try.sizeOf110
 v45 := Try.zeroValue110
 t46 := Try.underlying111
 a46 := Try.isAgg111
 z46 := Try.sizeOf111
 v46 := Try.zeroValue111
 t50 := Try.underlying99
 a50 := Try.isAgg99
 z50 := Try.sizeOf99
 v50 := Try.zeroValue99
 t53 := Try.underlying117
 a53 := Try.isAgg117
 z53 := Try.sizeOf117
 v53 := Try.zeroValue117
 t55 := Try.underlying119
 a55 := Try.isAgg119
 z55 := Try.sizeOf119
 v55 := Try.zeroValue119
 t66 := Try.underlying120
 a66 := Try.isAgg120
 z66 := Try.sizeOf120
 v66 := Try.zeroValue120
 t70 := Try.underlying124
 a70 := Try.isAgg124
 z70 := Try.sizeOf124
 v70 := Try.zeroValue124
 t76 := Try.underlying126
 a76 := Try.isAgg126
 z76 := Try.sizeOf126
 v76 := Try.zeroValue126
 t77 := Try.underlying127
 a77 := Try.isAgg127
 z77 := Try.sizeOf127
 v77 := Try.zeroValue127 }

end Go.Proofs.Ytogmdfhicbmplaa
namespace Go.Proofs.Ytogmdfhicbmplaa
open Go.RowKit Go.Sort Go.Shelf

theorem ltOf_iff (x y : Hs) : ltOf cf x y = true ↔ Lt x y := by unfold ltOf Lt; exact decide_eq_true_iff
theorem ltOf_not (x y : Hs) : ltOf cf x y = false ↔ ¬ Lt x y := by unfold ltOf Lt; exact decide_eq_false_iff_not
theorem cf_swo : SWO (ltOf cf) where
 irrefl x := (ltOf_not _ _).2 (Lt.irrefl x)
 trans x y z h1 h2 := (ltOf_iff _ _).2 (((ltOf_iff _ _).1 h1).trans ((ltOf_iff _ _).1 h2))
 ntrans x y z h1 h2 := (ltOf_not _ _).2 fun h3 => by
  have h1 := (ltOf_not _ _).1 h1
  have h2 := (ltOf_not _ _).1 h2
  rcases Lt.tri x y with h | h | h
  ·exact h1 h
  ·subst h; exact h2 h3
  ·exact h2 (h.trans h3)
theorem cf_total (x y : Hs) (h1 : ltOf cf x y = false) (h2 : ltOf cf y x = false) : x = y := by
 rcases Lt.tri x y with h | h | h
 ·exact absurd h ((ltOf_not _ _).1 h1)
 ·exact h
 ·exact absurd h ((ltOf_not _ _).1 h2)

theorem cmpLays22 (blk off size : Nat) (w : World) : CmpLays Try.prog 86 #[] encH 32 cf blk off size w := fun m os dk _ x y => by
 have h := compare_any x y (sortWorldK encH 32 w blk off m dk os)
 rw [← encH_arr, ← encH_arr] at h
 exact h

theorem flatK_flatH (d : Array Hs) : flatK encH 32 d = (flatH d.toList).toArray := by
 refine ext_get! (by simp [flatH_len]) fun t ht => ?_
 rw [size_flatK] at ht
 rw [get_flatK _ _ _ _ ht]
 have hi : t / 32 < d.size := by omega
 have hj : t % 32 < 32 := by omega
 have h1 := flatH_get d.toList (t / 32) (by simpa using hi) (t % 32) hj
 rw [show t / 32 * 32 + t % 32 = t by omega, encH_get _ _ hj] at h1
 have e1 : (flatH d.toList).toArray[t]? = some (.int .u8 (d.toList[t / 32].f (t % 32))) := by rw [List.getElem?_toArray]; exact h1
 have e2 := encH_get d[t / 32]! (t % 32) hj
 simp only [Array.getElem!_eq_getD, Array.getD_eq_getD_getElem?, List.getElem!_eq_getElem?_getD, e1, Option.getD_some]
 simp only [Array.getElem!_eq_getD, Array.getD_eq_getD_getElem?] at e2
 rw [e2]
 simp [hi]

theorem blk_putRow {w : World} {g : Nat} {D E : List Hs} (h : Blk w g 36 (flatH D).toArray) (hl : E.length = D.length) (m : Nat) (os : Array Obj) : Blk (sortWorldK encH 32 w g 0 m E.toArray os) g 36 (flatH E).toArray := by
 unfold sortWorldK putRowK
 rw [show flatK encH 32 E.toArray = (flatH E).toArray from flatK_flatH E.toArray]
 show (grow (putRow id (Go.Sort.ahead w m) g 0 _) os).heap[g]? = _
 rw [heap_grow_old _ _ (by simp [putRow, mapBlock, Go.Sort.ahead]; exact h.lt)]
 unfold putRow mapBlock
 show (w.heap.modify g _)[g]? = _
 rw [Array.getElem?_modify, if_pos rfl]
 have h' : w.heap[g]? = some (.cells (flatH D).toArray 36 (0, 0)) := h
 rw [h']
 simp only [Option.map_some, onCells]
 congr 2
 apply Array.ext_getElem?
 intro k
 unfold putCells
 rw [Array.getElem?_mapIdx]
 have hs : (flatH E).toArray.size = (flatH D).toArray.size := by simp [flatH_len, hl]
 by_cases hk : k < (flatH D).toArray.size
 ·rw [Array.getElem?_eq_getElem hk, Option.map_some, if_pos ⟨by omega, by omega⟩]
  rw [getElem!_pos _ (k - 0) (by omega)]
  simp only [id, Nat.sub_zero]
  exact (Array.getElem?_eq_getElem (xs := (flatH E).toArray) (by simp only [List.size_toArray, flatH_len] at hk ⊢; omega)).symm
 ·rw [Array.getElem?_eq_none (by omega), Array.getElem?_eq_none (by simp only [List.size_toArray, flatH_len] at hk ⊢; omega)]; rfl

theorem below_sort {w : World} {g B : Nat} (E : Array Hs) (hg : B ≤ g) (hB : B ≤ w.heap.size) (m : Nat) (os : Array Obj) : Below B w (sortWorldK encH 32 w g 0 m E os) where
 os := rfl
 tape := rfl
 output := rfl
 size := by
  have := size_sortWorldK_c encH 32 w g 0 m E os
  omega
 block i hi := by
  unfold sortWorldK putRowK
  rw [heap_grow_old _ _ (by simp [putRow, mapBlock, Go.Sort.ahead]; omega)]
  unfold putRow mapBlock
  show (w.heap.modify g _)[i]? = _
  rw [Array.getElem?_modify, if_neg (by omega)]

/-- slices.SortFunc at hashes. -/
theorem sortFunc_any (g cap : Nat) (D : List Hs) (w : World) (h : Blk w g 36 (flatH D).toArray) (hn : D.length ≤ 4398046511104) :
  Calls Try.prog 89 #[.slice (some ⟨g, 0, none⟩) D.length cap, .func (.func 86) #[] #[]] w fun e w' =>
   e = .returned (.tuple #[]) ∧ ∃ E : List Hs, E.length = D.length ∧ E.Pairwise (fun x y => ¬ Lt y x) ∧ (∀ x, x ∈ E ↔ x ∈ D) ∧ Blk w' g 36 (flatH E).toArray ∧ ∀ B, B ≤ g → Below B w w' := by
 have eg : ∀ args w, (callFunc 86 args).run Try.prog w = .ok (.enter 86 args) w := fun args w => Try.enter86 w args
 have hH : HoldsK encH 32 w g 0 D.toArray := by
  unfold HoldsK
  rw [flatK_flatH]
  intro j hj
  rw [Nat.zero_add]
  refine ⟨?_, h.frozen j⟩
  rw [h.cell]
  show (flatH D).toArray[j]? = some (id (flatH D).toArray[j]!)
  rw [getElem!_pos _ j hj]
  exact Array.getElem?_eq_getElem hj
 have hcon := AnyQ.slices_SortFunc_total Try.sortH 32 Try.isAgg36 Try.sizeOf36 encH encH_len (fun x v hv => encH_one x v hv) cf cf_swo 86 #[] g 0 cap D.toArray w eg (cmpLays22 g 0 D.toArray.size w) hH h.lt (by simp; omega) cf_total
 refine Calls.mono (show Calls Try.prog 89 _ _ _ from hcon) fun e w' hh => ?_
 obtain ⟨he, m, os, rfl⟩ := hh
 refine ⟨he, _, ?_, ?_, ?_, blk_putRow h ?_ m os, fun B hB => below_sort _ hB (by have := h.lt; omega) m os⟩
 ·simp
 ·have hs := List.pairwise_mergeSort (le := fun x y : Hs => !(ltOf cf) y x) (fun a b c h1 h2 => by
   have h1 : ltOf cf b a = false := by simpa using h1
   have h2 : ltOf cf c b = false := by simpa using h2
   have h3 := cf_swo.ntrans c b a h2 h1
   simp only [h3, Bool.not_false]) (fun a b => by
   by_cases hx : Lt b a
   ·have h3 := (ltOf_not a b).2 hx.asymm
    simp only [h3, Bool.not_false, Bool.or_true]
   ·have h3 := (ltOf_not b a).2 hx
    simp only [h3, Bool.not_false, Bool.true_or]) D
  exact hs.imp fun {a b} hab => (ltOf_not _ _).1 (by simpa using hab)
 ·intro x
  simp [List.mem_mergeSort]
 ·simp
end Go.Proofs.Ytogmdfhicbmplaa
namespace Go.Proofs.Ytogmdfhicbmplaa
open Go.RowKit Go.Sort

/-- clear of the hashes behind the first k. -/
theorem run_clearH (w : World) (g k m c : Nat) (E : List Hs) (ty : TypeId) (hg : Blk w g 36 (flatH E).toArray) (hl : E.length = k + m) (hm : 0 < m) :
  (Builtin.clear_ #[37] ty #[.slice (some ⟨g, k * 32, none⟩) m c]).run Try.prog w = .ok (.tuple #[]) (w.setRow g (flatH (E.take k ++ List.replicate m default)).toArray) := by
 have hst := run_storeCells_at Try.prog g (k * 32) 36 (flatH (List.replicate m default)) 0 _ w hg (by rw [flatH_len, flatH_arr_size, List.length_replicate]; omega) (flatH_one _)
 have hcur : ((flatH E).toArray.toList.take (k * 32 + 0) ++ flatH (List.replicate m default) ++ (flatH E).toArray.toList.drop (k * 32 + 0 + (flatH (List.replicate m default)).length)).toArray = (flatH (E.take k ++ List.replicate m default)).toArray := by
  rw [flatH_len, List.length_replicate, Nat.add_zero, flatH_app]
  show ((flatH E).take (k * 32) ++ _ ++ (flatH E).drop _).toArray = _
  rw [flatH_take, List.drop_of_length_le (by rw [flatH_len]; omega), List.append_nil]
 rw [hcur] at hst
 obtain ⟨i, hi, hzz⟩ := Option.map_eq_some_iff.1 Try.info36
 simp only [Prod.mk.injEq] at hzz
 obtain ⟨n, rfl⟩ : ∃ n, m = n + 1 := ⟨m - 1, by omega⟩
 simp [Builtin.clear_, run_underlying Try.underlying37, zeroValue, typeInfo, hi, hzz.1, Value.cells, zeroCellsH, hst]

end Go.Proofs.Ytogmdfhicbmplaa
namespace Go.Proofs.Ytogmdfhicbmplaa
open Go.RowKit Go.Sort

theorem grown_below' (w : World) (q B : Nat) : Below B w (w.drewN q) := ⟨rfl, rfl, rfl, Nat.le_refl _, fun _ _ => rfl⟩
theorem take_setH (E : List Hs) (k : Nat) (x : Hs) (hk : k < E.length) : (E.set k x).take (k + 1) = E.take k ++ [x] := by
 rw [List.set_eq_take_append_cons_drop, if_pos hk, List.take_append, List.take_of_length_le (by rw [List.length_take]; omega), List.length_take, Nat.min_eq_left (by omega), show k + 1 - k = 1 by omega]
 simp
theorem once_snoc : ∀ (l : List Hs) (y x : Hs), once (l ++ [y] ++ [x]) = if y = x then once (l ++ [y]) else once (l ++ [y]) ++ [x]
 | [], y, x => by
  by_cases h : y = x
  ·subst h; simp [once]
  ·simp [once, h]
 | [z], y, x => by
  by_cases h1 : z = y
  ·subst h1
   by_cases h : z = x
   ·subst h; simp [once]
   ·simp [once, h]
  ·by_cases h : y = x
   ·subst h; simp [once, h1]
   ·simp [once, h, h1]
 | z :: z2 :: l, y, x => by
  have ih := once_snoc (z2 :: l) y x
  simp only [List.cons_append] at ih ⊢
  rw [once, ih, once]
  by_cases h1 : z = z2
  ·rw [if_pos h1, if_pos h1]
  ·rw [if_neg h1, if_neg h1]
   by_cases h : y = x
   ·rw [if_pos h, if_pos h]
   ·rw [if_neg h, if_neg h]; rfl
theorem once_take (D : List Hs) (s : Nat) (h : s + 1 < D.length) : once (D.take (s + 2)) = if D[s] = D[s + 1] then once (D.take (s + 1)) else once (D.take (s + 1)) ++ [D[s + 1]] := by
 have h1 : D.take (s + 1) = D.take s ++ [D[s]] := (List.take_append_getElem (by omega)).symm
 have h2 : D.take (s + 2) = D.take (s + 1) ++ [D[s + 1]] := (List.take_append_getElem h).symm
 rw [h2, h1, once_snoc]
theorem once_short : ∀ (D : List Hs), D.length < 2 → once D = D
 | [], _ => rfl
 | [_], _ => rfl
 | _ :: _ :: _, h => by simp only [List.length_cons] at h; omega
theorem once_length : ∀ (D : List Hs), (once D).length ≤ D.length
 | [] => Nat.le_refl _
 | [_] => Nat.le_refl _
 | x :: y :: r => by
  have ih := once_length (y :: r)
  rw [once]
  by_cases h : x = y
  ·rw [if_pos h]; simp only [List.length_cons] at ih ⊢; omega
  ·rw [if_neg h]; simp only [List.length_cons] at ih ⊢; omega

theorem blk_rangeH {w : World} {g : Nat} {E : List Hs} (h : Blk w g 36 (flatH E).toArray) (i : Nat) (hi : i < E.length) : w.rangeAt g (i * 32) (encH E[i]) := fun j v hv => by
 have hj : j < 32 := by have := (List.getElem?_eq_some_iff.1 hv).1; rwa [encH_len] at this
 rw [h.cell, List.getElem?_toArray, flatH_get E i hi j hj]; exact hv
theorem blk_range_of {w : World} {g : Nat} {E D : List Hs} (h : Blk w g 36 (flatH E).toArray) (i : Nat) (hi : i < D.length) (he : E[i]? = D[i]?) : w.rangeAt g (i * 32) (encH D[i]) := by
 rw [List.getElem?_eq_getElem hi] at he
 obtain ⟨hi2, he2⟩ := List.getElem?_eq_some_iff.1 he
 rw [← he2]
 exact blk_rangeH h i hi2

theorem wpList_clearH {ops : Array Oper} {rest : List Oper} {o : Oper} {a : Act} {w : World} {Q : Exit → Act → World → Prop} (hgd : o.guard = none) (x : Operand)
  (ho : o.op = .call { callee := .builtin .clear, args := #[x], argTypes := #[37] }) (g k m c : Nat) (E : List Hs) (hx : a.eval x = .slice (some ⟨g, k * 32, none⟩) m c)
  (hg : Blk w g 36 (flatH E).toArray) (hl : E.length = k + m) (hm : 0 < m)
  (h : wpList Try.prog ops Q rest (a.put o.dst (.tuple #[])) (w.setRow g (flatH (E.take k ++ List.replicate m default)).toArray)) : wpList Try.prog ops Q (o :: rest) a w := by
 have hrun := run_clearH w g k m c E o.type hg hl hm
 generalize (flatH (E.take k ++ List.replicate m default)).toArray = G at *
 refine wpList_plain hgd fun K hK => ?_
 unfold Oper.wp
 simp only [execOp, ho, resolve, invoke, builtin, List.map_toArray, List.map_cons, List.map_nil, hx, Sem.run_bind, Sem.run_pure, hrun, Result.andThen_ok]
 exact hK _ _ h

/-- What Compact leaves. -/
def CompPost (g n : Nat) (D : List Hs) (w : World) (e : Ending) (w' : World) : Prop :=
 ∃ (k : Nat) (E : List Hs), e = .returned (.slice (some ⟨g, 0, none⟩) k n) ∧ k ≤ n ∧ E.length = n ∧ E.take k = once D ∧ Blk w' g 36 (flatH E).toArray ∧ ∀ B, B ≤ g → Below B w w'

set_option maxRecDepth 8000 in
set_option maxHeartbeats 400000 in
theorem compact_short (g n : Nat) (D : List Hs) (w : World) (h : Blk w g 36 (flatH D).toArray) (hD : D.length = n) (h2 : n < 2) : Calls Try.prog 90 #[.slice (some ⟨g, 0, none⟩) n n] w (CompPost g n D w) := by
 have H : Keep (Blk w g 36 (flatH D).toArray) := ⟨h⟩
 have HD : Keep (D.length = n) := ⟨hD⟩
 clear h hD
 have h2' : (n : Int) < 2 := by omega
 go_enter Try.func90, Try.ntmps90
 go_wp2
 go_ret
 exact ⟨n, D, rfl, Nat.le_refl _, HD.out, by rw [List.take_of_length_le (by rw [HD.out]; omega), once_short D (by rw [HD.out]; exact h2)], H.out, fun B hB => Below.refl _ _⟩

set_option maxRecDepth 8000 in
set_option maxHeartbeats 1000000 in
theorem compact_walk (g n : Nat) (D : List Hs) (w : World) (h : Blk w g 36 (flatH D).toArray) (hD : D.length = n) (h2 : 2 ≤ n) (hn : n ≤ 4398046511104) : Calls Try.prog 90 #[.slice (some ⟨g, 0, none⟩) n n] w (CompPost g n D w) := by
 have H : Keep (Blk w g 36 (flatH D).toArray) := ⟨h⟩
 have HD : Keep (D.length = n) := ⟨hD⟩
 have hu := Try.underlying36
 clear h hD
 have h2' : ¬ ((n : Int) < 2) := by omega
 go_enter Try.func90, Try.ntmps90
 go_wp2
 go_loopw [3] (fun i wr => ∃ k q : Nat, 1 ≤ k ∧ k ≤ n ∧ i = .int .i64 (k : Int) ∧ once (D.take k) = D.take k ∧ wr = w.drewN q) (fun i _ => n - (intOf i).toNat)
 case atStart => exact ⟨1, 0, by omega, by omega, rfl, once_short _ (by rw [List.length_take]; omega), by rw [World.drewN_zero]⟩
 case round =>
  obtain ⟨k0, q, hk1, hkn, rfl, hon, rfl⟩ := hrel
  have HON : Keep (once (D.take k0) = D.take k0) := ⟨hon⟩
  clear hon
  by_cases hlt : k0 < n
  ·obtain ⟨s, hs⟩ : ∃ s, Keep (k0 = s + 1) := ⟨k0 - 1, ⟨by omega⟩⟩
   have l1 : k0 < D.length := by rw [HD.out]; exact hlt
   have l2 : s < D.length := by have := hs.out; omega
   have heq := run_eqlL D[k0] D[s]
   have cA : (w.drewN q).drew.rangeAt g (k0 * 32) (encH D[k0]) := rangeAt_drew (rangeAt_drewN (blk_rangeH H.out k0 l1))
   have cB : (w.drewN q).drew.rangeAt g (s * 32) (encH D[s]) := rangeAt_drew (rangeAt_drewN (blk_rangeH H.out s l2))
   have hi1 := Try.size36L D[k0]
   have hi2 := Try.size36L D[s]
   obtain ⟨E, hE⟩ : ∃ E, Keep (E = decide (D[k0] = D[s])) := ⟨_, ⟨rfl⟩⟩
   rw [← hE.out] at heq
   have HE : Keep (E = false → once (D.take (k0 + 1)) = D.take (k0 + 1)) := ⟨fun h => by
    have h1 := hE.out; rw [h] at h1
    have h3 := hs.out
    subst h3
    rw [once_take D s l1, if_neg (fun e => of_decide_eq_false h1.symm e.symm), HON.out]
    exact List.take_append_getElem l1⟩
   have HF : Keep (E = true → once (D.take (k0 + 1)) = D.take k0) := ⟨fun h => by
    have h1 := hE.out; rw [h] at h1
    have h3 := hs.out
    subst h3
    rw [once_take D s l1, if_pos (of_decide_eq_true h1.symm).symm, HON.out]⟩
   clear hE
   generalize encH D[k0] = CA at *
   generalize encH D[s] = CB at *
   obtain ⟨wn, hwn⟩ : ∃ wn, Keep (w.drewN q = wn) := ⟨_, ⟨rfl⟩⟩
   rw [hwn.out] at cA cB ⊢
   have hsn : s < n := by have := hs.out; omega
   have f1 : (k0 : Int) < (n : Int) := by omega
   have f2 : (k0 : Int) - 1 = (s : Int) := by have := hs.out; omega
   have f3 : IntKind.i64.wrap (s : Int) = (s : Int) := by rw [IntKind.wrap_i64]; omega
   have f4 : (s : Int) < (n : Int) := by omega
   clear l1 l2
   go_wp2
   refine wp_region_held_drew (S := fun w' => w'.rangeAt g (k0 * 32) CA ∧ w'.rangeAt g (s * 32) CB) (by kernel_rfl) ⟨cA, cB⟩ (fun hHeld => ?_)
   refine tkS (i := 0) (oi := ⟨some 16, Op.move (Operand.tmp 0), 37, _, _, none⟩) (v := Value.slice (some ⟨g, 0, none⟩) n n) rfl (Or.inl ⟨by rfl, fun w hS => by go_simp⟩) hHeld ?_
   refine tkS (i := 1) (oi := ⟨some 17, Op.move (Operand.tmp 3), 3, _, _, none⟩) (v := .int .i64 (k0 : Int)) rfl (Or.inl ⟨by rfl, fun w hS => by go_simp⟩) hHeld ?_
   refine tkS (i := 2) (oi := ⟨some 18, Op.indexAddr 37 (Operand.tmp 16) (Operand.tmp 17), 0, _, _, none⟩) (v := .pointer (some ⟨g, k0 * 32, none⟩)) rfl (Or.inl ⟨by rfl, fun w hS => by go_simp⟩) hHeld ?_
   refine tkS (i := 3) (oi := ⟨some 19, Op.load 36 (Operand.tmp 18), 36, _, _, none⟩) (v := .agg (CA).toArray) rfl (yieldsIf_load_mid (by rfl) 36 (Operand.tmp 18) rfl g (k0 * 32) rfl CA _ (fun w hS => hS.1) hu rfl hi1) hHeld ?_
   refine tkS (i := 4) (oi := ⟨some 20, Op.move (Operand.tmp 0), 37, _, _, none⟩) (v := Value.slice (some ⟨g, 0, none⟩) n n) rfl (Or.inl ⟨by rfl, fun w hS => by go_simp⟩) hHeld ?_
   refine tkS (i := 5) (oi := ⟨some 21, Op.move (Operand.tmp 3), 3, _, _, none⟩) (v := .int .i64 (k0 : Int)) rfl (Or.inl ⟨by rfl, fun w hS => by go_simp⟩) hHeld ?_
   refine tkS (i := 6) (oi := ⟨some 22, Op.binOp BinOp.sub 3 (Operand.tmp 21) (Operand.const (Value.int IntKind.i64 1)) 3, 3, _, _, none⟩) (v := .int .i64 (s : Int)) rfl (Or.inl ⟨by rfl, fun w hS => by go_simp⟩) hHeld ?_
   refine tkS (i := 7) (oi := ⟨some 23, Op.indexAddr 37 (Operand.tmp 20) (Operand.tmp 22), 0, _, _, none⟩) (v := .pointer (some ⟨g, s * 32, none⟩)) rfl (Or.inl ⟨by rfl, fun w hS => by go_simp⟩) hHeld ?_
   refine tkS (i := 8) (oi := ⟨some 24, Op.load 36 (Operand.tmp 23), 36, _, _, none⟩) (v := .agg (CB).toArray) rfl (yieldsIf_load_mid (by rfl) 36 (Operand.tmp 23) rfl g (s * 32) rfl CB _ (fun w hS => hS.2) hu rfl hi2) hHeld ?_
   refine tkS (i := 9) (oi := ⟨some 25, Op.binOp BinOp.eql 36 (Operand.tmp 19) (Operand.tmp 24) 36, 4, _, _, none⟩) (v := .bool E) rfl (Or.inl ⟨by rfl, fun w hS => by go_simp⟩) hHeld ?_
   refine wpAnyH_done (by kernel_rfl) ?_ _
   have HD1 : Keep (∃ k, wn.drew = w.drewN k) := ⟨_, by rw [← hwn.out, World.drew_drewN]⟩
   cases E with
   | false =>
    have HE2 : Keep (once (D.take (k0 + 1)) = D.take (k0 + 1)) := ⟨HE.out rfl⟩
    clear HF HE
    go_wp2
    go_roundw
    case rel =>
     obtain ⟨k, hk⟩ := HD1.out
     exact ⟨k0 + 1, k, by omega, by omega, by go_num, HE2.out, hk⟩
    case measure => simp [intOf]; omega
   | true =>
    have HF2 : Keep (once (D.take (k0 + 1)) = D.take k0) := ⟨HF.out rfl⟩
    clear HF HE
    have f5 : (k0 : Int) ≤ (n : Int) := by omega
    have f6 : ¬ (n - k0 = 0) := by omega
    go_wp2
    have hstart : Blk wn.drew g 36 (flatH D).toArray := by rw [← hwn.out]; exact H.out
    have hstB : ∀ B, B ≤ g → Below B w wn.drew := fun B _ => by rw [← hwn.out]; rw [World.drew_drewN]; exact grown_below' w _ B
    go_loopw [3, 5] (fun a b wr => ∃ (k c d : Nat) (E : List Hs), c = d + 1 ∧ c ≤ n - k0 ∧ 1 ≤ k ∧ k ≤ k0 + d ∧ a = .int .i64 (k : Int) ∧ b = .int .i64 (c : Int) ∧ E.length = n ∧ E.take k = once (D.take (k0 + c)) ∧ (∀ i, k0 + d ≤ i → E[i]? = D[i]?) ∧ Blk wr g 36 (flatH E).toArray ∧ ∀ B, B ≤ g → Below B w wr) (fun _ b _ => n - (intOf b).toNat)
    case atStart => exact ⟨k0, 1, 0, D, rfl, by omega, hk1, by omega, rfl, rfl, HD.out, HF2.out.symm, fun i _ => rfl, hstart, hstB⟩
    case round =>
     clear hstart hstB
     obtain ⟨k, c, d, E, hcd, hc, hk1', hkd, rfl, rfl, hEl, hEt, hEd, hEb, hEB⟩ := hrel
     have HCD : Keep (c = d + 1) := ⟨hcd⟩
     have HEl : Keep (E.length = n) := ⟨hEl⟩
     have HEt : Keep (E.take k = once (D.take (k0 + c))) := ⟨hEt⟩
     have HEd : Keep (∀ i, k0 + d ≤ i → E[i]? = D[i]?) := ⟨hEd⟩
     have HEb : Keep (Blk wr g 36 (flatH E).toArray) := ⟨hEb⟩
     have HEB : Keep (∀ B, B ≤ g → Below B w wr) := ⟨hEB⟩
     have hdn : d + 1 ≤ n - k0 := by omega
     clear hcd hEl hEt hEd hEb hEB
     have g1 : (c : Int) - 1 = (d : Int) := by have := HCD.out; omega
     have g2 : IntKind.i64.wrap (d : Int) = (d : Int) := by rw [IntKind.wrap_i64]; omega
     have g3 : (d : Int) < ((n - k0 : Nat) : Int) := by omega
     have gkn : (k : Int) < (n : Int) := by omega
     obtain ⟨r, hr⟩ : ∃ r, Keep (n - k0 = r) := ⟨_, ⟨rfl⟩⟩
     rw [hr.out] at g3 hc hdn ⊢
     by_cases hcl : c < r
     ·have m1 : k0 + c < D.length := by have := hr.out; rw [HD.out]; omega
      have m2 : k0 + d < D.length := by have := hr.out; rw [HD.out]; omega
      have g4 : (c : Int) < (r : Int) := by omega
      have hneq := run_neqL D[k0 + c] D[k0 + d]
      have cA : wr.drew.rangeAt g (k0 * 32 + c * 32) (encH D[k0 + c]) := by
       rw [← Nat.add_mul]; exact rangeAt_drew (blk_range_of HEb.out (k0 + c) m1 (HEd.out _ (by have := HCD.out; omega)))
      have cB : wr.drew.rangeAt g (k0 * 32 + d * 32) (encH D[k0 + d]) := by
       rw [← Nat.add_mul]; exact rangeAt_drew (blk_range_of HEb.out (k0 + d) m2 (HEd.out _ (Nat.le_refl _)))
      have hi1 := Try.size36L D[k0 + c]
      have hi2 := Try.size36L D[k0 + d]
      obtain ⟨x, hx⟩ : ∃ x, Keep (x = D[k0 + c]) := ⟨_, ⟨rfl⟩⟩
      obtain ⟨T, hT⟩ : ∃ T, Keep (T = !decide (D[k0 + c] = D[k0 + d])) := ⟨_, ⟨rfl⟩⟩
      rw [← hT.out] at hneq
      have HT0 : Keep (T = false → once (D.take (k0 + (c + 1))) = once (D.take (k0 + c))) := ⟨fun h => by
       have h1 := hT.out; rw [h] at h1
       have h3 := HCD.out
       subst h3
       have := once_take D (k0 + d) (by omega)
       have h2 : D[k0 + d + 1] = D[k0 + d] := of_decide_eq_true ((Bool.not_eq_false' _).mp h1.symm)
       rw [show k0 + (d + 1 + 1) = k0 + d + 2 by omega, this, if_pos h2.symm]
       rfl⟩
      have HT1 : Keep (T = true → once (D.take (k0 + (c + 1))) = once (D.take (k0 + c)) ++ [x]) := ⟨fun h => by
       have h1 := hT.out; rw [h] at h1
       have h3 := HCD.out
       subst h3
       have := once_take D (k0 + d) (by omega)
       have h2 : ¬ D[k0 + d + 1] = D[k0 + d] := of_decide_eq_false ((Bool.not_eq_true' _).mp h1.symm)
       rw [show k0 + (d + 1 + 1) = k0 + d + 2 by omega, this, if_neg (fun e => h2 e.symm), hx.out]
       rfl⟩
      have HX : Keep (E[k0 + c]? = some x) := ⟨by rw [HEd.out _ (by have := HCD.out; omega), List.getElem?_eq_getElem m1, hx.out]⟩
      rw [← hx.out] at hneq cA hi1
      clear hT hx
      obtain ⟨CA, hCA⟩ : ∃ CA, Keep (encH x = CA) := ⟨_, ⟨rfl⟩⟩
      rw [hCA.out] at hneq cA hi1
      generalize encH D[k0 + d] = CB at *
      have hrn : r ≤ n := by have := hr.out; omega
      clear m1 m2
      go_wp2
      refine wp_region_held_drew (S := fun w' => w'.rangeAt g (k0 * 32 + c * 32) CA ∧ w'.rangeAt g (k0 * 32 + d * 32) CB) (by kernel_rfl) ⟨cA, cB⟩ (fun hHeld => ?_)
      refine tkS (i := 0) (oi := ⟨some 35, Op.move (Operand.tmp 4), 37, _, _, none⟩) (v := Value.slice (some ⟨g, k0 * 32, none⟩) r r) rfl (Or.inl ⟨by rfl, fun w hS => by go_simp⟩) hHeld ?_
      refine tkS (i := 1) (oi := ⟨some 36, Op.move (Operand.tmp 5), 3, _, _, none⟩) (v := .int .i64 (c : Int)) rfl (Or.inl ⟨by rfl, fun w hS => by go_simp⟩) hHeld ?_
      refine tkS (i := 2) (oi := ⟨some 37, Op.indexAddr 37 (Operand.tmp 35) (Operand.tmp 36), 0, _, _, none⟩) (v := .pointer (some ⟨g, k0 * 32 + c * 32, none⟩)) rfl (Or.inl ⟨by rfl, fun w hS => by go_simp⟩) hHeld ?_
      refine tkS (i := 3) (oi := ⟨some 38, Op.load 36 (Operand.tmp 37), 36, _, _, none⟩) (v := .agg (CA).toArray) rfl (yieldsIf_load_mid (by rfl) 36 (Operand.tmp 37) rfl g (k0 * 32 + c * 32) rfl CA _ (fun w hS => hS.1) hu rfl hi1) hHeld ?_
      refine tkS (i := 4) (oi := ⟨some 39, Op.move (Operand.tmp 4), 37, _, _, none⟩) (v := Value.slice (some ⟨g, k0 * 32, none⟩) r r) rfl (Or.inl ⟨by rfl, fun w hS => by go_simp⟩) hHeld ?_
      refine tkS (i := 5) (oi := ⟨some 40, Op.move (Operand.tmp 5), 3, _, _, none⟩) (v := .int .i64 (c : Int)) rfl (Or.inl ⟨by rfl, fun w hS => by go_simp⟩) hHeld ?_
      refine tkS (i := 6) (oi := ⟨some 41, Op.binOp BinOp.sub 3 (Operand.tmp 40) (Operand.const (Value.int IntKind.i64 1)) 3, 3, _, _, none⟩) (v := .int .i64 (d : Int)) rfl (Or.inl ⟨by rfl, fun w hS => by go_simp⟩) hHeld ?_
      refine tkS (i := 7) (oi := ⟨some 42, Op.indexAddr 37 (Operand.tmp 39) (Operand.tmp 41), 0, _, _, none⟩) (v := .pointer (some ⟨g, k0 * 32 + d * 32, none⟩)) rfl (Or.inl ⟨by rfl, fun w hS => by go_simp⟩) hHeld ?_
      refine tkS (i := 8) (oi := ⟨some 43, Op.load 36 (Operand.tmp 42), 36, _, _, none⟩) (v := .agg (CB).toArray) rfl (yieldsIf_load_mid (by rfl) 36 (Operand.tmp 42) rfl g (k0 * 32 + d * 32) rfl CB _ (fun w hS => hS.2) hu rfl hi2) hHeld ?_
      refine tkS (i := 9) (oi := ⟨some 44, Op.binOp BinOp.neq 36 (Operand.tmp 38) (Operand.tmp 43) 36, 4, _, _, none⟩) (v := .bool T) rfl (Or.inl ⟨by rfl, fun w hS => by go_simp⟩) hHeld ?_
      refine wpAnyH_done (by kernel_rfl) ?_ _
      cases T with
      | false =>
       have HT2 : Keep (once (D.take (k0 + (c + 1))) = once (D.take (k0 + c))) := ⟨HT0.out rfl⟩
       clear HT0 HT1
       go_wp2
       go_roundw
       case rel => exact ⟨k, c + 1, c, E, rfl, by omega, hk1', by have := HCD.out; omega, rfl, by go_num, HEl.out, by rw [HT2.out]; exact HEt.out, fun i hi => HEd.out i (by have := HCD.out; omega), HEb.out, fun B hB => (HEB.out B hB).drew⟩
       case measure => simp [intOf]; omega
      | true =>
       have HT2 : Keep (once (D.take (k0 + (c + 1))) = once (D.take (k0 + c)) ++ [x]) := ⟨HT1.out rfl⟩
       clear HT0 HT1
       have HBW : Keep (Blk wr.drew g 36 (flatH E).toArray) := HEb
       have cA2 : wr.drew.rangeAt g (k0 * 32 + c * 32) CA := cA
       go_wp2_with (first | (refine wpList_load_mid rfl 36 (.tmp 49) rfl g (k0 * 32 + c * 32) rfl CA (.array 32 5) cA2 hu rfl hi1 ?_) | (refine wpList_storeH rfl (.tmp 51) (.tmp 50) rfl g k x E rfl (by rw [hCA.out]; rfl) HBW.out (by rw [HEl.out]; omega) ?_))
       have HBn : Keep (Blk (wr.drew.setRow g (flatH (E.set k x)).toArray) g 36 (flatH (E.set k x)).toArray) := ⟨HBW.out.setRow _⟩
       have HBB : Keep (∀ B, B ≤ g → Below B w (wr.drew.setRow g (flatH (E.set k x)).toArray)) := ⟨fun B hB => below_setRow (HEB.out B hB).drew hB _⟩
       refine ⟨⟨k + 1, c + 1, c, E.set k x, rfl, by omega, by omega, by have := HCD.out; omega, by go_num, by go_num, by rw [List.length_set]; exact HEl.out, ?_, ?_, HBn.out, HBB.out⟩, by simp [intOf]; omega⟩
       ·rw [HT2.out, ← HEt.out, take_setH E k x (by rw [HEl.out]; omega)]
       ·intro i hi
        rw [List.getElem?_set_ne (by have := HCD.out; omega)]
        exact HEd.out i (by have := HCD.out; omega)
     ·have hce : c = r := by omega
      have HFin : Keep (E.take k = once D) := ⟨by
       rw [HEt.out, List.take_of_length_le (by have := hr.out; rw [HD.out]; omega)]⟩
      have g4 : ¬ ((c : Int) < (r : Int)) := by omega
      have hkn : k < n := by have := hr.out; omega
      have g5 : (k : Int) ≤ (n : Int) := by omega
      have g6 : ¬ (n - k = 0) := by omega
      have HBn : Keep (Blk (wr.setRow g (flatH (E.take k ++ List.replicate (n - k) default)).toArray) g 36 (flatH (E.take k ++ List.replicate (n - k) default)).toArray) := ⟨HEb.out.setRow _⟩
      have HBB : Keep (∀ B, B ≤ g → Below B w (wr.setRow g (flatH (E.take k ++ List.replicate (n - k) default)).toArray)) := ⟨fun B hB => below_setRow (HEB.out B hB) hB _⟩
      have hlk : E.length = k + (n - k) := by rw [HEl.out]; omega
      have HLK : Keep (E.length = k + (n - k)) := ⟨hlk⟩
      clear hlk
      go_wp2_with (refine wpList_clearH rfl (.tmp 56) rfl g k (n - k) (n - k) E rfl HEb.out HLK.out (by omega) ?_)
      go_ret
      have hlt2 : (E.take k).length = k := by rw [List.length_take, HEl.out]; omega
      refine ⟨k, E.take k ++ List.replicate (n - k) default, rfl, by omega, by rw [List.length_append, hlt2, List.length_replicate]; omega, ?_, HBn.out, HBB.out⟩
      rw [List.take_append, hlt2, Nat.sub_self, List.take_zero, List.append_nil, List.take_of_length_le (by omega), HFin.out]
  ·obtain rfl : k0 = n := by omega
   have HBB : Keep (∀ B, B ≤ g → Below B w (w.drewN q)) := ⟨fun B _ => grown_below' w q B⟩
   go_wp2
   go_ret
   refine ⟨k0, D, rfl, Nat.le_refl _, HD.out, ?_, H.out, HBB.out⟩
   have h := HON.out
   rw [List.take_of_length_le (by rw [HD.out]; exact Nat.le_refl _)] at h
   rw [List.take_of_length_le (by rw [HD.out]; exact Nat.le_refl _), h]

/-- slices.Compact at hashes. -/
theorem compact_any (g n : Nat) (D : List Hs) (w : World) (h : Blk w g 36 (flatH D).toArray) (hD : D.length = n) (hn : n ≤ 4398046511104) : Calls Try.prog 90 #[.slice (some ⟨g, 0, none⟩) n n] w (CompPost g n D w) := by
 by_cases h2 : n < 2
 ·exact compact_short g n D w h hD h2
 ·exact compact_walk g n D w h hD (by omega) hn
end Go.Proofs.Ytogmdfhicbmplaa
namespace Go.Proofs.Ytogmdfhicbmplaa
open Go.RowKit Go.Sort

set_option maxRecDepth 8000 in
set_option maxHeartbeats 1000000 in
/-- sha.Sort. -/
theorem sort_any (v : Value) (L : List Hs) (w : World) (h : HRow w v L) (hn : L.length ≤ 4398046511104) : Calls Try.prog 77 #[v] w (SortPost L w) := by
 obtain ⟨a, c, hv⟩ := h.form
 obtain ⟨n, hL⟩ : ∃ n, Keep (L.length = n) := ⟨_, ⟨rfl⟩⟩
 have hn' : n ≤ 4398046511104 := by rw [← hL.out]; exact hn
 obtain ⟨M, hM⟩ : ∃ M, Keep (madeCells (bytesA 32 fun _ => 0) (n * 32) = M) := ⟨_, ⟨rfl⟩⟩
 have HMS : Keep (M.size = L.length * 32) := ⟨by rw [← hM.out, size_madeCells, hL.out]⟩
 have HV : Keep (v = .slice a n c) := ⟨by rw [← hL.out]; exact hv⟩
 have HR : Keep (HRow (w.alloc (.cells M 36)) v L) := ⟨h.below (below_new w _)⟩
 have HB0 : Keep (Blk (w.alloc (.cells M 36)) w.heap.size 36 M) := ⟨Blk.new _ _ _⟩
 have HBel : Keep (Below w.heap.size w (w.alloc (.cells M 36))) := ⟨below_new w _⟩
 rw [HV.out]
 clear h hv hn
 go_enter Try.func77, Try.ntmps77
 go_wp2_with (first | (refine wpList_makeH rfl (.tmp 5) (.tmp 5) rfl n hn' rfl rfl ?_; rw [hM.out]) | (refine wpList_copyH rfl (.tmp 7) (.tmp 8) rfl w.heap.size n v L M (by rw [hL.out]; rfl) (by rw [HV.out]; rfl) HB0.out HMS.out HR.out ?_))
 have HB1 : Keep (Blk ((w.alloc (.cells M 36)).setRow w.heap.size (flatH L).toArray) w.heap.size 36 (flatH L).toArray) := ⟨HB0.out.setRow _⟩
 have HBel1 : Keep (Below w.heap.size w ((w.alloc (.cells M 36)).setRow w.heap.size (flatH L).toArray)) := ⟨below_setRow HBel.out (Nat.le_refl _) _⟩
 generalize (w.alloc (.cells M 36)).setRow w.heap.size (flatH L).toArray = w1 at *
 have hs := sortFunc_any w.heap.size n L w1 HB1.out (by rw [hL.out]; exact hn')
 rw [hL.out] at hs
 go_wp2_with fail
 refine hs.mono ?_
 rintro e w2 ⟨rfl, E, hEl, hEs, hEm, hEb, hEB⟩
 have HE : Keep (E.length = L.length ∧ E.Pairwise (fun x y => ¬ Lt y x) ∧ (∀ x, x ∈ E ↔ x ∈ L)) := ⟨by rw [hEl, hL.out], hEs, hEm⟩
 have HEb : Keep (Blk w2 w.heap.size 36 (flatH E).toArray) := ⟨hEb⟩
 have HBel2 : Keep (Below w.heap.size w w2) := ⟨HBel1.out.trans (hEB _ (Nat.le_refl _))⟩
 clear hEl hEs hEm hEb hEB hs
 go_wp2_with fail
 refine (compact_any w.heap.size n E w2 HEb.out (by rw [HE.out.1, hL.out]) hn').mono ?_
 rintro e w3 ⟨k, F, rfl, hkn, hFl, hFt, hFb, hFB⟩
 have HK : Keep (SortPost L w (.returned (.slice (some ⟨w.heap.size, 0, none⟩) k n)) w3) := ⟨by
  have hk : (once E).length = k := by rw [← hFt, List.length_take, hFl]; omega
  refine ⟨_, once E, rfl, ?_, once_rising E HE.out.2.1, fun x => by rw [once_mem, HE.out.2.2], by have := once_length E; rw [HE.out.1] at this; exact this, HBel2.out.trans (hFB _ (Nat.le_refl _))⟩
  refine ⟨by rw [flatH_len], .inr ⟨w.heap.size, n, (flatH F).toArray, by rw [hk], Nat.le_refl _, hFb, by rw [hk]; exact hkn, by unfold maxLen; omega, by rw [flatH_arr_size, hFl], ?_⟩⟩
  rw [hk, ← hFt]
  exact flatH_take F k⟩
 clear hkn hFl hFt hFb hFB
 go_wp2
 go_ret
 exact HK.out
end Go.Proofs.Ytogmdfhicbmplaa
namespace Go.Proofs.Ytogmdfhicbmplaa
open Go.RowKit
set_option linter.unusedSimpArgs false
set_option linter.unusedVariables false

theorem Try.in50 (w : World) (vs : Array Value) : (callFunc 50 vs).run Try.prog w = .ok (.enter 50 vs) w := by kernel_rfl
theorem Try.in77 (w : World) (vs : Array Value) : (callFunc 77 vs).run Try.prog w = .ok (.enter 77 vs) w := by kernel_rfl
/-- The ones that are missing, of some vertices that wait. -/
def misP (g : DG) (x : Hs) : Bool := !hasB g.held x && !hasB g.wait x
def misL (g : DG) (l : List VX) : List Hs := (l.flatMap (·.ps)).filter (misP g)
theorem misL_app (g : DG) (l : List VX) (v : VX) : misL g (l ++ [v]) = misL g l ++ v.ps.filter (misP g) := by unfold misL; rw [List.flatMap_append, List.filter_append]; simp
theorem fld_ps (c : Nat → Int) (k : Int) (a : Option Addr) (n m : Nat) (w : World) : (Instr.field 39 (.agg (vtx c k (.slice a n m))) 2).run Try.prog w = .ok (.slice a n m) w := by kernel_rfl
set_option maxRecDepth 8000 in
set_option maxHeartbeats 1000000 in
theorem missing_any (B0 d : Nat) (g : DG) (w : World) (hD : DS B0 w d g) : Calls Try.prog 50 #[ptr d] w fun e w' => ∃ v' L', e = .returned v' ∧ Fresh w w' v' L' ∧ L'.Pairwise Lt ∧ (∀ x, x ∈ L' ↔ x ∈ misL g g.wait) ∧ L'.length ≤ 4096 := by
 have HD := Keep.mk hD
 obtain ⟨qa, qc, hqv⟩ := hD.at'.oq.sl
 have Hqv := Keep.mk hqv
 clear hD hqv
 go_enter Try.func50, Try.ntmps50
 refine wp_seq_k fun K1 hK1 => rgn ?_
 refine VlS (.slice none 0 0) ?_
 refine WL.nil (hK1 _ _ ?_)
 refine wp_seq_k fun K2 hK2 => rgn ?_
 refine VlS (.slice none 0 0) ?_
 refine WL.nil (hK2 _ _ ?_)
 refine wp_seq_k fun K3 hK3 => ?_
 refine wp_seq_k fun K4 hK4 => ?_
 have c5 : w.cell? ⟨d, 5, none⟩ = some (.slice qa g.queue.length qc) := by have h := HD.out.at'.blk.c 5 (by rfl : (dgA g)[5]? = some g.qv); rw [Hqv.out] at h; exact h
 refine rgn ?_
 refine VlS (.pointer (some ⟨d, 0, none⟩)) ?_
 refine VlS (.pointer (some ⟨d, 0, none⟩)) ?_
 refine VlS (.pointer (some ⟨d, 5, none⟩)) ?_
 refine VlS (.slice qa g.queue.length qc) ?_
 refine VlS (.int .i64 (g.queue.length : Int)) ?_
 refine VlS (.int .i64 0) ?_
 refine WL.nil (hK4 _ _ ?_)
 refine wp_block ?_
 refine wp_loop (fun ac wr => ∃ (t : Nat) (u3 u5 u7 u14 u15 u16 u17 u18 u19 u20 u21 u22 u23 u24 u25 u26 u27 u28 u29 u30 u31 u32 u33 u34 u35 u36 u37 u38 u39 u40 u41 u42 u43 u44 : Value), ac = { tmps := #[.pointer (some ⟨d, 0, none⟩), undef, .slice none 0 0, u3, undef, u5, undef, u7, .pointer (some ⟨d, 0, none⟩), .pointer (some ⟨d, 0, none⟩), .pointer (some ⟨d, 5, none⟩), .slice qa g.queue.length qc, .int .i64 (g.queue.length : Int), .int .i64 (t : Int), u14, u15, u16, u17, u18, u19, u20, u21, u22, u23, u24, u25, u26, u27, u28, u29, u30, u31, u32, u33, u34, u35, u36, u37, u38, u39, u40, u41, u42, u43, u44, undef, undef], defers := [] } ∧ t ≤ g.queue.length ∧ Below w.heap.size w wr ∧ OwnH wr u3 (misL g (g.wait.take t)) ∧ (∀ i, u3.ownBlock = some i → w.heap.size ≤ i) ∧ (misL g (g.wait.take t)).length ≤ 64 * t) (fun a _ => g.queue.length - (intOf (a.tmps.getD 13 undef)).toNat) ⟨0, .slice none 0 0, undef, undef, undef, undef, undef, undef, undef, undef, undef, undef, undef, undef, undef, undef, undef, undef, undef, undef, undef, undef, undef, undef, undef, undef, undef, undef, undef, undef, undef, undef, undef, undef, undef, rfl, by omega, Below.refl _ _, ownH_nil _, (fun i hi => by cases hi), Nat.le_refl _⟩ ?_
 rintro ac wr ⟨t, u3, u5, u7, u14, u15, u16, u17, u18, u19, u20, u21, u22, u23, u24, u25, u26, u27, u28, u29, u30, u31, u32, u33, u34, u35, u36, u37, u38, u39, u40, u41, u42, u43, u44, rfl, ht, hB, hO, hN, hC⟩
 have JB := Keep.mk hB
 have JO := Keep.mk hO
 have JN := Keep.mk hN
 have JC := Keep.mk hC
 clear hB hO hN hC
 have HDr := Keep.mk (HD.out.below JB.out)
 by_cases htl : t < g.queue.length
 ·have htl' : (t : Int) < (g.queue.length : Int) := by omega
  have hwt : IntKind.i64.wrap ((t : Int) + 1) = ((t + 1 : Nat) : Int) := by rw [IntKind.wrap_i64]; have := HD.out.di.qlen; have := HD.out.di.wl; omega
  have htw : t < g.wait.length := by rw [← HD.out.di.qlen]; exact htl
  obtain ⟨v, hv⟩ : ∃ v, Keep (v = g.wait[t]) := ⟨_, ⟨rfl⟩⟩
  have hvm : v ∈ g.wait := by rw [hv.out]; exact List.getElem_mem htw
  obtain ⟨gp, op, hpa, -, -, hrg⟩ := (Hqv.out ▸ HDr.out.at'.oq.row : HRow wr (.slice qa g.queue.length qc) g.queue).at (by omega)
  have hel := rangeAt_elem hrg t htl
  have hqi : g.queue[t] = v.id := by rw [hv.out]; simp [HD.out.di.q]
  rw [hqi] at hel
  have Hel := Keep.mk hel
  have HF := Keep.mk (find_mem HD.out.di.wn hvm)
  have HVl := Keep.mk (chk_ok (HD.out.di.wc v hvm)).1
  subst hpa
  clear hel hrg hqi
  refine wp_seq_k fun K5 hK5 => rgn ?_
  refine VlS (.bool true) ?_
  refine WL.nil (hK5 _ _ ?_)
  refine wp_seq_k fun K6 hK6 => ?_
  refine wp_cond_true rfl ?_
  refine wp_skip ?_
  refine hK6 _ _ ?_
  refine wp_seq_k fun K7 hK7 => ?_
  refine wp_block ?_
  refine wp_seq_k fun K8 hK8 => rgn ?_
  refine VlS (.pointer (some ⟨gp, op + t * 32, none⟩)) ?_
  refine WL.mid (by kernel_rfl) 36 (.tmp 15) rfl gp (op + t * 32) rfl (encH v.id) _ Hel.out Try.underlying36 rfl (Try.size36L v.id) ?_
  rw [enc_load]
  simp only [Act.put, pqA, pqB, pqC]
  refine WL.new (by kernel_rfl) 36 rfl _ Try.new36 ?_
  simp only [Act.put, pqA, pqB, pqC]
  refine WL.storeR (by kernel_rfl) 36 (.tmp 5) (.tmp 16) rfl wr.heap.size (bytesA 32 v.id.f) rfl rfl 36 (bytesA 32 fun _ => 0) (Blk.new wr 36 _) (Try.size36B _) (bytesA_sizes _ _ _) (bytesA_one _ _) ?_
  have HX2 := Keep.mk ((Blk.new wr 36 (bytesA 32 fun _ => 0)).setRow (bytesA 32 v.id.f))
  have B2 : Keep (Below wr.heap.size wr ((wr.alloc (.cells (bytesA 32 fun _ => 0) 36)).setRow wr.heap.size (bytesA 32 v.id.f))) := ⟨below_setRow (below_new wr _) (Nat.le_refl _) _⟩
  generalize (wr.alloc (.cells (bytesA 32 fun _ => 0) 36)).setRow wr.heap.size (bytesA 32 v.id.f) = w2 at *
  have HD2 := Keep.mk (HDr.out.below B2.out)
  have JB2 : Keep (Below w.heap.size w w2) := ⟨belowT JB.out B2.out⟩
  have JO2 := Keep.mk (JO.out.below B2.out)
  have Nb : Keep (∀ k, u3.ownBlock = some k → k ≠ wr.heap.size) := ⟨fun k hk e => by have := JO.out.lt k hk; omega⟩
  have Hlo : Keep (w.heap.size ≤ wr.heap.size) := ⟨JB.out.size⟩
  generalize wr.heap.size = bb at *
  clear Hel
  simp only [Act.put]
  refine WL.nil (hK8 _ _ ?_)
  refine wp_seq_k fun K9 hK9 => ?_
  obtain ⟨es, ck, c0, k0, pa, pn, pm, hes, hl1, hl2, hcs⟩ := look1 HD.out.at'.wait v.id
  have HC : Keep (HRow w (.slice pa pn pm) v.ps) := ⟨hcs.elim (fun h => absurd (HF.out.symm.trans h.1) (by simp)) fun ⟨v', h, h2, h3, h4, _⟩ => by cases Option.some.inj (HF.out.symm.trans h); exact h4⟩
  have hpn : pn = v.ps.length := by obtain ⟨a', c', e⟩ := HC.out.form; injection e
  subst hpn
  obtain ⟨vv, hvv⟩ : ∃ a : Array Value, Keep (a = vtx c0 k0 (.slice pa v.ps.length pm)) := ⟨_, ⟨rfl⟩⟩
  rw [← hvv.out] at hl2
  have H1 := Keep.mk hl2
  have hS0 : Keep ((fun wx => wx.cell? ⟨d, 4, none⟩ = some (.map (some g.wb)) ∧ wx.rangeAt bb 0 (bytesA 32 v.id.f).toList ∧ wx.heap[g.wb]? = some (.map es ck)) w2.drew) := ⟨⟨HD2.out.at'.blk.drew.c 4 rfl, blk_rng HX2.out.drew, by show w2.heap[g.wb]? = _; rw [JB2.out.block _ (Array.getElem?_eq_some_iff.1 hes).1]; exact hes⟩⟩
  clear hl1 hl2 hcs hes
  refine wp_region_held_drew (S := fun wx => wx.cell? ⟨d, 4, none⟩ = some (.map (some g.wb)) ∧ wx.rangeAt bb 0 (bytesA 32 v.id.f).toList ∧ wx.heap[g.wb]? = some (.map es ck)) (by kernel_rfl) (hS0.out) (fun hHeld => ?_)
  refine tkS (i := 0) (oi := ⟨some 17, Op.move (Operand.tmp 0), 27, _, _, none⟩) (v := .pointer (some ⟨d, 0, none⟩)) rfl (Or.inl ⟨by rfl, fun w hS => by obtain ⟨hS1, hS2, hS3⟩ := hS; go_simp⟩) hHeld ?_
  refine tkS (i := 1) (oi := ⟨some 18, Op.nilCheck (Operand.tmp 17), 0, _, _, none⟩) (v := .pointer (some ⟨d, 0, none⟩)) rfl (Or.inl ⟨by rfl, fun w hS => by obtain ⟨hS1, hS2, hS3⟩ := hS; go_simp⟩) hHeld ?_
  refine tkS (i := 2) (oi := ⟨some 19, Op.fieldAddr 77 (Operand.tmp 18) 4, 0, _, _, none⟩) (v := .pointer (some ⟨d, 4, none⟩)) rfl (Or.inl ⟨by rfl, fun w hS => by obtain ⟨hS1, hS2, hS3⟩ := hS; go_simp⟩) hHeld ?_
  refine tkS (i := 3) (oi := ⟨some 20, Op.load 75 (Operand.tmp 19), 75, _, _, none⟩) (v := .map (some g.wb)) rfl (Or.inl ⟨by rfl, fun w hS => by obtain ⟨hS1, hS2, hS3⟩ := hS; go_simp⟩) hHeld ?_
  refine tkS (i := 4) (oi := ⟨some 21, Op.load 36 (Operand.tmp 5), 36, _, _, none⟩) (v := .agg (bytesA 32 v.id.f)) rfl (yieldsIf_ld (by rfl) (Operand.tmp 5) 36 rfl bb 0 rfl (bytesA 32 v.id.f) _ Try.underlying36 rfl (size36A _) fun w hS => hS.2.1) hHeld ?_
  refine tkS (i := 5) (oi := ⟨some 22, Op.lookup 75 (Operand.tmp 20) (Operand.tmp 21) false, 39, _, _, none⟩) (v := .agg vv) rfl (yieldsIf_look (by rfl) (Operand.tmp 20) (Operand.tmp 21) false rfl g.wb v.id.f rfl rfl _ fun wx hS => H1.out wx hS.2.2) hHeld ?_
  refine tkS (i := 6) (oi := ⟨some 23, Op.field 39 (Operand.tmp 22) 2, 37, _, _, none⟩) (v := .slice pa v.ps.length pm) rfl (yieldsIf_fld (by rfl) (Operand.tmp 22) 39 2 rfl _ _ rfl fun w => by rw [hvv.out]; exact fld_ps _ _ _ _ _ w) hHeld ?_
  refine tkS (i := 7) (oi := ⟨some 24, Op.call { callee := Callee.builtin Builtin.len, args := #[Operand.tmp 23], argTypes := #[37] }, 3, _, _, none⟩) (v := .int .i64 (v.ps.length : Int)) rfl (Or.inl ⟨by rfl, fun w hS => by obtain ⟨hS1, hS2, hS3⟩ := hS; go_simp⟩) hHeld ?_
  refine tkS (i := 8) (oi := ⟨some 25, Op.move (Operand.const (Value.int IntKind.i64 0)), 3, _, _, none⟩) (v := .int .i64 0) rfl (Or.inl ⟨by rfl, fun w hS => by obtain ⟨hS1, hS2, hS3⟩ := hS; go_simp⟩) hHeld ?_
  refine wpAnyH_done (by kernel_rfl) ?_ _
  refine hK9 _ _ ?_
  refine wp_block ?_
  have JB3 : Keep (Below w.heap.size w w2.drew) := ⟨JB2.out.drew⟩
  have JO3 := Keep.mk (JO2.out.below (Below.refl _ w2).drew)
  clear HD2 JB2 JO2 HX2 B2
  generalize w2.drew = w3 at *
  refine wp_loop (fun ac wi => ∃ (k : Nat) (z3 z7 z26 z27 z28 z29 z30 z31 z32 z33 z34 z35 z36 z37 z38 z39 z40 z41 z42 z43 : Value), ac = { tmps := #[.pointer (some ⟨d, 0, none⟩), undef, .slice none 0 0, z3, undef, .pointer (some ⟨bb, 0, none⟩), undef, z7, .pointer (some ⟨d, 0, none⟩), .pointer (some ⟨d, 0, none⟩), .pointer (some ⟨d, 5, none⟩), .slice (some ⟨gp, op, none⟩) g.queue.length qc, .int .i64 (g.queue.length : Int), .int .i64 (t : Int), .bool true, .pointer (some ⟨gp, op + t * 32, none⟩), .agg (bytesA 32 v.id.f), .pointer (some ⟨d, 0, none⟩), .pointer (some ⟨d, 0, none⟩), .pointer (some ⟨d, 4, none⟩), .map (some g.wb), .agg (bytesA 32 v.id.f), .agg vv, .slice pa v.ps.length pm, .int .i64 (v.ps.length : Int), .int .i64 (k : Int), z26, z27, z28, z29, z30, z31, z32, z33, z34, z35, z36, z37, z38, z39, z40, z41, z42, z43, u44, undef, undef], defers := [] } ∧ k ≤ v.ps.length ∧ Below w.heap.size w wi ∧ OwnH wi z3 (misL g (g.wait.take t) ++ (v.ps.take k).filter (misP g)) ∧ (∀ i, z3.ownBlock = some i → w.heap.size ≤ i) ∧ (misL g (g.wait.take t) ++ (v.ps.take k).filter (misP g)).length ≤ 64 * t + k) (fun a _ => v.ps.length - (intOf (a.tmps.getD 25 undef)).toNat) ⟨0, u3, u7, u26, u27, u28, u29, u30, u31, u32, u33, u34, u35, u36, u37, u38, u39, u40, u41, u42, u43, rfl, by omega, JB3.out, by rw [List.take_zero, List.filter_nil, List.append_nil]; exact JO3.out, JN.out, by rw [List.take_zero, List.filter_nil, List.append_nil]; exact JC.out⟩ ?_
  rintro ac wi ⟨k, z3, z7, z26, z27, z28, z29, z30, z31, z32, z33, z34, z35, z36, z37, z38, z39, z40, z41, z42, z43, rfl, hk, hB, hO, hN, hC⟩
  have KB := Keep.mk hB
  have KO := Keep.mk hO
  have KN := Keep.mk hN
  have KC := Keep.mk hC
  clear hB hO hN hC
  have HDi := Keep.mk (HD.out.below KB.out)
  by_cases hkl : k < v.ps.length
  ·have hkl' : (k : Int) < (v.ps.length : Int) := by omega
   have hwk : IntKind.i64.wrap ((k : Int) + 1) = ((k + 1 : Nat) : Int) := by rw [IntKind.wrap_i64]; have := HVl.out; omega
   obtain ⟨gq, oq, hqa, -, -, hrq⟩ := (HC.out.below KB.out).at (by omega)
   have hel := rangeAt_elem hrq k hkl
   obtain ⟨y, hy⟩ : ∃ y, Keep (y = v.ps[k]) := ⟨_, ⟨rfl⟩⟩
   rw [← hy.out] at hel
   have Hel := Keep.mk hel
   subst hqa
   clear hel hrq
   refine wp_seq_k fun K10 hK10 => rgn ?_
   refine VlS (.bool true) ?_
   refine WL.nil (hK10 _ _ ?_)
   refine wp_seq_k fun K11 hK11 => ?_
   refine wp_cond_true rfl ?_
   refine wp_skip ?_
   refine hK11 _ _ ?_
   refine wp_seq_k fun K12 hK12 => ?_
   refine wp_block ?_
   refine wp_seq_k fun K13 hK13 => rgn ?_
   refine VlS (.pointer (some ⟨gq, oq + k * 32, none⟩)) ?_
   refine WL.mid (by kernel_rfl) 36 (.tmp 27) rfl gq (oq + k * 32) rfl (encH y) _ Hel.out Try.underlying36 rfl (Try.size36L y) ?_
   rw [enc_load]
   simp only [Act.put, pqA, pqB, pqC]
   refine WL.new (by kernel_rfl) 36 rfl _ Try.new36 ?_
   simp only [Act.put, pqA, pqB, pqC]
   refine WL.storeR (by kernel_rfl) 36 (.tmp 7) (.tmp 28) rfl wi.heap.size (bytesA 32 y.f) rfl rfl 36 (bytesA 32 fun _ => 0) (Blk.new wi 36 _) (Try.size36B _) (bytesA_sizes _ _ _) (bytesA_one _ _) ?_
   have HY4 := Keep.mk ((Blk.new wi 36 (bytesA 32 fun _ => 0)).setRow (bytesA 32 y.f))
   have B4 : Keep (Below wi.heap.size wi ((wi.alloc (.cells (bytesA 32 fun _ => 0) 36)).setRow wi.heap.size (bytesA 32 y.f))) := ⟨below_setRow (below_new wi _) (Nat.le_refl _) _⟩
   generalize (wi.alloc (.cells (bytesA 32 fun _ => 0) 36)).setRow wi.heap.size (bytesA 32 y.f) = w4 at *
   have HD4 := Keep.mk (HDi.out.below B4.out)
   have KB4 : Keep (Below w.heap.size w w4) := ⟨belowT KB.out B4.out⟩
   have KO4 := Keep.mk (KO.out.below B4.out)
   generalize wi.heap.size = b7 at *
   clear Hel
   simp only [Act.put]
   refine WL.nil (hK13 _ _ ?_)
   refine wp_seq_k fun K14 hK14 => rgn ?_
   refine VlS (.pointer (some ⟨d, 0, none⟩)) ?_
   refine WL.row (by kernel_rfl) 36 (.tmp 7) rfl b7 rfl 36 (bytesA 32 y.f) _ HY4.out Try.underlying36 rfl (Try.size36B _) ?_
   simp only [Act.put, pqA, pqB, pqC]
   obtain ⟨b1, hb1⟩ : ∃ b, Keep (hasB g.held y = b) := ⟨_, ⟨rfl⟩⟩
   obtain ⟨b2, hb2⟩ : ∃ b, Keep (hasB g.wait y = b) := ⟨_, ⟨rfl⟩⟩
   have hhs := has_any d y _ g w4 HD4.out.at'
   rw [show (g.held.find? (isV y)).isSome = b1 from hb1.out] at hhs
   refine WL.callF (by kernel_rfl) 45 _ _ rfl Try.in45 #[ptr d, .agg (bytesA 32 y.f)] (by simp [Act.eval]) ?_
   refine (hhs).mono ?_
   rintro e w5 ⟨rfl, hz⟩
   refine ⟨_, rfl, ?_⟩
   clear hhs
   have HY5 := Keep.mk (HY4.out.below hz HY4.out.lt)
   have HD5 := Keep.mk (HD4.out.below hz)
   have KB5 : Keep (Below w.heap.size w w5) := ⟨belowT KB4.out hz⟩
   have KO5 := Keep.mk (KO4.out.below hz)
   clear hz HY4 HD4 KB4 KO4
   simp only [Act.put, pqA, pqB, pqC]
   by_cases h8_3 : b1 = true
   ·skip
    refine VlS (.bool false) ?_
    refine VlS (.bool false) ?_
    refine SkS ?_
    refine SkS ?_
    refine SkS ?_
    refine SkS ?_
    refine VlS (.bool false) ?_
    refine WL.nil (hK14 _ _ ?_)
    refine wp_cond_false rfl ?_
    refine wp_skip ?_
    refine hK12 _ _ ?_
    refine rgn ?_
    refine VlS (.int .i64 ((k + 1 : Nat) : Int)) ?_
    refine VlS (.int .i64 ((k + 1 : Nat) : Int)) ?_
    refine WL.nil ?_
    have hf : (v.ps.take (k + 1)).filter (misP g) = (v.ps.take k).filter (misP g) ++ (if misP g y = true then [y] else []) := by rw [List.take_succ_eq_append_getElem hkl, List.filter_append, ← hy.out]; congr 1; by_cases h : misP g y = true <;> simp [h]
    have hm : ¬ misP g y = true := by unfold misP; rw [hb1.out, hb2.out]; revert h8_3; (try revert h8_8); cases b1 <;> cases b2 <;> simp
    rw [if_neg hm, List.append_nil] at hf
    refine ⟨⟨k + 1, z3, .pointer (some ⟨b7, 0, none⟩), .bool true, .pointer (some ⟨gq, oq + k * 32, none⟩), .agg (bytesA 32 y.f), .pointer (some ⟨d, 0, none⟩), .agg (bytesA 32 y.f), .bool b1, .bool false, .bool false, undef, undef, undef, undef, .bool false, z39, z40, z41, z42, .int .i64 ((k + 1 : Nat) : Int), rfl, by omega, KB5.out, by rw [hf]; exact KO5.out, KN.out, by rw [hf]; have := KC.out; omega⟩, ?_⟩
    simp only [intOf]; show v.ps.length - (((k + 1 : Nat) : Int)).toNat < v.ps.length - ((k : Int)).toNat; omega
   ·skip
    refine VlS (.bool true) ?_
    refine VlS (.bool true) ?_
    refine VlS (.pointer (some ⟨d, 0, none⟩)) ?_
    refine WL.row (by kernel_rfl) 36 (.tmp 7) rfl b7 rfl 36 (bytesA 32 y.f) _ HY5.out Try.underlying36 rfl (Try.size36B _) ?_
    simp only [Act.put, pqA, pqB, pqC]
    have hws := waits_any d y _ g w5 HD5.out.at'
    rw [show (g.wait.find? (isV y)).isSome = b2 from hb2.out] at hws
    refine WL.callF (by kernel_rfl) 47 _ _ rfl Try.in47 #[ptr d, .agg (bytesA 32 y.f)] (by simp [Act.eval]) ?_
    refine (hws).mono ?_
    rintro e w6 ⟨rfl, hz⟩
    refine ⟨_, rfl, ?_⟩
    clear hws
    have HY6 := Keep.mk (HY5.out.below hz HY5.out.lt)
    have KB6 : Keep (Below w.heap.size w w6) := ⟨belowT KB5.out hz⟩
    have KO6 := Keep.mk (KO5.out.below hz)
    clear hz
    simp only [Act.put, pqA, pqB, pqC]
    by_cases h8_8 : b2 = true
    ·skip
     refine VlS (.bool false) ?_
     refine VlS (.bool false) ?_
     refine WL.nil (hK14 _ _ ?_)
     refine wp_cond_false rfl ?_
     refine wp_skip ?_
     refine hK12 _ _ ?_
     refine rgn ?_
     refine VlS (.int .i64 ((k + 1 : Nat) : Int)) ?_
     refine VlS (.int .i64 ((k + 1 : Nat) : Int)) ?_
     refine WL.nil ?_
     have hf : (v.ps.take (k + 1)).filter (misP g) = (v.ps.take k).filter (misP g) ++ (if misP g y = true then [y] else []) := by rw [List.take_succ_eq_append_getElem hkl, List.filter_append, ← hy.out]; congr 1; by_cases h : misP g y = true <;> simp [h]
     have hm : ¬ misP g y = true := by unfold misP; rw [hb1.out, hb2.out]; revert h8_3; (try revert h8_8); cases b1 <;> cases b2 <;> simp
     rw [if_neg hm, List.append_nil] at hf
     refine ⟨⟨k + 1, z3, .pointer (some ⟨b7, 0, none⟩), .bool true, .pointer (some ⟨gq, oq + k * 32, none⟩), .agg (bytesA 32 y.f), .pointer (some ⟨d, 0, none⟩), .agg (bytesA 32 y.f), .bool b1, .bool true, .bool true, .pointer (some ⟨d, 0, none⟩), .agg (bytesA 32 y.f), .bool b2, .bool false, .bool false, z39, z40, z41, z42, .int .i64 ((k + 1 : Nat) : Int), rfl, by omega, KB6.out, by rw [hf]; exact KO6.out, KN.out, by rw [hf]; have := KC.out; omega⟩, ?_⟩
     simp only [intOf]; show v.ps.length - (((k + 1 : Nat) : Int)).toNat < v.ps.length - ((k : Int)).toNat; omega
    ·skip
     refine VlS (.bool true) ?_
     refine VlS (.bool true) ?_
     refine WL.nil (hK14 _ _ ?_)
     refine wp_cond_true rfl ?_
     refine rgn ?_
     refine VlS (z3) ?_
     refine WL.row (by kernel_rfl) 36 (.tmp 7) rfl b7 rfl 36 (bytesA 32 y.f) _ HY6.out Try.underlying36 rfl (Try.size36B _) ?_
     simp only [Act.put, pqA, pqB, pqC]
     refine WL.bs (by kernel_rfl) 37 1 _ rfl #[(0, .agg (bytesA 32 y.f))] (by simp [Act.eval]) _ _ (bsH y w6) ?_
     have HGy := Keep.mk (Blk.new w6 36 (bytesA 32 y.f))
     have B7 := Keep.mk (below_new w6 (.cells (bytesA 32 y.f) 36))
     generalize w6.alloc (.cells (bytesA 32 y.f) 36) = w7 at *
     have KB7 : Keep (Below w.heap.size w w7) := ⟨belowT KB6.out B7.out⟩
     have KO7 := Keep.mk (KO6.out.below B7.out)
     generalize w6.heap.size = gy at *
     simp only [Act.put, pqA, pqB, pqC]
     refine WL.appH (by kernel_rfl) (.tmp 39) (.tmp 41) rfl _ _ gy y rfl rfl KO7.out HGy.out (by have := KC.out; have := HD.out.di.qlen; have := HD.out.di.wl; have := HVl.out; omega) fun v8 w8 h1 h2 h3 => ?_
     have KO8 := Keep.mk h1
     have G8 := Keep.mk h2
     have M8 := Keep.mk h3
     clear h1 h2 h3
     simp only [Act.put, pqA, pqB, pqC]
     refine VlS (v8) ?_
     refine WL.nil (hK12 _ _ ?_)
     refine rgn ?_
     refine VlS (.int .i64 ((k + 1 : Nat) : Int)) ?_
     refine VlS (.int .i64 ((k + 1 : Nat) : Int)) ?_
     refine WL.nil ?_
     have hf : (v.ps.take (k + 1)).filter (misP g) = (v.ps.take k).filter (misP g) ++ (if misP g y = true then [y] else []) := by rw [List.take_succ_eq_append_getElem hkl, List.filter_append, ← hy.out]; congr 1; by_cases h : misP g y = true <;> simp [h]
     have hm : misP g y = true := by unfold misP; rw [hb1.out, hb2.out]; revert h8_3; (try revert h8_8); cases b1 <;> cases b2 <;> simp
     rw [if_pos hm] at hf
     refine ⟨⟨k + 1, v8, .pointer (some ⟨b7, 0, none⟩), .bool true, .pointer (some ⟨gq, oq + k * 32, none⟩), .agg (bytesA 32 y.f), .pointer (some ⟨d, 0, none⟩), .agg (bytesA 32 y.f), .bool b1, .bool true, .bool true, .pointer (some ⟨d, 0, none⟩), .agg (bytesA 32 y.f), .bool b2, .bool true, .bool true, z3, .agg (bytesA 32 y.f), .slice (some ⟨gy, 0, none⟩) 1 1, v8, .int .i64 ((k + 1 : Nat) : Int), rfl, by omega, KB7.out.trans (G8.out.to_below (fun i hi e => by have := KN.out i e; omega) KB7.out.size), by rw [hf, ← List.append_assoc]; exact KO8.out, fun i hi => M8.out.elim (fun e => KN.out i (by have e' : v8.ownBlock = z3.ownBlock := e; rw [← e']; exact hi)) fun ⟨q, e, hq⟩ => by rw [hi] at e; have := Option.some.inj e; have := KB7.out.size; omega, by rw [hf]; have := KC.out; simp only [List.length_append, List.length_singleton] at this ⊢; omega⟩, ?_⟩
     simp only [intOf]; show v.ps.length - (((k + 1 : Nat) : Int)).toNat < v.ps.length - ((k : Int)).toNat; omega
  ·have hke : k = v.ps.length := by omega
   have hkl' : ¬ (k : Int) < (v.ps.length : Int) := by omega
   refine wp_seq_k fun K15 hK15 => rgn ?_
   refine VlS (.bool false) ?_
   refine WL.nil (hK15 _ _ ?_)
   refine wp_seq_k fun K16 hK16 => ?_
   refine wp_cond_false rfl ?_
   refine wp_exit ?_
   refine hK7 _ _ ?_
   refine rgn ?_
   refine VlS (.int .i64 ((t + 1 : Nat) : Int)) ?_
   refine VlS (.int .i64 ((t + 1 : Nat) : Int)) ?_
   refine WL.nil ?_
   have hfl : misL g (g.wait.take (t + 1)) = misL g (g.wait.take t) ++ (v.ps.take k).filter (misP g) := by rw [List.take_succ_eq_append_getElem htw, misL_app, ← hv.out, hke, List.take_length]
   refine ⟨⟨t + 1, z3, .pointer (some ⟨bb, 0, none⟩), z7, .bool true, .pointer (some ⟨gp, op + t * 32, none⟩), .agg (bytesA 32 v.id.f), .pointer (some ⟨d, 0, none⟩), .pointer (some ⟨d, 0, none⟩), .pointer (some ⟨d, 4, none⟩), .map (some g.wb), .agg (bytesA 32 v.id.f), .agg vv, .slice pa v.ps.length pm, .int .i64 (v.ps.length : Int), .int .i64 (k : Int), .bool false, z27, z28, z29, z30, z31, z32, z33, z34, z35, z36, z37, z38, z39, z40, z41, z42, z43, .int .i64 ((t + 1 : Nat) : Int), rfl, by omega, KB.out, by rw [hfl]; exact KO.out, KN.out, by rw [hfl]; have := KC.out; have := HVl.out; omega⟩, ?_⟩
   simp only [intOf]; show g.queue.length - (((t + 1 : Nat) : Int)).toNat < g.queue.length - ((t : Int)).toNat; omega
 ·have hte : t = g.queue.length := by omega
  have htl' : ¬ (t : Int) < (g.queue.length : Int) := by omega
  refine wp_seq_k fun K17 hK17 => rgn ?_
  refine VlS (.bool false) ?_
  refine WL.nil (hK17 _ _ ?_)
  refine wp_seq_k fun K18 hK18 => ?_
  refine wp_cond_false rfl ?_
  refine wp_exit ?_
  refine hK3 _ _ ?_
  refine wp_seq_k fun K19 hK19 => rgn ?_
  refine VlS (u3) ?_
  have hso := sort_any u3 _ wr JO.out.row (by have := JC.out; have := HD.out.di.qlen; have := HD.out.di.wl; omega)
  refine WL.callF (by kernel_rfl) 77 _ _ rfl Try.in77 #[u3] (by simp [Act.eval]) ?_
  refine (hso.mono (R' := fun e w' => ∃ v' L', e = .returned v' ∧ OwnH w' v' L' ∧ (∀ k, v'.ownBlock = some k → wr.heap.size ≤ k) ∧ L'.Pairwise Lt ∧ (∀ x, x ∈ L' ↔ x ∈ misL g g.wait) ∧ L'.length ≤ 4096 ∧ Below wr.heap.size wr w') (fun e w' ⟨v', L', h1, h2, h3, h4, h5, h6⟩ => ⟨v', L', h1, OwnH.of h2, ownsH_block h2, h3, by rw [hte, HD.out.di.qlen, List.take_length] at h4; exact h4, by have := JC.out; have := HD.out.di.qlen; have := HD.out.di.wl; omega, h6⟩)).mono ?_
  rintro e w9 ⟨v9, L9, rfl, h1, h2, h3, h4, h5, h6⟩
  refine ⟨_, rfl, ?_⟩
  clear hso
  have R1 := Keep.mk h1
  have R2 := Keep.mk h2
  have R3 := Keep.mk h3
  have R4 := Keep.mk h4
  have R5 := Keep.mk h5
  have R6 := Keep.mk h6
  clear h1 h2 h3 h4 h5 h6
  simp only [Act.put, pqA, pqB, pqC]
  refine VlS (v9) ?_
  refine WL.nil (hK19 _ _ ?_)
  refine wp_ret ?_
  go_ret
  exact ⟨v9, L9, rfl, ⟨R1.out, fun k hk => Nat.le_trans JB.out.size (R2.out k hk), belowT JB.out R6.out⟩, R3.out, R4.out, R5.out⟩
end Go.Proofs.Ytogmdfhicbmplaa
namespace Go.Proofs.Ytogmdfhicbmplaa
open Go.RowKit
set_option linter.unusedSimpArgs false
set_option linter.unusedVariables false

/-! ### What a Dag tells, list by list. -/
/-! ### A list that is written over. -/
/-- The slice v owns so many hashes' cells, whatever they hold. -/
def OwnX (w : World) (v : Value) (n : Nat) : Prop := ∃ xs, w.ownsRow 0 36 32 v n xs
theorem OwnH.x {w : World} {v : Value} {l : List Hs} (h : OwnH w v l) : OwnX w v l.length := ⟨_, h⟩
theorem OwnX.at {w : World} {a : Option Addr} {n m c : Nat} (h : OwnX w (.slice a m c) n) (h0 : 0 < n) : ∃ g cur, a = some ⟨g, 0, none⟩ ∧ m = n ∧ Blk w g 36 cur ∧ n ≤ c ∧ c ≤ maxLen ∧ cur.size = c * 32 := by
 obtain ⟨xs, _, h⟩ := h
 rcases h with ⟨_, h1⟩ | ⟨g, cap, cur, e, h1, h2, h3, h4, h5, h6⟩
 ·omega
 ·injection e with e1 e2 e3
  subst e1 e3
  exact ⟨g, cur, rfl, e2, h2, h3, h4, h5⟩
theorem ownX_mk {w : World} {g n c : Nat} {cur : Array Value} (hb : Blk w g 36 cur) (h1 : n ≤ c) (h2 : c ≤ maxLen) (h3 : cur.size = c * 32) : OwnX w (.slice (some ⟨g, 0, none⟩) n c) n :=
 ⟨cur.toList.take (n * 32), by rw [List.length_take, Array.length_toList, h3]; omega, .inr ⟨g, c, cur, rfl, Nat.zero_le _, hb, h1, h2, h3, rfl⟩⟩
end Go.Proofs.Ytogmdfhicbmplaa
namespace Go.Proofs.Ytogmdfhicbmplaa
open Go.RowKit
set_option linter.unusedSimpArgs false
set_option linter.unusedVariables false

theorem Try.in35 (w : World) (vs : Array Value) : (callFunc 35 vs).run Try.prog w = .ok (.enter 35 vs) w := by kernel_rfl
set_option maxRecDepth 8000 in
set_option maxHeartbeats 1000000 in
theorem next_first (d : Nat) (v : VX) (r : List Hs) (Av : Nat → Prop) (g : DG) (w : World) (hD : DagAt w Av d g) (hQ : g.queue = v.id :: r) (hF : g.wait.find? (isV v.id) = some v) (hA : v.ps.all (hasB g.held) = true) (hL : v.ps.length ≤ 4398046511104) : Calls Try.prog 35 #[ptr d] w fun e w' => ∃ a n c, e = .returned (.tuple #[.agg (vtx v.id.f v.ck (.slice a n c)), .bool true]) ∧ Below w.heap.size w w' := by
 have HD := Keep.mk hD
 have HQ := Keep.mk hQ
 have HF := Keep.mk hF
 have HA := Keep.mk hA
 have HL := Keep.mk hL
 clear hD hQ hF hA hL
 go_enter Try.func35, Try.ntmps35
 refine wp_seq_k fun K1 hK1 => rgn ?_
 refine WL.new (by kernel_rfl) 39 rfl _ Try.new39 ?_
 obtain ⟨vz, hvz⟩ : ∃ a : Array Value, Keep (a = vtx (fun _ => 0) 0 (.slice none 0 0)) := ⟨_, ⟨rfl⟩⟩
 rw [← hvz.out]
 have HZ1 := Keep.mk (Blk.new w 39 vz)
 have LB1 := Keep.mk (below_new w (.cells vz 39))
 generalize w.alloc (.cells vz 39) = w1 at *
 have HD1 := Keep.mk (HD.out.below LB1.out)
 obtain ⟨qa, qc, hqv⟩ := HD1.out.oq.sl
 have hql : 0 < g.queue.length := by rw [HQ.out]; simp
 have hql' : (0 : Int) < (g.queue.length : Int) := by omega
 have hrw : HRow w1 (.slice qa g.queue.length qc) g.queue := hqv ▸ HD1.out.oq.row
 obtain ⟨gp, op, hpa, _, _, hrg⟩ := hrw.at hql
 subst hpa
 have hel := rangeAt_elem hrg 0 hql
 rw [Nat.zero_mul, Nat.add_zero] at hel
 obtain ⟨hh, hhh⟩ : ∃ hh, hh = g.queue[0] := ⟨_, rfl⟩
 rw [← hhh] at hel
 have hhx : hh = v.id := by rw [hhh]; simp [HQ.out]
 subst hhx
 have c5 : w1.cell? ⟨d, 5, none⟩ = some (.slice (some ⟨gp, op, none⟩) g.queue.length qc) := by have h := HD1.out.blk.c 5 (by rfl : (dgA g)[5]? = some g.qv); rw [hqv] at h; exact h
 have Hel := Keep.mk hel
 clear hel hrg hrw hhh
 simp only [Act.put, pqA, pqB, pqC]
 refine VlS (.bool false) ?_
 refine WL.nil (hK1 _ _ ?_)
 refine wp_seq_k fun K2 hK2 => ?_
 refine wp_seq_k fun K3 hK3 => rgn ?_
 refine VlS (.pointer (some ⟨d, 0, none⟩)) ?_
 refine VlS (.pointer (some ⟨d, 0, none⟩)) ?_
 refine VlS (.pointer (some ⟨d, 5, none⟩)) ?_
 refine VlS (.slice (some ⟨gp, op, none⟩) g.queue.length qc) ?_
 refine VlS (.int .i64 (g.queue.length : Int)) ?_
 refine VlS (.int .i64 0) ?_
 refine WL.nil (hK3 _ _ ?_)
 refine wp_block ?_
 refine wp_loop (fun ac wr => ∃ (t : Nat) (u3 u5 u6 u13 u14 u15 u16 u17 u18 u19 u20 u21 u22 u23 u24 u25 u26 u27 u28 : Value), ac = { tmps := #[.pointer (some ⟨d, 0, none⟩), undef, .pointer (some ⟨w.heap.size, 0, none⟩), u3, undef, u5, u6, .pointer (some ⟨d, 0, none⟩), .pointer (some ⟨d, 0, none⟩), .pointer (some ⟨d, 5, none⟩), .slice (some ⟨gp, op, none⟩) g.queue.length qc, .int .i64 (g.queue.length : Int), .int .i64 0, u13, u14, u15, u16, u17, u18, u19, u20, u21, u22, u23, u24, u25, u26, u27, u28, undef], defers := [] } ∧ w1 = wr) (fun a _ => 0) ⟨0, .bool false, undef, undef, undef, undef, undef, undef, undef, undef, undef, undef, undef, undef, undef, undef, undef, undef, undef, undef, rfl, rfl⟩ ?_
 rintro ac wr ⟨t, u3, u5, u6, u13, u14, u15, u16, u17, u18, u19, u20, u21, u22, u23, u24, u25, u26, u27, u28, rfl, hW⟩
 obtain rfl := hW
 refine wp_seq_k fun K4 hK4 => rgn ?_
 refine VlS (.bool true) ?_
 refine WL.nil (hK4 _ _ ?_)
 refine wp_seq_k fun K5 hK5 => ?_
 refine wp_cond_true rfl ?_
 refine wp_skip ?_
 refine hK5 _ _ ?_
 refine wp_seq_k fun K6 hK6 => ?_
 refine wp_block ?_
 refine wp_seq_k fun K7 hK7 => rgn ?_
 refine VlS (.pointer (some ⟨gp, op, none⟩)) ?_
 refine WL.mid (by kernel_rfl) 36 (.tmp 14) rfl gp op rfl (encH v.id) _ Hel.out Try.underlying36 rfl (Try.size36L v.id) ?_
 rw [enc_load]
 simp only [Act.put, pqA, pqB, pqC]
 refine WL.new (by kernel_rfl) 36 rfl _ Try.new36 ?_
 simp only [Act.put, pqA, pqB, pqC]
 refine WL.storeR (by kernel_rfl) 36 (.tmp 5) (.tmp 15) rfl w1.heap.size (bytesA 32 v.id.f) rfl rfl 36 (bytesA 32 fun _ => 0) (Blk.new w1 36 _) (Try.size36B _) (bytesA_sizes _ _ _) (bytesA_one _ _) ?_
 have HX2 := Keep.mk ((Blk.new w1 36 (bytesA 32 fun _ => 0)).setRow (bytesA 32 v.id.f))
 have B2 : Keep (Below w1.heap.size w1 ((w1.alloc (.cells (bytesA 32 fun _ => 0) 36)).setRow w1.heap.size (bytesA 32 v.id.f))) := ⟨below_setRow (below_new w1 _) (Nat.le_refl _) _⟩
 generalize (w1.alloc (.cells (bytesA 32 fun _ => 0) 36)).setRow w1.heap.size (bytesA 32 v.id.f) = w2 at *
 have HD2 := Keep.mk (HD1.out.below B2.out)
 have HZ2 := Keep.mk (HZ1.out.below B2.out HZ1.out.lt)
 have LB2 := Keep.mk (belowT LB1.out B2.out)
 generalize w1.heap.size = bb at *
 clear Hel c5 HD1 HZ1
 simp only [Act.put]
 refine WL.nil (hK7 _ _ ?_)
 refine wp_seq_k fun K8 hK8 => ?_
 obtain ⟨es, ck, c0, k0, pa, pn, pm, hes, hl1, hl2, hcs⟩ := look1 HD2.out.wait v.id
 obtain ⟨vv, hvv⟩ : ∃ a : Array Value, Keep (a = vtx c0 k0 (.slice pa pn pm)) := ⟨_, ⟨rfl⟩⟩
 rw [← hvv.out] at hl2
 have H1 := Keep.mk hl2
 have HC : Keep (c0 = v.id.f ∧ k0 = v.ck ∧ HRow w2 (.slice pa pn pm) v.ps) := ⟨hcs.elim (fun h => absurd (HF.out.symm.trans h.1) (by simp)) fun ⟨v', h, h2, h3, h4, _⟩ => by cases Option.some.inj (HF.out.symm.trans h); exact ⟨h2, h3, h4⟩⟩
 have hSB : Keep (∀ wx, Below w2.heap.size w2 wx → (fun wx => wx.cell? ⟨d, 4, none⟩ = some (.map (some g.wb)) ∧ wx.rangeAt bb 0 (bytesA 32 v.id.f).toList ∧ wx.heap[g.wb]? = some (.map es ck)) wx) := ⟨fun wx hb => ⟨(HD2.out.blk.below hb HD2.out.blk.lt).c 4 rfl, blk_rng (HX2.out.below hb HX2.out.lt), by rw [hb.block _ (Array.getElem?_eq_some_iff.1 hes).1]; exact hes⟩⟩
 have B3 : Keep (Below w2.heap.size w2 w2.drew) := ⟨(Below.refl _ _).drew⟩
 clear hl1 hl2 hcs hes
 refine wp_region_held_drew (S := fun wx => wx.cell? ⟨d, 4, none⟩ = some (.map (some g.wb)) ∧ wx.rangeAt bb 0 (bytesA 32 v.id.f).toList ∧ wx.heap[g.wb]? = some (.map es ck)) (by kernel_rfl) (hSB.out _ B3.out) (fun hHeld => ?_)
 refine tkS (i := 0) (oi := ⟨some 16, Op.move (Operand.tmp 0), 27, _, _, none⟩) (v := .pointer (some ⟨d, 0, none⟩)) rfl (Or.inl ⟨by rfl, fun w hS => by obtain ⟨hS1, hS2, hS3⟩ := hS; go_simp⟩) hHeld ?_
 refine tkS (i := 1) (oi := ⟨some 17, Op.nilCheck (Operand.tmp 16), 0, _, _, none⟩) (v := .pointer (some ⟨d, 0, none⟩)) rfl (Or.inl ⟨by rfl, fun w hS => by obtain ⟨hS1, hS2, hS3⟩ := hS; go_simp⟩) hHeld ?_
 refine tkS (i := 2) (oi := ⟨some 18, Op.fieldAddr 77 (Operand.tmp 17) 4, 0, _, _, none⟩) (v := .pointer (some ⟨d, 4, none⟩)) rfl (Or.inl ⟨by rfl, fun w hS => by obtain ⟨hS1, hS2, hS3⟩ := hS; go_simp⟩) hHeld ?_
 refine tkS (i := 3) (oi := ⟨some 19, Op.load 75 (Operand.tmp 18), 75, _, _, none⟩) (v := .map (some g.wb)) rfl (Or.inl ⟨by rfl, fun w hS => by obtain ⟨hS1, hS2, hS3⟩ := hS; go_simp⟩) hHeld ?_
 refine tkS (i := 4) (oi := ⟨some 20, Op.load 36 (Operand.tmp 5), 36, _, _, none⟩) (v := .agg (bytesA 32 v.id.f)) rfl (yieldsIf_ld (by rfl) (Operand.tmp 5) 36 rfl bb 0 rfl (bytesA 32 v.id.f) _ Try.underlying36 rfl (size36A _) fun w hS => hS.2.1) hHeld ?_
 refine tkS (i := 5) (oi := ⟨some 21, Op.lookup 75 (Operand.tmp 19) (Operand.tmp 20) false, 39, _, _, none⟩) (v := .agg vv) rfl (yieldsIf_look (by rfl) (Operand.tmp 19) (Operand.tmp 20) false rfl g.wb v.id.f rfl rfl _ fun wx hS => H1.out wx hS.2.2) hHeld ?_
 refine wpAnyH_ready (rs := [6]) (by kernel_rfl) (by simp) ?_
 refine AllReadyH.cons (o := ⟨some 6, Op.alloc 39, 0, _, _, none⟩) rfl (fun K hK => ?_) AllReadyH.nil
 rw [if_pos (by rfl)]
 refine wp_newA 39 rfl vz (by rw [hvz.out]; exact Try.new39) ?_
 have B4 := Keep.mk (B3.out.alloc (Nat.le_refl _) (.cells vz 39))
 obtain ⟨w4, hw4⟩ : ∃ wx, Keep (wx = w2.drew.alloc (.cells vz 39)) := ⟨_, ⟨rfl⟩⟩
 rw [← hw4.out]
 have HB4 : Keep (Blk w4 w2.drew.heap.size 39 vz) := ⟨by rw [hw4.out]; exact Blk.new _ _ _⟩
 have B4 : Keep (Below w2.heap.size w2 w4) := ⟨by rw [hw4.out]; exact B4.out⟩
 have hL4 : Keep (w2.heap.size ≤ w2.drew.heap.size) := ⟨Nat.le_refl _⟩
 clear hw4
 generalize w2.drew.heap.size = n1 at *
 refine hK _ _ (hSB.out _ B4.out) fun hH1 => ?_
 clear hK
 simp only [Act.put, pqA, pqB, pqC]
 refine wpAnyH_ready (rs := [7]) (by kernel_rfl) (by simp) ?_
 refine AllReadyH.cons (o := ⟨none, Op.store 39 (Operand.tmp 6) (Operand.tmp 21), 0, _, _, none⟩) rfl (fun K hK => ?_) AllReadyH.nil
 rw [if_pos (by rfl)]
 refine wp_store_row 39 (Operand.tmp 6) (Operand.tmp 21) rfl n1 vv rfl rfl 39 vz HB4.out (by rw [hvv.out]; exact Try.info39s _ _ _) (by rw [hvv.out, hvz.out, vtx_size, vtx_size]) (by rw [hvv.out]; exact vtx_one _ _ _ (slice_one _ _ _)) ?_
 have B5 := Keep.mk (below_setRow B4.out hL4.out vv)
 have HX5 := Keep.mk (HB4.out.setRow vv)
 refine hK _ _ (hSB.out _ B5.out) fun hH2 => ?_
 generalize w4.setRow n1 vv = w5 at *
 have HD5 := Keep.mk (HD2.out.below B5.out)
 have HZ5 := Keep.mk (HZ2.out.below B5.out HZ2.out.lt)
 have LB5 := Keep.mk (belowT LB2.out B5.out)
 have HR5 := Keep.mk (HC.out.2.2.below B5.out)
 obtain ⟨_, pm', hpf⟩ := HR5.out.form
 injection hpf with _ hpn _
 subst hpn
 have c33 : w5.cell? ⟨n1, 33, none⟩ = some (.slice pa v.ps.length pm) := HX5.out.c 33 (by rw [hvv.out]; exact vtx_ps _ _ _)
 clear hK hH1 HB4 B4 B3 hSB
 simp only [Act.put, pqA, pqB, pqC]
 refine wpAnyH_done (by kernel_rfl) ?_ _
 refine hK8 _ _ ?_
 refine wp_seq_k fun K9 hK9 => rgn ?_
 refine VlS (.pointer (some ⟨d, 0, none⟩)) ?_
 refine VlS (.pointer (some ⟨n1, 33, none⟩)) ?_
 refine VlS (.slice pa v.ps.length pm) ?_
 clear c33
 have hal := hasAll_any d _ v.ps Av g w5 HD5.out HR5.out (by have := HL.out; omega)
 rw [HA.out] at hal
 refine WL.callF (by kernel_rfl) 68 _ _ rfl Try.in68 #[ptr d, .slice pa v.ps.length pm] (by simp [Act.eval]) ?_
 refine (hal).mono ?_
 rintro e w6 ⟨rfl, hz⟩
 refine ⟨_, rfl, ?_⟩
 clear hal
 have HX6 := Keep.mk (HX5.out.below hz HX5.out.lt)
 have HZ6 := Keep.mk (HZ5.out.below hz HZ5.out.lt)
 have LB6 := Keep.mk (belowT LB5.out hz)
 have HR6 := Keep.mk (HR5.out.below hz)
 clear hz
 simp only [Act.put, pqA, pqB, pqC]
 refine WL.nil (hK9 _ _ ?_)
 refine wp_cond_true rfl ?_
 refine wp_seq_k fun K10 hK10 => rgn ?_
 refine WL.row (by kernel_rfl) 39 (.tmp 6) rfl n1 rfl 39 vv _ HX6.out Try.underlying39 rfl (by rw [hvv.out]; exact Try.info39s _ _ _) ?_
 simp only [Act.put, pqA, pqB, pqC]
 have how := own_any v _ w6 HR6.out (by have := HL.out; omega)
 rw [← HC.out.1, ← HC.out.2.1, ← hvv.out] at how
 refine WL.callF (by kernel_rfl) 59 _ _ rfl Try.in59 #[.agg vv] (by simp [Act.eval]) ?_
 refine (how).mono ?_
 rintro e w7 ⟨p7, rfl, hf⟩
 refine ⟨_, rfl, ?_⟩
 clear how
 have HF7 := Keep.mk hf
 have HZ7 := Keep.mk (HZ6.out.below hf.bel HZ6.out.lt)
 have LB7 := Keep.mk (belowT LB6.out hf.bel)
 obtain ⟨pa7, pc7, hp7⟩ := hf.own.sl
 have HP7 := Keep.mk hp7
 obtain ⟨vq, hvq⟩ : ∃ a : Array Value, Keep (a = vtx c0 k0 p7) := ⟨_, ⟨rfl⟩⟩
 have HI7 : Keep ((Try.prog.info? 39).map (·.size) = some vq.size) := ⟨by rw [hvq.out]; exact Try.info39s _ _ _⟩
 have HO7 : Keep (vq.all (·.oneCell') = true) := ⟨by rw [hvq.out, hp7]; exact vtx_one _ _ _ (slice_one _ _ _)⟩
 have HS7 : Keep (vz.size = vq.size) := ⟨by rw [hvq.out, hvz.out, vtx_size, vtx_size]⟩
 rw [← hvq.out]
 clear hf hp7 HX6 HR6
 simp only [Act.put, pqA, pqB, pqC]
 refine WL.storeR (by kernel_rfl) 39 (.tmp 2) (.tmp 27) rfl w.heap.size vq rfl rfl 39 vz HZ7.out HI7.out HS7.out HO7.out ?_
 have HZ8 := Keep.mk (HZ7.out.setRow vq)
 have LB8 := Keep.mk (below_setRow LB7.out (b := w.heap.size) (Nat.le_refl _) vq)
 generalize w7.setRow w.heap.size vq = w8 at *
 simp only [Act.put]
 refine VlS (.bool true) ?_
 refine WL.nil (hK10 _ _ ?_)
 refine wp_ret ?_
 try simp only [Exit.inBlock, Exit.then]
 refine bodyPost_ret (v := .tuple #[.agg vq, .bool true]) (results_cell_row2 Try.results35 _ _ w.heap.size 39 _ (0, 0) _ _ rfl rfl HZ8.out Try.underlying39 rfl HI7.out) rfl ?_
 exact ⟨pa7, _, pc7, by rw [hvq.out, HC.out.1, HC.out.2.1, HP7.out], LB8.out⟩
end Go.Proofs.Ytogmdfhicbmplaa
namespace Go.Proofs.Ytogmdfhicbmplaa
open Go.RowKit
set_option linter.unusedSimpArgs false
set_option linter.unusedVariables false

end Go.Proofs.Ytogmdfhicbmplaa
