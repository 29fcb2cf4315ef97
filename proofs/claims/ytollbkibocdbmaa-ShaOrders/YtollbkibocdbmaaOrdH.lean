import Derived.Test.YtollbkibocdbmaaOrdS
namespace Go.Proofs.Ytollbkibocdbmaa
open Go.RowKit Go.Sort Go.Shelf

theorem ltOf_iff (x y : Hs) : ltOf cf x y = true ↔ Lt x y := by unfold ltOf Lt; exact decide_eq_true_iff
theorem ltOf_not (x y : Hs) : ltOf cf x y = false ↔ ¬ Lt x y := by unfold ltOf Lt; exact decide_eq_false_iff_not
theorem cf_swo : SWO (ltOf cf) where
  irrefl x := (ltOf_not _ _).2 (Lt.irrefl x)
  trans x y z h1 h2 := (ltOf_iff _ _).2 (((ltOf_iff _ _).1 h1).trans ((ltOf_iff _ _).1 h2))
  ntrans x y z h1 h2 := (ltOf_not _ _).2 fun h3 => by
    have h1 := (ltOf_not _ _).1 h1
    have h2 := (ltOf_not _ _).1 h2
    rcases Lt.tri x y with h | h | h
    · exact h1 h
    · subst h; exact h2 h3
    · exact h2 (h.trans h3)
theorem cf_total (x y : Hs) (h1 : ltOf cf x y = false) (h2 : ltOf cf y x = false) : x = y := by
  rcases Lt.tri x y with h | h | h
  · exact absurd h ((ltOf_not _ _).1 h1)
  · exact h
  · exact absurd h ((ltOf_not _ _).1 h2)

theorem cmpLays22 (blk off size : Nat) (w : World) : CmpLays Try.prog 22 #[] encH 32 cf blk off size w := fun m os dk _ x y => by
  have h := compare_any x y (sortWorldK encH 32 w blk off m dk os)
  rw [← encH_arr, ← encH_arr] at h
  exact h

theorem flatK_flatH (d : Array Hs) : flatK encH 32 d = (flatH d.toList).toArray := by
  refine ext_get! (by simp [flatH_len]) fun t ht => ?_
  rw [size_flatK] at ht
  rw [get_flatK _ _ _ _ ht]
  have hi : t / 32 < d.size := by omega
  have hj : t % 32 < 32 := by omega
  have h1 := flatH_get d.toList (t / 32) (by simpa using hi) (t % 32) hj
  rw [show t / 32 * 32 + t % 32 = t by omega, encH_get _ _ hj] at h1
  have e1 : (flatH d.toList).toArray[t]? = some (.int .u8 (d.toList[t / 32].f (t % 32))) := by rw [List.getElem?_toArray]; exact h1
  have e2 := encH_get d[t / 32]! (t % 32) hj
  simp only [Array.getElem!_eq_getD, Array.getD_eq_getD_getElem?, List.getElem!_eq_getElem?_getD, e1, Option.getD_some]
  simp only [Array.getElem!_eq_getD, Array.getD_eq_getD_getElem?] at e2
  rw [e2]
  simp [hi]

theorem blk_putRow {w : World} {g : Nat} {D E : List Hs} (h : Blk w g 23 (flatH D).toArray) (hl : E.length = D.length) (m : Nat) (os : Array Obj) : Blk (sortWorldK encH 32 w g 0 m E.toArray os) g 23 (flatH E).toArray := by
  unfold sortWorldK putRowK
  rw [show flatK encH 32 E.toArray = (flatH E).toArray from flatK_flatH E.toArray]
  show (grow (putRow id (Go.Sort.ahead w m) g 0 _) os).heap[g]? = _
  rw [heap_grow_old _ _ (by simp [putRow, mapBlock, Go.Sort.ahead]; exact h.lt)]
  unfold putRow mapBlock
  show (w.heap.modify g _)[g]? = _
  rw [Array.getElem?_modify, if_pos rfl]
  have h' : w.heap[g]? = some (.cells (flatH D).toArray 23 (0, 0)) := h
  rw [h']
  simp only [Option.map_some, onCells]
  congr 2
  apply Array.ext_getElem?
  intro k
  unfold putCells
  rw [Array.getElem?_mapIdx]
  have hs : (flatH E).toArray.size = (flatH D).toArray.size := by simp [flatH_len, hl]
  by_cases hk : k < (flatH D).toArray.size
  · rw [Array.getElem?_eq_getElem hk, Option.map_some, if_pos ⟨by omega, by omega⟩]
    rw [getElem!_pos _ (k - 0) (by omega)]
    simp only [id, Nat.sub_zero]
    exact (Array.getElem?_eq_getElem (xs := (flatH E).toArray) (by simp only [List.size_toArray, flatH_len] at hk ⊢; omega)).symm
  · rw [Array.getElem?_eq_none (by omega), Array.getElem?_eq_none (by simp only [List.size_toArray, flatH_len] at hk ⊢; omega)]; rfl

theorem below_sort {w : World} {g B : Nat} (E : Array Hs) (hg : B ≤ g) (hB : B ≤ w.heap.size) (m : Nat) (os : Array Obj) : Below B w (sortWorldK encH 32 w g 0 m E os) where
  os := rfl
  tape := rfl
  output := rfl
  size := by
    have := size_sortWorldK_c encH 32 w g 0 m E os
    omega
  block i hi := by
    unfold sortWorldK putRowK
    rw [heap_grow_old _ _ (by simp [putRow, mapBlock, Go.Sort.ahead]; omega)]
    unfold putRow mapBlock
    show (w.heap.modify g _)[i]? = _
    rw [Array.getElem?_modify, if_neg (by omega)]

/-- slices.SortFunc at hashes. -/
theorem sortFunc_any (g cap : Nat) (D : List Hs) (w : World) (h : Blk w g 23 (flatH D).toArray) (hn : D.length ≤ 4398046511104) :
    Calls Try.prog 44 #[.slice (some ⟨g, 0, none⟩) D.length cap, .func (.func 22) #[] #[]] w fun e w' =>
      e = .returned (.tuple #[]) ∧ ∃ E : List Hs, E.length = D.length ∧ E.Pairwise (fun x y => ¬ Lt y x) ∧ (∀ x, x ∈ E ↔ x ∈ D) ∧ Blk w' g 23 (flatH E).toArray ∧ ∀ B, B ≤ g → Below B w w' := by
  have eg : ∀ args w, (callFunc 22 args).run Try.prog w = .ok (.enter 22 args) w := fun args w => Try.enter22 w args
  have hH : HoldsK encH 32 w g 0 D.toArray := by
    unfold HoldsK
    rw [flatK_flatH]
    intro j hj
    rw [Nat.zero_add]
    refine ⟨?_, h.frozen j⟩
    rw [h.cell]
    show (flatH D).toArray[j]? = some (id (flatH D).toArray[j]!)
    rw [getElem!_pos _ j hj]
    exact Array.getElem?_eq_getElem hj
  have hcon := AnyQ.slices_SortFunc_total Try.sortH 32 Try.isAgg23 Try.sizeOf23 encH encH_len (fun x v hv => encH_one x v hv) cf cf_swo 22 #[] g 0 cap D.toArray w eg (cmpLays22 g 0 D.toArray.size w) hH h.lt (by simp; omega) cf_total
  refine Calls.mono (show Calls Try.prog 44 _ _ _ from hcon) fun e w' hh => ?_
  obtain ⟨he, m, os, rfl⟩ := hh
  refine ⟨he, _, ?_, ?_, ?_, blk_putRow h ?_ m os, fun B hB => below_sort _ hB (by have := h.lt; omega) m os⟩
  · simp
  · have hs := List.pairwise_mergeSort (le := fun x y : Hs => !(ltOf cf) y x) (fun a b c h1 h2 => by
      have h1 : ltOf cf b a = false := by simpa using h1
      have h2 : ltOf cf c b = false := by simpa using h2
      have h3 := cf_swo.ntrans c b a h2 h1
      simp only [h3, Bool.not_false]) (fun a b => by
      by_cases hx : Lt b a
      · have h3 := (ltOf_not a b).2 hx.asymm
        simp only [h3, Bool.not_false, Bool.or_true]
      · have h3 := (ltOf_not b a).2 hx
        simp only [h3, Bool.not_false, Bool.true_or]) D
    exact hs.imp fun {a b} hab => (ltOf_not _ _).1 (by simpa using hab)
  · intro x
    simp [List.mem_mergeSort]
  · simp
end Go.Proofs.Ytollbkibocdbmaa
