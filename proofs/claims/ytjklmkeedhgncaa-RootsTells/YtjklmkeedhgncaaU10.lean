import Derived.Test.YtjklmkeedhgncaaU09
import Derived.Test.YtjklmkeedhgncaaU07
import Derived.Laws.EntriesVeiled
namespace Go.Proofs.Ytjklmkeedhgncaa
open Go.RowKit
set_option linter.unusedSimpArgs false
set_option linter.unusedVariables false
theorem Try.in17 (w : World) (vs : Array Value) : (callFunc 17 vs).run Try.prog w = .ok (.enter 17 vs) w := by kernel_rfl
def sameC (c d : CV) : Bool := decide (c.k = d.k) && (decide (c.s = d.s) && decide (strOfNums c.l = strOfNums d.l))
theorem toL_inj {a b : ByteArray} (h : a.toList = b.toList) : a = b := by
  rw [ByteArray.toList_eq, ByteArray.toList_eq] at h
  rcases a with ⟨⟨a⟩⟩; rcases b with ⟨⟨b⟩⟩
  simp at h
  rw [h]
theorem toL_beq (a b : ByteArray) : (a.toList == b.toList) = decide (a = b) := by
  rw [Bool.eq_iff_iff]
  simp
  exact ⟨toL_inj, fun h => by rw [h]⟩
def cvA (c : CV) : Array Value := #[.int .i64 c.k, .string c.s, c.v]
set_option maxRecDepth 8000 in
theorem same_k (k j : Int) (s t : ByteArray) (va ua : Option Addr) (vn vc un uc : Nat) (l m : List Int) (w : World) (hx : RowAt w (.slice va vn vc) l) (hy : RowAt w (.slice ua un uc) m) (hk : ¬ k = j) :
    Calls Try.prog 17 #[.agg #[.int .i64 k, .string s, .slice va vn vc], .agg #[.int .i64 j, .string t, .slice ua un uc]] w fun e w' => e = .returned (.bool (sameC ⟨k, s, .slice va vn vc, l⟩ ⟨j, t, .slice ua un uc, m⟩)) ∧ Below w.heap.size w w' := by
  have HX := Keep.mk hx
  have HY := Keep.mk hy
  clear hx hy
  have hkb : (k == j) = false := by simpa using hk
  skip
  skip
  skip
  skip
  go_enter Try.func17, Try.ntmps17
  refine wp_seq_k fun K1 hK1 => ?_
  refine wp_region_list (WL.out ?_)
  refine WL.box (by kernel_rfl) 40 (.tmp 0) rfl #[.int .i64 k, .string s, .slice va vn vc] rfl ?_
  have C1 := Keep.mk (Blk.new w 40 #[.int .i64 k, .string s, .slice va vn vc])
  have b1 := Keep.mk (below_new w (.cells #[.int .i64 k, .string s, .slice va vn vc] 40))
  change WL _ _ _ _ _ (w.alloc (.cells #[.int .i64 k, .string s, .slice va vn vc] 40))
  generalize w.alloc (.cells #[.int .i64 k, .string s, .slice va vn vc] 40) = w1 at *
  obtain ⟨c, hc0⟩ : ∃ z, Keep (z = w.heap.size) := ⟨_, ⟨rfl⟩⟩
  rw [← hc0.out] at C1 ⊢
  simp only [Act.put, List.setIfInBounds_toArray, List.set_cons_zero, List.set_cons_succ]
  refine WL.box (by kernel_rfl) 40 (.tmp 1) rfl #[.int .i64 j, .string t, .slice ua un uc] rfl ?_
  have D2 := Keep.mk (Blk.new w1 40 #[.int .i64 j, .string t, .slice ua un uc])
  have b2 := Keep.mk (below_new w1 (.cells #[.int .i64 j, .string t, .slice ua un uc] 40))
  change WL _ _ _ _ _ (w1.alloc (.cells #[.int .i64 j, .string t, .slice ua un uc] 40))
  generalize w1.alloc (.cells #[.int .i64 j, .string t, .slice ua un uc] 40) = w2 at *
  obtain ⟨d, hd0⟩ : ∃ z, Keep (z = w1.heap.size) := ⟨_, ⟨rfl⟩⟩
  rw [← hd0.out] at D2 ⊢
  have C2 := Keep.mk (C1.out.below b2.out C1.out.lt)
  have B2 : Keep (Below w.heap.size w w2) := ⟨b1.out.trans (b2.out.mono b1.out.size)⟩
  have q1 := conv_row _ _ w2 (HX.out.below B2.out)
  have q2 := conv_row _ _ w2 (HY.out.below B2.out)
  have c0 := C2.out.c 0 (by rfl : (#[.int .i64 k, .string s, .slice va vn vc] : Array Value)[0]? = some (.int .i64 k))
  have c1 := C2.out.c 1 (by rfl : (#[.int .i64 k, .string s, .slice va vn vc] : Array Value)[1]? = some (.string s))
  have c2 := C2.out.c 2 (by rfl : (#[.int .i64 k, .string s, .slice va vn vc] : Array Value)[2]? = some (.slice va vn vc))
  have d0 := D2.out.c 0 (by rfl : (#[.int .i64 j, .string t, .slice ua un uc] : Array Value)[0]? = some (.int .i64 j))
  have d1 := D2.out.c 1 (by rfl : (#[.int .i64 j, .string t, .slice ua un uc] : Array Value)[1]? = some (.string t))
  have d2 := D2.out.c 2 (by rfl : (#[.int .i64 j, .string t, .slice ua un uc] : Array Value)[2]? = some (.slice ua un uc))
  simp only [Act.put, List.setIfInBounds_toArray, List.set_cons_zero, List.set_cons_succ]
  refine WL.val (by kernel_rfl) (.bool false) (by go_simp) ?_
  simp only [Act.put, List.setIfInBounds_toArray, List.set_cons_zero, List.set_cons_succ]
  refine WL.nil ?_
  refine hK1 _ _ ?_
  refine wp_seq_k fun K2 hK2 => ?_
  refine wp_region_list (WL.out ?_)
  refine WL.val (by kernel_rfl) (.pointer (some ⟨c, 0, none⟩)) (by go_simp) ?_
  simp only [Act.put, List.setIfInBounds_toArray, List.set_cons_zero, List.set_cons_succ]
  refine WL.val (by kernel_rfl) (.int .i64 k) (by go_simp) ?_
  simp only [Act.put, List.setIfInBounds_toArray, List.set_cons_zero, List.set_cons_succ]
  refine WL.val (by kernel_rfl) (.pointer (some ⟨d, 0, none⟩)) (by go_simp) ?_
  simp only [Act.put, List.setIfInBounds_toArray, List.set_cons_zero, List.set_cons_succ]
  refine WL.val (by kernel_rfl) (.int .i64 j) (by go_simp) ?_
  simp only [Act.put, List.setIfInBounds_toArray, List.set_cons_zero, List.set_cons_succ]
  refine WL.val (by kernel_rfl) (.bool false) (by go_simp) ?_
  simp only [Act.put, List.setIfInBounds_toArray, List.set_cons_zero, List.set_cons_succ]
  refine WL.val (by kernel_rfl) (.bool false) (by go_simp) ?_
  simp only [Act.put, List.setIfInBounds_toArray, List.set_cons_zero, List.set_cons_succ]
  refine WL.skip (by kernel_rfl) ?_
  simp only [Act.put, List.setIfInBounds_toArray, List.set_cons_zero, List.set_cons_succ]
  refine WL.skip (by kernel_rfl) ?_
  simp only [Act.put, List.setIfInBounds_toArray, List.set_cons_zero, List.set_cons_succ]
  refine WL.skip (by kernel_rfl) ?_
  simp only [Act.put, List.setIfInBounds_toArray, List.set_cons_zero, List.set_cons_succ]
  refine WL.skip (by kernel_rfl) ?_
  simp only [Act.put, List.setIfInBounds_toArray, List.set_cons_zero, List.set_cons_succ]
  refine WL.skip (by kernel_rfl) ?_
  simp only [Act.put, List.setIfInBounds_toArray, List.set_cons_zero, List.set_cons_succ]
  refine WL.val (by kernel_rfl) (.bool false) (by go_simp) ?_
  simp only [Act.put, List.setIfInBounds_toArray, List.set_cons_zero, List.set_cons_succ]
  refine WL.val (by kernel_rfl) (.bool false) (by go_simp) ?_
  simp only [Act.put, List.setIfInBounds_toArray, List.set_cons_zero, List.set_cons_succ]
  refine WL.skip (by kernel_rfl) ?_
  simp only [Act.put, List.setIfInBounds_toArray, List.set_cons_zero, List.set_cons_succ]
  refine WL.skip (by kernel_rfl) ?_
  simp only [Act.put, List.setIfInBounds_toArray, List.set_cons_zero, List.set_cons_succ]
  refine WL.skip (by kernel_rfl) ?_
  simp only [Act.put, List.setIfInBounds_toArray, List.set_cons_zero, List.set_cons_succ]
  refine WL.skip (by kernel_rfl) ?_
  simp only [Act.put, List.setIfInBounds_toArray, List.set_cons_zero, List.set_cons_succ]
  refine WL.skip (by kernel_rfl) ?_
  simp only [Act.put, List.setIfInBounds_toArray, List.set_cons_zero, List.set_cons_succ]
  refine WL.skip (by kernel_rfl) ?_
  simp only [Act.put, List.setIfInBounds_toArray, List.set_cons_zero, List.set_cons_succ]
  refine WL.skip (by kernel_rfl) ?_
  simp only [Act.put, List.setIfInBounds_toArray, List.set_cons_zero, List.set_cons_succ]
  refine WL.val (by kernel_rfl) (.bool false) (by go_simp) ?_
  simp only [Act.put, List.setIfInBounds_toArray, List.set_cons_zero, List.set_cons_succ]
  refine WL.val (by kernel_rfl) (.bool false) (by go_simp) ?_
  simp only [Act.put, List.setIfInBounds_toArray, List.set_cons_zero, List.set_cons_succ]
  refine WL.nil ?_
  refine hK2 _ _ ?_
  refine wp_ret ?_
  go_ret
  refine ⟨?_, B2.out⟩
  simp [sameC, hk]
set_option maxRecDepth 8000 in
theorem same_s (k j : Int) (s t : ByteArray) (va ua : Option Addr) (vn vc un uc : Nat) (l m : List Int) (w : World) (hx : RowAt w (.slice va vn vc) l) (hy : RowAt w (.slice ua un uc) m) (hk : k = j) (hs : ¬ s = t) :
    Calls Try.prog 17 #[.agg #[.int .i64 k, .string s, .slice va vn vc], .agg #[.int .i64 j, .string t, .slice ua un uc]] w fun e w' => e = .returned (.bool (sameC ⟨k, s, .slice va vn vc, l⟩ ⟨j, t, .slice ua un uc, m⟩)) ∧ Below w.heap.size w w' := by
  have HX := Keep.mk hx
  have HY := Keep.mk hy
  clear hx hy
  have hkb : (k == j) = true := by simpa using hk
  skip
  have hsl : ¬ s.toList = t.toList := fun e => hs (toL_inj e)
  obtain rfl := hk
  skip
  go_enter Try.func17, Try.ntmps17
  refine wp_seq_k fun K1 hK1 => ?_
  refine wp_region_list (WL.out ?_)
  refine WL.box (by kernel_rfl) 40 (.tmp 0) rfl #[.int .i64 k, .string s, .slice va vn vc] rfl ?_
  have C1 := Keep.mk (Blk.new w 40 #[.int .i64 k, .string s, .slice va vn vc])
  have b1 := Keep.mk (below_new w (.cells #[.int .i64 k, .string s, .slice va vn vc] 40))
  change WL _ _ _ _ _ (w.alloc (.cells #[.int .i64 k, .string s, .slice va vn vc] 40))
  generalize w.alloc (.cells #[.int .i64 k, .string s, .slice va vn vc] 40) = w1 at *
  obtain ⟨c, hc0⟩ : ∃ z, Keep (z = w.heap.size) := ⟨_, ⟨rfl⟩⟩
  rw [← hc0.out] at C1 ⊢
  simp only [Act.put, List.setIfInBounds_toArray, List.set_cons_zero, List.set_cons_succ]
  refine WL.box (by kernel_rfl) 40 (.tmp 1) rfl #[.int .i64 k, .string t, .slice ua un uc] rfl ?_
  have D2 := Keep.mk (Blk.new w1 40 #[.int .i64 k, .string t, .slice ua un uc])
  have b2 := Keep.mk (below_new w1 (.cells #[.int .i64 k, .string t, .slice ua un uc] 40))
  change WL _ _ _ _ _ (w1.alloc (.cells #[.int .i64 k, .string t, .slice ua un uc] 40))
  generalize w1.alloc (.cells #[.int .i64 k, .string t, .slice ua un uc] 40) = w2 at *
  obtain ⟨d, hd0⟩ : ∃ z, Keep (z = w1.heap.size) := ⟨_, ⟨rfl⟩⟩
  rw [← hd0.out] at D2 ⊢
  have C2 := Keep.mk (C1.out.below b2.out C1.out.lt)
  have B2 : Keep (Below w.heap.size w w2) := ⟨b1.out.trans (b2.out.mono b1.out.size)⟩
  have q1 := conv_row _ _ w2 (HX.out.below B2.out)
  have q2 := conv_row _ _ w2 (HY.out.below B2.out)
  have c0 := C2.out.c 0 (by rfl : (#[.int .i64 k, .string s, .slice va vn vc] : Array Value)[0]? = some (.int .i64 k))
  have c1 := C2.out.c 1 (by rfl : (#[.int .i64 k, .string s, .slice va vn vc] : Array Value)[1]? = some (.string s))
  have c2 := C2.out.c 2 (by rfl : (#[.int .i64 k, .string s, .slice va vn vc] : Array Value)[2]? = some (.slice va vn vc))
  have d0 := D2.out.c 0 (by rfl : (#[.int .i64 k, .string t, .slice ua un uc] : Array Value)[0]? = some (.int .i64 k))
  have d1 := D2.out.c 1 (by rfl : (#[.int .i64 k, .string t, .slice ua un uc] : Array Value)[1]? = some (.string t))
  have d2 := D2.out.c 2 (by rfl : (#[.int .i64 k, .string t, .slice ua un uc] : Array Value)[2]? = some (.slice ua un uc))
  simp only [Act.put, List.setIfInBounds_toArray, List.set_cons_zero, List.set_cons_succ]
  refine WL.val (by kernel_rfl) (.bool false) (by go_simp) ?_
  simp only [Act.put, List.setIfInBounds_toArray, List.set_cons_zero, List.set_cons_succ]
  refine WL.nil ?_
  refine hK1 _ _ ?_
  refine wp_seq_k fun K2 hK2 => ?_
  refine wp_region_list (WL.out ?_)
  refine WL.val (by kernel_rfl) (.pointer (some ⟨c, 0, none⟩)) (by go_simp) ?_
  simp only [Act.put, List.setIfInBounds_toArray, List.set_cons_zero, List.set_cons_succ]
  refine WL.val (by kernel_rfl) (.int .i64 k) (by go_simp) ?_
  simp only [Act.put, List.setIfInBounds_toArray, List.set_cons_zero, List.set_cons_succ]
  refine WL.val (by kernel_rfl) (.pointer (some ⟨d, 0, none⟩)) (by go_simp) ?_
  simp only [Act.put, List.setIfInBounds_toArray, List.set_cons_zero, List.set_cons_succ]
  refine WL.val (by kernel_rfl) (.int .i64 k) (by go_simp) ?_
  simp only [Act.put, List.setIfInBounds_toArray, List.set_cons_zero, List.set_cons_succ]
  refine WL.val (by kernel_rfl) (.bool true) (by go_simp) ?_
  simp only [Act.put, List.setIfInBounds_toArray, List.set_cons_zero, List.set_cons_succ]
  refine WL.val (by kernel_rfl) (.bool true) (by go_simp) ?_
  simp only [Act.put, List.setIfInBounds_toArray, List.set_cons_zero, List.set_cons_succ]
  refine WL.val (by kernel_rfl) (.pointer (some ⟨c, 1, none⟩)) (by go_simp) ?_
  simp only [Act.put, List.setIfInBounds_toArray, List.set_cons_zero, List.set_cons_succ]
  refine WL.val (by kernel_rfl) (.string s) (by go_simp) ?_
  simp only [Act.put, List.setIfInBounds_toArray, List.set_cons_zero, List.set_cons_succ]
  refine WL.val (by kernel_rfl) (.pointer (some ⟨d, 1, none⟩)) (by go_simp) ?_
  simp only [Act.put, List.setIfInBounds_toArray, List.set_cons_zero, List.set_cons_succ]
  refine WL.val (by kernel_rfl) (.string t) (by go_simp) ?_
  simp only [Act.put, List.setIfInBounds_toArray, List.set_cons_zero, List.set_cons_succ]
  refine WL.val (by kernel_rfl) (.bool false) (by go_simp) ?_
  simp only [Act.put, List.setIfInBounds_toArray, List.set_cons_zero, List.set_cons_succ]
  refine WL.val (by kernel_rfl) (.bool false) (by go_simp) ?_
  simp only [Act.put, List.setIfInBounds_toArray, List.set_cons_zero, List.set_cons_succ]
  refine WL.val (by kernel_rfl) (.bool false) (by go_simp) ?_
  simp only [Act.put, List.setIfInBounds_toArray, List.set_cons_zero, List.set_cons_succ]
  refine WL.skip (by kernel_rfl) ?_
  simp only [Act.put, List.setIfInBounds_toArray, List.set_cons_zero, List.set_cons_succ]
  refine WL.skip (by kernel_rfl) ?_
  simp only [Act.put, List.setIfInBounds_toArray, List.set_cons_zero, List.set_cons_succ]
  refine WL.skip (by kernel_rfl) ?_
  simp only [Act.put, List.setIfInBounds_toArray, List.set_cons_zero, List.set_cons_succ]
  refine WL.skip (by kernel_rfl) ?_
  simp only [Act.put, List.setIfInBounds_toArray, List.set_cons_zero, List.set_cons_succ]
  refine WL.skip (by kernel_rfl) ?_
  simp only [Act.put, List.setIfInBounds_toArray, List.set_cons_zero, List.set_cons_succ]
  refine WL.skip (by kernel_rfl) ?_
  simp only [Act.put, List.setIfInBounds_toArray, List.set_cons_zero, List.set_cons_succ]
  refine WL.skip (by kernel_rfl) ?_
  simp only [Act.put, List.setIfInBounds_toArray, List.set_cons_zero, List.set_cons_succ]
  refine WL.val (by kernel_rfl) (.bool false) (by go_simp) ?_
  simp only [Act.put, List.setIfInBounds_toArray, List.set_cons_zero, List.set_cons_succ]
  refine WL.val (by kernel_rfl) (.bool false) (by go_simp) ?_
  simp only [Act.put, List.setIfInBounds_toArray, List.set_cons_zero, List.set_cons_succ]
  refine WL.nil ?_
  refine hK2 _ _ ?_
  refine wp_ret ?_
  go_ret
  refine ⟨?_, B2.out⟩
  simp [sameC, hs]
set_option maxRecDepth 8000 in
theorem same_v (k j : Int) (s t : ByteArray) (va ua : Option Addr) (vn vc un uc : Nat) (l m : List Int) (w : World) (hx : RowAt w (.slice va vn vc) l) (hy : RowAt w (.slice ua un uc) m) (hk : k = j) (hs : s = t) :
    Calls Try.prog 17 #[.agg #[.int .i64 k, .string s, .slice va vn vc], .agg #[.int .i64 j, .string t, .slice ua un uc]] w fun e w' => e = .returned (.bool (sameC ⟨k, s, .slice va vn vc, l⟩ ⟨j, t, .slice ua un uc, m⟩)) ∧ Below w.heap.size w w' := by
  have HX := Keep.mk hx
  have HY := Keep.mk hy
  clear hx hy
  have hkb : (k == j) = true := by simpa using hk
  skip
  skip
  obtain rfl := hk
  obtain rfl := hs
  go_enter Try.func17, Try.ntmps17
  refine wp_seq_k fun K1 hK1 => ?_
  refine wp_region_list (WL.out ?_)
  refine WL.box (by kernel_rfl) 40 (.tmp 0) rfl #[.int .i64 k, .string s, .slice va vn vc] rfl ?_
  have C1 := Keep.mk (Blk.new w 40 #[.int .i64 k, .string s, .slice va vn vc])
  have b1 := Keep.mk (below_new w (.cells #[.int .i64 k, .string s, .slice va vn vc] 40))
  change WL _ _ _ _ _ (w.alloc (.cells #[.int .i64 k, .string s, .slice va vn vc] 40))
  generalize w.alloc (.cells #[.int .i64 k, .string s, .slice va vn vc] 40) = w1 at *
  obtain ⟨c, hc0⟩ : ∃ z, Keep (z = w.heap.size) := ⟨_, ⟨rfl⟩⟩
  rw [← hc0.out] at C1 ⊢
  simp only [Act.put, List.setIfInBounds_toArray, List.set_cons_zero, List.set_cons_succ]
  refine WL.box (by kernel_rfl) 40 (.tmp 1) rfl #[.int .i64 k, .string s, .slice ua un uc] rfl ?_
  have D2 := Keep.mk (Blk.new w1 40 #[.int .i64 k, .string s, .slice ua un uc])
  have b2 := Keep.mk (below_new w1 (.cells #[.int .i64 k, .string s, .slice ua un uc] 40))
  change WL _ _ _ _ _ (w1.alloc (.cells #[.int .i64 k, .string s, .slice ua un uc] 40))
  generalize w1.alloc (.cells #[.int .i64 k, .string s, .slice ua un uc] 40) = w2 at *
  obtain ⟨d, hd0⟩ : ∃ z, Keep (z = w1.heap.size) := ⟨_, ⟨rfl⟩⟩
  rw [← hd0.out] at D2 ⊢
  have C2 := Keep.mk (C1.out.below b2.out C1.out.lt)
  have B2 : Keep (Below w.heap.size w w2) := ⟨b1.out.trans (b2.out.mono b1.out.size)⟩
  have q1 := conv_row _ _ w2 (HX.out.below B2.out)
  have q2 := conv_row _ _ w2 (HY.out.below B2.out)
  have c0 := C2.out.c 0 (by rfl : (#[.int .i64 k, .string s, .slice va vn vc] : Array Value)[0]? = some (.int .i64 k))
  have c1 := C2.out.c 1 (by rfl : (#[.int .i64 k, .string s, .slice va vn vc] : Array Value)[1]? = some (.string s))
  have c2 := C2.out.c 2 (by rfl : (#[.int .i64 k, .string s, .slice va vn vc] : Array Value)[2]? = some (.slice va vn vc))
  have d0 := D2.out.c 0 (by rfl : (#[.int .i64 k, .string s, .slice ua un uc] : Array Value)[0]? = some (.int .i64 k))
  have d1 := D2.out.c 1 (by rfl : (#[.int .i64 k, .string s, .slice ua un uc] : Array Value)[1]? = some (.string s))
  have d2 := D2.out.c 2 (by rfl : (#[.int .i64 k, .string s, .slice ua un uc] : Array Value)[2]? = some (.slice ua un uc))
  simp only [Act.put, List.setIfInBounds_toArray, List.set_cons_zero, List.set_cons_succ]
  refine WL.val (by kernel_rfl) (.bool false) (by go_simp) ?_
  simp only [Act.put, List.setIfInBounds_toArray, List.set_cons_zero, List.set_cons_succ]
  refine WL.nil ?_
  refine hK1 _ _ ?_
  refine wp_seq_k fun K2 hK2 => ?_
  refine wp_region_list (WL.out ?_)
  refine WL.val (by kernel_rfl) (.pointer (some ⟨c, 0, none⟩)) (by go_simp) ?_
  simp only [Act.put, List.setIfInBounds_toArray, List.set_cons_zero, List.set_cons_succ]
  refine WL.val (by kernel_rfl) (.int .i64 k) (by go_simp) ?_
  simp only [Act.put, List.setIfInBounds_toArray, List.set_cons_zero, List.set_cons_succ]
  refine WL.val (by kernel_rfl) (.pointer (some ⟨d, 0, none⟩)) (by go_simp) ?_
  simp only [Act.put, List.setIfInBounds_toArray, List.set_cons_zero, List.set_cons_succ]
  refine WL.val (by kernel_rfl) (.int .i64 k) (by go_simp) ?_
  simp only [Act.put, List.setIfInBounds_toArray, List.set_cons_zero, List.set_cons_succ]
  refine WL.val (by kernel_rfl) (.bool true) (by go_simp) ?_
  simp only [Act.put, List.setIfInBounds_toArray, List.set_cons_zero, List.set_cons_succ]
  refine WL.val (by kernel_rfl) (.bool true) (by go_simp) ?_
  simp only [Act.put, List.setIfInBounds_toArray, List.set_cons_zero, List.set_cons_succ]
  refine WL.val (by kernel_rfl) (.pointer (some ⟨c, 1, none⟩)) (by go_simp) ?_
  simp only [Act.put, List.setIfInBounds_toArray, List.set_cons_zero, List.set_cons_succ]
  refine WL.val (by kernel_rfl) (.string s) (by go_simp) ?_
  simp only [Act.put, List.setIfInBounds_toArray, List.set_cons_zero, List.set_cons_succ]
  refine WL.val (by kernel_rfl) (.pointer (some ⟨d, 1, none⟩)) (by go_simp) ?_
  simp only [Act.put, List.setIfInBounds_toArray, List.set_cons_zero, List.set_cons_succ]
  refine WL.val (by kernel_rfl) (.string s) (by go_simp) ?_
  simp only [Act.put, List.setIfInBounds_toArray, List.set_cons_zero, List.set_cons_succ]
  refine WL.val (by kernel_rfl) (.bool true) (by go_simp) ?_
  simp only [Act.put, List.setIfInBounds_toArray, List.set_cons_zero, List.set_cons_succ]
  refine WL.val (by kernel_rfl) (.bool true) (by go_simp) ?_
  simp only [Act.put, List.setIfInBounds_toArray, List.set_cons_zero, List.set_cons_succ]
  refine WL.val (by kernel_rfl) (.bool true) (by go_simp) ?_
  simp only [Act.put, List.setIfInBounds_toArray, List.set_cons_zero, List.set_cons_succ]
  refine WL.val (by kernel_rfl) (.pointer (some ⟨c, 2, none⟩)) (by go_simp) ?_
  simp only [Act.put, List.setIfInBounds_toArray, List.set_cons_zero, List.set_cons_succ]
  refine WL.val (by kernel_rfl) (.slice va vn vc) (by go_simp) ?_
  simp only [Act.put, List.setIfInBounds_toArray, List.set_cons_zero, List.set_cons_succ]
  refine WL.val (by kernel_rfl) (.string (strOfNums l)) (by go_simp) ?_
  simp only [Act.put, List.setIfInBounds_toArray, List.set_cons_zero, List.set_cons_succ]
  refine WL.val (by kernel_rfl) (.pointer (some ⟨d, 2, none⟩)) (by go_simp) ?_
  simp only [Act.put, List.setIfInBounds_toArray, List.set_cons_zero, List.set_cons_succ]
  refine WL.val (by kernel_rfl) (.slice ua un uc) (by go_simp) ?_
  simp only [Act.put, List.setIfInBounds_toArray, List.set_cons_zero, List.set_cons_succ]
  refine WL.val (by kernel_rfl) (.string (strOfNums m)) (by go_simp) ?_
  simp only [Act.put, List.setIfInBounds_toArray, List.set_cons_zero, List.set_cons_succ]
  refine WL.val (by kernel_rfl) (.bool ((strOfNums l).toList == (strOfNums m).toList)) (by go_simp) ?_
  simp only [Act.put, List.setIfInBounds_toArray, List.set_cons_zero, List.set_cons_succ]
  refine WL.val (by kernel_rfl) (.bool ((strOfNums l).toList == (strOfNums m).toList)) (by go_simp) ?_
  simp only [Act.put, List.setIfInBounds_toArray, List.set_cons_zero, List.set_cons_succ]
  refine WL.val (by kernel_rfl) (.bool ((strOfNums l).toList == (strOfNums m).toList)) (by go_simp) ?_
  simp only [Act.put, List.setIfInBounds_toArray, List.set_cons_zero, List.set_cons_succ]
  refine WL.nil ?_
  refine hK2 _ _ ?_
  refine wp_ret ?_
  go_ret
  refine ⟨?_, B2.out⟩
  simp only [sameC, decide_true, Bool.true_and]
  rw [toL_beq]
  rfl
theorem sameC_any (c d : CV) (w : World) (hx : RowAt w c.v c.l) (hy : RowAt w d.v d.l) :
    Calls Try.prog 17 #[.agg (cvA c), .agg (cvA d)] w fun e w' => e = .returned (.bool (sameC c d)) ∧ Below w.heap.size w w' := by
  obtain ⟨k, s, v, l⟩ := c
  obtain ⟨j, t, u, m⟩ := d
  obtain ⟨va, vc, hv⟩ := row_form hx
  obtain ⟨ua, uc, hu⟩ := row_form hy
  simp only at hv hu hx hy
  subst hv hu
  by_cases hk : k = j
  · by_cases hs : s = t
    · exact same_v k j s t va ua _ vc _ uc l m w hx hy hk hs
    · exact same_s k j s t va ua _ vc _ uc l m w hx hy hk hs
  · exact same_k k j s t va ua _ vc _ uc l m w hx hy hk

theorem Try.in38 (w : World) (vs : Array Value) : (callFunc 38 vs).run Try.prog w = .ok (.enter 38 vs) w := by kernel_rfl
theorem Try.in35 (w : World) (vs : Array Value) : (callFunc 35 vs).run Try.prog w = .ok (.enter 35 vs) w := by kernel_rfl
theorem Try.newF2 (w : World) : (Instr.alloc 121 true (.tuple #[])).run Try.prog w = .ok (.pointer (some ⟨w.heap.size, 0, none⟩)) (w.alloc (.cells #[.nilFunc] 121)) := by kernel_rfl
set_option maxRecDepth 8000 in
theorem pclimb_any (x : LV) (n i : Nat) (w : World) (hi : Keep (x.num = (i : Int))) (hin : i < n) (Hn : Keep (n < 9223372036854775808)) (hL : LfAt w.heap.size w x) (hF : (0 ≤ x.c.k ∧ x.c.k < 9223372036854775808) ∧ (x.c.s.size ≤ 140737488351232 ∧ x.c.l.length ≤ 140737488351232)) (hP : x.ps.length ≤ 4398046511104) :
    Calls Try.prog 58 #[.agg (lvA x), .int .i64 (n : Int)] w (CQ n i x x.ps w) := by
  have HL := Keep.mk hL
  have HF := Keep.mk hF
  have HP := Keep.mk hP
  clear hL hF hP
  go_enter Try.func58, Try.ntmps58
  refine wp_seq_k fun K1 hK1 => ?_
  refine wp_region_list (WL.out ?_)
  refine WL.box (by kernel_rfl) 69 (.tmp 0) rfl (lvA x) rfl ?_
  have X1 := Keep.mk (Blk.new w 69 (lvA x))
  have b_ := below_new w (.cells (lvA x) 69)
  change WL _ _ _ _ _ (w.alloc (.cells (lvA x) 69))
  generalize w.alloc (.cells (lvA x) 69) = w1 at *
  obtain ⟨px, hpx0⟩ : ∃ z, Keep (z = w.heap.size) := ⟨_, ⟨rfl⟩⟩
  rw [← hpx0.out] at X1 ⊢
  have B1 : Keep (Below w.heap.size w w1) := ⟨b_⟩
  have gpx : Keep (w.heap.size ≤ px) := ⟨by rw [hpx0.out]; exact Nat.le_refl _⟩
  clear b_
  simp only [Act.put, List.setIfInBounds_toArray, List.set_cons_zero, List.set_cons_succ]
  refine WL.new (by kernel_rfl) 25 rfl _ Try.new25 ?_
  have R2 := Keep.mk (Blk.new w1 25 (bytesA 32 fun _ => 0))
  have b_ := below_new w1 (.cells (bytesA 32 fun _ => 0) 25)
  change WL _ _ _ _ _ (w1.alloc (.cells (bytesA 32 fun _ => 0) 25))
  generalize w1.alloc (.cells (bytesA 32 fun _ => 0) 25) = w2 at *
  obtain ⟨r, hr0⟩ : ∃ z, Keep (z = w1.heap.size) := ⟨_, ⟨rfl⟩⟩
  rw [← hr0.out] at R2 ⊢
  have X2 := Keep.mk (X1.out.below b_ X1.out.lt)
  have B2 : Keep (Below w.heap.size w w2) := ⟨B1.out.trans (b_.mono B1.out.size)⟩
  have gr : Keep (w.heap.size ≤ r) := ⟨by rw [hr0.out]; exact B1.out.size⟩
  clear b_
  simp only [Act.put, List.setIfInBounds_toArray, List.set_cons_zero, List.set_cons_succ]
  refine WL.val (by kernel_rfl) (.bool false) (by go_simp) ?_
  simp only [Act.put, List.setIfInBounds_toArray, List.set_cons_zero, List.set_cons_succ]
  refine WL.nil ?_
  refine hK1 _ _ ?_
  refine wp_seq_k fun K2 hK2 => ?_
  refine wp_region_list (WL.out ?_)
  refine WL.new (by kernel_rfl) 121 rfl _ Try.newF2 ?_
  have D3 := Keep.mk (Blk.new w2 121 #[.nilFunc])
  have b_ := below_new w2 (.cells #[.nilFunc] 121)
  change WL _ _ _ _ _ (w2.alloc (.cells #[.nilFunc] 121))
  generalize w2.alloc (.cells #[.nilFunc] 121) = w3 at *
  obtain ⟨pd, hpd0⟩ : ∃ z, Keep (z = w2.heap.size) := ⟨_, ⟨rfl⟩⟩
  rw [← hpd0.out] at D3 ⊢
  have X3 := Keep.mk (X2.out.below b_ X2.out.lt)
  have R3 := Keep.mk (R2.out.below b_ R2.out.lt)
  have B3 : Keep (Below w.heap.size w w3) := ⟨B2.out.trans (b_.mono B2.out.size)⟩
  have gpd : Keep (w.heap.size ≤ pd) := ⟨by rw [hpd0.out]; exact B2.out.size⟩
  clear b_
  have f_o := D3.out.frozen 0
  have c_o := D3.out.c 0 (by rfl : (#[.nilFunc] : Array Value)[0]? = some .nilFunc)
  simp only [Act.put, List.setIfInBounds_toArray, List.set_cons_zero, List.set_cons_succ]
  refine WL.nil ?_
  refine hK2 _ _ ?_
  refine wp_seq_k fun K3 hK3 => ?_
  refine wp_region_list (WL.out ?_)
  refine WL.val (by kernel_rfl) (.func (.func 79) #[] #[ptr px, ptr pd]) (by go_simp) ?_
  simp only [Act.put, List.setIfInBounds_toArray, List.set_cons_zero, List.set_cons_succ]
  refine WL.cell (by kernel_rfl) (w3.setCell ⟨pd, 0, none⟩ (.func (.func 79) #[] #[ptr px, ptr pd])) (by go_simp) ?_
  clear f_o c_o
  have D4 : Keep (Blk (w3.setCell ⟨pd, 0, none⟩ (.func (.func 79) #[] #[ptr px, ptr pd])) pd 121 #[clV px pd]) := ⟨D3.out.set 0 (.func (.func 79) #[] #[ptr px, ptr pd])⟩
  have g_ : Grown w3 (w3.setCell ⟨pd, 0, none⟩ (.func (.func 79) #[] #[ptr px, ptr pd])) (fun k => k = pd) := Grown.setCell w3 pd 0 _ fun _ => rfl
  have B4 : Keep (Below w.heap.size w (w3.setCell ⟨pd, 0, none⟩ (.func (.func 79) #[] #[ptr px, ptr pd]))) := ⟨B3.out.trans (g_.to_below (fun k hk e => by have := gpd.out; omega) B3.out.size)⟩
  have X4 := Keep.mk (g_.blk X3.out (blk_ne X3.out D3.out (by decide)))
  have R4 := Keep.mk (g_.blk R3.out (blk_ne R3.out D3.out (by decide)))
  generalize w3.setCell ⟨pd, 0, none⟩ (.func (.func 79) #[] #[ptr px, ptr pd]) = w4 at *
  clear g_ D3 X3 R3
  have d0 : w4.cell? ⟨pd, 0, none⟩ = some (.func (.func 79) #[] #[ptr px, ptr pd]) := D4.out.c 0 rfl
  have x0 : w4.cell? ⟨px, 0, none⟩ = some (.int .i64 (i : Int)) := by rw [← hi.out]; exact X4.out.c 0 rfl
  have x4 : w4.cell? ⟨px, 4, none⟩ = some x.pv := X4.out.c 4 rfl
  simp only [Act.put]
  refine WL.nil ?_
  refine hK3 _ _ ?_
  refine wp_seq_k fun K4 hK4 => ?_
  refine wp_region_list (WL.out ?_)
  refine WL.val (by kernel_rfl) (.func (.func 79) #[] #[ptr px, ptr pd]) (by go_simp) ?_
  simp only [Act.put, List.setIfInBounds_toArray, List.set_cons_zero, List.set_cons_succ]
  refine WL.val (by kernel_rfl) (.pointer (some ⟨px, 0, none⟩)) (by go_simp) ?_
  simp only [Act.put, List.setIfInBounds_toArray, List.set_cons_zero, List.set_cons_succ]
  refine WL.val (by kernel_rfl) (.int .i64 (i : Int)) (by go_simp) ?_
  simp only [Act.put, List.setIfInBounds_toArray, List.set_cons_zero, List.set_cons_succ]
  refine WL.val (by kernel_rfl) (.int .i64 (n : Int)) (by go_simp) ?_
  simp only [Act.put, List.setIfInBounds_toArray, List.set_cons_zero, List.set_cons_succ]
  refine WL.val (by kernel_rfl) (.pointer (some ⟨px, 4, none⟩)) (by go_simp) ?_
  simp only [Act.put, List.setIfInBounds_toArray, List.set_cons_zero, List.set_cons_succ]
  refine WL.val (by kernel_rfl) (x.pv) (by go_simp) ?_
  simp only [Act.put, List.setIfInBounds_toArray, List.set_cons_zero, List.set_cons_succ]
  clear d0 x0 x4
  have L4 := Keep.mk ((HL.out.below B4.out).mono B4.out.size)
  refine WL.callC (by kernel_rfl) 79 (.tmp 8) _ _ #[ptr px, ptr pd] rfl rfl Try.in79 #[.int .i64 (i : Int), .int .i64 (n : Int), x.pv, ptr px, ptr pd] (by simp [Act.eval]) ?_
  refine (pc_any px pd x HF.out n i w4 (by omega) Hn.out hin ⟨X4.out, D4.out, L4.out.row⟩ L4.out.pa HP.out).mono ?_
  rintro e w5 ⟨cc, ok, rfl, k1, k2⟩
  refine ⟨_, rfl, ?_⟩
  have R5 := Keep.mk (R4.out.below k1 R4.out.lt)
  have B5 : Keep (Below w.heap.size w w5) := ⟨B4.out.trans (k1.mono B4.out.size)⟩
  have M5 := Keep.mk k2
  clear k1 k2 X4 D4 R4 L4
  simp only [Act.put, List.setIfInBounds_toArray, List.set_cons_zero, List.set_cons_succ]
  refine WL.val (by kernel_rfl) (.agg (bytesA 32 cc)) (by go_simp) ?_
  simp only [Act.put, List.setIfInBounds_toArray, List.set_cons_zero, List.set_cons_succ]
  refine WL.val (by kernel_rfl) (.bool ok) (by go_simp) ?_
  simp only [Act.put, List.setIfInBounds_toArray, List.set_cons_zero, List.set_cons_succ]
  refine WL.storeR (by kernel_rfl) 25 (.tmp 4) (.tmp 15) rfl r (bytesA 32 cc) rfl rfl 25 (bytesA 32 fun _ => 0) R5.out (Try.size25B _) (bytesA_sizes _ _ _) (bytesA_one _ _) ?_
  have R9 := Keep.mk (R5.out.setRow (bytesA 32 cc))
  have B9 : Keep (Below w.heap.size w (w5.setRow r (bytesA 32 cc))) := ⟨below_setRow B5.out gr.out _⟩
  generalize w5.setRow r (bytesA 32 cc) = w9 at *
  simp only [Act.put]
  refine WL.val (by kernel_rfl) (.bool ok) (by go_simp) ?_
  simp only [Act.put, List.setIfInBounds_toArray, List.set_cons_zero, List.set_cons_succ]
  refine WL.nil ?_
  refine hK4 _ _ ?_
  refine wp_ret ?_
  try simp only [Exit.inBlock, Exit.then]
  refine bodyPost_ret (v := .tuple #[.agg (bytesA 32 cc), .bool ok]) (results_cell_row2 Try.results58 _ _ r 25 _ (0, 0) _ _ rfl rfl R9.out Try.underlying25 rfl (Try.size25B _)) rfl ⟨cc, ok, rfl, B9.out, M5.out⟩

structure LsAt (B : Nat) (w : World) (b off : Nat) (ls : List LV) : Prop where
  lt : b < B
  at_ : ∀ (i : Nat) (x : LV), ls[i]? = some x → w.rangeAt b (off + i * 5) (lvA x).toList
  lf : ∀ x ∈ ls, LfAt B w x
theorem LsAt.below {B : Nat} {w w' : World} {b off : Nat} {ls : List LV} (h : LsAt B w b off ls) (hb : Below B w w') : LsAt B w' b off ls :=
  ⟨h.lt, fun i x hx => rangeAt_below (h.at_ i x hx) hb h.lt, fun x hx => (h.lf x hx).below hb⟩
def LsV (B : Nat) (w : World) (v : Value) (ls : List LV) : Prop :=
  (∃ a c, v = .slice a 0 c ∧ ls = []) ∨ ∃ b off cap, v = .slice (some ⟨b, off, none⟩) ls.length cap ∧ ls.length ≤ cap ∧ LsAt B w b off ls
theorem LsV.below {B : Nat} {w w' : World} {v : Value} {ls : List LV} (h : LsV B w v ls) (hb : Below B w w') : LsV B w' v ls := by
  rcases h with h | ⟨b, off, cap, h1, h2, h3⟩
  · exact .inl h
  · exact .inr ⟨b, off, cap, h1, h2, h3.below hb⟩
theorem LsV.mono {B B' : Nat} {w : World} {v : Value} {ls : List LV} (h : LsV B w v ls) (hB : B ≤ B') : LsV B' w v ls := by
  rcases h with h | ⟨b, off, cap, h1, h2, h3⟩
  · exact .inl h
  · exact .inr ⟨b, off, cap, h1, h2, ⟨Nat.lt_of_lt_of_le h3.lt hB, h3.at_, fun x hx => (h3.lf x hx).mono hB⟩⟩
theorem LsV.form {B : Nat} {w : World} {v : Value} {ls : List LV} (h : LsV B w v ls) : ∃ la cap, v = .slice la ls.length cap ∧ (0 < ls.length → ∃ b off, la = some ⟨b, off, none⟩ ∧ LsAt B w b off ls) := by
  rcases h with ⟨a, c, rfl, rfl⟩ | ⟨b, off, cap, rfl, h2, h3⟩
  · exact ⟨a, c, rfl, fun h => by simp at h⟩
  · exact ⟨_, cap, rfl, fun _ => ⟨b, off, rfl, h3⟩⟩
def wtA (n : Int) (v : Value) : Array Value := #[.int .i64 n, v]
theorem rng_mid {w : World} {b o : Nat} {x : LV} (h : w.rangeAt b o (lvA x).toList) : w.rangeAt b (o + 1) (cvA x.c).toList := fun j v hv => by
  have h1 := h (1 + j) v (by
    match j, hv with
    | 0, h => exact h
    | 1, h => exact h
    | 2, h => exact h
    | j + 3, h => simp [cvA] at h)
  rw [show o + 1 + j = o + (1 + j) by omega]; exact h1
def tellB (ls : List LV) (kind : Int) (key : ByteArray) : Bool := match ls with
  | [x] => decide (stI x.c.k x.c.s kind key = 0)
  | _ => false
set_option maxRecDepth 8000 in
theorem tell_one (b off cap : Nat) (n kind : Int) (key : ByteArray) (x : LV) (w : World) (hR : ∀ wx, Below w.heap.size w wx → wx.rangeAt b off (lvA x).toList) :
    Calls Try.prog 38 #[.agg (wtA n (.slice (some ⟨b, off, none⟩) 1 cap)), .int .i64 kind, .string key] w fun e w' => e = .returned (.bool (tellB [x] kind key)) ∧ Below w.heap.size w w' := by
  have HR := Keep.mk hR
  clear hR
  have hbd : (stI x.c.k x.c.s kind key == 0) = decide (stI x.c.k x.c.s kind key = 0) := by rw [Bool.eq_iff_iff]; simp
  go_enter Try.func38, Try.ntmps38
  refine wp_seq_k fun K1 hK1 => ?_
  refine wp_region_list (WL.out ?_)
  refine WL.box (by kernel_rfl) 31 (.tmp 0) rfl (wtA n (.slice (some ⟨b, off, none⟩) 1 cap)) rfl ?_
  have W1 := Keep.mk (Blk.new w 31 (wtA n (.slice (some ⟨b, off, none⟩) 1 cap)))
  have b_ := below_new w (.cells (wtA n (.slice (some ⟨b, off, none⟩) 1 cap)) 31)
  change WL _ _ _ _ _ (w.alloc (.cells (wtA n (.slice (some ⟨b, off, none⟩) 1 cap)) 31))
  generalize w.alloc (.cells (wtA n (.slice (some ⟨b, off, none⟩) 1 cap)) 31) = w1 at *
  obtain ⟨d, hd0⟩ : ∃ z, Keep (z = w.heap.size) := ⟨_, ⟨rfl⟩⟩
  rw [← hd0.out] at W1 ⊢
  have B1 : Keep (Below w.heap.size w w1) := ⟨b_⟩
  have gd : Keep (w.heap.size ≤ d) := ⟨by rw [hd0.out]; exact Nat.le_refl _⟩
  clear b_
  have w0_ : w1.cell? ⟨d, 0, none⟩ = some (.int .i64 n) := W1.out.c 0 rfl
  have w1_ : w1.cell? ⟨d, 1, none⟩ = some (.slice (some ⟨b, off, none⟩) 1 cap) := W1.out.c 1 rfl
  simp only [Act.put, List.setIfInBounds_toArray, List.set_cons_zero, List.set_cons_succ]
  refine WL.val (by kernel_rfl) (.bool false) (by go_simp) ?_
  simp only [Act.put, List.setIfInBounds_toArray, List.set_cons_zero, List.set_cons_succ]
  refine WL.nil ?_
  refine hK1 _ _ ?_
  refine wp_seq_k fun K2 hK2 => ?_
  refine wp_region_list (WL.out ?_)
  refine WL.val (by kernel_rfl) (.pointer (some ⟨d, 1, none⟩)) (by go_simp) ?_
  simp only [Act.put, List.setIfInBounds_toArray, List.set_cons_zero, List.set_cons_succ]
  refine WL.val (by kernel_rfl) (.slice (some ⟨b, off, none⟩) 1 cap) (by go_simp) ?_
  simp only [Act.put, List.setIfInBounds_toArray, List.set_cons_zero, List.set_cons_succ]
  refine WL.val (by kernel_rfl) (.int .i64 1) (by go_simp) ?_
  simp only [Act.put, List.setIfInBounds_toArray, List.set_cons_zero, List.set_cons_succ]
  refine WL.val (by kernel_rfl) (.bool true) (by go_simp) ?_
  simp only [Act.put, List.setIfInBounds_toArray, List.set_cons_zero, List.set_cons_succ]
  refine WL.val (by kernel_rfl) (.bool true) (by go_simp) ?_
  simp only [Act.put, List.setIfInBounds_toArray, List.set_cons_zero, List.set_cons_succ]
  refine WL.val (by kernel_rfl) (.pointer (some ⟨d, 1, none⟩)) (by go_simp) ?_
  simp only [Act.put, List.setIfInBounds_toArray, List.set_cons_zero, List.set_cons_succ]
  refine WL.val (by kernel_rfl) (.slice (some ⟨b, off, none⟩) 1 cap) (by go_simp) ?_
  simp only [Act.put, List.setIfInBounds_toArray, List.set_cons_zero, List.set_cons_succ]
  refine WL.val (by kernel_rfl) (.pointer (some ⟨b, off, none⟩)) (by go_simp) ?_
  simp only [Act.put, List.setIfInBounds_toArray, List.set_cons_zero, List.set_cons_succ]
  refine WL.val (by kernel_rfl) (.pointer (some ⟨b, off + 1, none⟩)) (by go_simp) ?_
  clear w0_ w1_
  simp only [Act.put, List.setIfInBounds_toArray, List.set_cons_zero, List.set_cons_succ]
  refine WL.midA (by kernel_rfl) 40 (.tmp 15) rfl b (off + 1) rfl (cvA x.c) _ (rng_mid (HR.out w1 B1.out)) Try.underlying40 rfl (Try.sizeC _ _ _) ?_
  simp only [Act.put, List.setIfInBounds_toArray, List.set_cons_zero, List.set_cons_succ]
  refine WL.val (by kernel_rfl) (.int .i64 kind) (by go_simp) ?_
  simp only [Act.put, List.setIfInBounds_toArray, List.set_cons_zero, List.set_cons_succ]
  refine WL.val (by kernel_rfl) (.string key) (by go_simp) ?_
  simp only [Act.put, List.setIfInBounds_toArray, List.set_cons_zero, List.set_cons_succ]
  refine WL.callF (by kernel_rfl) 46 _ _ rfl Try.in46 #[.agg (cvA x.c), .int .i64 kind, .string key] (by simp [Act.eval]) ?_
  refine (stands_any x.c.k kind x.c.s key x.c.v w1).mono ?_
  rintro e w2 ⟨rfl, k1⟩
  refine ⟨_, rfl, ?_⟩
  have B2 : Keep (Below w.heap.size w w2) := ⟨B1.out.trans (k1.mono B1.out.size)⟩
  clear k1
  simp only [Act.put, List.setIfInBounds_toArray, List.set_cons_zero, List.set_cons_succ]
  refine WL.val (by kernel_rfl) (.bool (decide (stI x.c.k x.c.s kind key = 0))) (by go_simp) ?_
  simp only [Act.put, List.setIfInBounds_toArray, List.set_cons_zero, List.set_cons_succ]
  refine WL.val (by kernel_rfl) (.bool (decide (stI x.c.k x.c.s kind key = 0))) (by go_simp) ?_
  simp only [Act.put, List.setIfInBounds_toArray, List.set_cons_zero, List.set_cons_succ]
  refine WL.val (by kernel_rfl) (.bool (decide (stI x.c.k x.c.s kind key = 0))) (by go_simp) ?_
  simp only [Act.put, List.setIfInBounds_toArray, List.set_cons_zero, List.set_cons_succ]
  refine WL.nil ?_
  refine hK2 _ _ ?_
  refine wp_ret ?_
  go_ret
  exact ⟨rfl, B2.out⟩
set_option maxRecDepth 8000 in
theorem tell_no (la : Option Addr) (m cap : Nat) (n kind : Int) (key : ByteArray) (w : World) (hm : ¬ m = 1) :
    Calls Try.prog 38 #[.agg (wtA n (.slice la m cap)), .int .i64 kind, .string key] w fun e w' => e = .returned (.bool false) ∧ Below w.heap.size w w' := by
  have hm' : ((m : Int) == 1) = false := by simp; omega
  go_enter Try.func38, Try.ntmps38
  refine wp_seq_k fun K1 hK1 => ?_
  refine wp_region_list (WL.out ?_)
  refine WL.box (by kernel_rfl) 31 (.tmp 0) rfl (wtA n (.slice la m cap)) rfl ?_
  have W1 := Keep.mk (Blk.new w 31 (wtA n (.slice la m cap)))
  have b_ := below_new w (.cells (wtA n (.slice la m cap)) 31)
  change WL _ _ _ _ _ (w.alloc (.cells (wtA n (.slice la m cap)) 31))
  generalize w.alloc (.cells (wtA n (.slice la m cap)) 31) = w1 at *
  obtain ⟨d, hd0⟩ : ∃ z, Keep (z = w.heap.size) := ⟨_, ⟨rfl⟩⟩
  rw [← hd0.out] at W1 ⊢
  have B1 : Keep (Below w.heap.size w w1) := ⟨b_⟩
  have gd : Keep (w.heap.size ≤ d) := ⟨by rw [hd0.out]; exact Nat.le_refl _⟩
  clear b_
  have w0_ : w1.cell? ⟨d, 0, none⟩ = some (.int .i64 n) := W1.out.c 0 rfl
  have w1_ : w1.cell? ⟨d, 1, none⟩ = some (.slice la m cap) := W1.out.c 1 rfl
  simp only [Act.put, List.setIfInBounds_toArray, List.set_cons_zero, List.set_cons_succ]
  refine WL.val (by kernel_rfl) (.bool false) (by go_simp) ?_
  simp only [Act.put, List.setIfInBounds_toArray, List.set_cons_zero, List.set_cons_succ]
  refine WL.nil ?_
  refine hK1 _ _ ?_
  refine wp_seq_k fun K2 hK2 => ?_
  refine wp_region_list (WL.out ?_)
  refine WL.val (by kernel_rfl) (.pointer (some ⟨d, 1, none⟩)) (by go_simp) ?_
  simp only [Act.put, List.setIfInBounds_toArray, List.set_cons_zero, List.set_cons_succ]
  refine WL.val (by kernel_rfl) (.slice la m cap) (by go_simp) ?_
  simp only [Act.put, List.setIfInBounds_toArray, List.set_cons_zero, List.set_cons_succ]
  refine WL.val (by kernel_rfl) (.int .i64 (m : Int)) (by go_simp) ?_
  simp only [Act.put, List.setIfInBounds_toArray, List.set_cons_zero, List.set_cons_succ]
  refine WL.val (by kernel_rfl) (.bool false) (by go_simp) ?_
  simp only [Act.put, List.setIfInBounds_toArray, List.set_cons_zero, List.set_cons_succ]
  refine WL.val (by kernel_rfl) (.bool false) (by go_simp) ?_
  simp only [Act.put, List.setIfInBounds_toArray, List.set_cons_zero, List.set_cons_succ]
  refine WL.skip (by kernel_rfl) ?_
  simp only [Act.put, List.setIfInBounds_toArray, List.set_cons_zero, List.set_cons_succ]
  refine WL.skip (by kernel_rfl) ?_
  simp only [Act.put, List.setIfInBounds_toArray, List.set_cons_zero, List.set_cons_succ]
  refine WL.skip (by kernel_rfl) ?_
  simp only [Act.put, List.setIfInBounds_toArray, List.set_cons_zero, List.set_cons_succ]
  refine WL.skip (by kernel_rfl) ?_
  simp only [Act.put, List.setIfInBounds_toArray, List.set_cons_zero, List.set_cons_succ]
  refine WL.skip (by kernel_rfl) ?_
  simp only [Act.put, List.setIfInBounds_toArray, List.set_cons_zero, List.set_cons_succ]
  refine WL.skip (by kernel_rfl) ?_
  simp only [Act.put, List.setIfInBounds_toArray, List.set_cons_zero, List.set_cons_succ]
  refine WL.skip (by kernel_rfl) ?_
  simp only [Act.put, List.setIfInBounds_toArray, List.set_cons_zero, List.set_cons_succ]
  refine WL.skip (by kernel_rfl) ?_
  simp only [Act.put, List.setIfInBounds_toArray, List.set_cons_zero, List.set_cons_succ]
  refine WL.skip (by kernel_rfl) ?_
  simp only [Act.put, List.setIfInBounds_toArray, List.set_cons_zero, List.set_cons_succ]
  refine WL.val (by kernel_rfl) (.bool false) (by go_simp) ?_
  simp only [Act.put, List.setIfInBounds_toArray, List.set_cons_zero, List.set_cons_succ]
  refine WL.val (by kernel_rfl) (.bool false) (by go_simp) ?_
  simp only [Act.put, List.setIfInBounds_toArray, List.set_cons_zero, List.set_cons_succ]
  refine WL.nil ?_
  refine hK2 _ _ ?_
  refine wp_ret ?_
  go_ret
  exact ⟨rfl, B1.out⟩

theorem tell_any (v : Value) (n kind : Int) (key : ByteArray) (ls : List LV) (w : World) (hL : LsV w.heap.size w v ls) :
    Calls Try.prog 38 #[.agg (wtA n v), .int .i64 kind, .string key] w fun e w' => e = .returned (.bool (tellB ls kind key)) ∧ Below w.heap.size w w' := by
  obtain ⟨la, cap, rfl, hA⟩ := hL.form
  match ls, hA with
  | [], _ => exact tell_no la 0 cap n kind key w (by omega)
  | [x], hA =>
    obtain ⟨b, off, rfl, h⟩ := hA (by simp)
    exact tell_one b off cap n kind key x w fun wx hb => by have := (h.below hb).at_ 0 x rfl; simpa using this
  | x :: y :: r, _ => exact tell_no la _ cap n kind key w (by simp)
def okL (n : Int) (x : LV) : Bool := decide (0 ≤ x.num) && (decide (x.num < n) && kmay x.c.k)
def formB (n : Int) (ls : List LV) : Bool := if n = 0 then decide (ls.length = 0) else if n < 0 ∨ ls.length < 1 ∨ 2 < ls.length then false else ls.all (okL n)
set_option maxRecDepth 8000 in
theorem form_zero (la : Option Addr) (m cap : Nat) (w : World) : Calls Try.prog 35 #[.agg (wtA 0 (.slice la m cap))] w fun e w' => e = .returned (.bool (decide (m = 0))) ∧ Below w.heap.size w w' := by
  have hm0 : ((m : Int) == 0) = decide (m = 0) := by rw [Bool.eq_iff_iff]; simp
  go_enter Try.func35, Try.ntmps35
  refine wp_seq_k fun K1 hK1 => ?_
  refine wp_region_list (WL.out ?_)
  refine WL.box (by kernel_rfl) 31 (.tmp 0) rfl (wtA 0 (.slice la m cap)) rfl ?_
  have W1 := Keep.mk (Blk.new w 31 (wtA 0 (.slice la m cap)))
  have b_ := below_new w (.cells (wtA 0 (.slice la m cap)) 31)
  change WL _ _ _ _ _ (w.alloc (.cells (wtA 0 (.slice la m cap)) 31))
  generalize w.alloc (.cells (wtA 0 (.slice la m cap)) 31) = w1 at *
  obtain ⟨d, hd0⟩ : ∃ z, Keep (z = w.heap.size) := ⟨_, ⟨rfl⟩⟩
  rw [← hd0.out] at W1 ⊢
  have B1 : Keep (Below w.heap.size w w1) := ⟨b_⟩
  have gd : Keep (w.heap.size ≤ d) := ⟨by rw [hd0.out]; exact Nat.le_refl _⟩
  clear b_
  have w0_ : w1.cell? ⟨d, 0, none⟩ = some (.int .i64 0) := W1.out.c 0 rfl
  have w1_ : w1.cell? ⟨d, 1, none⟩ = some (.slice la m cap) := W1.out.c 1 rfl
  simp only [Act.put, List.setIfInBounds_toArray, List.set_cons_zero, List.set_cons_succ]
  refine WL.val (by kernel_rfl) (.bool false) (by go_simp) ?_
  simp only [Act.put, List.setIfInBounds_toArray, List.set_cons_zero, List.set_cons_succ]
  refine WL.nil ?_
  refine hK1 _ _ ?_
  refine wp_seq_k fun K2 hK2 => ?_
  refine wp_seq_k fun K3 hK3 => ?_
  refine wp_region_list (WL.out ?_)
  refine WL.val (by kernel_rfl) (.pointer (some ⟨d, 0, none⟩)) (by go_simp) ?_
  simp only [Act.put, List.setIfInBounds_toArray, List.set_cons_zero, List.set_cons_succ]
  refine WL.val (by kernel_rfl) (.int .i64 0) (by go_simp) ?_
  simp only [Act.put, List.setIfInBounds_toArray, List.set_cons_zero, List.set_cons_succ]
  refine WL.val (by kernel_rfl) (.bool true) (by go_simp) ?_
  simp only [Act.put, List.setIfInBounds_toArray, List.set_cons_zero, List.set_cons_succ]
  refine WL.nil ?_
  refine hK3 _ _ ?_
  refine wp_cond_true rfl ?_
  refine wp_seq_k fun K4 hK4 => ?_
  refine wp_region_list (WL.out ?_)
  refine WL.val (by kernel_rfl) (.pointer (some ⟨d, 1, none⟩)) (by go_simp) ?_
  simp only [Act.put, List.setIfInBounds_toArray, List.set_cons_zero, List.set_cons_succ]
  refine WL.val (by kernel_rfl) (.slice la m cap) (by go_simp) ?_
  simp only [Act.put, List.setIfInBounds_toArray, List.set_cons_zero, List.set_cons_succ]
  refine WL.val (by kernel_rfl) (.int .i64 (m : Int)) (by go_simp) ?_
  simp only [Act.put, List.setIfInBounds_toArray, List.set_cons_zero, List.set_cons_succ]
  refine WL.val (by kernel_rfl) (.bool (decide (m = 0))) (by go_simp) ?_
  simp only [Act.put, List.setIfInBounds_toArray, List.set_cons_zero, List.set_cons_succ]
  refine WL.val (by kernel_rfl) (.bool (decide (m = 0))) (by go_simp) ?_
  simp only [Act.put, List.setIfInBounds_toArray, List.set_cons_zero, List.set_cons_succ]
  refine WL.nil ?_
  refine hK4 _ _ ?_
  refine wp_ret ?_
  go_ret
  exact ⟨rfl, B1.out⟩

set_option maxRecDepth 8000 in
theorem form_neg (la : Option Addr) (m cap : Nat) (n : Int) (w : World) (hn : n < 0) : Calls Try.prog 35 #[.agg (wtA n (.slice la m cap))] w fun e w' => e = .returned (.bool false) ∧ Below w.heap.size w w' := by
  have hn0 : (n == 0) = false := by simp; omega
  have hn0' : ¬ n = 0 := by omega
  go_enter Try.func35, Try.ntmps35
  refine wp_seq_k fun K1 hK1 => ?_
  refine wp_region_list (WL.out ?_)
  refine WL.box (by kernel_rfl) 31 (.tmp 0) rfl (wtA n (.slice la m cap)) rfl ?_
  have W1 := Keep.mk (Blk.new w 31 (wtA n (.slice la m cap)))
  have b_ := below_new w (.cells (wtA n (.slice la m cap)) 31)
  change WL _ _ _ _ _ (w.alloc (.cells (wtA n (.slice la m cap)) 31))
  generalize w.alloc (.cells (wtA n (.slice la m cap)) 31) = w1 at *
  obtain ⟨d, hd0⟩ : ∃ z, Keep (z = w.heap.size) := ⟨_, ⟨rfl⟩⟩
  rw [← hd0.out] at W1 ⊢
  have B1 : Keep (Below w.heap.size w w1) := ⟨b_⟩
  have gd : Keep (w.heap.size ≤ d) := ⟨by rw [hd0.out]; exact Nat.le_refl _⟩
  clear b_
  have w0_ : w1.cell? ⟨d, 0, none⟩ = some (.int .i64 n) := W1.out.c 0 rfl
  have w1_ : w1.cell? ⟨d, 1, none⟩ = some (.slice la m cap) := W1.out.c 1 rfl
  simp only [Act.put, List.setIfInBounds_toArray, List.set_cons_zero, List.set_cons_succ]
  refine WL.val (by kernel_rfl) (.bool false) (by go_simp) ?_
  simp only [Act.put, List.setIfInBounds_toArray, List.set_cons_zero, List.set_cons_succ]
  refine WL.nil ?_
  refine hK1 _ _ ?_
  refine wp_seq_k fun K2 hK2 => ?_
  refine wp_seq_k fun K3 hK3 => ?_
  refine wp_region_list (WL.out ?_)
  refine WL.val (by kernel_rfl) (.pointer (some ⟨d, 0, none⟩)) (by go_simp) ?_
  simp only [Act.put, List.setIfInBounds_toArray, List.set_cons_zero, List.set_cons_succ]
  refine WL.val (by kernel_rfl) (.int .i64 n) (by go_simp) ?_
  simp only [Act.put, List.setIfInBounds_toArray, List.set_cons_zero, List.set_cons_succ]
  refine WL.val (by kernel_rfl) (.bool false) (by go_simp) ?_
  simp only [Act.put, List.setIfInBounds_toArray, List.set_cons_zero, List.set_cons_succ]
  refine WL.nil ?_
  refine hK3 _ _ ?_
  refine wp_cond_false rfl ?_
  refine wp_skip ?_
  refine hK2 _ _ ?_
  refine wp_seq_k fun K4 hK4 => ?_
  refine wp_seq_k fun K5 hK5 => ?_
  refine wp_region_list (WL.out ?_)
  refine WL.val (by kernel_rfl) (.pointer (some ⟨d, 0, none⟩)) (by go_simp) ?_
  simp only [Act.put, List.setIfInBounds_toArray, List.set_cons_zero, List.set_cons_succ]
  refine WL.val (by kernel_rfl) (.int .i64 n) (by go_simp) ?_
  simp only [Act.put, List.setIfInBounds_toArray, List.set_cons_zero, List.set_cons_succ]
  refine WL.val (by kernel_rfl) (.bool true) (by go_simp) ?_
  simp only [Act.put, List.setIfInBounds_toArray, List.set_cons_zero, List.set_cons_succ]
  refine WL.val (by kernel_rfl) (.bool true) (by go_simp) ?_
  simp only [Act.put, List.setIfInBounds_toArray, List.set_cons_zero, List.set_cons_succ]
  refine WL.skip (by kernel_rfl) ?_
  simp only [Act.put, List.setIfInBounds_toArray, List.set_cons_zero, List.set_cons_succ]
  refine WL.skip (by kernel_rfl) ?_
  simp only [Act.put, List.setIfInBounds_toArray, List.set_cons_zero, List.set_cons_succ]
  refine WL.skip (by kernel_rfl) ?_
  simp only [Act.put, List.setIfInBounds_toArray, List.set_cons_zero, List.set_cons_succ]
  refine WL.skip (by kernel_rfl) ?_
  simp only [Act.put, List.setIfInBounds_toArray, List.set_cons_zero, List.set_cons_succ]
  refine WL.val (by kernel_rfl) (.bool true) (by go_simp) ?_
  simp only [Act.put, List.setIfInBounds_toArray, List.set_cons_zero, List.set_cons_succ]
  refine WL.val (by kernel_rfl) (.bool true) (by go_simp) ?_
  simp only [Act.put, List.setIfInBounds_toArray, List.set_cons_zero, List.set_cons_succ]
  refine WL.skip (by kernel_rfl) ?_
  simp only [Act.put, List.setIfInBounds_toArray, List.set_cons_zero, List.set_cons_succ]
  refine WL.skip (by kernel_rfl) ?_
  simp only [Act.put, List.setIfInBounds_toArray, List.set_cons_zero, List.set_cons_succ]
  refine WL.skip (by kernel_rfl) ?_
  simp only [Act.put, List.setIfInBounds_toArray, List.set_cons_zero, List.set_cons_succ]
  refine WL.skip (by kernel_rfl) ?_
  simp only [Act.put, List.setIfInBounds_toArray, List.set_cons_zero, List.set_cons_succ]
  refine WL.val (by kernel_rfl) (.bool true) (by go_simp) ?_
  simp only [Act.put, List.setIfInBounds_toArray, List.set_cons_zero, List.set_cons_succ]
  refine WL.nil ?_
  refine hK5 _ _ ?_
  refine wp_cond_true rfl ?_
  refine wp_seq_k fun K6 hK6 => ?_
  refine wp_region_list (WL.out ?_)
  refine WL.val (by kernel_rfl) (.bool false) (by go_simp) ?_
  simp only [Act.put, List.setIfInBounds_toArray, List.set_cons_zero, List.set_cons_succ]
  refine WL.nil ?_
  refine hK6 _ _ ?_
  refine wp_ret ?_
  go_ret
  exact ⟨rfl, B1.out⟩

set_option maxRecDepth 8000 in
theorem form_few (la : Option Addr) (m cap : Nat) (n : Int) (w : World) (hn : 0 < n) (hm : m < 1) : Calls Try.prog 35 #[.agg (wtA n (.slice la m cap))] w fun e w' => e = .returned (.bool false) ∧ Below w.heap.size w w' := by
  have hn0 : (n == 0) = false := by simp; omega
  have hn0' : ¬ n = 0 := by omega
  have hn1 : ¬ n < 0 := by omega
  have hm1 : (m : Int) < 1 := by omega
  go_enter Try.func35, Try.ntmps35
  refine wp_seq_k fun K1 hK1 => ?_
  refine wp_region_list (WL.out ?_)
  refine WL.box (by kernel_rfl) 31 (.tmp 0) rfl (wtA n (.slice la m cap)) rfl ?_
  have W1 := Keep.mk (Blk.new w 31 (wtA n (.slice la m cap)))
  have b_ := below_new w (.cells (wtA n (.slice la m cap)) 31)
  change WL _ _ _ _ _ (w.alloc (.cells (wtA n (.slice la m cap)) 31))
  generalize w.alloc (.cells (wtA n (.slice la m cap)) 31) = w1 at *
  obtain ⟨d, hd0⟩ : ∃ z, Keep (z = w.heap.size) := ⟨_, ⟨rfl⟩⟩
  rw [← hd0.out] at W1 ⊢
  have B1 : Keep (Below w.heap.size w w1) := ⟨b_⟩
  have gd : Keep (w.heap.size ≤ d) := ⟨by rw [hd0.out]; exact Nat.le_refl _⟩
  clear b_
  have w0_ : w1.cell? ⟨d, 0, none⟩ = some (.int .i64 n) := W1.out.c 0 rfl
  have w1_ : w1.cell? ⟨d, 1, none⟩ = some (.slice la m cap) := W1.out.c 1 rfl
  simp only [Act.put, List.setIfInBounds_toArray, List.set_cons_zero, List.set_cons_succ]
  refine WL.val (by kernel_rfl) (.bool false) (by go_simp) ?_
  simp only [Act.put, List.setIfInBounds_toArray, List.set_cons_zero, List.set_cons_succ]
  refine WL.nil ?_
  refine hK1 _ _ ?_
  refine wp_seq_k fun K2 hK2 => ?_
  refine wp_seq_k fun K3 hK3 => ?_
  refine wp_region_list (WL.out ?_)
  refine WL.val (by kernel_rfl) (.pointer (some ⟨d, 0, none⟩)) (by go_simp) ?_
  simp only [Act.put, List.setIfInBounds_toArray, List.set_cons_zero, List.set_cons_succ]
  refine WL.val (by kernel_rfl) (.int .i64 n) (by go_simp) ?_
  simp only [Act.put, List.setIfInBounds_toArray, List.set_cons_zero, List.set_cons_succ]
  refine WL.val (by kernel_rfl) (.bool false) (by go_simp) ?_
  simp only [Act.put, List.setIfInBounds_toArray, List.set_cons_zero, List.set_cons_succ]
  refine WL.nil ?_
  refine hK3 _ _ ?_
  refine wp_cond_false rfl ?_
  refine wp_skip ?_
  refine hK2 _ _ ?_
  refine wp_seq_k fun K4 hK4 => ?_
  refine wp_seq_k fun K5 hK5 => ?_
  refine wp_region_list (WL.out ?_)
  refine WL.val (by kernel_rfl) (.pointer (some ⟨d, 0, none⟩)) (by go_simp) ?_
  simp only [Act.put, List.setIfInBounds_toArray, List.set_cons_zero, List.set_cons_succ]
  refine WL.val (by kernel_rfl) (.int .i64 n) (by go_simp) ?_
  simp only [Act.put, List.setIfInBounds_toArray, List.set_cons_zero, List.set_cons_succ]
  refine WL.val (by kernel_rfl) (.bool false) (by go_simp) ?_
  simp only [Act.put, List.setIfInBounds_toArray, List.set_cons_zero, List.set_cons_succ]
  refine WL.val (by kernel_rfl) (.bool false) (by go_simp) ?_
  simp only [Act.put, List.setIfInBounds_toArray, List.set_cons_zero, List.set_cons_succ]
  refine WL.val (by kernel_rfl) (.pointer (some ⟨d, 1, none⟩)) (by go_simp) ?_
  simp only [Act.put, List.setIfInBounds_toArray, List.set_cons_zero, List.set_cons_succ]
  refine WL.val (by kernel_rfl) (.slice la m cap) (by go_simp) ?_
  simp only [Act.put, List.setIfInBounds_toArray, List.set_cons_zero, List.set_cons_succ]
  refine WL.val (by kernel_rfl) (.int .i64 (m : Int)) (by go_simp) ?_
  simp only [Act.put, List.setIfInBounds_toArray, List.set_cons_zero, List.set_cons_succ]
  refine WL.val (by kernel_rfl) (.bool true) (by go_simp) ?_
  simp only [Act.put, List.setIfInBounds_toArray, List.set_cons_zero, List.set_cons_succ]
  refine WL.val (by kernel_rfl) (.bool true) (by go_simp) ?_
  simp only [Act.put, List.setIfInBounds_toArray, List.set_cons_zero, List.set_cons_succ]
  refine WL.val (by kernel_rfl) (.bool true) (by go_simp) ?_
  simp only [Act.put, List.setIfInBounds_toArray, List.set_cons_zero, List.set_cons_succ]
  refine WL.skip (by kernel_rfl) ?_
  simp only [Act.put, List.setIfInBounds_toArray, List.set_cons_zero, List.set_cons_succ]
  refine WL.skip (by kernel_rfl) ?_
  simp only [Act.put, List.setIfInBounds_toArray, List.set_cons_zero, List.set_cons_succ]
  refine WL.skip (by kernel_rfl) ?_
  simp only [Act.put, List.setIfInBounds_toArray, List.set_cons_zero, List.set_cons_succ]
  refine WL.skip (by kernel_rfl) ?_
  simp only [Act.put, List.setIfInBounds_toArray, List.set_cons_zero, List.set_cons_succ]
  refine WL.val (by kernel_rfl) (.bool true) (by go_simp) ?_
  simp only [Act.put, List.setIfInBounds_toArray, List.set_cons_zero, List.set_cons_succ]
  refine WL.nil ?_
  refine hK5 _ _ ?_
  refine wp_cond_true rfl ?_
  refine wp_seq_k fun K6 hK6 => ?_
  refine wp_region_list (WL.out ?_)
  refine WL.val (by kernel_rfl) (.bool false) (by go_simp) ?_
  simp only [Act.put, List.setIfInBounds_toArray, List.set_cons_zero, List.set_cons_succ]
  refine WL.nil ?_
  refine hK6 _ _ ?_
  refine wp_ret ?_
  go_ret
  exact ⟨rfl, B1.out⟩

set_option maxRecDepth 8000 in
theorem form_many (la : Option Addr) (m cap : Nat) (n : Int) (w : World) (hn : 0 < n) (hm : 2 < m) : Calls Try.prog 35 #[.agg (wtA n (.slice la m cap))] w fun e w' => e = .returned (.bool false) ∧ Below w.heap.size w w' := by
  have hn0 : (n == 0) = false := by simp; omega
  have hn0' : ¬ n = 0 := by omega
  have hn1 : ¬ n < 0 := by omega
  have hm1 : ¬ (m : Int) < 1 := by omega
  have hm2 : 2 < (m : Int) := by omega
  have hm2' : (m : Int) > 2 := by omega
  go_enter Try.func35, Try.ntmps35
  refine wp_seq_k fun K1 hK1 => ?_
  refine wp_region_list (WL.out ?_)
  refine WL.box (by kernel_rfl) 31 (.tmp 0) rfl (wtA n (.slice la m cap)) rfl ?_
  have W1 := Keep.mk (Blk.new w 31 (wtA n (.slice la m cap)))
  have b_ := below_new w (.cells (wtA n (.slice la m cap)) 31)
  change WL _ _ _ _ _ (w.alloc (.cells (wtA n (.slice la m cap)) 31))
  generalize w.alloc (.cells (wtA n (.slice la m cap)) 31) = w1 at *
  obtain ⟨d, hd0⟩ : ∃ z, Keep (z = w.heap.size) := ⟨_, ⟨rfl⟩⟩
  rw [← hd0.out] at W1 ⊢
  have B1 : Keep (Below w.heap.size w w1) := ⟨b_⟩
  have gd : Keep (w.heap.size ≤ d) := ⟨by rw [hd0.out]; exact Nat.le_refl _⟩
  clear b_
  have w0_ : w1.cell? ⟨d, 0, none⟩ = some (.int .i64 n) := W1.out.c 0 rfl
  have w1_ : w1.cell? ⟨d, 1, none⟩ = some (.slice la m cap) := W1.out.c 1 rfl
  simp only [Act.put, List.setIfInBounds_toArray, List.set_cons_zero, List.set_cons_succ]
  refine WL.val (by kernel_rfl) (.bool false) (by go_simp) ?_
  simp only [Act.put, List.setIfInBounds_toArray, List.set_cons_zero, List.set_cons_succ]
  refine WL.nil ?_
  refine hK1 _ _ ?_
  refine wp_seq_k fun K2 hK2 => ?_
  refine wp_seq_k fun K3 hK3 => ?_
  refine wp_region_list (WL.out ?_)
  refine WL.val (by kernel_rfl) (.pointer (some ⟨d, 0, none⟩)) (by go_simp) ?_
  simp only [Act.put, List.setIfInBounds_toArray, List.set_cons_zero, List.set_cons_succ]
  refine WL.val (by kernel_rfl) (.int .i64 n) (by go_simp) ?_
  simp only [Act.put, List.setIfInBounds_toArray, List.set_cons_zero, List.set_cons_succ]
  refine WL.val (by kernel_rfl) (.bool false) (by go_simp) ?_
  simp only [Act.put, List.setIfInBounds_toArray, List.set_cons_zero, List.set_cons_succ]
  refine WL.nil ?_
  refine hK3 _ _ ?_
  refine wp_cond_false rfl ?_
  refine wp_skip ?_
  refine hK2 _ _ ?_
  refine wp_seq_k fun K4 hK4 => ?_
  refine wp_seq_k fun K5 hK5 => ?_
  refine wp_region_list (WL.out ?_)
  refine WL.val (by kernel_rfl) (.pointer (some ⟨d, 0, none⟩)) (by go_simp) ?_
  simp only [Act.put, List.setIfInBounds_toArray, List.set_cons_zero, List.set_cons_succ]
  refine WL.val (by kernel_rfl) (.int .i64 n) (by go_simp) ?_
  simp only [Act.put, List.setIfInBounds_toArray, List.set_cons_zero, List.set_cons_succ]
  refine WL.val (by kernel_rfl) (.bool false) (by go_simp) ?_
  simp only [Act.put, List.setIfInBounds_toArray, List.set_cons_zero, List.set_cons_succ]
  refine WL.val (by kernel_rfl) (.bool false) (by go_simp) ?_
  simp only [Act.put, List.setIfInBounds_toArray, List.set_cons_zero, List.set_cons_succ]
  refine WL.val (by kernel_rfl) (.pointer (some ⟨d, 1, none⟩)) (by go_simp) ?_
  simp only [Act.put, List.setIfInBounds_toArray, List.set_cons_zero, List.set_cons_succ]
  refine WL.val (by kernel_rfl) (.slice la m cap) (by go_simp) ?_
  simp only [Act.put, List.setIfInBounds_toArray, List.set_cons_zero, List.set_cons_succ]
  refine WL.val (by kernel_rfl) (.int .i64 (m : Int)) (by go_simp) ?_
  simp only [Act.put, List.setIfInBounds_toArray, List.set_cons_zero, List.set_cons_succ]
  refine WL.val (by kernel_rfl) (.bool false) (by go_simp) ?_
  simp only [Act.put, List.setIfInBounds_toArray, List.set_cons_zero, List.set_cons_succ]
  refine WL.val (by kernel_rfl) (.bool false) (by go_simp) ?_
  simp only [Act.put, List.setIfInBounds_toArray, List.set_cons_zero, List.set_cons_succ]
  refine WL.val (by kernel_rfl) (.bool false) (by go_simp) ?_
  simp only [Act.put, List.setIfInBounds_toArray, List.set_cons_zero, List.set_cons_succ]
  refine WL.val (by kernel_rfl) (.pointer (some ⟨d, 1, none⟩)) (by go_simp) ?_
  simp only [Act.put, List.setIfInBounds_toArray, List.set_cons_zero, List.set_cons_succ]
  refine WL.val (by kernel_rfl) (.slice la m cap) (by go_simp) ?_
  simp only [Act.put, List.setIfInBounds_toArray, List.set_cons_zero, List.set_cons_succ]
  refine WL.val (by kernel_rfl) (.int .i64 (m : Int)) (by go_simp) ?_
  simp only [Act.put, List.setIfInBounds_toArray, List.set_cons_zero, List.set_cons_succ]
  refine WL.val (by kernel_rfl) (.bool true) (by go_simp) ?_
  simp only [Act.put, List.setIfInBounds_toArray, List.set_cons_zero, List.set_cons_succ]
  refine WL.val (by kernel_rfl) (.bool true) (by go_simp) ?_
  simp only [Act.put, List.setIfInBounds_toArray, List.set_cons_zero, List.set_cons_succ]
  refine WL.nil ?_
  refine hK5 _ _ ?_
  refine wp_cond_true rfl ?_
  refine wp_seq_k fun K6 hK6 => ?_
  refine wp_region_list (WL.out ?_)
  refine WL.val (by kernel_rfl) (.bool false) (by go_simp) ?_
  simp only [Act.put, List.setIfInBounds_toArray, List.set_cons_zero, List.set_cons_succ]
  refine WL.nil ?_
  refine hK6 _ _ ?_
  refine wp_ret ?_
  go_ret
  exact ⟨rfl, B1.out⟩
def zLf : Array Value := #[.int .i64 0, .int .i64 0, .string ByteArray.empty, .slice none 0 0, .slice none 0 0]
theorem Try.newLf (w : World) : (Instr.alloc 69 true (.tuple #[])).run Try.prog w = .ok (.pointer (some ⟨w.heap.size, 0, none⟩)) (w.alloc (.cells zLf 69)) := by kernel_rfl
set_option maxRecDepth 8000 in
set_option maxHeartbeats 1000000 in
theorem form_some (b off m cap : Nat) (n : Int) (ls : List LV) (w : World) (hml : Keep (ls.length = m)) (hn : 0 < n) (hm1 : 1 ≤ m) (hm2 : m ≤ 2) (hL : LsAt w.heap.size w b off ls) : Calls Try.prog 35 #[.agg (wtA n (.slice (some ⟨b, off, none⟩) m cap))] w fun e w' => e = .returned (.bool (ls.all (okL n))) ∧ Below w.heap.size w w' := by
  have HL := Keep.mk hL
  clear hL
  have hn0 : (n == 0) = false := by simp; omega
  have hn0' : ¬ n = 0 := by omega
  have hn1 : ¬ n < 0 := by omega
  have hm3 : ¬ (m : Int) < 1 := by omega
  have hm4 : ¬ 2 < (m : Int) := by omega
  have hm4' : ¬ (m : Int) > 2 := by omega
  go_enter Try.func35, Try.ntmps35
  refine wp_seq_k fun K1 hK1 => ?_
  refine wp_region_list (WL.out ?_)
  refine WL.box (by kernel_rfl) 31 (.tmp 0) rfl (wtA n (.slice (some ⟨b, off, none⟩) m cap)) rfl ?_
  have W1 := Keep.mk (Blk.new w 31 (wtA n (.slice (some ⟨b, off, none⟩) m cap)))
  have b_ := below_new w (.cells (wtA n (.slice (some ⟨b, off, none⟩) m cap)) 31)
  change WL _ _ _ _ _ (w.alloc (.cells (wtA n (.slice (some ⟨b, off, none⟩) m cap)) 31))
  generalize w.alloc (.cells (wtA n (.slice (some ⟨b, off, none⟩) m cap)) 31) = w1 at *
  obtain ⟨d, hd0⟩ : ∃ z, Keep (z = w.heap.size) := ⟨_, ⟨rfl⟩⟩
  rw [← hd0.out] at W1 ⊢
  have B1 : Keep (Below w.heap.size w w1) := ⟨b_⟩
  have gd : Keep (w.heap.size ≤ d) := ⟨by rw [hd0.out]; exact Nat.le_refl _⟩
  clear b_
  have w0_ : w1.cell? ⟨d, 0, none⟩ = some (.int .i64 n) := W1.out.c 0 rfl
  have w1_ : w1.cell? ⟨d, 1, none⟩ = some (.slice (some ⟨b, off, none⟩) m cap) := W1.out.c 1 rfl
  simp only [Act.put, List.setIfInBounds_toArray, List.set_cons_zero, List.set_cons_succ]
  refine WL.val (by kernel_rfl) (.bool false) (by go_simp) ?_
  simp only [Act.put, List.setIfInBounds_toArray, List.set_cons_zero, List.set_cons_succ]
  refine WL.nil ?_
  refine hK1 _ _ ?_
  refine wp_seq_k fun K2 hK2 => ?_
  refine wp_seq_k fun K3 hK3 => ?_
  refine wp_region_list (WL.out ?_)
  refine WL.val (by kernel_rfl) (.pointer (some ⟨d, 0, none⟩)) (by go_simp) ?_
  simp only [Act.put, List.setIfInBounds_toArray, List.set_cons_zero, List.set_cons_succ]
  refine WL.val (by kernel_rfl) (.int .i64 n) (by go_simp) ?_
  simp only [Act.put, List.setIfInBounds_toArray, List.set_cons_zero, List.set_cons_succ]
  refine WL.val (by kernel_rfl) (.bool false) (by go_simp) ?_
  simp only [Act.put, List.setIfInBounds_toArray, List.set_cons_zero, List.set_cons_succ]
  refine WL.nil ?_
  refine hK3 _ _ ?_
  refine wp_cond_false rfl ?_
  refine wp_skip ?_
  refine hK2 _ _ ?_
  refine wp_seq_k fun K4 hK4 => ?_
  refine wp_seq_k fun K5 hK5 => ?_
  refine wp_region_list (WL.out ?_)
  refine WL.val (by kernel_rfl) (.pointer (some ⟨d, 0, none⟩)) (by go_simp) ?_
  simp only [Act.put, List.setIfInBounds_toArray, List.set_cons_zero, List.set_cons_succ]
  refine WL.val (by kernel_rfl) (.int .i64 n) (by go_simp) ?_
  simp only [Act.put, List.setIfInBounds_toArray, List.set_cons_zero, List.set_cons_succ]
  refine WL.val (by kernel_rfl) (.bool false) (by go_simp) ?_
  simp only [Act.put, List.setIfInBounds_toArray, List.set_cons_zero, List.set_cons_succ]
  refine WL.val (by kernel_rfl) (.bool false) (by go_simp) ?_
  simp only [Act.put, List.setIfInBounds_toArray, List.set_cons_zero, List.set_cons_succ]
  refine WL.val (by kernel_rfl) (.pointer (some ⟨d, 1, none⟩)) (by go_simp) ?_
  simp only [Act.put, List.setIfInBounds_toArray, List.set_cons_zero, List.set_cons_succ]
  refine WL.val (by kernel_rfl) (.slice (some ⟨b, off, none⟩) m cap) (by go_simp) ?_
  simp only [Act.put, List.setIfInBounds_toArray, List.set_cons_zero, List.set_cons_succ]
  refine WL.val (by kernel_rfl) (.int .i64 (m : Int)) (by go_simp) ?_
  simp only [Act.put, List.setIfInBounds_toArray, List.set_cons_zero, List.set_cons_succ]
  refine WL.val (by kernel_rfl) (.bool false) (by go_simp) ?_
  simp only [Act.put, List.setIfInBounds_toArray, List.set_cons_zero, List.set_cons_succ]
  refine WL.val (by kernel_rfl) (.bool false) (by go_simp) ?_
  simp only [Act.put, List.setIfInBounds_toArray, List.set_cons_zero, List.set_cons_succ]
  refine WL.val (by kernel_rfl) (.bool false) (by go_simp) ?_
  simp only [Act.put, List.setIfInBounds_toArray, List.set_cons_zero, List.set_cons_succ]
  refine WL.val (by kernel_rfl) (.pointer (some ⟨d, 1, none⟩)) (by go_simp) ?_
  simp only [Act.put, List.setIfInBounds_toArray, List.set_cons_zero, List.set_cons_succ]
  refine WL.val (by kernel_rfl) (.slice (some ⟨b, off, none⟩) m cap) (by go_simp) ?_
  simp only [Act.put, List.setIfInBounds_toArray, List.set_cons_zero, List.set_cons_succ]
  refine WL.val (by kernel_rfl) (.int .i64 (m : Int)) (by go_simp) ?_
  simp only [Act.put, List.setIfInBounds_toArray, List.set_cons_zero, List.set_cons_succ]
  refine WL.val (by kernel_rfl) (.bool false) (by go_simp) ?_
  simp only [Act.put, List.setIfInBounds_toArray, List.set_cons_zero, List.set_cons_succ]
  refine WL.val (by kernel_rfl) (.bool false) (by go_simp) ?_
  simp only [Act.put, List.setIfInBounds_toArray, List.set_cons_zero, List.set_cons_succ]
  refine WL.nil ?_
  refine hK5 _ _ ?_
  refine wp_cond_false rfl ?_
  refine wp_skip ?_
  refine hK4 _ _ ?_
  refine wp_seq_k fun K6 hK6 => ?_
  refine wp_seq_k fun K7 hK7 => ?_
  refine wp_region_list (WL.out ?_)
  refine WL.val (by kernel_rfl) (.pointer (some ⟨d, 1, none⟩)) (by go_simp) ?_
  simp only [Act.put, List.setIfInBounds_toArray, List.set_cons_zero, List.set_cons_succ]
  refine WL.val (by kernel_rfl) (.slice (some ⟨b, off, none⟩) m cap) (by go_simp) ?_
  simp only [Act.put, List.setIfInBounds_toArray, List.set_cons_zero, List.set_cons_succ]
  refine WL.val (by kernel_rfl) (.int .i64 (m : Int)) (by go_simp) ?_
  simp only [Act.put, List.setIfInBounds_toArray, List.set_cons_zero, List.set_cons_succ]
  refine WL.val (by kernel_rfl) (.int .i64 0) (by go_simp) ?_
  simp only [Act.put, List.setIfInBounds_toArray, List.set_cons_zero, List.set_cons_succ]
  refine WL.nil ?_
  refine hK7 _ _ ?_
  refine wp_block ?_
  refine wp_loop (fun ac wr => ∃ (t : Nat) (f : Nat → Value), ac = { tmps := #[.agg (wtA n (.slice (some ⟨b, off, none⟩) m cap)), .pointer (some ⟨d, 0, none⟩), f 2, undef, f 4, .pointer (some ⟨d, 0, none⟩), .int .i64 n, .bool false, undef, undef, undef, undef, .pointer (some ⟨d, 0, none⟩), .int .i64 n, .bool false, .bool false, .pointer (some ⟨d, 1, none⟩), .slice (some ⟨b, off, none⟩) m cap, .int .i64 (m : Int), .bool false, .bool false, .bool false, .pointer (some ⟨d, 1, none⟩), .slice (some ⟨b, off, none⟩) m cap, .int .i64 (m : Int), .bool false, .bool false, .pointer (some ⟨d, 1, none⟩), .slice (some ⟨b, off, none⟩) m cap, .int .i64 (m : Int), .int .i64 (t : Int), f 31, f 32, f 33, f 34, f 35, f 36, f 37, f 38, f 39, f 40, f 41, f 42, f 43, f 44, f 45, f 46, f 47, f 48, f 49, f 50, f 51], defers := [] } ∧ t ≤ m ∧ Blk wr d 31 (wtA n (.slice (some ⟨b, off, none⟩) m cap)) ∧ Below w.heap.size w wr ∧ (∀ (i : Nat) (x : LV), i < t → ls[i]? = some x → okL n x = true)) (fun a _ => m - (intOf (a.tmps.getD 30 undef)).toNat) ⟨0, fun zz => [.agg (wtA n (.slice (some ⟨b, off, none⟩) m cap)), .pointer (some ⟨d, 0, none⟩), .bool false, undef, undef, .pointer (some ⟨d, 0, none⟩), .int .i64 n, .bool false, undef, undef, undef, undef, .pointer (some ⟨d, 0, none⟩), .int .i64 n, .bool false, .bool false, .pointer (some ⟨d, 1, none⟩), .slice (some ⟨b, off, none⟩) m cap, .int .i64 (m : Int), .bool false, .bool false, .bool false, .pointer (some ⟨d, 1, none⟩), .slice (some ⟨b, off, none⟩) m cap, .int .i64 (m : Int), .bool false, .bool false, .pointer (some ⟨d, 1, none⟩), .slice (some ⟨b, off, none⟩) m cap, .int .i64 (m : Int), .int .i64 0, undef, undef, undef, undef, undef, undef, undef, undef, undef, undef, undef, undef, undef, undef, undef, undef, undef, undef, undef, undef, undef].getD zz undef, rfl, by omega, W1.out, B1.out, fun i x hi _ => by omega⟩ ?_
  rintro ac wr ⟨t, f, rfl, ht, hD, hb, hI⟩
  have D2 := Keep.mk hD
  have B2 := Keep.mk hb
  have HI := Keep.mk hI
  clear hD hb hI
  try clear w0_ w1_
  by_cases htl : t < m
  · have htl' : (t : Int) < (m : Int) := by omega
    have hw3 : IntKind.i64.wrap ((t : Int) + 1) = ((t + 1 : Nat) : Int) := by rw [IntKind.wrap_i64]; omega
    obtain ⟨x, Hx⟩ : ∃ z, Keep (ls[t]? = some z) := ⟨ls[t]'(by rw [hml.out]; exact htl), ⟨List.getElem?_eq_getElem _⟩⟩
    have XR : Keep (wr.rangeAt b (off + t * 5) (lvA x).toList) := ⟨(HL.out.below B2.out).at_ t x Hx.out⟩
    have XL : Keep (LfAt w.heap.size wr x) := ⟨(HL.out.below B2.out).lf x (List.mem_of_getElem? Hx.out)⟩
    refine wp_seq_k fun K8 hK8 => ?_
    refine wp_region_list (WL.out ?_)
    refine WL.val (by kernel_rfl) (.bool true) (by go_simp) ?_
    simp only [Act.put, List.setIfInBounds_toArray, List.set_cons_zero, List.set_cons_succ]
    refine WL.nil ?_
    refine hK8 _ _ ?_
    refine wp_seq_k fun K9 hK9 => ?_
    refine wp_cond_true rfl ?_
    refine wp_skip ?_
    refine hK9 _ _ ?_
    refine wp_seq_k fun K10 hK10 => ?_
    refine wp_block ?_
    refine wp_seq_k fun K11 hK11 => ?_
    refine wp_region_list (WL.out ?_)
    refine WL.val (by kernel_rfl) (.pointer (some ⟨b, off + t * 5, none⟩)) (by go_simp) ?_
    simp only [Act.put, List.setIfInBounds_toArray, List.set_cons_zero, List.set_cons_succ]
    refine WL.midA (by kernel_rfl) 69 (.tmp 32) rfl b (off + t * 5) rfl (lvA x) _ XR.out Try.underlying69 rfl (Try.sizeLf x) ?_
    simp only [Act.put, List.setIfInBounds_toArray, List.set_cons_zero, List.set_cons_succ]
    refine WL.new (by kernel_rfl) 69 rfl _ Try.newLf ?_
    have b_ := below_new wr (.cells zLf 69)
    have Z3 := Keep.mk (Blk.new wr 69 zLf)
    change WL _ _ _ _ _ (wr.alloc (.cells zLf 69))
    generalize wr.alloc (.cells zLf 69) = w3 at *
    obtain ⟨z, hz⟩ : ∃ z, Keep (z = wr.heap.size) := ⟨_, ⟨rfl⟩⟩
    rw [← hz.out] at Z3 ⊢
    have D3 := Keep.mk (D2.out.below b_ D2.out.lt)
    have nz : Keep (d ≠ z) := ⟨by have := D2.out.lt; have := hz.out; omega⟩
    have B3 : Keep (Below w.heap.size w w3) := ⟨B2.out.trans (b_.mono B2.out.size)⟩
    have gz : Keep (w.heap.size ≤ z) := ⟨by rw [hz.out]; exact B2.out.size⟩
    clear b_ hz
    simp only [Act.put, List.setIfInBounds_toArray, List.set_cons_zero, List.set_cons_succ]
    refine WL.storeR (by kernel_rfl) 69 (.tmp 4) (.tmp 33) rfl z (lvA x) rfl rfl 69 zLf Z3.out (Try.sizeLf x) rfl (lvA_one XL.out) ?_
    have Z4 := Keep.mk (Z3.out.setRow (lvA x))
    have D4 := Keep.mk (D3.out.setRow_ne nz.out (lvA x))
    have B4 : Keep (Below w.heap.size w (w3.setRow z (lvA x))) := ⟨below_setRow B3.out gz.out _⟩
    generalize w3.setRow z (lvA x) = w4 at *
    have z0 : w4.cell? ⟨z, 0, none⟩ = some (.int .i64 x.num) := Z4.out.c 0 rfl
    have z1 : w4.cell? ⟨z, 1, none⟩ = some (.int .i64 x.c.k) := Z4.out.c 1 rfl
    have dn : w4.cell? ⟨d, 0, none⟩ = some (.int .i64 n) := D4.out.c 0 rfl
    simp only [Act.put]
    refine WL.nil ?_
    refine hK11 _ _ ?_
    refine wp_seq_k fun K12 hK12 => ?_
    by_cases a1 : x.num < 0
    · have HB_ : Keep (okL n x = false) := ⟨by simp [okL]; omega⟩
      refine wp_region_list (WL.out ?_)
      refine WL.val (by kernel_rfl) (.pointer (some ⟨z, 0, none⟩)) (by go_simp) ?_
      simp only [Act.put, List.setIfInBounds_toArray, List.set_cons_zero, List.set_cons_succ]
      refine WL.val (by kernel_rfl) (.int .i64 x.num) (by go_simp) ?_
      simp only [Act.put, List.setIfInBounds_toArray, List.set_cons_zero, List.set_cons_succ]
      refine WL.val (by kernel_rfl) (.bool true) (by go_simp) ?_
      simp only [Act.put, List.setIfInBounds_toArray, List.set_cons_zero, List.set_cons_succ]
      refine WL.val (by kernel_rfl) (.bool true) (by go_simp) ?_
      simp only [Act.put, List.setIfInBounds_toArray, List.set_cons_zero, List.set_cons_succ]
      refine WL.skip (by kernel_rfl) ?_
      simp only [Act.put, List.setIfInBounds_toArray, List.set_cons_zero, List.set_cons_succ]
      refine WL.skip (by kernel_rfl) ?_
      simp only [Act.put, List.setIfInBounds_toArray, List.set_cons_zero, List.set_cons_succ]
      refine WL.skip (by kernel_rfl) ?_
      simp only [Act.put, List.setIfInBounds_toArray, List.set_cons_zero, List.set_cons_succ]
      refine WL.skip (by kernel_rfl) ?_
      simp only [Act.put, List.setIfInBounds_toArray, List.set_cons_zero, List.set_cons_succ]
      refine WL.skip (by kernel_rfl) ?_
      simp only [Act.put, List.setIfInBounds_toArray, List.set_cons_zero, List.set_cons_succ]
      refine WL.val (by kernel_rfl) (.bool true) (by go_simp) ?_
      simp only [Act.put, List.setIfInBounds_toArray, List.set_cons_zero, List.set_cons_succ]
      refine WL.val (by kernel_rfl) (.bool true) (by go_simp) ?_
      simp only [Act.put, List.setIfInBounds_toArray, List.set_cons_zero, List.set_cons_succ]
      refine WL.skip (by kernel_rfl) ?_
      simp only [Act.put, List.setIfInBounds_toArray, List.set_cons_zero, List.set_cons_succ]
      refine WL.skip (by kernel_rfl) ?_
      simp only [Act.put, List.setIfInBounds_toArray, List.set_cons_zero, List.set_cons_succ]
      refine WL.skip (by kernel_rfl) ?_
      simp only [Act.put, List.setIfInBounds_toArray, List.set_cons_zero, List.set_cons_succ]
      refine WL.skip (by kernel_rfl) ?_
      simp only [Act.put, List.setIfInBounds_toArray, List.set_cons_zero, List.set_cons_succ]
      refine WL.skip (by kernel_rfl) ?_
      simp only [Act.put, List.setIfInBounds_toArray, List.set_cons_zero, List.set_cons_succ]
      refine WL.val (by kernel_rfl) (.bool true) (by go_simp) ?_
      simp only [Act.put, List.setIfInBounds_toArray, List.set_cons_zero, List.set_cons_succ]
      refine WL.nil ?_
      refine hK12 _ _ ?_
      refine wp_cond_true rfl ?_
      refine wp_seq_k fun K13 hK13 => ?_
      refine wp_region_list (WL.out ?_)
      refine WL.val (by kernel_rfl) (.bool false) (by go_simp) ?_
      simp only [Act.put, List.setIfInBounds_toArray, List.set_cons_zero, List.set_cons_succ]
      refine WL.nil ?_
      refine hK13 _ _ ?_
      refine wp_ret ?_
      try simp only [Exit.inBlock, Exit.then]
      go_ret
      refine ⟨?_, B4.out⟩
      rw [show ls.all (okL n) = false from by
        rw [List.all_eq_false]
        exact ⟨x, List.mem_of_getElem? Hx.out, by rw [HB_.out]; simp⟩]
      rfl
    · by_cases a2 : n ≤ x.num
      · have HB_ : Keep (okL n x = false) := ⟨by simp [okL]; omega⟩
        have a2' : x.num ≥ n := a2
        refine wp_region_list (WL.out ?_)
        refine WL.val (by kernel_rfl) (.pointer (some ⟨z, 0, none⟩)) (by go_simp) ?_
        simp only [Act.put, List.setIfInBounds_toArray, List.set_cons_zero, List.set_cons_succ]
        refine WL.val (by kernel_rfl) (.int .i64 x.num) (by go_simp) ?_
        simp only [Act.put, List.setIfInBounds_toArray, List.set_cons_zero, List.set_cons_succ]
        refine WL.val (by kernel_rfl) (.bool false) (by go_simp) ?_
        simp only [Act.put, List.setIfInBounds_toArray, List.set_cons_zero, List.set_cons_succ]
        refine WL.val (by kernel_rfl) (.bool false) (by go_simp) ?_
        simp only [Act.put, List.setIfInBounds_toArray, List.set_cons_zero, List.set_cons_succ]
        refine WL.val (by kernel_rfl) (.pointer (some ⟨z, 0, none⟩)) (by go_simp) ?_
        simp only [Act.put, List.setIfInBounds_toArray, List.set_cons_zero, List.set_cons_succ]
        refine WL.val (by kernel_rfl) (.int .i64 x.num) (by go_simp) ?_
        simp only [Act.put, List.setIfInBounds_toArray, List.set_cons_zero, List.set_cons_succ]
        refine WL.val (by kernel_rfl) (.pointer (some ⟨d, 0, none⟩)) (by go_simp) ?_
        simp only [Act.put, List.setIfInBounds_toArray, List.set_cons_zero, List.set_cons_succ]
        refine WL.val (by kernel_rfl) (.int .i64 n) (by go_simp) ?_
        simp only [Act.put, List.setIfInBounds_toArray, List.set_cons_zero, List.set_cons_succ]
        refine WL.val (by kernel_rfl) (.bool true) (by go_simp) ?_
        simp only [Act.put, List.setIfInBounds_toArray, List.set_cons_zero, List.set_cons_succ]
        refine WL.val (by kernel_rfl) (.bool true) (by go_simp) ?_
        simp only [Act.put, List.setIfInBounds_toArray, List.set_cons_zero, List.set_cons_succ]
        refine WL.val (by kernel_rfl) (.bool true) (by go_simp) ?_
        simp only [Act.put, List.setIfInBounds_toArray, List.set_cons_zero, List.set_cons_succ]
        refine WL.skip (by kernel_rfl) ?_
        simp only [Act.put, List.setIfInBounds_toArray, List.set_cons_zero, List.set_cons_succ]
        refine WL.skip (by kernel_rfl) ?_
        simp only [Act.put, List.setIfInBounds_toArray, List.set_cons_zero, List.set_cons_succ]
        refine WL.skip (by kernel_rfl) ?_
        simp only [Act.put, List.setIfInBounds_toArray, List.set_cons_zero, List.set_cons_succ]
        refine WL.skip (by kernel_rfl) ?_
        simp only [Act.put, List.setIfInBounds_toArray, List.set_cons_zero, List.set_cons_succ]
        refine WL.skip (by kernel_rfl) ?_
        simp only [Act.put, List.setIfInBounds_toArray, List.set_cons_zero, List.set_cons_succ]
        refine WL.val (by kernel_rfl) (.bool true) (by go_simp) ?_
        simp only [Act.put, List.setIfInBounds_toArray, List.set_cons_zero, List.set_cons_succ]
        refine WL.nil ?_
        refine hK12 _ _ ?_
        refine wp_cond_true rfl ?_
        refine wp_seq_k fun K14 hK14 => ?_
        refine wp_region_list (WL.out ?_)
        refine WL.val (by kernel_rfl) (.bool false) (by go_simp) ?_
        simp only [Act.put, List.setIfInBounds_toArray, List.set_cons_zero, List.set_cons_succ]
        refine WL.nil ?_
        refine hK14 _ _ ?_
        refine wp_ret ?_
        try simp only [Exit.inBlock, Exit.then]
        go_ret
        refine ⟨?_, B4.out⟩
        rw [show ls.all (okL n) = false from by
          rw [List.all_eq_false]
          exact ⟨x, List.mem_of_getElem? Hx.out, by rw [HB_.out]; simp⟩]
        rfl
      · have a2' : ¬ x.num ≥ n := a2
        cases hkm : kmay x.c.k
        · have HB_ : Keep (okL n x = false) := ⟨by simp [okL, hkm]⟩
          refine wp_region_list (WL.out ?_)
          refine WL.val (by kernel_rfl) (.pointer (some ⟨z, 0, none⟩)) (by go_simp) ?_
          simp only [Act.put, List.setIfInBounds_toArray, List.set_cons_zero, List.set_cons_succ]
          refine WL.val (by kernel_rfl) (.int .i64 x.num) (by go_simp) ?_
          simp only [Act.put, List.setIfInBounds_toArray, List.set_cons_zero, List.set_cons_succ]
          refine WL.val (by kernel_rfl) (.bool false) (by go_simp) ?_
          simp only [Act.put, List.setIfInBounds_toArray, List.set_cons_zero, List.set_cons_succ]
          refine WL.val (by kernel_rfl) (.bool false) (by go_simp) ?_
          simp only [Act.put, List.setIfInBounds_toArray, List.set_cons_zero, List.set_cons_succ]
          refine WL.val (by kernel_rfl) (.pointer (some ⟨z, 0, none⟩)) (by go_simp) ?_
          simp only [Act.put, List.setIfInBounds_toArray, List.set_cons_zero, List.set_cons_succ]
          refine WL.val (by kernel_rfl) (.int .i64 x.num) (by go_simp) ?_
          simp only [Act.put, List.setIfInBounds_toArray, List.set_cons_zero, List.set_cons_succ]
          refine WL.val (by kernel_rfl) (.pointer (some ⟨d, 0, none⟩)) (by go_simp) ?_
          simp only [Act.put, List.setIfInBounds_toArray, List.set_cons_zero, List.set_cons_succ]
          refine WL.val (by kernel_rfl) (.int .i64 n) (by go_simp) ?_
          simp only [Act.put, List.setIfInBounds_toArray, List.set_cons_zero, List.set_cons_succ]
          refine WL.val (by kernel_rfl) (.bool false) (by go_simp) ?_
          simp only [Act.put, List.setIfInBounds_toArray, List.set_cons_zero, List.set_cons_succ]
          refine WL.val (by kernel_rfl) (.bool false) (by go_simp) ?_
          simp only [Act.put, List.setIfInBounds_toArray, List.set_cons_zero, List.set_cons_succ]
          refine WL.val (by kernel_rfl) (.bool false) (by go_simp) ?_
          simp only [Act.put, List.setIfInBounds_toArray, List.set_cons_zero, List.set_cons_succ]
          refine WL.val (by kernel_rfl) (.pointer (some ⟨z, 1, none⟩)) (by go_simp) ?_
          simp only [Act.put, List.setIfInBounds_toArray, List.set_cons_zero, List.set_cons_succ]
          refine WL.val (by kernel_rfl) (.pointer (some ⟨z, 1, none⟩)) (by go_simp) ?_
          simp only [Act.put, List.setIfInBounds_toArray, List.set_cons_zero, List.set_cons_succ]
          refine WL.val (by kernel_rfl) (.int .i64 x.c.k) (by go_simp) ?_
          simp only [Act.put, List.setIfInBounds_toArray, List.set_cons_zero, List.set_cons_succ]
          refine WL.callF (by kernel_rfl) 28 _ _ rfl Try.in28 #[.int .i64 x.c.k] (by simp [Act.eval]) ?_
          refine (isk_any x.c.k _).mono ?_
          rintro e w1_ ⟨rfl, hw_⟩
          refine ⟨_, rfl, ?_⟩
          have hw_ := hw_.symm
          subst hw_
          rw [hkm]
          simp only [Act.put, List.setIfInBounds_toArray, List.set_cons_zero, List.set_cons_succ]
          refine WL.val (by kernel_rfl) (.bool true) (by go_simp) ?_
          simp only [Act.put, List.setIfInBounds_toArray, List.set_cons_zero, List.set_cons_succ]
          refine WL.val (by kernel_rfl) (.bool true) (by go_simp) ?_
          simp only [Act.put, List.setIfInBounds_toArray, List.set_cons_zero, List.set_cons_succ]
          refine WL.nil ?_
          refine hK12 _ _ ?_
          refine wp_cond_true rfl ?_
          refine wp_seq_k fun K15 hK15 => ?_
          refine wp_region_list (WL.out ?_)
          refine WL.val (by kernel_rfl) (.bool false) (by go_simp) ?_
          simp only [Act.put, List.setIfInBounds_toArray, List.set_cons_zero, List.set_cons_succ]
          refine WL.nil ?_
          refine hK15 _ _ ?_
          refine wp_ret ?_
          try simp only [Exit.inBlock, Exit.then]
          go_ret
          refine ⟨?_, B4.out⟩
          rw [show ls.all (okL n) = false from by
            rw [List.all_eq_false]
            exact ⟨x, List.mem_of_getElem? Hx.out, by rw [HB_.out]; simp⟩]
          rfl
        · have HG_ : Keep (okL n x = true) := ⟨by simp [okL, hkm]; omega⟩
          refine wp_region_list (WL.out ?_)
          refine WL.val (by kernel_rfl) (.pointer (some ⟨z, 0, none⟩)) (by go_simp) ?_
          simp only [Act.put, List.setIfInBounds_toArray, List.set_cons_zero, List.set_cons_succ]
          refine WL.val (by kernel_rfl) (.int .i64 x.num) (by go_simp) ?_
          simp only [Act.put, List.setIfInBounds_toArray, List.set_cons_zero, List.set_cons_succ]
          refine WL.val (by kernel_rfl) (.bool false) (by go_simp) ?_
          simp only [Act.put, List.setIfInBounds_toArray, List.set_cons_zero, List.set_cons_succ]
          refine WL.val (by kernel_rfl) (.bool false) (by go_simp) ?_
          simp only [Act.put, List.setIfInBounds_toArray, List.set_cons_zero, List.set_cons_succ]
          refine WL.val (by kernel_rfl) (.pointer (some ⟨z, 0, none⟩)) (by go_simp) ?_
          simp only [Act.put, List.setIfInBounds_toArray, List.set_cons_zero, List.set_cons_succ]
          refine WL.val (by kernel_rfl) (.int .i64 x.num) (by go_simp) ?_
          simp only [Act.put, List.setIfInBounds_toArray, List.set_cons_zero, List.set_cons_succ]
          refine WL.val (by kernel_rfl) (.pointer (some ⟨d, 0, none⟩)) (by go_simp) ?_
          simp only [Act.put, List.setIfInBounds_toArray, List.set_cons_zero, List.set_cons_succ]
          refine WL.val (by kernel_rfl) (.int .i64 n) (by go_simp) ?_
          simp only [Act.put, List.setIfInBounds_toArray, List.set_cons_zero, List.set_cons_succ]
          refine WL.val (by kernel_rfl) (.bool false) (by go_simp) ?_
          simp only [Act.put, List.setIfInBounds_toArray, List.set_cons_zero, List.set_cons_succ]
          refine WL.val (by kernel_rfl) (.bool false) (by go_simp) ?_
          simp only [Act.put, List.setIfInBounds_toArray, List.set_cons_zero, List.set_cons_succ]
          refine WL.val (by kernel_rfl) (.bool false) (by go_simp) ?_
          simp only [Act.put, List.setIfInBounds_toArray, List.set_cons_zero, List.set_cons_succ]
          refine WL.val (by kernel_rfl) (.pointer (some ⟨z, 1, none⟩)) (by go_simp) ?_
          simp only [Act.put, List.setIfInBounds_toArray, List.set_cons_zero, List.set_cons_succ]
          refine WL.val (by kernel_rfl) (.pointer (some ⟨z, 1, none⟩)) (by go_simp) ?_
          simp only [Act.put, List.setIfInBounds_toArray, List.set_cons_zero, List.set_cons_succ]
          refine WL.val (by kernel_rfl) (.int .i64 x.c.k) (by go_simp) ?_
          simp only [Act.put, List.setIfInBounds_toArray, List.set_cons_zero, List.set_cons_succ]
          refine WL.callF (by kernel_rfl) 28 _ _ rfl Try.in28 #[.int .i64 x.c.k] (by simp [Act.eval]) ?_
          refine (isk_any x.c.k _).mono ?_
          rintro e w1_ ⟨rfl, hw_⟩
          refine ⟨_, rfl, ?_⟩
          have hw_ := hw_.symm
          subst hw_
          rw [hkm]
          simp only [Act.put, List.setIfInBounds_toArray, List.set_cons_zero, List.set_cons_succ]
          refine WL.val (by kernel_rfl) (.bool false) (by go_simp) ?_
          simp only [Act.put, List.setIfInBounds_toArray, List.set_cons_zero, List.set_cons_succ]
          refine WL.val (by kernel_rfl) (.bool false) (by go_simp) ?_
          simp only [Act.put, List.setIfInBounds_toArray, List.set_cons_zero, List.set_cons_succ]
          refine WL.nil ?_
          refine hK12 _ _ ?_
          refine wp_cond_false rfl ?_
          refine wp_skip ?_
          refine hK10 _ _ ?_
          refine wp_region_list (WL.out ?_)
          refine WL.val (by kernel_rfl) (.int .i64 ((t + 1 : Nat) : Int)) (by go_simp) ?_
          simp only [Act.put, List.setIfInBounds_toArray, List.set_cons_zero, List.set_cons_succ]
          refine WL.val (by kernel_rfl) (.int .i64 ((t + 1 : Nat) : Int)) (by go_simp) ?_
          simp only [Act.put, List.setIfInBounds_toArray, List.set_cons_zero, List.set_cons_succ]
          refine WL.nil ?_
          refine ⟨⟨t + 1, fun zz => [.agg (wtA n (.slice (some ⟨b, off, none⟩) m cap)), .pointer (some ⟨d, 0, none⟩), f 2, undef, .pointer (some ⟨z, 0, none⟩), .pointer (some ⟨d, 0, none⟩), .int .i64 n, .bool false, undef, undef, undef, undef, .pointer (some ⟨d, 0, none⟩), .int .i64 n, .bool false, .bool false, .pointer (some ⟨d, 1, none⟩), .slice (some ⟨b, off, none⟩) m cap, .int .i64 (m : Int), .bool false, .bool false, .bool false, .pointer (some ⟨d, 1, none⟩), .slice (some ⟨b, off, none⟩) m cap, .int .i64 (m : Int), .bool false, .bool false, .pointer (some ⟨d, 1, none⟩), .slice (some ⟨b, off, none⟩) m cap, .int .i64 (m : Int), .int .i64 ((t + 1 : Nat) : Int), .bool true, .pointer (some ⟨b, off + t * 5, none⟩), .agg (lvA x), .pointer (some ⟨z, 0, none⟩), .int .i64 x.num, .bool false, .bool false, .pointer (some ⟨z, 0, none⟩), .int .i64 x.num, .pointer (some ⟨d, 0, none⟩), .int .i64 n, .bool false, .bool false, .bool false, .pointer (some ⟨z, 1, none⟩), .pointer (some ⟨z, 1, none⟩), .int .i64 x.c.k, .bool true, .bool false, .bool false, .int .i64 ((t + 1 : Nat) : Int)].getD zz undef, rfl, by omega, D4.out, B4.out, fun i y hi hy => ?_⟩, ?_⟩
          · by_cases e : i = t
            · subst e; rw [Hx.out] at hy; injection hy with hy; subst hy; exact HG_.out
            · exact HI.out i y (by omega) hy
          · simp only [intOf]; show m - (((t + 1 : Nat) : Int)).toNat < m - ((t : Int)).toNat; omega
  · have htl' : ¬ (t : Int) < (m : Int) := by omega
    refine wp_seq_k fun K16 hK16 => ?_
    refine wp_region_list (WL.out ?_)
    refine WL.val (by kernel_rfl) (.bool false) (by go_simp) ?_
    simp only [Act.put, List.setIfInBounds_toArray, List.set_cons_zero, List.set_cons_succ]
    refine WL.nil ?_
    refine hK16 _ _ ?_
    refine wp_seq_k fun K17 hK17 => ?_
    refine wp_cond_false rfl ?_
    refine wp_exit ?_
    refine hK6 _ _ ?_
    refine wp_seq_k fun K18 hK18 => ?_
    refine wp_region_list (WL.out ?_)
    refine WL.val (by kernel_rfl) (.bool true) (by go_simp) ?_
    simp only [Act.put, List.setIfInBounds_toArray, List.set_cons_zero, List.set_cons_succ]
    refine WL.nil ?_
    refine hK18 _ _ ?_
    refine wp_ret ?_
    try simp only [Exit.inBlock, Exit.then]
    go_ret
    refine ⟨?_, B2.out⟩
    rw [show ls.all (okL n) = true from by
      rw [List.all_eq_true]
      intro x hx
      obtain ⟨i, hi, e⟩ := List.getElem_of_mem hx
      exact HI.out i x (by rw [hml.out] at hi; omega) (by rw [List.getElem?_eq_getElem hi, e])]
    rfl

theorem formed_any (v : Value) (n : Int) (ls : List LV) (w : World) (hL : LsV w.heap.size w v ls) : Calls Try.prog 35 #[.agg (wtA n v)] w fun e w' => e = .returned (.bool (formB n ls)) ∧ Below w.heap.size w w' := by
  obtain ⟨la, cap, rfl, hA⟩ := hL.form
  unfold formB
  by_cases h0 : n = 0
  · subst h0; rw [if_pos rfl]; exact form_zero la _ cap w
  · rw [if_neg h0]
    by_cases h1 : n < 0
    · rw [if_pos (.inl h1)]; exact form_neg la _ cap n w h1
    · by_cases h2 : ls.length < 1
      · rw [if_pos (.inr (.inl h2))]; exact form_few la _ cap n w (by omega) h2
      · by_cases h3 : 2 < ls.length
        · rw [if_pos (.inr (.inr h3))]; exact form_many la _ cap n w (by omega) h3
        · rw [if_neg (by omega)]
          obtain ⟨b, off, rfl, h⟩ := hA (by omega)
          exact form_some b off _ cap n ls w ⟨rfl⟩ (by omega) (by omega) (by omega) h

end Go.Proofs.Ytjklmkeedhgncaa
