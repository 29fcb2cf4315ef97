import Derived.Test.YtjklmkeedhgncaaA08
import Derived.Deep.RegionHeld3
namespace Go.Proofs.Ytjklmkeedhgncaa
open Go.RowKit
set_option linter.unusedSimpArgs false
set_option linter.unusedVariables false
theorem Try.in17 (w : World) (vs : Array Value) : (callFunc 17 vs).run Try.prog w = .ok (.enter 17 vs) w := by kernel_rfl
theorem Try.in40 (w : World) (vs : Array Value) : (callFunc 40 vs).run Try.prog w = .ok (.enter 40 vs) w := by kernel_rfl
theorem Try.in21 (w : World) (vs : Array Value) : (callFunc 21 vs).run Try.prog w = .ok (.enter 21 vs) w := by kernel_rfl
def sameC (c d : CV) : Bool := decide (c.k = d.k) && (decide (c.s = d.s) && decide (strOfNums c.l = strOfNums d.l))
theorem toL_inj {a b : ByteArray} (h : a.toList = b.toList) : a = b := by
  rw [ByteArray.toList_eq, ByteArray.toList_eq] at h
  rcases a with ⟨⟨a⟩⟩; rcases b with ⟨⟨b⟩⟩
  simp at h
  rw [h]
theorem toL_beq (a b : ByteArray) : (a.toList == b.toList) = decide (a = b) := by
  rw [Bool.eq_iff_iff]
  simp
  exact ⟨toL_inj, fun h => by rw [h]⟩
def cvA (c : CV) : Array Value := #[.int .i64 c.k, .string c.s, c.v]
set_option maxRecDepth 8000 in
theorem same_k (k j : Int) (s t : ByteArray) (va ua : Option Addr) (vn vc un uc : Nat) (l m : List Int) (w : World) (hx : RowAt w (.slice va vn vc) l) (hy : RowAt w (.slice ua un uc) m) (hk : ¬ k = j) :
    Calls Try.prog 17 #[.agg #[.int .i64 k, .string s, .slice va vn vc], .agg #[.int .i64 j, .string t, .slice ua un uc]] w fun e w' => e = .returned (.bool (sameC ⟨k, s, .slice va vn vc, l⟩ ⟨j, t, .slice ua un uc, m⟩)) ∧ Below w.heap.size w w' := by
  have HX := Keep.mk hx
  have HY := Keep.mk hy
  clear hx hy
  have hkb : (k == j) = false := by simpa using hk
  skip
  skip
  skip
  skip
  go_enter Try.func17, Try.ntmps17
  refine wp_seq_k fun K1 hK1 => ?_
  refine wp_region_list (WL.out ?_)
  refine WL.box (by kernel_rfl) 40 (.tmp 0) rfl #[.int .i64 k, .string s, .slice va vn vc] rfl ?_
  have C1 := Keep.mk (Blk.new w 40 #[.int .i64 k, .string s, .slice va vn vc])
  have b1 := Keep.mk (below_new w (.cells #[.int .i64 k, .string s, .slice va vn vc] 40))
  change WL _ _ _ _ _ (w.alloc (.cells #[.int .i64 k, .string s, .slice va vn vc] 40))
  generalize w.alloc (.cells #[.int .i64 k, .string s, .slice va vn vc] 40) = w1 at *
  obtain ⟨c, hc0⟩ : ∃ z, Keep (z = w.heap.size) := ⟨_, ⟨rfl⟩⟩
  rw [← hc0.out] at C1 ⊢
  simp only [Act.put, List.setIfInBounds_toArray, List.set_cons_zero, List.set_cons_succ]
  refine WL.box (by kernel_rfl) 40 (.tmp 1) rfl #[.int .i64 j, .string t, .slice ua un uc] rfl ?_
  have D2 := Keep.mk (Blk.new w1 40 #[.int .i64 j, .string t, .slice ua un uc])
  have b2 := Keep.mk (below_new w1 (.cells #[.int .i64 j, .string t, .slice ua un uc] 40))
  change WL _ _ _ _ _ (w1.alloc (.cells #[.int .i64 j, .string t, .slice ua un uc] 40))
  generalize w1.alloc (.cells #[.int .i64 j, .string t, .slice ua un uc] 40) = w2 at *
  obtain ⟨d, hd0⟩ : ∃ z, Keep (z = w1.heap.size) := ⟨_, ⟨rfl⟩⟩
  rw [← hd0.out] at D2 ⊢
  have C2 := Keep.mk (C1.out.below b2.out C1.out.lt)
  have B2 : Keep (Below w.heap.size w w2) := ⟨b1.out.trans (b2.out.mono b1.out.size)⟩
  have q1 := conv_row _ _ w2 (HX.out.below B2.out)
  have q2 := conv_row _ _ w2 (HY.out.below B2.out)
  have c0 := C2.out.c 0 (by rfl : (#[.int .i64 k, .string s, .slice va vn vc] : Array Value)[0]? = some (.int .i64 k))
  have c1 := C2.out.c 1 (by rfl : (#[.int .i64 k, .string s, .slice va vn vc] : Array Value)[1]? = some (.string s))
  have c2 := C2.out.c 2 (by rfl : (#[.int .i64 k, .string s, .slice va vn vc] : Array Value)[2]? = some (.slice va vn vc))
  have d0 := D2.out.c 0 (by rfl : (#[.int .i64 j, .string t, .slice ua un uc] : Array Value)[0]? = some (.int .i64 j))
  have d1 := D2.out.c 1 (by rfl : (#[.int .i64 j, .string t, .slice ua un uc] : Array Value)[1]? = some (.string t))
  have d2 := D2.out.c 2 (by rfl : (#[.int .i64 j, .string t, .slice ua un uc] : Array Value)[2]? = some (.slice ua un uc))
  simp only [Act.put, List.setIfInBounds_toArray, List.set_cons_zero, List.set_cons_succ]
  refine WL.val (by kernel_rfl) (.bool false) (by go_simp) ?_
  simp only [Act.put, List.setIfInBounds_toArray, List.set_cons_zero, List.set_cons_succ]
  refine WL.nil ?_
  refine hK1 _ _ ?_
  refine wp_seq_k fun K2 hK2 => ?_
  refine wp_region_list (WL.out ?_)
  refine WL.val (by kernel_rfl) (.pointer (some ⟨c, 0, none⟩)) (by go_simp) ?_
  simp only [Act.put, List.setIfInBounds_toArray, List.set_cons_zero, List.set_cons_succ]
  refine WL.val (by kernel_rfl) (.int .i64 k) (by go_simp) ?_
  simp only [Act.put, List.setIfInBounds_toArray, List.set_cons_zero, List.set_cons_succ]
  refine WL.val (by kernel_rfl) (.pointer (some ⟨d, 0, none⟩)) (by go_simp) ?_
  simp only [Act.put, List.setIfInBounds_toArray, List.set_cons_zero, List.set_cons_succ]
  refine WL.val (by kernel_rfl) (.int .i64 j) (by go_simp) ?_
  simp only [Act.put, List.setIfInBounds_toArray, List.set_cons_zero, List.set_cons_succ]
  refine WL.val (by kernel_rfl) (.bool false) (by go_simp) ?_
  simp only [Act.put, List.setIfInBounds_toArray, List.set_cons_zero, List.set_cons_succ]
  refine WL.val (by kernel_rfl) (.bool false) (by go_simp) ?_
  simp only [Act.put, List.setIfInBounds_toArray, List.set_cons_zero, List.set_cons_succ]
  refine WL.skip (by kernel_rfl) ?_
  simp only [Act.put, List.setIfInBounds_toArray, List.set_cons_zero, List.set_cons_succ]
  refine WL.skip (by kernel_rfl) ?_
  simp only [Act.put, List.setIfInBounds_toArray, List.set_cons_zero, List.set_cons_succ]
  refine WL.skip (by kernel_rfl) ?_
  simp only [Act.put, List.setIfInBounds_toArray, List.set_cons_zero, List.set_cons_succ]
  refine WL.skip (by kernel_rfl) ?_
  simp only [Act.put, List.setIfInBounds_toArray, List.set_cons_zero, List.set_cons_succ]
  refine WL.skip (by kernel_rfl) ?_
  simp only [Act.put, List.setIfInBounds_toArray, List.set_cons_zero, List.set_cons_succ]
  refine WL.val (by kernel_rfl) (.bool false) (by go_simp) ?_
  simp only [Act.put, List.setIfInBounds_toArray, List.set_cons_zero, List.set_cons_succ]
  refine WL.val (by kernel_rfl) (.bool false) (by go_simp) ?_
  simp only [Act.put, List.setIfInBounds_toArray, List.set_cons_zero, List.set_cons_succ]
  refine WL.skip (by kernel_rfl) ?_
  simp only [Act.put, List.setIfInBounds_toArray, List.set_cons_zero, List.set_cons_succ]
  refine WL.skip (by kernel_rfl) ?_
  simp only [Act.put, List.setIfInBounds_toArray, List.set_cons_zero, List.set_cons_succ]
  refine WL.skip (by kernel_rfl) ?_
  simp only [Act.put, List.setIfInBounds_toArray, List.set_cons_zero, List.set_cons_succ]
  refine WL.skip (by kernel_rfl) ?_
  simp only [Act.put, List.setIfInBounds_toArray, List.set_cons_zero, List.set_cons_succ]
  refine WL.skip (by kernel_rfl) ?_
  simp only [Act.put, List.setIfInBounds_toArray, List.set_cons_zero, List.set_cons_succ]
  refine WL.skip (by kernel_rfl) ?_
  simp only [Act.put, List.setIfInBounds_toArray, List.set_cons_zero, List.set_cons_succ]
  refine WL.skip (by kernel_rfl) ?_
  simp only [Act.put, List.setIfInBounds_toArray, List.set_cons_zero, List.set_cons_succ]
  refine WL.val (by kernel_rfl) (.bool false) (by go_simp) ?_
  simp only [Act.put, List.setIfInBounds_toArray, List.set_cons_zero, List.set_cons_succ]
  refine WL.val (by kernel_rfl) (.bool false) (by go_simp) ?_
  simp only [Act.put, List.setIfInBounds_toArray, List.set_cons_zero, List.set_cons_succ]
  refine WL.nil ?_
  refine hK2 _ _ ?_
  refine wp_ret ?_
  go_ret
  refine ⟨?_, B2.out⟩
  simp [sameC, hk]
set_option maxRecDepth 8000 in
theorem same_s (k j : Int) (s t : ByteArray) (va ua : Option Addr) (vn vc un uc : Nat) (l m : List Int) (w : World) (hx : RowAt w (.slice va vn vc) l) (hy : RowAt w (.slice ua un uc) m) (hk : k = j) (hs : ¬ s = t) :
    Calls Try.prog 17 #[.agg #[.int .i64 k, .string s, .slice va vn vc], .agg #[.int .i64 j, .string t, .slice ua un uc]] w fun e w' => e = .returned (.bool (sameC ⟨k, s, .slice va vn vc, l⟩ ⟨j, t, .slice ua un uc, m⟩)) ∧ Below w.heap.size w w' := by
  have HX := Keep.mk hx
  have HY := Keep.mk hy
  clear hx hy
  have hkb : (k == j) = true := by simpa using hk
  skip
  have hsl : ¬ s.toList = t.toList := fun e => hs (toL_inj e)
  obtain rfl := hk
  skip
  go_enter Try.func17, Try.ntmps17
  refine wp_seq_k fun K1 hK1 => ?_
  refine wp_region_list (WL.out ?_)
  refine WL.box (by kernel_rfl) 40 (.tmp 0) rfl #[.int .i64 k, .string s, .slice va vn vc] rfl ?_
  have C1 := Keep.mk (Blk.new w 40 #[.int .i64 k, .string s, .slice va vn vc])
  have b1 := Keep.mk (below_new w (.cells #[.int .i64 k, .string s, .slice va vn vc] 40))
  change WL _ _ _ _ _ (w.alloc (.cells #[.int .i64 k, .string s, .slice va vn vc] 40))
  generalize w.alloc (.cells #[.int .i64 k, .string s, .slice va vn vc] 40) = w1 at *
  obtain ⟨c, hc0⟩ : ∃ z, Keep (z = w.heap.size) := ⟨_, ⟨rfl⟩⟩
  rw [← hc0.out] at C1 ⊢
  simp only [Act.put, List.setIfInBounds_toArray, List.set_cons_zero, List.set_cons_succ]
  refine WL.box (by kernel_rfl) 40 (.tmp 1) rfl #[.int .i64 k, .string t, .slice ua un uc] rfl ?_
  have D2 := Keep.mk (Blk.new w1 40 #[.int .i64 k, .string t, .slice ua un uc])
  have b2 := Keep.mk (below_new w1 (.cells #[.int .i64 k, .string t, .slice ua un uc] 40))
  change WL _ _ _ _ _ (w1.alloc (.cells #[.int .i64 k, .string t, .slice ua un uc] 40))
  generalize w1.alloc (.cells #[.int .i64 k, .string t, .slice ua un uc] 40) = w2 at *
  obtain ⟨d, hd0⟩ : ∃ z, Keep (z = w1.heap.size) := ⟨_, ⟨rfl⟩⟩
  rw [← hd0.out] at D2 ⊢
  have C2 := Keep.mk (C1.out.below b2.out C1.out.lt)
  have B2 : Keep (Below w.heap.size w w2) := ⟨b1.out.trans (b2.out.mono b1.out.size)⟩
  have q1 := conv_row _ _ w2 (HX.out.below B2.out)
  have q2 := conv_row _ _ w2 (HY.out.below B2.out)
  have c0 := C2.out.c 0 (by rfl : (#[.int .i64 k, .string s, .slice va vn vc] : Array Value)[0]? = some (.int .i64 k))
  have c1 := C2.out.c 1 (by rfl : (#[.int .i64 k, .string s, .slice va vn vc] : Array Value)[1]? = some (.string s))
  have c2 := C2.out.c 2 (by rfl : (#[.int .i64 k, .string s, .slice va vn vc] : Array Value)[2]? = some (.slice va vn vc))
  have d0 := D2.out.c 0 (by rfl : (#[.int .i64 k, .string t, .slice ua un uc] : Array Value)[0]? = some (.int .i64 k))
  have d1 := D2.out.c 1 (by rfl : (#[.int .i64 k, .string t, .slice ua un uc] : Array Value)[1]? = some (.string t))
  have d2 := D2.out.c 2 (by rfl : (#[.int .i64 k, .string t, .slice ua un uc] : Array Value)[2]? = some (.slice ua un uc))
  simp only [Act.put, List.setIfInBounds_toArray, List.set_cons_zero, List.set_cons_succ]
  refine WL.val (by kernel_rfl) (.bool false) (by go_simp) ?_
  simp only [Act.put, List.setIfInBounds_toArray, List.set_cons_zero, List.set_cons_succ]
  refine WL.nil ?_
  refine hK1 _ _ ?_
  refine wp_seq_k fun K2 hK2 => ?_
  refine wp_region_list (WL.out ?_)
  refine WL.val (by kernel_rfl) (.pointer (some ⟨c, 0, none⟩)) (by go_simp) ?_
  simp only [Act.put, List.setIfInBounds_toArray, List.set_cons_zero, List.set_cons_succ]
  refine WL.val (by kernel_rfl) (.int .i64 k) (by go_simp) ?_
  simp only [Act.put, List.setIfInBounds_toArray, List.set_cons_zero, List.set_cons_succ]
  refine WL.val (by kernel_rfl) (.pointer (some ⟨d, 0, none⟩)) (by go_simp) ?_
  simp only [Act.put, List.setIfInBounds_toArray, List.set_cons_zero, List.set_cons_succ]
  refine WL.val (by kernel_rfl) (.int .i64 k) (by go_simp) ?_
  simp only [Act.put, List.setIfInBounds_toArray, List.set_cons_zero, List.set_cons_succ]
  refine WL.val (by kernel_rfl) (.bool true) (by go_simp) ?_
  simp only [Act.put, List.setIfInBounds_toArray, List.set_cons_zero, List.set_cons_succ]
  refine WL.val (by kernel_rfl) (.bool true) (by go_simp) ?_
  simp only [Act.put, List.setIfInBounds_toArray, List.set_cons_zero, List.set_cons_succ]
  refine WL.val (by kernel_rfl) (.pointer (some ⟨c, 1, none⟩)) (by go_simp) ?_
  simp only [Act.put, List.setIfInBounds_toArray, List.set_cons_zero, List.set_cons_succ]
  refine WL.val (by kernel_rfl) (.string s) (by go_simp) ?_
  simp only [Act.put, List.setIfInBounds_toArray, List.set_cons_zero, List.set_cons_succ]
  refine WL.val (by kernel_rfl) (.pointer (some ⟨d, 1, none⟩)) (by go_simp) ?_
  simp only [Act.put, List.setIfInBounds_toArray, List.set_cons_zero, List.set_cons_succ]
  refine WL.val (by kernel_rfl) (.string t) (by go_simp) ?_
  simp only [Act.put, List.setIfInBounds_toArray, List.set_cons_zero, List.set_cons_succ]
  refine WL.val (by kernel_rfl) (.bool false) (by go_simp) ?_
  simp only [Act.put, List.setIfInBounds_toArray, List.set_cons_zero, List.set_cons_succ]
  refine WL.val (by kernel_rfl) (.bool false) (by go_simp) ?_
  simp only [Act.put, List.setIfInBounds_toArray, List.set_cons_zero, List.set_cons_succ]
  refine WL.val (by kernel_rfl) (.bool false) (by go_simp) ?_
  simp only [Act.put, List.setIfInBounds_toArray, List.set_cons_zero, List.set_cons_succ]
  refine WL.skip (by kernel_rfl) ?_
  simp only [Act.put, List.setIfInBounds_toArray, List.set_cons_zero, List.set_cons_succ]
  refine WL.skip (by kernel_rfl) ?_
  simp only [Act.put, List.setIfInBounds_toArray, List.set_cons_zero, List.set_cons_succ]
  refine WL.skip (by kernel_rfl) ?_
  simp only [Act.put, List.setIfInBounds_toArray, List.set_cons_zero, List.set_cons_succ]
  refine WL.skip (by kernel_rfl) ?_
  simp only [Act.put, List.setIfInBounds_toArray, List.set_cons_zero, List.set_cons_succ]
  refine WL.skip (by kernel_rfl) ?_
  simp only [Act.put, List.setIfInBounds_toArray, List.set_cons_zero, List.set_cons_succ]
  refine WL.skip (by kernel_rfl) ?_
  simp only [Act.put, List.setIfInBounds_toArray, List.set_cons_zero, List.set_cons_succ]
  refine WL.skip (by kernel_rfl) ?_
  simp only [Act.put, List.setIfInBounds_toArray, List.set_cons_zero, List.set_cons_succ]
  refine WL.val (by kernel_rfl) (.bool false) (by go_simp) ?_
  simp only [Act.put, List.setIfInBounds_toArray, List.set_cons_zero, List.set_cons_succ]
  refine WL.val (by kernel_rfl) (.bool false) (by go_simp) ?_
  simp only [Act.put, List.setIfInBounds_toArray, List.set_cons_zero, List.set_cons_succ]
  refine WL.nil ?_
  refine hK2 _ _ ?_
  refine wp_ret ?_
  go_ret
  refine ⟨?_, B2.out⟩
  simp [sameC, hs]
set_option maxRecDepth 8000 in
theorem same_v (k j : Int) (s t : ByteArray) (va ua : Option Addr) (vn vc un uc : Nat) (l m : List Int) (w : World) (hx : RowAt w (.slice va vn vc) l) (hy : RowAt w (.slice ua un uc) m) (hk : k = j) (hs : s = t) :
    Calls Try.prog 17 #[.agg #[.int .i64 k, .string s, .slice va vn vc], .agg #[.int .i64 j, .string t, .slice ua un uc]] w fun e w' => e = .returned (.bool (sameC ⟨k, s, .slice va vn vc, l⟩ ⟨j, t, .slice ua un uc, m⟩)) ∧ Below w.heap.size w w' := by
  have HX := Keep.mk hx
  have HY := Keep.mk hy
  clear hx hy
  have hkb : (k == j) = true := by simpa using hk
  skip
  skip
  obtain rfl := hk
  obtain rfl := hs
  go_enter Try.func17, Try.ntmps17
  refine wp_seq_k fun K1 hK1 => ?_
  refine wp_region_list (WL.out ?_)
  refine WL.box (by kernel_rfl) 40 (.tmp 0) rfl #[.int .i64 k, .string s, .slice va vn vc] rfl ?_
  have C1 := Keep.mk (Blk.new w 40 #[.int .i64 k, .string s, .slice va vn vc])
  have b1 := Keep.mk (below_new w (.cells #[.int .i64 k, .string s, .slice va vn vc] 40))
  change WL _ _ _ _ _ (w.alloc (.cells #[.int .i64 k, .string s, .slice va vn vc] 40))
  generalize w.alloc (.cells #[.int .i64 k, .string s, .slice va vn vc] 40) = w1 at *
  obtain ⟨c, hc0⟩ : ∃ z, Keep (z = w.heap.size) := ⟨_, ⟨rfl⟩⟩
  rw [← hc0.out] at C1 ⊢
  simp only [Act.put, List.setIfInBounds_toArray, List.set_cons_zero, List.set_cons_succ]
  refine WL.box (by kernel_rfl) 40 (.tmp 1) rfl #[.int .i64 k, .string s, .slice ua un uc] rfl ?_
  have D2 := Keep.mk (Blk.new w1 40 #[.int .i64 k, .string s, .slice ua un uc])
  have b2 := Keep.mk (below_new w1 (.cells #[.int .i64 k, .string s, .slice ua un uc] 40))
  change WL _ _ _ _ _ (w1.alloc (.cells #[.int .i64 k, .string s, .slice ua un uc] 40))
  generalize w1.alloc (.cells #[.int .i64 k, .string s, .slice ua un uc] 40) = w2 at *
  obtain ⟨d, hd0⟩ : ∃ z, Keep (z = w1.heap.size) := ⟨_, ⟨rfl⟩⟩
  rw [← hd0.out] at D2 ⊢
  have C2 := Keep.mk (C1.out.below b2.out C1.out.lt)
  have B2 : Keep (Below w.heap.size w w2) := ⟨b1.out.trans (b2.out.mono b1.out.size)⟩
  have q1 := conv_row _ _ w2 (HX.out.below B2.out)
  have q2 := conv_row _ _ w2 (HY.out.below B2.out)
  have c0 := C2.out.c 0 (by rfl : (#[.int .i64 k, .string s, .slice va vn vc] : Array Value)[0]? = some (.int .i64 k))
  have c1 := C2.out.c 1 (by rfl : (#[.int .i64 k, .string s, .slice va vn vc] : Array Value)[1]? = some (.string s))
  have c2 := C2.out.c 2 (by rfl : (#[.int .i64 k, .string s, .slice va vn vc] : Array Value)[2]? = some (.slice va vn vc))
  have d0 := D2.out.c 0 (by rfl : (#[.int .i64 k, .string s, .slice ua un uc] : Array Value)[0]? = some (.int .i64 k))
  have d1 := D2.out.c 1 (by rfl : (#[.int .i64 k, .string s, .slice ua un uc] : Array Value)[1]? = some (.string s))
  have d2 := D2.out.c 2 (by rfl : (#[.int .i64 k, .string s, .slice ua un uc] : Array Value)[2]? = some (.slice ua un uc))
  simp only [Act.put, List.setIfInBounds_toArray, List.set_cons_zero, List.set_cons_succ]
  refine WL.val (by kernel_rfl) (.bool false) (by go_simp) ?_
  simp only [Act.put, List.setIfInBounds_toArray, List.set_cons_zero, List.set_cons_succ]
  refine WL.nil ?_
  refine hK1 _ _ ?_
  refine wp_seq_k fun K2 hK2 => ?_
  refine wp_region_list (WL.out ?_)
  refine WL.val (by kernel_rfl) (.pointer (some ⟨c, 0, none⟩)) (by go_simp) ?_
  simp only [Act.put, List.setIfInBounds_toArray, List.set_cons_zero, List.set_cons_succ]
  refine WL.val (by kernel_rfl) (.int .i64 k) (by go_simp) ?_
  simp only [Act.put, List.setIfInBounds_toArray, List.set_cons_zero, List.set_cons_succ]
  refine WL.val (by kernel_rfl) (.pointer (some ⟨d, 0, none⟩)) (by go_simp) ?_
  simp only [Act.put, List.setIfInBounds_toArray, List.set_cons_zero, List.set_cons_succ]
  refine WL.val (by kernel_rfl) (.int .i64 k) (by go_simp) ?_
  simp only [Act.put, List.setIfInBounds_toArray, List.set_cons_zero, List.set_cons_succ]
  refine WL.val (by kernel_rfl) (.bool true) (by go_simp) ?_
  simp only [Act.put, List.setIfInBounds_toArray, List.set_cons_zero, List.set_cons_succ]
  refine WL.val (by kernel_rfl) (.bool true) (by go_simp) ?_
  simp only [Act.put, List.setIfInBounds_toArray, List.set_cons_zero, List.set_cons_succ]
  refine WL.val (by kernel_rfl) (.pointer (some ⟨c, 1, none⟩)) (by go_simp) ?_
  simp only [Act.put, List.setIfInBounds_toArray, List.set_cons_zero, List.set_cons_succ]
  refine WL.val (by kernel_rfl) (.string s) (by go_simp) ?_
  simp only [Act.put, List.setIfInBounds_toArray, List.set_cons_zero, List.set_cons_succ]
  refine WL.val (by kernel_rfl) (.pointer (some ⟨d, 1, none⟩)) (by go_simp) ?_
  simp only [Act.put, List.setIfInBounds_toArray, List.set_cons_zero, List.set_cons_succ]
  refine WL.val (by kernel_rfl) (.string s) (by go_simp) ?_
  simp only [Act.put, List.setIfInBounds_toArray, List.set_cons_zero, List.set_cons_succ]
  refine WL.val (by kernel_rfl) (.bool true) (by go_simp) ?_
  simp only [Act.put, List.setIfInBounds_toArray, List.set_cons_zero, List.set_cons_succ]
  refine WL.val (by kernel_rfl) (.bool true) (by go_simp) ?_
  simp only [Act.put, List.setIfInBounds_toArray, List.set_cons_zero, List.set_cons_succ]
  refine WL.val (by kernel_rfl) (.bool true) (by go_simp) ?_
  simp only [Act.put, List.setIfInBounds_toArray, List.set_cons_zero, List.set_cons_succ]
  refine WL.val (by kernel_rfl) (.pointer (some ⟨c, 2, none⟩)) (by go_simp) ?_
  simp only [Act.put, List.setIfInBounds_toArray, List.set_cons_zero, List.set_cons_succ]
  refine WL.val (by kernel_rfl) (.slice va vn vc) (by go_simp) ?_
  simp only [Act.put, List.setIfInBounds_toArray, List.set_cons_zero, List.set_cons_succ]
  refine WL.val (by kernel_rfl) (.string (strOfNums l)) (by go_simp) ?_
  simp only [Act.put, List.setIfInBounds_toArray, List.set_cons_zero, List.set_cons_succ]
  refine WL.val (by kernel_rfl) (.pointer (some ⟨d, 2, none⟩)) (by go_simp) ?_
  simp only [Act.put, List.setIfInBounds_toArray, List.set_cons_zero, List.set_cons_succ]
  refine WL.val (by kernel_rfl) (.slice ua un uc) (by go_simp) ?_
  simp only [Act.put, List.setIfInBounds_toArray, List.set_cons_zero, List.set_cons_succ]
  refine WL.val (by kernel_rfl) (.string (strOfNums m)) (by go_simp) ?_
  simp only [Act.put, List.setIfInBounds_toArray, List.set_cons_zero, List.set_cons_succ]
  refine WL.val (by kernel_rfl) (.bool ((strOfNums l).toList == (strOfNums m).toList)) (by go_simp) ?_
  simp only [Act.put, List.setIfInBounds_toArray, List.set_cons_zero, List.set_cons_succ]
  refine WL.val (by kernel_rfl) (.bool ((strOfNums l).toList == (strOfNums m).toList)) (by go_simp) ?_
  simp only [Act.put, List.setIfInBounds_toArray, List.set_cons_zero, List.set_cons_succ]
  refine WL.val (by kernel_rfl) (.bool ((strOfNums l).toList == (strOfNums m).toList)) (by go_simp) ?_
  simp only [Act.put, List.setIfInBounds_toArray, List.set_cons_zero, List.set_cons_succ]
  refine WL.nil ?_
  refine hK2 _ _ ?_
  refine wp_ret ?_
  go_ret
  refine ⟨?_, B2.out⟩
  simp only [sameC, decide_true, Bool.true_and]
  rw [toL_beq]
  rfl
theorem sameC_any (c d : CV) (w : World) (hx : RowAt w c.v c.l) (hy : RowAt w d.v d.l) :
    Calls Try.prog 17 #[.agg (cvA c), .agg (cvA d)] w fun e w' => e = .returned (.bool (sameC c d)) ∧ Below w.heap.size w w' := by
  obtain ⟨k, s, v, l⟩ := c
  obtain ⟨j, t, u, m⟩ := d
  obtain ⟨va, vc, hv⟩ := row_form hx
  obtain ⟨ua, uc, hu⟩ := row_form hy
  simp only at hv hu hx hy
  subst hv hu
  by_cases hk : k = j
  · by_cases hs : s = t
    · exact same_v k j s t va ua _ vc _ uc l m w hx hy hk hs
    · exact same_s k j s t va ua _ vc _ uc l m w hx hy hk hs
  · exact same_k k j s t va ua _ vc _ uc l m w hx hy hk

theorem eqB {a b : Array Value} {x y : Hs} {c : Bool} (ha : a = bytesA 32 x.f) (hb : b = bytesA 32 y.f) (hc : decide (x = y) = c) (w : World) : (Op.equalIn 10000 25 (.agg a) (.agg b)).run Try.prog w = .ok c w := by
  rw [ha, hb, run_equal_arr2, all_eq_iff, hc]
def Twi (rs : List (List Int)) (i j : Nat) : Prop := ∃ a b, rs[i]? = some a ∧ rs[j]? = some b ∧ shaH a = shaH b ∧ strOfNums a ≠ strOfNums b
theorem hsL_inj {x y : Hs} (h : hsL x = hsL y) : x = y := by
  refine Hs.ext' fun i hi => ?_
  have h1 : (hl 32 x.f).getD i 0 = (hl 32 y.f).getD i 0 := congrArg (fun l : List Int => l.getD i 0) h
  rw [hl_get _ _ _ hi, hl_get _ _ _ hi] at h1
  exact h1
theorem nums_inj {a b : List Int} (ha : Byts a) (hb : Byts b) (h : strOfNums a = strOfNums b) : a = b := by
  rw [← lst_nums ha, ← lst_nums hb, h]
theorem twi_of_cl {rs : List (List Int)} (hB : ∀ r ∈ rs, Byts r) (h : RtP.Cl shaL rs) : ∃ i j, j < i ∧ i < rs.length ∧ Twi rs i j := by
  obtain ⟨a, ha, b, hb, hne, he⟩ := h
  obtain ⟨i, hi, ei⟩ := List.getElem_of_mem ha
  obtain ⟨j, hj, ej⟩ := List.getElem_of_mem hb
  have hh : shaH a = shaH b := hsL_inj (by rw [shaH_L, shaH_L, he])
  have hs : strOfNums a ≠ strOfNums b := fun e => hne (nums_inj (hB a ha) (hB b hb) e)
  have e1 : rs[i]? = some a := by rw [List.getElem?_eq_getElem hi, ei]
  have e2 : rs[j]? = some b := by rw [List.getElem?_eq_getElem hj, ej]
  rcases Nat.lt_trichotomy i j with h | h | h
  · exact ⟨j, i, h, hj, b, a, e2, e1, hh.symm, hs.symm⟩
  · subst h
    rw [ei] at ej
    exact absurd ej hne
  · exact ⟨i, j, h, hi, a, b, e1, e2, hh, hs⟩
def HSl (rs : List (List Int)) : List Hs := rs.map shaH
set_option maxRecDepth 8000 in
set_option maxHeartbeats 1000000 in
theorem twice_any (v : Value) (us : List Value) (rs : List (List Int)) (w : World) (hx : RsV w v us rs) (hN : us.length ≤ 4398046511000) (hL : ∀ r ∈ rs, r.length ≤ 140737488355000) (hBy : ∀ r ∈ rs, Byts r) :
    Calls Try.prog 40 #[v] w fun e w' => ∃ b : Bool, e = .returned (.bool b) ∧ (RtP.Cl shaL rs → b = true) ∧ Below w.heap.size w w' := by
  obtain ⟨n, hn⟩ : ∃ z, Keep (us.length = z) := ⟨_, ⟨rfl⟩⟩
  obtain ⟨la, cap, rfl, hG⟩ : ∃ la cap, v = .slice la n cap ∧ (0 < n → ∃ g, la = some ⟨g, 0, none⟩) := by
    rcases hx.2.2 with ⟨rfl, h⟩ | ⟨g, cap, rfl, _⟩
    · exact ⟨none, 0, by rw [← hn.out, h]; rfl, fun h0 => by rw [← hn.out, h] at h0; simp at h0⟩
    · exact ⟨_, cap, by rw [hn.out], fun _ => ⟨g, rfl⟩⟩
  have HX := Keep.mk hx
  have HG := Keep.mk hG
  have HN : Keep (n ≤ 4398046511000) := ⟨by rw [← hn.out]; exact hN⟩
  have HL := Keep.mk hL
  have HBy := Keep.mk hBy
  clear hx hG hN hL hBy
  go_enter Try.func40, Try.ntmps40
  refine wp_seq_k fun K1 hK1 => ?_
  refine wp_region_list (WL.out ?_)
  refine WL.val (by kernel_rfl) (.bool false) (by go_simp) ?_
  simp only [Act.put, List.setIfInBounds_toArray, List.set_cons_zero, List.set_cons_succ]
  refine WL.nil ?_
  refine hK1 _ _ ?_
  refine wp_seq_k fun K2 hK2 => ?_
  refine wp_region_list (WL.out ?_)
  refine WL.bs (by kernel_rfl) 67 0 _ rfl #[] (by simp [Act.eval]) _ _ (Try.bs0 w) ?_
  have O0 : Keep ((w.alloc (.cells #[] 25)).ownsRow w.heap.size 25 32 (.slice (some ⟨w.heap.size, 0, none⟩) 0 0) (HSl (rs.take 0)).length (flatH (HSl (rs.take 0)))) := ⟨rfl, .inr ⟨w.heap.size, 0, #[], rfl, Nat.le_refl _, Blk.new w 25 #[], Nat.le_refl _, by decide, rfl, rfl⟩⟩
  have B0 := Keep.mk (below_new w (.cells #[] 25))
  generalize w.alloc (.cells #[] 25) = w0 at *
  obtain ⟨v0, hv0⟩ : ∃ z, Keep (z = Value.slice (some ⟨w.heap.size, 0, none⟩) 0 0) := ⟨_, ⟨rfl⟩⟩
  rw [← hv0.out] at O0 ⊢
  simp only [Act.put, List.setIfInBounds_toArray, List.set_cons_zero, List.set_cons_succ]
  refine WL.val (by kernel_rfl) (v0) (by go_simp) ?_
  simp only [Act.put, List.setIfInBounds_toArray, List.set_cons_zero, List.set_cons_succ]
  refine WL.nil ?_
  refine hK2 _ _ ?_
  refine wp_seq_k fun K3 hK3 => ?_
  refine wp_seq_k fun K4 hK4 => ?_
  refine wp_region_list (WL.out ?_)
  refine WL.val (by kernel_rfl) (.int .i64 0) (by go_simp) ?_
  simp only [Act.put, List.setIfInBounds_toArray, List.set_cons_zero, List.set_cons_succ]
  refine WL.nil ?_
  refine hK4 _ _ ?_
  refine wp_block ?_
  refine wp_loop (fun ac wr => ∃ (t : Nat) (f : Nat → Value) (vh : Value), ac = { tmps := #[.slice la n cap, undef, .bool false, vh, .int .i64 (t : Int), undef, undef, v0, f 8, f 9, f 10, f 11, f 12, f 13, f 14, f 15, f 16, f 17, f 18, f 19, f 20, f 21, undef, undef, undef, undef, undef, undef, undef, undef, undef, undef, undef, undef, undef, undef, undef, undef, undef, undef, undef, undef, undef, undef, undef, undef, undef, undef, undef, undef, undef, undef, undef, undef, undef], defers := [] } ∧ t ≤ n ∧ wr.ownsRow w.heap.size 25 32 vh (HSl (rs.take t)).length (flatH (HSl (rs.take t))) ∧ Below w.heap.size w wr) (fun a _ => n - (intOf (a.tmps.getD 4 undef)).toNat) ⟨0, fun zz => [.slice la n cap, undef, .bool false, v0, .int .i64 0, undef, undef, v0, undef, undef, undef, undef, undef, undef, undef, undef, undef, undef, undef, undef, undef, undef, undef, undef, undef, undef, undef, undef, undef, undef, undef, undef, undef, undef, undef, undef, undef, undef, undef, undef, undef, undef, undef, undef, undef, undef, undef, undef, undef, undef, undef, undef, undef, undef, undef].getD zz undef, v0, rfl, by omega, O0.out, B0.out⟩ ?_
  rintro ac wr ⟨t, f, vh, rfl, ht, hO, hb⟩
  have O1 := Keep.mk hO
  have B1 := Keep.mk hb
  clear hO hb
  by_cases htl : t < n
  · have htl' : (t : Int) < (n : Int) := by omega
    have hw3 : IntKind.i64.wrap ((t : Int) + 1) = ((t + 1 : Nat) : Int) := by rw [IntKind.wrap_i64]; have := HN.out; omega
    have X1 := Keep.mk (HX.out.below B1.out)
    obtain ⟨g, hla⟩ := HG.out (by omega)
    subst hla
    obtain ⟨ut, Hu⟩ : ∃ z, Keep (us[t]? = some z) := ⟨us[t]'(by rw [hn.out]; exact htl), ⟨List.getElem?_eq_getElem _⟩⟩
    obtain ⟨rt, Hr⟩ : ∃ z, Keep (rs[t]? = some z) := ⟨rs[t]'(by rw [← HX.out.1, hn.out]; exact htl), ⟨List.getElem?_eq_getElem _⟩⟩
    have Yt := Keep.mk (X1.out.2.1 t ut rt Hu.out Hr.out)
    have cu : wr.cell? ⟨g, t, none⟩ = some ut := by
      rcases X1.out.2.2 with ⟨e, _⟩ | ⟨g', c', e, hc⟩
      · cases e
      · injection e with e _ _
        injection e with e
        injection e with e
        subst e
        exact hc t ut Hu.out
    refine wp_seq_k fun K5 hK5 => ?_
    refine wp_seq_k fun K6 hK6 => ?_
    refine wp_region_list (WL.out ?_)
    refine WL.val (by kernel_rfl) (.int .i64 (t : Int)) (by go_simp) ?_
    simp only [Act.put, List.setIfInBounds_toArray, List.set_cons_zero, List.set_cons_succ]
    refine WL.val (by kernel_rfl) (.slice (some ⟨g, 0, none⟩) n cap) (by go_simp) ?_
    simp only [Act.put, List.setIfInBounds_toArray, List.set_cons_zero, List.set_cons_succ]
    refine WL.val (by kernel_rfl) (.int .i64 (n : Int)) (by go_simp) ?_
    simp only [Act.put, List.setIfInBounds_toArray, List.set_cons_zero, List.set_cons_succ]
    refine WL.val (by kernel_rfl) (.bool true) (by go_simp) ?_
    simp only [Act.put, List.setIfInBounds_toArray, List.set_cons_zero, List.set_cons_succ]
    refine WL.nil ?_
    refine hK6 _ _ ?_
    refine wp_cond_true rfl ?_
    refine wp_skip ?_
    refine hK5 _ _ ?_
    refine wp_seq_k fun K7 hK7 => ?_
    refine wp_block ?_
    refine wp_region_list (WL.out ?_)
    refine WL.val (by kernel_rfl) (vh) (by go_simp) ?_
    simp only [Act.put, List.setIfInBounds_toArray, List.set_cons_zero, List.set_cons_succ]
    refine WL.val (by kernel_rfl) (.slice (some ⟨g, 0, none⟩) n cap) (by go_simp) ?_
    simp only [Act.put, List.setIfInBounds_toArray, List.set_cons_zero, List.set_cons_succ]
    refine WL.val (by kernel_rfl) (.int .i64 (t : Int)) (by go_simp) ?_
    simp only [Act.put, List.setIfInBounds_toArray, List.set_cons_zero, List.set_cons_succ]
    refine WL.val (by kernel_rfl) (.pointer (some ⟨g, t, none⟩)) (by go_simp) ?_
    simp only [Act.put, List.setIfInBounds_toArray, List.set_cons_zero, List.set_cons_succ]
    refine WL.val (by kernel_rfl) ut (by go_simp) ?_
    clear cu
    simp only [Act.put, List.setIfInBounds_toArray, List.set_cons_zero, List.set_cons_succ]
    refine WL.callF (by kernel_rfl) 23 _ _ rfl Try.in23 #[ut] (by simp [Act.eval]) ?_
    refine (refOf_sha ut rt wr Yt.out (HL.out rt (List.mem_of_getElem? Hr.out))).mono ?_
    rintro e w2 ⟨rfl, k1⟩
    refine ⟨_, rfl, ?_⟩
    rw [shaH_arr]
    have O2 := Keep.mk (owns_below O1.out k1)
    have B2 : Keep (Below w.heap.size w w2) := ⟨B1.out.trans (k1.mono B1.out.size)⟩
    clear k1 O1 B1 X1 Yt
    simp only [Act.put, List.setIfInBounds_toArray, List.set_cons_zero, List.set_cons_succ]
    refine WL.bs (by kernel_rfl) 67 1 _ rfl #[(0, .agg (encH (shaH rt)).toArray)] (by simp [Act.eval]) _ _ (bs1H (shaH rt) w2) ?_
    have b3 := below_new w2 (.cells (encH (shaH rt)).toArray 25)
    have Q3 := Keep.mk (Blk.new w2 25 (encH (shaH rt)).toArray)
    have O3 := Keep.mk (owns_below O2.out b3)
    have B3 : Keep (Below w.heap.size w _) := ⟨B2.out.trans (b3.mono B2.out.size)⟩
    generalize w2.alloc (.cells (encH (shaH rt)).toArray 25) = w3 at *
    obtain ⟨gg, hg0⟩ : ∃ z, Keep (z = w2.heap.size) := ⟨_, ⟨rfl⟩⟩
    rw [← hg0.out] at Q3 ⊢
    clear b3 O2 B2
    simp only [Act.put, List.setIfInBounds_toArray, List.set_cons_zero, List.set_cons_succ]
    refine ⟨wpList_appAt rfl (.tmp 14) (.tmp 20) rfl w.heap.size vh (HSl (rs.take t)) [shaH rt] gg 0 1 rfl rfl O3.out (by have h := blk_range Q3.out; simpa [flatH] using h) (by have := HN.out; simp [HSl]; omega) B3.out.size (fun v4 w4 k1 k2 k3 => WL.out ?_)⟩
    have O4 : Keep (w4.ownsRow w.heap.size 25 32 v4 (HSl (rs.take (t + 1))).length (flatH (HSl (rs.take (t + 1))))) := ⟨by
      have e : HSl (rs.take (t + 1)) = HSl (rs.take t) ++ [shaH rt] := by simp [HSl, List.take_add_one, Hr.out]
      rw [e]; exact k1⟩
    have B4 : Keep (Below w.heap.size w w4) := ⟨B3.out.trans ((Grown.of (S := fun k => w.heap.size ≤ k) k2 fun k _ e => (owns_lt O3.out k e).1).to_below (fun k hk e => by omega) B3.out.size)⟩
    clear k1 k2 k3 O3 B3 Q3 hg0
    simp only [Act.put, List.setIfInBounds_toArray, List.set_cons_zero, List.set_cons_succ]
    refine WL.val (by kernel_rfl) (v4) (by go_simp) ?_
    simp only [Act.put, List.setIfInBounds_toArray, List.set_cons_zero, List.set_cons_succ]
    refine WL.nil ?_
    refine hK7 _ _ ?_
    refine wp_region_list (WL.out ?_)
    refine WL.val (by kernel_rfl) (.int .i64 (t : Int)) (by go_simp) ?_
    simp only [Act.put, List.setIfInBounds_toArray, List.set_cons_zero, List.set_cons_succ]
    refine WL.val (by kernel_rfl) (.int .i64 ((t + 1 : Nat) : Int)) (by go_simp) ?_
    simp only [Act.put, List.setIfInBounds_toArray, List.set_cons_zero, List.set_cons_succ]
    refine WL.val (by kernel_rfl) (.int .i64 ((t + 1 : Nat) : Int)) (by go_simp) ?_
    simp only [Act.put, List.setIfInBounds_toArray, List.set_cons_zero, List.set_cons_succ]
    refine WL.nil ?_
    refine ⟨⟨t + 1, fun zz => [.slice (some ⟨g, 0, none⟩) n cap, undef, .bool false, v4, .int .i64 ((t + 1 : Nat) : Int), undef, undef, v0, .int .i64 (t : Int), .slice (some ⟨g, 0, none⟩) n cap, .int .i64 (n : Int), .bool true, .int .i64 (t : Int), .int .i64 ((t + 1 : Nat) : Int), vh, .slice (some ⟨g, 0, none⟩) n cap, .int .i64 (t : Int), .pointer (some ⟨g, t, none⟩), ut, .agg (encH (shaH rt)).toArray, .slice (some ⟨gg, 0, none⟩) 1 1, v4, undef, undef, undef, undef, undef, undef, undef, undef, undef, undef, undef, undef, undef, undef, undef, undef, undef, undef, undef, undef, undef, undef, undef, undef, undef, undef, undef, undef, undef, undef, undef, undef, undef].getD zz undef, v4, rfl, by omega, O4.out, B4.out⟩, ?_⟩
    simp only [intOf]; show n - (((t + 1 : Nat) : Int)).toNat < n - ((t : Int)).toNat; omega
  · have htl' : ¬ (t : Int) < (n : Int) := by omega
    have O5 : Keep (wr.ownsRow w.heap.size 25 32 vh (HSl rs).length (flatH (HSl rs))) := ⟨by
      have h := O1.out
      rw [List.take_of_length_le (by rw [← HX.out.1, hn.out]; omega)] at h
      exact h⟩
    clear O1
    refine wp_seq_k fun K8 hK8 => ?_
    refine wp_seq_k fun K9 hK9 => ?_
    refine wp_region_list (WL.out ?_)
    refine WL.val (by kernel_rfl) (.int .i64 (t : Int)) (by go_simp) ?_
    simp only [Act.put, List.setIfInBounds_toArray, List.set_cons_zero, List.set_cons_succ]
    refine WL.val (by kernel_rfl) (.slice la n cap) (by go_simp) ?_
    simp only [Act.put, List.setIfInBounds_toArray, List.set_cons_zero, List.set_cons_succ]
    refine WL.val (by kernel_rfl) (.int .i64 (n : Int)) (by go_simp) ?_
    simp only [Act.put, List.setIfInBounds_toArray, List.set_cons_zero, List.set_cons_succ]
    refine WL.val (by kernel_rfl) (.bool false) (by go_simp) ?_
    simp only [Act.put, List.setIfInBounds_toArray, List.set_cons_zero, List.set_cons_succ]
    refine WL.nil ?_
    refine hK9 _ _ ?_
    refine wp_cond_false rfl ?_
    refine wp_exit ?_
    refine hK3 _ _ ?_
    refine wp_seq_k fun K10 hK10 => ?_
    refine wp_seq_k fun K11 hK11 => ?_
    refine wp_region_list (WL.out ?_)
    refine WL.val (by kernel_rfl) (.int .i64 0) (by go_simp) ?_
    simp only [Act.put, List.setIfInBounds_toArray, List.set_cons_zero, List.set_cons_succ]
    refine WL.nil ?_
    refine hK11 _ _ ?_
    refine wp_block ?_
    refine wp_loop (fun ac wq => ∃ (p : Nat) (ff : Nat → Value), ac = { tmps := #[.slice la n cap, undef, ff 2, vh, .int .i64 (t : Int), .int .i64 (p : Int), ff 6, v0, .int .i64 (t : Int), .slice la n cap, .int .i64 (n : Int), .bool false, f 12, f 13, f 14, f 15, f 16, f 17, f 18, f 19, f 20, f 21, ff 22, ff 23, ff 24, ff 25, ff 26, ff 27, ff 28, ff 29, ff 30, ff 31, ff 32, ff 33, ff 34, ff 35, ff 36, ff 37, ff 38, ff 39, ff 40, ff 41, ff 42, ff 43, ff 44, ff 45, ff 46, ff 47, ff 48, ff 49, ff 50, ff 51, ff 52, ff 53, ff 54], defers := [] } ∧ p ≤ n ∧ wq.ownsRow w.heap.size 25 32 vh (HSl rs).length (flatH (HSl rs)) ∧ Below w.heap.size w wq ∧ (∀ i j, j < i → i < p → ¬ Twi rs i j)) (fun a _ => n - (intOf (a.tmps.getD 5 undef)).toNat) ⟨0, fun zz => [.slice la n cap, undef, .bool false, vh, .int .i64 (t : Int), .int .i64 0, undef, v0, .int .i64 (t : Int), .slice la n cap, .int .i64 (n : Int), .bool false, f 12, f 13, f 14, f 15, f 16, f 17, f 18, f 19, f 20, f 21, undef, undef, undef, undef, undef, undef, undef, undef, undef, undef, undef, undef, undef, undef, undef, undef, undef, undef, undef, undef, undef, undef, undef, undef, undef, undef, undef, undef, undef, undef, undef, undef, undef].getD zz undef, rfl, by omega, O5.out, B1.out, fun i j _ h => by omega⟩ ?_
    rintro ac wq ⟨p, ff, rfl, hp, hO2, hb2, hJ⟩
    have O6 := Keep.mk hO2
    have B6 := Keep.mk hb2
    have HJ := Keep.mk hJ
    clear hO2 hb2 hJ
    by_cases hpl : p < n
    · have hpl' : (p : Int) < (n : Int) := by omega
      have hwp : IntKind.i64.wrap ((p : Int) + 1) = ((p + 1 : Nat) : Int) := by rw [IntKind.wrap_i64]; have := HN.out; omega
      refine wp_seq_k fun K12 hK12 => ?_
      refine wp_seq_k fun K13 hK13 => ?_
      refine wp_region_list (WL.out ?_)
      refine WL.val (by kernel_rfl) (.int .i64 (p : Int)) (by go_simp) ?_
      simp only [Act.put, List.setIfInBounds_toArray, List.set_cons_zero, List.set_cons_succ]
      refine WL.val (by kernel_rfl) (.slice la n cap) (by go_simp) ?_
      simp only [Act.put, List.setIfInBounds_toArray, List.set_cons_zero, List.set_cons_succ]
      refine WL.val (by kernel_rfl) (.int .i64 (n : Int)) (by go_simp) ?_
      simp only [Act.put, List.setIfInBounds_toArray, List.set_cons_zero, List.set_cons_succ]
      refine WL.val (by kernel_rfl) (.bool true) (by go_simp) ?_
      simp only [Act.put, List.setIfInBounds_toArray, List.set_cons_zero, List.set_cons_succ]
      refine WL.nil ?_
      refine hK13 _ _ ?_
      refine wp_cond_true rfl ?_
      refine wp_skip ?_
      refine hK12 _ _ ?_
      refine wp_seq_k fun K14 hK14 => ?_
      refine wp_block ?_
      refine wp_seq_k fun K15 hK15 => ?_
      refine wp_region_list (WL.out ?_)
      refine WL.val (by kernel_rfl) (.int .i64 0) (by go_simp) ?_
      simp only [Act.put, List.setIfInBounds_toArray, List.set_cons_zero, List.set_cons_succ]
      refine WL.nil ?_
      refine hK15 _ _ ?_
      refine wp_block ?_
      refine wp_loop (fun ac wt => ∃ (q : Nat) (fg : Nat → Value), ac = { tmps := #[.slice la n cap, undef, fg 2, vh, .int .i64 (t : Int), .int .i64 (p : Int), .int .i64 (q : Int), v0, .int .i64 (t : Int), .slice la n cap, .int .i64 (n : Int), .bool false, f 12, f 13, f 14, f 15, f 16, f 17, f 18, f 19, f 20, f 21, .int .i64 (p : Int), .slice la n cap, .int .i64 (n : Int), .bool true, ff 26, ff 27, fg 28, fg 29, fg 30, fg 31, fg 32, fg 33, fg 34, fg 35, fg 36, fg 37, fg 38, fg 39, fg 40, fg 41, fg 42, fg 43, fg 44, fg 45, fg 46, fg 47, fg 48, fg 49, fg 50, fg 51, fg 52, fg 53, fg 54], defers := [] } ∧ q ≤ p ∧ wt.ownsRow w.heap.size 25 32 vh (HSl rs).length (flatH (HSl rs)) ∧ Below w.heap.size w wt ∧ (∀ j, j < q → ¬ Twi rs p j)) (fun a _ => p - (intOf (a.tmps.getD 6 undef)).toNat) ⟨0, fun zz => [.slice la n cap, undef, ff 2, vh, .int .i64 (t : Int), .int .i64 (p : Int), .int .i64 0, v0, .int .i64 (t : Int), .slice la n cap, .int .i64 (n : Int), .bool false, f 12, f 13, f 14, f 15, f 16, f 17, f 18, f 19, f 20, f 21, .int .i64 (p : Int), .slice la n cap, .int .i64 (n : Int), .bool true, ff 26, ff 27, ff 28, ff 29, ff 30, ff 31, ff 32, ff 33, ff 34, ff 35, ff 36, ff 37, ff 38, ff 39, ff 40, ff 41, ff 42, ff 43, ff 44, ff 45, ff 46, ff 47, ff 48, ff 49, ff 50, ff 51, ff 52, ff 53, ff 54].getD zz undef, rfl, by omega, O6.out, B6.out, fun j h => by omega⟩ ?_
      rintro ac wt ⟨q, fg, rfl, hq, hO3, hb3, hI⟩
      have O7 := Keep.mk hO3
      have B7 := Keep.mk hb3
      have HI := Keep.mk hI
      clear hO3 hb3 hI
      by_cases hql : q < p
      · have hql' : (q : Int) < (p : Int) := by omega
        have hqn : (q : Int) < (n : Int) := by omega
        have hwq : IntKind.i64.wrap ((q : Int) + 1) = ((q + 1 : Nat) : Int) := by rw [IntKind.wrap_i64]; have := HN.out; omega
        obtain ⟨g, hla⟩ := HG.out (by omega)
        subst hla
        obtain ⟨up, Hup⟩ : ∃ z, Keep (us[p]? = some z) := ⟨us[p]'(by rw [hn.out]; exact hpl), ⟨List.getElem?_eq_getElem _⟩⟩
        obtain ⟨rp, Hrp⟩ : ∃ z, Keep (rs[p]? = some z) := ⟨rs[p]'(by rw [← HX.out.1, hn.out]; exact hpl), ⟨List.getElem?_eq_getElem _⟩⟩
        obtain ⟨uq, Huq⟩ : ∃ z, Keep (us[q]? = some z) := ⟨us[q]'(by rw [hn.out]; omega), ⟨List.getElem?_eq_getElem _⟩⟩
        obtain ⟨rq, Hrq⟩ : ∃ z, Keep (rs[q]? = some z) := ⟨rs[q]'(by rw [← HX.out.1, hn.out]; omega), ⟨List.getElem?_eq_getElem _⟩⟩
        obtain ⟨xp, exp⟩ : ∃ z, Keep (z = shaH rp) := ⟨_, ⟨rfl⟩⟩
        obtain ⟨xq, exq⟩ : ∃ z, Keep (z = shaH rq) := ⟨_, ⟨rfl⟩⟩
        obtain ⟨hp_, hpe⟩ : ∃ z : Array Value, Keep (z = bytesA 32 xp.f) := ⟨_, ⟨rfl⟩⟩
        obtain ⟨hq_, hqe⟩ : ∃ z : Array Value, Keep (z = bytesA 32 xq.f) := ⟨_, ⟨rfl⟩⟩
        obtain ⟨gh, ch, hvh, hgB, hnc⟩ : ∃ gh ch, vh = .slice (some ⟨gh, 0, none⟩) n ch ∧ gh < wt.heap.size ∧ n ≤ ch := by
          obtain ⟨gh, ch, e1, e2, e3, e4⟩ := ownsH_form O7.out (by simp [HSl]; rw [← HX.out.1, hn.out]; omega)
          refine ⟨gh, ch, ?_, e4, ?_⟩
          · rw [e1]; congr 1; simp [HSl]; rw [← HX.out.1, hn.out]
          · have : (HSl rs).length = n := by simp [HSl]; rw [← HX.out.1, hn.out]
            omega
        subst hvh
        have hS0 : Keep (∀ wx : World, Below wt.heap.size wt wx → (RsV wx (.slice (some ⟨g, 0, none⟩) n cap) us rs ∧ wx.rangeAt gh (p * 32) hp_.toList ∧ wx.rangeAt gh (q * 32) hq_.toList ∧ wx.cell? ⟨g, p, none⟩ = some up ∧ wx.cell? ⟨g, q, none⟩ = some uq)) := ⟨fun wx hb => by
          have X := (HX.out.below B7.out).below hb
          have O := owns_below O7.out hb
          have hcl : wx.rangeAt gh 0 (flatH (HSl rs)) := fun j v hv => by
            have := O.cells (g := gh) rfl j v hv
            rw [Addr.add_mid] at this
            exact this
          have hcu : ∀ j u, us[j]? = some u → wx.cell? ⟨g, j, none⟩ = some u := by
            rcases X.2.2 with ⟨e, _⟩ | ⟨g', c', e, hc⟩
            · cases e
            · injection e with e _ _
              injection e with e
              injection e with e
              subst e
              exact hc
          have hel : ∀ (j : Nat) (r : List Int), rs[j]? = some r → wx.rangeAt gh (j * 32) (encH (shaH r)) := fun j r hr => by
            have hj := (List.getElem?_eq_some_iff.1 hr).1
            have h := rangeAt_elem hcl j (by simpa [HSl] using hj)
            rw [Nat.zero_add] at h
            have e : (HSl rs)[j]'(by simpa [HSl] using hj) = shaH r := by
              have := (List.getElem?_eq_some_iff.1 hr).2
              simp [HSl, this]
            rw [e] at h
            exact h
          refine ⟨X, ?_, ?_, hcu p up Hup.out, hcu q uq Huq.out⟩
          · rw [hpe.out, exp.out]; exact hel p rp Hrp.out
          · rw [hqe.out, exq.out]; exact hel q rq Hrq.out⟩
        have hYp : Keep (∀ wx : World, RsV wx (.slice (some ⟨g, 0, none⟩) n cap) us rs → RowAt wx up rp ∧ RowAt wx uq rq) := ⟨fun wx h => ⟨h.2.1 p up rp Hup.out Hrp.out, h.2.1 q uq rq Huq.out Hrq.out⟩⟩
        have O8 := Keep.mk (owns_below O7.out (Below.refl wt.heap.size wt).drew)
        have B8 : Keep (Below w.heap.size w wt.drew) := ⟨B7.out.drew⟩
        by_cases heq : decide (xp = xq) = true
        · have HE := Keep.mk heq
          clear heq
          by_cases hst : (strOfNums rp).toList = (strOfNums rq).toList
          · have HS_ : Keep (strOfNums rp = strOfNums rq) := ⟨toL_inj hst⟩
            refine wp_seq_k fun K16 hK16 => ?_
            refine wp_seq_k fun K17 hK17 => ?_
            refine wp_region_list (WL.out ?_)
            refine WL.val (by kernel_rfl) (.int .i64 (q : Int)) (by go_simp) ?_
            simp only [Act.put, List.setIfInBounds_toArray, List.set_cons_zero, List.set_cons_succ]
            refine WL.val (by kernel_rfl) (.int .i64 (p : Int)) (by go_simp) ?_
            simp only [Act.put, List.setIfInBounds_toArray, List.set_cons_zero, List.set_cons_succ]
            refine WL.val (by kernel_rfl) (.bool true) (by go_simp) ?_
            simp only [Act.put, List.setIfInBounds_toArray, List.set_cons_zero, List.set_cons_succ]
            refine WL.nil ?_
            refine hK17 _ _ ?_
            refine wp_cond_true rfl ?_
            refine wp_skip ?_
            refine hK16 _ _ ?_
            refine wp_seq_k fun K18 hK18 => ?_
            refine wp_block ?_
            refine wp_seq_k fun K19 hK19 => ?_
            refine wp_region_held_drew (S := fun wx => RsV wx (.slice (some ⟨g, 0, none⟩) n cap) us rs ∧ wx.rangeAt gh (p * 32) hp_.toList ∧ wx.rangeAt gh (q * 32) hq_.toList ∧ wx.cell? ⟨g, p, none⟩ = some up ∧ wx.cell? ⟨g, q, none⟩ = some uq) (by kernel_rfl) (hS0.out _ (Below.refl _ _).drew) (fun hHeld => ?_)
            refine wpAnyH_take (i := 0) (oi := ⟨some 33, Op.move (Operand.tmp 3), 67, _, _, none⟩) (v := .slice (some ⟨gh, 0, none⟩) n ch) rfl (by kernel_rfl) (by kernel_rfl) (by kernel_rfl) (fun _ _ _ h => h) (Or.inl ⟨by rfl, fun w hS => by obtain ⟨hS1, hS2, hS3, hS4, hS5⟩ := hS; clear hS1 hS2 hS3; go_simp⟩) hHeld ?_
            simp only [Act.put, List.setIfInBounds_toArray, List.set_cons_zero, List.set_cons_succ]
            refine wpAnyH_take (i := 1) (oi := ⟨some 34, Op.move (Operand.tmp 5), 3, _, _, none⟩) (v := .int .i64 (p : Int)) rfl (by kernel_rfl) (by kernel_rfl) (by kernel_rfl) (fun _ _ _ h => h) (Or.inl ⟨by rfl, fun w hS => by obtain ⟨hS1, hS2, hS3, hS4, hS5⟩ := hS; clear hS1 hS2 hS3; go_simp⟩) hHeld ?_
            simp only [Act.put, List.setIfInBounds_toArray, List.set_cons_zero, List.set_cons_succ]
            refine wpAnyH_take (i := 4) (oi := ⟨some 37, Op.move (Operand.tmp 3), 67, _, _, none⟩) (v := .slice (some ⟨gh, 0, none⟩) n ch) rfl (by kernel_rfl) (by kernel_rfl) (by kernel_rfl) (fun _ _ _ h => h) (Or.inl ⟨by rfl, fun w hS => by obtain ⟨hS1, hS2, hS3, hS4, hS5⟩ := hS; clear hS1 hS2 hS3; go_simp⟩) hHeld ?_
            simp only [Act.put, List.setIfInBounds_toArray, List.set_cons_zero, List.set_cons_succ]
            refine wpAnyH_take (i := 5) (oi := ⟨some 38, Op.move (Operand.tmp 6), 3, _, _, none⟩) (v := .int .i64 (q : Int)) rfl (by kernel_rfl) (by kernel_rfl) (by kernel_rfl) (fun _ _ _ h => h) (Or.inl ⟨by rfl, fun w hS => by obtain ⟨hS1, hS2, hS3, hS4, hS5⟩ := hS; clear hS1 hS2 hS3; go_simp⟩) hHeld ?_
            simp only [Act.put, List.setIfInBounds_toArray, List.set_cons_zero, List.set_cons_succ]
            refine wpAnyH_take (i := 2) (oi := ⟨some 35, Op.indexAddr 67 (Operand.tmp 33) (Operand.tmp 34), 0, _, _, none⟩) (v := .pointer (some ⟨gh, p * 32, none⟩)) rfl (by kernel_rfl) (by kernel_rfl) (by kernel_rfl) (fun _ _ _ h => h) (Or.inl ⟨by rfl, fun w hS => by obtain ⟨hS1, hS2, hS3, hS4, hS5⟩ := hS; clear hS1 hS2 hS3; go_simp⟩) hHeld ?_
            simp only [Act.put, List.setIfInBounds_toArray, List.set_cons_zero, List.set_cons_succ]
            refine wpAnyH_take (i := 6) (oi := ⟨some 39, Op.indexAddr 67 (Operand.tmp 37) (Operand.tmp 38), 0, _, _, none⟩) (v := .pointer (some ⟨gh, q * 32, none⟩)) rfl (by kernel_rfl) (by kernel_rfl) (by kernel_rfl) (fun _ _ _ h => h) (Or.inl ⟨by rfl, fun w hS => by obtain ⟨hS1, hS2, hS3, hS4, hS5⟩ := hS; clear hS1 hS2 hS3; go_simp⟩) hHeld ?_
            simp only [Act.put, List.setIfInBounds_toArray, List.set_cons_zero, List.set_cons_succ]
            refine wpAnyH_take (i := 3) (oi := ⟨some 36, Op.load 25 (Operand.tmp 35), 25, _, _, none⟩) (v := .agg hp_) rfl (by kernel_rfl) (by kernel_rfl) (by kernel_rfl) (fun _ _ _ h => h) (yieldsIf_ld (by rfl) (Operand.tmp 35) 25 rfl gh (p * 32) rfl hp_ _ Try.underlying25 rfl (by rw [hpe.out]; exact Try.size25B _) fun w hS => hS.2.1) hHeld ?_
            simp only [Act.put, List.setIfInBounds_toArray, List.set_cons_zero, List.set_cons_succ]
            refine wpAnyH_take (i := 7) (oi := ⟨some 40, Op.load 25 (Operand.tmp 39), 25, _, _, none⟩) (v := .agg hq_) rfl (by kernel_rfl) (by kernel_rfl) (by kernel_rfl) (fun _ _ _ h => h) (yieldsIf_ld (by rfl) (Operand.tmp 39) 25 rfl gh (q * 32) rfl hq_ _ Try.underlying25 rfl (by rw [hqe.out]; exact Try.size25B _) fun w hS => hS.2.2.1) hHeld ?_
            simp only [Act.put, List.setIfInBounds_toArray, List.set_cons_zero, List.set_cons_succ]
            refine wpAnyH_take (i := 8) (oi := ⟨some 41, Op.binOp BinOp.eql 25 (Operand.tmp 36) (Operand.tmp 40) 25, 4, _, _, none⟩) (v := .bool true) rfl (by kernel_rfl) (by kernel_rfl) (by kernel_rfl) (fun _ _ _ h => h) (Or.inl ⟨by rfl, fun w hS => by have hq_ := eqB hpe.out hqe.out HE.out w; clear hS; go_simp⟩) hHeld ?_
            simp only [Act.put, List.setIfInBounds_toArray, List.set_cons_zero, List.set_cons_succ]
            refine wpAnyH_take (i := 9) (oi := ⟨some 42, Op.move (Operand.tmp 41), 4, _, _, none⟩) (v := .bool true) rfl (by kernel_rfl) (by kernel_rfl) (by kernel_rfl) (fun _ _ _ h => h) (Or.inl ⟨by rfl, fun w hS => by obtain ⟨hS1, hS2, hS3, hS4, hS5⟩ := hS; clear hS1 hS2 hS3; go_simp⟩) hHeld ?_
            simp only [Act.put, List.setIfInBounds_toArray, List.set_cons_zero, List.set_cons_succ]
            refine wpAnyH_take (i := 10) (oi := ⟨some 43, Op.move (Operand.tmp 0), 59, _, _, some (9, true)⟩) (v := .slice (some ⟨g, 0, none⟩) n cap) rfl (by kernel_rfl) (by kernel_rfl) (by kernel_rfl) (fun _ _ _ h => h) (Or.inl ⟨by rfl, fun w hS => by obtain ⟨hS1, hS2, hS3, hS4, hS5⟩ := hS; clear hS1 hS2 hS3; go_simp⟩) hHeld ?_
            simp only [Act.put, List.setIfInBounds_toArray, List.set_cons_zero, List.set_cons_succ]
            refine wpAnyH_take (i := 11) (oi := ⟨some 44, Op.move (Operand.tmp 5), 3, _, _, some (9, true)⟩) (v := .int .i64 (p : Int)) rfl (by kernel_rfl) (by kernel_rfl) (by kernel_rfl) (fun _ _ _ h => h) (Or.inl ⟨by rfl, fun w hS => by obtain ⟨hS1, hS2, hS3, hS4, hS5⟩ := hS; clear hS1 hS2 hS3; go_simp⟩) hHeld ?_
            simp only [Act.put, List.setIfInBounds_toArray, List.set_cons_zero, List.set_cons_succ]
            refine wpAnyH_take (i := 15) (oi := ⟨some 48, Op.move (Operand.tmp 0), 59, _, _, some (9, true)⟩) (v := .slice (some ⟨g, 0, none⟩) n cap) rfl (by kernel_rfl) (by kernel_rfl) (by kernel_rfl) (fun _ _ _ h => h) (Or.inl ⟨by rfl, fun w hS => by obtain ⟨hS1, hS2, hS3, hS4, hS5⟩ := hS; clear hS1 hS2 hS3; go_simp⟩) hHeld ?_
            simp only [Act.put, List.setIfInBounds_toArray, List.set_cons_zero, List.set_cons_succ]
            refine wpAnyH_take (i := 16) (oi := ⟨some 49, Op.move (Operand.tmp 6), 3, _, _, some (9, true)⟩) (v := .int .i64 (q : Int)) rfl (by kernel_rfl) (by kernel_rfl) (by kernel_rfl) (fun _ _ _ h => h) (Or.inl ⟨by rfl, fun w hS => by obtain ⟨hS1, hS2, hS3, hS4, hS5⟩ := hS; clear hS1 hS2 hS3; go_simp⟩) hHeld ?_
            simp only [Act.put, List.setIfInBounds_toArray, List.set_cons_zero, List.set_cons_succ]
            refine wpAnyH_take (i := 12) (oi := ⟨some 45, Op.indexAddr 59 (Operand.tmp 43) (Operand.tmp 44), 0, _, _, some (9, true)⟩) (v := .pointer (some ⟨g, p, none⟩)) rfl (by kernel_rfl) (by kernel_rfl) (by kernel_rfl) (fun _ _ _ h => h) (Or.inl ⟨by rfl, fun w hS => by obtain ⟨hS1, hS2, hS3, hS4, hS5⟩ := hS; clear hS1 hS2 hS3; go_simp⟩) hHeld ?_
            simp only [Act.put, List.setIfInBounds_toArray, List.set_cons_zero, List.set_cons_succ]
            refine wpAnyH_take (i := 17) (oi := ⟨some 50, Op.indexAddr 59 (Operand.tmp 48) (Operand.tmp 49), 0, _, _, some (9, true)⟩) (v := .pointer (some ⟨g, q, none⟩)) rfl (by kernel_rfl) (by kernel_rfl) (by kernel_rfl) (fun _ _ _ h => h) (Or.inl ⟨by rfl, fun w hS => by obtain ⟨hS1, hS2, hS3, hS4, hS5⟩ := hS; clear hS1 hS2 hS3; go_simp⟩) hHeld ?_
            simp only [Act.put, List.setIfInBounds_toArray, List.set_cons_zero, List.set_cons_succ]
            refine wpAnyH_take (i := 13) (oi := ⟨some 46, Op.load 38 (Operand.tmp 45), 38, _, _, some (9, true)⟩) (v := up) rfl (by kernel_rfl) (by kernel_rfl) (by kernel_rfl) (fun _ _ _ h => h) (Or.inl ⟨by rfl, fun w hS => by obtain ⟨hS1, hS2, hS3, hS4, hS5⟩ := hS; clear hS1 hS2 hS3; go_simp⟩) hHeld ?_
            simp only [Act.put, List.setIfInBounds_toArray, List.set_cons_zero, List.set_cons_succ]
            refine wpAnyH_take (i := 18) (oi := ⟨some 51, Op.load 38 (Operand.tmp 50), 38, _, _, some (9, true)⟩) (v := uq) rfl (by kernel_rfl) (by kernel_rfl) (by kernel_rfl) (fun _ _ _ h => h) (Or.inl ⟨by rfl, fun w hS => by obtain ⟨hS1, hS2, hS3, hS4, hS5⟩ := hS; clear hS1 hS2 hS3; go_simp⟩) hHeld ?_
            simp only [Act.put, List.setIfInBounds_toArray, List.set_cons_zero, List.set_cons_succ]
            refine wpAnyH_take (i := 14) (oi := ⟨some 47, Op.convert 38 9 (Operand.tmp 46), 9, _, _, some (9, true)⟩) (v := .string (strOfNums rp)) rfl (by kernel_rfl) (by kernel_rfl) (by kernel_rfl) (fun _ _ _ h => h) (Or.inl ⟨by rfl, fun w hS => by have hc_ := conv_row _ _ w (hYp.out w hS.1).1; clear hS; go_simp⟩) hHeld ?_
            simp only [Act.put, List.setIfInBounds_toArray, List.set_cons_zero, List.set_cons_succ]
            refine wpAnyH_take (i := 19) (oi := ⟨some 52, Op.convert 38 9 (Operand.tmp 51), 9, _, _, some (9, true)⟩) (v := .string (strOfNums rq)) rfl (by kernel_rfl) (by kernel_rfl) (by kernel_rfl) (fun _ _ _ h => h) (Or.inl ⟨by rfl, fun w hS => by have hc_ := conv_row _ _ w (hYp.out w hS.1).2; clear hS; go_simp⟩) hHeld ?_
            simp only [Act.put, List.setIfInBounds_toArray, List.set_cons_zero, List.set_cons_succ]
            refine wpAnyH_take (i := 20) (oi := ⟨some 53, Op.binOp BinOp.neq 9 (Operand.tmp 47) (Operand.tmp 52) 9, 4, _, _, some (9, true)⟩) (v := .bool false) rfl (by kernel_rfl) (by kernel_rfl) (by kernel_rfl) (fun _ _ _ h => h) (Or.inl ⟨by rfl, fun w hS => by obtain ⟨hS1, hS2, hS3, hS4, hS5⟩ := hS; clear hS1 hS2 hS3; go_simp⟩) hHeld ?_
            simp only [Act.put, List.setIfInBounds_toArray, List.set_cons_zero, List.set_cons_succ]
            refine wpAnyH_take (i := 21) (oi := ⟨some 54, Op.pick (Operand.tmp 42) (Operand.tmp 53) (Operand.const (Value.bool false)), 4, _, _, none⟩) (v := .bool false) rfl (by kernel_rfl) (by kernel_rfl) (by kernel_rfl) (fun _ _ _ h => h) (Or.inl ⟨by rfl, fun w hS => by obtain ⟨hS1, hS2, hS3, hS4, hS5⟩ := hS; clear hS1 hS2 hS3; go_simp⟩) hHeld ?_
            simp only [Act.put, List.setIfInBounds_toArray, List.set_cons_zero, List.set_cons_succ]
            refine wpAnyH_done (by kernel_rfl) ?_ _
            refine hK19 _ _ ?_
            refine wp_cond_false rfl ?_
            refine wp_skip ?_
            refine hK18 _ _ ?_
            refine wp_region_list (WL.out ?_)
            refine WL.val (by kernel_rfl) (.int .i64 (q : Int)) (by go_simp) ?_
            simp only [Act.put, List.setIfInBounds_toArray, List.set_cons_zero, List.set_cons_succ]
            refine WL.val (by kernel_rfl) (.int .i64 ((q + 1 : Nat) : Int)) (by go_simp) ?_
            simp only [Act.put, List.setIfInBounds_toArray, List.set_cons_zero, List.set_cons_succ]
            refine WL.val (by kernel_rfl) (.int .i64 ((q + 1 : Nat) : Int)) (by go_simp) ?_
            simp only [Act.put, List.setIfInBounds_toArray, List.set_cons_zero, List.set_cons_succ]
            refine WL.nil ?_
            refine ⟨⟨q + 1, fun zz => [.slice (some ⟨g, 0, none⟩) n cap, undef, fg 2, .slice (some ⟨gh, 0, none⟩) n ch, .int .i64 (t : Int), .int .i64 (p : Int), .int .i64 ((q + 1 : Nat) : Int), v0, .int .i64 (t : Int), .slice (some ⟨g, 0, none⟩) n cap, .int .i64 (n : Int), .bool false, f 12, f 13, f 14, f 15, f 16, f 17, f 18, f 19, f 20, f 21, .int .i64 (p : Int), .slice (some ⟨g, 0, none⟩) n cap, .int .i64 (n : Int), .bool true, ff 26, ff 27, .int .i64 (q : Int), .int .i64 (p : Int), .bool true, .int .i64 (q : Int), .int .i64 ((q + 1 : Nat) : Int), .slice (some ⟨gh, 0, none⟩) n ch, .int .i64 (p : Int), .pointer (some ⟨gh, p * 32, none⟩), .agg hp_, .slice (some ⟨gh, 0, none⟩) n ch, .int .i64 (q : Int), .pointer (some ⟨gh, q * 32, none⟩), .agg hq_, .bool true, .bool true, .slice (some ⟨g, 0, none⟩) n cap, .int .i64 (p : Int), .pointer (some ⟨g, p, none⟩), up, .string (strOfNums rp), .slice (some ⟨g, 0, none⟩) n cap, .int .i64 (q : Int), .pointer (some ⟨g, q, none⟩), uq, .string (strOfNums rq), .bool false, .bool false].getD zz undef, rfl, by omega, O8.out, B8.out, fun j hj => ?_⟩, ?_⟩
            · by_cases e : j = q
              · subst e
                rintro ⟨a, b, h1, h2, h3, h4⟩
                rw [Hrp.out] at h1; rw [Hrq.out] at h2
                injection h1 with h1; injection h2 with h2
                subst h1 h2
                exact h4 HS_.out
              · exact HI.out j (by omega)
            · simp only [intOf]; show p - (((q + 1 : Nat) : Int)).toNat < p - ((q : Int)).toNat; omega
          · refine wp_seq_k fun K20 hK20 => ?_
            refine wp_seq_k fun K21 hK21 => ?_
            refine wp_region_list (WL.out ?_)
            refine WL.val (by kernel_rfl) (.int .i64 (q : Int)) (by go_simp) ?_
            simp only [Act.put, List.setIfInBounds_toArray, List.set_cons_zero, List.set_cons_succ]
            refine WL.val (by kernel_rfl) (.int .i64 (p : Int)) (by go_simp) ?_
            simp only [Act.put, List.setIfInBounds_toArray, List.set_cons_zero, List.set_cons_succ]
            refine WL.val (by kernel_rfl) (.bool true) (by go_simp) ?_
            simp only [Act.put, List.setIfInBounds_toArray, List.set_cons_zero, List.set_cons_succ]
            refine WL.nil ?_
            refine hK21 _ _ ?_
            refine wp_cond_true rfl ?_
            refine wp_skip ?_
            refine hK20 _ _ ?_
            refine wp_seq_k fun K22 hK22 => ?_
            refine wp_block ?_
            refine wp_seq_k fun K23 hK23 => ?_
            refine wp_region_held_drew (S := fun wx => RsV wx (.slice (some ⟨g, 0, none⟩) n cap) us rs ∧ wx.rangeAt gh (p * 32) hp_.toList ∧ wx.rangeAt gh (q * 32) hq_.toList ∧ wx.cell? ⟨g, p, none⟩ = some up ∧ wx.cell? ⟨g, q, none⟩ = some uq) (by kernel_rfl) (hS0.out _ (Below.refl _ _).drew) (fun hHeld => ?_)
            refine wpAnyH_take (i := 0) (oi := ⟨some 33, Op.move (Operand.tmp 3), 67, _, _, none⟩) (v := .slice (some ⟨gh, 0, none⟩) n ch) rfl (by kernel_rfl) (by kernel_rfl) (by kernel_rfl) (fun _ _ _ h => h) (Or.inl ⟨by rfl, fun w hS => by obtain ⟨hS1, hS2, hS3, hS4, hS5⟩ := hS; clear hS1 hS2 hS3; go_simp⟩) hHeld ?_
            simp only [Act.put, List.setIfInBounds_toArray, List.set_cons_zero, List.set_cons_succ]
            refine wpAnyH_take (i := 1) (oi := ⟨some 34, Op.move (Operand.tmp 5), 3, _, _, none⟩) (v := .int .i64 (p : Int)) rfl (by kernel_rfl) (by kernel_rfl) (by kernel_rfl) (fun _ _ _ h => h) (Or.inl ⟨by rfl, fun w hS => by obtain ⟨hS1, hS2, hS3, hS4, hS5⟩ := hS; clear hS1 hS2 hS3; go_simp⟩) hHeld ?_
            simp only [Act.put, List.setIfInBounds_toArray, List.set_cons_zero, List.set_cons_succ]
            refine wpAnyH_take (i := 4) (oi := ⟨some 37, Op.move (Operand.tmp 3), 67, _, _, none⟩) (v := .slice (some ⟨gh, 0, none⟩) n ch) rfl (by kernel_rfl) (by kernel_rfl) (by kernel_rfl) (fun _ _ _ h => h) (Or.inl ⟨by rfl, fun w hS => by obtain ⟨hS1, hS2, hS3, hS4, hS5⟩ := hS; clear hS1 hS2 hS3; go_simp⟩) hHeld ?_
            simp only [Act.put, List.setIfInBounds_toArray, List.set_cons_zero, List.set_cons_succ]
            refine wpAnyH_take (i := 5) (oi := ⟨some 38, Op.move (Operand.tmp 6), 3, _, _, none⟩) (v := .int .i64 (q : Int)) rfl (by kernel_rfl) (by kernel_rfl) (by kernel_rfl) (fun _ _ _ h => h) (Or.inl ⟨by rfl, fun w hS => by obtain ⟨hS1, hS2, hS3, hS4, hS5⟩ := hS; clear hS1 hS2 hS3; go_simp⟩) hHeld ?_
            simp only [Act.put, List.setIfInBounds_toArray, List.set_cons_zero, List.set_cons_succ]
            refine wpAnyH_take (i := 2) (oi := ⟨some 35, Op.indexAddr 67 (Operand.tmp 33) (Operand.tmp 34), 0, _, _, none⟩) (v := .pointer (some ⟨gh, p * 32, none⟩)) rfl (by kernel_rfl) (by kernel_rfl) (by kernel_rfl) (fun _ _ _ h => h) (Or.inl ⟨by rfl, fun w hS => by obtain ⟨hS1, hS2, hS3, hS4, hS5⟩ := hS; clear hS1 hS2 hS3; go_simp⟩) hHeld ?_
            simp only [Act.put, List.setIfInBounds_toArray, List.set_cons_zero, List.set_cons_succ]
            refine wpAnyH_take (i := 6) (oi := ⟨some 39, Op.indexAddr 67 (Operand.tmp 37) (Operand.tmp 38), 0, _, _, none⟩) (v := .pointer (some ⟨gh, q * 32, none⟩)) rfl (by kernel_rfl) (by kernel_rfl) (by kernel_rfl) (fun _ _ _ h => h) (Or.inl ⟨by rfl, fun w hS => by obtain ⟨hS1, hS2, hS3, hS4, hS5⟩ := hS; clear hS1 hS2 hS3; go_simp⟩) hHeld ?_
            simp only [Act.put, List.setIfInBounds_toArray, List.set_cons_zero, List.set_cons_succ]
            refine wpAnyH_take (i := 3) (oi := ⟨some 36, Op.load 25 (Operand.tmp 35), 25, _, _, none⟩) (v := .agg hp_) rfl (by kernel_rfl) (by kernel_rfl) (by kernel_rfl) (fun _ _ _ h => h) (yieldsIf_ld (by rfl) (Operand.tmp 35) 25 rfl gh (p * 32) rfl hp_ _ Try.underlying25 rfl (by rw [hpe.out]; exact Try.size25B _) fun w hS => hS.2.1) hHeld ?_
            simp only [Act.put, List.setIfInBounds_toArray, List.set_cons_zero, List.set_cons_succ]
            refine wpAnyH_take (i := 7) (oi := ⟨some 40, Op.load 25 (Operand.tmp 39), 25, _, _, none⟩) (v := .agg hq_) rfl (by kernel_rfl) (by kernel_rfl) (by kernel_rfl) (fun _ _ _ h => h) (yieldsIf_ld (by rfl) (Operand.tmp 39) 25 rfl gh (q * 32) rfl hq_ _ Try.underlying25 rfl (by rw [hqe.out]; exact Try.size25B _) fun w hS => hS.2.2.1) hHeld ?_
            simp only [Act.put, List.setIfInBounds_toArray, List.set_cons_zero, List.set_cons_succ]
            refine wpAnyH_take (i := 8) (oi := ⟨some 41, Op.binOp BinOp.eql 25 (Operand.tmp 36) (Operand.tmp 40) 25, 4, _, _, none⟩) (v := .bool true) rfl (by kernel_rfl) (by kernel_rfl) (by kernel_rfl) (fun _ _ _ h => h) (Or.inl ⟨by rfl, fun w hS => by have hq_ := eqB hpe.out hqe.out HE.out w; clear hS; go_simp⟩) hHeld ?_
            simp only [Act.put, List.setIfInBounds_toArray, List.set_cons_zero, List.set_cons_succ]
            refine wpAnyH_take (i := 9) (oi := ⟨some 42, Op.move (Operand.tmp 41), 4, _, _, none⟩) (v := .bool true) rfl (by kernel_rfl) (by kernel_rfl) (by kernel_rfl) (fun _ _ _ h => h) (Or.inl ⟨by rfl, fun w hS => by obtain ⟨hS1, hS2, hS3, hS4, hS5⟩ := hS; clear hS1 hS2 hS3; go_simp⟩) hHeld ?_
            simp only [Act.put, List.setIfInBounds_toArray, List.set_cons_zero, List.set_cons_succ]
            refine wpAnyH_take (i := 10) (oi := ⟨some 43, Op.move (Operand.tmp 0), 59, _, _, some (9, true)⟩) (v := .slice (some ⟨g, 0, none⟩) n cap) rfl (by kernel_rfl) (by kernel_rfl) (by kernel_rfl) (fun _ _ _ h => h) (Or.inl ⟨by rfl, fun w hS => by obtain ⟨hS1, hS2, hS3, hS4, hS5⟩ := hS; clear hS1 hS2 hS3; go_simp⟩) hHeld ?_
            simp only [Act.put, List.setIfInBounds_toArray, List.set_cons_zero, List.set_cons_succ]
            refine wpAnyH_take (i := 11) (oi := ⟨some 44, Op.move (Operand.tmp 5), 3, _, _, some (9, true)⟩) (v := .int .i64 (p : Int)) rfl (by kernel_rfl) (by kernel_rfl) (by kernel_rfl) (fun _ _ _ h => h) (Or.inl ⟨by rfl, fun w hS => by obtain ⟨hS1, hS2, hS3, hS4, hS5⟩ := hS; clear hS1 hS2 hS3; go_simp⟩) hHeld ?_
            simp only [Act.put, List.setIfInBounds_toArray, List.set_cons_zero, List.set_cons_succ]
            refine wpAnyH_take (i := 15) (oi := ⟨some 48, Op.move (Operand.tmp 0), 59, _, _, some (9, true)⟩) (v := .slice (some ⟨g, 0, none⟩) n cap) rfl (by kernel_rfl) (by kernel_rfl) (by kernel_rfl) (fun _ _ _ h => h) (Or.inl ⟨by rfl, fun w hS => by obtain ⟨hS1, hS2, hS3, hS4, hS5⟩ := hS; clear hS1 hS2 hS3; go_simp⟩) hHeld ?_
            simp only [Act.put, List.setIfInBounds_toArray, List.set_cons_zero, List.set_cons_succ]
            refine wpAnyH_take (i := 16) (oi := ⟨some 49, Op.move (Operand.tmp 6), 3, _, _, some (9, true)⟩) (v := .int .i64 (q : Int)) rfl (by kernel_rfl) (by kernel_rfl) (by kernel_rfl) (fun _ _ _ h => h) (Or.inl ⟨by rfl, fun w hS => by obtain ⟨hS1, hS2, hS3, hS4, hS5⟩ := hS; clear hS1 hS2 hS3; go_simp⟩) hHeld ?_
            simp only [Act.put, List.setIfInBounds_toArray, List.set_cons_zero, List.set_cons_succ]
            refine wpAnyH_take (i := 12) (oi := ⟨some 45, Op.indexAddr 59 (Operand.tmp 43) (Operand.tmp 44), 0, _, _, some (9, true)⟩) (v := .pointer (some ⟨g, p, none⟩)) rfl (by kernel_rfl) (by kernel_rfl) (by kernel_rfl) (fun _ _ _ h => h) (Or.inl ⟨by rfl, fun w hS => by obtain ⟨hS1, hS2, hS3, hS4, hS5⟩ := hS; clear hS1 hS2 hS3; go_simp⟩) hHeld ?_
            simp only [Act.put, List.setIfInBounds_toArray, List.set_cons_zero, List.set_cons_succ]
            refine wpAnyH_take (i := 17) (oi := ⟨some 50, Op.indexAddr 59 (Operand.tmp 48) (Operand.tmp 49), 0, _, _, some (9, true)⟩) (v := .pointer (some ⟨g, q, none⟩)) rfl (by kernel_rfl) (by kernel_rfl) (by kernel_rfl) (fun _ _ _ h => h) (Or.inl ⟨by rfl, fun w hS => by obtain ⟨hS1, hS2, hS3, hS4, hS5⟩ := hS; clear hS1 hS2 hS3; go_simp⟩) hHeld ?_
            simp only [Act.put, List.setIfInBounds_toArray, List.set_cons_zero, List.set_cons_succ]
            refine wpAnyH_take (i := 13) (oi := ⟨some 46, Op.load 38 (Operand.tmp 45), 38, _, _, some (9, true)⟩) (v := up) rfl (by kernel_rfl) (by kernel_rfl) (by kernel_rfl) (fun _ _ _ h => h) (Or.inl ⟨by rfl, fun w hS => by obtain ⟨hS1, hS2, hS3, hS4, hS5⟩ := hS; clear hS1 hS2 hS3; go_simp⟩) hHeld ?_
            simp only [Act.put, List.setIfInBounds_toArray, List.set_cons_zero, List.set_cons_succ]
            refine wpAnyH_take (i := 18) (oi := ⟨some 51, Op.load 38 (Operand.tmp 50), 38, _, _, some (9, true)⟩) (v := uq) rfl (by kernel_rfl) (by kernel_rfl) (by kernel_rfl) (fun _ _ _ h => h) (Or.inl ⟨by rfl, fun w hS => by obtain ⟨hS1, hS2, hS3, hS4, hS5⟩ := hS; clear hS1 hS2 hS3; go_simp⟩) hHeld ?_
            simp only [Act.put, List.setIfInBounds_toArray, List.set_cons_zero, List.set_cons_succ]
            refine wpAnyH_take (i := 14) (oi := ⟨some 47, Op.convert 38 9 (Operand.tmp 46), 9, _, _, some (9, true)⟩) (v := .string (strOfNums rp)) rfl (by kernel_rfl) (by kernel_rfl) (by kernel_rfl) (fun _ _ _ h => h) (Or.inl ⟨by rfl, fun w hS => by have hc_ := conv_row _ _ w (hYp.out w hS.1).1; clear hS; go_simp⟩) hHeld ?_
            simp only [Act.put, List.setIfInBounds_toArray, List.set_cons_zero, List.set_cons_succ]
            refine wpAnyH_take (i := 19) (oi := ⟨some 52, Op.convert 38 9 (Operand.tmp 51), 9, _, _, some (9, true)⟩) (v := .string (strOfNums rq)) rfl (by kernel_rfl) (by kernel_rfl) (by kernel_rfl) (fun _ _ _ h => h) (Or.inl ⟨by rfl, fun w hS => by have hc_ := conv_row _ _ w (hYp.out w hS.1).2; clear hS; go_simp⟩) hHeld ?_
            simp only [Act.put, List.setIfInBounds_toArray, List.set_cons_zero, List.set_cons_succ]
            refine wpAnyH_take (i := 20) (oi := ⟨some 53, Op.binOp BinOp.neq 9 (Operand.tmp 47) (Operand.tmp 52) 9, 4, _, _, some (9, true)⟩) (v := .bool true) rfl (by kernel_rfl) (by kernel_rfl) (by kernel_rfl) (fun _ _ _ h => h) (Or.inl ⟨by rfl, fun w hS => by obtain ⟨hS1, hS2, hS3, hS4, hS5⟩ := hS; clear hS1 hS2 hS3; go_simp⟩) hHeld ?_
            simp only [Act.put, List.setIfInBounds_toArray, List.set_cons_zero, List.set_cons_succ]
            refine wpAnyH_take (i := 21) (oi := ⟨some 54, Op.pick (Operand.tmp 42) (Operand.tmp 53) (Operand.const (Value.bool false)), 4, _, _, none⟩) (v := .bool true) rfl (by kernel_rfl) (by kernel_rfl) (by kernel_rfl) (fun _ _ _ h => h) (Or.inl ⟨by rfl, fun w hS => by obtain ⟨hS1, hS2, hS3, hS4, hS5⟩ := hS; clear hS1 hS2 hS3; go_simp⟩) hHeld ?_
            simp only [Act.put, List.setIfInBounds_toArray, List.set_cons_zero, List.set_cons_succ]
            refine wpAnyH_done (by kernel_rfl) ?_ _
            refine hK23 _ _ ?_
            refine wp_cond_true rfl ?_
            refine wp_seq_k fun K24 hK24 => ?_
            refine wp_region_list (WL.out ?_)
            refine WL.val (by kernel_rfl) (.bool true) (by go_simp) ?_
            simp only [Act.put, List.setIfInBounds_toArray, List.set_cons_zero, List.set_cons_succ]
            refine WL.nil ?_
            refine hK24 _ _ ?_
            refine wp_ret ?_
            try simp only [Exit.inBlock, Exit.then]
            go_ret
            exact ⟨true, rfl, fun _ => rfl, B8.out⟩
        · have HE : Keep (decide (xp = xq) = false) := ⟨by simpa using heq⟩
          clear heq
          refine wp_seq_k fun K25 hK25 => ?_
          refine wp_seq_k fun K26 hK26 => ?_
          refine wp_region_list (WL.out ?_)
          refine WL.val (by kernel_rfl) (.int .i64 (q : Int)) (by go_simp) ?_
          simp only [Act.put, List.setIfInBounds_toArray, List.set_cons_zero, List.set_cons_succ]
          refine WL.val (by kernel_rfl) (.int .i64 (p : Int)) (by go_simp) ?_
          simp only [Act.put, List.setIfInBounds_toArray, List.set_cons_zero, List.set_cons_succ]
          refine WL.val (by kernel_rfl) (.bool true) (by go_simp) ?_
          simp only [Act.put, List.setIfInBounds_toArray, List.set_cons_zero, List.set_cons_succ]
          refine WL.nil ?_
          refine hK26 _ _ ?_
          refine wp_cond_true rfl ?_
          refine wp_skip ?_
          refine hK25 _ _ ?_
          refine wp_seq_k fun K27 hK27 => ?_
          refine wp_block ?_
          refine wp_seq_k fun K28 hK28 => ?_
          refine wp_region_held_drew (S := fun wx => RsV wx (.slice (some ⟨g, 0, none⟩) n cap) us rs ∧ wx.rangeAt gh (p * 32) hp_.toList ∧ wx.rangeAt gh (q * 32) hq_.toList ∧ wx.cell? ⟨g, p, none⟩ = some up ∧ wx.cell? ⟨g, q, none⟩ = some uq) (by kernel_rfl) (hS0.out _ (Below.refl _ _).drew) (fun hHeld => ?_)
          refine wpAnyH_take (i := 0) (oi := ⟨some 33, Op.move (Operand.tmp 3), 67, _, _, none⟩) (v := .slice (some ⟨gh, 0, none⟩) n ch) rfl (by kernel_rfl) (by kernel_rfl) (by kernel_rfl) (fun _ _ _ h => h) (Or.inl ⟨by rfl, fun w hS => by obtain ⟨hS1, hS2, hS3, hS4, hS5⟩ := hS; clear hS1 hS2 hS3; go_simp⟩) hHeld ?_
          simp only [Act.put, List.setIfInBounds_toArray, List.set_cons_zero, List.set_cons_succ]
          refine wpAnyH_take (i := 1) (oi := ⟨some 34, Op.move (Operand.tmp 5), 3, _, _, none⟩) (v := .int .i64 (p : Int)) rfl (by kernel_rfl) (by kernel_rfl) (by kernel_rfl) (fun _ _ _ h => h) (Or.inl ⟨by rfl, fun w hS => by obtain ⟨hS1, hS2, hS3, hS4, hS5⟩ := hS; clear hS1 hS2 hS3; go_simp⟩) hHeld ?_
          simp only [Act.put, List.setIfInBounds_toArray, List.set_cons_zero, List.set_cons_succ]
          refine wpAnyH_take (i := 4) (oi := ⟨some 37, Op.move (Operand.tmp 3), 67, _, _, none⟩) (v := .slice (some ⟨gh, 0, none⟩) n ch) rfl (by kernel_rfl) (by kernel_rfl) (by kernel_rfl) (fun _ _ _ h => h) (Or.inl ⟨by rfl, fun w hS => by obtain ⟨hS1, hS2, hS3, hS4, hS5⟩ := hS; clear hS1 hS2 hS3; go_simp⟩) hHeld ?_
          simp only [Act.put, List.setIfInBounds_toArray, List.set_cons_zero, List.set_cons_succ]
          refine wpAnyH_take (i := 5) (oi := ⟨some 38, Op.move (Operand.tmp 6), 3, _, _, none⟩) (v := .int .i64 (q : Int)) rfl (by kernel_rfl) (by kernel_rfl) (by kernel_rfl) (fun _ _ _ h => h) (Or.inl ⟨by rfl, fun w hS => by obtain ⟨hS1, hS2, hS3, hS4, hS5⟩ := hS; clear hS1 hS2 hS3; go_simp⟩) hHeld ?_
          simp only [Act.put, List.setIfInBounds_toArray, List.set_cons_zero, List.set_cons_succ]
          refine wpAnyH_take (i := 2) (oi := ⟨some 35, Op.indexAddr 67 (Operand.tmp 33) (Operand.tmp 34), 0, _, _, none⟩) (v := .pointer (some ⟨gh, p * 32, none⟩)) rfl (by kernel_rfl) (by kernel_rfl) (by kernel_rfl) (fun _ _ _ h => h) (Or.inl ⟨by rfl, fun w hS => by obtain ⟨hS1, hS2, hS3, hS4, hS5⟩ := hS; clear hS1 hS2 hS3; go_simp⟩) hHeld ?_
          simp only [Act.put, List.setIfInBounds_toArray, List.set_cons_zero, List.set_cons_succ]
          refine wpAnyH_take (i := 6) (oi := ⟨some 39, Op.indexAddr 67 (Operand.tmp 37) (Operand.tmp 38), 0, _, _, none⟩) (v := .pointer (some ⟨gh, q * 32, none⟩)) rfl (by kernel_rfl) (by kernel_rfl) (by kernel_rfl) (fun _ _ _ h => h) (Or.inl ⟨by rfl, fun w hS => by obtain ⟨hS1, hS2, hS3, hS4, hS5⟩ := hS; clear hS1 hS2 hS3; go_simp⟩) hHeld ?_
          simp only [Act.put, List.setIfInBounds_toArray, List.set_cons_zero, List.set_cons_succ]
          refine wpAnyH_take (i := 3) (oi := ⟨some 36, Op.load 25 (Operand.tmp 35), 25, _, _, none⟩) (v := .agg hp_) rfl (by kernel_rfl) (by kernel_rfl) (by kernel_rfl) (fun _ _ _ h => h) (yieldsIf_ld (by rfl) (Operand.tmp 35) 25 rfl gh (p * 32) rfl hp_ _ Try.underlying25 rfl (by rw [hpe.out]; exact Try.size25B _) fun w hS => hS.2.1) hHeld ?_
          simp only [Act.put, List.setIfInBounds_toArray, List.set_cons_zero, List.set_cons_succ]
          refine wpAnyH_take (i := 7) (oi := ⟨some 40, Op.load 25 (Operand.tmp 39), 25, _, _, none⟩) (v := .agg hq_) rfl (by kernel_rfl) (by kernel_rfl) (by kernel_rfl) (fun _ _ _ h => h) (yieldsIf_ld (by rfl) (Operand.tmp 39) 25 rfl gh (q * 32) rfl hq_ _ Try.underlying25 rfl (by rw [hqe.out]; exact Try.size25B _) fun w hS => hS.2.2.1) hHeld ?_
          simp only [Act.put, List.setIfInBounds_toArray, List.set_cons_zero, List.set_cons_succ]
          refine wpAnyH_take (i := 8) (oi := ⟨some 41, Op.binOp BinOp.eql 25 (Operand.tmp 36) (Operand.tmp 40) 25, 4, _, _, none⟩) (v := .bool false) rfl (by kernel_rfl) (by kernel_rfl) (by kernel_rfl) (fun _ _ _ h => h) (Or.inl ⟨by rfl, fun w hS => by have hq_ := eqB hpe.out hqe.out HE.out w; clear hS; go_simp⟩) hHeld ?_
          simp only [Act.put, List.setIfInBounds_toArray, List.set_cons_zero, List.set_cons_succ]
          refine wpAnyH_take (i := 9) (oi := ⟨some 42, Op.move (Operand.tmp 41), 4, _, _, none⟩) (v := .bool false) rfl (by kernel_rfl) (by kernel_rfl) (by kernel_rfl) (fun _ _ _ h => h) (Or.inl ⟨by rfl, fun w hS => by obtain ⟨hS1, hS2, hS3, hS4, hS5⟩ := hS; clear hS1 hS2 hS3; go_simp⟩) hHeld ?_
          simp only [Act.put, List.setIfInBounds_toArray, List.set_cons_zero, List.set_cons_succ]
          refine wpAnyH_take (i := 10) (oi := ⟨some 43, Op.move (Operand.tmp 0), 59, _, _, some (9, true)⟩) (v := undef) rfl (by kernel_rfl) (by kernel_rfl) (by kernel_rfl) (fun _ _ _ h => h) (Or.inr ⟨by rfl, rfl⟩) hHeld ?_
          simp only [Act.put, List.setIfInBounds_toArray, List.set_cons_zero, List.set_cons_succ]
          refine wpAnyH_take (i := 11) (oi := ⟨some 44, Op.move (Operand.tmp 5), 3, _, _, some (9, true)⟩) (v := undef) rfl (by kernel_rfl) (by kernel_rfl) (by kernel_rfl) (fun _ _ _ h => h) (Or.inr ⟨by rfl, rfl⟩) hHeld ?_
          simp only [Act.put, List.setIfInBounds_toArray, List.set_cons_zero, List.set_cons_succ]
          refine wpAnyH_take (i := 15) (oi := ⟨some 48, Op.move (Operand.tmp 0), 59, _, _, some (9, true)⟩) (v := undef) rfl (by kernel_rfl) (by kernel_rfl) (by kernel_rfl) (fun _ _ _ h => h) (Or.inr ⟨by rfl, rfl⟩) hHeld ?_
          simp only [Act.put, List.setIfInBounds_toArray, List.set_cons_zero, List.set_cons_succ]
          refine wpAnyH_take (i := 16) (oi := ⟨some 49, Op.move (Operand.tmp 6), 3, _, _, some (9, true)⟩) (v := undef) rfl (by kernel_rfl) (by kernel_rfl) (by kernel_rfl) (fun _ _ _ h => h) (Or.inr ⟨by rfl, rfl⟩) hHeld ?_
          simp only [Act.put, List.setIfInBounds_toArray, List.set_cons_zero, List.set_cons_succ]
          refine wpAnyH_take (i := 12) (oi := ⟨some 45, Op.indexAddr 59 (Operand.tmp 43) (Operand.tmp 44), 0, _, _, some (9, true)⟩) (v := undef) rfl (by kernel_rfl) (by kernel_rfl) (by kernel_rfl) (fun _ _ _ h => h) (Or.inr ⟨by rfl, rfl⟩) hHeld ?_
          simp only [Act.put, List.setIfInBounds_toArray, List.set_cons_zero, List.set_cons_succ]
          refine wpAnyH_take (i := 17) (oi := ⟨some 50, Op.indexAddr 59 (Operand.tmp 48) (Operand.tmp 49), 0, _, _, some (9, true)⟩) (v := undef) rfl (by kernel_rfl) (by kernel_rfl) (by kernel_rfl) (fun _ _ _ h => h) (Or.inr ⟨by rfl, rfl⟩) hHeld ?_
          simp only [Act.put, List.setIfInBounds_toArray, List.set_cons_zero, List.set_cons_succ]
          refine wpAnyH_take (i := 13) (oi := ⟨some 46, Op.load 38 (Operand.tmp 45), 38, _, _, some (9, true)⟩) (v := undef) rfl (by kernel_rfl) (by kernel_rfl) (by kernel_rfl) (fun _ _ _ h => h) (Or.inr ⟨by rfl, rfl⟩) hHeld ?_
          simp only [Act.put, List.setIfInBounds_toArray, List.set_cons_zero, List.set_cons_succ]
          refine wpAnyH_take (i := 18) (oi := ⟨some 51, Op.load 38 (Operand.tmp 50), 38, _, _, some (9, true)⟩) (v := undef) rfl (by kernel_rfl) (by kernel_rfl) (by kernel_rfl) (fun _ _ _ h => h) (Or.inr ⟨by rfl, rfl⟩) hHeld ?_
          simp only [Act.put, List.setIfInBounds_toArray, List.set_cons_zero, List.set_cons_succ]
          refine wpAnyH_take (i := 14) (oi := ⟨some 47, Op.convert 38 9 (Operand.tmp 46), 9, _, _, some (9, true)⟩) (v := undef) rfl (by kernel_rfl) (by kernel_rfl) (by kernel_rfl) (fun _ _ _ h => h) (Or.inr ⟨by rfl, rfl⟩) hHeld ?_
          simp only [Act.put, List.setIfInBounds_toArray, List.set_cons_zero, List.set_cons_succ]
          refine wpAnyH_take (i := 19) (oi := ⟨some 52, Op.convert 38 9 (Operand.tmp 51), 9, _, _, some (9, true)⟩) (v := undef) rfl (by kernel_rfl) (by kernel_rfl) (by kernel_rfl) (fun _ _ _ h => h) (Or.inr ⟨by rfl, rfl⟩) hHeld ?_
          simp only [Act.put, List.setIfInBounds_toArray, List.set_cons_zero, List.set_cons_succ]
          refine wpAnyH_take (i := 20) (oi := ⟨some 53, Op.binOp BinOp.neq 9 (Operand.tmp 47) (Operand.tmp 52) 9, 4, _, _, some (9, true)⟩) (v := undef) rfl (by kernel_rfl) (by kernel_rfl) (by kernel_rfl) (fun _ _ _ h => h) (Or.inr ⟨by rfl, rfl⟩) hHeld ?_
          simp only [Act.put, List.setIfInBounds_toArray, List.set_cons_zero, List.set_cons_succ]
          refine wpAnyH_take (i := 21) (oi := ⟨some 54, Op.pick (Operand.tmp 42) (Operand.tmp 53) (Operand.const (Value.bool false)), 4, _, _, none⟩) (v := .bool false) rfl (by kernel_rfl) (by kernel_rfl) (by kernel_rfl) (fun _ _ _ h => h) (Or.inl ⟨by rfl, fun w hS => by obtain ⟨hS1, hS2, hS3, hS4, hS5⟩ := hS; clear hS1 hS2 hS3; go_simp⟩) hHeld ?_
          simp only [Act.put, List.setIfInBounds_toArray, List.set_cons_zero, List.set_cons_succ]
          refine wpAnyH_done (by kernel_rfl) ?_ _
          refine hK28 _ _ ?_
          refine wp_cond_false rfl ?_
          refine wp_skip ?_
          refine hK27 _ _ ?_
          refine wp_region_list (WL.out ?_)
          refine WL.val (by kernel_rfl) (.int .i64 (q : Int)) (by go_simp) ?_
          simp only [Act.put, List.setIfInBounds_toArray, List.set_cons_zero, List.set_cons_succ]
          refine WL.val (by kernel_rfl) (.int .i64 ((q + 1 : Nat) : Int)) (by go_simp) ?_
          simp only [Act.put, List.setIfInBounds_toArray, List.set_cons_zero, List.set_cons_succ]
          refine WL.val (by kernel_rfl) (.int .i64 ((q + 1 : Nat) : Int)) (by go_simp) ?_
          simp only [Act.put, List.setIfInBounds_toArray, List.set_cons_zero, List.set_cons_succ]
          refine WL.nil ?_
          refine ⟨⟨q + 1, fun zz => [.slice (some ⟨g, 0, none⟩) n cap, undef, fg 2, .slice (some ⟨gh, 0, none⟩) n ch, .int .i64 (t : Int), .int .i64 (p : Int), .int .i64 ((q + 1 : Nat) : Int), v0, .int .i64 (t : Int), .slice (some ⟨g, 0, none⟩) n cap, .int .i64 (n : Int), .bool false, f 12, f 13, f 14, f 15, f 16, f 17, f 18, f 19, f 20, f 21, .int .i64 (p : Int), .slice (some ⟨g, 0, none⟩) n cap, .int .i64 (n : Int), .bool true, ff 26, ff 27, .int .i64 (q : Int), .int .i64 (p : Int), .bool true, .int .i64 (q : Int), .int .i64 ((q + 1 : Nat) : Int), .slice (some ⟨gh, 0, none⟩) n ch, .int .i64 (p : Int), .pointer (some ⟨gh, p * 32, none⟩), .agg hp_, .slice (some ⟨gh, 0, none⟩) n ch, .int .i64 (q : Int), .pointer (some ⟨gh, q * 32, none⟩), .agg hq_, .bool false, .bool false, undef, undef, undef, undef, undef, undef, undef, undef, undef, undef, undef, .bool false].getD zz undef, rfl, by omega, O8.out, B8.out, fun j hj => ?_⟩, ?_⟩
          · by_cases e : j = q
            · subst e
              rintro ⟨a, b, h1, h2, h3, h4⟩
              rw [Hrp.out] at h1; rw [Hrq.out] at h2
              injection h1 with h1; injection h2 with h2
              subst h1 h2
              have h5 := HE.out
              rw [exp.out, exq.out] at h5
              exact absurd h3 (by simpa using h5)
            · exact HI.out j (by omega)
          · simp only [intOf]; show p - (((q + 1 : Nat) : Int)).toNat < p - ((q : Int)).toNat; omega
      · have hql' : ¬ (q : Int) < (p : Int) := by omega
        refine wp_seq_k fun K29 hK29 => ?_
        refine wp_seq_k fun K30 hK30 => ?_
        refine wp_region_list (WL.out ?_)
        refine WL.val (by kernel_rfl) (.int .i64 (q : Int)) (by go_simp) ?_
        simp only [Act.put, List.setIfInBounds_toArray, List.set_cons_zero, List.set_cons_succ]
        refine WL.val (by kernel_rfl) (.int .i64 (p : Int)) (by go_simp) ?_
        simp only [Act.put, List.setIfInBounds_toArray, List.set_cons_zero, List.set_cons_succ]
        refine WL.val (by kernel_rfl) (.bool false) (by go_simp) ?_
        simp only [Act.put, List.setIfInBounds_toArray, List.set_cons_zero, List.set_cons_succ]
        refine WL.nil ?_
        refine hK30 _ _ ?_
        refine wp_cond_false rfl ?_
        refine wp_exit ?_
        refine hK14 _ _ ?_
        refine wp_region_list (WL.out ?_)
        refine WL.val (by kernel_rfl) (.int .i64 (p : Int)) (by go_simp) ?_
        simp only [Act.put, List.setIfInBounds_toArray, List.set_cons_zero, List.set_cons_succ]
        refine WL.val (by kernel_rfl) (.int .i64 ((p + 1 : Nat) : Int)) (by go_simp) ?_
        simp only [Act.put, List.setIfInBounds_toArray, List.set_cons_zero, List.set_cons_succ]
        refine WL.val (by kernel_rfl) (.int .i64 ((p + 1 : Nat) : Int)) (by go_simp) ?_
        simp only [Act.put, List.setIfInBounds_toArray, List.set_cons_zero, List.set_cons_succ]
        refine WL.nil ?_
        refine ⟨⟨p + 1, fun zz => [.slice la n cap, undef, fg 2, vh, .int .i64 (t : Int), .int .i64 ((p + 1 : Nat) : Int), .int .i64 (q : Int), v0, .int .i64 (t : Int), .slice la n cap, .int .i64 (n : Int), .bool false, f 12, f 13, f 14, f 15, f 16, f 17, f 18, f 19, f 20, f 21, .int .i64 (p : Int), .slice la n cap, .int .i64 (n : Int), .bool true, .int .i64 (p : Int), .int .i64 ((p + 1 : Nat) : Int), .int .i64 (q : Int), .int .i64 (p : Int), .bool false, fg 31, fg 32, fg 33, fg 34, fg 35, fg 36, fg 37, fg 38, fg 39, fg 40, fg 41, fg 42, fg 43, fg 44, fg 45, fg 46, fg 47, fg 48, fg 49, fg 50, fg 51, fg 52, fg 53, fg 54].getD zz undef, rfl, by omega, O7.out, B7.out, fun i j hj hi => ?_⟩, ?_⟩
        · by_cases e : i = p
          · subst e; exact HI.out j (by omega)
          · exact HJ.out i j hj (by omega)
        · simp only [intOf]; show n - (((p + 1 : Nat) : Int)).toNat < n - ((p : Int)).toNat; omega
    · have hpl' : ¬ (p : Int) < (n : Int) := by omega
      refine wp_seq_k fun K31 hK31 => ?_
      refine wp_seq_k fun K32 hK32 => ?_
      refine wp_region_list (WL.out ?_)
      refine WL.val (by kernel_rfl) (.int .i64 (p : Int)) (by go_simp) ?_
      simp only [Act.put, List.setIfInBounds_toArray, List.set_cons_zero, List.set_cons_succ]
      refine WL.val (by kernel_rfl) (.slice la n cap) (by go_simp) ?_
      simp only [Act.put, List.setIfInBounds_toArray, List.set_cons_zero, List.set_cons_succ]
      refine WL.val (by kernel_rfl) (.int .i64 (n : Int)) (by go_simp) ?_
      simp only [Act.put, List.setIfInBounds_toArray, List.set_cons_zero, List.set_cons_succ]
      refine WL.val (by kernel_rfl) (.bool false) (by go_simp) ?_
      simp only [Act.put, List.setIfInBounds_toArray, List.set_cons_zero, List.set_cons_succ]
      refine WL.nil ?_
      refine hK32 _ _ ?_
      refine wp_cond_false rfl ?_
      refine wp_exit ?_
      refine hK10 _ _ ?_
      refine wp_seq_k fun K33 hK33 => ?_
      refine wp_region_list (WL.out ?_)
      refine WL.val (by kernel_rfl) (.bool false) (by go_simp) ?_
      simp only [Act.put, List.setIfInBounds_toArray, List.set_cons_zero, List.set_cons_succ]
      refine WL.nil ?_
      refine hK33 _ _ ?_
      refine wp_ret ?_
      try simp only [Exit.inBlock, Exit.then]
      go_ret
      refine ⟨false, rfl, fun hc => ?_, B6.out⟩
      obtain ⟨i, j, h1, h2, h3⟩ := twi_of_cl HBy.out hc
      exact absurd h3 (HJ.out i j h1 (by rw [← HX.out.1, hn.out] at h2; omega))

theorem BkH.rsv {B : Nat} {w : World} {x : Nat} {rows : List (List Int)} (h : BkH B w x rows) (h0 : 0 < rows.length) : ∃ vr us, w.cell? ⟨x, 0, none⟩ = some vr ∧ RsV w vr us rows ∧ us.length = rows.length := by
  obtain ⟨vr, cs, h1, h2, h3, h4⟩ := h.ex
  exact ⟨vr, cs, h1.c 0 rfl, RsV.of_owns h2 (by omega) h3 (fun j u l hu hl => (h4 j u l hu hl).row), h3⟩
theorem shaL_byts (l : List Int) : Byts (shaL l) := fun c hc => by
  obtain ⟨i, _, rfl⟩ := List.mem_map.1 hc
  exact shaP_rng l i
theorem treeL_byts {k : Nat} {L : List CV} (h1 : 1 ≤ L.length) (h2 : L.length ≤ k) : Byts (treeL k L) := by
  match k, h2 with
  | 0, h2 => omega
  | k + 1, _ =>
    unfold treeL RtP.tree
    split <;> exact shaL_byts _
theorem le8_byts (n : Nat) : Byts (le8 n) := fun c hc => by
  obtain ⟨i, _, rfl⟩ := List.mem_map.1 hc
  exact ⟨Int.emod_nonneg _ (by omega), Int.emod_lt_of_pos _ (by omega)⟩
def RowOk (r : List Int) : Prop := Byts r ∧ r.length ≤ 140737488355000
theorem leafR_ok {c : CV} (h : (0 ≤ c.k ∧ c.k < 9223372036854775808) ∧ c.s.size + c.l.length ≤ 140737488350000) (hb : Byts c.l) : RowOk (RtP.leafR numL c.ce) := by
  have e : RtP.leafR numL c.ce = [0] ++ (numL c.k.toNat ++ (numL (lst c.s).length ++ (lst c.s ++ (numL c.l.length ++ c.l)))) := rfl
  rw [e]
  have h1 := lst_len c.s
  refine ⟨(Byts.one (by omega)).app ((numL_byts _ (by omega)).app ((numL_byts _ (by omega)).app ((lst_byts _).app ((numL_byts _ (by omega)).app hb)))), ?_⟩
  have := numL_len c.k.toNat
  have := numL_len (lst c.s).length
  have := numL_len c.l.length
  simp only [List.length_append, List.length_singleton]
  omega
theorem innR_ok {a b : List Int} (ha : Byts a) (hb : Byts b) (h1 : a.length = 32) (h2 : b.length = 32) : RowOk (RtP.innR a b) := by
  have e : RtP.innR a b = [1] ++ (a ++ b) := rfl
  rw [e]
  exact ⟨(Byts.one (by omega)).app (ha.app hb), by simp [h1, h2]⟩
theorem treeR_ok : ∀ (k : Nat) (L : List CV), 1 ≤ L.length → L.length ≤ k → Fit L → (∀ c ∈ L, Byts c.l) → ∀ r ∈ treeR k L, RowOk r
  | 0, L, h1, h2, _, _, _, _ => by omega
  | k + 1, L, h1, h2, hF, hB, r, hr => by
    by_cases h : L.length ≤ 1
    · match L, h1, h with
      | [c], _, _ =>
        rw [treeR_one] at hr
        simp at hr
        subst hr
        exact leafR_ok (hF c (by simp)) (hB c (by simp))
    · have hh := RtP.half_le (n := L.length) (by omega)
      have hl1 : (L.take (RtP.half L.length)).length = RtP.half L.length := by rw [List.length_take]; omega
      have hl2 : (L.drop (RtP.half L.length)).length = L.length - RtP.half L.length := List.length_drop
      rw [treeR_two h] at hr
      rcases List.mem_append.1 hr with hr | hr
      · exact treeR_ok k _ (by omega) (by omega) (fun c hc => hF c (List.mem_of_mem_take hc)) (fun c hc => hB c (List.mem_of_mem_take hc)) r hr
      · rcases List.mem_append.1 hr with hr | hr
        · exact treeR_ok k _ (by omega) (by omega) (fun c hc => hF c (List.mem_of_mem_drop hc)) (fun c hc => hB c (List.mem_of_mem_drop hc)) r hr
        · simp at hr
          subst hr
          exact innR_ok (treeL_byts (by omega) (by omega)) (treeL_byts (by omega) (by omega)) (treeL_len (by omega) (by omega)) (treeL_len (by omega) (by omega))
theorem rootS_ok {L : List CV} (hF : Fit L) (hB : ∀ c ∈ L, Byts c.l) : ∀ r ∈ rootS L, RowOk r := by
  intro r hr
  rw [rootS_eq] at hr
  rcases List.mem_append.1 hr with hr | hr
  · by_cases h : 1 ≤ L.length
    · exact treeR_ok _ L h (Nat.le_refl _) hF hB r hr
    · have : L = [] := List.eq_nil_of_length_eq_zero (by omega)
      subst this
      simp [treeR, RtP.treeRs] at hr
  · simp at hr
    subst hr
    rw [rootL_eq]
    have e : RtP.topR le8 L.length (treeL L.length L) = [2] ++ (le8 L.length ++ (if 0 < L.length then treeL L.length L else [])) := rfl
    rw [e]
    by_cases h : 0 < L.length
    · rw [if_pos h]
      exact ⟨(Byts.one (by omega)).app ((le8_byts _).app (treeL_byts h (Nat.le_refl _))), by simp [le8_len, treeL_len (k := L.length) h (Nat.le_refl _)]⟩
    · rw [if_neg h]
      exact ⟨(Byts.one (by omega)).app ((le8_byts _).app Byts.nil), by simp [le8_len]⟩
theorem rootS_len (L : List CV) : (rootS L).length ≤ 2 * L.length + 1 ∧ 0 < (rootS L).length := by
  rw [rootS_eq, List.length_append, List.length_singleton]
  by_cases h : 1 ≤ L.length
  · have := treeR_len L.length L h (Nat.le_refl _); omega
  · have : L = [] := List.eq_nil_of_length_eq_zero (by omega)
    subst this
    simp [treeR, RtP.treeRs]
set_option maxRecDepth 8000 in
theorem meet_any (va vb : Value) (A Bb : List CV) (w : World) (ha : CsV w.heap.size w va A) (hb : CsV w.heap.size w vb Bb) (hFa : Fit A) (hFb : Fit Bb) (hBa : ∀ c ∈ A, Byts c.l) (hBb : ∀ c ∈ Bb, Byts c.l) (hNa : A.length ≤ 549755813888) (hNb : Bb.length ≤ 549755813888) :
    Calls Try.prog 21 #[va, vb] w fun e w' => ∃ b : Bool, e = .returned (.bool b) ∧ (RtP.Cl shaL (rootS A ++ rootS Bb) → b = true) ∧ Below w.heap.size w w' := by
  have HA := Keep.mk ha
  have HBv := Keep.mk hb
  have HFa := Keep.mk hFa
  have HFb := Keep.mk hFb
  have HNa := Keep.mk hNa
  have HNb := Keep.mk hNb
  have HOk : Keep (∀ r ∈ rootS A ++ rootS Bb, RowOk r) := ⟨fun r hr => by
    rcases List.mem_append.1 hr with hr | hr
    · exact rootS_ok hFa hBa r hr
    · exact rootS_ok hFb hBb r hr⟩
  clear ha hb hFa hFb hBa hBb hNa hNb
  go_enter Try.func21, Try.ntmps21
  refine wp_seq_k fun K1 hK1 => ?_
  refine wp_region_list (WL.out ?_)
  refine WL.val (by kernel_rfl) (.bool false) (by go_simp) ?_
  simp only [Act.put, List.setIfInBounds_toArray, List.set_cons_zero, List.set_cons_succ]
  refine WL.nil ?_
  refine hK1 _ _ ?_
  refine wp_seq_k fun K2 hK2 => ?_
  refine wp_region_list (WL.out ?_)
  refine WL.bld (by kernel_rfl) 61 #[] rfl [] (by simp) _ bld_bk ?_
  simp only [Act.put, List.setIfInBounds_toArray, List.set_cons_zero, List.set_cons_succ]
  refine WL.box (by kernel_rfl) 61 (.tmp 6) rfl #[.slice none 0 0] rfl ?_
  have K1 := Keep.mk (BkH.new w)
  have b1 := Keep.mk (below_new w (.cells #[.slice none 0 0] 61))
  generalize w.alloc (.cells #[.slice none 0 0] 61) = w1 at *
  obtain ⟨x, hx⟩ : ∃ z, Keep (z = w.heap.size) := ⟨_, ⟨rfl⟩⟩
  rw [← hx.out] at K1 ⊢
  have BK1 : Keep (BkH w.heap.size w1 x []) := ⟨by rw [← hx.out]; exact K1.out⟩
  have hB1 : Keep (Below w.heap.size w w1) := b1
  clear K1 b1
  simp only [Act.put, List.setIfInBounds_toArray, List.set_cons_zero, List.set_cons_succ]
  refine WL.val (by kernel_rfl) (.pointer (some ⟨x, 0, none⟩)) (by go_simp) ?_
  simp only [Act.put, List.setIfInBounds_toArray, List.set_cons_zero, List.set_cons_succ]
  refine WL.nil ?_
  refine hK2 _ _ ?_
  refine wp_seq_k fun K3 hK3 => ?_
  refine wp_region_list (WL.out ?_)
  refine WL.val (by kernel_rfl) (.pointer (some ⟨x, 0, none⟩)) (by go_simp) ?_
  simp only [Act.put, List.setIfInBounds_toArray, List.set_cons_zero, List.set_cons_succ]
  refine WL.val (by kernel_rfl) (va) (by go_simp) ?_
  simp only [Act.put, List.setIfInBounds_toArray, List.set_cons_zero, List.set_cons_succ]
  have hr1 := root_any w.heap.size x va A [] w1 BK1.out (HA.out.below hB1.out) HFa.out (by have := HNa.out; simp; omega) hB1.out.size
  refine WL.callF (by kernel_rfl) 27 _ _ rfl Try.in27 #[.pointer (some ⟨x, 0, none⟩), va] (by simp [Act.eval]) ?_
  refine (hr1).mono ?_
  rintro e w2 ⟨rfl, k1, k2⟩
  refine ⟨_, rfl, ?_⟩
  have BK2 : Keep (BkH w.heap.size w2 x (rootS A)) := ⟨by simpa using k1⟩
  have hB2 : Keep (Below w.heap.size w w2) := ⟨hB1.out.trans (k2.bkBelow hB1.out.size)⟩
  clear hr1 k1 k2
  simp only [Act.put, List.setIfInBounds_toArray, List.set_cons_zero, List.set_cons_succ]
  refine WL.nil ?_
  refine hK3 _ _ ?_
  refine wp_seq_k fun K4 hK4 => ?_
  refine wp_region_list (WL.out ?_)
  refine WL.val (by kernel_rfl) (.pointer (some ⟨x, 0, none⟩)) (by go_simp) ?_
  simp only [Act.put, List.setIfInBounds_toArray, List.set_cons_zero, List.set_cons_succ]
  refine WL.val (by kernel_rfl) (vb) (by go_simp) ?_
  simp only [Act.put, List.setIfInBounds_toArray, List.set_cons_zero, List.set_cons_succ]
  have hr2 := root_any w.heap.size x vb Bb (rootS A) w2 BK2.out (HBv.out.below hB2.out) HFb.out (by have := HNa.out; have := HNb.out; have := (rootS_len A).1; omega) hB2.out.size
  refine WL.callF (by kernel_rfl) 27 _ _ rfl Try.in27 #[.pointer (some ⟨x, 0, none⟩), vb] (by simp [Act.eval]) ?_
  refine (hr2).mono ?_
  rintro e w3 ⟨rfl, k1, k2⟩
  refine ⟨_, rfl, ?_⟩
  have BK3 := Keep.mk k1
  have hB3 : Keep (Below w.heap.size w w3) := ⟨hB2.out.trans (k2.bkBelow hB2.out.size)⟩
  clear hr2 k1 k2
  obtain ⟨vr, us, cvr, hrs, hul⟩ := BK3.out.rsv (by have := (rootS_len A).2; rw [List.length_append]; omega)
  have HRS := Keep.mk hrs
  have HUL := Keep.mk hul
  clear hrs hul
  simp only [Act.put, List.setIfInBounds_toArray, List.set_cons_zero, List.set_cons_succ]
  refine WL.nil ?_
  refine hK4 _ _ ?_
  refine wp_seq_k fun K5 hK5 => ?_
  refine wp_region_list (WL.out ?_)
  refine WL.val (by kernel_rfl) (.pointer (some ⟨x, 0, none⟩)) (by go_simp) ?_
  simp only [Act.put, List.setIfInBounds_toArray, List.set_cons_zero, List.set_cons_succ]
  refine WL.val (by kernel_rfl) (.pointer (some ⟨x, 0, none⟩)) (by go_simp) ?_
  simp only [Act.put, List.setIfInBounds_toArray, List.set_cons_zero, List.set_cons_succ]
  refine WL.val (by kernel_rfl) (.pointer (some ⟨x, 0, none⟩)) (by go_simp) ?_
  simp only [Act.put, List.setIfInBounds_toArray, List.set_cons_zero, List.set_cons_succ]
  refine WL.val (by kernel_rfl) (vr) (by go_simp) ?_
  simp only [Act.put, List.setIfInBounds_toArray, List.set_cons_zero, List.set_cons_succ]
  clear cvr
  refine WL.callF (by kernel_rfl) 40 _ _ rfl Try.in40 #[vr] (by simp [Act.eval]) ?_
  refine (twice_any vr us (rootS A ++ rootS Bb) w3 HRS.out (by rw [HUL.out, List.length_append]; have := (rootS_len A).1; have := (rootS_len Bb).1; have := HNa.out; have := HNb.out; omega) (fun r hr => (HOk.out r hr).2) (fun r hr => (HOk.out r hr).1)).mono ?_
  rintro e w4 ⟨bb, rfl, k1, k2⟩
  refine ⟨_, rfl, ?_⟩
  have HC := Keep.mk k1
  have hB4 : Keep (Below w.heap.size w w4) := ⟨hB3.out.trans (k2.mono hB3.out.size)⟩
  clear k1 k2
  simp only [Act.put, List.setIfInBounds_toArray, List.set_cons_zero, List.set_cons_succ]
  refine WL.val (by kernel_rfl) (.bool bb) (by go_simp) ?_
  simp only [Act.put, List.setIfInBounds_toArray, List.set_cons_zero, List.set_cons_succ]
  refine WL.nil ?_
  refine hK5 _ _ ?_
  refine wp_ret ?_
  go_ret
  exact ⟨bb, rfl, HC.out, hB4.out⟩
theorem numL_pre (a b : Nat) (s t : List Int) (ha : a < 18446744073709551616) (hb : b < 18446744073709551616) (h : numL a ++ s = numL b ++ t) : a = b ∧ s = t := by
  have h1 := fstG_numL a ha s
  rw [h, fstG_numL b hb t] at h1
  have e : a = b := by
    have := congrArg (fun z : Int × Int × Int => z.1) h1
    simp at this
    omega
  subst e
  exact ⟨rfl, List.append_cancel_left h⟩
def d0 : CV := ⟨0, ByteArray.empty, .nilFunc, []⟩
def alT (A B : List CV) (t : Nat) : Bool := decide (A.length = B.length) && (List.range t).all fun i => sameC (A.getD i d0) (B.getD i d0)
theorem alT_next (A B : List CV) (t : Nat) : alT A B (t + 1) = (alT A B t && sameC (A.getD t d0) (B.getD t d0)) := by
  unfold alT
  rw [List.range_succ, List.all_append]
  simp [Bool.and_assoc]
theorem alT_false {A B : List CV} {t : Nat} (h : alT A B t = false) : ∀ n, t ≤ n → alT A B n = false
  | 0, hn => by obtain rfl : t = 0 := by omega
                exact h
  | n + 1, hn => by
    by_cases e : t = n + 1
    · subst e; exact h
    · rw [alT_next, alT_false h n (by omega)]; rfl
theorem CV.sm {c : CV} (h : (0 ≤ c.k ∧ c.k < 9223372036854775808) ∧ c.s.size + c.l.length ≤ 140737488350000) : c.ce.Sm := by
  have := lst_len c.s
  refine ⟨?_, ?_, ?_⟩
  · show c.k.toNat < _; omega
  · show (lst c.s).length < _; omega
  · show c.l.length < _; omega
theorem lst_inj {a b : ByteArray} (h : lst a = lst b) : a = b := by rw [← nums_lst a, ← nums_lst b, h]
theorem sameC_ce {c d : CV} (hc : 0 ≤ c.k) (hd : 0 ≤ d.k) (bc : Byts c.l) (bd : Byts d.l) : sameC c d = true ↔ c.ce = d.ce := by
  unfold sameC CV.ce
  constructor
  · intro h
    simp at h
    obtain ⟨h1, h2, h3⟩ := h
    rw [h1, h2, nums_inj bc bd h3]
  · intro h
    injection h with h1 h2 h3
    have e1 : c.k = d.k := by omega
    simp [e1, lst_inj h2, h3]
theorem same_list {A B : List CV} (fa : Fit A) (fb : Fit B) (ba : ∀ c ∈ A, Byts c.l) (bb : ∀ c ∈ B, Byts c.l) : alT A B A.length = true ↔ A.map CV.ce = B.map CV.ce := by
  unfold alT
  simp only [Bool.and_eq_true, decide_eq_true_eq, List.all_eq_true, List.mem_range]
  constructor
  · rintro ⟨hl, h⟩
    apply List.ext_getElem (by simpa using hl)
    intro i h1 h2
    simp only [List.length_map] at h1 h2
    have h3 := h i h1
    rw [List.getD_eq_getElem?_getD, List.getD_eq_getElem?_getD, List.getElem?_eq_getElem h1, List.getElem?_eq_getElem h2] at h3
    simp only [Option.getD_some] at h3
    rw [List.getElem_map, List.getElem_map]
    exact (sameC_ce (fa _ (List.getElem_mem h1)).1.1 (fb _ (List.getElem_mem h2)).1.1 (ba _ (List.getElem_mem h1)) (bb _ (List.getElem_mem h2))).1 h3
  · intro h
    have hl : A.length = B.length := by simpa using congrArg List.length h
    refine ⟨hl, fun i hi => ?_⟩
    have h2 : i < B.length := by omega
    rw [List.getD_eq_getElem?_getD, List.getD_eq_getElem?_getD, List.getElem?_eq_getElem hi, List.getElem?_eq_getElem h2]
    simp only [Option.getD_some]
    refine (sameC_ce (fa _ (List.getElem_mem hi)).1.1 (fb _ (List.getElem_mem h2)).1.1 (ba _ (List.getElem_mem hi)) (bb _ (List.getElem_mem h2))).2 ?_
    have := congrArg (fun l : List RtP.CE => l[i]?) h
    simpa [List.getElem?_map, List.getElem?_eq_getElem hi, List.getElem?_eq_getElem h2] using this
theorem unlike_cl {A B : List CV} (fa : Fit A) (fb : Fit B) (ba : ∀ c ∈ A, Byts c.l) (bb : ∀ c ∈ B, Byts c.l) (na : A.length < 9223372036854775808) (nb : B.length < 9223372036854775808) (h : alT A B A.length ≠ decide (shaH (rootL A) = shaH (rootL B))) : RtP.Cl shaL (rootS A ++ rootS B) := by
  by_cases hal : alT A B A.length = true
  · have e := (same_list fa fb ba bb).1 hal
    have e2 : rootL A = rootL B := by unfold rootL; rw [e]
    rw [hal, e2] at h
    simp at h
  · have hh : shaH (rootL A) = shaH (rootL B) := by
      cases e : alT A B A.length
      · rw [e] at h
        simpa using h
      · exact absurd e hal
    have hsh : shaL (rootL A) = shaL (rootL B) := by rw [← shaH_L, ← shaH_L, hh]
    have mA : rootL A ∈ rootS A ++ rootS B := by rw [rootS_eq]; simp
    have mB : rootL B ∈ rootS A ++ rootS B := by rw [rootS_eq B]; simp
    by_cases hr : rootL A = rootL B
    · rw [rootL_eq, rootL_eq] at hr
      unfold RtP.topR at hr
      injection hr with _ hr
      obtain ⟨e1, e2⟩ := List.append_inj hr (by rw [le8_len, le8_len])
      have hl := le8_inj _ _ na nb e1
      by_cases h0 : 0 < A.length
      · rw [if_pos h0, if_pos (by omega), ← hl] at e2
        have ht := RtP.tree_inj shaL numL shaL_len A.length (A.map CV.ce) (B.map CV.ce) (by simpa using hl) (by rw [List.length_map]; omega) (by simp) e2
        rcases ht with ht | ht
        · refine absurd ((same_list fa fb ba bb).2 ?_) hal
          apply List.ext_getElem (by simpa using hl)
          intro i h1 h2
          have h3 := ht i _ _ (List.getElem?_eq_getElem h1) (List.getElem?_eq_getElem h2)
          simp only [List.length_map] at h1 h2
          refine RtP.leafR_inj numL numL_pre ?_ ?_ h3
          · rw [List.getElem_map]; exact CV.sm (fa _ (List.getElem_mem h1))
          · rw [List.getElem_map]; exact CV.sm (fb _ (List.getElem_mem h2))
        · refine RtP.Cl.mono shaL ht fun a ha => ?_
          rcases List.mem_append.1 ha with ha | ha
          · rw [rootS_eq]; exact List.mem_append_left _ (List.mem_append_left _ ha)
          · rw [rootS_eq B]
            refine List.mem_append_right _ (List.mem_append_left _ ?_)
            unfold treeR
            rw [← hl]; exact ha
      · have eA : A = [] := List.eq_nil_of_length_eq_zero (by omega)
        have eB : B = [] := List.eq_nil_of_length_eq_zero (by omega)
        subst eA eB
        exact absurd rfl hal
    · exact ⟨rootL A, mA, rootL B, mB, hr, hsh⟩

end Go.Proofs.Ytjklmkeedhgncaa
