import Derived.Test.YtjklmkeedhgncaaA09
import Derived.Test.YtjklmkeedhgncaaA07
import Derived.Laws.EntriesVeiled
namespace Go.Proofs.Ytjklmkeedhgncaa
open Go.RowKit
set_option linter.unusedSimpArgs false
set_option linter.unusedVariables false
theorem Try.in17 (w : World) (vs : Array Value) : (callFunc 17 vs).run Try.prog w = .ok (.enter 17 vs) w := by kernel_rfl
def sameC (c d : CV) : Bool := decide (c.k = d.k) && (decide (c.s = d.s) && decide (strOfNums c.l = strOfNums d.l))
theorem toL_inj {a b : ByteArray} (h : a.toList = b.toList) : a = b := by
 rw [ByteArray.toList_eq, ByteArray.toList_eq] at h
 rcases a with ⟨⟨a⟩⟩; rcases b with ⟨⟨b⟩⟩
 simp at h
 rw [h]
theorem toL_beq (a b : ByteArray) : (a.toList == b.toList) = decide (a = b) := by
 rw [Bool.eq_iff_iff]
 simp
 exact ⟨toL_inj, fun h => by rw [h]⟩
def cvA (c : CV) : Array Value := #[.int .i64 c.k, .string c.s, c.v]
set_option maxRecDepth 8000 in
theorem same_k (k j : Int) (s t : ByteArray) (va ua : Option Addr) (vn vc un uc : Nat) (l m : List Int) (w : World) (hx : RowAt w (.slice va vn vc) l) (hy : RowAt w (.slice ua un uc) m) (hk : ¬ k = j) :
  Calls Try.prog 17 #[.agg #[.int .i64 k, .string s, .slice va vn vc], .agg #[.int .i64 j, .string t, .slice ua un uc]] w fun e w' => e = .returned (.bool (sameC ⟨k, s, .slice va vn vc, l⟩ ⟨j, t, .slice ua un uc, m⟩)) ∧ Below w.heap.size w w' := by
 have HX := Keep.mk hx
 have HY := Keep.mk hy
 clear hx hy
 have hkb : (k == j) = false := by simpa using hk
 skip
 skip
 skip
 skip
 go_enter Try.func17, Try.ntmps17
 refine wp_seq_k fun K1 hK1 => rgn ?_
 refine WL.box (by kernel_rfl) 40 (.tmp 0) rfl #[.int .i64 k, .string s, .slice va vn vc] rfl ?_
 have C1 := Keep.mk (Blk.new w 40 #[.int .i64 k, .string s, .slice va vn vc])
 have b1 := Keep.mk (below_new w (.cells #[.int .i64 k, .string s, .slice va vn vc] 40))
 change WL _ _ _ _ _ (w.alloc (.cells #[.int .i64 k, .string s, .slice va vn vc] 40))
 generalize w.alloc (.cells #[.int .i64 k, .string s, .slice va vn vc] 40) = w1 at *
 obtain ⟨c, hc0⟩ : ∃ z, Keep (z = w.heap.size) := ⟨_, ⟨rfl⟩⟩
 rw [← hc0.out] at C1 ⊢
 simp only [Act.put, pqA, pqB, pqC]
 refine WL.box (by kernel_rfl) 40 (.tmp 1) rfl #[.int .i64 j, .string t, .slice ua un uc] rfl ?_
 have D2 := Keep.mk (Blk.new w1 40 #[.int .i64 j, .string t, .slice ua un uc])
 have b2 := Keep.mk (below_new w1 (.cells #[.int .i64 j, .string t, .slice ua un uc] 40))
 change WL _ _ _ _ _ (w1.alloc (.cells #[.int .i64 j, .string t, .slice ua un uc] 40))
 generalize w1.alloc (.cells #[.int .i64 j, .string t, .slice ua un uc] 40) = w2 at *
 obtain ⟨d, hd0⟩ : ∃ z, Keep (z = w1.heap.size) := ⟨_, ⟨rfl⟩⟩
 rw [← hd0.out] at D2 ⊢
 have C2 := Keep.mk (C1.out.below b2.out C1.out.lt)
 have B2 : Keep (Below w.heap.size w w2) := ⟨b1.out.trans (b2.out.mono b1.out.size)⟩
 have q1 := conv_row _ _ w2 (HX.out.below B2.out)
 have q2 := conv_row _ _ w2 (HY.out.below B2.out)
 have c0 := C2.out.c 0 (by rfl : (#[.int .i64 k, .string s, .slice va vn vc] : Array Value)[0]? = some (.int .i64 k))
 have c1 := C2.out.c 1 (by rfl : (#[.int .i64 k, .string s, .slice va vn vc] : Array Value)[1]? = some (.string s))
 have c2 := C2.out.c 2 (by rfl : (#[.int .i64 k, .string s, .slice va vn vc] : Array Value)[2]? = some (.slice va vn vc))
 have d0 := D2.out.c 0 (by rfl : (#[.int .i64 j, .string t, .slice ua un uc] : Array Value)[0]? = some (.int .i64 j))
 have d1 := D2.out.c 1 (by rfl : (#[.int .i64 j, .string t, .slice ua un uc] : Array Value)[1]? = some (.string t))
 have d2 := D2.out.c 2 (by rfl : (#[.int .i64 j, .string t, .slice ua un uc] : Array Value)[2]? = some (.slice ua un uc))
 simp only [Act.put, pqA, pqB, pqC]
 refine VbF ?_
 refine WL.nil (hK1 _ _ ?_)
 refine wp_seq_k fun K2 hK2 => rgn ?_
 refine VlS (.pointer (some ⟨c, 0, none⟩)) ?_
 refine VlS (.int .i64 k) ?_
 refine VlS (.pointer (some ⟨d, 0, none⟩)) ?_
 refine VlS (.int .i64 j) ?_
 refine VbF ?_
 refine VbF ?_
 refine SkS ?_
 refine SkS ?_
 refine SkS ?_
 refine SkS ?_
 refine SkS ?_
 refine VbF ?_
 refine VbF ?_
 refine SkS ?_
 refine SkS ?_
 refine SkS ?_
 refine SkS ?_
 refine SkS ?_
 refine SkS ?_
 refine SkS ?_
 refine VbF ?_
 refine VbF ?_
 refine WL.nil (hK2 _ _ ?_)
 refine wp_ret ?_
 go_ret
 refine ⟨?_, B2.out⟩
 simp [sameC, hk]
set_option maxRecDepth 8000 in
theorem same_s (k j : Int) (s t : ByteArray) (va ua : Option Addr) (vn vc un uc : Nat) (l m : List Int) (w : World) (hx : RowAt w (.slice va vn vc) l) (hy : RowAt w (.slice ua un uc) m) (hk : k = j) (hs : ¬ s = t) :
  Calls Try.prog 17 #[.agg #[.int .i64 k, .string s, .slice va vn vc], .agg #[.int .i64 j, .string t, .slice ua un uc]] w fun e w' => e = .returned (.bool (sameC ⟨k, s, .slice va vn vc, l⟩ ⟨j, t, .slice ua un uc, m⟩)) ∧ Below w.heap.size w w' := by
 have HX := Keep.mk hx
 have HY := Keep.mk hy
 clear hx hy
 have hkb : (k == j) = true := by simpa using hk
 skip
 have hsl : ¬ s.toList = t.toList := fun e => hs (toL_inj e)
 obtain rfl := hk
 skip
 go_enter Try.func17, Try.ntmps17
 refine wp_seq_k fun K1 hK1 => rgn ?_
 refine WL.box (by kernel_rfl) 40 (.tmp 0) rfl #[.int .i64 k, .string s, .slice va vn vc] rfl ?_
 have C1 := Keep.mk (Blk.new w 40 #[.int .i64 k, .string s, .slice va vn vc])
 have b1 := Keep.mk (below_new w (.cells #[.int .i64 k, .string s, .slice va vn vc] 40))
 change WL _ _ _ _ _ (w.alloc (.cells #[.int .i64 k, .string s, .slice va vn vc] 40))
 generalize w.alloc (.cells #[.int .i64 k, .string s, .slice va vn vc] 40) = w1 at *
 obtain ⟨c, hc0⟩ : ∃ z, Keep (z = w.heap.size) := ⟨_, ⟨rfl⟩⟩
 rw [← hc0.out] at C1 ⊢
 simp only [Act.put, pqA, pqB, pqC]
 refine WL.box (by kernel_rfl) 40 (.tmp 1) rfl #[.int .i64 k, .string t, .slice ua un uc] rfl ?_
 have D2 := Keep.mk (Blk.new w1 40 #[.int .i64 k, .string t, .slice ua un uc])
 have b2 := Keep.mk (below_new w1 (.cells #[.int .i64 k, .string t, .slice ua un uc] 40))
 change WL _ _ _ _ _ (w1.alloc (.cells #[.int .i64 k, .string t, .slice ua un uc] 40))
 generalize w1.alloc (.cells #[.int .i64 k, .string t, .slice ua un uc] 40) = w2 at *
 obtain ⟨d, hd0⟩ : ∃ z, Keep (z = w1.heap.size) := ⟨_, ⟨rfl⟩⟩
 rw [← hd0.out] at D2 ⊢
 have C2 := Keep.mk (C1.out.below b2.out C1.out.lt)
 have B2 : Keep (Below w.heap.size w w2) := ⟨b1.out.trans (b2.out.mono b1.out.size)⟩
 have q1 := conv_row _ _ w2 (HX.out.below B2.out)
 have q2 := conv_row _ _ w2 (HY.out.below B2.out)
 have c0 := C2.out.c 0 (by rfl : (#[.int .i64 k, .string s, .slice va vn vc] : Array Value)[0]? = some (.int .i64 k))
 have c1 := C2.out.c 1 (by rfl : (#[.int .i64 k, .string s, .slice va vn vc] : Array Value)[1]? = some (.string s))
 have c2 := C2.out.c 2 (by rfl : (#[.int .i64 k, .string s, .slice va vn vc] : Array Value)[2]? = some (.slice va vn vc))
 have d0 := D2.out.c 0 (by rfl : (#[.int .i64 k, .string t, .slice ua un uc] : Array Value)[0]? = some (.int .i64 k))
 have d1 := D2.out.c 1 (by rfl : (#[.int .i64 k, .string t, .slice ua un uc] : Array Value)[1]? = some (.string t))
 have d2 := D2.out.c 2 (by rfl : (#[.int .i64 k, .string t, .slice ua un uc] : Array Value)[2]? = some (.slice ua un uc))
 simp only [Act.put, pqA, pqB, pqC]
 refine VbF ?_
 refine WL.nil (hK1 _ _ ?_)
 refine wp_seq_k fun K2 hK2 => rgn ?_
 refine VlS (.pointer (some ⟨c, 0, none⟩)) ?_
 refine VlS (.int .i64 k) ?_
 refine VlS (.pointer (some ⟨d, 0, none⟩)) ?_
 refine VlS (.int .i64 k) ?_
 refine VbT ?_
 refine VbT ?_
 refine VlS (.pointer (some ⟨c, 1, none⟩)) ?_
 refine VlS (.string s) ?_
 refine VlS (.pointer (some ⟨d, 1, none⟩)) ?_
 refine VlS (.string t) ?_
 refine VbF ?_
 refine VbF ?_
 refine VbF ?_
 refine SkS ?_
 refine SkS ?_
 refine SkS ?_
 refine SkS ?_
 refine SkS ?_
 refine SkS ?_
 refine SkS ?_
 refine VbF ?_
 refine VbF ?_
 refine WL.nil (hK2 _ _ ?_)
 refine wp_ret ?_
 go_ret
 refine ⟨?_, B2.out⟩
 simp [sameC, hs]
set_option maxRecDepth 8000 in
theorem same_v (k j : Int) (s t : ByteArray) (va ua : Option Addr) (vn vc un uc : Nat) (l m : List Int) (w : World) (hx : RowAt w (.slice va vn vc) l) (hy : RowAt w (.slice ua un uc) m) (hk : k = j) (hs : s = t) :
  Calls Try.prog 17 #[.agg #[.int .i64 k, .string s, .slice va vn vc], .agg #[.int .i64 j, .string t, .slice ua un uc]] w fun e w' => e = .returned (.bool (sameC ⟨k, s, .slice va vn vc, l⟩ ⟨j, t, .slice ua un uc, m⟩)) ∧ Below w.heap.size w w' := by
 have HX := Keep.mk hx
 have HY := Keep.mk hy
 clear hx hy
 have hkb : (k == j) = true := by simpa using hk
 skip
 skip
 obtain rfl := hk
 obtain rfl := hs
 go_enter Try.func17, Try.ntmps17
 refine wp_seq_k fun K1 hK1 => rgn ?_
 refine WL.box (by kernel_rfl) 40 (.tmp 0) rfl #[.int .i64 k, .string s, .slice va vn vc] rfl ?_
 have C1 := Keep.mk (Blk.new w 40 #[.int .i64 k, .string s, .slice va vn vc])
 have b1 := Keep.mk (below_new w (.cells #[.int .i64 k, .string s, .slice va vn vc] 40))
 change WL _ _ _ _ _ (w.alloc (.cells #[.int .i64 k, .string s, .slice va vn vc] 40))
 generalize w.alloc (.cells #[.int .i64 k, .string s, .slice va vn vc] 40) = w1 at *
 obtain ⟨c, hc0⟩ : ∃ z, Keep (z = w.heap.size) := ⟨_, ⟨rfl⟩⟩
 rw [← hc0.out] at C1 ⊢
 simp only [Act.put, pqA, pqB, pqC]
 refine WL.box (by kernel_rfl) 40 (.tmp 1) rfl #[.int .i64 k, .string s, .slice ua un uc] rfl ?_
 have D2 := Keep.mk (Blk.new w1 40 #[.int .i64 k, .string s, .slice ua un uc])
 have b2 := Keep.mk (below_new w1 (.cells #[.int .i64 k, .string s, .slice ua un uc] 40))
 change WL _ _ _ _ _ (w1.alloc (.cells #[.int .i64 k, .string s, .slice ua un uc] 40))
 generalize w1.alloc (.cells #[.int .i64 k, .string s, .slice ua un uc] 40) = w2 at *
 obtain ⟨d, hd0⟩ : ∃ z, Keep (z = w1.heap.size) := ⟨_, ⟨rfl⟩⟩
 rw [← hd0.out] at D2 ⊢
 have C2 := Keep.mk (C1.out.below b2.out C1.out.lt)
 have B2 : Keep (Below w.heap.size w w2) := ⟨b1.out.trans (b2.out.mono b1.out.size)⟩
 have q1 := conv_row _ _ w2 (HX.out.below B2.out)
 have q2 := conv_row _ _ w2 (HY.out.below B2.out)
 have c0 := C2.out.c 0 (by rfl : (#[.int .i64 k, .string s, .slice va vn vc] : Array Value)[0]? = some (.int .i64 k))
 have c1 := C2.out.c 1 (by rfl : (#[.int .i64 k, .string s, .slice va vn vc] : Array Value)[1]? = some (.string s))
 have c2 := C2.out.c 2 (by rfl : (#[.int .i64 k, .string s, .slice va vn vc] : Array Value)[2]? = some (.slice va vn vc))
 have d0 := D2.out.c 0 (by rfl : (#[.int .i64 k, .string s, .slice ua un uc] : Array Value)[0]? = some (.int .i64 k))
 have d1 := D2.out.c 1 (by rfl : (#[.int .i64 k, .string s, .slice ua un uc] : Array Value)[1]? = some (.string s))
 have d2 := D2.out.c 2 (by rfl : (#[.int .i64 k, .string s, .slice ua un uc] : Array Value)[2]? = some (.slice ua un uc))
 simp only [Act.put, pqA, pqB, pqC]
 refine VbF ?_
 refine WL.nil (hK1 _ _ ?_)
 refine wp_seq_k fun K2 hK2 => rgn ?_
 refine VlS (.pointer (some ⟨c, 0, none⟩)) ?_
 refine VlS (.int .i64 k) ?_
 refine VlS (.pointer (some ⟨d, 0, none⟩)) ?_
 refine VlS (.int .i64 k) ?_
 refine VbT ?_
 refine VbT ?_
 refine VlS (.pointer (some ⟨c, 1, none⟩)) ?_
 refine VlS (.string s) ?_
 refine VlS (.pointer (some ⟨d, 1, none⟩)) ?_
 refine VlS (.string s) ?_
 refine VbT ?_
 refine VbT ?_
 refine VbT ?_
 refine VlS (.pointer (some ⟨c, 2, none⟩)) ?_
 refine VlS (.slice va vn vc) ?_
 refine VlS (.string (strOfNums l)) ?_
 refine VlS (.pointer (some ⟨d, 2, none⟩)) ?_
 refine VlS (.slice ua un uc) ?_
 refine VlS (.string (strOfNums m)) ?_
 refine VlS (.bool ((strOfNums l).toList == (strOfNums m).toList)) ?_
 refine VlS (.bool ((strOfNums l).toList == (strOfNums m).toList)) ?_
 refine VlS (.bool ((strOfNums l).toList == (strOfNums m).toList)) ?_
 refine WL.nil (hK2 _ _ ?_)
 refine wp_ret ?_
 go_ret
 refine ⟨?_, B2.out⟩
 simp only [sameC, decide_true, Bool.true_and]
 rw [toL_beq]
 rfl
theorem sameC_any (c d : CV) (w : World) (hx : RowAt w c.v c.l) (hy : RowAt w d.v d.l) :
  Calls Try.prog 17 #[.agg (cvA c), .agg (cvA d)] w fun e w' => e = .returned (.bool (sameC c d)) ∧ Below w.heap.size w w' := by
 obtain ⟨k, s, v, l⟩ := c
 obtain ⟨j, t, u, m⟩ := d
 obtain ⟨va, vc, hv⟩ := row_form hx
 obtain ⟨ua, uc, hu⟩ := row_form hy
 simp only at hv hu hx hy
 subst hv hu
 by_cases hk : k = j
 ·by_cases hs : s = t
  ·exact same_v k j s t va ua _ vc _ uc l m w hx hy hk hs
  ·exact same_s k j s t va ua _ vc _ uc l m w hx hy hk hs
 ·exact same_k k j s t va ua _ vc _ uc l m w hx hy hk


structure LsAt (B : Nat) (w : World) (b off : Nat) (ls : List LV) : Prop where
 lt : b < B
 at_ : ∀ (i : Nat) (x : LV), ls[i]? = some x → w.rangeAt b (off + i * 5) (lvA x).toList
 lf : ∀ x ∈ ls, LfAt B w x
theorem LsAt.below {B : Nat} {w w' : World} {b off : Nat} {ls : List LV} (h : LsAt B w b off ls) (hb : Below B w w') : LsAt B w' b off ls :=
 ⟨h.lt, fun i x hx => rangeAt_below (h.at_ i x hx) hb h.lt, fun x hx => (h.lf x hx).below hb⟩
def LsV (B : Nat) (w : World) (v : Value) (ls : List LV) : Prop :=
 (∃ a c, v = .slice a 0 c ∧ ls = []) ∨ ∃ b off cap, v = .slice (some ⟨b, off, none⟩) ls.length cap ∧ ls.length ≤ cap ∧ LsAt B w b off ls
theorem LsV.below {B : Nat} {w w' : World} {v : Value} {ls : List LV} (h : LsV B w v ls) (hb : Below B w w') : LsV B w' v ls := by
 rcases h with h | ⟨b, off, cap, h1, h2, h3⟩
 ·exact .inl h
 ·exact .inr ⟨b, off, cap, h1, h2, h3.below hb⟩
theorem LsV.mono {B B' : Nat} {w : World} {v : Value} {ls : List LV} (h : LsV B w v ls) (hB : B ≤ B') : LsV B' w v ls := by
 rcases h with h | ⟨b, off, cap, h1, h2, h3⟩
 ·exact .inl h
 ·exact .inr ⟨b, off, cap, h1, h2, ⟨Nat.lt_of_lt_of_le h3.lt hB, h3.at_, fun x hx => (h3.lf x hx).mono hB⟩⟩
theorem LsV.form {B : Nat} {w : World} {v : Value} {ls : List LV} (h : LsV B w v ls) : ∃ la cap, v = .slice la ls.length cap ∧ (0 < ls.length → ∃ b off, la = some ⟨b, off, none⟩ ∧ LsAt B w b off ls) := by
 rcases h with ⟨a, c, rfl, rfl⟩ | ⟨b, off, cap, rfl, h2, h3⟩
 ·exact ⟨a, c, rfl, fun h => by simp at h⟩
 ·exact ⟨_, cap, rfl, fun _ => ⟨b, off, rfl, h3⟩⟩
def wtA (n : Int) (v : Value) : Array Value := #[.int .i64 n, v]
theorem rng_mid {w : World} {b o : Nat} {x : LV} (h : w.rangeAt b o (lvA x).toList) : w.rangeAt b (o + 1) (cvA x.c).toList := fun j v hv => by
 have h1 := h (1 + j) v (by
  match j, hv with
  | 0, h => exact h
  | 1, h => exact h
  | 2, h => exact h
  | j + 3, h => simp [cvA] at h)
 rw [show o + 1 + j = o + (1 + j) by omega]; exact h1




def zLf : Array Value := #[.int .i64 0, .int .i64 0, .string ByteArray.empty, .slice none 0 0, .slice none 0 0]
theorem Try.newLf (w : World) : (Instr.alloc 69 true (.tuple #[])).run Try.prog w = .ok (.pointer (some ⟨w.heap.size, 0, none⟩)) (w.alloc (.cells zLf 69)) := by kernel_rfl


end Go.Proofs.Ytjklmkeedhgncaa
