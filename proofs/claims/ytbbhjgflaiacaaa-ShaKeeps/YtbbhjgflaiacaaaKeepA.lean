import Derived.Test.YtbbhjgflaiacaaaOrdN
namespace Go.Proofs.Ytbbhjgflaiacaaa
open Go.RowKit Go.Sort

theorem Grown.step {a b c : World} {S : Nat → Prop} {o : Option Nat} (h : Grown a b S) (hg : b.grownBy c o) (ho : ∀ k, o = some k → S k ∨ a.heap.size ≤ k) : Grown a c S :=
  ⟨hg.os.trans h.os, hg.tape.trans h.tape, hg.output.trans h.output, Nat.le_trans h.size hg.size, fun i hi hs => (hg.block i (Nat.lt_of_lt_of_le hi h.size) (fun e => by
    rcases ho i e.symm with h1 | h1
    · exact hs h1
    · omega)).trans (h.block i hi hs)⟩
theorem Grown.belowS {a b c : World} {S : Nat → Prop} (h : Grown a b S) (hb : Below b.heap.size b c) : Grown a c S := h.trans (Grown.below hb)
theorem Grown.allocS {a b : World} {S : Nat → Prop} (h : Grown a b S) (o : Obj) : Grown a (b.alloc o) S := h.belowS (below_new b o)
theorem rangeAt_grown {w w' : World} {b off : Nat} {cs : List Value} {S : Nat → Prop} (h : w.rangeAt b off cs) (hg : Grown w w' S) (hs : ¬ S b) : w'.rangeAt b off cs := fun j v hv => by
  have h1 := h j v hv
  rw [World.cell?_of_block (hg.block b (cell_lt h1) hs)]; exact h1
theorem cell_grown {w w' : World} {b off : Nat} {v : Value} {S : Nat → Prop} (h : w.cell? ⟨b, off, none⟩ = some v) (hg : Grown w w' S) (hs : ¬ S b) : w'.cell? ⟨b, off, none⟩ = some v := by
  rw [World.cell?_of_block (hg.block b (cell_lt h) hs)]; exact h
theorem HRow.grown {w w' : World} {v : Value} {L : List Hs} {S : Nat → Prop} (h : HRow w v L) (hg : Grown w w' S) (hs : ∀ b o n c, v = .slice (some ⟨b, o, none⟩) n c → ¬ S b) : HRow w' v L := by
  rcases h with h | ⟨b, off, cap, h1, h2, h3⟩
  · exact .inl h
  · exact .inr ⟨b, off, cap, h1, h2, rangeAt_grown h3 hg (hs _ _ _ _ h1)⟩
theorem RowAt.grown {w w' : World} {v : Value} {l : List Int} {S : Nat → Prop} (h : RowAt w v l) (hg : Grown w w' S) (hs : ∀ b o n c, v = .slice (some ⟨b, o, none⟩) n c → ¬ S b) : RowAt w' v l := by
  rcases h with h | h | ⟨b, off, cap, h1, h2, h3⟩
  · exact .inl h
  · exact .inr (.inl h)
  · exact .inr (.inr ⟨b, off, cap, h1, h2, fun i hi => cell_grown (h3 i hi) hg (hs _ _ _ _ h1)⟩)
/-- An owned row of hashes: a hash into its place. -/
theorem wpList_storeO {ops : Array Oper} {rest : List Oper} {o : Oper} {a : Act} {w : World} {Q : Exit → Act → World → Prop} (hgd : o.guard = none) (x y : Operand) (ho : o.op = .store 23 x y)
    (base g i n cap : Nat) (hh : Hs) (X : List Hs) (hx : a.eval x = .pointer (some ⟨g, i * 32, none⟩)) (hy : a.eval y = .agg (encH hh).toArray)
    (hown : w.ownsRow base 23 32 (.slice (some ⟨g, 0, none⟩) n cap) X.length (flatH X)) (hi : i < X.length)
    (h : ∀ w', w'.ownsRow base 23 32 (.slice (some ⟨g, 0, none⟩) n cap) (X.set i hh).length (flatH (X.set i hh)) → w.grownBy w' (some g) → wpList Try.prog ops Q rest (a.put o.dst undef) w') : wpList Try.prog ops Q (o :: rest) a w := by
  rcases hown.2 with ⟨h1, _⟩ | ⟨g', cap', cur, h1, hb, hg, hnc, hcm, hcs, ht⟩
  · cases h1
  injection h1 with h1 h2 h3
  injection h1 with h1
  injection h1 with h1
  subst h1 h2 h3
  have hlen : X.length * 32 ≤ cap * 32 := Nat.mul_le_mul_right _ hnc
  have e1 : (Try.prog.info? 23).map (·.size) = some (encH hh).toArray.size := by rw [List.size_toArray, encH_len]; exact Try.size23
  have e2 : i * 32 + (encH hh).toArray.size ≤ cur.size := by rw [hcs, List.size_toArray, encH_len]; omega
  have e3 : (encH hh).toArray.all (·.oneCell') = true := all_oneCell_toArray (encH_one hh)
  have e4 : (cur.toList.take (i * 32) ++ (encH hh).toArray.toList ++ cur.toList.drop (i * 32 + (encH hh).toArray.size)).take (X.length * 32) = flatH (X.set i hh) := by
    have hs := setH_flat X i hh hi
    have hs2 : (flatH X).take (i * 32) ++ encH hh ++ (flatH X).drop (i * 32 + 32) = flatH (X.set i hh) := by
      have := congrArg Array.toList hs
      simpa only [List.toList_toArray] using this
    rw [← hs2, ← ht, List.size_toArray, encH_len]
    have hl1 : (cur.toList.take (i * 32)).length = i * 32 := by rw [List.length_take, Array.length_toList, hcs]; omega
    have htt : List.take (i * 32) (List.take (X.length * 32) cur.toList) = cur.toList.take (i * 32) := by rw [List.take_take, Nat.min_eq_left (by omega)]
    rw [htt, List.take_append, List.length_append, hl1, encH_len, List.take_of_length_le (by rw [List.length_append, hl1, encH_len]; omega), List.drop_take]
  have hst : ∀ w', w' = w.setRow g (cur.toList.take (i * 32) ++ (encH hh).toArray.toList ++ cur.toList.drop (i * 32 + (encH hh).toArray.size)).toArray → wpList Try.prog ops Q rest (a.put o.dst undef) w' := fun w' hw' => by
    subst hw'
    refine h _ ⟨by rw [flatH_len], .inr ⟨g, cap, _, by rw [List.length_set], hb, setRow_heap w g cur _ 23 (0, 0) hg, by rw [List.length_set]; exact hnc, hcm, ?_, ?_⟩⟩ ⟨rfl, rfl, rfl, by simp [World.setRow], fun k _ hk => setRow_other w g k _ (fun e => hk (by rw [e]))⟩
    · simp only [List.size_toArray, List.length_append, List.length_take, List.length_drop, Array.length_toList, encH_len, hcs]; omega
    · rw [List.length_set]; exact e4
  generalize (encH hh).toArray = C at *
  refine wpList_plain hgd fun K hK => ?_
  exact wp_store_part 23 x y ho g (i * 32) C hx hy 23 cur hg e1 e2 e3 (hK _ _ (hst _ rfl))
/-- Hashes of few bytes. -/
def h1H (j : Nat) (v : Int) (hv : 0 ≤ v ∧ v < 256) : Hs := Hs.mk' (fun i => if i = j then v else 0) fun i _ => by split <;> omega
def h2H (v : Int) (hv : 0 ≤ v ∧ v < 256) : Hs := Hs.mk' (fun i => if i = 0 then v else if i = 5 then 85 else 0) fun i _ => by repeat' split <;> omega
theorem Try.bld1 : Try.prog.built 23 [(1, .int .u8 119)] = some (bytesA 32 fun i => if i = 1 then 119 else 0) := by kernel_rfl
theorem Try.bld3 : Try.prog.built 23 [(3, .int .u8 51)] = some (bytesA 32 fun i => if i = 3 then 51 else 0) := by kernel_rfl
theorem Try.bld5 (v : Int) : Try.prog.built 23 [(0, .int .u8 v), (5, .int .u8 85)] = some (bytesA 32 fun i => if i = 0 then v else if i = 5 then 85 else 0) := by kernel_rfl
theorem mkH_arr (c : Nat → Int) (hc : ∀ i, i < 32 → 0 ≤ c i ∧ c i < 256) : bytesA 32 c = (encH (Hs.mk' c hc)).toArray := by
  rw [encH_arr]; exact bytesA_congr fun i hi => (Hs.mk'_f c hc i hi).symm
end Go.Proofs.Ytbbhjgflaiacaaa
