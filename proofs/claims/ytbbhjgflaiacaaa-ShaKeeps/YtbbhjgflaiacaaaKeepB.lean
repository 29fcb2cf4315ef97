import Derived.Test.YtbbhjgflaiacaaaFolC
import Derived.Test.YtbbhjgflaiacaaaKeepA
import Derived.Maps.AppendAt
import Derived.Laws.BytesArg
import Derived.Laws.BitsAllLaws
namespace Go.Proofs.Ytbbhjgflaiacaaa
open Go.RowKit Go.Sort

theorem row_three (w : World) (a b c : Int) : RowAt (w.alloc (.cells #[.int .u8 a, .int .u8 b, .int .u8 c] 5)) (.slice (some ⟨w.heap.size, 0, none⟩) 3 3) [a, b, c] := by
  refine .inr (.inr ⟨w.heap.size, 0, 3, rfl, by simp, fun i hi => ?_⟩)
  rw [Nat.zero_add, (Blk.new w 5 #[.int .u8 a, .int .u8 b, .int .u8 c]).cell]
  match i, hi with
  | 0, _ => rfl
  | 1, _ => rfl
  | 2, _ => rfl
/-- Append of hashes, in a region that draws. -/
theorem wp_appH {o : Oper} {a : Act} {w : World} {K : Act → World → Prop} {Q : Exit → Act → World → Prop} (s x : Operand)
    (ho : o.op = .call { callee := .builtin .append, args := #[s, x], argTypes := #[45, 45] }) (base : Nat) (v vx : Value) (L M : List Hs)
    (hs : a.eval s = v) (hx : a.eval x = vx) (hown : w.ownsRow base 23 32 v L.length (flatH L)) (hrow : HRow w vx M) (hb : L.length + M.length ≤ 4398046511104) (hbase : base ≤ w.heap.size)
    (h : ∀ v' w', w'.ownsRow base 23 32 v' (L ++ M).length (flatH (L ++ M)) → w.grownBy w' v.ownBlock → K (a.put o.dst v') w') : o.wp Try.prog a w K Q := by
  obtain ⟨i, hi, hzz⟩ := Option.map_eq_some_iff.1 Try.info23
  simp only [Prod.mk.injEq] at hzz
  obtain ⟨hz, hsz, hby⟩ := hzz
  have hzs : (Value.agg (bytesA 32 fun _ => 0)).cells.size = 32 := by show (bytesA 32 fun _ => 0).size = 32; exact bytesA_size _ _
  rw [flatH_app, List.length_append] at h
  rcases hrow with ⟨ad, c, rfl, rfl, hac⟩ | ⟨b, off, cap, rfl, hcap, hc⟩
  · cases ad with
    | none =>
      obtain rfl := hac rfl
      have hrun := run_append_owned_none (P := Try.prog) (w := w) base 45 o.type 23 i 32 Try.underlying45 hi v L.length _ hown
      unfold Oper.wp execOp
      simp only [ho, resolve, invoke, builtin, Sem.run_bind, Sem.run_pure, Result.andThen_ok, List.map_toArray, List.map_cons, List.map_nil, hs, hx, hrun]
      refine h v w ?_ (World.grownBy.refl w _)
      simpa [flatH_nil] using hown
    | some ad =>
      refine wp_append_own w s x 45 ho base 23 i _ 32 32 Try.underlying45 hi hz hsz hby hzs (by omega) v L.length _ hs hown ad 0 c [] hx rfl (fun j u hu => by simp at hu) (fun u hu => by simp at hu) (by unfold maxLen; simp at hb; omega) (by simp at hb; omega) hbase ?_
      intro v' w' h1 h2 _
      exact h v' w' h1 h2
  · refine wp_append_own w s x 45 ho base 23 i _ 32 32 Try.underlying45 hi hz hsz hby hzs (by omega) v L.length _ hs hown ⟨b, off, none⟩ M.length cap (flatH M) hx (flatH_len M)
      (fun j u hu => by rw [Addr.add_mid]; exact hc j u hu) (flatH_one M) (by unfold maxLen; omega) (by omega) hbase ?_
    intro v' w' h1 h2 _
    exact h v' w' h1 h2
theorem ownsH_form {w : World} {base : Nat} {v : Value} {n : Nat} {xs : List Value} (h : w.ownsRow base 23 32 v n xs) (hn : 0 < n) : ∃ g cap, v = .slice (some ⟨g, 0, none⟩) n cap ∧ base ≤ g ∧ n ≤ cap ∧ g < w.heap.size := by
  obtain ⟨_, h2⟩ := h
  rcases h2 with ⟨_, h0⟩ | ⟨g, cap, cur, e, hg, hh, hc, _⟩
  · omega
  · exact ⟨g, cap, e, hg, hc, (Array.getElem?_eq_some_iff.1 hh).1⟩
theorem ownsH_drew {w : World} {base n : Nat} {v : Value} {xs : List Value} (h : w.ownsRow base 23 32 v n xs) : w.drew.ownsRow base 23 32 v n xs := h
/-- What the list of ShaKeeps is. -/
def ListAt (w8 : World) (n : Nat) (L2 : List Hs) (v : Value) (wx : World) : Prop :=
  ∃ gl cll, v = .slice (some ⟨gl, 0, none⟩) (n + 2) cll ∧ n + 2 ≤ cll ∧ w8.heap.size ≤ gl ∧ gl < wx.heap.size ∧ wx.ownsRow w8.heap.size 23 32 (.slice (some ⟨gl, 0, none⟩) (n + 2) cll) (n + 2) (flatH L2) ∧ Below w8.heap.size w8 wx
theorem ListAt.mk {w8 wx : World} {n : Nat} {L2 : List Hs} {v : Value} (hL : L2.length = n + 2) (ho : wx.ownsRow w8.heap.size 23 32 v L2.length (flatH L2)) (hb : Below w8.heap.size w8 wx) : ListAt w8 n L2 v wx := by
  rw [hL] at ho
  obtain ⟨g, cap, rfl, h1, h2, h3⟩ := ownsH_form ho (by omega)
  exact ⟨g, cap, rfl, h2, h1, h3, ho, hb⟩
theorem wpList_bldL {P : Program} {ops : Array Oper} {rest : List Oper} {o : Oper} {a : Act} {w : World} {Q : Exit → Act → World → Prop} (hg : o.guard = none) (t : TypeId) (parts : Array (Nat × Operand)) (ho : o.op = .build t parts)
    (l : List (Nat × Value)) (hv : (parts.map fun (i, x) => (i, a.eval x)).toList = l) (cells : Array Value) (hb : P.built t l = some cells)
    (h : wpList P ops Q rest (a.put o.dst (.agg cells)) w) : wpList P ops Q (o :: rest) a w :=
  wpList_bld hg t parts ho cells (by rw [hv]; exact hb) h
theorem Try.enter12 (w : World) (vs : Array Value) : (callFunc 12 vs).run Try.prog w = .ok (.enter 12 vs) w := by kernel_rfl
theorem Try.enter24 (w : World) (vs : Array Value) : (callFunc 24 vs).run Try.prog w = .ok (.enter 24 vs) w := by kernel_rfl
theorem bs1H (x : Hs) (w : World) : (Instr.buildSlice 45 1 #[(0, .agg (encH x).toArray)]).run Try.prog w = .ok (.slice (some ⟨w.heap.size, 0, none⟩) 1 1) (w.alloc (.cells (encH x).toArray 23)) := by rw [encH_arr]; exact Try.bs1 _ w
theorem one_row (z : Hs) (w : World) : HRow (w.alloc (.cells (encH z).toArray 23)) (.slice (some ⟨w.heap.size, 0, none⟩) 1 1) [z] := HRow.mk rfl (Nat.le_refl _) fun j v hv => by
  rw [Nat.zero_add, (Blk.new w 23 _).cell]; simpa [flatH] using hv
theorem hr3 : ∀ i, i < 32 → 0 ≤ (if i = 3 then (51 : Int) else 0) ∧ (if i = 3 then (51 : Int) else 0) < 256 := fun i _ => by split <;> omega
/-- Append of hashes, and where the row lies then. -/
theorem wpList_appAt {ops : Array Oper} {rest : List Oper} {o : Oper} {a : Act} {w : World} {Q : Exit → Act → World → Prop} (hgd : o.guard = none) (s x : Operand)
    (ho : o.op = .call { callee := .builtin .append, args := #[s, x], argTypes := #[45, 45] }) (base : Nat) (v : Value) (L M : List Hs) (b off cap : Nat)
    (hs : a.eval s = v) (hx : a.eval x = .slice (some ⟨b, off, none⟩) M.length cap) (hown : w.ownsRow base 23 32 v L.length (flatH L)) (hc : w.rangeAt b off (flatH M)) (hb : L.length + M.length ≤ 4398046511104) (hbase : base ≤ w.heap.size)
    (h : ∀ v' w', w'.ownsRow base 23 32 v' (L ++ M).length (flatH (L ++ M)) → w.grownBy w' v.ownBlock → (v'.ownBlock = v.ownBlock ∨ v'.ownBlock = some w.heap.size) → wpList Try.prog ops Q rest (a.put o.dst v') w') : wpList Try.prog ops Q (o :: rest) a w := by
  obtain ⟨i, hi, hzz⟩ := Option.map_eq_some_iff.1 Try.info23
  simp only [Prod.mk.injEq] at hzz
  obtain ⟨hz, hsz, hby⟩ := hzz
  have hzs : (Value.agg (bytesA 32 fun _ => 0)).cells.size = 32 := by show (bytesA 32 fun _ => 0).size = 32; exact bytesA_size _ _
  rw [flatH_app, List.length_append] at h
  refine wpList_append_own_at w hgd s x 45 ho base 23 i _ 32 32 Try.underlying45 hi hz hsz hby hzs (by omega) v L.length _ hs hown ⟨b, off, none⟩ M.length cap (flatH M) hx (flatH_len M)
    (fun j u hu => by rw [Addr.add_mid]; exact hc j u hu) (flatH_one M) (by unfold maxLen; omega) (by omega) hbase ?_
  intro v' w' h1 h2 _ h4
  exact h v' w' h1 h2 h4
theorem one_range (z : Hs) (w : World) : (w.alloc (.cells (encH z).toArray 23)).rangeAt w.heap.size 0 (flatH [z]) := fun j v hv => by
  rw [Nat.zero_add, (Blk.new w 23 _).cell]; simpa [flatH] using hv
/-- A row of bytes as a text. -/
theorem conv_row (v : Value) (l : List Int) (w : World) (h : RowAt w v l) : (convert 28 9 v).run Try.prog w = .ok (.string (strOfNums l)) w := by
  rcases h with ⟨rfl, rfl⟩ | ⟨a, c, rfl, rfl⟩ | ⟨b, off, cap, rfl, _, hc⟩
  · rw [run_convert_bytes_nil (P := Try.prog) w 28 5 Try.underlying28 Try.underlying5 0 0 9 Try.underlying9]; rfl
  · rw [run_convert_bytes_string (P := Try.prog) w 28 9 5 _ 0 c Try.underlying28 Try.underlying5 Try.underlying9]
    simp [Conv.bytesToString, loadCells, loadCellsFrom, strOfNums]
    rfl
  · exact run_convert_bytes_arg (P := Try.prog) w 28 5 Try.underlying28 Try.underlying5 b off l.length cap l rfl hc 9 Try.underlying9
theorem xor_rng (a b : Int) (h1 : 0 ≤ a ∧ a < 256) (h2 : 0 ≤ b ∧ b < 256) : 0 ≤ bits .xor .u8 a b ∧ bits .xor .u8 a b < 256 := by
  rw [u8_xor a b h1.1 h1.2 h2.1 h2.2]
  have : a.toNat ^^^ b.toNat < 2 ^ 8 := Nat.xor_lt_two_pow (by omega) (by omega)
  omega
/-- Bytes in a block. -/
def BytesIn (w : World) (g n : Nat) : Prop := ∃ cur, Blk w g 5 cur ∧ ∀ i, i < n → ∃ z : Int, cur[i]? = some (.int .u8 z)
theorem BytesIn.row {w : World} {g n c : Nat} (h : BytesIn w g n) (hn : n ≤ c) : ∃ l : List Int, l.length = n ∧ RowAt w (.slice (some ⟨g, 0, none⟩) n c) l := by
  obtain ⟨cur, hb, hc⟩ := h
  obtain ⟨f, hf⟩ := Go.Deep.choose_lt hc
  refine ⟨(List.range n).map f, by simp, .inr (.inr ⟨g, 0, c, by simp, by simpa using hn, fun i hi => ?_⟩)⟩
  have hi' : i < n := by simpa using hi
  rw [Nat.zero_add, hb.cell, hf i hi']
  simp [List.getD_eq_getElem?_getD, hi']
/-- Hashes in a block. -/
def HashesIn (w : World) (g n : Nat) : Prop := ∃ cur, Blk w g 23 cur ∧ ∀ i, i < n → ∃ y : Hs, ∀ j, j < 32 → cur[i * 32 + j]? = some (.int .u8 (y.f j))
theorem HashesIn.row {w : World} {g n c : Nat} (h : HashesIn w g n) (hn : n ≤ c) : ∃ L : List Hs, L.length = n ∧ HRow w (.slice (some ⟨g, 0, none⟩) n c) L := by
  obtain ⟨cur, hb, hc⟩ := h
  obtain ⟨f, hf⟩ := Go.Deep.choose_lt hc
  refine ⟨(List.range n).map f, by simp, HRow.mk (by simp) hn (rangeAt_of_elems fun i hi => ?_)⟩
  have hi' : i < n := by simpa using hi
  intro j v hv
  have hj : j < 32 := by have := (List.getElem?_eq_some_iff.1 hv).1; rwa [encH_len] at this
  rw [encH_get _ _ hj] at hv
  rw [Nat.zero_add, hb.cell, hf i hi' j hj]
  simpa using hv
theorem HashesIn.set {w : World} {g n t : Nat} (h : HashesIn w g n) (ht : t < n) (z : Int) (hz : 0 ≤ z ∧ z < 256) : HashesIn (w.setCell ⟨g, t * 32, none⟩ (.int .u8 z)) g n := by
  obtain ⟨cur, hb, hc⟩ := h
  refine ⟨_, hb.set (t * 32) (.int .u8 z), fun i hi => ?_⟩
  obtain ⟨y, hy⟩ := hc i hi
  by_cases e : i = t
  · subst e
    refine ⟨Hs.mk' (fun j => if j = 0 then z else y.f j) (fun j hj => by
      split
      · exact hz
      · exact y.bnd j hj), fun j hj => ?_⟩
    rw [Hs.mk'_f _ _ _ hj, Array.getElem?_setIfInBounds]
    by_cases e0 : j = 0
    · subst e0
      have h0 := hy 0 (by omega)
      have hlt : i * 32 + 0 < cur.size := (Array.getElem?_eq_some_iff.1 h0).1
      rw [if_pos rfl, if_pos (by omega), if_pos (by omega)]
    · rw [if_neg (by omega), if_neg e0]; exact hy j hj
  · exact ⟨y, fun j hj => by rw [Array.getElem?_setIfInBounds, if_neg (by omega)]; exact hy j hj⟩
theorem HashesIn.at {w : World} {g n t : Nat} (h : HashesIn w g n) (ht : t < n) : ∃ z : Int, w.cell? ⟨g, t * 32, none⟩ = some (.int .u8 z) ∧ w.frozen? ⟨g, t * 32, none⟩ = false ∧ 0 ≤ z ∧ z < 256 := by
  obtain ⟨cur, hb, hc⟩ := h
  obtain ⟨y, hy⟩ := hc t ht
  have h0 := hy 0 (by omega)
  exact ⟨y.f 0, by rw [hb.cell]; exact h0, hb.frozen _, y.bnd 0 (by omega)⟩
theorem BytesIn.set {w : World} {g n t : Nat} (h : BytesIn w g n) (z : Int) : BytesIn (w.setCell ⟨g, t, none⟩ (.int .u8 z)) g n := by
  obtain ⟨cur, hb, hc⟩ := h
  refine ⟨_, hb.set t (.int .u8 z), fun i hi => ?_⟩
  obtain ⟨y, hy⟩ := hc i hi
  rw [Array.getElem?_setIfInBounds]
  by_cases e : t = i
  · subst e
    exact ⟨z, by rw [if_pos rfl, if_pos (Array.getElem?_eq_some_iff.1 hy).1]⟩
  · exact ⟨y, by rw [if_neg e]; exact hy⟩
theorem BytesIn.at {w : World} {g n t : Nat} (h : BytesIn w g n) (ht : t < n) : ∃ z : Int, w.cell? ⟨g, t, none⟩ = some (.int .u8 z) ∧ w.frozen? ⟨g, t, none⟩ = false := by
  obtain ⟨cur, hb, hc⟩ := h
  obtain ⟨z, hz⟩ := hc t ht
  exact ⟨z, by rw [hb.cell]; exact hz, hb.frozen _⟩
theorem BytesIn.below {w w' : World} {g n B : Nat} (h : BytesIn w g n) (hb : Below B w w') (hg : g < B) : BytesIn w' g n := by
  obtain ⟨cur, h1, h2⟩ := h
  exact ⟨cur, h1.below hb hg, h2⟩
theorem HashesIn.below {w w' : World} {g n B : Nat} (h : HashesIn w g n) (hb : Below B w w') (hg : g < B) : HashesIn w' g n := by
  obtain ⟨cur, h1, h2⟩ := h
  exact ⟨cur, h1.below hb hg, h2⟩
theorem HashesIn.grown {w w' : World} {g n : Nat} {S : Nat → Prop} (h : HashesIn w g n) (hg : Grown w w' S) (hs : ¬ S g) : HashesIn w' g n := by
  obtain ⟨cur, h1, h2⟩ := h
  exact ⟨cur, hg.blk h1 hs, h2⟩
theorem BytesIn.grown {w w' : World} {g n : Nat} {S : Nat → Prop} (h : BytesIn w g n) (hg : Grown w w' S) (hs : ¬ S g) : BytesIn w' g n := by
  obtain ⟨cur, h1, h2⟩ := h
  exact ⟨cur, hg.blk h1 hs, h2⟩
end Go.Proofs.Ytbbhjgflaiacaaa
