import Derived.Test.YtbkboebinhafhaaInD
namespace Go.Proofs.Ytbkboebinhafhaa
open Go.RowKit

theorem results_cell_row2 {P : Program} {fn : Func} {p u : Tmp} {ty : TypeId} (h : fn.results = #[.cell p ty, .tmp u]) (tmps : Array Value) (w : World) (g : Nat) (t : TypeId) (cs : Array Value) (fr : Nat × Nat) (d : TypeDesc) (y : Value)
    (hp : tmps.getD p undef = .pointer (some ⟨g, 0, none⟩)) (hy : tmps.getD u undef = y) (hg : w.heap[g]? = some (.cells cs t fr))
    (hu : P.underlying ty = some d) (hd : (match d with | .struct _ | .array _ _ => true | _ => false) = true) (hi : (P.info? ty).map (·.size) = some cs.size) :
    (results fn tmps).run P w = .ok (.tuple #[.agg cs, y]) w := by
  rw [results_cell_tmp h, hp, hy]
  simp [asAddr, Result.andThen, run_loadVar_row w g t ty cs fr d hg hu hd hi]

/-- copy of a text over a whole array. -/
theorem run_copyS (w : World) (g : Nat) (T ty : TypeId) (st : ByteArray) (n : Nat) (cur : Array Value) (hg : Blk w g T cur) (hs : cur.size = n) (hn : st.size = n ∨ st.size = 0) :
    (Builtin.copy_ #[36, 9] ty #[.slice (some ⟨g, 0, none⟩) n n, .string st]).run Try.prog w = .ok (goInt st.size) (w.setRow g ((bv (lst st)) ++ cur.toList.drop st.size).toArray) := by
  have hst := run_storeCells_at Try.prog g 0 T (bv (lst st)) 0 cur w hg (by rw [bv_len, lst_len]; omega) (bv_one _)
  have hcur : (cur.toList.take (0 + 0) ++ bv (lst st) ++ cur.toList.drop (0 + 0 + (bv (lst st)).length)).toArray = ((bv (lst st)) ++ cur.toList.drop st.size).toArray := by
    rw [bv_len, lst_len]; simp
  rw [hcur] at hst
  obtain ⟨i, hi, hzz⟩ := Option.map_eq_some_iff.1 Try.info5
  simp only [Prod.mk.injEq] at hzz
  obtain ⟨_, hsz, _⟩ := hzz
  have hf := Lib.run_firstCells_string (P := Try.prog) w 1 st
  rw [lst_cells] at hf
  have hmin : Nat.min st.size n = st.size := by rcases hn with h | h <;> simp [h]
  simp [Builtin.copy_, run_underlying Try.underlying36, Builtin.lenOf, sizeOf, typeInfo, hi, hsz, hmin, hf, hst]

/-- A hash read. -/
def hrd (D : List Int) (W : Int) : Nat → Int := fun i => if W = 0 then D.getD i 0 else 0
theorem bytesA_of (l : List Int) (n : Nat) (h : l.length = n) : (bv l).toArray = bytesA n (fun i => l.getD i 0) := by
  apply Array.ext_getElem?
  intro i
  by_cases hi : i < n
  · rw [bytesA_get _ _ _ hi, List.getElem?_toArray, bv_get l i (by omega)]
  · rw [Array.getElem?_eq_none (by rw [List.size_toArray, bv_len]; omega), Array.getElem?_eq_none (by rw [bytesA_size]; omega)]
theorem copied (st : ByteArray) (D : List Int) (W : Int) (h : (W = 0 ∧ lst st = D.take 32 ∧ 32 ≤ D.length) ∨ (W ≠ 0 ∧ st.size = 0)) : ((bv (lst st)) ++ (bytesA 32 fun _ => 0).toList.drop st.size).toArray = bytesA 32 (hrd D W) := by
  rcases h with ⟨h0, h1, h2⟩ | ⟨h0, h1⟩
  · have hs : st.size = 32 := by rw [← lst_len, h1, List.length_take]; omega
    rw [hs, List.drop_of_length_le (by simp [bytesA_size]), List.append_nil, h1, bytesA_of _ 32 (by rw [List.length_take]; omega)]
    exact bytesA_congr fun i hi => by simp [hrd, h0, List.getD_eq_getElem?_getD, hi]
  · have hl : lst st = [] := List.eq_nil_of_length_eq_zero (by rw [lst_len]; exact h1)
    rw [hl, h1]
    simp only [bv, List.map_nil, List.nil_append, List.drop_zero, Array.toArray_toList]
    exact bytesA_congr fun i hi => by simp [hrd, h0]

/-- A call of a reader that tells a hash. -/
def RdPostH (p : Nat) (s : ByteArray) (why : Int) (a : Nat) (c : Nat → Int) (w : World) (e : Ending) (w' : World) : Prop := RdPost p s why a (.agg (bytesA 32 c)) w e w'

set_option maxRecDepth 8000 in
set_option maxHeartbeats 1000000 in
theorem ihash_good (p : Nat) (s : ByteArray) (a : Nat) (w : World) (h : InAt w p s a none) (hb : s.size ≤ 140737488355328) (D : List Int) (hD : D = (lst s).drop a) (W : Int) (hW : W = nextW D 32) (N : Nat) (hN : N = nextN D 32) :
    Calls Try.prog 86 #[ptr p] w (RdPost p s W (a + N) (.agg (bytesA 32 (hrd D W))) w) := by
  have HI := Keep.mk h
  have HL := Keep.mk h.le
  have HLD : Keep (D.length = s.size - a) := ⟨by rw [hD, List.length_drop, lst_len]⟩
  have HS := Keep.mk hb
  have HDD := Keep.mk hD
  have HW := Keep.mk hW
  have HN := Keep.mk hN
  have Hp := Keep.mk h.blk.lt
  have HR := Keep.mk (show Blk ((w.alloc (.cells (bytesA 32 fun _ => 0) 29)).alloc (.cells (bytesA 32 fun _ => 0) 29)) w.heap.size 29 (bytesA 32 fun _ => 0) from (Blk.new w 29 _).alloc _)
  have HH : Keep (Blk ((w.alloc (.cells (bytesA 32 fun _ => 0) 29)).alloc (.cells (bytesA 32 fun _ => 0) 29)) (w.heap.size + 1) 29 (bytesA 32 fun _ => 0)) := ⟨by
    have h := Blk.new (w.alloc (.cells (bytesA 32 fun _ => 0) 29)) 29 (bytesA 32 fun _ => 0)
    simp only [World.size_alloc] at h
    exact h⟩
  have HB : Keep (Below w.heap.size w ((w.alloc (.cells (bytesA 32 fun _ => 0) 29)).alloc (.cells (bytesA 32 fun _ => 0) 29))) := ⟨((Below.refl _ _).alloc (Nat.le_refl _) _).alloc (by simp) _⟩
  have HZ : Keep (((w.alloc (.cells (bytesA 32 fun _ => 0) 29)).alloc (.cells (bytesA 32 fun _ => 0) 29)).heap.size = w.heap.size + 2) := ⟨by simp⟩
  clear h hb hD hW hN
  go_enter Try.func86, Try.ntmps86
  go_wp2_with (first | (refine wpList_new rfl 29 rfl _ Try.new29 ?_))
  generalize (w.alloc (.cells (bytesA 32 fun _ => 0) 29)).alloc (.cells (bytesA 32 fun _ => 0) 29) = w0 at *
  have hI0 : InAt w0 p s a none := ⟨HI.out.blk.below HB.out HI.out.blk.lt, HI.out.le⟩
  have hc := inext_good p s a 32 w0 hI0 HS.out (by decide) (by decide)
  rw [← HDD.out, ← HW.out, ← HN.out] at hc
  refine hc.mono ?_
  rintro e w1 ⟨bad, er, rfl, h1, h2, h3⟩
  have hR1 := h2.blk HR.out (fun e => by have := Hp.out; omega)
  have hH1 := h2.blk HH.out (fun e => by have := Hp.out; omega)
  have hcp : (W = 0 ∧ lst (s.extract a (a + N)) = D.take 32 ∧ 32 ≤ D.length) ∨ (W ≠ 0 ∧ (s.extract a (a + N)).size = 0) := by
    by_cases h0 : W = 0
    · have hx := nextN_0 D 32 (by rw [← HW.out]; exact h0)
      have hN32 : N = 32 := by rw [HN.out, hx.1]; rfl
      exact .inl ⟨h0, by rw [lst_extract, ← HDD.out, hN32, show a + 32 - a = 32 by omega], hx.2.2⟩
    · have hN0 : N = 0 := by rw [HN.out, nextN_1 D 32 (by rw [← HW.out]; exact h0)]
      exact .inr ⟨h0, by rw [hN0, ← lst_len, lst_extract]; simp⟩
  have hcs := run_copyS w1 (w.heap.size + 1) 29 3 (s.extract a (a + N)) 32 _ hH1 (bytesA_size _ _) (by
    rcases hcp with ⟨_, h4, h5⟩ | ⟨_, h4⟩
    · left; rw [← lst_len, h4, List.length_take]; omega
    · exact .inr h4)
  rw [copied _ D W hcp] at hcs
  have hH2 := hH1.setRow (bytesA 32 (hrd D W))
  have hR2 := hR1.setRow_ne (b' := w.heap.size + 1) (by omega) (bytesA 32 (hrd D W))
  have hI2 : InAt (w1.setRow (w.heap.size + 1) (bytesA 32 (hrd D W))) p s (a + N) bad := ⟨h1.blk.setRow_ne (by have := Hp.out; omega) _, h1.le⟩
  have hG0 : Grown w w1 (fun k => k = p) := (Grown.below HB.out).next h2 fun _ _ h => h
  have HE := Keep.mk h3
  have HI1 := Keep.mk h1
  have HG0 := Keep.mk hG0
  have HI2 := Keep.mk hI2
  obtain ⟨c, hcd⟩ : ∃ c, Keep (c = hrd D W) := ⟨_, ⟨rfl⟩⟩
  rw [← hcd.out] at hcs hH2 hR2 HI2
  rw [← hcd.out]
  have HH2 := Keep.mk hH2
  have HR2 := Keep.mk hR2
  obtain ⟨z, hz⟩ : ∃ z, Keep (z = goInt (s.extract a (a + N)).size) := ⟨_, ⟨rfl⟩⟩
  rw [← hz.out] at hcs
  clear hc hI0 h1 h2 h3 hR1 hH1 hcp hH2 hR2 hI2 hG0 hz HN HDD HW
  generalize s.extract a (a + N) = st at *
  obtain ⟨w2, hw2⟩ : ∃ w2, Keep (w2 = w1.setRow (w.heap.size + 1) (bytesA 32 c)) := ⟨_, ⟨rfl⟩⟩
  rw [← hw2.out] at hcs HH2 HR2 HI2
  go_wp2_with (first | (refine wpList_load_row rfl 29 (.tmp 4) rfl (w.heap.size + 1) rfl 29 (bytesA 32 c) (0, 0) (.array 32 5) HH2.out Try.underlying29 rfl (Try.size29B _) ?_) | (refine wpList_store_row rfl 29 (.tmp 2) (.tmp 15) rfl w.heap.size (bytesA 32 c) rfl rfl 29 (bytesA 32 fun _ => 0) HR2.out (Try.size29B _) (bytesA_sizes _ _ _) (bytesA_one _ _) ?_))
  refine bodyPost_ret (v := .tuple #[.agg (bytesA 32 c), er]) (results_cell_row2 Try.results86 _ _ w.heap.size 29 _ (0, 0) _ _ rfl rfl (HR2.out.setRow _) Try.underlying29 rfl (Try.size29B _)) rfl ?_
  have hp := Hp.out
  have hz := HZ.out
  refine ⟨bad, er, by rw [hcd.out], ⟨HI2.out.blk.setRow_ne (by omega) _, HI2.out.le⟩, ?_, ?_⟩
  · rw [hw2.out]
    exact (HG0.out.next (Grown.setRow w1 (w.heap.size + 1) _ (S := fun k => k = w.heap.size + 1) fun _ => rfl) fun i hi e => by omega).next (Grown.setRow _ w.heap.size _ (S := fun k => k = w.heap.size) fun _ => rfl) fun i hi e => by omega
  · rcases HE.out with h6 | ⟨h6, q, h7, h8, h9, h10⟩
    · exact .inl h6
    · refine .inr ⟨h6, q, by omega, h8, h9, ?_⟩
      rw [hw2.out]
      exact (h10.setRow_ne (by omega) _).setRow_ne (by omega) _

set_option maxRecDepth 8000 in
set_option maxHeartbeats 1000000 in
theorem ihash_bad (p : Nat) (s : ByteArray) (a q : Nat) (w : World) (h : InAt w p s a (some q)) :
    Calls Try.prog 86 #[ptr p] w (StuckPost q (.agg (bytesA 32 fun _ => 0)) w) := by
  have HI := Keep.mk h
  have Hp := Keep.mk h.blk.lt
  have HR := Keep.mk (show Blk ((w.alloc (.cells (bytesA 32 fun _ => 0) 29)).alloc (.cells (bytesA 32 fun _ => 0) 29)) w.heap.size 29 (bytesA 32 fun _ => 0) from (Blk.new w 29 _).alloc _)
  have HH : Keep (Blk ((w.alloc (.cells (bytesA 32 fun _ => 0) 29)).alloc (.cells (bytesA 32 fun _ => 0) 29)) (w.heap.size + 1) 29 (bytesA 32 fun _ => 0)) := ⟨by
    have h := Blk.new (w.alloc (.cells (bytesA 32 fun _ => 0) 29)) 29 (bytesA 32 fun _ => 0)
    simp only [World.size_alloc] at h
    exact h⟩
  have HB : Keep (Below w.heap.size w ((w.alloc (.cells (bytesA 32 fun _ => 0) 29)).alloc (.cells (bytesA 32 fun _ => 0) 29))) := ⟨((Below.refl _ _).alloc (Nat.le_refl _) _).alloc (by simp) _⟩
  clear h
  go_enter Try.func86, Try.ntmps86
  go_wp2_with (first | (refine wpList_new rfl 29 rfl _ Try.new29 ?_))
  generalize (w.alloc (.cells (bytesA 32 fun _ => 0) 29)).alloc (.cells (bytesA 32 fun _ => 0) 29) = w0 at *
  have hI0 : InAt w0 p s a (some q) := stuck_in HI.out HB.out
  refine (inext_bad p s a q (.int .i64 32) w0 hI0).mono ?_
  rintro e w1 ⟨rfl, h2⟩
  have hR1 := HR.out.below h2 HR.out.lt
  have hH1 := HH.out.below h2 HH.out.lt
  have hcs := run_copyS w1 (w.heap.size + 1) 29 3 ByteArray.empty 32 _ hH1 (bytesA_size _ _) (.inr rfl)
  rw [copied ByteArray.empty [] 1 (.inr ⟨by decide, rfl⟩), show hrd [] 1 = fun _ => 0 from funext fun i => by simp [hrd]] at hcs
  have hH2 := hH1.setRow (bytesA 32 fun _ => 0)
  have hR2 := hR1.setRow_ne (b' := w.heap.size + 1) (by omega) (bytesA 32 fun _ => 0)
  have HB1 := Keep.mk (HB.out.trans (h2.mono HB.out.size))
  obtain ⟨c, hcd⟩ : ∃ c : Nat → Int, Keep (c = fun _ => 0) := ⟨_, ⟨rfl⟩⟩
  rw [← hcd.out] at hcs hH2 hR2
  have HH2 := Keep.mk hH2
  have HR2 := Keep.mk hR2
  clear hI0 h2 hR1 hH1 hH2 hR2
  obtain ⟨w2, hw2⟩ : ∃ w2, Keep (w2 = w1.setRow (w.heap.size + 1) (bytesA 32 c)) := ⟨_, ⟨rfl⟩⟩
  rw [← hw2.out] at hcs HH2 HR2
  obtain ⟨z, hz⟩ : ∃ z, Keep (z = goInt ByteArray.empty.size) := ⟨_, ⟨rfl⟩⟩
  rw [← hz.out] at hcs
  unfold err
  go_wp2_with (first | (refine wpList_load_row rfl 29 (.tmp 4) rfl (w.heap.size + 1) rfl 29 (bytesA 32 c) (0, 0) (.array 32 5) HH2.out Try.underlying29 rfl (Try.size29B _) ?_) | (refine wpList_store_row rfl 29 (.tmp 2) (.tmp 15) rfl w.heap.size (bytesA 32 c) rfl rfl 29 (bytesA 32 c) HR2.out (Try.size29B _) (bytesA_sizes _ _ _) (bytesA_one _ _) ?_))
  refine bodyPost_ret (v := .tuple #[.agg (bytesA 32 c), err q]) (results_cell_row2 Try.results86 _ _ w.heap.size 29 _ (0, 0) _ _ rfl rfl (HR2.out.setRow _) Try.underlying29 rfl (Try.size29B _)) rfl ?_
  refine ⟨by rw [hcd.out], ?_⟩
  rw [hw2.out]
  exact below_setRow (below_setRow HB1.out (by omega) _) (Nat.le_refl _) _

set_option maxRecDepth 8000 in
set_option maxHeartbeats 1000000 in
theorem newIn_any (v : Value) (l : List Int) (w : World) (hr : RowAt w v l) :
    Calls Try.prog 22 #[v] w fun e w' => e = .returned (ptr w.heap.size) ∧ w' = w.alloc (.cells #[.string (strOfNums l), .int .i64 0, .pointer none] 90) := by
  have hc := conv_row v l w hr
  clear hr
  go_enter Try.func22, Try.ntmps22
  go_wp2
  go_ret
  exact ⟨rfl, rfl⟩
theorem inAt_new (w : World) (s : ByteArray) : InAt (w.alloc (.cells #[.string s, .int .i64 0, .pointer none] 90)) w.heap.size s 0 none := ⟨Blk.new _ _ _, Nat.zero_le _⟩
end Go.Proofs.Ytbkboebinhafhaa
