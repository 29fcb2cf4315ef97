import Derived.Test.YtjklmkeedhgncaaA05
import Derived.Deep.RegionHeld3
import Derived.Shelf.Small.Bits
import Derived.Shelf.Strconv.Itoa0
import Derived.Test.YtjklmkeedhgncaaProg
import Derived.Lib.ItoaNum
import Derived.Laws.EntriesVeiled
namespace Go.Proofs.Ytjklmkeedhgncaa
open Go.RowKit
set_option linter.unusedSimpArgs false
set_option linter.unusedVariables false
theorem Try.in25 (w : World) (vs : Array Value) : (callFunc 25 vs).run Try.prog w = .ok (.enter 25 vs) w := by kernel_rfl
theorem bsRw2 (a : Option Addr) (n c : Nat) (a' : Option Addr) (n' c' : Nat) (w : World) : (Instr.buildSlice 59 2 #[(0, .slice a n c), (1, .slice a' n' c')]).run Try.prog w = .ok (.slice (some ⟨w.heap.size, 0, none⟩) 2 2) (w.alloc (.cells #[.slice a n c, .slice a' n' c'] 38)) := by kernel_rfl
theorem RsV.two {w : World} {g : Nat} {u x : Value} {l m : List Int} (hg : Blk w g 38 #[u, x]) (hu : RowAt w u l) (hx : RowAt w x m) : RsV w (.slice (some ⟨g, 0, none⟩) 2 2) [u, x] [l, m] := by
 refine ⟨rfl, fun j a b ha hb => ?_, .inr ⟨g, 2, rfl, fun j a ha => ?_⟩⟩
 ·match j with
  | 0 => simp at ha hb; subst ha hb; exact hu
  | 1 => simp at ha hb; subst ha hb; exact hx
  | j + 2 => simp at ha
 ·rw [hg.cell]
  match j with
  | 0 => simpa using ha
  | 1 => simpa using ha
  | j + 2 => simp at ha
theorem RsV.one {w : World} {g : Nat} {u : Value} {l : List Int} (hg : Blk w g 38 #[u]) (hu : RowAt w u l) : RsV w (.slice (some ⟨g, 0, none⟩) 1 1) [u] [l] := by
 refine ⟨rfl, fun j a b ha hb => ?_, .inr ⟨g, 1, rfl, fun j a ha => ?_⟩⟩
 ·match j with
  | 0 => simp at ha hb; subst ha hb; exact hu
  | j + 1 => simp at ha
 ·rw [hg.cell]
  match j with
  | 0 => simpa using ha
  | j + 1 => simp at ha
set_option maxRecDepth 8000 in
theorem pinner_any (a b : Nat → Int) (w : World) : Calls Try.prog 51 #[.agg (bytesA 32 a), .agg (bytesA 32 b)] w fun e w' => e = .returned (.agg (bytesA 32 (shaP (RtP.innR (hl 32 a) (hl 32 b))))) ∧ Below w.heap.size w w' := by
 obtain ⟨hh, hhe⟩ : ∃ z : Array Value, Keep (z = (bytesA 32 (shaP (RtP.innR (hl 32 a) (hl 32 b))))) := ⟨_, ⟨rfl⟩⟩
 go_enter Try.func51, Try.ntmps51
 refine wp_seq_k fun K1 hK1 => rgn ?_
 refine WL.box (by kernel_rfl) 25 (.tmp 0) rfl (bytesA 32 a) rfl ?_
 have C1 := Keep.mk (Blk.new w 25 (bytesA 32 a))
 have b1 := Keep.mk (below_new w (.cells (bytesA 32 a) 25))
 change WL _ _ _ _ _ (w.alloc (.cells (bytesA 32 a) 25))
 generalize w.alloc (.cells (bytesA 32 a) 25) = w1 at *
 obtain ⟨c, hc0⟩ : ∃ z, Keep (z = w.heap.size) := ⟨_, ⟨rfl⟩⟩
 rw [← hc0.out] at C1 ⊢
 simp only [Act.put, pqA, pqB, pqC]
 refine WL.box (by kernel_rfl) 25 (.tmp 1) rfl (bytesA 32 b) rfl ?_
 have D2 := Keep.mk (Blk.new w1 25 (bytesA 32 b))
 have b2 := Keep.mk (below_new w1 (.cells (bytesA 32 b) 25))
 change WL _ _ _ _ _ (w1.alloc (.cells (bytesA 32 b) 25))
 generalize w1.alloc (.cells (bytesA 32 b) 25) = w2 at *
 obtain ⟨d, hd0⟩ : ∃ z, Keep (z = w1.heap.size) := ⟨_, ⟨rfl⟩⟩
 rw [← hd0.out] at D2 ⊢
 have C2 := Keep.mk (C1.out.below b2.out C1.out.lt)
 have B2 : Keep (Below w.heap.size w w2) := ⟨b1.out.trans (b2.out.mono b1.out.size)⟩
 clear C1 b1 b2 hc0 hd0
 simp only [Act.put, pqA, pqB, pqC]
 refine WL.new (by kernel_rfl) 25 rfl _ Try.new25 ?_
 have R3 := Keep.mk (Blk.new w2 25 (bytesA 32 fun _ => 0))
 have b3 := Keep.mk (below_new w2 (.cells (bytesA 32 fun _ => 0) 25))
 change WL _ _ _ _ _ (w2.alloc (.cells (bytesA 32 fun _ => 0) 25))
 generalize w2.alloc (.cells (bytesA 32 fun _ => 0) 25) = w3 at *
 obtain ⟨r, hr0⟩ : ∃ z, Keep (z = w2.heap.size) := ⟨_, ⟨rfl⟩⟩
 rw [← hr0.out] at R3 ⊢
 have C3 := Keep.mk (C2.out.below b3.out C2.out.lt)
 have D3 := Keep.mk (D2.out.below b3.out D2.out.lt)
 have B3 : Keep (Below w.heap.size w w3) := ⟨B2.out.trans (b3.out.mono B2.out.size)⟩
 have hrw : Keep (w.heap.size ≤ r) := ⟨by rw [hr0.out]; exact B2.out.size⟩
 clear C2 D2 b3 hr0 B2
 simp only [Act.put, pqA, pqB, pqC]
 refine WL.nil (hK1 _ _ ?_)
 refine wp_seq_k fun K2 hK2 => ?_
 have Cd : Keep (Blk w3.drew c _ _) := ⟨C3.out⟩
 have Dd : Keep (Blk w3.drew d _ _) := ⟨D3.out⟩
 have Rd : Keep (Blk w3.drew r _ _) := ⟨R3.out⟩
 have Bd : Keep (Below w.heap.size w w3.drew) := ⟨B3.out.drew⟩
 clear C3 D3 R3 B3
 refine wp_region_held_drew (S := fun _ => True) (by kernel_rfl) (trivial) (fun hHeld => ?_)
 refine TkG (i := 0) (oi := ⟨some 5, Op.slice 25 (Operand.tmp 2) none none none, 38, _, _, none⟩) (v := .slice (some ⟨c, 0, none⟩) 32 32) rfl hHeld ?_
 refine TkG (i := 1) (oi := ⟨some 6, Op.slice 25 (Operand.tmp 3) none none none, 38, _, _, none⟩) (v := .slice (some ⟨d, 0, none⟩) 32 32) rfl hHeld ?_
 refine wpAnyH_ready (rs := [2]) (by kernel_rfl) (by simp) ?_
 refine AllReadyH.cons (o := ⟨some 7, Op.buildSlice 59 2 #[(0, Operand.tmp 5), (1, Operand.tmp 6)], 59, _, _, none⟩) rfl (fun K hK => ?_) AllReadyH.nil
 rw [if_pos (by rfl)]
 refine wp_bs 59 2 _ rfl #[(0, .slice (some ⟨c, 0, none⟩) 32 32), (1, .slice (some ⟨d, 0, none⟩) 32 32)] (by simp [Act.eval]) _ _ (bsRw2 _ _ _ _ _ _ _) ?_
 have b4 := Keep.mk (below_new w3.drew (.cells #[.slice (some ⟨c, 0, none⟩) 32 32, .slice (some ⟨d, 0, none⟩) 32 32] 38))
 have Q4 := Keep.mk (Blk.new w3.drew 38 #[.slice (some ⟨c, 0, none⟩) 32 32, .slice (some ⟨d, 0, none⟩) 32 32])
 generalize w3.drew.alloc (.cells #[.slice (some ⟨c, 0, none⟩) 32 32, .slice (some ⟨d, 0, none⟩) 32 32] 38) = w4 at *
 obtain ⟨g, hg⟩ : ∃ z, Keep (z = w3.drew.heap.size) := ⟨_, ⟨rfl⟩⟩
 rw [← hg.out] at Q4 ⊢
 have X4 : Keep (RsV w4 (.slice (some ⟨g, 0, none⟩) 2 2) [.slice (some ⟨c, 0, none⟩) 32 32, .slice (some ⟨d, 0, none⟩) 32 32] [hl 32 a, hl 32 b]) := ⟨RsV.two Q4.out ((row_arr Cd.out).below b4.out) ((row_arr Dd.out).below b4.out)⟩
 have R4 := Keep.mk (Rd.out.below b4.out Rd.out.lt)
 have B4 : Keep (Below w.heap.size w w4) := ⟨Bd.out.trans (b4.out.mono Bd.out.size)⟩
 clear Cd Dd Rd Bd b4 Q4
 refine hK _ _ trivial fun hH1 => ?_
 clear hK
 simp only [Act.put, pqA, pqB, pqC]
 refine wpAnyH_ready (rs := [3]) (by kernel_rfl) (by simp) ?_
 refine AllReadyH.cons (o := ⟨some 8, Op.call { callee := Callee.value (Operand.func 47), args := #[Operand.const (Value.int IntKind.u8 1), Operand.tmp 7], argTypes := #[5, 59] }, 25, _, _, none⟩) rfl (fun K hK => ?_) AllReadyH.nil
 rw [if_pos (by rfl)]
 refine wp_callF 47 _ _ rfl Try.in47 #[.int .u8 1, .slice (some ⟨g, 0, none⟩) 2 2] (by simp [Act.eval]) (fun vz wz => vz = .agg hh ∧ Below w4.heap.size w4 wz) ?_ ?_
 ·refine (phash_any 1 _ _ _ w4 X4.out (by simp) (by simp [hl_len])).mono ?_
  rintro e wz ⟨rfl, k1⟩
  exact ⟨_, rfl, by rw [hhe.out]; simp [RtP.innR], k1⟩
 rintro vz w8 ⟨rfl, k1⟩
 have R8 := Keep.mk (R4.out.below k1 R4.out.lt)
 have B8 : Keep (Below w.heap.size w w8) := ⟨B4.out.trans (k1.mono B4.out.size)⟩
 clear k1 X4 R4 B4
 refine hK _ _ (trivial) fun hH2 => ?_
 clear hK
 simp only [Act.put, pqA, pqB, pqC]
 refine wpAnyH_ready (rs := [4]) (by kernel_rfl) (by simp) ?_
 refine AllReadyH.cons (o := ⟨none, Op.store 25 (Operand.tmp 4) (Operand.tmp 8), 0, _, _, none⟩) rfl (fun K hK => ?_) AllReadyH.nil
 rw [if_pos (by rfl)]
 refine wp_store_row 25 (.tmp 4) (.tmp 8) rfl r hh rfl rfl 25 (bytesA 32 fun _ => 0) R8.out (by rw [hhe.out]; exact Try.size25B _) (by rw [hhe.out]; exact bytesA_sizes _ _ _) (by rw [hhe.out]; exact bytesA_one _ _) ?_
 have R9 := Keep.mk (R8.out.setRow hh)
 have B9 : Keep (Below w.heap.size w (w8.setRow r hh)) := ⟨below_setRow B8.out hrw.out _⟩
 generalize w8.setRow r hh = w9 at *
 refine hK _ _ trivial fun hH3 => ?_
 clear hK
 simp only [Act.put, pqA, pqB, pqC]
 refine wpAnyH_done (by kernel_rfl) ?_ _
 refine hK2 _ _ ?_
 refine wp_ret ?_
 try simp only [Exit.inBlock, Exit.then]
 refine bodyPost_ret (v := .agg hh) (results_cell_row Try.results51 _ _ r 25 _ (0, 0) _ rfl R9.out Try.underlying25 rfl (by rw [hhe.out]; exact Try.size25B _)) rfl ⟨by rw [hhe.out], B9.out⟩
structure OO (w0 w : World) (p : Nat) (v : Value) (l : List Int) : Prop where
 out : OutAt w p v l
 nw : ∀ k, OF p v k → w0.heap.size ≤ k
 bel : Below w0.heap.size w0 w
theorem OO.start (w : World) : OO w (w.alloc (.cells #[.slice none 0 0] 130)) w.heap.size (.slice none 0 0) [] :=
 ⟨outAt_new w, fun k hk => (hk.elim (fun e => by omega) fun e => by simp [Value.ownBlock] at e), below_new w _⟩
theorem OO.lay {w0 w w' : World} {p : Nat} {v : Value} {l m : List Int} {e : Ending} (h : OO w0 w p v l) (hp : OutPost p v m w e w') : ∃ v', OO w0 w' p v' m := by
 obtain ⟨_, v', h1, h2, h3⟩ := hp
 refine ⟨v', h1, fun k hk => ?_, ?_⟩
 ·rcases hk with e | e
  ·exact h.nw k (.inl e)
  ·rcases h2 with e' | ⟨j, e', hj⟩
   ·rw [e'] at e; exact h.nw k (.inr e)
   ·rw [e'] at e; injection e with e; have := h.bel.size; omega
 ·exact h.bel.trans (h3.to_below (fun k hk e => by have := h.nw k e; omega) h.bel.size)
set_option maxRecDepth 8000 in
theorem pleaf_any (k : Nat) (s : ByteArray) (vv : Value) (v : List Int) (w : World) (hV : RowAt w vv v) (hKd : k < 9223372036854775808) (hS : s.size + v.length ≤ 140737488350000) :
  Calls Try.prog 49 #[.agg #[.int .i64 (k : Int), .string s, vv]] w fun e w' => e = .returned (.agg (bytesA 32 (shaP (RtP.leafR numL ⟨k, lst s, v⟩)))) ∧ Below w.heap.size w w' := by
 obtain ⟨va, vc, rfl⟩ := row_form hV
 have HV := Keep.mk hV
 have HKd := Keep.mk hKd
 have HS := Keep.mk hS
 have hkw : IntKind.u64.wrap (k : Int) = (k : Int) := by rw [IntKind.wrap_u64]; omega
 have hvw : IntKind.u64.wrap (v.length : Int) = (v.length : Int) := by rw [IntKind.wrap_u64]; omega
 clear hV hKd hS
 obtain ⟨hh, hhe⟩ : ∃ z : Array Value, Keep (z = (bytesA 32 (shaP (RtP.leafR numL ⟨k, lst s, v⟩)))) := ⟨_, ⟨rfl⟩⟩
 go_enter Try.func49, Try.ntmps49
 refine wp_seq_k fun K1 hK1 => rgn ?_
 refine WL.box (by kernel_rfl) 40 (.tmp 0) rfl #[.int .i64 (k : Int), .string s, .slice va v.length vc] rfl ?_
 have C1 := Keep.mk (Blk.new w 40 #[.int .i64 (k : Int), .string s, .slice va v.length vc])
 have b1 := Keep.mk (below_new w (.cells #[.int .i64 (k : Int), .string s, .slice va v.length vc] 40))
 change WL _ _ _ _ _ (w.alloc (.cells #[.int .i64 (k : Int), .string s, .slice va v.length vc] 40))
 generalize w.alloc (.cells #[.int .i64 (k : Int), .string s, .slice va v.length vc] 40) = w1 at *
 obtain ⟨c, hc0⟩ : ∃ z, Keep (z = w.heap.size) := ⟨_, ⟨rfl⟩⟩
 rw [← hc0.out] at C1 ⊢
 simp only [Act.put, pqA, pqB, pqC]
 refine WL.new (by kernel_rfl) 25 rfl _ Try.new25 ?_
 have R2 := Keep.mk (Blk.new w1 25 (bytesA 32 fun _ => 0))
 have b2 := Keep.mk (below_new w1 (.cells (bytesA 32 fun _ => 0) 25))
 change WL _ _ _ _ _ (w1.alloc (.cells (bytesA 32 fun _ => 0) 25))
 generalize w1.alloc (.cells (bytesA 32 fun _ => 0) 25) = w2 at *
 obtain ⟨r, hr0⟩ : ∃ z, Keep (z = w1.heap.size) := ⟨_, ⟨rfl⟩⟩
 rw [← hr0.out] at R2 ⊢
 have C2 := Keep.mk (C1.out.below b2.out C1.out.lt)
 have B2 : Keep (Below w.heap.size w w2) := ⟨b1.out.trans (b2.out.mono b1.out.size)⟩
 have hrw : Keep (w.heap.size ≤ r) := ⟨by rw [hr0.out]; exact b1.out.size⟩
 have V2 := Keep.mk (HV.out.below B2.out)
 clear C1 b1 b2 hr0 hc0
 simp only [Act.put, pqA, pqB, pqC]
 refine WL.nil (hK1 _ _ ?_)
 refine wp_seq_k fun K2 hK2 => rgn ?_
 refine WL.callF (by kernel_rfl) 69 _ _ rfl Try.in69 #[] (by simp) ?_
 refine (newOut_any w2).mono ?_
 rintro e w3 ⟨rfl, hw⟩
 refine ⟨_, rfl, ?_⟩
 have O3 : Keep (OO w2 w3 w2.heap.size (.slice none 0 0) []) := ⟨by rw [hw]; exact OO.start w2⟩
 clear hw
 obtain ⟨p, hp0⟩ : ∃ z, Keep (z = w2.heap.size) := ⟨_, ⟨rfl⟩⟩
 rw [← hp0.out] at O3
 change WL _ _ _ _ (Act.put _ _ (.pointer (some ⟨w2.heap.size, 0, none⟩))) w3
 rw [← hp0.out]
 have d0 := (C2.out.below O3.out.bel C2.out.lt).c 0 (by rfl : (#[.int .i64 (k : Int), .string s, .slice va v.length vc] : Array Value)[0]? = some (.int .i64 (k : Int)))
 simp only [Act.put, pqA, pqB, pqC]
 refine VlS (.pointer (some ⟨p, 0, none⟩)) ?_
 refine WL.nil (hK2 _ _ ?_)
 refine wp_seq_k fun K3 hK3 => rgn ?_
 refine VlS (.pointer (some ⟨p, 0, none⟩)) ?_
 refine VlS (.pointer (some ⟨c, 0, none⟩)) ?_
 refine VlS (.int .i64 (k : Int)) ?_
 refine VlS (.int .u64 (k : Int)) ?_
 clear d0
 refine WL.callF (by kernel_rfl) 70 _ _ rfl Try.in70 #[.pointer (some ⟨p, 0, none⟩), .int .u64 (k : Int)] (by simp [Act.eval]) ?_
 refine (onum_any p _ [] k w3 O3.out.out (by have := HKd.out; omega) (by have := numL_len k; have := numL_len (lst s).length; have := numL_len v.length; have := lst_len s; have := HS.out; simp; omega)).mono ?_
 rintro e w4 k1
 obtain ⟨v4, h4⟩ := O3.out.lay k1
 have O4 := Keep.mk h4
 refine ⟨_, k1.1, ?_⟩
 clear h4 k1 O3
 have d1 := (C2.out.below O4.out.bel C2.out.lt).c 1 (by rfl : (#[.int .i64 (k : Int), .string s, .slice va v.length vc] : Array Value)[1]? = some (.string s))
 simp only [Act.put, pqA, pqB, pqC]
 refine WL.nil (hK3 _ _ ?_)
 refine wp_seq_k fun K4 hK4 => rgn ?_
 refine VlS (.pointer (some ⟨p, 0, none⟩)) ?_
 refine VlS (.pointer (some ⟨c, 1, none⟩)) ?_
 refine VlS (.string s) ?_
 clear d1
 refine WL.callF (by kernel_rfl) 71 _ _ rfl Try.in71 #[.pointer (some ⟨p, 0, none⟩), .string s] (by simp [Act.eval]) ?_
 refine (otext_any p _ _ s w4 O4.out.out (by have := numL_len k; have := numL_len (lst s).length; have := numL_len v.length; have := lst_len s; have := HS.out; simp [bform]; omega)).mono ?_
 rintro e w5 k1
 obtain ⟨v5, h5⟩ := O4.out.lay k1
 have O5 := Keep.mk h5
 refine ⟨_, k1.1, ?_⟩
 clear h5 k1 O4
 have d2 := (C2.out.below O5.out.bel C2.out.lt).c 2 (by rfl : (#[.int .i64 (k : Int), .string s, .slice va v.length vc] : Array Value)[2]? = some (.slice va v.length vc))
 simp only [Act.put, pqA, pqB, pqC]
 refine WL.nil (hK4 _ _ ?_)
 refine wp_seq_k fun K5 hK5 => rgn ?_
 refine VlS (.pointer (some ⟨p, 0, none⟩)) ?_
 refine VlS (.pointer (some ⟨c, 2, none⟩)) ?_
 refine VlS (.slice va v.length vc) ?_
 refine VlS (.int .i64 (v.length : Int)) ?_
 refine VlS (.int .u64 (v.length : Int)) ?_
 clear d2
 refine WL.callF (by kernel_rfl) 70 _ _ rfl Try.in70 #[.pointer (some ⟨p, 0, none⟩), .int .u64 (v.length : Int)] (by simp [Act.eval]) ?_
 refine (onum_any p _ _ v.length w5 O5.out.out (by have := HS.out; omega) (by have := numL_len k; have := numL_len (lst s).length; have := numL_len v.length; have := lst_len s; have := HS.out; simp [bform]; omega)).mono ?_
 rintro e w6 k1
 obtain ⟨v6, h6⟩ := O5.out.lay k1
 have O6 := Keep.mk h6
 refine ⟨_, k1.1, ?_⟩
 clear h6 k1 O5
 obtain ⟨l6, hl6⟩ : ∃ z, Keep (z = [] ++ numL k ++ bform (lst s) ++ numL v.length) := ⟨_, ⟨rfl⟩⟩
 rw [← hl6.out] at O6
 have hL6 : Keep (l6.length ≤ 140737488354000 ∧ l6.length + v.length + 1 ≤ 140737488355000) := ⟨by rw [hl6.out]; have := numL_len k; have := numL_len (lst s).length; have := numL_len v.length; have := lst_len s; have := HS.out; simp [bform]; omega⟩
 have e6 : Keep (0 :: (l6 ++ v) = RtP.leafR numL ⟨k, lst s, v⟩) := ⟨by rw [hl6.out]; simp [RtP.leafR, bform]⟩
 clear hl6
 simp only [Act.put, pqA, pqB, pqC]
 refine WL.nil (hK5 _ _ ?_)
 refine wp_seq_k fun K6 hK6 => ?_
 have D6 : Keep (OutAt w6.drew p v6 l6) := ⟨O6.out.out.grown ((Grown.refl w6 (fun _ => False)).drew) fun _ _ h => h⟩
 have B6 : Keep (Below w.heap.size w w6.drew) := ⟨(B2.out.trans (O6.out.bel.mono B2.out.size)).drew⟩
 have C6 : Keep (Blk w6.drew c 40 #[.int .i64 (k : Int), .string s, .slice va v.length vc]) := ⟨C2.out.below O6.out.bel.drew C2.out.lt⟩
 have R6 : Keep (Blk w6.drew r 25 (bytesA 32 fun _ => 0)) := ⟨R2.out.below O6.out.bel.drew R2.out.lt⟩
 have V6 : Keep (RowAt w6.drew (.slice va v.length vc) v) := ⟨(V2.out.below O6.out.bel).below (Below.refl _ _).drew⟩
 have c2 := C6.out.c 2 (by rfl : (#[.int .i64 (k : Int), .string s, .slice va v.length vc] : Array Value)[2]? = some (.slice va v.length vc))
 clear O6 C2 R2 V2 B2
 refine wp_region_held_drew (S := fun wx => wx.cell? ⟨c, 2, none⟩ = some (.slice va v.length vc)) (by kernel_rfl) (c2) (fun hHeld => ?_)
 refine TkG (i := 0) (oi := ⟨some 20, Op.move (Operand.tmp 3), 113, _, _, none⟩) (v := .pointer (some ⟨p, 0, none⟩)) rfl hHeld ?_
 refine TkG (i := 2) (oi := ⟨some 22, Op.fieldAddr 40 (Operand.tmp 1) 2, 0, _, _, none⟩) (v := .pointer (some ⟨c, 2, none⟩)) rfl hHeld ?_
 refine TkG (i := 3) (oi := ⟨some 23, Op.load 38 (Operand.tmp 22), 38, _, _, none⟩) (v := .slice va v.length vc) rfl hHeld ?_
 refine wpAnyH_ready (rs := [1]) (by kernel_rfl) (by simp) ?_
 refine AllReadyH.cons (o := ⟨some 21, Op.call { callee := Callee.value (Operand.func 72), args := #[Operand.tmp 20], argTypes := #[113] }, 38, _, _, none⟩) rfl (fun K hK => ?_) AllReadyH.nil
 rw [if_pos (by rfl)]
 refine wp_callF 72 _ _ rfl Try.in72 #[.pointer (some ⟨p, 0, none⟩)] (by simp [Act.eval]) (fun vz wz => vz = .slice (some ⟨w6.heap.size, 0, none⟩) l6.length l6.length ∧ wz = w6.drew.alloc (.cells (bv l6).toArray 5)) ?_ ?_
 ·refine (odone_any p v6 l6 w6.drew D6.out (by have := hL6.out; omega)).mono ?_
  rintro e wz ⟨rfl, k1⟩
  exact ⟨_, rfl, rfl, k1⟩
 rintro vz w7 ⟨rfl, k1⟩
 have b7 : Below w6.drew.heap.size w6.drew w7 := by rw [k1]; exact below_new _ _
 have Y7 : Keep (RowAt w7 (.slice (some ⟨w6.heap.size, 0, none⟩) l6.length l6.length) l6) := ⟨by rw [k1]; exact (own_done w6.drew l6 (by have := hL6.out; omega)).row⟩
 have V7 := Keep.mk (V6.out.below b7)
 have R7 := Keep.mk (R6.out.below b7 R6.out.lt)
 have C7 := Keep.mk (C6.out.below b7 C6.out.lt)
 have B7 : Keep (Below w.heap.size w w7) := ⟨B6.out.trans (b7.mono B6.out.size)⟩
 clear k1 b7 c2 V6 R6 C6 B6 D6
 have c2 := C7.out.c 2 (by rfl : (#[.int .i64 (k : Int), .string s, .slice va v.length vc] : Array Value)[2]? = some (.slice va v.length vc))
 obtain ⟨g7, hg7⟩ : ∃ z, Keep (z = w6.heap.size) := ⟨_, ⟨rfl⟩⟩
 rw [← hg7.out] at Y7 ⊢
 refine hK _ _ (c2) fun hH1 => ?_
 clear hK
 simp only [Act.put, pqA, pqB, pqC]
 refine wpAnyH_ready (rs := [4]) (by kernel_rfl) (by simp) ?_
 refine AllReadyH.cons (o := ⟨some 24, Op.buildSlice 59 2 #[(0, Operand.tmp 21), (1, Operand.tmp 23)], 59, _, _, none⟩) rfl (fun K hK => ?_) AllReadyH.nil
 rw [if_pos (by rfl)]
 refine wp_bs 59 2 _ rfl #[(0, .slice (some ⟨g7, 0, none⟩) l6.length l6.length), (1, .slice va v.length vc)] (by simp [Act.eval]) _ _ (bsRw2 _ _ _ _ _ _ _) ?_
 have b8 := Keep.mk (below_new w7 (.cells #[.slice (some ⟨g7, 0, none⟩) l6.length l6.length, .slice va v.length vc] 38))
 have Q8 := Keep.mk (Blk.new w7 38 #[.slice (some ⟨g7, 0, none⟩) l6.length l6.length, .slice va v.length vc])
 generalize w7.alloc (.cells #[.slice (some ⟨g7, 0, none⟩) l6.length l6.length, .slice va v.length vc] 38) = w8 at *
 obtain ⟨g, hg⟩ : ∃ z, Keep (z = w7.heap.size) := ⟨_, ⟨rfl⟩⟩
 rw [← hg.out] at Q8 ⊢
 have X8 : Keep (RsV w8 (.slice (some ⟨g, 0, none⟩) 2 2) [.slice (some ⟨g7, 0, none⟩) l6.length l6.length, .slice va v.length vc] [l6, v]) := ⟨RsV.two Q8.out (Y7.out.below b8.out) (V7.out.below b8.out)⟩
 have R8 := Keep.mk (R7.out.below b8.out R7.out.lt)
 have C8 := Keep.mk (C7.out.below b8.out C7.out.lt)
 have B8 : Keep (Below w.heap.size w w8) := ⟨B7.out.trans (b8.out.mono B7.out.size)⟩
 clear Y7 V7 R7 C7 B7 b8 Q8 c2
 have c2 := C8.out.c 2 (by rfl : (#[.int .i64 (k : Int), .string s, .slice va v.length vc] : Array Value)[2]? = some (.slice va v.length vc))
 refine hK _ _ c2 fun hH2 => ?_
 clear hK
 simp only [Act.put, pqA, pqB, pqC]
 refine wpAnyH_ready (rs := [5]) (by kernel_rfl) (by simp) ?_
 refine AllReadyH.cons (o := ⟨some 25, Op.call { callee := Callee.value (Operand.func 47), args := #[Operand.const (Value.int IntKind.u8 0), Operand.tmp 24], argTypes := #[5, 59] }, 25, _, _, none⟩) rfl (fun K hK => ?_) AllReadyH.nil
 rw [if_pos (by rfl)]
 refine wp_callF 47 _ _ rfl Try.in47 #[.int .u8 0, .slice (some ⟨g, 0, none⟩) 2 2] (by simp [Act.eval]) (fun vz wz => vz = .agg hh ∧ Below w8.heap.size w8 wz) ?_ ?_
 ·refine (phash_any 0 _ _ _ w8 X8.out (by simp) (by have := hL6.out; simp; omega)).mono ?_
  rintro e wz ⟨rfl, k1⟩
  exact ⟨_, rfl, by rw [hhe.out, ← e6.out]; simp, k1⟩
 rintro vz wa ⟨rfl, k1⟩
 have Ra := Keep.mk (R8.out.below k1 R8.out.lt)
 have Ca := Keep.mk (C8.out.below k1 C8.out.lt)
 have Ba : Keep (Below w.heap.size w wa) := ⟨B8.out.trans (k1.mono B8.out.size)⟩
 clear k1 X8 R8 B8 C8 c2
 have c2 := Ca.out.c 2 (by rfl : (#[.int .i64 (k : Int), .string s, .slice va v.length vc] : Array Value)[2]? = some (.slice va v.length vc))
 have crn : Keep (c ≠ r) := ⟨blk_ne Ca.out Ra.out (by decide)⟩
 refine hK _ _ (c2) fun hH3 => ?_
 clear hK
 simp only [Act.put, pqA, pqB, pqC]
 refine wpAnyH_ready (rs := [6]) (by kernel_rfl) (by simp) ?_
 refine AllReadyH.cons (o := ⟨none, Op.store 25 (Operand.tmp 2) (Operand.tmp 25), 0, _, _, none⟩) rfl (fun K hK => ?_) AllReadyH.nil
 rw [if_pos (by rfl)]
 refine wp_store_row 25 (.tmp 2) (.tmp 25) rfl r hh rfl rfl 25 (bytesA 32 fun _ => 0) Ra.out (by rw [hhe.out]; exact Try.size25B _) (by rw [hhe.out]; exact bytesA_sizes _ _ _) (by rw [hhe.out]; exact bytesA_one _ _) ?_
 have R9 := Keep.mk (Ra.out.setRow hh)
 have C9 := Keep.mk (Ca.out.setRow_ne crn.out hh)
 have B9 : Keep (Below w.heap.size w (wa.setRow r hh)) := ⟨below_setRow Ba.out hrw.out _⟩
 generalize wa.setRow r hh = w9 at *
 clear c2
 have c2 := C9.out.c 2 (by rfl : (#[.int .i64 (k : Int), .string s, .slice va v.length vc] : Array Value)[2]? = some (.slice va v.length vc))
 refine hK _ _ c2 fun hH4 => ?_
 clear hK
 simp only [Act.put, pqA, pqB, pqC]
 refine wpAnyH_done (by kernel_rfl) ?_ _
 refine hK6 _ _ ?_
 refine wp_ret ?_
 try simp only [Exit.inBlock, Exit.then]
 refine bodyPost_ret (v := .agg hh) (results_cell_row Try.results49 _ _ r 25 _ (0, 0) _ rfl R9.out Try.underlying25 rfl (by rw [hhe.out]; exact Try.size25B _)) rfl ⟨by rw [hhe.out], B9.out⟩

end Go.Proofs.Ytjklmkeedhgncaa
/-
 DERIVED: THE SHELF's CONTRACTS AT THIS DUMP, IN PLAIN WORDS (tools/lay-plain.mjs out of 'TryShelf.lean', which tools/lay-shelf.mjs wrote): THE SAME DECLARATIONS UNDER THE SAME NAMES: 'import', 'namespace', 'open', 'def', 'theorem' AND NOTHING ELSE: no command of the shelf's: FOR A HAND-IN. Each laying: the table of numbers ('.._ren') and one theorem, a field a fact of the dump's own or the kernel's comparison; each contract: ONE APPLICATION.
-/
namespace Go.Proofs
open Go.Shelf
def Try.lays125_ren : Go.Shelf.Ren := ⟨fun | 125 => 73 | 128 => 89 | 129 => 90 | n => n, fun | 46 => 119 | 3 => 3 | 51 => 81 | 53 => 107 | 4 => 4 | 5 => 5 | 9 => 9 | n => n, fun | n => n⟩
theorem Try.lays125 : Go.Proofs.Lays.n125 Try.prog Try.lays125_ren := {
 mixed := by kernel_rfl
 f125 := Try.func73.trans (congrArg some (by kernel_rfl))
 f128 := Try.func89.trans (congrArg some (by kernel_rfl))
 f129 := Try.func90.trans (congrArg some (by kernel_rfl))
 t3 := Try.underlying3
 a3 := Try.isAgg3
 z3 := Try.sizeOf3
 v3 := Try.zeroValue3
 t4 := Try.underlying4
 a4 := Try.isAgg4
 z4 := Try.sizeOf4
 v4 := Try.zeroValue4
 t5 := Try.underlying5
 a5 := Try.isAgg5
 z5 := Try.sizeOf5
 v5 := Try.zeroValue5
 t9 := Try.underlying9
 a9 := Try.isAgg9
 z9 := Try.sizeOf9
 v9 := Try.zeroValue9
 t46 := Try.underlying119
 a46 := Try.isAgg119
 z46 := Try.sizeOf119
 v46 := Try.zeroValue119
 t51 := Try.underlying81
 a51 := Try.isAgg81
 z51 := Try.sizeOf81
 v51 := Try.zeroValue81
 t53 := Try.underlying107
 a53 := Try.isAgg107
 z53 := Try.sizeOf107
 v53 := Try.zeroValue107 }
theorem Try.bits_Len (x : Int) (w : World) (h0 : 0 ≤ x) (h1 : x ≤ 18446744073709551615) :
  Calls Try.prog 73 #[.int .u64 x] w fun e w' => e = .returned (.int .i64 (Lib.bitLen x.toNat)) ∧ w' = w := Any.bits_Len Try.lays125 x w h0 h1
end Go.Proofs
namespace Go.Proofs.Ytjklmkeedhgncaa
open Go.RowKit
set_option linter.unusedSimpArgs false
set_option linter.unusedVariables false
theorem Try.in73 (w : World) (vs : Array Value) : (callFunc 73 vs).run Try.prog w = .ok (.enter 73 vs) w := by kernel_rfl
theorem Try.in50 (w : World) (vs : Array Value) : (callFunc 50 vs).run Try.prog w = .ok (.enter 50 vs) w := by kernel_rfl
theorem halfF_pow : ∀ (k j n : Nat), 2 ^ j ≤ n - 1 → n - 1 < 2 ^ (j + k) → ∃ q, RtP.halfF k (2 ^ j) n = 2 ^ q ∧ 2 ^ q ≤ n - 1 ∧ n - 1 < 2 ^ (q + 1)
 | 0, j, n, h1, h2 => by simp at h2; omega
 | k + 1, j, n, h1, h2 => by
  unfold RtP.halfF
  split
  ·rename_i h
   have e : 2 ^ j * 2 = 2 ^ (j + 1) := by rw [Nat.pow_succ]
   rw [e] at *
   exact halfF_pow k (j + 1) n (by omega) (by rw [show j + 1 + k = j + (k + 1) by omega]; exact h2)
  ·rename_i h
   exact ⟨j, rfl, h1, by rw [Nat.pow_succ]; omega⟩
theorem half_len {n : Nat} (h1 : 2 ≤ n) (h2 : n < 9223372036854775808) : ∃ q, Lib.bitLen (n - 1) = q + 1 ∧ RtP.half n = 2 ^ q ∧ q ≤ 62 := by
 obtain ⟨b1, b2, b3⟩ := Lib.bitLenAux_bounds 64 (n - 1) (by omega) (by omega)
 obtain ⟨q, h3, h4, h5⟩ := halfF_pow 64 0 n (by simp; omega) (by simp; omega)
 have e1 : q < Lib.bitLenAux 64 (n - 1) := (Nat.pow_lt_pow_iff_right (by omega : 1 < 2)).1 (Nat.lt_of_le_of_lt h4 b3)
 have e2 : Lib.bitLenAux 64 (n - 1) - 1 < q + 1 := (Nat.pow_lt_pow_iff_right (by omega : 1 < 2)).1 (Nat.lt_of_le_of_lt b2 h5)
 refine ⟨q, by unfold Lib.bitLen; omega, h3, ?_⟩
 have h6 : (2 : Nat) ^ q < 2 ^ 63 := Nat.lt_of_le_of_lt h4 (by omega)
 have := (Nat.pow_lt_pow_iff_right (by omega : 1 < 2)).1 h6
 omega
set_option maxRecDepth 8000 in
theorem left_any (n : Nat) (w : World) (h1 : 2 ≤ n) (h2 : n < 9223372036854775808) : Calls Try.prog 50 #[.int .i64 (n : Int)] w fun e w' => e = .returned (.int .i64 (RtP.half n : Int)) ∧ w' = w := by
 obtain ⟨q, hq, hh, hq62⟩ := half_len h1 h2
 have HQ := Keep.mk hq
 have HH2 := Keep.mk hh
 have hp : (2 : Nat) ^ q < 9223372036854775808 := by
  have := Nat.pow_le_pow_right (by omega : 0 < 2) hq62
  exact Nat.lt_of_le_of_lt this (by decide)
 have hw1 : IntKind.i64.wrap ((n : Int) - 1) = ((n - 1 : Nat) : Int) := by rw [IntKind.wrap_i64]; omega
 have hw2 : IntKind.u64.wrap ((n - 1 : Nat) : Int) = ((n - 1 : Nat) : Int) := by rw [IntKind.wrap_u64]; omega
 have hw3 : IntKind.i64.wrap (((q + 1 : Nat) : Int) - 1) = (q : Int) := by rw [IntKind.wrap_i64]; omega
 have hw3' : IntKind.i64.wrap ((q : Int) + 1 - 1) = (q : Int) := by rw [IntKind.wrap_i64]; omega
 have hw4 : IntKind.i64.wrap ((2 : Int) ^ q) = ((2 ^ q : Nat) : Int) := by
  have e : ((2 ^ q : Nat) : Int) = (2 : Int) ^ q := by simp
  rw [IntKind.wrap_i64, ← e]
  omega
 have hw5 : IntKind.i64.wrap (q : Int) = (q : Int) := by rw [IntKind.wrap_i64]; omega
 have hs0 : 0 ≤ (q : Int) := by omega
 have hs1 : (q : Int) ≤ 64 := by omega
 have hs2 : ((q : Int)).toNat = q := by omega
 clear hq hh
 go_enter Try.func50, Try.ntmps50
 refine wp_seq_k fun K1 hK1 => rgn ?_
 refine VlS (.int .i64 0) ?_
 refine WL.nil (hK1 _ _ ?_)
 refine wp_seq_k fun K2 hK2 => rgn ?_
 refine VlS (.int .i64 (n : Int)) ?_
 refine VlS (.int .i64 ((n - 1 : Nat) : Int)) ?_
 refine VlS (.int .u64 ((n - 1 : Nat) : Int)) ?_
 refine WL.callF (by kernel_rfl) 73 _ _ rfl Try.in73 #[.int .u64 ((n - 1 : Nat) : Int)] (by simp [Act.eval]) ?_
 refine (Try.bits_Len ((n - 1 : Nat) : Int) w (by omega) (by omega)).mono ?_
 rintro e w1 ⟨rfl, hw⟩
 refine ⟨_, rfl, ?_⟩
 have hw := hw.symm
 subst hw
 rw [Int.toNat_natCast, HQ.out]
 simp only [Act.put, pqA, pqB, pqC]
 refine VlS (.int .i64 (q : Int)) ?_
 refine VlS (.int .i64 ((2 ^ q : Nat) : Int)) ?_
 refine VlS (.int .i64 ((2 ^ q : Nat) : Int)) ?_
 refine WL.nil (hK2 _ _ ?_)
 refine wp_ret ?_
 go_ret
 rw [HH2.out]
 exact ⟨rfl, rfl⟩

theorem Try.in24 (w : World) (vs : Array Value) : (callFunc 24 vs).run Try.prog w = .ok (.enter 24 vs) w := by kernel_rfl
theorem Try.new88 (w : World) : (Instr.alloc 88 true (.tuple #[])).run Try.prog w = .ok (.pointer (some ⟨w.heap.size, 0, none⟩)) (w.alloc (.cells (bytesA 8 fun _ => 0) 88)) := by kernel_rfl
def leF (n t : Nat) : Nat → Int := fun i => if i < t then (n : Int) / 2 ^ (8 * i) % 256 else 0
theorem leF_next (n t : Nat) : bytesA 8 (upd (leF n t) t ((n : Int) / 2 ^ (8 * t) % 256)) = bytesA 8 (leF n (t + 1)) := by
 refine bytesA_congr fun i _ => ?_
 unfold upd leF
 by_cases h : i = t
 ·subst h; simp
 ·rw [if_neg h]
  by_cases h2 : i < t
  ·rw [if_pos h2, if_pos (by omega)]
  ·rw [if_neg h2, if_neg (by omega)]
theorem leF_all (n : Nat) : hl 8 (leF n 8) = le8 n := by
 unfold hl le8 leF
 refine List.map_congr_left fun i hi => ?_
 rw [if_pos (List.mem_range.1 hi)]
theorem RsV.of_owns {w : World} {B : Nat} {v : Value} {us : List Value} {rs : List (List Int)} (ho : w.ownsRow B 38 1 v us.length us) (hp : 0 < us.length) (he : us.length = rs.length) (hr : ∀ (j : Nat) (u : Value) (l : List Int), us[j]? = some u → rs[j]? = some l → RowAt w u l) : RsV w v us rs := by
 obtain ⟨a, c, rfl⟩ := owns_sl ho
 obtain ⟨g, rfl, _, _⟩ := owns_at ho hp (List.getElem?_eq_getElem hp)
 refine ⟨he, hr, .inr ⟨g, c, rfl, fun j u hu => ?_⟩⟩
 obtain ⟨g', e', h1, _⟩ := owns_at ho (List.getElem?_eq_some_iff.1 hu).1 hu
 injection e' with e'
 injection e' with e'
 subst e'
 exact h1
theorem yieldsIf_ld {ops : Array Oper} {S : World → Prop} {op : Oper} {a : Act} (hw : Region.wanted op (yielded ops a.tmps) = true) (x : Operand) (ty : TypeId) (ho : op.op = .load ty x) (b o : Nat) (hx : a.eval x = .pointer (some ⟨b, o, none⟩)) (cs : Array Value) (d : TypeDesc) (hu : Try.prog.underlying ty = some d) (hd : d.isRow = true) (hi : (Try.prog.info? ty).map (·.size) = some cs.size) (hS : ∀ w, S w → w.rangeAt b o cs.toList) : YieldsIf Try.prog ops S op (.agg cs) a := by
 have h := yieldsIf_load_mid (P := Try.prog) (ops := ops) (S := S) (op := op) (a := a) hw ty x ho b o hx cs.toList d hS hu hd (by rw [Array.length_toList]; exact hi)
 rw [Array.toArray_toList] at h
 exact h
set_option maxRecDepth 8000 in
theorem proot_any (n : Nat) (vx : Value) (us : List Value) (rs : List (List Int)) (w : World) (hx : RsV w vx us rs) (hn : us.length ≤ 50) (hl : rs.flatten.length + 9 ≤ 140737488355000) :
  Calls Try.prog 25 #[.int .i64 (n : Int), vx] w fun e w' => e = .returned (.agg (bytesA 32 (shaP (2 :: (le8 n ++ rs.flatten))))) ∧ Below w.heap.size w w' := by
 have HX := Keep.mk hx
 have HN := Keep.mk hn
 have HL := Keep.mk hl
 clear hx hn hl
 go_enter Try.func25, Try.ntmps25
 refine wp_seq_k fun K1 hK1 => rgn ?_
 refine WL.new (by kernel_rfl) 25 rfl _ Try.new25 ?_
 have R1 := Keep.mk (Blk.new w 25 (bytesA 32 fun _ => 0))
 have b1 := Keep.mk (below_new w (.cells (bytesA 32 fun _ => 0) 25))
 change WL _ _ _ _ _ (w.alloc (.cells (bytesA 32 fun _ => 0) 25))
 generalize w.alloc (.cells (bytesA 32 fun _ => 0) 25) = w1 at *
 obtain ⟨r, hr0⟩ : ∃ z, Keep (z = w.heap.size) := ⟨_, ⟨rfl⟩⟩
 rw [← hr0.out] at R1 ⊢
 have hrw : Keep (w.heap.size ≤ r) := ⟨by rw [hr0.out]; exact Nat.le_refl _⟩
 have X1 := Keep.mk (HX.out.below b1.out)
 simp only [Act.put, pqA, pqB, pqC]
 refine WL.nil (hK1 _ _ ?_)
 refine wp_seq_k fun K2 hK2 => rgn ?_
 refine WL.new (by kernel_rfl) 88 rfl _ Try.new88 ?_
 have D2 := Keep.mk (Blk.new w1 88 (bytesA 8 fun _ => 0))
 have b2 := Keep.mk (below_new w1 (.cells (bytesA 8 fun _ => 0) 88))
 change WL _ _ _ _ _ (w1.alloc (.cells (bytesA 8 fun _ => 0) 88))
 generalize w1.alloc (.cells (bytesA 8 fun _ => 0) 88) = w2 at *
 obtain ⟨d, hd0⟩ : ∃ z, Keep (z = w1.heap.size) := ⟨_, ⟨rfl⟩⟩
 rw [← hd0.out] at D2 ⊢
 have R2 := Keep.mk (R1.out.below b2.out R1.out.lt)
 have B2 : Keep (Below w.heap.size w w2) := ⟨b1.out.trans (b2.out.mono b1.out.size)⟩
 have hdw : Keep (w.heap.size ≤ d) := ⟨by rw [hd0.out]; exact b1.out.size⟩
 have hrd : Keep (r ≠ d) := ⟨blk_ne R2.out D2.out (by decide)⟩
 clear R1 b1 b2 X1 hd0 hr0
 simp only [Act.put, pqA, pqB, pqC]
 refine WL.nil (hK2 _ _ ?_)
 refine wp_seq_k fun K3 hK3 => ?_
 refine wp_seq_k fun K4 hK4 => rgn ?_
 refine VlS (.int .i64 0) ?_
 refine WL.nil (hK4 _ _ ?_)
 refine wp_block ?_
 refine wp_loop (fun ac wr => ∃ (t : Nat), ac = apF (fun f => { tmps := #[.int .i64 (n : Int), vx, undef, undef, .pointer (some ⟨r, 0, none⟩), .pointer (some ⟨d, 0, none⟩), f 6, .int .i64 (t : Int), f 8, f 9, f 10, f 11, f 12, f 13, f 14, f 15, f 16, f 17, undef, undef, undef, undef, undef], defers := [] }) ac ∧ t ≤ 8 ∧ Blk wr d 88 (bytesA 8 (leF n t)) ∧ Blk wr r 25 (bytesA 32 fun _ => 0) ∧ Below w.heap.size w wr) (fun a _ => 8 - (intOf (a.tmps.getD 7 undef)).toNat) ⟨0, rfl, by omega, (by have h := D2.out; rw [show (fun _ => 0 : Nat → Int) = leF n 0 from by funext i; simp [leF]] at h; exact h), R2.out, B2.out⟩ ?_
 rintro ac wr ⟨t, hac, ht, hD, hR, hB⟩
 obtain ⟨f, rfl⟩ := unF hac
 have D3 := Keep.mk hD
 have R3 := Keep.mk hR
 have B3 := Keep.mk hB
 clear hD hR hB
 by_cases htl : t < 8
 ·have htl' : (t : Int) < 8 := by omega
  have hs0 : 0 ≤ 8 * (t : Int) := by omega
  have hs1 : 8 * (t : Int) ≤ 64 := by omega
  have hs2 : (8 * (t : Int)).toNat = 8 * t := by omega
  have hw1 : IntKind.i64.wrap (8 * (t : Int)) = 8 * (t : Int) := by rw [IntKind.wrap_i64]; omega
  have hw2 : IntKind.u8.wrap ((n : Int) / 2 ^ (8 * t)) = (n : Int) / 2 ^ (8 * t) % 256 := IntKind.wrap_u8 _
  have hw3 : IntKind.i64.wrap ((t : Int) + 1) = ((t + 1 : Nat) : Int) := by rw [IntKind.wrap_i64]; omega
  refine wp_seq_k fun K5 hK5 => rgn ?_
  refine VbT ?_
  refine WL.nil (hK5 _ _ ?_)
  refine wp_seq_k fun K6 hK6 => ?_
  refine wp_cond_true rfl ?_
  refine wp_skip ?_
  refine hK6 _ _ ?_
  refine wp_seq_k fun K7 hK7 => ?_
  refine wp_block ?_
  refine wp_seq_k fun K8 hK8 => rgn ?_
  refine VlS (.int .i64 (t : Int)) ?_
  refine VlS (.int .i64 (t : Int)) ?_
  refine WL.nil (hK8 _ _ ?_)
  refine rgn ?_
  refine VlS (.int .i64 (t : Int)) ?_
  refine VlS (.int .i64 (n : Int)) ?_
  refine VlS (.int .i64 (t : Int)) ?_
  refine VlS (.int .i64 (8 * (t : Int))) ?_
  refine VlS (.int .i64 ((n : Int) / 2 ^ (8 * t))) ?_
  refine VlS (.int .u8 ((n : Int) / 2 ^ (8 * t) % 256)) ?_
  refine VlS (.pointer (some ⟨d, t, none⟩)) ?_
  have f_o := D3.out.frozen t
  have c_o := D3.out.c t (bytesA_get 8 _ t htl)
  refine WL.cell (by kernel_rfl) (wr.setCell ⟨d, t, none⟩ (.int .u8 ((n : Int) / 2 ^ (8 * t) % 256))) (by go_simp) ?_
  clear f_o c_o
  have D4 : Keep (Blk (wr.setCell ⟨d, t, none⟩ (.int .u8 ((n : Int) / 2 ^ (8 * t) % 256))) d 88 (bytesA 8 (leF n (t + 1)))) := ⟨by have h := D3.out.set t (.int .u8 ((n : Int) / 2 ^ (8 * t) % 256)); rw [bytesA_set, leF_next] at h; exact h⟩
  have R4 := Keep.mk (R3.out.set_ne (j := t) hrd.out (.int .u8 ((n : Int) / 2 ^ (8 * t) % 256)))
  have B4 : Keep (Below w.heap.size w (wr.setCell ⟨d, t, none⟩ (.int .u8 ((n : Int) / 2 ^ (8 * t) % 256)))) := ⟨B3.out.trans ((Grown.setCell wr d t (.int .u8 ((n : Int) / 2 ^ (8 * t) % 256)) (S := fun k => k = d) fun _ => rfl).to_below (fun k hk e => by have := hdw.out; omega) B3.out.size)⟩
  generalize wr.setCell ⟨d, t, none⟩ (.int .u8 ((n : Int) / 2 ^ (8 * t) % 256)) = w4 at *
  clear D3 R3 B3
  simp only [Act.put]
  refine WL.nil (hK7 _ _ ?_)
  refine rgn ?_
  refine VlS (.int .i64 ((t + 1 : Nat) : Int)) ?_
  refine VlS (.int .i64 ((t + 1 : Nat) : Int)) ?_
  refine WL.nil ?_
  refine ⟨⟨t + 1, rfl, by omega, D4.out, R4.out, B4.out⟩, ?_⟩
  simp only [intOf]; show 8 - (((t + 1 : Nat) : Int)).toNat < 8 - ((t : Int)).toNat; omega
 ·have e8 : t = 8 := by omega
  have htl' : ¬ (t : Int) < 8 := by omega
  have Y3 : Keep (RowAt wr (.slice (some ⟨d, 0, none⟩) 8 8) (le8 n)) := ⟨by have h := row_arr D3.out; rw [e8, leF_all] at h; exact h⟩
  have X3 : Keep (RsV wr vx us rs) := ⟨HX.out.below B3.out⟩
  clear D3
  refine wp_seq_k fun K9 hK9 => rgn ?_
  refine VbF ?_
  refine WL.nil (hK9 _ _ ?_)
  refine wp_seq_k fun K10 hK10 => ?_
  refine wp_cond_false rfl ?_
  refine wp_exit ?_
  refine hK3 _ _ ?_
  refine wp_seq_k fun K11 hK11 => rgn ?_
  refine VlS (.slice (some ⟨d, 0, none⟩) 8 8) ?_
  refine WL.bs (by kernel_rfl) 59 1 _ rfl #[(0, .slice (some ⟨d, 0, none⟩) 8 8)] (by simp [Act.eval]) _ _ (bsRw1 _ _ _ wr) ?_
  have O5 : Keep ((wr.alloc (.cells #[.slice (some ⟨d, 0, none⟩) 8 8] 38)).ownsRow wr.heap.size 38 1 (.slice (some ⟨wr.heap.size, 0, none⟩) 1 1) 1 [.slice (some ⟨d, 0, none⟩) 8 8]) := ⟨rfl, .inr ⟨wr.heap.size, 1, _, rfl, Nat.le_refl _, Blk.new wr 38 _, Nat.le_refl _, by decide, rfl, rfl⟩⟩
  have b5 := Keep.mk (below_new wr (.cells #[.slice (some ⟨d, 0, none⟩) 8 8] 38))
  have Q5 := Keep.mk (Blk.new wr 38 #[.slice (some ⟨d, 0, none⟩) 8 8])
  generalize wr.alloc (.cells #[.slice (some ⟨d, 0, none⟩) 8 8] 38) = w5 at *
  obtain ⟨g2, hg2⟩ : ∃ z, Keep (z = wr.heap.size) := ⟨_, ⟨rfl⟩⟩
  rw [← hg2.out] at O5 Q5 ⊢
  have R5 := Keep.mk (R3.out.below b5.out R3.out.lt)
  have Y5 := Keep.mk (Y3.out.below b5.out)
  have X5 := Keep.mk (X3.out.below b5.out)
  have B5 : Keep (Below w.heap.size w w5) := ⟨B3.out.trans (b5.out.mono B3.out.size)⟩
  have hrg : Keep (r ≠ g2) := ⟨by have := R3.out.lt; have := hg2.out; omega⟩
  have hgw : Keep (w.heap.size ≤ g2) := ⟨by have := B3.out.size; have := hg2.out; omega⟩
  have hgs : Keep (g2 ≤ w5.heap.size) := ⟨by rw [hg2.out]; exact b5.out.size⟩
  have NX5 : Keep (∀ (u : Value) (l : List Int), RowAt w5 u l → l ≠ [] → u.ownBlock ≠ some g2) := ⟨fun u l hu hl => row_off Q5.out hu hl⟩
  clear Q5 R3 Y3 X3 b5 B3
  simp only [Act.put, pqA, pqB, pqC]
  refine VlS (vx) ?_
  refine WL.appRs (by kernel_rfl) (.tmp 19) (.tmp 20) rfl (.slice (some ⟨g2, 0, none⟩) 1 1) vx g2 1 _ us rs rfl rfl O5.out X5.out (by have := HN.out; omega) hgs.out ?_
  intro v6 w6 k1 k2 k3
  have R6 := Keep.mk (k2.blk R5.out fun e => by simp [Value.ownBlock] at e; exact hrg.out e.symm)
  have B6 : Keep (Below w.heap.size w w6) := ⟨B5.out.trans (k2.to_below (fun k hk e => by simp [Value.ownBlock] at e; have := hgw.out; omega) B5.out.size)⟩
  have T6 : ∀ (u : Value) (l : List Int), RowAt w5 u l → RowAt w6 u l := fun u l hu => by
   by_cases hl : l = []
   ·subst hl
    rcases hu with h | h | ⟨q, off, cap, h1, h2, h3⟩
    ·exact .inl h
    ·exact .inr (.inl h)
    ·exact .inr (.inr ⟨q, off, cap, h1, h2, fun i hi => by simp at hi⟩)
   ·exact hu.grown k2 fun k hk _ e => by simp [Value.ownBlock] at e; rw [← e] at hk; exact NX5.out u l hu hl hk
  have X6 : Keep (RsV w6 v6 ([.slice (some ⟨d, 0, none⟩) 8 8] ++ us) (le8 n :: rs)) := ⟨RsV.of_owns (by rw [List.length_append]; exact k1) (by simp) (by simp [X5.out.1]) (fun j u l hu hl => by
   cases j with
   | zero => simp at hu hl; subst hu hl; exact T6 _ _ Y5.out
   | succ j => simp at hu hl; exact T6 _ _ (X5.out.2.1 j u l hu hl))⟩
  clear k1 k2 k3 T6
  simp only [Act.put, pqA, pqB, pqC]
  refine WL.callF (by kernel_rfl) 47 _ _ rfl Try.in47 #[.int .u8 2, v6] (by simp [Act.eval]) ?_
  refine (phash_any 2 v6 _ _ w6 X6.out (by simp; have := HN.out; omega) (by rw [List.flatten_cons, List.length_append, le8_len]; have := HL.out; omega)).mono ?_
  rintro e w8 ⟨rfl, k1⟩
  refine ⟨_, rfl, ?_⟩
  rw [show 2 :: (le8 n :: rs).flatten = 2 :: (le8 n ++ rs.flatten) from by simp]
  have R8 := Keep.mk (R6.out.below k1 R6.out.lt)
  have B8 : Keep (Below w.heap.size w w8) := ⟨B6.out.trans (k1.mono B6.out.size)⟩
  clear k1
  simp only [Act.put, pqA, pqB, pqC]
  refine WL.storeR (by kernel_rfl) 25 (.tmp 4) (.tmp 22) rfl r (bytesA 32 (shaP (2 :: (le8 n ++ rs.flatten)))) rfl rfl 25 (bytesA 32 fun _ => 0) R8.out (Try.size25B _) (bytesA_sizes _ _ _) (bytesA_one _ _) ?_
  have R9 := Keep.mk (R8.out.setRow (bytesA 32 (shaP (2 :: (le8 n ++ rs.flatten)))))
  have B9 : Keep (Below w.heap.size w (w8.setRow r (bytesA 32 (shaP (2 :: (le8 n ++ rs.flatten)))))) := ⟨below_setRow B8.out hrw.out _⟩
  generalize w8.setRow r (bytesA 32 (shaP (2 :: (le8 n ++ rs.flatten)))) = w9 at *
  simp only [Act.put]
  refine WL.nil (hK11 _ _ ?_)
  refine wp_ret ?_
  try simp only [Exit.inBlock, Exit.then]
  refine bodyPost_ret (v := .agg (bytesA 32 (shaP (2 :: (le8 n ++ rs.flatten))))) (results_cell_row Try.results25 _ _ r 25 _ (0, 0) _ rfl R9.out Try.underlying25 rfl (Try.size25B _)) rfl ⟨rfl, B9.out⟩
theorem Try.newC (w : World) : (Instr.alloc 40 true (.tuple #[])).run Try.prog w = .ok (.pointer (some ⟨w.heap.size, 0, none⟩)) (w.alloc (.cells #[.int .i64 0, .string ByteArray.empty, .slice none 0 0] 40)) := by kernel_rfl
set_option maxRecDepth 8000 in
theorem maybe_any (B : Nat) (v : Value) (L : List CV) (w : World) (hC : CsV B w v L) (hB : B ≤ w.heap.size) (hN : L.length ≤ 4398046511104) :
  Calls Try.prog 24 #[v] w fun e w' => e = .returned (.int .i64 (wrongI L)) ∧ Below w.heap.size w w' := by
 obtain ⟨n, hn⟩ : ∃ z, Keep (L.length = z) := ⟨_, ⟨rfl⟩⟩
 obtain ⟨la, cap, rfl, hC'⟩ : ∃ la cap, v = .slice la n cap ∧ (0 < n → ∃ b off, la = some ⟨b, off, none⟩ ∧ CsAt B w b off L) := by
  rcases hC with ⟨a, c, rfl, rfl⟩ | ⟨b, off, cap, rfl, h2, h3⟩
  ·exact ⟨a, c, by rw [← hn.out]; rfl, fun h => by have := hn.out; simp at this; omega⟩
  ·exact ⟨_, cap, by rw [hn.out], fun _ => ⟨b, off, rfl, h3⟩⟩
 have HC := Keep.mk hC'
 have HB := Keep.mk hB
 have HN : Keep (n ≤ 4398046511104) := ⟨by rw [← hn.out]; exact hN⟩
 clear hC hC' hB hN
 go_enter Try.func24, Try.ntmps24
 refine wp_seq_k fun K1 hK1 => rgn ?_
 refine VlS (.int .i64 0) ?_
 refine WL.nil (hK1 _ _ ?_)
 refine wp_seq_k fun K2 hK2 => ?_
 refine wp_seq_k fun K3 hK3 => rgn ?_
 refine VlS (.slice la n cap) ?_
 refine VlS (.int .i64 (n : Int)) ?_
 refine VlS (.int .i64 0) ?_
 refine WL.nil (hK3 _ _ ?_)
 refine wp_block ?_
 refine wp_loop (fun ac wr => ∃ (t : Nat), ac = apF (fun f => { tmps := #[.slice la n cap, undef, f 2, undef, f 4, undef, .slice la n cap, .int .i64 (n : Int), .int .i64 (t : Int), f 9, f 10, f 11, f 12, f 13, f 14, f 15, f 16, undef, undef, undef, undef, undef, undef, undef, undef, undef, undef, undef, undef, undef, undef, undef, undef, undef, undef, undef, undef, undef, undef, undef], defers := [] }) ac ∧ t ≤ n ∧ Below w.heap.size w wr ∧ (∀ (i : Nat) (c : CV), i < t → L[i]? = some c → kmay c.k = true)) (fun a _ => n - (intOf (a.tmps.getD 8 undef)).toNat) ⟨0, rfl, by omega, Below.refl _ _, fun i c hi _ => by omega⟩ ?_
 rintro ac wr ⟨t, hac, ht, hb, hI⟩
 obtain ⟨f, rfl⟩ := unF hac
 have B1 := Keep.mk hb
 have HI := Keep.mk hI
 clear hb hI
 by_cases htl : t < n
 ·have htl' : (t : Int) < (n : Int) := by omega
  obtain ⟨b, off, hla, hcx⟩ := HC.out (by omega)
  subst hla
  have HX : Keep (CsAt B wr b off L) := ⟨hcx.below (B1.out.mono HB.out)⟩
  clear hcx
  obtain ⟨c, Hc⟩ : ∃ z, Keep (L[t]? = some z) := ⟨L[t]'(by rw [hn.out]; exact htl), ⟨List.getElem?_eq_getElem _⟩⟩
  have Hco : Keep (∃ a m k, c.v = .slice a m k) := ⟨by
   obtain ⟨a, m, e⟩ := row_form (HX.out.row c (List.mem_of_getElem? Hc.out)).1
   exact ⟨_, _, _, e⟩⟩
  refine wp_seq_k fun K4 hK4 => rgn ?_
  refine VbT ?_
  refine WL.nil (hK4 _ _ ?_)
  refine wp_seq_k fun K5 hK5 => ?_
  refine wp_cond_true rfl ?_
  refine wp_skip ?_
  refine hK5 _ _ ?_
  refine wp_seq_k fun K6 hK6 => ?_
  refine wp_block ?_
  refine wp_seq_k fun K7 hK7 => rgn ?_
  refine VlS (.pointer (some ⟨b, off + t * 3, none⟩)) ?_
  refine WL.midA (by kernel_rfl) 40 (.tmp 10) rfl b (off + t * 3) rfl #[.int .i64 c.k, .string c.s, c.v] _ (HX.out.at_ t c Hc.out) Try.underlying40 rfl (Try.sizeC _ _ _) ?_
  simp only [Act.put, pqA, pqB, pqC]
  refine WL.new (by kernel_rfl) 40 rfl _ Try.newC ?_
  have Z3 := Keep.mk (Blk.new wr 40 #[.int .i64 0, .string ByteArray.empty, .slice none 0 0])
  have b3 := Keep.mk (below_new wr (.cells #[.int .i64 0, .string ByteArray.empty, .slice none 0 0] 40))
  change WL _ _ _ _ _ (wr.alloc (.cells #[.int .i64 0, .string ByteArray.empty, .slice none 0 0] 40))
  generalize wr.alloc (.cells #[.int .i64 0, .string ByteArray.empty, .slice none 0 0] 40) = w3 at *
  obtain ⟨z, hz0⟩ : ∃ z, Keep (z = wr.heap.size) := ⟨_, ⟨rfl⟩⟩
  rw [← hz0.out] at Z3 ⊢
  simp only [Act.put, pqA, pqB, pqC]
  refine WL.storeR (by kernel_rfl) 40 (.tmp 4) (.tmp 11) rfl z #[.int .i64 c.k, .string c.s, c.v] rfl rfl 40 _ Z3.out (Try.sizeC _ _ _) rfl (by obtain ⟨a_, m_, k_, e_⟩ := Hco.out; rw [e_]; simp [Value.oneCell']) ?_
  have Z4 := Keep.mk (Z3.out.setRow #[.int .i64 c.k, .string c.s, c.v])
  have B4 : Keep (Below w.heap.size w (w3.setRow z #[.int .i64 c.k, .string c.s, c.v])) := ⟨below_setRow (B1.out.trans (b3.out.mono B1.out.size)) (by rw [hz0.out]; exact B1.out.size) _⟩
  generalize w3.setRow z #[.int .i64 c.k, .string c.s, c.v] = w4 at *
  clear Z3 b3
  have z0 := Z4.out.c 0 (by rfl : (#[.int .i64 c.k, .string c.s, c.v] : Array Value)[0]? = some (.int .i64 c.k))
  simp only [Act.put]
  refine WL.nil (hK7 _ _ ?_)
  refine wp_seq_k fun K8 hK8 => rgn ?_
  refine VlS (.pointer (some ⟨z, 0, none⟩)) ?_
  refine VlS (.int .i64 c.k) ?_
  clear z0
  refine WL.callF (by kernel_rfl) 28 _ _ rfl Try.in28 #[.int .i64 c.k] (by simp [Act.eval]) ?_
  refine (isk_any c.k _).mono ?_
  rintro e w1_ ⟨rfl, hw_⟩
  refine ⟨_, rfl, ?_⟩
  have hw_ := hw_.symm
  subst hw_
  simp only [Act.put, pqA, pqB, pqC]
  refine VlS (.bool (!kmay c.k)) ?_
  refine WL.nil (hK8 _ _ ?_)
  cases hkm : kmay c.k
  ·simp only [Bool.not_false]
   refine wp_cond_true rfl ?_
   refine wp_seq_k fun K9 hK9 => rgn ?_
   refine VlS (.int .i64 40) ?_
   refine WL.nil (hK9 _ _ ?_)
   refine wp_ret ?_
   go_ret
   exact ⟨by rw [wrongI, okK_no Hc.out hkm]; rfl, B4.out⟩
  ·simp only [Bool.not_true]
   have hw3 : IntKind.i64.wrap ((t : Int) + 1) = ((t + 1 : Nat) : Int) := by rw [IntKind.wrap_i64]; have := HN.out; omega
   refine wp_cond_false rfl ?_
   refine wp_skip ?_
   refine hK6 _ _ ?_
   refine rgn ?_
   refine VlS (.int .i64 ((t + 1 : Nat) : Int)) ?_
   refine VlS (.int .i64 ((t + 1 : Nat) : Int)) ?_
   refine WL.nil ?_
   refine ⟨⟨t + 1, rfl, by omega, B4.out, fun i d hi hd => ?_⟩, ?_⟩
   ·by_cases e : i = t
    ·subst e; rw [Hc.out] at hd; injection hd with hd; subst hd; exact hkm
    ·exact HI.out i d (by omega) hd
   ·simp only [intOf]; show n - (((t + 1 : Nat) : Int)).toNat < n - ((t : Int)).toNat; omega
 ·have htl' : ¬ (t : Int) < (n : Int) := by omega
  have HKy : Keep (∀ (i : Nat) (c : CV), i < L.length → L[i]? = some c → kmay c.k = true) := ⟨fun i c hi hc => HI.out i c (by rw [hn.out] at hi; omega) hc⟩
  refine wp_seq_k fun K10 hK10 => rgn ?_
  refine VbF ?_
  refine WL.nil (hK10 _ _ ?_)
  refine wp_seq_k fun K11 hK11 => ?_
  refine wp_cond_false rfl ?_
  refine wp_exit ?_
  refine hK2 _ _ ?_
  refine wp_seq_k fun K12 hK12 => ?_
  refine wp_seq_k fun K13 hK13 => rgn ?_
  refine VlS (.int .i64 1) ?_
  refine WL.nil (hK13 _ _ ?_)
  refine wp_block ?_
  refine wp_loop (fun ac wq => ∃ (u : Nat), ac = apF (fun g => { tmps := #[.slice la n cap, undef, g 2, undef, f 4, .int .i64 ((u + 1 : Nat) : Int), .slice la n cap, .int .i64 (n : Int), .int .i64 (t : Int), .bool false, f 10, f 11, f 12, f 13, f 14, f 15, f 16, g 17, g 18, g 19, g 20, g 21, g 22, g 23, g 24, g 25, g 26, g 27, g 28, g 29, g 30, g 31, g 32, g 33, g 34, g 35, g 36, g 37, g 38, g 39], defers := [] }) ac ∧ u ≤ n ∧ Below w.heap.size w wq ∧ (∀ (i : Nat) (c d : CV), i < u → L[i]? = some c → L[i + 1]? = some d → aheI c.k c.s d.k d.s = true)) (fun a _ => n + 1 - (intOf (a.tmps.getD 5 undef)).toNat) ⟨0, rfl, by omega, B1.out, fun i c d hi _ _ => by omega⟩ ?_
  rintro ac wq ⟨u, hac, hu, hb2, hJ⟩
  obtain ⟨g, rfl⟩ := unF hac
  have BB := Keep.mk hb2
  have HJ := Keep.mk hJ
  clear hb2 hJ
  by_cases hul : u + 1 < n
  ·have hul' : ((u + 1 : Nat) : Int) < (n : Int) := by omega
   have hw4 : IntKind.i64.wrap (((u + 1 : Nat) : Int) - 1) = (u : Int) := by rw [IntKind.wrap_i64]; have := HN.out; omega
   have hul2 : (u : Int) < (n : Int) := by omega
   have hul3 : (u : Int) + 1 < (n : Int) := by omega
   have hul4 : ¬ (u : Int) + 1 < 0 := by omega
   have hw8 : IntKind.i64.wrap (u : Int) = (u : Int) := by rw [IntKind.wrap_i64]; have := HN.out; omega
   have hw6 : IntKind.i64.wrap ((u : Int) + 1 - 1) = (u : Int) := by rw [IntKind.wrap_i64]; have := HN.out; omega
   obtain ⟨b, off, hla, hcx⟩ := HC.out (by omega)
   subst hla
   have HX0 := Keep.mk hcx
   clear hcx
   obtain ⟨c, Hc⟩ : ∃ z, Keep (L[u]? = some z) := ⟨L[u]'(by rw [hn.out]; omega), ⟨List.getElem?_eq_getElem _⟩⟩
   obtain ⟨d, Hd⟩ : ∃ z, Keep (L[u + 1]? = some z) := ⟨L[u + 1]'(by rw [hn.out]; omega), ⟨List.getElem?_eq_getElem _⟩⟩
   refine wp_seq_k fun K14 hK14 => ?_
   refine wp_seq_k fun K15 hK15 => rgn ?_
   refine VlS (.int .i64 ((u + 1 : Nat) : Int)) ?_
   refine VlS (.slice (some ⟨b, off, none⟩) n cap) ?_
   refine VlS (.int .i64 (n : Int)) ?_
   refine VbT ?_
   refine WL.nil (hK15 _ _ ?_)
   refine wp_cond_true rfl ?_
   refine wp_skip ?_
   refine hK14 _ _ ?_
   refine wp_seq_k fun K16 hK16 => ?_
   refine wp_block ?_
   refine wp_seq_k fun K17 hK17 => ?_
   have hS0 : Keep (∀ wx, Below B w wx → (fun wx => Below B w wx ∧ wx.rangeAt b (off + u * 3) (cvL c) ∧ wx.cell? ⟨b, off + (u + 1) * 3, none⟩ = some (.int .i64 d.k) ∧ wx.cell? ⟨b, off + (u + 1) * 3 + 1, none⟩ = some (.string d.s)) wx) := ⟨fun wx hb => by
    have hx := HX0.out.below hb
    exact ⟨hb, hx.at_ u c Hc.out, (hx.c Hd.out).1, (hx.c Hd.out).2.1⟩⟩
   have BE : Keep (Below w.heap.size w wq.drew) := ⟨BB.out.drew⟩
   refine wp_region_held_drew (S := fun wx => Below B w wx ∧ wx.rangeAt b (off + u * 3) (cvL c) ∧ wx.cell? ⟨b, off + (u + 1) * 3, none⟩ = some (.int .i64 d.k) ∧ wx.cell? ⟨b, off + (u + 1) * 3 + 1, none⟩ = some (.string d.s)) (by kernel_rfl) (hS0.out _ (BE.out.mono HB.out)) (fun hHeld => ?_)
   refine tkS (i := 0) (oi := ⟨some 23, Op.move (Operand.tmp 0), 23, _, _, none⟩) (v := .slice (some ⟨b, off, none⟩) n cap) rfl (Or.inl ⟨by rfl, fun w hS => by obtain ⟨hS0_, hS1, hS3, hS4⟩ := hS; clear hS0_ hS1; go_simp⟩) hHeld ?_
   refine tkS (i := 1) (oi := ⟨some 24, Op.move (Operand.tmp 5), 3, _, _, none⟩) (v := .int .i64 ((u + 1 : Nat) : Int)) rfl (Or.inl ⟨by rfl, fun w hS => by obtain ⟨hS0_, hS1, hS3, hS4⟩ := hS; clear hS0_ hS1; go_simp⟩) hHeld ?_
   refine tkS (i := 5) (oi := ⟨some 28, Op.move (Operand.tmp 0), 23, _, _, none⟩) (v := .slice (some ⟨b, off, none⟩) n cap) rfl (Or.inl ⟨by rfl, fun w hS => by obtain ⟨hS0_, hS1, hS3, hS4⟩ := hS; clear hS0_ hS1; go_simp⟩) hHeld ?_
   refine tkS (i := 6) (oi := ⟨some 29, Op.move (Operand.tmp 5), 3, _, _, none⟩) (v := .int .i64 ((u + 1 : Nat) : Int)) rfl (Or.inl ⟨by rfl, fun w hS => by obtain ⟨hS0_, hS1, hS3, hS4⟩ := hS; clear hS0_ hS1; go_simp⟩) hHeld ?_
   refine tkS (i := 10) (oi := ⟨some 33, Op.move (Operand.tmp 0), 23, _, _, none⟩) (v := .slice (some ⟨b, off, none⟩) n cap) rfl (Or.inl ⟨by rfl, fun w hS => by obtain ⟨hS0_, hS1, hS3, hS4⟩ := hS; clear hS0_ hS1; go_simp⟩) hHeld ?_
   refine tkS (i := 11) (oi := ⟨some 34, Op.move (Operand.tmp 5), 3, _, _, none⟩) (v := .int .i64 ((u + 1 : Nat) : Int)) rfl (Or.inl ⟨by rfl, fun w hS => by obtain ⟨hS0_, hS1, hS3, hS4⟩ := hS; clear hS0_ hS1; go_simp⟩) hHeld ?_
   refine tkS (i := 2) (oi := ⟨some 25, Op.binOp BinOp.sub 3 (Operand.tmp 24) (Operand.const (Value.int IntKind.i64 1)) 3, 3, _, _, none⟩) (v := .int .i64 (u : Int)) rfl (Or.inl ⟨by rfl, fun w hS => by obtain ⟨hS0_, hS1, hS3, hS4⟩ := hS; clear hS0_ hS1; go_simp⟩) hHeld ?_
   refine tkS (i := 7) (oi := ⟨some 30, Op.indexAddr 23 (Operand.tmp 28) (Operand.tmp 29), 0, _, _, none⟩) (v := .pointer (some ⟨b, off + (u + 1) * 3, none⟩)) rfl (Or.inl ⟨by rfl, fun w hS => by obtain ⟨hS0_, hS1, hS3, hS4⟩ := hS; clear hS0_ hS1; go_simp⟩) hHeld ?_
   refine tkS (i := 12) (oi := ⟨some 35, Op.indexAddr 23 (Operand.tmp 33) (Operand.tmp 34), 0, _, _, none⟩) (v := .pointer (some ⟨b, off + (u + 1) * 3, none⟩)) rfl (Or.inl ⟨by rfl, fun w hS => by obtain ⟨hS0_, hS1, hS3, hS4⟩ := hS; clear hS0_ hS1; go_simp⟩) hHeld ?_
   refine tkS (i := 3) (oi := ⟨some 26, Op.indexAddr 23 (Operand.tmp 23) (Operand.tmp 25), 0, _, _, none⟩) (v := .pointer (some ⟨b, off + u * 3, none⟩)) rfl (Or.inl ⟨by rfl, fun w hS => by obtain ⟨hS0_, hS1, hS3, hS4⟩ := hS; clear hS0_ hS1; go_simp⟩) hHeld ?_
   refine tkS (i := 8) (oi := ⟨some 31, Op.fieldAddr 40 (Operand.tmp 30) 0, 0, _, _, none⟩) (v := .pointer (some ⟨b, off + (u + 1) * 3, none⟩)) rfl (Or.inl ⟨by rfl, fun w hS => by obtain ⟨hS0_, hS1, hS3, hS4⟩ := hS; clear hS0_ hS1; go_simp⟩) hHeld ?_
   refine tkS (i := 13) (oi := ⟨some 36, Op.fieldAddr 40 (Operand.tmp 35) 1, 0, _, _, none⟩) (v := .pointer (some ⟨b, off + (u + 1) * 3 + 1, none⟩)) rfl (Or.inl ⟨by rfl, fun w hS => by obtain ⟨hS0_, hS1, hS3, hS4⟩ := hS; clear hS0_ hS1; go_simp⟩) hHeld ?_
   refine tkS (i := 4) (oi := ⟨some 27, Op.load 40 (Operand.tmp 26), 40, _, _, none⟩) (v := .agg #[.int .i64 c.k, .string c.s, c.v]) rfl (yieldsIf_ld (by rfl) (Operand.tmp 26) 40 rfl b (off + u * 3) rfl #[.int .i64 c.k, .string c.s, c.v] _ Try.underlying40 rfl (Try.sizeC _ _ _) fun w hS => hS.2.1) hHeld ?_
   refine tkS (i := 9) (oi := ⟨some 32, Op.load 3 (Operand.tmp 31), 3, _, _, none⟩) (v := .int .i64 d.k) rfl (Or.inl ⟨by rfl, fun w hS => by obtain ⟨hS0_, hS1, hS3, hS4⟩ := hS; clear hS0_ hS1; go_simp⟩) hHeld ?_
   refine tkS (i := 14) (oi := ⟨some 37, Op.load 9 (Operand.tmp 36), 9, _, _, none⟩) (v := .string d.s) rfl (Or.inl ⟨by rfl, fun w hS => by obtain ⟨hS0_, hS1, hS3, hS4⟩ := hS; clear hS0_ hS1; go_simp⟩) hHeld ?_
   refine wpAnyH_ready (rs := [15]) (by kernel_rfl) (by simp) ?_
   refine AllReadyH.cons (o := ⟨some 38, Op.call { callee := Callee.value (Operand.func 46), args := #[Operand.tmp 27, Operand.tmp 32, Operand.tmp 37], argTypes := #[40, 3, 9] }, 3, _, _, none⟩) rfl (fun K hK => ?_) AllReadyH.nil
   rw [if_pos (by rfl)]
   refine wp_callF 46 _ _ rfl Try.in46 #[.agg #[.int .i64 c.k, .string c.s, c.v], .int .i64 d.k, .string d.s] (by simp [Act.eval]) (fun vz wz => vz = .int .i64 (stI c.k c.s d.k d.s) ∧ Below wq.drew.heap.size wq.drew wz) ?_ ?_
   ·refine (stands_any c.k d.k c.s d.s c.v _).mono ?_
    rintro e wz ⟨rfl, k1⟩
    exact ⟨_, rfl, rfl, k1⟩
   rintro vz wg ⟨rfl, k1⟩
   have BF : Keep (Below w.heap.size w wg) := ⟨BE.out.trans (k1.mono BE.out.size)⟩
   clear k1
   refine hK _ _ (hS0.out _ (BF.out.mono HB.out)) fun hH1 => ?_
   clear hK
   simp only [Act.put, pqA, pqB, pqC]
   refine tkS (i := 16) (oi := ⟨some 39, Op.binOp BinOp.geq 3 (Operand.tmp 38) (Operand.const (Value.int IntKind.i64 0)) 3, 4, _, _, none⟩) (v := .bool (decide (0 ≤ stI c.k c.s d.k d.s))) rfl (Or.inl ⟨by rfl, fun w hS => by obtain ⟨hS0_, hS1, hS3, hS4⟩ := hS; clear hS0_ hS1; go_simp⟩) hH1 ?_
   refine wpAnyH_done (by kernel_rfl) ?_ _
   refine hK17 _ _ ?_
   have hge : (decide (0 ≤ stI c.k c.s d.k d.s)) = !aheI c.k c.s d.k d.s := by
    have h := stI_lt c.k c.s d.k d.s
    cases e : aheI c.k c.s d.k d.s
    ·rw [e] at h; have : ¬ stI c.k c.s d.k d.s < 0 := fun x => by simpa using h.1 x
     simp; omega
    ·have := h.2 e; simp; omega
   rw [hge]
   cases hah : aheI c.k c.s d.k d.s
   ·simp only [Bool.not_false]
    refine wp_cond_true rfl ?_
    refine wp_seq_k fun K18 hK18 => rgn ?_
    refine VlS (.int .i64 130) ?_
    refine WL.nil (hK18 _ _ ?_)
    refine wp_ret ?_
    go_ret
    exact ⟨by rw [wrongI, okK_yes HKy.out, okO_no Hc.out Hd.out hah]; rfl, BF.out⟩
   ·simp only [Bool.not_true]
    have hw5 : IntKind.i64.wrap (((u + 1 : Nat) : Int) + 1) = ((u + 1 + 1 : Nat) : Int) := by rw [IntKind.wrap_i64]; have := HN.out; omega
    have hw7 : IntKind.i64.wrap ((u : Int) + 1 + 1) = (u : Int) + 1 + 1 := by rw [IntKind.wrap_i64]; have := HN.out; omega
    refine wp_cond_false rfl ?_
    refine wp_skip ?_
    refine hK16 _ _ ?_
    refine rgn ?_
    refine VlS (.int .i64 ((u + 1 : Nat) : Int)) ?_
    refine VlS (.int .i64 ((u + 1 + 1 : Nat) : Int)) ?_
    refine VlS (.int .i64 ((u + 1 + 1 : Nat) : Int)) ?_
    refine WL.nil ?_
    refine ⟨⟨u + 1, rfl, by omega, BF.out, fun i x y hi hx hy => ?_⟩, ?_⟩
    ·by_cases e : i = u
     ·subst e; rw [Hc.out] at hx; rw [Hd.out] at hy; injection hx with hx; injection hy with hy; subst hx hy; exact hah
     ·exact HJ.out i x y (by omega) hx hy
    ·simp only [intOf]; show n + 1 - (((u + 1 + 1 : Nat) : Int)).toNat < n + 1 - (((u + 1 : Nat) : Int)).toNat; omega
  ·have hul' : ¬ ((u + 1 : Nat) : Int) < (n : Int) := by omega
   have hul3 : ¬ (u : Int) + 1 < (n : Int) := by omega
   have HOy : Keep (∀ (i : Nat) (c d : CV), L[i]? = some c → L[i + 1]? = some d → aheI c.k c.s d.k d.s = true) := ⟨fun i c d hc hd => HJ.out i c d (by have := (List.getElem?_eq_some_iff.1 hd).1; rw [hn.out] at this; omega) hc hd⟩
   refine wp_seq_k fun K19 hK19 => ?_
   refine wp_seq_k fun K20 hK20 => rgn ?_
   refine VlS (.int .i64 ((u + 1 : Nat) : Int)) ?_
   refine VlS (.slice la n cap) ?_
   refine VlS (.int .i64 (n : Int)) ?_
   refine VbF ?_
   refine WL.nil (hK20 _ _ ?_)
   refine wp_cond_false rfl ?_
   refine wp_exit ?_
   refine hK12 _ _ ?_
   refine wp_seq_k fun K21 hK21 => rgn ?_
   refine VlS (.int .i64 0) ?_
   refine WL.nil (hK21 _ _ ?_)
   refine wp_ret ?_
   go_ret
   exact ⟨by rw [wrongI, okK_yes HKy.out, okO_yes HOy.out]; rfl, BB.out⟩

theorem run_callC {P : Program} (a : Act) (o : Oper) (f : FuncId) (x : Operand) (args : Array Operand) (ts : Array TypeId) (cs : Array Value) (ho : o.op = .call { callee := .value x, args := args, argTypes := ts }) (hx : a.eval x = .func (.func f) #[] cs)
  (hf : ∀ (w : World) (vs : Array Value), (callFunc f vs).run P w = .ok (.enter f vs) w) (w : World) :
  (execOp a.eval o).run P w = .ok (.enter f (args.map a.eval ++ cs)) w := by
 unfold execOp
 simp only [ho, resolve, hx]
 generalize Array.map a.eval args = vs
 simp [go_sem]
 exact hf w _
theorem WL.callC {P : Program} {ops : Array Oper} {rest : List Oper} {o : Oper} {a : Act} {w : World} {Q : Exit → Act → World → Prop} (hw : Region.wanted o (yielded ops a.tmps) = true) (f : FuncId) (x : Operand) (args : Array Operand) (ts : Array TypeId) (cs : Array Value) (ho : o.op = .call { callee := .value x, args := args, argTypes := ts }) (hx : a.eval x = .func (.func f) #[] cs)
  (hf : ∀ (w : World) (vs : Array Value), (callFunc f vs).run P w = .ok (.enter f vs) w) (vs : Array Value) (hvs : args.map a.eval ++ cs = vs)
  (hc : Calls P f vs w fun e w' => ∃ v, e = .returned v ∧ WL P ops Q rest (a.put o.dst v) w') : WL P ops Q (o :: rest) a w :=
 ⟨wpList_wanted hw fun K hK => by
  unfold Oper.wp
  rw [run_callC a o f x args ts cs ho hx hf w, Oper.upon_enter, hvs]
  refine hc.mono ?_
  rintro e w' ⟨v, rfl, hr⟩
  exact hK _ _ hr.out⟩
theorem wp_callC {P : Program} {Q : Exit → Act → World → Prop} {o : Oper} {a : Act} {w : World} {K : Act → World → Prop} (f : FuncId) (x : Operand) (args : Array Operand) (ts : Array TypeId) (cs : Array Value) (ho : o.op = .call { callee := .value x, args := args, argTypes := ts }) (hx : a.eval x = .func (.func f) #[] cs)
  (hf : ∀ (w : World) (vs : Array Value), (callFunc f vs).run P w = .ok (.enter f vs) w)
  (vs : Array Value) (hvs : args.map a.eval ++ cs = vs)
  (R : Value → World → Prop) (hc : Calls P f vs w fun e w' => ∃ v, e = .returned v ∧ R v w')
  (h : ∀ v w', R v w' → K (a.put o.dst v) w') : o.wp P a w K Q := by
 unfold Oper.wp
 rw [run_callC a o f x args ts cs ho hx hf w, Oper.upon_enter, hvs]
 refine hc.mono ?_
 rintro e w' ⟨v, rfl, hr⟩
 exact h v w' hr
structure PX where
 v : Value
 ps : List Hs
structure TE where
 pl : Nat
 pd : Nat
 pn : Nat
 pp : Nat
 gp : Nat
 lv : Value
 nv : Value
def TE.cl (E : TE) : Value := .func (.func 48) #[] #[ptr E.pl, ptr E.pd, ptr E.pn, ptr E.pp]
def NS (E : TE) (Ps : List PX) (k : Nat) : Prop := k = E.gp ∨ ∃ P ∈ Ps, P.v.ownBlock = some k
def NsV (w : World) (v : Value) (ns : List Nat) : Prop :=
 (∃ a c, v = .slice a 0 c ∧ ns = []) ∨ ∃ g c, v = .slice (some ⟨g, 0, none⟩) ns.length c ∧ Typ w g 3 ∧ ∀ (j n : Nat), ns[j]? = some n → w.cell? ⟨g, j, none⟩ = some (.int .i64 (n : Int))
structure TS (B : Nat) (w : World) (E : TE) (ns : List Nat) (Ps : List PX) : Prop where
 bl : Blk w E.pl 23 #[E.lv]
 bd : Blk w E.pd 90 #[E.cl]
 bn : Blk w E.pn 64 #[E.nv]
 bp : Blk w E.pp 55 #[.slice (some ⟨E.gp, 0, none⟩) Ps.length Ps.length]
 bg : Blk w E.gp 67 (Ps.map (·.v)).toArray
 num : NsV w E.nv ns
 len : Ps.length = ns.length
 own : ∀ P ∈ Ps, w.ownsRow B 25 32 P.v P.ps.length (flatH P.ps)
 apt : ∀ (i j : Nat) (P Q : PX), Ps[i]? = some P → Ps[j]? = some Q → i ≠ j → ∀ k, P.v.ownBlock = some k → Q.v.ownBlock ≠ some k
 ge : B ≤ E.gp
theorem TS.lt {B : Nat} {w : World} {E : TE} {ns : List Nat} {Ps : List PX} (h : TS B w E ns Ps) {k : Nat} (hk : NS E Ps k) : k < w.heap.size := by
 rcases hk with rfl | ⟨P, hP, e⟩
 ·exact h.bg.lt
 ·exact (owns_lt (h.own P hP) k e).2
theorem TS.geB {B : Nat} {w : World} {E : TE} {ns : List Nat} {Ps : List PX} (h : TS B w E ns Ps) {k : Nat} (hk : NS E Ps k) : B ≤ k := by
 rcases hk with rfl | ⟨P, hP, e⟩
 ·exact h.ge
 ·exact (owns_lt (h.own P hP) k e).1
theorem NsV.grown {w w' : World} {v : Value} {ns : List Nat} {S : Nat → Prop} (h : NsV w v ns) (hg : Grown w w' S) (hs : ∀ k, Typ w k 3 → ¬ S k) : NsV w' v ns := by
 rcases h with h | ⟨g, c, e, ht, hc⟩
 ·exact .inl h
 ·exact .inr ⟨g, c, e, hg.typ ht (hs g ht), fun j n hn => hg.cell (hc j n hn) (hs g ht)⟩
theorem TS.grown {B : Nat} {w w' : World} {E : TE} {ns : List Nat} {Ps : List PX} {S : Nat → Prop} (h : TS B w E ns Ps) (hg : Grown w w' S) (hs : ∀ k, k < w.heap.size → ¬ S k) : TS B w' E ns Ps where
 bl := hg.blk h.bl (hs _ h.bl.lt)
 bd := hg.blk h.bd (hs _ h.bd.lt)
 bn := hg.blk h.bn (hs _ h.bn.lt)
 bp := hg.blk h.bp (hs _ h.bp.lt)
 bg := hg.blk h.bg (hs _ h.bg.lt)
 num := h.num.grown hg fun k hk => hs k hk.lt
 len := h.len
 own := fun P hP => owns_grown (h.own P hP) hg fun k hk => hs k (owns_lt (h.own P hP) k hk).2
 apt := h.apt
 ge := h.ge
theorem TS.below {B : Nat} {w w' : World} {E : TE} {ns : List Nat} {Ps : List PX} (h : TS B w E ns Ps) (hb : Below w.heap.size w w') : TS B w' E ns Ps := h.grown (Grown.below (S := fun _ => False) hb) fun _ _ e => e
structure Bx (w : World) (E : TE) (Ps : List PX) (r : Nat) (c : Array Value) : Prop where
 blk : Blk w r 25 c
 off : ¬ NS E Ps r
theorem Bx.below {w w' : World} {E : TE} {Ps : List PX} {r : Nat} {c : Array Value} (h : Bx w E Ps r c) (hb : Below w.heap.size w w') : Bx w' E Ps r c := ⟨h.blk.below hb h.blk.lt, h.off⟩
structure TN (w w' : World) (E : TE) (Ps Ps' : List PX) : Prop where
 gr : Grown w w' (NS E Ps)
 nw : ∀ k, NS E Ps' k → k < w.heap.size → NS E Ps k
theorem TN.below {w w' : World} {E : TE} {Ps : List PX} (hb : Below w.heap.size w w') : TN w w' E Ps Ps := ⟨Grown.below hb, fun _ h _ => h⟩
theorem TN.trans {a b c : World} {E : TE} {P Q R : List PX} (h : TN a b E P Q) (k : TN b c E Q R) : TN a c E P R :=
 ⟨h.gr.next k.gr fun i hi e => h.nw i e hi, fun i hi hl => h.nw i (k.nw i hi (Nat.lt_of_lt_of_le hl h.gr.size)) hl⟩
theorem Bx.next {w w' : World} {E : TE} {Ps Ps' : List PX} {r : Nat} {c : Array Value} (h : Bx w E Ps r c) (hn : TN w w' E Ps Ps') : Bx w' E Ps' r c :=
 ⟨hn.gr.blk h.blk h.off, fun e => h.off (hn.nw r e h.blk.lt)⟩
theorem Bx.new {B : Nat} {w : World} {E : TE} {ns : List Nat} {Ps : List PX} (h : TS B w E ns Ps) (c : Array Value) : Bx (w.alloc (.cells c 25)) E Ps w.heap.size c :=
 ⟨Blk.new w 25 c, fun e => by have := h.lt e; omega⟩
theorem TS.box {B : Nat} {w : World} {E : TE} {ns : List Nat} {Ps : List PX} {r : Nat} {c : Array Value} (h : TS B w E ns Ps) (hr : Bx w E Ps r c) (c' : Array Value) : TS B (w.setRow r c') E ns Ps := by
 have hg : Grown w (w.setRow r c') (fun k => k = r) := Grown.setRow w r c' fun _ => rfl
 have h1 : ∀ {k T : Nat} {cs : Array Value}, Blk w k T cs → T ≠ 25 → ¬ k = r := fun hk ht e => by subst e; exact ht (blk_type hk hr.blk)
 exact ⟨hg.blk h.bl (h1 h.bl (by decide)), hg.blk h.bd (h1 h.bd (by decide)), hg.blk h.bn (h1 h.bn (by decide)), hg.blk h.bp (h1 h.bp (by decide)), hg.blk h.bg (h1 h.bg (by decide)), h.num.grown hg fun k hk e => by subst e; exact absurd (hk.one hr.blk.typ) (by decide), h.len, fun P hP => owns_grown (h.own P hP) hg fun k hk e => by subst e; exact hr.off (.inr ⟨P, hP, hk⟩), h.apt, h.ge⟩
theorem Bx.set {w : World} {E : TE} {Ps : List PX} {r : Nat} {c : Array Value} (h : Bx w E Ps r c) (c' : Array Value) : Bx (w.setRow r c') E Ps r c' := ⟨h.blk.setRow c', h.off⟩
theorem Bx.ne {w : World} {E : TE} {Ps : List PX} {r q : Nat} {c : Array Value} (h : Bx w E Ps r c) (hn : r ≠ q) (c' : Array Value) : Bx (w.setRow q c') E Ps r c := ⟨h.blk.setRow_ne hn c', h.off⟩
theorem TS.add {B : Nat} {w w1 : World} {E : TE} {ns : List Nat} {Ps : List PX} {t : Nat} {P : PX} {v : Value} {x : Hs} (h : TS B w E ns Ps) (hP : Ps[t]? = some P) (ho : w1.ownsRow B 25 32 v (P.ps ++ [x]).length (flatH (P.ps ++ [x]))) (hg : Grown w w1 fun k => P.v.ownBlock = some k) (hm : v.ownBlock = P.v.ownBlock ∨ v.ownBlock = some w.heap.size) :
  TS B (w1.setCell ⟨E.gp, t, none⟩ v) E ns (Ps.set t ⟨v, P.ps ++ [x]⟩) ∧ TN w (w1.setCell ⟨E.gp, t, none⟩ v) E Ps (Ps.set t ⟨v, P.ps ++ [x]⟩) := by
 have hPm : P ∈ Ps := List.mem_of_getElem? hP
 have htl : t < Ps.length := (List.getElem?_eq_some_iff.1 hP).1
 have hS : ∀ {k T : Nat} {cs : Array Value}, Blk w k T cs → T ≠ 25 → ¬ P.v.ownBlock = some k := fun hk ht e => absurd ((owns_typ (h.own P hPm) e).one hk.typ) (fun e' => ht e'.symm)
 have hgp := hg.blk h.bg (hS h.bg (by decide))
 have hc : Grown w1 (w1.setCell ⟨E.gp, t, none⟩ v) (fun k => k = E.gp) := Grown.setCell w1 E.gp t v fun _ => rfl
 have hb : ∀ {k T : Nat} {cs : Array Value}, Blk w k T cs → T ≠ 25 → T ≠ 67 → Blk (w1.setCell ⟨E.gp, t, none⟩ v) k T cs := fun hk h1 h2 => hc.blk (hg.blk hk (hS hk h1)) fun e => by subst e; exact h2 (blk_type hk h.bg)
 have hvg : ∀ k, v.ownBlock = some k → k ≠ E.gp := fun k hk e => by subst e; exact absurd ((owns_typ ho hk).one hgp.typ) (by decide)
 refine ⟨⟨hb h.bl (by decide) (by decide), hb h.bd (by decide) (by decide), hb h.bn (by decide) (by decide), ?_, ?_, ?_, ?_, ?_, ?_, h.ge⟩, ?_, ?_⟩
 ·rw [List.length_set]; exact hb h.bp (by decide) (by decide)
 ·have h1 := hgp.set t v
  have h2 : (Ps.map (·.v)).toArray.setIfInBounds t v = ((Ps.set t ⟨v, P.ps ++ [x]⟩).map (·.v)).toArray := by
   rw [List.setIfInBounds_toArray, List.map_set]
  rw [h2] at h1
  exact h1
 ·refine (h.num.grown hg fun k hk e => absurd ((owns_typ (h.own P hPm) e).one hk) (by decide)).grown hc fun k hk e => ?_
  subst e
  exact absurd (hk.one hgp.typ) (by decide)
 ·rw [List.length_set]; exact h.len
 ·intro Q hQ
  obtain ⟨j, hj, e⟩ := List.getElem_of_mem hQ
  rw [List.length_set] at hj
  rw [List.getElem_set] at e
  split at e
  ·subst e
   exact owns_grown ho hc hvg
  ·rename_i hne
   subst e
   have hq := h.own Ps[j] (List.getElem_mem hj)
   refine owns_grown (owns_grown hq hg fun k hk e => ?_) hc fun k hk e => ?_
   ·exact h.apt t j P Ps[j] hP (List.getElem?_eq_getElem hj) hne k e hk
   ·subst e; exact absurd ((owns_typ hq hk).one h.bg.typ) (by decide)
 ·intro i j Q R hQ hR hne k hk hk'
  rw [List.getElem?_set] at hQ hR
  have hnew : ∀ (z : Nat) (Z : PX), Ps[z]? = some Z → z ≠ t → ∀ k, v.ownBlock = some k → Z.v.ownBlock ≠ some k := fun z Z hZ hz k hk e => by
   rcases hm with e' | e'
   ·rw [e'] at hk; exact h.apt t z P Z hP hZ (Ne.symm hz) k hk e
   ·rw [e'] at hk
    injection hk with hk
    have := (owns_lt (h.own Z (List.mem_of_getElem? hZ)) k e).2
    omega
  split at hQ
  ·rename_i hi
   injection hQ with hQ
   subst hQ
   rw [if_neg (by omega)] at hR
   exact hnew j R hR (by omega) k hk hk'
  ·rename_i hi
   split at hR
   ·rename_i hj
    injection hR with hR
    subst hR
    exact hnew i Q hQ (by omega) k hk' hk
   ·exact h.apt i j Q R hQ hR hne k hk hk'
 ·refine (Grown.mono hg fun i _ e => .inr ⟨P, hPm, e⟩ : Grown w w1 (NS E Ps)).next hc fun i _ e => .inl e
 ·intro k hk hl
  rcases hk with e | ⟨Q, hQ, e⟩
  ·exact .inl e
  ·obtain ⟨j, hj, e'⟩ := List.getElem_of_mem hQ
   rw [List.length_set] at hj
   rw [List.getElem_set] at e'
   split at e'
   ·subst e'
    rcases hm with e2 | e2
    ·rw [e2] at e; exact .inr ⟨P, hPm, e⟩
    ·rw [e2] at e; injection e with e; omega
   ·subst e'
    exact .inr ⟨Ps[j], List.getElem_mem hj, e⟩
def sub (L : List CV) (a b : Nat) : List CV := (L.drop a).take (b - a)
theorem sub_len {L : List CV} {a b : Nat} (h : a ≤ b) (hb : b ≤ L.length) : (sub L a b).length = b - a := by unfold sub; rw [List.length_take, List.length_drop]; omega
theorem sub_take {L : List CV} {a b m : Nat} (h : a + m ≤ b) : (sub L a b).take m = sub L a (a + m) := by
 unfold sub; rw [List.take_take]; congr 1; omega
theorem sub_drop {L : List CV} {a b m : Nat} (h : a + m ≤ b) : (sub L a b).drop m = sub L (a + m) b := by
 unfold sub; rw [List.drop_take, List.drop_drop]; congr 1; omega
theorem sub_one {L : List CV} {a : Nat} {c : CV} (h : L[a]? = some c) : sub L a (a + 1) = [c] := by
 unfold sub
 rw [show a + 1 - a = 1 by omega]
 have hl := (List.getElem?_eq_some_iff.1 h).1
 rw [List.drop_eq_getElem_cons hl]
 have e := (List.getElem?_eq_some_iff.1 h).2
 rw [e]; rfl
def adds (k : Nat) (L : List CV) (a b n : Nat) : List (List Int) := if a ≤ n ∧ n < b then pathL k (sub L a b) (n - a) else []
def UP (k : Nat) (L : List CV) (a b : Nat) (ns : List Nat) (Ps Ps' : List PX) : Prop :=
 ∀ (j n : Nat) (P P' : PX), ns[j]? = some n → Ps[j]? = some P → Ps'[j]? = some P' → P'.ps.map hsL = P.ps.map hsL ++ adds k L a b n
def DP (B k : Nat) (E : TE) (L : List CV) (ns : List Nat) (Ps : List PX) (a b : Nat) (w : World) (e : Ending) (w' : World) : Prop :=
 e = .returned (.agg (bytesA 32 (hof (treeL k (sub L a b))))) ∧ ∃ Ps', TS B w' E ns Ps' ∧ UP k L a b ns Ps Ps' ∧ TN w w' E Ps Ps'

theorem Try.in48 (w : World) (vs : Array Value) : (callFunc 48 vs).run Try.prog w = .ok (.enter 48 vs) w := by kernel_rfl
theorem run_appX (w : World) (ty : TypeId) (B : Nat) (v : Value) (L : List Hs) (x : Hs) (g c : Nat) (hown : w.ownsRow B 25 32 v L.length (flatH L)) (hc : w.rangeAt g 0 (encH x)) (hb : L.length + 1 ≤ 4398046511104) (hB : B ≤ w.heap.size) :
  ∃ v' w', (Builtin.append_ #[67, 67] ty #[v, .slice (some ⟨g, 0, none⟩) 1 c]).run Try.prog w = .ok v' w' ∧ w'.ownsRow B 25 32 v' (L ++ [x]).length (flatH (L ++ [x])) ∧ (Grown w w' fun k => v.ownBlock = some k) ∧ (v'.ownBlock = v.ownBlock ∨ v'.ownBlock = some w.heap.size) := by
 obtain ⟨i, hi, hzz⟩ := Option.map_eq_some_iff.1 Try.info25
 simp only [Prod.mk.injEq] at hzz
 obtain ⟨hz, hsz, hby⟩ := hzz
 have hzs : (Value.agg (bytesA 32 fun _ => 0)).cells.size = 32 := by show (bytesA 32 fun _ => 0).size = 32; exact bytesA_size _ _
 obtain ⟨v', w', hr, h1, h2, _, h3⟩ := run_append_own_at (P := Try.prog) w B 67 ty 25 i _ 32 32 Try.underlying67 hi hz hsz hby hzs (by omega) v L.length _ hown ⟨g, 0, none⟩ 1 c (encH x) (encH_len x) (fun j u hu => by rw [Addr.add_mid]; exact hc j u hu) (encH_one x) (by unfold maxLen; omega) (by omega) hB
 refine ⟨v', w', hr, ?_, Grown.of h2 fun k _ e => e, h3⟩
 rw [flatH_app, List.length_append]
 have e : flatH [x] = encH x := by simp [flatH]
 rw [e]
 exact h1
theorem wp_appX {Q : Exit → Act → World → Prop} {o : Oper} {a : Act} {w : World} {K : Act → World → Prop} (s x : Operand)
  (ho : o.op = .call { callee := .builtin .append, args := #[s, x], argTypes := #[67, 67] }) (B : Nat) (v : Value) (L : List Hs) (y : Hs) (g c : Nat)
  (hs : a.eval s = v) (hx : a.eval x = .slice (some ⟨g, 0, none⟩) 1 c) (hown : w.ownsRow B 25 32 v L.length (flatH L)) (hc : w.rangeAt g 0 (encH y)) (hb : L.length + 1 ≤ 4398046511104) (hB : B ≤ w.heap.size)
  (h : ∀ v' w', w'.ownsRow B 25 32 v' (L ++ [y]).length (flatH (L ++ [y])) → (Grown w w' fun k => v.ownBlock = some k) → (v'.ownBlock = v.ownBlock ∨ v'.ownBlock = some w.heap.size) → K (a.put o.dst v') w') : o.wp Try.prog a w K Q := by
 obtain ⟨v', w', hr, h1, h2, h3⟩ := run_appX w o.type B v L y g c hown hc hb hB
 unfold Oper.wp execOp
 simp only [ho, resolve, invoke, builtin, Sem.run_bind, Sem.run_pure, Result.andThen_ok, List.map_toArray, List.map_cons, List.map_nil, hs, hx, hr]
 exact h v' w' h1 h2 h3
theorem wp_newA {P : Program} {o : Oper} {a : Act} {w : World} {K : Act → World → Prop} {Q : Exit → Act → World → Prop} (t : TypeId) (ho : o.op = .alloc t) (cells : Array Value)
  (hf : ∀ w : World, (Instr.alloc t true (.tuple #[])).run P w = .ok (.pointer (some ⟨w.heap.size, 0, none⟩)) (w.alloc (.cells cells t)))
  (h : K (a.put o.dst (.pointer (some ⟨w.heap.size, 0, none⟩))) (w.alloc (.cells cells t))) : o.wp P a w K Q := by
 have hrun : (execOp a.eval o).run P w = .ok (.value (.pointer (some ⟨w.heap.size, 0, none⟩))) (w.alloc (.cells cells t)) := by
  unfold execOp
  simp only [ho, Sem.run_bind, hf, Result.andThen_ok]
  rfl
 unfold Oper.wp
 rw [hrun, Oper.upon_value]
 exact h
theorem wp_cellS {P : Program} {Q : Exit → Act → World → Prop} {o : Oper} {a : Act} {w : World} {K : Act → World → Prop} (w' : World) (hrun : (execOp a.eval o).run P w = .ok .skip w') (h : K (a.put o.dst undef) w') : o.wp P a w K Q := by
 unfold Oper.wp
 rw [hrun]
 exact h
theorem TN.bel {B : Nat} {w w' : World} {E : TE} {ns : List Nat} {Ps Ps' : List PX} (h : TN w w' E Ps Ps') (hT : TS B w E ns Ps) (hB : B ≤ w.heap.size) : Below B w w' :=
 h.gr.to_below (fun k hk e => by have := hT.geB e; omega) hB
theorem pathL_sz : ∀ (k : Nat) (L : List CV) (i : Nat), 1 ≤ L.length → L.length ≤ k → (pathL k L i).length + 1 ≤ L.length
 | 0, L, i, h1, h2 => by omega
 | k + 1, L, i, h1, h2 => by
  by_cases h : L.length ≤ 1
  ·match L, h1, h with
   | [c], _, _ => rw [pathL_one]; simp
  ·have hh := RtP.half_le (n := L.length) (by omega)
   by_cases hi : i < RtP.half L.length
   ·rw [pathL_lo h hi, List.length_append, List.length_singleton]
    have := pathL_sz k (L.take (RtP.half L.length)) i (by rw [List.length_take]; omega) (by rw [List.length_take]; omega)
    rw [List.length_take] at this
    omega
   ·rw [pathL_hi h hi, List.length_append, List.length_singleton]
    have := pathL_sz k (L.drop (RtP.half L.length)) (i - RtP.half L.length) (by rw [List.length_drop]; omega) (by rw [List.length_drop]; omega)
    rw [List.length_drop] at this
    omega
def Rm (Ps : List PX) (s : Nat) : Prop := ∀ P ∈ Ps, P.ps.length + s ≤ 4398046511104
theorem Rm.up {B k : Nat} {w w' : World} {E : TE} {L : List CV} {ns : List Nat} {Ps Ps' : List PX} {a b s : Nat} (h : Rm Ps (s + (b - a))) (hu : UP k L a b ns Ps Ps') (hT : TS B w E ns Ps) (hT' : TS B w' E ns Ps') (hab : a < b) (hb : b ≤ L.length) (hk : b - a ≤ k) : Rm Ps' s := by
 intro P' hP'
 obtain ⟨j, hj, e⟩ := List.getElem_of_mem hP'
 have h1 := hT.len
 have h2 := hT'.len
 have hP : Ps[j]? = some (Ps[j]'(by omega)) := List.getElem?_eq_getElem _
 have hn : ns[j]? = some (ns[j]'(by omega)) := List.getElem?_eq_getElem _
 have h3 := congrArg List.length (hu j _ _ P' hn hP (by rw [← e]; exact List.getElem?_eq_getElem _))
 have h4 := h (Ps[j]'(by omega)) (List.getElem_mem _)
 rw [List.length_map, List.length_append, List.length_map] at h3
 have h5 : (adds k L a b (ns[j]'(by omega))).length ≤ b - a := by
  unfold adds
  split
  ·have := pathL_sz k (sub L a b) (ns[j]'(by omega) - a) (by rw [sub_len (by omega) hb]; omega) (by rw [sub_len (by omega) hb]; omega)
   rw [sub_len (by omega) hb] at this
   omega
  ·simp
 omega
def lastP (a m b n : Nat) (x y : Hs) : List Hs := if a ≤ n ∧ n < m then [y] else if m ≤ n ∧ n < b then [x] else []
theorem UP.two {k : Nat} {L : List CV} {a b : Nat} {ns : List Nat} {Ps P1 P2 P3 : List PX} {x y : Hs} {m : Nat} (hm : m = a + RtP.half (b - a)) (hab : a + 2 ≤ b) (hb : b ≤ L.length) (hk : b - a ≤ k + 1) (h1 : Ps.length = ns.length) (h2 : P1.length = ns.length) (h3 : P2.length = ns.length)
  (u1 : UP k L a m ns Ps P1) (u2 : UP k L m b ns P1 P2) (hx : hsL x = treeL k (sub L a m)) (hy : hsL y = treeL k (sub L m b))
  (u3 : ∀ (j n : Nat) (P P' : PX), ns[j]? = some n → P2[j]? = some P → P3[j]? = some P' → P'.ps = P.ps ++ lastP a m b n x y) : UP (k + 1) L a b ns Ps P3 := by
 have hh := RtP.half_le (n := b - a) (by omega)
 intro j n P P' hn hP hP'
 have hj : j < ns.length := (List.getElem?_eq_some_iff.1 hn).1
 have e1 : P1[j]? = some (P1[j]'(by omega)) := List.getElem?_eq_getElem _
 have e2 : P2[j]? = some (P2[j]'(by omega)) := List.getElem?_eq_getElem _
 rw [u3 j n _ P' hn e2 hP', List.map_append, u2 j n _ _ hn e1 e2, u1 j n P _ hn hP e1]
 have hl : (sub L a b).length = b - a := sub_len (by omega) hb
 rw [List.append_assoc, List.append_assoc]
 congr 1
 unfold adds lastP
 by_cases c1 : a ≤ n ∧ n < m
 ·rw [if_pos c1, if_neg (by omega), if_pos c1, if_pos (by omega), pathL_lo (by omega) (by rw [hl]; omega), hl, sub_take (by omega), sub_drop (by omega), ← hm]
  simp [hy]
 ·by_cases c2 : m ≤ n ∧ n < b
  ·rw [if_neg c1, if_pos c2, if_neg c1, if_pos c2, if_pos (by omega), pathL_hi (by omega) (by rw [hl]; omega), hl, sub_take (by omega), sub_drop (by omega), ← hm, show n - a - RtP.half (b - a) = n - m by omega]
   simp [hx]
  ·rw [if_neg c1, if_neg c2, if_neg c1, if_neg c2, if_neg (by omega)]
   simp
set_option maxRecDepth 8000 in
theorem down_one (B k : Nat) (E : TE) (b off n cap : Nat) (L : List CV) (ns : List Nat) (Ps : List PX) (i : Nat) (c : CV) (w : World) (hlv : Keep (E.lv = .slice (some ⟨b, off, none⟩) n cap)) (hc : Keep (L[i]? = some c)) (hi : i < n) (hn : n ≤ 1099511627776) (hT : TS B w E ns Ps) (hC : CsAt B w b off L) (hF : Fit L) (hB : B ≤ w.heap.size) :
  Calls Try.prog 48 #[.int .i64 (i : Int), .int .i64 ((i + 1 : Nat) : Int), ptr E.pl, ptr E.pd, ptr E.pn, ptr E.pp] w (DP B (k + 1) E L ns Ps i (i + 1) w) := by
 have HT := Keep.mk hT
 have HC := Keep.mk hC
 have HF := Keep.mk hF
 have HB := Keep.mk hB
 have hck : Keep ((c.k.toNat : Int) = c.k) := ⟨by have := hF c (List.mem_of_getElem? hc.out); omega⟩
 have hw1 : IntKind.i64.wrap (((i + 1 : Nat) : Int) - (i : Int)) = 1 := by rw [IntKind.wrap_i64]; omega
 have hw1' : IntKind.i64.wrap ((i : Int) + 1 - (i : Int)) = 1 := by rw [IntKind.wrap_i64]; omega
 have hil : (i : Int) < (n : Int) := by omega
 clear hT hC hF hB
 go_enter Try.func48, Try.ntmps48
 refine wp_seq_k fun K1 hK1 => rgn ?_
 refine WL.new (by kernel_rfl) 25 rfl _ Try.new25 ?_
 have R1 := Keep.mk (Blk.new w 25 (bytesA 32 fun _ => 0))
 have b1 := Keep.mk (below_new w (.cells (bytesA 32 fun _ => 0) 25))
 change WL _ _ _ _ _ (w.alloc (.cells (bytesA 32 fun _ => 0) 25))
 generalize w.alloc (.cells (bytesA 32 fun _ => 0) 25) = w1 at *
 obtain ⟨r, hr0⟩ : ∃ z, Keep (z = w.heap.size) := ⟨_, ⟨rfl⟩⟩
 rw [← hr0.out] at R1 ⊢
 have T1 := Keep.mk (HT.out.below b1.out)
 have C1 := Keep.mk (HC.out.below (b1.out.mono HB.out))
 have hrw : Keep (w.heap.size ≤ r) := ⟨by rw [hr0.out]; exact Nat.le_refl _⟩
 have cl : w1.cell? ⟨E.pl, 0, none⟩ = some (.slice (some ⟨b, off, none⟩) n cap) := by rw [← hlv.out]; exact T1.out.bl.c 0 rfl
 simp only [Act.put, pqA, pqB, pqC]
 refine WL.nil (hK1 _ _ ?_)
 refine wp_seq_k fun K2 hK2 => ?_
 refine wp_seq_k fun K3 hK3 => rgn ?_
 refine VlS (.int .i64 ((i + 1 : Nat) : Int)) ?_
 refine VlS (.int .i64 (i : Int)) ?_
 refine VlS (.int .i64 1) ?_
 refine VbT ?_
 refine WL.nil (hK3 _ _ ?_)
 refine wp_cond_true rfl ?_
 refine wp_seq_k fun K4 hK4 => rgn ?_
 refine VlS (.slice (some ⟨b, off, none⟩) n cap) ?_
 refine VlS (.int .i64 (i : Int)) ?_
 clear cl
 refine VlS (.pointer (some ⟨b, off + i * 3, none⟩)) ?_
 refine WL.midA (by kernel_rfl) 40 (.tmp 20) rfl b (off + i * 3) rfl #[.int .i64 c.k, .string c.s, c.v] _ (C1.out.at_ i c hc.out) Try.underlying40 rfl (Try.sizeC _ _ _) ?_
 simp only [Act.put, pqA, pqB, pqC]
 have hpl := pleaf_any c.k.toNat c.s c.v c.l w1 (C1.out.row c (List.mem_of_getElem? hc.out)).1 (by have := HF.out c (List.mem_of_getElem? hc.out); omega) (HF.out c (List.mem_of_getElem? hc.out)).2
 rw [hck.out] at hpl
 refine WL.callF (by kernel_rfl) 49 _ _ rfl Try.in49 #[.agg #[.int .i64 c.k, .string c.s, c.v]] (by simp [Act.eval]) ?_
 refine (hpl).mono ?_
 rintro e w8 ⟨rfl, k1⟩
 refine ⟨_, rfl, ?_⟩
 change WL _ _ _ _ (Act.put _ _ (.agg (bytesA 32 (shaP (RtP.leafR numL c.ce))))) w8
 have R8 := Keep.mk (R1.out.below k1 R1.out.lt)
 have B8 : Keep (Below w.heap.size w w8) := ⟨b1.out.trans (k1.mono b1.out.size)⟩
 clear hpl k1
 simp only [Act.put, pqA, pqB, pqC]
 refine WL.storeR (by kernel_rfl) 25 (.tmp 8) (.tmp 22) rfl r (bytesA 32 (shaP (RtP.leafR numL c.ce))) rfl rfl 25 (bytesA 32 fun _ => 0) R8.out (Try.size25B _) (bytesA_sizes _ _ _) (bytesA_one _ _) ?_
 have R9 := Keep.mk (R8.out.setRow (bytesA 32 (shaP (RtP.leafR numL c.ce))))
 have B9 : Keep (Below w.heap.size w (w8.setRow r (bytesA 32 (shaP (RtP.leafR numL c.ce))))) := ⟨below_setRow B8.out hrw.out _⟩
 generalize w8.setRow r (bytesA 32 (shaP (RtP.leafR numL c.ce))) = w9 at *
 simp only [Act.put]
 refine WL.nil (hK4 _ _ ?_)
 refine wp_ret ?_
 try simp only [Exit.inBlock, Exit.then]
 refine bodyPost_ret (v := .agg (bytesA 32 (shaP (RtP.leafR numL c.ce)))) (results_cell_row Try.results48 _ _ r 25 _ (0, 0) _ rfl R9.out Try.underlying25 rfl (Try.size25B _)) rfl ⟨?_, Ps, HT.out.below B9.out, fun j n P P' _ hP hP' => ?_, TN.below B9.out⟩
 ·rw [sub_one hc.out, treeL_one, shaL, hof_hl]
 ·rw [hP] at hP'; injection hP' with hP'; subst hP'
  unfold adds
  rw [sub_one hc.out, pathL_one]
  split <;> simp

theorem Try.in26 (w : World) (vs : Array Value) : (callFunc 26 vs).run Try.prog w = .ok (.enter 26 vs) w := by kernel_rfl
theorem WL.boxV {ops : Array Oper} {rest : List Oper} {o : Oper} {a : Act} {w : World} {Q : Exit → Act → World → Prop} (hw : Region.wanted o (yielded ops a.tmps) = true) (t : TypeId) (x : Operand) (ho : o.op = .box t x) (v : Value) (hx : a.eval x = v) (hb : (Instr.box t v).run Try.prog w = .ok (.pointer (some ⟨w.heap.size, 0, none⟩)) (w.alloc (.cells #[v] t)))
  (h : WL Try.prog ops Q rest (a.put o.dst (.pointer (some ⟨w.heap.size, 0, none⟩))) (w.alloc (.cells #[v] t))) : WL Try.prog ops Q (o :: rest) a w := by
 refine WL.valW hw _ _ ?_ h
 unfold execOp
 simp only [ho, hx, Sem.run_bind, hb, Result.andThen_ok]
 rfl
theorem Try.newPs (w : World) : (Instr.alloc 55 true (.tuple #[])).run Try.prog w = .ok (.pointer (some ⟨w.heap.size, 0, none⟩)) (w.alloc (.cells #[.slice none 0 0] 55)) := by kernel_rfl
theorem Try.newFn (w : World) : (Instr.alloc 90 true (.tuple #[])).run Try.prog w = .ok (.pointer (some ⟨w.heap.size, 0, none⟩)) (w.alloc (.cells #[.nilFunc] 90)) := by kernel_rfl
theorem infoHs : (Try.prog.info? 67).map (fun i => (i.zero, i.size, i.bytes)) = some (some (.slice none 0 0), 1, 24) := by kernel_rfl
theorem made_sl (n : Nat) : madeCells #[.slice none 0 0] n = (List.replicate n (Value.slice none 0 0)).toArray := by
 apply Array.ext_getElem?
 intro i
 by_cases h : i < n <;> simp [madeCells, h, Nat.mod_one]
theorem run_makePs (n : Nat) (hn : n ≤ 1099511627776) (w : World) : (Instr.makeSlice 55 (.int .i64 (n : Int)) (.int .i64 (n : Int))).run Try.prog w = .ok (.slice (some ⟨w.heap.size, 0, none⟩) n n) (w.alloc (.cells (List.replicate n (Value.slice none 0 0)).toArray 67)) := by
 obtain ⟨i, hi, hzz⟩ := Option.map_eq_some_iff.1 infoHs
 simp only [Prod.mk.injEq] at hzz
 obtain ⟨hz, hs, hb⟩ := hzz
 have hr := run_make (P := Try.prog) w 55 67 i _ Try.underlying55 hi hz .i64 .i64 (n : Int) (n : Int) (by omega) (by omega) (by rw [hb]; omega) (by omega)
 simp only [Int.toNat_natCast, hs, Value.cells, Nat.mul_one] at hr
 rw [made_sl] at hr
 exact hr
def P0 (n : Nat) : List PX := List.replicate n ⟨.slice none 0 0, []⟩
structure TR (B : Nat) (w : World) (gp : Nat) (L : List CV) (ns : List Nat) (Ps : List PX) : Prop where
 bg : Blk w gp 67 (Ps.map (·.v)).toArray
 len : Ps.length = ns.length
 own : ∀ P ∈ Ps, w.ownsRow B 25 32 P.v P.ps.length (flatH P.ps)
 apt : ∀ (i j : Nat) (P Q : PX), Ps[i]? = some P → Ps[j]? = some Q → i ≠ j → ∀ k, P.v.ownBlock = some k → Q.v.ownBlock ≠ some k
 ge : B ≤ gp
 is : ∀ (j n : Nat) (P : PX), ns[j]? = some n → Ps[j]? = some P → n < L.length → P.ps.map hsL = pathL L.length L n
set_option maxRecDepth 8000 in
set_option maxHeartbeats 1000000 in
theorem tree_gen (b off n cap : Nat) (L : List CV) (ns : List Nat) (na : Option Addr) (nl nc : Nat) (w : World) (hnse : Keep (ns.length = nl)) (hnl : Keep (nl ≤ 1099511627776)) (hn : Keep (L.length = n)) (hn1 : 1 ≤ n) (hnb : n ≤ 1099511627776)
  (DOWN : ∀ (E : TE) (i j : Nat) (Ps : List PX) (w' : World), E.lv = .slice (some ⟨b, off, none⟩) n cap → E.nv = .slice na nl nc → i < j → j - i ≤ n → j ≤ n → TS w.heap.size w' E ns Ps → CsAt w.heap.size w' b off L → Rm Ps (j - i + 1) → w.heap.size ≤ w'.heap.size → Calls Try.prog 48 #[.int .i64 (i : Int), .int .i64 (j : Int), ptr E.pl, ptr E.pd, ptr E.pn, ptr E.pp] w' (DP w.heap.size n E L ns Ps i j w'))
  (hC : CsAt w.heap.size w b off L) (hNs : NsV w (.slice na nl nc) ns) :
  Calls Try.prog 26 #[.slice (some ⟨b, off, none⟩) n cap, .slice na nl nc] w fun e w' => ∃ (gp : Nat) (Ps : List PX), e = .returned (.tuple #[.agg (bytesA 32 (hof (treeL n L))), .slice (some ⟨gp, 0, none⟩) nl nl]) ∧ TR w.heap.size w' gp L ns Ps ∧ Below w.heap.size w w' := by
 obtain ⟨hh, hhe⟩ : ∃ z : Array Value, Keep (z = (bytesA 32 (hof (treeL n L)))) := ⟨_, ⟨rfl⟩⟩
 have HC := Keep.mk hC
 have HNs := Keep.mk hNs
 clear hC hNs
 go_enter Try.func26, Try.ntmps26
 refine wp_seq_k fun K1 hK1 => rgn ?_
 refine WL.boxV (by kernel_rfl) 23 (.tmp 0) rfl (.slice (some ⟨b, off, none⟩) n cap) rfl (by rfl) ?_
 have L1 := Keep.mk (Blk.new w 23 #[.slice (some ⟨b, off, none⟩) n cap])
 have b_ := below_new w (.cells #[.slice (some ⟨b, off, none⟩) n cap] 23)
 change WL _ _ _ _ _ (w.alloc (.cells #[.slice (some ⟨b, off, none⟩) n cap] 23))
 generalize w.alloc (.cells #[.slice (some ⟨b, off, none⟩) n cap] 23) = w1 at *
 obtain ⟨pl, hpl0⟩ : ∃ z, Keep (z = w.heap.size) := ⟨_, ⟨rfl⟩⟩
 rw [← hpl0.out] at L1 ⊢
 have Be1 : Keep (Below w.heap.size w w1) := ⟨b_⟩
 have gl : Keep (w.heap.size ≤ pl) := ⟨by rw [hpl0.out]; exact Nat.le_refl _⟩
 clear b_
 simp only [Act.put, pqA, pqB, pqC]
 refine WL.boxV (by kernel_rfl) 64 (.tmp 1) rfl (.slice na nl nc) rfl (by rfl) ?_
 have N2 := Keep.mk (Blk.new w1 64 #[.slice na nl nc])
 have b_ := below_new w1 (.cells #[.slice na nl nc] 64)
 change WL _ _ _ _ _ (w1.alloc (.cells #[.slice na nl nc] 64))
 generalize w1.alloc (.cells #[.slice na nl nc] 64) = w2 at *
 obtain ⟨pn, hpn0⟩ : ∃ z, Keep (z = w1.heap.size) := ⟨_, ⟨rfl⟩⟩
 rw [← hpn0.out] at N2 ⊢
 have L2 := Keep.mk (L1.out.below b_ L1.out.lt)
 have Be2 : Keep (Below w.heap.size w w2) := ⟨Be1.out.trans (b_.mono Be1.out.size)⟩
 have gn : Keep (w.heap.size ≤ pn) := ⟨by rw [hpn0.out]; exact Be1.out.size⟩
 clear b_ L1
 simp only [Act.put, pqA, pqB, pqC]
 refine WL.new (by kernel_rfl) 25 rfl _ Try.new25 ?_
 have R3 := Keep.mk (Blk.new w2 25 (bytesA 32 fun _ => 0))
 have b_ := below_new w2 (.cells (bytesA 32 fun _ => 0) 25)
 change WL _ _ _ _ _ (w2.alloc (.cells (bytesA 32 fun _ => 0) 25))
 generalize w2.alloc (.cells (bytesA 32 fun _ => 0) 25) = w3 at *
 obtain ⟨r, hr0⟩ : ∃ z, Keep (z = w2.heap.size) := ⟨_, ⟨rfl⟩⟩
 rw [← hr0.out] at R3 ⊢
 have L3 := Keep.mk (L2.out.below b_ L2.out.lt)
 have N3 := Keep.mk (N2.out.below b_ N2.out.lt)
 have Be3 : Keep (Below w.heap.size w w3) := ⟨Be2.out.trans (b_.mono Be2.out.size)⟩
 have grr : Keep (w.heap.size ≤ r) := ⟨by rw [hr0.out]; exact Be2.out.size⟩
 have cn := N3.out.c 0 (by rfl : (#[.slice na nl nc] : Array Value)[0]? = some (.slice na nl nc))
 clear b_ L2 N2
 simp only [Act.put, pqA, pqB, pqC]
 refine VlS (.slice none 0 0) ?_
 refine WL.nil (hK1 _ _ ?_)
 refine wp_seq_k fun K2 hK2 => rgn ?_
 refine VlS (.slice na nl nc) ?_
 refine VlS (.int .i64 (nl : Int)) ?_
 refine WL.valW (by kernel_rfl) (.slice (some ⟨w3.heap.size, 0, none⟩) nl nl) (w3.alloc (.cells (List.replicate nl (Value.slice none 0 0)).toArray 67)) (by
  unfold execOp
  simp only [Act.eval]
  have h := run_makePs nl hnl.out w3
  go_simp) ?_
 have G4 := Keep.mk (Blk.new w3 67 (List.replicate nl (Value.slice none 0 0)).toArray)
 have b_ := below_new w3 (.cells (List.replicate nl (Value.slice none 0 0)).toArray 67)
 generalize w3.alloc (.cells (List.replicate nl (Value.slice none 0 0)).toArray 67) = w4 at *
 obtain ⟨gp, hgp0⟩ : ∃ z, Keep (z = w3.heap.size) := ⟨_, ⟨rfl⟩⟩
 rw [← hgp0.out] at G4 ⊢
 have L4 := Keep.mk (L3.out.below b_ L3.out.lt)
 have N4 := Keep.mk (N3.out.below b_ N3.out.lt)
 have R4 := Keep.mk (R3.out.below b_ R3.out.lt)
 have Be4 : Keep (Below w.heap.size w w4) := ⟨Be3.out.trans (b_.mono Be3.out.size)⟩
 have gg : Keep (w.heap.size ≤ gp) := ⟨by rw [hgp0.out]; exact Be3.out.size⟩
 clear b_ L3 N3 R3 cn
 simp only [Act.put, pqA, pqB, pqC]
 refine WL.new (by kernel_rfl) 55 rfl _ Try.newPs ?_
 have Q5 := Keep.mk (Blk.new w4 55 #[.slice none 0 0])
 have b_ := below_new w4 (.cells #[.slice none 0 0] 55)
 change WL _ _ _ _ _ (w4.alloc (.cells #[.slice none 0 0] 55))
 generalize w4.alloc (.cells #[.slice none 0 0] 55) = w5 at *
 obtain ⟨pp, hpp0⟩ : ∃ z, Keep (z = w4.heap.size) := ⟨_, ⟨rfl⟩⟩
 rw [← hpp0.out] at Q5 ⊢
 have L5 := Keep.mk (L4.out.below b_ L4.out.lt)
 have N5 := Keep.mk (N4.out.below b_ N4.out.lt)
 have R5 := Keep.mk (R4.out.below b_ R4.out.lt)
 have G5 := Keep.mk (G4.out.below b_ G4.out.lt)
 have Be5 : Keep (Below w.heap.size w w5) := ⟨Be4.out.trans (b_.mono Be4.out.size)⟩
 have gq : Keep (w.heap.size ≤ pp) := ⟨by rw [hpp0.out]; exact Be4.out.size⟩
 have f_o := Q5.out.frozen 0
 have c_o := Q5.out.c 0 (by rfl : (#[.slice none 0 0] : Array Value)[0]? = some (.slice none 0 0))
 clear b_ L4 N4 R4 G4
 simp only [Act.put, pqA, pqB, pqC]
 refine WL.cell (by kernel_rfl) (w5.setCell ⟨pp, 0, none⟩ (.slice (some ⟨gp, 0, none⟩) nl nl)) (by go_simp) ?_
 clear f_o c_o
 have Q6 : Keep (Blk (w5.setCell ⟨pp, 0, none⟩ (.slice (some ⟨gp, 0, none⟩) nl nl)) pp 55 #[.slice (some ⟨gp, 0, none⟩) nl nl]) := ⟨by have h := Q5.out.set 0 (.slice (some ⟨gp, 0, none⟩) nl nl); exact h⟩
 have g_ : Grown w5 (w5.setCell ⟨pp, 0, none⟩ (.slice (some ⟨gp, 0, none⟩) nl nl)) (fun k => k = pp) := Grown.setCell w5 pp 0 _ fun _ => rfl
 have Be6 : Keep (Below w.heap.size w (w5.setCell ⟨pp, 0, none⟩ (.slice (some ⟨gp, 0, none⟩) nl nl))) := ⟨Be5.out.trans (g_.to_below (fun k hk e => by have := gq.out; omega) Be5.out.size)⟩
 have L6 := Keep.mk (g_.blk L5.out (blk_ne L5.out Q5.out (by decide)))
 have N6 := Keep.mk (g_.blk N5.out (blk_ne N5.out Q5.out (by decide)))
 have R6 := Keep.mk (g_.blk R5.out (blk_ne R5.out Q5.out (by decide)))
 have G6 := Keep.mk (g_.blk G5.out (blk_ne G5.out Q5.out (by decide)))
 generalize w5.setCell ⟨pp, 0, none⟩ (.slice (some ⟨gp, 0, none⟩) nl nl) = w6 at *
 clear g_ Q5 L5 N5 R5 G5
 simp only [Act.put]
 refine WL.nil (hK2 _ _ ?_)
 refine wp_seq_k fun K3 hK3 => rgn ?_
 refine WL.new (by kernel_rfl) 90 rfl _ Try.newFn ?_
 have D7 := Keep.mk (Blk.new w6 90 #[.nilFunc])
 have b_ := below_new w6 (.cells #[.nilFunc] 90)
 change WL _ _ _ _ _ (w6.alloc (.cells #[.nilFunc] 90))
 generalize w6.alloc (.cells #[.nilFunc] 90) = w7 at *
 obtain ⟨pd, hpd0⟩ : ∃ z, Keep (z = w6.heap.size) := ⟨_, ⟨rfl⟩⟩
 rw [← hpd0.out] at D7 ⊢
 have L7 := Keep.mk (L6.out.below b_ L6.out.lt)
 have N7 := Keep.mk (N6.out.below b_ N6.out.lt)
 have R7 := Keep.mk (R6.out.below b_ R6.out.lt)
 have G7 := Keep.mk (G6.out.below b_ G6.out.lt)
 have Q7 := Keep.mk (Q6.out.below b_ Q6.out.lt)
 have Be7 : Keep (Below w.heap.size w w7) := ⟨Be6.out.trans (b_.mono Be6.out.size)⟩
 have gd : Keep (w.heap.size ≤ pd) := ⟨by rw [hpd0.out]; exact Be6.out.size⟩
 have f_o := D7.out.frozen 0
 have c_o := D7.out.c 0 (by rfl : (#[.nilFunc] : Array Value)[0]? = some .nilFunc)
 clear b_ L6 N6 R6 G6 Q6
 simp only [Act.put, pqA, pqB, pqC]
 refine WL.nil (hK3 _ _ ?_)
 refine wp_seq_k fun K4 hK4 => rgn ?_
 refine VlS (.func (.func 48) #[] #[ptr pl, ptr pd, ptr pn, ptr pp]) ?_
 refine WL.cell (by kernel_rfl) (w7.setCell ⟨pd, 0, none⟩ (.func (.func 48) #[] #[ptr pl, ptr pd, ptr pn, ptr pp])) (by go_simp) ?_
 clear f_o c_o
 have D8 : Keep (Blk (w7.setCell ⟨pd, 0, none⟩ (.func (.func 48) #[] #[ptr pl, ptr pd, ptr pn, ptr pp])) pd 90 #[.func (.func 48) #[] #[ptr pl, ptr pd, ptr pn, ptr pp]]) := ⟨by have h := D7.out.set 0 (.func (.func 48) #[] #[ptr pl, ptr pd, ptr pn, ptr pp]); exact h⟩
 have g_ : Grown w7 (w7.setCell ⟨pd, 0, none⟩ (.func (.func 48) #[] #[ptr pl, ptr pd, ptr pn, ptr pp])) (fun k => k = pd) := Grown.setCell w7 pd 0 _ fun _ => rfl
 have Be8 : Keep (Below w.heap.size w (w7.setCell ⟨pd, 0, none⟩ (.func (.func 48) #[] #[ptr pl, ptr pd, ptr pn, ptr pp]))) := ⟨Be7.out.trans (g_.to_below (fun k hk e => by have := gd.out; omega) Be7.out.size)⟩
 have L8 := Keep.mk (g_.blk L7.out (blk_ne L7.out D7.out (by decide)))
 have N8 := Keep.mk (g_.blk N7.out (blk_ne N7.out D7.out (by decide)))
 have R8 := Keep.mk (g_.blk R7.out (blk_ne R7.out D7.out (by decide)))
 have G8 := Keep.mk (g_.blk G7.out (blk_ne G7.out D7.out (by decide)))
 have Q8 := Keep.mk (g_.blk Q7.out (blk_ne Q7.out D7.out (by decide)))
 generalize w7.setCell ⟨pd, 0, none⟩ (.func (.func 48) #[] #[ptr pl, ptr pd, ptr pn, ptr pp]) = w8 at *
 clear g_ D7 L7 N7 R7 G7 Q7
 simp only [Act.put]
 refine WL.nil (hK4 _ _ ?_)
 refine wp_seq_k fun K5 hK5 => ?_
 have T8 : Keep (TS w.heap.size w8.drew (⟨pl, pd, pn, pp, gp, .slice (some ⟨b, off, none⟩) n cap, .slice na nl nc⟩ : TE) ns (P0 nl)) := ⟨⟨L8.out, D8.out, N8.out, (by have h := Q8.out; simp only [P0, List.length_replicate]; exact h), (by have h := G8.out; simp only [P0, List.map_replicate]; exact h), HNs.out.grown (Grown.below Be8.out.drew : Grown w w8.drew (fun k => False)) (fun _ _ e => e), (by simp only [P0, List.length_replicate]; exact hnse.out.symm), (fun P hP => by simp only [P0, List.mem_replicate] at hP; rw [hP.2]; exact ⟨rfl, .inl ⟨rfl, rfl⟩⟩), (fun i j P Q hP hQ _ k hk => by simp only [P0, List.getElem?_replicate] at hP; split at hP <;> simp at hP; subst hP; simp [Value.ownBlock] at hk), gg.out⟩⟩
 have X8 : Keep (Bx w8.drew (⟨pl, pd, pn, pp, gp, .slice (some ⟨b, off, none⟩) n cap, .slice na nl nc⟩ : TE) (P0 nl) r (bytesA 32 fun _ => 0)) := ⟨R8.out, fun e => by
  rcases e with e | ⟨P, hP, e⟩
  ·exact absurd (blk_type R8.out (show Blk w8 r 67 _ from by rw [show r = gp from e]; exact G8.out)) (by decide)
  ·simp only [P0, List.mem_replicate] at hP; rw [hP.2] at e; simp [Value.ownBlock] at e⟩
 have Bd : Keep (Below w.heap.size w w8.drew) := ⟨Be8.out.drew⟩
 clear L8 D8 N8 Q8 G8 R8
 
 have hS0 : Keep (∀ (wx : World) (Ps : List PX), TS w.heap.size wx (⟨pl, pd, pn, pp, gp, .slice (some ⟨b, off, none⟩) n cap, .slice na nl nc⟩ : TE) ns Ps → (fun wx => wx.cell? ⟨pd, 0, none⟩ = some (.func (.func 48) #[] #[ptr pl, ptr pd, ptr pn, ptr pp]) ∧ wx.cell? ⟨pl, 0, none⟩ = some (.slice (some ⟨b, off, none⟩) n cap) ∧ wx.cell? ⟨pp, 0, none⟩ = some (.slice (some ⟨gp, 0, none⟩) nl nl)) wx) := ⟨fun wx Ps ht => ⟨ht.bd.c 0 rfl, ht.bl.c 0 rfl, by have h := ht.bp.c 0 rfl; rw [ht.len, hnse.out] at h; exact h⟩⟩
 refine wp_region_held_drew (S := fun wx => wx.cell? ⟨pd, 0, none⟩ = some (.func (.func 48) #[] #[ptr pl, ptr pd, ptr pn, ptr pp]) ∧ wx.cell? ⟨pl, 0, none⟩ = some (.slice (some ⟨b, off, none⟩) n cap) ∧ wx.cell? ⟨pp, 0, none⟩ = some (.slice (some ⟨gp, 0, none⟩) nl nl)) (by kernel_rfl) (hS0.out _ _ T8.out) (fun hHeld => ?_)
 refine tkS (i := 0) (oi := ⟨some 12, Op.load 90 (Operand.tmp 7), 90, _, _, none⟩) (v := .func (.func 48) #[] #[ptr pl, ptr pd, ptr pn, ptr pp]) rfl (Or.inl ⟨by rfl, fun w hS => by obtain ⟨hS1, hS2, hS3⟩ := hS; go_simp⟩) hHeld ?_
 refine tkS (i := 1) (oi := ⟨some 13, Op.load 23 (Operand.tmp 2), 23, _, _, none⟩) (v := .slice (some ⟨b, off, none⟩) n cap) rfl (Or.inl ⟨by rfl, fun w hS => by obtain ⟨hS1, hS2, hS3⟩ := hS; go_simp⟩) hHeld ?_
 refine tkS (i := 4) (oi := ⟨some 16, Op.load 55 (Operand.tmp 6), 55, _, _, none⟩) (v := .slice (some ⟨gp, 0, none⟩) nl nl) rfl (Or.inl ⟨by rfl, fun w hS => by obtain ⟨hS1, hS2, hS3⟩ := hS; go_simp⟩) hHeld ?_
 refine tkS (i := 2) (oi := ⟨some 14, Op.call { callee := Callee.builtin Builtin.len, args := #[Operand.tmp 13], argTypes := #[23] }, 3, _, _, none⟩) (v := .int .i64 (n : Int)) rfl (Or.inl ⟨by rfl, fun w hS => by obtain ⟨hS1, hS2, hS3⟩ := hS; go_simp⟩) hHeld ?_
 refine wpAnyH_ready (rs := [3]) (by kernel_rfl) (by simp) ?_
 refine AllReadyH.cons (o := ⟨some 15, Op.call { callee := Callee.value (Operand.tmp 12), args := #[Operand.const (Value.int IntKind.i64 0), Operand.tmp 14], argTypes := #[3, 3] }, 25, _, _, none⟩) rfl (fun K hK => ?_) AllReadyH.nil
 rw [if_pos (by rfl)]
 refine wp_callC 48 (.tmp 12) _ _ #[ptr pl, ptr pd, ptr pn, ptr pp] rfl rfl Try.in48 #[.int .i64 ((0 : Nat) : Int), .int .i64 (n : Int), ptr pl, ptr pd, ptr pn, ptr pp] (by simp [Act.eval]) (fun vz wz => vz = .agg hh ∧ ∃ Ps', TS w.heap.size wz (⟨pl, pd, pn, pp, gp, .slice (some ⟨b, off, none⟩) n cap, .slice na nl nc⟩ : TE) ns Ps' ∧ UP n L 0 n ns (P0 nl) Ps' ∧ TN w8.drew wz (⟨pl, pd, pn, pp, gp, .slice (some ⟨b, off, none⟩) n cap, .slice na nl nc⟩ : TE) (P0 nl) Ps') ?_ ?_
 ·refine (DOWN (⟨pl, pd, pn, pp, gp, .slice (some ⟨b, off, none⟩) n cap, .slice na nl nc⟩ : TE) 0 n (P0 nl) w8.drew rfl rfl (by omega) (by omega) (by omega) T8.out (HC.out.below Bd.out) (fun P hP => by simp only [P0, List.mem_replicate] at hP; rw [hP.2]; simp; omega) Bd.out.size).mono ?_
  rintro e wz ⟨rfl, hz⟩
  refine ⟨_, rfl, ?_, hz⟩
  rw [show sub L 0 n = L from by simp [sub, ← hn.out], hhe.out]
 rintro vz wa ⟨rfl, Ps, k1, k2, k3⟩
 have Ta := Keep.mk k1
 have Ua := Keep.mk k2
 have Xa := Keep.mk (X8.out.next k3)
 have Ba : Keep (Below w.heap.size w wa) := ⟨Bd.out.trans (k3.bel T8.out Bd.out.size)⟩
 clear k1 k2 k3
 refine hK _ _ (hS0.out _ _ Ta.out) fun hH1 => ?_
 clear hK
 simp only [Act.put, pqA, pqB, pqC]
 refine wpAnyH_ready (rs := [5]) (by kernel_rfl) (by simp) ?_
 refine AllReadyH.cons (o := ⟨none, Op.store 25 (Operand.tmp 4) (Operand.tmp 15), 0, _, _, none⟩) rfl (fun K hK => ?_) AllReadyH.nil
 rw [if_pos (by rfl)]
 refine wp_store_row 25 (.tmp 4) (.tmp 15) rfl r hh rfl rfl 25 _ Xa.out.blk (by rw [hhe.out]; exact Try.size25B _) (by rw [hhe.out]; exact bytesA_sizes _ _ _) (by rw [hhe.out]; exact bytesA_one _ _) ?_
 have Tb := Keep.mk (Ta.out.box Xa.out hh)
 have Xb := Keep.mk (Xa.out.set hh)
 have Bb : Keep (Below w.heap.size w (wa.setRow r hh)) := ⟨below_setRow Ba.out grr.out _⟩
 generalize wa.setRow r hh = wb at *
 refine hK _ _ (hS0.out _ _ Tb.out) fun hH2 => ?_
 clear hK
 simp only [Act.put, pqA, pqB, pqC]
 refine tkS (i := 6) (oi := ⟨some 5, Op.assign (Operand.tmp 16), 55, _, _, none⟩) (v := .slice (some ⟨gp, 0, none⟩) nl nl) rfl (Or.inl ⟨by rfl, fun w hS => by obtain ⟨hS1, hS2, hS3⟩ := hS; go_simp⟩) hH2 ?_
 refine wpAnyH_done (by kernel_rfl) ?_ _
 refine hK5 _ _ ?_
 refine wp_ret ?_
 try simp only [Exit.inBlock, Exit.then]
 refine bodyPost_ret (v := .tuple #[.agg hh, .slice (some ⟨gp, 0, none⟩) nl nl]) (results_cell_row2 Try.results26 _ _ r 25 _ (0, 0) _ _ rfl rfl Xb.out.blk Try.underlying25 rfl (by rw [hhe.out]; exact Try.size25B _)) rfl ⟨gp, Ps, by rw [hhe.out], ⟨Tb.out.bg, Tb.out.len, Tb.out.own, Tb.out.apt, Tb.out.ge, fun j n' P hj hP hl => ?_⟩, Bb.out⟩
 have hj' := (List.getElem?_eq_some_iff.1 hj).1
 have h := Ua.out j n' ⟨.slice none 0 0, []⟩ P hj (by simp only [P0, List.getElem?_replicate]; rw [if_pos (by rw [← hnse.out]; exact hj')]) hP
 rw [h, hn.out]
 unfold adds
 rw [if_pos ⟨Nat.zero_le _, by rw [← hn.out]; exact hl⟩, show sub L 0 n = L from by simp [sub, ← hn.out]]
 rfl

end Go.Proofs.Ytjklmkeedhgncaa
