import Derived.Test.YtjklmkeedhgncaaU06
import Derived.Deep.RegionHeld3
import Derived.Laws.EntriesVeiled
namespace Go.Proofs.Ytjklmkeedhgncaa
open Go.RowKit
set_option linter.unusedSimpArgs false
set_option linter.unusedVariables false
theorem Try.in79 (w : World) (vs : Array Value) : (callFunc 79 vs).run Try.prog w = .ok (.enter 79 vs) w := by kernel_rfl
theorem Try.in58 (w : World) (vs : Array Value) : (callFunc 58 vs).run Try.prog w = .ok (.enter 58 vs) w := by kernel_rfl
structure LV where
  num : Int
  c : CV
  pv : Value
  ps : List Hs
def lvA (x : LV) : Array Value := #[.int .i64 x.num, .int .i64 x.c.k, .string x.c.s, x.c.v, x.pv]
structure LfAt (B : Nat) (w : World) (x : LV) : Prop where
  row : RowAt w x.c.v x.c.l
  rlt : x.c.l ≠ [] → ∀ k, x.c.v.ownBlock = some k → k < B
  pa : HPa B w x.pv x.ps
theorem LfAt.below {B : Nat} {w w' : World} {x : LV} (h : LfAt B w x) (hb : Below B w w') : LfAt B w' x := by
  refine ⟨?_, h.rlt, h.pa.below hb⟩
  by_cases h0 : x.c.l = []
  · have h1 := h.row
    rw [h0] at h1 ⊢
    exact row_nil h1
  · exact h.row.grown (Grown.ofBelow hb) fun k hk e => by have := h.rlt h0 k hk; omega
theorem LfAt.mono {B B' : Nat} {w : World} {x : LV} (h : LfAt B w x) (hB : B ≤ B') : LfAt B' w x := by
  refine ⟨h.row, fun h0 k hk => Nat.lt_of_lt_of_le (h.rlt h0 k hk) hB, ?_⟩
  rcases h.pa with h | ⟨b, off, cap, h1, h2, h3, h4⟩
  · exact .inl h
  · exact .inr ⟨b, off, cap, h1, h2, Nat.lt_of_lt_of_le h3 hB, h4⟩
theorem LfAt.pform {B : Nat} {w : World} {x : LV} (h : LfAt B w x) : ∃ a c, x.pv = .slice a x.ps.length c := by
  rcases h.pa with ⟨a, c, e, e2⟩ | ⟨b, off, cap, e, _⟩
  · exact ⟨a, c, by rw [e, e2]; rfl⟩
  · exact ⟨_, cap, e⟩
theorem lvA_one {B : Nat} {w : World} {x : LV} (h : LfAt B w x) : (lvA x).all (·.oneCell') = true := by
  obtain ⟨a, c, e⟩ := row_form h.row
  obtain ⟨a', c', e'⟩ := h.pform
  unfold lvA
  rw [e, e']
  simp [Value.oneCell']
theorem Try.sizeLf (x : LV) : (Try.prog.info? 69).map (·.size) = some (lvA x).size := by kernel_rfl
def lfH (x : LV) : List Int := shaL (RtP.leafR numL x.c.ce)
def clV (px pd : Nat) : Value := .func (.func 79) #[] #[ptr px, ptr pd]
def CQ (n i : Nat) (x : LV) (ps : List Hs) (w : World) (e : Ending) (w' : World) : Prop :=
  ∃ (c : Nat → Int) (ok : Bool), e = .returned (.tuple #[.agg (bytesA 32 c), .bool ok]) ∧ Below w.heap.size w w' ∧ (match climbL n i (lfH x) ps with | some (t, _) => ok = true ∧ bytesA 32 c = bytesA 32 (hof t) | none => ok = false)
structure CS (w : World) (px pd : Nat) (x : LV) : Prop where
  bx : Blk w px 69 (lvA x)
  bd : Blk w pd 121 #[clV px pd]
  row : RowAt w x.c.v x.c.l
theorem CS.below {w w' : World} {px pd : Nat} {x : LV} (h : CS w px pd x) (hb : Below w.heap.size w w') : CS w' px pd x := ⟨h.bx.below hb h.bx.lt, h.bd.below hb h.bd.lt, h.row.below hb⟩
set_option maxRecDepth 8000 in
theorem pc_end (px pd i pc : Nat) (pa : Option Addr) (x : LV) (w : World) (hS : CS w px pd x) (hF : (0 ≤ x.c.k ∧ x.c.k < 9223372036854775808) ∧ (x.c.s.size ≤ 140737488351232 ∧ x.c.l.length ≤ 140737488351232)) :
    Calls Try.prog 79 #[.int .i64 (i : Int), .int .i64 1, .slice pa 0 pc, ptr px, ptr pd] w (CQ 1 i x [] w) := by
  have HS := Keep.mk hS
  have HF := Keep.mk hF
  have hck : Keep ((x.c.k.toNat : Int) = x.c.k) := ⟨by omega⟩
  clear hS hF
  go_enter Try.func79, Try.ntmps79
  refine wp_seq_k fun K1 hK1 => ?_
  refine wp_region_list (WL.out ?_)
  refine WL.new (by kernel_rfl) 25 rfl _ Try.new25 ?_
  have R1 := Keep.mk (Blk.new w 25 (bytesA 32 fun _ => 0))
  have b1 := Keep.mk (below_new w (.cells (bytesA 32 fun _ => 0) 25))
  change WL _ _ _ _ _ (w.alloc (.cells (bytesA 32 fun _ => 0) 25))
  generalize w.alloc (.cells (bytesA 32 fun _ => 0) 25) = w1 at *
  obtain ⟨r, hr0⟩ : ∃ z, Keep (z = w.heap.size) := ⟨_, ⟨rfl⟩⟩
  rw [← hr0.out] at R1 ⊢
  have hrw : Keep (w.heap.size ≤ r) := ⟨by rw [hr0.out]; exact Nat.le_refl _⟩
  have S1 := Keep.mk (HS.out.below b1.out)
  clear hr0
  simp only [Act.put, List.setIfInBounds_toArray, List.set_cons_zero, List.set_cons_succ]
  refine WL.val (by kernel_rfl) (.bool false) (by go_simp) ?_
  simp only [Act.put, List.setIfInBounds_toArray, List.set_cons_zero, List.set_cons_succ]
  refine WL.nil ?_
  refine hK1 _ _ ?_
  refine wp_seq_k fun K2 hK2 => ?_
  refine wp_seq_k fun K3 hK3 => ?_
  refine wp_region_list (WL.out ?_)
  refine WL.val (by kernel_rfl) (.int .i64 1) (by go_simp) ?_
  simp only [Act.put, List.setIfInBounds_toArray, List.set_cons_zero, List.set_cons_succ]
  refine WL.val (by kernel_rfl) (.bool true) (by go_simp) ?_
  simp only [Act.put, List.setIfInBounds_toArray, List.set_cons_zero, List.set_cons_succ]
  refine WL.val (by kernel_rfl) (.bool true) (by go_simp) ?_
  simp only [Act.put, List.setIfInBounds_toArray, List.set_cons_zero, List.set_cons_succ]
  refine WL.val (by kernel_rfl) (.slice pa 0 pc) (by go_simp) ?_
  simp only [Act.put, List.setIfInBounds_toArray, List.set_cons_zero, List.set_cons_succ]
  refine WL.val (by kernel_rfl) (.int .i64 0) (by go_simp) ?_
  simp only [Act.put, List.setIfInBounds_toArray, List.set_cons_zero, List.set_cons_succ]
  refine WL.val (by kernel_rfl) (.bool true) (by go_simp) ?_
  simp only [Act.put, List.setIfInBounds_toArray, List.set_cons_zero, List.set_cons_succ]
  refine WL.val (by kernel_rfl) (.bool true) (by go_simp) ?_
  simp only [Act.put, List.setIfInBounds_toArray, List.set_cons_zero, List.set_cons_succ]
  refine WL.nil ?_
  refine hK3 _ _ ?_
  refine wp_cond_true rfl ?_
  refine wp_seq_k fun K4 hK4 => ?_
  refine wp_region_list (WL.out ?_)
  refine WL.val (by kernel_rfl) (.pointer (some ⟨px, 1, none⟩)) (by go_simp) ?_
  simp only [Act.put, List.setIfInBounds_toArray, List.set_cons_zero, List.set_cons_succ]
  refine WL.midA (by kernel_rfl) 40 (.tmp 23) rfl px 1 rfl #[.int .i64 x.c.k, .string x.c.s, x.c.v] _ (fun j v hv => by
    have h := blk_range S1.out.bx (1 + j) v (by
      match j, hv with
      | 0, h => exact h
      | 1, h => exact h
      | 2, h => exact h
      | j + 3, h => simp at h)
    rw [Nat.zero_add] at h; exact h) Try.underlying40 rfl (Try.sizeC _ _ _) ?_
  simp only [Act.put, List.setIfInBounds_toArray, List.set_cons_zero, List.set_cons_succ]
  have hpl := pleaf_any x.c.k.toNat x.c.s x.c.v x.c.l w1 S1.out.row (by have := HF.out; omega) HF.out.2
  rw [hck.out] at hpl
  refine WL.callF (by kernel_rfl) 49 _ _ rfl Try.in49 #[.agg #[.int .i64 x.c.k, .string x.c.s, x.c.v]] (by simp [Act.eval]) ?_
  refine (hpl).mono ?_
  rintro e w8 ⟨rfl, k1⟩
  refine ⟨_, rfl, ?_⟩
  change WL _ _ _ _ (Act.put _ _ (.agg (bytesA 32 (shaP (RtP.leafR numL x.c.ce))))) w8
  have R8 := Keep.mk (R1.out.below k1 R1.out.lt)
  have B8 : Keep (Below w.heap.size w w8) := ⟨b1.out.trans (k1.mono b1.out.size)⟩
  clear hpl k1
  simp only [Act.put, List.setIfInBounds_toArray, List.set_cons_zero, List.set_cons_succ]
  refine WL.storeR (by kernel_rfl) 25 (.tmp 8) (.tmp 25) rfl r (bytesA 32 (shaP (RtP.leafR numL x.c.ce))) rfl rfl 25 (bytesA 32 fun _ => 0) R8.out (Try.size25B _) (bytesA_sizes _ _ _) (bytesA_one _ _) ?_
  have R9 := Keep.mk (R8.out.setRow (bytesA 32 (shaP (RtP.leafR numL x.c.ce))))
  have B9 : Keep (Below w.heap.size w (w8.setRow r (bytesA 32 (shaP (RtP.leafR numL x.c.ce))))) := ⟨below_setRow B8.out hrw.out _⟩
  generalize w8.setRow r (bytesA 32 (shaP (RtP.leafR numL x.c.ce))) = w9 at *
  simp only [Act.put]
  refine WL.val (by kernel_rfl) (.bool true) (by go_simp) ?_
  simp only [Act.put, List.setIfInBounds_toArray, List.set_cons_zero, List.set_cons_succ]
  refine WL.nil ?_
  refine hK4 _ _ ?_
  refine wp_ret ?_
  try simp only [Exit.inBlock, Exit.then]
  refine bodyPost_ret (v := .tuple #[.agg (bytesA 32 (shaP (RtP.leafR numL x.c.ce))), .bool true]) (results_cell_row2 Try.results79 _ _ r 25 _ (0, 0) _ _ rfl rfl R9.out Try.underlying25 rfl (Try.size25B _)) rfl ?_
  refine ⟨_, _, rfl, B9.out, ?_⟩
  rw [climbL_end]
  exact ⟨rfl, by unfold lfH shaL; rw [hof_hl]⟩
set_option maxRecDepth 8000 in
theorem pc_one (px pd i p pc : Nat) (pa : Option Addr) (x : LV) (ps : List Hs) (w : World) (hS : CS w px pd x) (hp : Keep (ps.length = p)) (hp1 : 1 ≤ p) :
    Calls Try.prog 79 #[.int .i64 (i : Int), .int .i64 1, .slice pa p pc, ptr px, ptr pd] w (CQ 1 i x ps w) := by
  have HS := Keep.mk hS
  clear hS
  have hp0 : ((p : Int) == 0) = false := by simp; omega
  have hp0' : ¬ p = 0 := by omega
  go_enter Try.func79, Try.ntmps79
  refine wp_seq_k fun K1 hK1 => ?_
  refine wp_region_list (WL.out ?_)
  refine WL.new (by kernel_rfl) 25 rfl _ Try.new25 ?_
  have R1 := Keep.mk (Blk.new w 25 (bytesA 32 fun _ => 0))
  have b1 := Keep.mk (below_new w (.cells (bytesA 32 fun _ => 0) 25))
  change WL _ _ _ _ _ (w.alloc (.cells (bytesA 32 fun _ => 0) 25))
  generalize w.alloc (.cells (bytesA 32 fun _ => 0) 25) = w1 at *
  obtain ⟨r, hr0⟩ : ∃ z, Keep (z = w.heap.size) := ⟨_, ⟨rfl⟩⟩
  rw [← hr0.out] at R1 ⊢
  have hrw : Keep (w.heap.size ≤ r) := ⟨by rw [hr0.out]; exact Nat.le_refl _⟩
  have S1 := Keep.mk (HS.out.below b1.out)
  clear hr0
  simp only [Act.put, List.setIfInBounds_toArray, List.set_cons_zero, List.set_cons_succ]
  refine WL.val (by kernel_rfl) (.bool false) (by go_simp) ?_
  simp only [Act.put, List.setIfInBounds_toArray, List.set_cons_zero, List.set_cons_succ]
  refine WL.nil ?_
  refine hK1 _ _ ?_
  refine wp_seq_k fun K2 hK2 => ?_
  refine wp_seq_k fun K3 hK3 => ?_
  refine wp_region_list (WL.out ?_)
  refine WL.val (by kernel_rfl) (.int .i64 1) (by go_simp) ?_
  simp only [Act.put, List.setIfInBounds_toArray, List.set_cons_zero, List.set_cons_succ]
  refine WL.val (by kernel_rfl) (.bool true) (by go_simp) ?_
  simp only [Act.put, List.setIfInBounds_toArray, List.set_cons_zero, List.set_cons_succ]
  refine WL.val (by kernel_rfl) (.bool true) (by go_simp) ?_
  simp only [Act.put, List.setIfInBounds_toArray, List.set_cons_zero, List.set_cons_succ]
  refine WL.val (by kernel_rfl) (.slice pa p pc) (by go_simp) ?_
  simp only [Act.put, List.setIfInBounds_toArray, List.set_cons_zero, List.set_cons_succ]
  refine WL.val (by kernel_rfl) (.int .i64 (p : Int)) (by go_simp) ?_
  simp only [Act.put, List.setIfInBounds_toArray, List.set_cons_zero, List.set_cons_succ]
  refine WL.val (by kernel_rfl) (.bool false) (by go_simp) ?_
  simp only [Act.put, List.setIfInBounds_toArray, List.set_cons_zero, List.set_cons_succ]
  refine WL.val (by kernel_rfl) (.bool false) (by go_simp) ?_
  simp only [Act.put, List.setIfInBounds_toArray, List.set_cons_zero, List.set_cons_succ]
  refine WL.nil ?_
  refine hK3 _ _ ?_
  refine wp_cond_false rfl ?_
  refine wp_skip ?_
  refine hK2 _ _ ?_
  refine wp_seq_k fun K4 hK4 => ?_
  refine wp_seq_k fun K5 hK5 => ?_
  refine wp_region_list (WL.out ?_)
  refine WL.val (by kernel_rfl) (.int .i64 1) (by go_simp) ?_
  simp only [Act.put, List.setIfInBounds_toArray, List.set_cons_zero, List.set_cons_succ]
  refine WL.val (by kernel_rfl) (.bool true) (by go_simp) ?_
  simp only [Act.put, List.setIfInBounds_toArray, List.set_cons_zero, List.set_cons_succ]
  refine WL.val (by kernel_rfl) (.bool true) (by go_simp) ?_
  simp only [Act.put, List.setIfInBounds_toArray, List.set_cons_zero, List.set_cons_succ]
  refine WL.skip (by kernel_rfl) ?_
  simp only [Act.put, List.setIfInBounds_toArray, List.set_cons_zero, List.set_cons_succ]
  refine WL.skip (by kernel_rfl) ?_
  simp only [Act.put, List.setIfInBounds_toArray, List.set_cons_zero, List.set_cons_succ]
  refine WL.skip (by kernel_rfl) ?_
  simp only [Act.put, List.setIfInBounds_toArray, List.set_cons_zero, List.set_cons_succ]
  refine WL.val (by kernel_rfl) (.bool true) (by go_simp) ?_
  simp only [Act.put, List.setIfInBounds_toArray, List.set_cons_zero, List.set_cons_succ]
  refine WL.nil ?_
  refine hK5 _ _ ?_
  refine wp_cond_true rfl ?_
  refine wp_seq_k fun K6 hK6 => ?_
  refine wp_region_list (WL.out ?_)
  refine WL.bld (by kernel_rfl) 25 #[] rfl [] (by simp) (bytesA 32 fun _ => 0) bld_hz ?_
  simp only [Act.put, List.setIfInBounds_toArray, List.set_cons_zero, List.set_cons_succ]
  refine WL.storeR (by kernel_rfl) 25 (.tmp 8) (.tmp 33) rfl r (bytesA 32 fun _ => 0) rfl rfl 25 (bytesA 32 fun _ => 0) R1.out (Try.size25B _) (bytesA_sizes _ _ _) (bytesA_one _ _) ?_
  have R9 := Keep.mk (R1.out.setRow (bytesA 32 fun _ => 0))
  have B9 : Keep (Below w.heap.size w (w1.setRow r (bytesA 32 fun _ => 0))) := ⟨below_setRow b1.out hrw.out _⟩
  generalize w1.setRow r (bytesA 32 fun _ => 0) = w9 at *
  simp only [Act.put]
  refine WL.val (by kernel_rfl) (.bool false) (by go_simp) ?_
  simp only [Act.put, List.setIfInBounds_toArray, List.set_cons_zero, List.set_cons_succ]
  refine WL.nil ?_
  refine hK6 _ _ ?_
  refine wp_ret ?_
  try simp only [Exit.inBlock, Exit.then]
  refine bodyPost_ret (v := .tuple #[.agg (bytesA 32 fun _ => 0), .bool false]) (results_cell_row2 Try.results79 _ _ r 25 _ (0, 0) _ _ rfl rfl R9.out Try.underlying25 rfl (Try.size25B _)) rfl ?_
  refine ⟨_, _, rfl, B9.out, ?_⟩
  rw [climbL_end, if_neg (by rw [hp.out]; omega)]

set_option maxRecDepth 8000 in
theorem pc_short (px pd n i pc : Nat) (pa : Option Addr) (x : LV) (w : World) (hS : CS w px pd x) (hn : 2 ≤ n) :
    Calls Try.prog 79 #[.int .i64 (i : Int), .int .i64 (n : Int), .slice pa 0 pc, ptr px, ptr pd] w (CQ n i x [] w) := by
  have HS := Keep.mk hS
  clear hS
  have hn1 : ((n : Int) == 1) = false := by simp; omega
  have hn1' : ¬ n = 1 := by omega
  go_enter Try.func79, Try.ntmps79
  refine wp_seq_k fun K1 hK1 => ?_
  refine wp_region_list (WL.out ?_)
  refine WL.new (by kernel_rfl) 25 rfl _ Try.new25 ?_
  have R1 := Keep.mk (Blk.new w 25 (bytesA 32 fun _ => 0))
  have b1 := Keep.mk (below_new w (.cells (bytesA 32 fun _ => 0) 25))
  change WL _ _ _ _ _ (w.alloc (.cells (bytesA 32 fun _ => 0) 25))
  generalize w.alloc (.cells (bytesA 32 fun _ => 0) 25) = w1 at *
  obtain ⟨r, hr0⟩ : ∃ z, Keep (z = w.heap.size) := ⟨_, ⟨rfl⟩⟩
  rw [← hr0.out] at R1 ⊢
  have hrw : Keep (w.heap.size ≤ r) := ⟨by rw [hr0.out]; exact Nat.le_refl _⟩
  have S1 := Keep.mk (HS.out.below b1.out)
  clear hr0
  simp only [Act.put, List.setIfInBounds_toArray, List.set_cons_zero, List.set_cons_succ]
  refine WL.val (by kernel_rfl) (.bool false) (by go_simp) ?_
  simp only [Act.put, List.setIfInBounds_toArray, List.set_cons_zero, List.set_cons_succ]
  refine WL.nil ?_
  refine hK1 _ _ ?_
  refine wp_seq_k fun K2 hK2 => ?_
  refine wp_seq_k fun K3 hK3 => ?_
  refine wp_region_list (WL.out ?_)
  refine WL.val (by kernel_rfl) (.int .i64 (n : Int)) (by go_simp) ?_
  simp only [Act.put, List.setIfInBounds_toArray, List.set_cons_zero, List.set_cons_succ]
  refine WL.val (by kernel_rfl) (.bool false) (by go_simp) ?_
  simp only [Act.put, List.setIfInBounds_toArray, List.set_cons_zero, List.set_cons_succ]
  refine WL.val (by kernel_rfl) (.bool false) (by go_simp) ?_
  simp only [Act.put, List.setIfInBounds_toArray, List.set_cons_zero, List.set_cons_succ]
  refine WL.skip (by kernel_rfl) ?_
  simp only [Act.put, List.setIfInBounds_toArray, List.set_cons_zero, List.set_cons_succ]
  refine WL.skip (by kernel_rfl) ?_
  simp only [Act.put, List.setIfInBounds_toArray, List.set_cons_zero, List.set_cons_succ]
  refine WL.skip (by kernel_rfl) ?_
  simp only [Act.put, List.setIfInBounds_toArray, List.set_cons_zero, List.set_cons_succ]
  refine WL.val (by kernel_rfl) (.bool false) (by go_simp) ?_
  simp only [Act.put, List.setIfInBounds_toArray, List.set_cons_zero, List.set_cons_succ]
  refine WL.nil ?_
  refine hK3 _ _ ?_
  refine wp_cond_false rfl ?_
  refine wp_skip ?_
  refine hK2 _ _ ?_
  refine wp_seq_k fun K4 hK4 => ?_
  refine wp_seq_k fun K5 hK5 => ?_
  refine wp_region_list (WL.out ?_)
  refine WL.val (by kernel_rfl) (.int .i64 (n : Int)) (by go_simp) ?_
  simp only [Act.put, List.setIfInBounds_toArray, List.set_cons_zero, List.set_cons_succ]
  refine WL.val (by kernel_rfl) (.bool false) (by go_simp) ?_
  simp only [Act.put, List.setIfInBounds_toArray, List.set_cons_zero, List.set_cons_succ]
  refine WL.val (by kernel_rfl) (.bool false) (by go_simp) ?_
  simp only [Act.put, List.setIfInBounds_toArray, List.set_cons_zero, List.set_cons_succ]
  refine WL.val (by kernel_rfl) (.slice pa 0 pc) (by go_simp) ?_
  simp only [Act.put, List.setIfInBounds_toArray, List.set_cons_zero, List.set_cons_succ]
  refine WL.val (by kernel_rfl) (.int .i64 0) (by go_simp) ?_
  simp only [Act.put, List.setIfInBounds_toArray, List.set_cons_zero, List.set_cons_succ]
  refine WL.val (by kernel_rfl) (.bool true) (by go_simp) ?_
  simp only [Act.put, List.setIfInBounds_toArray, List.set_cons_zero, List.set_cons_succ]
  refine WL.val (by kernel_rfl) (.bool true) (by go_simp) ?_
  simp only [Act.put, List.setIfInBounds_toArray, List.set_cons_zero, List.set_cons_succ]
  refine WL.nil ?_
  refine hK5 _ _ ?_
  refine wp_cond_true rfl ?_
  refine wp_seq_k fun K6 hK6 => ?_
  refine wp_region_list (WL.out ?_)
  refine WL.bld (by kernel_rfl) 25 #[] rfl [] (by simp) (bytesA 32 fun _ => 0) bld_hz ?_
  simp only [Act.put, List.setIfInBounds_toArray, List.set_cons_zero, List.set_cons_succ]
  refine WL.storeR (by kernel_rfl) 25 (.tmp 8) (.tmp 33) rfl r (bytesA 32 fun _ => 0) rfl rfl 25 (bytesA 32 fun _ => 0) R1.out (Try.size25B _) (bytesA_sizes _ _ _) (bytesA_one _ _) ?_
  have R9 := Keep.mk (R1.out.setRow (bytesA 32 fun _ => 0))
  have B9 : Keep (Below w.heap.size w (w1.setRow r (bytesA 32 fun _ => 0))) := ⟨below_setRow b1.out hrw.out _⟩
  generalize w1.setRow r (bytesA 32 fun _ => 0) = w9 at *
  simp only [Act.put]
  refine WL.val (by kernel_rfl) (.bool false) (by go_simp) ?_
  simp only [Act.put, List.setIfInBounds_toArray, List.set_cons_zero, List.set_cons_succ]
  refine WL.nil ?_
  refine hK6 _ _ ?_
  refine wp_ret ?_
  try simp only [Exit.inBlock, Exit.then]
  refine bodyPost_ret (v := .tuple #[.agg (bytesA 32 fun _ => 0), .bool false]) (results_cell_row2 Try.results79 _ _ r 25 _ (0, 0) _ _ rfl rfl R9.out Try.underlying25 rfl (Try.size25B _)) rfl ?_
  refine ⟨_, _, rfl, B9.out, ?_⟩
  rw [climbL_short i _ (by omega)]
set_option maxRecDepth 8000 in
set_option maxHeartbeats 1000000 in
theorem pc_lo (px pd : Nat) (x : LV) (qs : List Hs) (y : Hs) (IH : ∀ (w : World) (b off cap n i : Nat), 1 ≤ n → n < 9223372036854775808 → i < n → CS w px pd x → b < w.heap.size → (qs.length ≤ cap ∧ w.rangeAt b off (flatH qs)) → Calls Try.prog 79 #[.int .i64 (i : Int), .int .i64 (n : Int), .slice (some ⟨b, off, none⟩) qs.length cap, ptr px, ptr pd] w (CQ n i x qs w))
    (b off cap n i m p q : Nat) (w : World) (hm : Keep (RtP.half n = m)) (hq : Keep (qs.length = q)) (hqq : qs.length = q) (hp : p = q + 1) (hpb : p ≤ 4398046511104) (hn : 2 ≤ n) (Hn : Keep (n < 9223372036854775808)) (hi : i < n) (hlo : i < m) (hS : CS w px pd x) (hbw : b < w.heap.size) (hcap : p ≤ cap) (hP : w.rangeAt b off (flatH (qs ++ [y]))) :
    Calls Try.prog 79 #[.int .i64 (i : Int), .int .i64 (n : Int), .slice (some ⟨b, off, none⟩) p cap, ptr px, ptr pd] w (CQ n i x (qs ++ [y]) w) := by
  have hh := RtP.half_le hn
  rw [hm.out] at hh
  have HQ : Keep (∀ wx, Below w.heap.size w wx → (qs.length ≤ cap ∧ wx.rangeAt b off (flatH qs))) := ⟨fun wx hb => ⟨by omega, fun j v hv => rangeAt_below hP hb hbw j v (by rw [flatH_app]; exact List.getElem?_append_left (List.getElem?_eq_some_iff.1 hv).1 ▸ hv)⟩⟩
  have HYr : Keep (∀ wx, Below w.heap.size w wx → wx.rangeAt b (off + q * 32) (bytesA 32 y.f).toList) := ⟨fun wx hb => by
    have h1 := rangeAt_elem (rangeAt_below hP hb hbw) q (by rw [List.length_append, hqq]; simp)
    have h2 : (qs ++ [y])[q]'(by rw [List.length_append, hqq]; simp) = y := by subst hqq; simp
    rw [h2] at h1
    exact h1⟩
  obtain ⟨hy, hye⟩ : ∃ z : Array Value, Keep (z = bytesA 32 y.f) := ⟨_, ⟨rfl⟩⟩
  have HS := Keep.mk hS
  have hn1 : ((n : Int) == 1) = false := by simp; omega
  have hn1' : ¬ n = 1 := by omega
  have hp1 : ((p : Int) == 0) = false := by simp; omega
  have hp1' : ¬ p = 0 := by omega
  have hpq : IntKind.i64.wrap ((p : Int) - 1) = (q : Int) := by rw [IntKind.wrap_i64]; omega
  have hqp : (q : Int) < (p : Int) := by omega
  have hlo' : (i : Int) < (m : Int) := by omega
  skip
  skip
  clear hP hS hp hqq hpb
  go_enter Try.func79, Try.ntmps79
  refine wp_seq_k fun K1 hK1 => ?_
  refine wp_region_list (WL.out ?_)
  refine WL.new (by kernel_rfl) 25 rfl _ Try.new25 ?_
  have R1 := Keep.mk (Blk.new w 25 (bytesA 32 fun _ => 0))
  have b1 := Keep.mk (below_new w (.cells (bytesA 32 fun _ => 0) 25))
  change WL _ _ _ _ _ (w.alloc (.cells (bytesA 32 fun _ => 0) 25))
  generalize w.alloc (.cells (bytesA 32 fun _ => 0) 25) = w1 at *
  obtain ⟨r, hr0⟩ : ∃ z, Keep (z = w.heap.size) := ⟨_, ⟨rfl⟩⟩
  rw [← hr0.out] at R1 ⊢
  have hrw : Keep (w.heap.size ≤ r) := ⟨by rw [hr0.out]; exact Nat.le_refl _⟩
  have S1 := Keep.mk (HS.out.below b1.out)
  clear hr0
  simp only [Act.put, List.setIfInBounds_toArray, List.set_cons_zero, List.set_cons_succ]
  refine WL.val (by kernel_rfl) (.bool false) (by go_simp) ?_
  simp only [Act.put, List.setIfInBounds_toArray, List.set_cons_zero, List.set_cons_succ]
  refine WL.nil ?_
  refine hK1 _ _ ?_
  refine wp_seq_k fun K2 hK2 => ?_
  refine wp_seq_k fun K3 hK3 => ?_
  refine wp_region_list (WL.out ?_)
  refine WL.val (by kernel_rfl) (.int .i64 (n : Int)) (by go_simp) ?_
  simp only [Act.put, List.setIfInBounds_toArray, List.set_cons_zero, List.set_cons_succ]
  refine WL.val (by kernel_rfl) (.bool false) (by go_simp) ?_
  simp only [Act.put, List.setIfInBounds_toArray, List.set_cons_zero, List.set_cons_succ]
  refine WL.val (by kernel_rfl) (.bool false) (by go_simp) ?_
  simp only [Act.put, List.setIfInBounds_toArray, List.set_cons_zero, List.set_cons_succ]
  refine WL.skip (by kernel_rfl) ?_
  simp only [Act.put, List.setIfInBounds_toArray, List.set_cons_zero, List.set_cons_succ]
  refine WL.skip (by kernel_rfl) ?_
  simp only [Act.put, List.setIfInBounds_toArray, List.set_cons_zero, List.set_cons_succ]
  refine WL.skip (by kernel_rfl) ?_
  simp only [Act.put, List.setIfInBounds_toArray, List.set_cons_zero, List.set_cons_succ]
  refine WL.val (by kernel_rfl) (.bool false) (by go_simp) ?_
  simp only [Act.put, List.setIfInBounds_toArray, List.set_cons_zero, List.set_cons_succ]
  refine WL.nil ?_
  refine hK3 _ _ ?_
  refine wp_cond_false rfl ?_
  refine wp_skip ?_
  refine hK2 _ _ ?_
  refine wp_seq_k fun K4 hK4 => ?_
  refine wp_seq_k fun K5 hK5 => ?_
  refine wp_region_list (WL.out ?_)
  refine WL.val (by kernel_rfl) (.int .i64 (n : Int)) (by go_simp) ?_
  simp only [Act.put, List.setIfInBounds_toArray, List.set_cons_zero, List.set_cons_succ]
  refine WL.val (by kernel_rfl) (.bool false) (by go_simp) ?_
  simp only [Act.put, List.setIfInBounds_toArray, List.set_cons_zero, List.set_cons_succ]
  refine WL.val (by kernel_rfl) (.bool false) (by go_simp) ?_
  simp only [Act.put, List.setIfInBounds_toArray, List.set_cons_zero, List.set_cons_succ]
  refine WL.val (by kernel_rfl) (.slice (some ⟨b, off, none⟩) p cap) (by go_simp) ?_
  simp only [Act.put, List.setIfInBounds_toArray, List.set_cons_zero, List.set_cons_succ]
  refine WL.val (by kernel_rfl) (.int .i64 (p : Int)) (by go_simp) ?_
  simp only [Act.put, List.setIfInBounds_toArray, List.set_cons_zero, List.set_cons_succ]
  refine WL.val (by kernel_rfl) (.bool false) (by go_simp) ?_
  simp only [Act.put, List.setIfInBounds_toArray, List.set_cons_zero, List.set_cons_succ]
  refine WL.val (by kernel_rfl) (.bool false) (by go_simp) ?_
  simp only [Act.put, List.setIfInBounds_toArray, List.set_cons_zero, List.set_cons_succ]
  refine WL.nil ?_
  refine hK5 _ _ ?_
  refine wp_cond_false rfl ?_
  refine wp_skip ?_
  refine hK4 _ _ ?_
  refine wp_seq_k fun K6 hK6 => ?_
  refine wp_region_list (WL.out ?_)
  refine WL.val (by kernel_rfl) (.slice (some ⟨b, off, none⟩) p cap) (by go_simp) ?_
  simp only [Act.put, List.setIfInBounds_toArray, List.set_cons_zero, List.set_cons_succ]
  refine WL.val (by kernel_rfl) (.int .i64 (p : Int)) (by go_simp) ?_
  simp only [Act.put, List.setIfInBounds_toArray, List.set_cons_zero, List.set_cons_succ]
  refine WL.val (by kernel_rfl) (.int .i64 (q : Int)) (by go_simp) ?_
  simp only [Act.put, List.setIfInBounds_toArray, List.set_cons_zero, List.set_cons_succ]
  refine WL.val (by kernel_rfl) (.int .i64 (n : Int)) (by go_simp) ?_
  simp only [Act.put, List.setIfInBounds_toArray, List.set_cons_zero, List.set_cons_succ]
  refine WL.callF (by kernel_rfl) 50 _ _ rfl Try.in50 #[.int .i64 (n : Int)] (by simp [Act.eval]) ?_
  refine (left_any n w1 (by omega) Hn.out).mono ?_
  rintro e w1_ ⟨rfl, hw_⟩
  refine ⟨_, rfl, ?_⟩
  have hw_ := hw_.symm
  subst hw_
  rw [hm.out]
  simp only [Act.put, List.setIfInBounds_toArray, List.set_cons_zero, List.set_cons_succ]
  refine WL.val (by kernel_rfl) (.int .i64 (q : Int)) (by go_simp) ?_
  simp only [Act.put, List.setIfInBounds_toArray, List.set_cons_zero, List.set_cons_succ]
  refine WL.val (by kernel_rfl) (.int .i64 (m : Int)) (by go_simp) ?_
  simp only [Act.put, List.setIfInBounds_toArray, List.set_cons_zero, List.set_cons_succ]
  refine WL.nil ?_
  refine hK6 _ _ ?_
  refine wp_seq_k fun K7 hK7 => ?_
  refine wp_seq_k fun K8 hK8 => ?_
  refine wp_region_list (WL.out ?_)
  refine WL.val (by kernel_rfl) (.int .i64 (i : Int)) (by go_simp) ?_
  simp only [Act.put, List.setIfInBounds_toArray, List.set_cons_zero, List.set_cons_succ]
  refine WL.val (by kernel_rfl) (.int .i64 (m : Int)) (by go_simp) ?_
  simp only [Act.put, List.setIfInBounds_toArray, List.set_cons_zero, List.set_cons_succ]
  refine WL.val (by kernel_rfl) (.bool true) (by go_simp) ?_
  simp only [Act.put, List.setIfInBounds_toArray, List.set_cons_zero, List.set_cons_succ]
  refine WL.nil ?_
  refine hK8 _ _ ?_
  refine wp_cond_true rfl ?_
  refine wp_seq_k fun K9 hK9 => ?_
  have S2 : Keep (CS w1.drew px pd x) := ⟨S1.out.below (Below.refl _ _).drew⟩
  have R2 : Keep (Blk w1.drew r 25 (bytesA 32 fun _ => 0)) := ⟨R1.out⟩
  have B2 : Keep (Below w.heap.size w w1.drew) := ⟨b1.out.drew⟩
  clear S1 R1 b1
  have rest : ∀ (u : Nat) (hc : Array Value) (cc : Nat → Int) (ok : Bool) (w5 : World), Keep (hc = bytesA 32 cc) → Blk w5 u 25 hc → Blk w5 r 25 (bytesA 32 fun _ => 0) → Below w.heap.size w w5 → r ≠ u → (match climbL m i (lfH x) qs with | some (t, _) => ok = true ∧ bytesA 32 cc = bytesA 32 (hof t) | none => ok = false) → K9 { tmps := #[.int .i64 (i : Int), .int .i64 (n : Int), .slice (some ⟨b, off, none⟩) p cap, .pointer (some ⟨px, 0, none⟩), .pointer (some ⟨pd, 0, none⟩), undef, undef, undef, .pointer (some ⟨r, 0, none⟩), .bool false, .int .i64 (q : Int), .int .i64 (m : Int), .pointer (some ⟨u, 0, none⟩), .bool ok, undef, undef, .int .i64 (n : Int), .bool false, .bool false, undef, undef, undef, .bool false, undef, undef, undef, .int .i64 (n : Int), .bool false, .bool false, .slice (some ⟨b, off, none⟩) p cap, .int .i64 (p : Int), .bool false, .bool false, undef, .slice (some ⟨b, off, none⟩) p cap, .int .i64 (p : Int), .int .i64 (q : Int), .int .i64 (n : Int), .int .i64 (m : Int), .int .i64 (i : Int), .int .i64 (m : Int), .bool true, .tuple #[.agg hc, .bool ok], (clV px pd), .int .i64 (i : Int), .int .i64 (m : Int), .slice (some ⟨b, off, none⟩) p cap, .int .i64 (q : Int), .slice (some ⟨b, off, none⟩) q cap, .tuple #[.agg hc, .bool ok], .agg hc, .bool ok, undef, undef, undef, undef, undef, undef, undef, undef, undef, undef, undef, undef, undef, undef, undef, undef, undef, undef, undef, undef, undef, undef, undef, undef, undef, undef, undef, undef], defers := [] } w5 := by
    intro u hc cc ok w5 hce hU hR5 hB5 hnu hM
    have U5 := Keep.mk hU
    have R5 := Keep.mk hR5
    have B5 := Keep.mk hB5
    have M5 := Keep.mk hM
    have NUR : Keep (u ≠ r) := ⟨fun e => hnu e.symm⟩
    clear hU hR5 hB5 hM hnu S2 R2 B2
    refine hK9 _ _ ?_
    refine wp_seq_k fun K10 hK10 => ?_
    obtain ⟨hr_, hre⟩ : ∃ z : Array Value, Keep (z = (bytesA 32 (shaP (RtP.innR (hl 32 (cc)) (hl 32 (y.f)))))) := ⟨_, ⟨rfl⟩⟩
    have U7 : Keep (Blk w5.drew u 25 hc) := ⟨U5.out⟩
    have R7 : Keep (Blk w5.drew r 25 (bytesA 32 fun _ => 0)) := ⟨R5.out⟩
    have B7 : Keep (Below w.heap.size w w5.drew) := ⟨B5.out.drew⟩
    clear U5 R5 B5
    have HIN : Keep (Calls Try.prog 51 #[.agg hc, .agg hy] w5.drew fun e w' => e = .returned (.agg hr_) ∧ Below w5.drew.heap.size w5.drew w') := ⟨by rw [hre.out, hce.out, hye.out]; exact pinner_any (cc) (y.f) w5.drew⟩
    have hY0 : Keep (∀ wx, Below w.heap.size w wx → wx.rangeAt b (off + q * 32) hy.toList) := ⟨fun wx hb => by rw [hye.out]; exact HYr.out wx hb⟩
    refine wp_region_held_drew (S := fun wx => wx.rangeAt u 0 hc.toList ∧ wx.rangeAt b (off + q * 32) hy.toList) (by kernel_rfl) (⟨blk_range U7.out, hY0.out _ B7.out⟩) (fun hHeld => ?_)
    refine wpAnyH_take (i := 0) (oi := ⟨some 52, Op.load 25 (Operand.tmp 12), 25, _, _, none⟩) (v := .agg hc) rfl (by kernel_rfl) (by kernel_rfl) (by kernel_rfl) (fun _ _ _ h => h) (yieldsIf_ld (by rfl) (Operand.tmp 12) 25 rfl u 0 rfl hc _ Try.underlying25 rfl (by rw [hce.out]; exact Try.size25B _) fun w hS => hS.1) hHeld ?_
    simp only [Act.put, List.setIfInBounds_toArray, List.set_cons_zero, List.set_cons_succ]
    refine wpAnyH_take (i := 1) (oi := ⟨some 53, Op.move (Operand.tmp 2), 67, _, _, none⟩) (v := .slice (some ⟨b, off, none⟩) p cap) rfl (by kernel_rfl) (by kernel_rfl) (by kernel_rfl) (fun _ _ _ h => h) (Or.inl ⟨by rfl, fun w hS => by obtain ⟨hS1, hS2⟩ := hS; clear hS1 hS2; go_simp⟩) hHeld ?_
    simp only [Act.put, List.setIfInBounds_toArray, List.set_cons_zero, List.set_cons_succ]
    refine wpAnyH_take (i := 2) (oi := ⟨some 54, Op.move (Operand.tmp 10), 3, _, _, none⟩) (v := .int .i64 (q : Int)) rfl (by kernel_rfl) (by kernel_rfl) (by kernel_rfl) (fun _ _ _ h => h) (Or.inl ⟨by rfl, fun w hS => by obtain ⟨hS1, hS2⟩ := hS; clear hS1 hS2; go_simp⟩) hHeld ?_
    simp only [Act.put, List.setIfInBounds_toArray, List.set_cons_zero, List.set_cons_succ]
    refine wpAnyH_take (i := 6) (oi := ⟨some 58, Op.move (Operand.tmp 13), 4, _, _, none⟩) (v := .bool ok) rfl (by kernel_rfl) (by kernel_rfl) (by kernel_rfl) (fun _ _ _ h => h) (Or.inl ⟨by rfl, fun w hS => by obtain ⟨hS1, hS2⟩ := hS; clear hS1 hS2; go_simp⟩) hHeld ?_
    simp only [Act.put, List.setIfInBounds_toArray, List.set_cons_zero, List.set_cons_succ]
    refine wpAnyH_take (i := 3) (oi := ⟨some 55, Op.indexAddr 67 (Operand.tmp 53) (Operand.tmp 54), 0, _, _, none⟩) (v := .pointer (some ⟨b, off + q * 32, none⟩)) rfl (by kernel_rfl) (by kernel_rfl) (by kernel_rfl) (fun _ _ _ h => h) (Or.inl ⟨by rfl, fun w hS => by obtain ⟨hS1, hS2⟩ := hS; clear hS1 hS2; go_simp⟩) hHeld ?_
    simp only [Act.put, List.setIfInBounds_toArray, List.set_cons_zero, List.set_cons_succ]
    refine wpAnyH_take (i := 4) (oi := ⟨some 56, Op.load 25 (Operand.tmp 55), 25, _, _, none⟩) (v := .agg hy) rfl (by kernel_rfl) (by kernel_rfl) (by kernel_rfl) (fun _ _ _ h => h) (yieldsIf_ld (by rfl) (Operand.tmp 55) 25 rfl b (off + q * 32) rfl hy _ Try.underlying25 rfl (by rw [hye.out]; exact Try.size25B _) fun w hS => hS.2) hHeld ?_
    simp only [Act.put, List.setIfInBounds_toArray, List.set_cons_zero, List.set_cons_succ]
    refine wpAnyH_ready (rs := [5]) (by kernel_rfl) (by simp) ?_
    refine AllReadyH.cons (o := ⟨some 57, Op.call { callee := Callee.value (Operand.func 51), args := #[Operand.tmp 52, Operand.tmp 56], argTypes := #[25, 25] }, 25, _, _, none⟩) rfl (fun K hK => ?_) AllReadyH.nil
    rw [if_pos (by rfl)]
    refine wp_callF 51 _ _ rfl Try.in51 #[.agg hc, .agg hy] (by simp [Act.eval]) (fun vz wz => vz = .agg hr_ ∧ Below w5.drew.heap.size w5.drew wz) ?_ ?_
    · refine (HIN.out).mono ?_
      rintro e wz ⟨rfl, k1⟩
      exact ⟨_, rfl, rfl, k1⟩
    rintro vz w8 ⟨rfl, k1⟩
    have U8 := Keep.mk (U7.out.below k1 U7.out.lt)
    have R8 := Keep.mk (R7.out.below k1 R7.out.lt)
    have B8 : Keep (Below w.heap.size w w8) := ⟨B7.out.trans (k1.mono B7.out.size)⟩
    clear k1 U7 R7 B7
    refine hK _ _ (⟨blk_range U8.out, hY0.out _ B8.out⟩) fun hH1 => ?_
    clear hK
    simp only [Act.put, List.setIfInBounds_toArray, List.set_cons_zero, List.set_cons_succ]
    refine wpAnyH_ready (rs := [7]) (by kernel_rfl) (by simp) ?_
    refine AllReadyH.cons (o := ⟨none, Op.store 25 (Operand.tmp 8) (Operand.tmp 57), 0, _, _, none⟩) rfl (fun K hK => ?_) AllReadyH.nil
    rw [if_pos (by rfl)]
    refine wp_store_row 25 (.tmp 8) (.tmp 57) rfl r hr_ rfl rfl 25 (bytesA 32 fun _ => 0) R8.out (by rw [hre.out]; exact Try.size25B _) (by rw [hre.out]; exact bytesA_sizes _ _ _) (by rw [hre.out]; exact bytesA_one _ _) ?_
    have R9 := Keep.mk (R8.out.setRow hr_)
    have U9 : (w8.setRow r hr_).rangeAt u 0 hc.toList := by
      by_cases e : u = r
      · exact absurd e NUR.out
      · exact blk_range (U8.out.setRow_ne e hr_)
    have B9 : Keep (Below w.heap.size w (w8.setRow r hr_)) := ⟨below_setRow B8.out hrw.out _⟩
    generalize w8.setRow r hr_ = w9 at *
    refine hK _ _ ⟨U9, hY0.out _ B9.out⟩ fun hH2 => ?_
    clear hK
    simp only [Act.put, List.setIfInBounds_toArray, List.set_cons_zero, List.set_cons_succ]
    refine wpAnyH_take (i := 8) (oi := ⟨some 9, Op.assign (Operand.tmp 58), 4, _, _, none⟩) (v := .bool ok) rfl (by kernel_rfl) (by kernel_rfl) (by kernel_rfl) (fun _ _ _ h => h) (Or.inl ⟨by rfl, fun w hS => by obtain ⟨hS1, hS2⟩ := hS; clear hS1 hS2; go_simp⟩) hH2 ?_
    simp only [Act.put, List.setIfInBounds_toArray, List.set_cons_zero, List.set_cons_succ]
    refine wpAnyH_done (by kernel_rfl) ?_ _
    refine hK10 _ _ ?_
    refine wp_ret ?_
    try simp only [Exit.inBlock, Exit.then]
    refine bodyPost_ret (v := .tuple #[.agg hr_, .bool ok]) (results_cell_row2 Try.results79 _ _ r 25 _ (0, 0) _ _ rfl rfl R9.out Try.underlying25 rfl (by rw [hre.out]; exact Try.size25B _)) rfl ?_
    refine ⟨_, ok, by rw [hre.out], B9.out, ?_⟩
    rw [climbL_lo (by omega) (by rw [hm.out]; exact hlo), hm.out]
    have hM := M5.out
    cases e : climbL m i (lfH x) qs with
    | none => rw [e] at hM; exact hM
    | some zz =>
      rw [e] at hM
      obtain ⟨h1, h2⟩ := hM
      have hlt : zz.1.length = 32 := RtP.climb_len shaL shaL_len _ _ _ _ _ _ _ (shaL_len _) e
      have hlc : hl 32 cc = zz.1 := by rw [hl_of_arr h2, hl_hof hlt]
      refine ⟨h1, ?_⟩
      rw [hlc]
      show _ = bytesA 32 (hof (shaL _))
      rw [shaL, hof_hl]
      rfl
  refine wp_region_held_drew (S := fun wx => wx.cell? ⟨pd, 0, none⟩ = some (clV px pd)) (by kernel_rfl) (S2.out.bd.c 0 rfl) (fun hH0 => ?_)
  generalize w1.drew = w2 at *
  refine wpAnyH_take (i := 1) (oi := ⟨some 44, Op.move (Operand.tmp 0), 3, _, _, none⟩) (v := .int .i64 (i : Int)) rfl (by kernel_rfl) (by kernel_rfl) (by kernel_rfl) (fun _ _ _ h => h) (Or.inl ⟨by rfl, fun w hS => by go_simp⟩) hH0 ?_
  simp only [Act.put, List.setIfInBounds_toArray, List.set_cons_zero, List.set_cons_succ]
  refine wpAnyH_take (i := 2) (oi := ⟨some 45, Op.move (Operand.tmp 11), 3, _, _, none⟩) (v := .int .i64 (m : Int)) rfl (by kernel_rfl) (by kernel_rfl) (by kernel_rfl) (fun _ _ _ h => h) (Or.inl ⟨by rfl, fun w hS => by go_simp⟩) hH0 ?_
  simp only [Act.put, List.setIfInBounds_toArray, List.set_cons_zero, List.set_cons_succ]
  refine wpAnyH_take (i := 3) (oi := ⟨some 46, Op.move (Operand.tmp 2), 67, _, _, none⟩) (v := .slice (some ⟨b, off, none⟩) p cap) rfl (by kernel_rfl) (by kernel_rfl) (by kernel_rfl) (fun _ _ _ h => h) (Or.inl ⟨by rfl, fun w hS => by go_simp⟩) hH0 ?_
  simp only [Act.put, List.setIfInBounds_toArray, List.set_cons_zero, List.set_cons_succ]
  refine wpAnyH_take (i := 4) (oi := ⟨some 47, Op.move (Operand.tmp 10), 3, _, _, none⟩) (v := .int .i64 (q : Int)) rfl (by kernel_rfl) (by kernel_rfl) (by kernel_rfl) (fun _ _ _ h => h) (Or.inl ⟨by rfl, fun w hS => by go_simp⟩) hH0 ?_
  simp only [Act.put, List.setIfInBounds_toArray, List.set_cons_zero, List.set_cons_succ]
  refine wpAnyH_take (i := 0) (oi := ⟨some 43, Op.load 121 (Operand.tmp 4), 121, _, _, none⟩) (v := (clV px pd)) rfl (by kernel_rfl) (by kernel_rfl) (by kernel_rfl) (fun _ _ _ h => h) (Or.inl ⟨by rfl, fun w hS => by go_simp⟩) hH0 ?_
  simp only [Act.put, List.setIfInBounds_toArray, List.set_cons_zero, List.set_cons_succ]
  refine wpAnyH_take (i := 5) (oi := ⟨some 48, Op.slice 67 (Operand.tmp 46) none (some (Operand.tmp 47)) none, 67, _, _, none⟩) (v := .slice (some ⟨b, off, none⟩) q cap) rfl (by kernel_rfl) (by kernel_rfl) (by kernel_rfl) (fun _ _ _ h => h) (yieldsIf_slice (by rfl) 67 (.tmp 46) (.tmp 47) rfl (.slice (some ⟨b, off, none⟩) p cap) (.int .i64 (q : Int)) (.slice (some ⟨b, off, none⟩) q cap) rfl rfl (fun w => slH_h _ p cap q (by omega) w)) hH0 ?_
  simp only [Act.put, List.setIfInBounds_toArray, List.set_cons_zero, List.set_cons_succ]
  refine wpAnyH_ready (rs := [6, 10]) (by kernel_rfl) (by simp) ?_
  refine AllReadyH.cons (o := ⟨some 49, Op.call { callee := Callee.value (Operand.tmp 43), args := #[Operand.tmp 44, Operand.tmp 45, Operand.tmp 48], argTypes := #[3, 3, 67] }, 99, _, _, none⟩) rfl (fun K hK => ?_) (AllReadyH.cons (o := ⟨some 12, Op.alloc 25, 0, _, _, none⟩) rfl (fun K hK => ?_) AllReadyH.nil)
  · rw [if_pos (by rfl)]
    have hih := IH w2 b off cap m i (by omega) (by have := Hn.out; omega) (by omega) S2.out (Nat.lt_of_lt_of_le hbw B2.out.size) (HQ.out _ B2.out)
    rw [hq.out] at hih
    refine wp_callC 79 (.tmp 43) _ _ #[ptr px, ptr pd] rfl rfl Try.in79 #[.int .i64 (i : Int), .int .i64 (m : Int), .slice (some ⟨b, off, none⟩) q cap, ptr px, ptr pd] (by simp [Act.eval]) (fun vz wz => ∃ (cc : Nat → Int) (ok : Bool), vz = .tuple #[.agg (bytesA 32 cc), .bool ok] ∧ Below w2.heap.size w2 wz ∧ (match climbL m i (lfH x) qs with | some (t, _) => ok = true ∧ bytesA 32 cc = bytesA 32 (hof t) | none => ok = false)) ?_ ?_
    · refine hih.mono ?_
      rintro e wz ⟨cc, ok, rfl, k1, k2⟩
      exact ⟨_, rfl, cc, ok, rfl, k1, k2⟩
    rintro vz w4 ⟨cc, ok, rfl, k1, k2⟩
    obtain ⟨hc, hce⟩ : ∃ z : Array Value, Keep (z = bytesA 32 cc) := ⟨_, ⟨rfl⟩⟩
    rw [← hce.out]
    have M4 := Keep.mk k2
    have S4 := Keep.mk (S2.out.below k1)
    have R4 := Keep.mk (R2.out.below k1 R2.out.lt)
    have B4 : Keep (Below w.heap.size w w4) := ⟨B2.out.trans (k1.mono B2.out.size)⟩
    clear hih k1 k2
    refine hK _ _ (S4.out.bd.c 0 rfl) fun hH1 => ?_
    clear hK
    simp only [Act.put, List.setIfInBounds_toArray, List.set_cons_zero, List.set_cons_succ]
    refine wpAnyH_take (i := 7) (oi := ⟨some 42, Op.move (Operand.tmp 49), 99, _, _, none⟩) (v := .tuple #[.agg hc, .bool ok]) rfl (by kernel_rfl) (by kernel_rfl) (by kernel_rfl) (fun _ _ _ h => h) (Or.inl ⟨by rfl, fun w hS => by go_simp⟩) hH1 ?_
    simp only [Act.put, List.setIfInBounds_toArray, List.set_cons_zero, List.set_cons_succ]
    refine wpAnyH_take (i := 8) (oi := ⟨some 50, Op.extract (Operand.tmp 42) 0, 25, _, _, none⟩) (v := .agg hc) rfl (by kernel_rfl) (by kernel_rfl) (by kernel_rfl) (fun _ _ _ h => h) (Or.inl ⟨by rfl, fun w hS => by go_simp⟩) hH1 ?_
    simp only [Act.put, List.setIfInBounds_toArray, List.set_cons_zero, List.set_cons_succ]
    refine wpAnyH_take (i := 9) (oi := ⟨some 51, Op.extract (Operand.tmp 42) 1, 4, _, _, none⟩) (v := .bool ok) rfl (by kernel_rfl) (by kernel_rfl) (by kernel_rfl) (fun _ _ _ h => h) (Or.inl ⟨by rfl, fun w hS => by go_simp⟩) hH1 ?_
    simp only [Act.put, List.setIfInBounds_toArray, List.set_cons_zero, List.set_cons_succ]
    refine wpAnyH_ready (rs := [10]) (by kernel_rfl) (by simp) ?_
    refine AllReadyH.cons (o := ⟨some 12, Op.alloc 25, 0, _, _, none⟩) rfl (fun K hK => ?_) AllReadyH.nil
    rw [if_pos (by rfl)]
    refine wp_newA 25 rfl _ Try.new25 ?_
    have b_ := below_new w4 (.cells (bytesA 32 fun _ => 0) 25)
    have U5 := Keep.mk (Blk.new w4 25 (bytesA 32 fun _ => 0))
    have S5 := Keep.mk (S4.out.below b_)
    have R5 := Keep.mk (R4.out.below b_ R4.out.lt)
    have B5 : Keep (Below w.heap.size w _) := ⟨B4.out.trans (b_.mono B4.out.size)⟩
    have nr : Keep (r ≠ w4.heap.size) := ⟨by have := R4.out.lt; omega⟩
    have gu : Keep (w.heap.size ≤ w4.heap.size) := ⟨B4.out.size⟩
    generalize w4.alloc (.cells (bytesA 32 fun _ => 0) 25) = w5 at *
    obtain ⟨u, hu⟩ : ∃ z, Keep (z = w4.heap.size) := ⟨_, ⟨rfl⟩⟩
    rw [← hu.out] at U5 nr gu ⊢
    clear b_ hu
    refine hK _ _ (S5.out.bd.c 0 rfl) fun hH2 => ?_
    clear hK
    simp only [Act.put, List.setIfInBounds_toArray, List.set_cons_zero, List.set_cons_succ]
    refine wpAnyH_ready (rs := [11]) (by kernel_rfl) (by simp) ?_
    refine AllReadyH.cons (o := ⟨none, Op.store 25 (Operand.tmp 12) (Operand.tmp 50), 0, _, _, none⟩) rfl (fun K hK => ?_) AllReadyH.nil
    rw [if_pos (by rfl)]
    refine wp_store_row 25 (.tmp 12) (.tmp 50) rfl u hc rfl rfl 25 _ U5.out (by rw [hce.out]; exact Try.size25B _) (by rw [hce.out]; exact bytesA_sizes _ _ _) (by rw [hce.out]; exact bytesA_one _ _) ?_
    have U6 := Keep.mk (U5.out.setRow hc)
    have R6 := Keep.mk (R5.out.setRow_ne nr.out hc)
    have B6 : Keep (Below w.heap.size w (w5.setRow u hc)) := ⟨below_setRow B5.out gu.out _⟩
    have S6 : (w5.setRow u hc).cell? ⟨pd, 0, none⟩ = some (clV px pd) := (S5.out.bd.setRow_ne (blk_ne S5.out.bd U5.out (by decide)) hc).c 0 rfl
    generalize w5.setRow u hc = w6 at *
    refine hK _ _ S6 fun hH3 => ?_
    clear hK
    simp only [Act.put]
    refine wpAnyH_take (i := 12) (oi := ⟨some 13, Op.assign (Operand.tmp 51), 4, _, _, none⟩) (v := .bool ok) rfl (by kernel_rfl) (by kernel_rfl) (by kernel_rfl) (fun _ _ _ h => h) (Or.inl ⟨by rfl, fun w hS => by go_simp⟩) hH3 ?_
    simp only [Act.put, List.setIfInBounds_toArray, List.set_cons_zero, List.set_cons_succ]
    refine wpAnyH_done (by kernel_rfl) ?_ _
    exact rest u hc cc ok w6 hce U6.out R6.out B6.out nr.out M4.out
  · rw [if_pos (by rfl)]
    refine wp_newA 25 rfl _ Try.new25 ?_
    have b_ := below_new w2 (.cells (bytesA 32 fun _ => 0) 25)
    have U3 := Keep.mk (Blk.new w2 25 (bytesA 32 fun _ => 0))
    have S3 := Keep.mk (S2.out.below b_)
    have R3 := Keep.mk (R2.out.below b_ R2.out.lt)
    have B3 : Keep (Below w.heap.size w _) := ⟨B2.out.trans (b_.mono B2.out.size)⟩
    have nr : Keep (r ≠ w2.heap.size) := ⟨by have := R2.out.lt; omega⟩
    have gu : Keep (w.heap.size ≤ w2.heap.size) := ⟨B2.out.size⟩
    generalize w2.alloc (.cells (bytesA 32 fun _ => 0) 25) = w3 at *
    obtain ⟨u, hu⟩ : ∃ z, Keep (z = w2.heap.size) := ⟨_, ⟨rfl⟩⟩
    rw [← hu.out] at U3 nr gu ⊢
    clear b_ hu
    refine hK _ _ (S3.out.bd.c 0 rfl) fun hH2 => ?_
    clear hK
    simp only [Act.put, List.setIfInBounds_toArray, List.set_cons_zero, List.set_cons_succ]
    refine wpAnyH_ready (rs := [6]) (by kernel_rfl) (by simp) ?_
    refine AllReadyH.cons (o := ⟨some 49, Op.call { callee := Callee.value (Operand.tmp 43), args := #[Operand.tmp 44, Operand.tmp 45, Operand.tmp 48], argTypes := #[3, 3, 67] }, 99, _, _, none⟩) rfl (fun K hK => ?_) AllReadyH.nil
    rw [if_pos (by rfl)]
    have hih := IH w3 b off cap m i (by omega) (by have := Hn.out; omega) (by omega) S3.out (Nat.lt_of_lt_of_le hbw B3.out.size) (HQ.out _ B3.out)
    rw [hq.out] at hih
    refine wp_callC 79 (.tmp 43) _ _ #[ptr px, ptr pd] rfl rfl Try.in79 #[.int .i64 (i : Int), .int .i64 (m : Int), .slice (some ⟨b, off, none⟩) q cap, ptr px, ptr pd] (by simp [Act.eval]) (fun vz wz => ∃ (cc : Nat → Int) (ok : Bool), vz = .tuple #[.agg (bytesA 32 cc), .bool ok] ∧ Below w3.heap.size w3 wz ∧ (match climbL m i (lfH x) qs with | some (t, _) => ok = true ∧ bytesA 32 cc = bytesA 32 (hof t) | none => ok = false)) ?_ ?_
    · refine hih.mono ?_
      rintro e wz ⟨cc, ok, rfl, k1, k2⟩
      exact ⟨_, rfl, cc, ok, rfl, k1, k2⟩
    rintro vz w4 ⟨cc, ok, rfl, k1, k2⟩
    obtain ⟨hc, hce⟩ : ∃ z : Array Value, Keep (z = bytesA 32 cc) := ⟨_, ⟨rfl⟩⟩
    rw [← hce.out]
    have M4 := Keep.mk k2
    have S4 := Keep.mk (S3.out.below k1)
    have R4 := Keep.mk (R3.out.below k1 R3.out.lt)
    have B4 : Keep (Below w.heap.size w w4) := ⟨B3.out.trans (k1.mono B3.out.size)⟩
    have U4 := Keep.mk (U3.out.below k1 U3.out.lt)
    clear hih k1 k2
    refine hK _ _ (S4.out.bd.c 0 rfl) fun hH1 => ?_
    clear hK
    simp only [Act.put, List.setIfInBounds_toArray, List.set_cons_zero, List.set_cons_succ]
    refine wpAnyH_take (i := 7) (oi := ⟨some 42, Op.move (Operand.tmp 49), 99, _, _, none⟩) (v := .tuple #[.agg hc, .bool ok]) rfl (by kernel_rfl) (by kernel_rfl) (by kernel_rfl) (fun _ _ _ h => h) (Or.inl ⟨by rfl, fun w hS => by go_simp⟩) hH1 ?_
    simp only [Act.put, List.setIfInBounds_toArray, List.set_cons_zero, List.set_cons_succ]
    refine wpAnyH_take (i := 8) (oi := ⟨some 50, Op.extract (Operand.tmp 42) 0, 25, _, _, none⟩) (v := .agg hc) rfl (by kernel_rfl) (by kernel_rfl) (by kernel_rfl) (fun _ _ _ h => h) (Or.inl ⟨by rfl, fun w hS => by go_simp⟩) hH1 ?_
    simp only [Act.put, List.setIfInBounds_toArray, List.set_cons_zero, List.set_cons_succ]
    refine wpAnyH_take (i := 9) (oi := ⟨some 51, Op.extract (Operand.tmp 42) 1, 4, _, _, none⟩) (v := .bool ok) rfl (by kernel_rfl) (by kernel_rfl) (by kernel_rfl) (fun _ _ _ h => h) (Or.inl ⟨by rfl, fun w hS => by go_simp⟩) hH1 ?_
    simp only [Act.put, List.setIfInBounds_toArray, List.set_cons_zero, List.set_cons_succ]
    refine wpAnyH_ready (rs := [11]) (by kernel_rfl) (by simp) ?_
    refine AllReadyH.cons (o := ⟨none, Op.store 25 (Operand.tmp 12) (Operand.tmp 50), 0, _, _, none⟩) rfl (fun K hK => ?_) AllReadyH.nil
    rw [if_pos (by rfl)]
    refine wp_store_row 25 (.tmp 12) (.tmp 50) rfl u hc rfl rfl 25 _ U4.out (by rw [hce.out]; exact Try.size25B _) (by rw [hce.out]; exact bytesA_sizes _ _ _) (by rw [hce.out]; exact bytesA_one _ _) ?_
    have U6 := Keep.mk (U4.out.setRow hc)
    have R6 := Keep.mk (R4.out.setRow_ne nr.out hc)
    have B6 : Keep (Below w.heap.size w (w4.setRow u hc)) := ⟨below_setRow B4.out gu.out _⟩
    have S6 : (w4.setRow u hc).cell? ⟨pd, 0, none⟩ = some (clV px pd) := (S4.out.bd.setRow_ne (blk_ne S4.out.bd U4.out (by decide)) hc).c 0 rfl
    generalize w4.setRow u hc = w6 at *
    refine hK _ _ S6 fun hH3 => ?_
    clear hK
    simp only [Act.put]
    refine wpAnyH_take (i := 12) (oi := ⟨some 13, Op.assign (Operand.tmp 51), 4, _, _, none⟩) (v := .bool ok) rfl (by kernel_rfl) (by kernel_rfl) (by kernel_rfl) (fun _ _ _ h => h) (Or.inl ⟨by rfl, fun w hS => by go_simp⟩) hH3 ?_
    simp only [Act.put, List.setIfInBounds_toArray, List.set_cons_zero, List.set_cons_succ]
    refine wpAnyH_done (by kernel_rfl) ?_ _
    exact rest u hc cc ok w6 hce U6.out R6.out B6.out nr.out M4.out
set_option maxRecDepth 8000 in
set_option maxHeartbeats 1000000 in
theorem pc_hi (px pd : Nat) (x : LV) (qs : List Hs) (y : Hs) (IH : ∀ (w : World) (b off cap n i : Nat), 1 ≤ n → n < 9223372036854775808 → i < n → CS w px pd x → b < w.heap.size → (qs.length ≤ cap ∧ w.rangeAt b off (flatH qs)) → Calls Try.prog 79 #[.int .i64 (i : Int), .int .i64 (n : Int), .slice (some ⟨b, off, none⟩) qs.length cap, ptr px, ptr pd] w (CQ n i x qs w))
    (b off cap n i m p q : Nat) (w : World) (hm : Keep (RtP.half n = m)) (hq : Keep (qs.length = q)) (hqq : qs.length = q) (hp : p = q + 1) (hpb : p ≤ 4398046511104) (hn : 2 ≤ n) (Hn : Keep (n < 9223372036854775808)) (hi : i < n) (hlo : ¬ i < m) (hS : CS w px pd x) (hbw : b < w.heap.size) (hcap : p ≤ cap) (hP : w.rangeAt b off (flatH (qs ++ [y]))) :
    Calls Try.prog 79 #[.int .i64 (i : Int), .int .i64 (n : Int), .slice (some ⟨b, off, none⟩) p cap, ptr px, ptr pd] w (CQ n i x (qs ++ [y]) w) := by
  have hh := RtP.half_le hn
  rw [hm.out] at hh
  have HQ : Keep (∀ wx, Below w.heap.size w wx → (qs.length ≤ cap ∧ wx.rangeAt b off (flatH qs))) := ⟨fun wx hb => ⟨by omega, fun j v hv => rangeAt_below hP hb hbw j v (by rw [flatH_app]; exact List.getElem?_append_left (List.getElem?_eq_some_iff.1 hv).1 ▸ hv)⟩⟩
  have HYr : Keep (∀ wx, Below w.heap.size w wx → wx.rangeAt b (off + q * 32) (bytesA 32 y.f).toList) := ⟨fun wx hb => by
    have h1 := rangeAt_elem (rangeAt_below hP hb hbw) q (by rw [List.length_append, hqq]; simp)
    have h2 : (qs ++ [y])[q]'(by rw [List.length_append, hqq]; simp) = y := by subst hqq; simp
    rw [h2] at h1
    exact h1⟩
  obtain ⟨hy, hye⟩ : ∃ z : Array Value, Keep (z = bytesA 32 y.f) := ⟨_, ⟨rfl⟩⟩
  have HS := Keep.mk hS
  have hn1 : ((n : Int) == 1) = false := by simp; omega
  have hn1' : ¬ n = 1 := by omega
  have hp1 : ((p : Int) == 0) = false := by simp; omega
  have hp1' : ¬ p = 0 := by omega
  have hpq : IntKind.i64.wrap ((p : Int) - 1) = (q : Int) := by rw [IntKind.wrap_i64]; omega
  have hqp : (q : Int) < (p : Int) := by omega
  have hlo' : ¬ (i : Int) < (m : Int) := by omega
  have hwn : IntKind.i64.wrap ((n : Int) - (m : Int)) = ((n - m : Nat) : Int) := by rw [IntKind.wrap_i64]; have := Hn.out; omega
  have hwi : IntKind.i64.wrap ((i : Int) - (m : Int)) = ((i - m : Nat) : Int) := by rw [IntKind.wrap_i64]; have := Hn.out; omega
  clear hP hS hp hqq hpb
  go_enter Try.func79, Try.ntmps79
  refine wp_seq_k fun K1 hK1 => ?_
  refine wp_region_list (WL.out ?_)
  refine WL.new (by kernel_rfl) 25 rfl _ Try.new25 ?_
  have R1 := Keep.mk (Blk.new w 25 (bytesA 32 fun _ => 0))
  have b1 := Keep.mk (below_new w (.cells (bytesA 32 fun _ => 0) 25))
  change WL _ _ _ _ _ (w.alloc (.cells (bytesA 32 fun _ => 0) 25))
  generalize w.alloc (.cells (bytesA 32 fun _ => 0) 25) = w1 at *
  obtain ⟨r, hr0⟩ : ∃ z, Keep (z = w.heap.size) := ⟨_, ⟨rfl⟩⟩
  rw [← hr0.out] at R1 ⊢
  have hrw : Keep (w.heap.size ≤ r) := ⟨by rw [hr0.out]; exact Nat.le_refl _⟩
  have S1 := Keep.mk (HS.out.below b1.out)
  clear hr0
  simp only [Act.put, List.setIfInBounds_toArray, List.set_cons_zero, List.set_cons_succ]
  refine WL.val (by kernel_rfl) (.bool false) (by go_simp) ?_
  simp only [Act.put, List.setIfInBounds_toArray, List.set_cons_zero, List.set_cons_succ]
  refine WL.nil ?_
  refine hK1 _ _ ?_
  refine wp_seq_k fun K2 hK2 => ?_
  refine wp_seq_k fun K3 hK3 => ?_
  refine wp_region_list (WL.out ?_)
  refine WL.val (by kernel_rfl) (.int .i64 (n : Int)) (by go_simp) ?_
  simp only [Act.put, List.setIfInBounds_toArray, List.set_cons_zero, List.set_cons_succ]
  refine WL.val (by kernel_rfl) (.bool false) (by go_simp) ?_
  simp only [Act.put, List.setIfInBounds_toArray, List.set_cons_zero, List.set_cons_succ]
  refine WL.val (by kernel_rfl) (.bool false) (by go_simp) ?_
  simp only [Act.put, List.setIfInBounds_toArray, List.set_cons_zero, List.set_cons_succ]
  refine WL.skip (by kernel_rfl) ?_
  simp only [Act.put, List.setIfInBounds_toArray, List.set_cons_zero, List.set_cons_succ]
  refine WL.skip (by kernel_rfl) ?_
  simp only [Act.put, List.setIfInBounds_toArray, List.set_cons_zero, List.set_cons_succ]
  refine WL.skip (by kernel_rfl) ?_
  simp only [Act.put, List.setIfInBounds_toArray, List.set_cons_zero, List.set_cons_succ]
  refine WL.val (by kernel_rfl) (.bool false) (by go_simp) ?_
  simp only [Act.put, List.setIfInBounds_toArray, List.set_cons_zero, List.set_cons_succ]
  refine WL.nil ?_
  refine hK3 _ _ ?_
  refine wp_cond_false rfl ?_
  refine wp_skip ?_
  refine hK2 _ _ ?_
  refine wp_seq_k fun K4 hK4 => ?_
  refine wp_seq_k fun K5 hK5 => ?_
  refine wp_region_list (WL.out ?_)
  refine WL.val (by kernel_rfl) (.int .i64 (n : Int)) (by go_simp) ?_
  simp only [Act.put, List.setIfInBounds_toArray, List.set_cons_zero, List.set_cons_succ]
  refine WL.val (by kernel_rfl) (.bool false) (by go_simp) ?_
  simp only [Act.put, List.setIfInBounds_toArray, List.set_cons_zero, List.set_cons_succ]
  refine WL.val (by kernel_rfl) (.bool false) (by go_simp) ?_
  simp only [Act.put, List.setIfInBounds_toArray, List.set_cons_zero, List.set_cons_succ]
  refine WL.val (by kernel_rfl) (.slice (some ⟨b, off, none⟩) p cap) (by go_simp) ?_
  simp only [Act.put, List.setIfInBounds_toArray, List.set_cons_zero, List.set_cons_succ]
  refine WL.val (by kernel_rfl) (.int .i64 (p : Int)) (by go_simp) ?_
  simp only [Act.put, List.setIfInBounds_toArray, List.set_cons_zero, List.set_cons_succ]
  refine WL.val (by kernel_rfl) (.bool false) (by go_simp) ?_
  simp only [Act.put, List.setIfInBounds_toArray, List.set_cons_zero, List.set_cons_succ]
  refine WL.val (by kernel_rfl) (.bool false) (by go_simp) ?_
  simp only [Act.put, List.setIfInBounds_toArray, List.set_cons_zero, List.set_cons_succ]
  refine WL.nil ?_
  refine hK5 _ _ ?_
  refine wp_cond_false rfl ?_
  refine wp_skip ?_
  refine hK4 _ _ ?_
  refine wp_seq_k fun K6 hK6 => ?_
  refine wp_region_list (WL.out ?_)
  refine WL.val (by kernel_rfl) (.slice (some ⟨b, off, none⟩) p cap) (by go_simp) ?_
  simp only [Act.put, List.setIfInBounds_toArray, List.set_cons_zero, List.set_cons_succ]
  refine WL.val (by kernel_rfl) (.int .i64 (p : Int)) (by go_simp) ?_
  simp only [Act.put, List.setIfInBounds_toArray, List.set_cons_zero, List.set_cons_succ]
  refine WL.val (by kernel_rfl) (.int .i64 (q : Int)) (by go_simp) ?_
  simp only [Act.put, List.setIfInBounds_toArray, List.set_cons_zero, List.set_cons_succ]
  refine WL.val (by kernel_rfl) (.int .i64 (n : Int)) (by go_simp) ?_
  simp only [Act.put, List.setIfInBounds_toArray, List.set_cons_zero, List.set_cons_succ]
  refine WL.callF (by kernel_rfl) 50 _ _ rfl Try.in50 #[.int .i64 (n : Int)] (by simp [Act.eval]) ?_
  refine (left_any n w1 (by omega) Hn.out).mono ?_
  rintro e w1_ ⟨rfl, hw_⟩
  refine ⟨_, rfl, ?_⟩
  have hw_ := hw_.symm
  subst hw_
  rw [hm.out]
  simp only [Act.put, List.setIfInBounds_toArray, List.set_cons_zero, List.set_cons_succ]
  refine WL.val (by kernel_rfl) (.int .i64 (q : Int)) (by go_simp) ?_
  simp only [Act.put, List.setIfInBounds_toArray, List.set_cons_zero, List.set_cons_succ]
  refine WL.val (by kernel_rfl) (.int .i64 (m : Int)) (by go_simp) ?_
  simp only [Act.put, List.setIfInBounds_toArray, List.set_cons_zero, List.set_cons_succ]
  refine WL.nil ?_
  refine hK6 _ _ ?_
  refine wp_seq_k fun K7 hK7 => ?_
  refine wp_seq_k fun K8 hK8 => ?_
  refine wp_region_list (WL.out ?_)
  refine WL.val (by kernel_rfl) (.int .i64 (i : Int)) (by go_simp) ?_
  simp only [Act.put, List.setIfInBounds_toArray, List.set_cons_zero, List.set_cons_succ]
  refine WL.val (by kernel_rfl) (.int .i64 (m : Int)) (by go_simp) ?_
  simp only [Act.put, List.setIfInBounds_toArray, List.set_cons_zero, List.set_cons_succ]
  refine WL.val (by kernel_rfl) (.bool false) (by go_simp) ?_
  simp only [Act.put, List.setIfInBounds_toArray, List.set_cons_zero, List.set_cons_succ]
  refine WL.nil ?_
  refine hK8 _ _ ?_
  refine wp_cond_false rfl ?_
  refine wp_skip ?_
  refine hK7 _ _ ?_
  refine wp_seq_k fun K9 hK9 => ?_
  have S2 : Keep (CS w1.drew px pd x) := ⟨S1.out.below (Below.refl _ _).drew⟩
  have R2 : Keep (Blk w1.drew r 25 (bytesA 32 fun _ => 0)) := ⟨R1.out⟩
  have B2 : Keep (Below w.heap.size w w1.drew) := ⟨b1.out.drew⟩
  clear S1 R1 b1
  have rest : ∀ (u : Nat) (hc : Array Value) (cc : Nat → Int) (ok : Bool) (w5 : World), Keep (hc = bytesA 32 cc) → Blk w5 u 25 hc → Blk w5 r 25 (bytesA 32 fun _ => 0) → Below w.heap.size w w5 → r ≠ u → (match climbL (n - m) (i - m) (lfH x) qs with | some (t, _) => ok = true ∧ bytesA 32 cc = bytesA 32 (hof t) | none => ok = false) → K9 { tmps := #[.int .i64 (i : Int), .int .i64 (n : Int), .slice (some ⟨b, off, none⟩) p cap, .pointer (some ⟨px, 0, none⟩), .pointer (some ⟨pd, 0, none⟩), undef, undef, undef, .pointer (some ⟨r, 0, none⟩), .bool false, .int .i64 (q : Int), .int .i64 (m : Int), undef, undef, .pointer (some ⟨u, 0, none⟩), .bool ok, .int .i64 (n : Int), .bool false, .bool false, undef, undef, undef, .bool false, undef, undef, undef, .int .i64 (n : Int), .bool false, .bool false, .slice (some ⟨b, off, none⟩) p cap, .int .i64 (p : Int), .bool false, .bool false, undef, .slice (some ⟨b, off, none⟩) p cap, .int .i64 (p : Int), .int .i64 (q : Int), .int .i64 (n : Int), .int .i64 (m : Int), .int .i64 (i : Int), .int .i64 (m : Int), .bool false, undef, undef, undef, undef, undef, undef, undef, undef, undef, undef, undef, undef, undef, undef, undef, undef, undef, .tuple #[.agg hc, .bool ok], (clV px pd), .int .i64 (i : Int), .int .i64 (m : Int), .int .i64 ((i - m : Nat) : Int), .int .i64 (n : Int), .int .i64 (m : Int), .int .i64 ((n - m : Nat) : Int), .slice (some ⟨b, off, none⟩) p cap, .int .i64 (q : Int), .slice (some ⟨b, off, none⟩) q cap, .tuple #[.agg hc, .bool ok], .agg hc, .bool ok, undef, undef, undef, undef, undef, undef, undef], defers := [] } w5 := by
    intro u hc cc ok w5 hce hU hR5 hB5 hnu hM
    have U5 := Keep.mk hU
    have R5 := Keep.mk hR5
    have B5 := Keep.mk hB5
    have M5 := Keep.mk hM
    have NUR : Keep (u ≠ r) := ⟨fun e => hnu e.symm⟩
    clear hU hR5 hB5 hM hnu S2 R2 B2
    refine hK9 _ _ ?_
    refine wp_seq_k fun K10 hK10 => ?_
    obtain ⟨hr_, hre⟩ : ∃ z : Array Value, Keep (z = (bytesA 32 (shaP (RtP.innR (hl 32 (y.f)) (hl 32 (cc)))))) := ⟨_, ⟨rfl⟩⟩
    have U7 : Keep (Blk w5.drew u 25 hc) := ⟨U5.out⟩
    have R7 : Keep (Blk w5.drew r 25 (bytesA 32 fun _ => 0)) := ⟨R5.out⟩
    have B7 : Keep (Below w.heap.size w w5.drew) := ⟨B5.out.drew⟩
    clear U5 R5 B5
    have HIN : Keep (Calls Try.prog 51 #[.agg hy, .agg hc] w5.drew fun e w' => e = .returned (.agg hr_) ∧ Below w5.drew.heap.size w5.drew w') := ⟨by rw [hre.out, hce.out, hye.out]; exact pinner_any (y.f) (cc) w5.drew⟩
    have hY0 : Keep (∀ wx, Below w.heap.size w wx → wx.rangeAt b (off + q * 32) hy.toList) := ⟨fun wx hb => by rw [hye.out]; exact HYr.out wx hb⟩
    refine wp_region_held_drew (S := fun wx => wx.rangeAt u 0 hc.toList ∧ wx.rangeAt b (off + q * 32) hy.toList) (by kernel_rfl) (⟨blk_range U7.out, hY0.out _ B7.out⟩) (fun hHeld => ?_)
    refine wpAnyH_take (i := 0) (oi := ⟨some 73, Op.move (Operand.tmp 2), 67, _, _, none⟩) (v := .slice (some ⟨b, off, none⟩) p cap) rfl (by kernel_rfl) (by kernel_rfl) (by kernel_rfl) (fun _ _ _ h => h) (Or.inl ⟨by rfl, fun w hS => by obtain ⟨hS1, hS2⟩ := hS; clear hS1 hS2; go_simp⟩) hHeld ?_
    simp only [Act.put, List.setIfInBounds_toArray, List.set_cons_zero, List.set_cons_succ]
    refine wpAnyH_take (i := 1) (oi := ⟨some 74, Op.move (Operand.tmp 10), 3, _, _, none⟩) (v := .int .i64 (q : Int)) rfl (by kernel_rfl) (by kernel_rfl) (by kernel_rfl) (fun _ _ _ h => h) (Or.inl ⟨by rfl, fun w hS => by obtain ⟨hS1, hS2⟩ := hS; clear hS1 hS2; go_simp⟩) hHeld ?_
    simp only [Act.put, List.setIfInBounds_toArray, List.set_cons_zero, List.set_cons_succ]
    refine wpAnyH_take (i := 4) (oi := ⟨some 77, Op.load 25 (Operand.tmp 14), 25, _, _, none⟩) (v := .agg hc) rfl (by kernel_rfl) (by kernel_rfl) (by kernel_rfl) (fun _ _ _ h => h) (yieldsIf_ld (by rfl) (Operand.tmp 14) 25 rfl u 0 rfl hc _ Try.underlying25 rfl (by rw [hce.out]; exact Try.size25B _) fun w hS => hS.1) hHeld ?_
    simp only [Act.put, List.setIfInBounds_toArray, List.set_cons_zero, List.set_cons_succ]
    refine wpAnyH_take (i := 6) (oi := ⟨some 79, Op.move (Operand.tmp 15), 4, _, _, none⟩) (v := .bool ok) rfl (by kernel_rfl) (by kernel_rfl) (by kernel_rfl) (fun _ _ _ h => h) (Or.inl ⟨by rfl, fun w hS => by obtain ⟨hS1, hS2⟩ := hS; clear hS1 hS2; go_simp⟩) hHeld ?_
    simp only [Act.put, List.setIfInBounds_toArray, List.set_cons_zero, List.set_cons_succ]
    refine wpAnyH_take (i := 2) (oi := ⟨some 75, Op.indexAddr 67 (Operand.tmp 73) (Operand.tmp 74), 0, _, _, none⟩) (v := .pointer (some ⟨b, off + q * 32, none⟩)) rfl (by kernel_rfl) (by kernel_rfl) (by kernel_rfl) (fun _ _ _ h => h) (Or.inl ⟨by rfl, fun w hS => by obtain ⟨hS1, hS2⟩ := hS; clear hS1 hS2; go_simp⟩) hHeld ?_
    simp only [Act.put, List.setIfInBounds_toArray, List.set_cons_zero, List.set_cons_succ]
    refine wpAnyH_take (i := 3) (oi := ⟨some 76, Op.load 25 (Operand.tmp 75), 25, _, _, none⟩) (v := .agg hy) rfl (by kernel_rfl) (by kernel_rfl) (by kernel_rfl) (fun _ _ _ h => h) (yieldsIf_ld (by rfl) (Operand.tmp 75) 25 rfl b (off + q * 32) rfl hy _ Try.underlying25 rfl (by rw [hye.out]; exact Try.size25B _) fun w hS => hS.2) hHeld ?_
    simp only [Act.put, List.setIfInBounds_toArray, List.set_cons_zero, List.set_cons_succ]
    refine wpAnyH_ready (rs := [5]) (by kernel_rfl) (by simp) ?_
    refine AllReadyH.cons (o := ⟨some 78, Op.call { callee := Callee.value (Operand.func 51), args := #[Operand.tmp 76, Operand.tmp 77], argTypes := #[25, 25] }, 25, _, _, none⟩) rfl (fun K hK => ?_) AllReadyH.nil
    rw [if_pos (by rfl)]
    refine wp_callF 51 _ _ rfl Try.in51 #[.agg hy, .agg hc] (by simp [Act.eval]) (fun vz wz => vz = .agg hr_ ∧ Below w5.drew.heap.size w5.drew wz) ?_ ?_
    · refine (HIN.out).mono ?_
      rintro e wz ⟨rfl, k1⟩
      exact ⟨_, rfl, rfl, k1⟩
    rintro vz w8 ⟨rfl, k1⟩
    have U8 := Keep.mk (U7.out.below k1 U7.out.lt)
    have R8 := Keep.mk (R7.out.below k1 R7.out.lt)
    have B8 : Keep (Below w.heap.size w w8) := ⟨B7.out.trans (k1.mono B7.out.size)⟩
    clear k1 U7 R7 B7
    refine hK _ _ (⟨blk_range U8.out, hY0.out _ B8.out⟩) fun hH1 => ?_
    clear hK
    simp only [Act.put, List.setIfInBounds_toArray, List.set_cons_zero, List.set_cons_succ]
    refine wpAnyH_ready (rs := [7]) (by kernel_rfl) (by simp) ?_
    refine AllReadyH.cons (o := ⟨none, Op.store 25 (Operand.tmp 8) (Operand.tmp 78), 0, _, _, none⟩) rfl (fun K hK => ?_) AllReadyH.nil
    rw [if_pos (by rfl)]
    refine wp_store_row 25 (.tmp 8) (.tmp 78) rfl r hr_ rfl rfl 25 (bytesA 32 fun _ => 0) R8.out (by rw [hre.out]; exact Try.size25B _) (by rw [hre.out]; exact bytesA_sizes _ _ _) (by rw [hre.out]; exact bytesA_one _ _) ?_
    have R9 := Keep.mk (R8.out.setRow hr_)
    have U9 : (w8.setRow r hr_).rangeAt u 0 hc.toList := by
      by_cases e : u = r
      · exact absurd e NUR.out
      · exact blk_range (U8.out.setRow_ne e hr_)
    have B9 : Keep (Below w.heap.size w (w8.setRow r hr_)) := ⟨below_setRow B8.out hrw.out _⟩
    generalize w8.setRow r hr_ = w9 at *
    refine hK _ _ ⟨U9, hY0.out _ B9.out⟩ fun hH2 => ?_
    clear hK
    simp only [Act.put, List.setIfInBounds_toArray, List.set_cons_zero, List.set_cons_succ]
    refine wpAnyH_take (i := 8) (oi := ⟨some 9, Op.assign (Operand.tmp 79), 4, _, _, none⟩) (v := .bool ok) rfl (by kernel_rfl) (by kernel_rfl) (by kernel_rfl) (fun _ _ _ h => h) (Or.inl ⟨by rfl, fun w hS => by obtain ⟨hS1, hS2⟩ := hS; clear hS1 hS2; go_simp⟩) hH2 ?_
    simp only [Act.put, List.setIfInBounds_toArray, List.set_cons_zero, List.set_cons_succ]
    refine wpAnyH_done (by kernel_rfl) ?_ _
    refine hK10 _ _ ?_
    refine wp_ret ?_
    try simp only [Exit.inBlock, Exit.then]
    refine bodyPost_ret (v := .tuple #[.agg hr_, .bool ok]) (results_cell_row2 Try.results79 _ _ r 25 _ (0, 0) _ _ rfl rfl R9.out Try.underlying25 rfl (by rw [hre.out]; exact Try.size25B _)) rfl ?_
    refine ⟨_, ok, by rw [hre.out], B9.out, ?_⟩
    rw [climbL_hi (by omega) (by rw [hm.out]; exact hlo), hm.out]
    have hM := M5.out
    cases e : climbL (n - m) (i - m) (lfH x) qs with
    | none => rw [e] at hM; exact hM
    | some zz =>
      rw [e] at hM
      obtain ⟨h1, h2⟩ := hM
      have hlt : zz.1.length = 32 := RtP.climb_len shaL shaL_len _ _ _ _ _ _ _ (shaL_len _) e
      have hlc : hl 32 cc = zz.1 := by rw [hl_of_arr h2, hl_hof hlt]
      refine ⟨h1, ?_⟩
      rw [hlc]
      show _ = bytesA 32 (hof (shaL _))
      rw [shaL, hof_hl]
      rfl
  refine wp_region_held_drew (S := fun wx => wx.cell? ⟨pd, 0, none⟩ = some (clV px pd)) (by kernel_rfl) (S2.out.bd.c 0 rfl) (fun hH0 => ?_)
  generalize w1.drew = w2 at *
  refine wpAnyH_take (i := 1) (oi := ⟨some 61, Op.move (Operand.tmp 0), 3, _, _, none⟩) (v := .int .i64 (i : Int)) rfl (by kernel_rfl) (by kernel_rfl) (by kernel_rfl) (fun _ _ _ h => h) (Or.inl ⟨by rfl, fun w hS => by go_simp⟩) hH0 ?_
  simp only [Act.put, List.setIfInBounds_toArray, List.set_cons_zero, List.set_cons_succ]
  refine wpAnyH_take (i := 2) (oi := ⟨some 62, Op.move (Operand.tmp 11), 3, _, _, none⟩) (v := .int .i64 (m : Int)) rfl (by kernel_rfl) (by kernel_rfl) (by kernel_rfl) (fun _ _ _ h => h) (Or.inl ⟨by rfl, fun w hS => by go_simp⟩) hH0 ?_
  simp only [Act.put, List.setIfInBounds_toArray, List.set_cons_zero, List.set_cons_succ]
  refine wpAnyH_take (i := 3) (oi := ⟨some 63, Op.binOp BinOp.sub 3 (Operand.tmp 61) (Operand.tmp 62) 3, 3, _, _, none⟩) (v := .int .i64 ((i - m : Nat) : Int)) rfl (by kernel_rfl) (by kernel_rfl) (by kernel_rfl) (fun _ _ _ h => h) (Or.inl ⟨by rfl, fun w hS => by go_simp⟩) hH0 ?_
  simp only [Act.put, List.setIfInBounds_toArray, List.set_cons_zero, List.set_cons_succ]
  refine wpAnyH_take (i := 4) (oi := ⟨some 64, Op.move (Operand.tmp 1), 3, _, _, none⟩) (v := .int .i64 (n : Int)) rfl (by kernel_rfl) (by kernel_rfl) (by kernel_rfl) (fun _ _ _ h => h) (Or.inl ⟨by rfl, fun w hS => by go_simp⟩) hH0 ?_
  simp only [Act.put, List.setIfInBounds_toArray, List.set_cons_zero, List.set_cons_succ]
  refine wpAnyH_take (i := 5) (oi := ⟨some 65, Op.move (Operand.tmp 11), 3, _, _, none⟩) (v := .int .i64 (m : Int)) rfl (by kernel_rfl) (by kernel_rfl) (by kernel_rfl) (fun _ _ _ h => h) (Or.inl ⟨by rfl, fun w hS => by go_simp⟩) hH0 ?_
  simp only [Act.put, List.setIfInBounds_toArray, List.set_cons_zero, List.set_cons_succ]
  refine wpAnyH_take (i := 6) (oi := ⟨some 66, Op.binOp BinOp.sub 3 (Operand.tmp 64) (Operand.tmp 65) 3, 3, _, _, none⟩) (v := .int .i64 ((n - m : Nat) : Int)) rfl (by kernel_rfl) (by kernel_rfl) (by kernel_rfl) (fun _ _ _ h => h) (Or.inl ⟨by rfl, fun w hS => by go_simp⟩) hH0 ?_
  simp only [Act.put, List.setIfInBounds_toArray, List.set_cons_zero, List.set_cons_succ]
  refine wpAnyH_take (i := 7) (oi := ⟨some 67, Op.move (Operand.tmp 2), 67, _, _, none⟩) (v := .slice (some ⟨b, off, none⟩) p cap) rfl (by kernel_rfl) (by kernel_rfl) (by kernel_rfl) (fun _ _ _ h => h) (Or.inl ⟨by rfl, fun w hS => by go_simp⟩) hH0 ?_
  simp only [Act.put, List.setIfInBounds_toArray, List.set_cons_zero, List.set_cons_succ]
  refine wpAnyH_take (i := 8) (oi := ⟨some 68, Op.move (Operand.tmp 10), 3, _, _, none⟩) (v := .int .i64 (q : Int)) rfl (by kernel_rfl) (by kernel_rfl) (by kernel_rfl) (fun _ _ _ h => h) (Or.inl ⟨by rfl, fun w hS => by go_simp⟩) hH0 ?_
  simp only [Act.put, List.setIfInBounds_toArray, List.set_cons_zero, List.set_cons_succ]
  refine wpAnyH_take (i := 0) (oi := ⟨some 60, Op.load 121 (Operand.tmp 4), 121, _, _, none⟩) (v := (clV px pd)) rfl (by kernel_rfl) (by kernel_rfl) (by kernel_rfl) (fun _ _ _ h => h) (Or.inl ⟨by rfl, fun w hS => by go_simp⟩) hH0 ?_
  simp only [Act.put, List.setIfInBounds_toArray, List.set_cons_zero, List.set_cons_succ]
  refine wpAnyH_take (i := 9) (oi := ⟨some 69, Op.slice 67 (Operand.tmp 67) none (some (Operand.tmp 68)) none, 67, _, _, none⟩) (v := .slice (some ⟨b, off, none⟩) q cap) rfl (by kernel_rfl) (by kernel_rfl) (by kernel_rfl) (fun _ _ _ h => h) (yieldsIf_slice (by rfl) 67 (.tmp 67) (.tmp 68) rfl (.slice (some ⟨b, off, none⟩) p cap) (.int .i64 (q : Int)) (.slice (some ⟨b, off, none⟩) q cap) rfl rfl (fun w => slH_h _ p cap q (by omega) w)) hH0 ?_
  simp only [Act.put, List.setIfInBounds_toArray, List.set_cons_zero, List.set_cons_succ]
  refine wpAnyH_ready (rs := [10, 14]) (by kernel_rfl) (by simp) ?_
  refine AllReadyH.cons (o := ⟨some 70, Op.call { callee := Callee.value (Operand.tmp 60), args := #[Operand.tmp 63, Operand.tmp 66, Operand.tmp 69], argTypes := #[3, 3, 67] }, 99, _, _, none⟩) rfl (fun K hK => ?_) (AllReadyH.cons (o := ⟨some 14, Op.alloc 25, 0, _, _, none⟩) rfl (fun K hK => ?_) AllReadyH.nil)
  · rw [if_pos (by rfl)]
    have hih := IH w2 b off cap (n - m) (i - m) (by omega) (by have := Hn.out; omega) (by omega) S2.out (Nat.lt_of_lt_of_le hbw B2.out.size) (HQ.out _ B2.out)
    rw [hq.out] at hih
    refine wp_callC 79 (.tmp 60) _ _ #[ptr px, ptr pd] rfl rfl Try.in79 #[.int .i64 ((i - m : Nat) : Int), .int .i64 ((n - m : Nat) : Int), .slice (some ⟨b, off, none⟩) q cap, ptr px, ptr pd] (by simp [Act.eval]) (fun vz wz => ∃ (cc : Nat → Int) (ok : Bool), vz = .tuple #[.agg (bytesA 32 cc), .bool ok] ∧ Below w2.heap.size w2 wz ∧ (match climbL (n - m) (i - m) (lfH x) qs with | some (t, _) => ok = true ∧ bytesA 32 cc = bytesA 32 (hof t) | none => ok = false)) ?_ ?_
    · refine hih.mono ?_
      rintro e wz ⟨cc, ok, rfl, k1, k2⟩
      exact ⟨_, rfl, cc, ok, rfl, k1, k2⟩
    rintro vz w4 ⟨cc, ok, rfl, k1, k2⟩
    obtain ⟨hc, hce⟩ : ∃ z : Array Value, Keep (z = bytesA 32 cc) := ⟨_, ⟨rfl⟩⟩
    rw [← hce.out]
    have M4 := Keep.mk k2
    have S4 := Keep.mk (S2.out.below k1)
    have R4 := Keep.mk (R2.out.below k1 R2.out.lt)
    have B4 : Keep (Below w.heap.size w w4) := ⟨B2.out.trans (k1.mono B2.out.size)⟩
    clear hih k1 k2
    refine hK _ _ (S4.out.bd.c 0 rfl) fun hH1 => ?_
    clear hK
    simp only [Act.put, List.setIfInBounds_toArray, List.set_cons_zero, List.set_cons_succ]
    refine wpAnyH_take (i := 11) (oi := ⟨some 59, Op.move (Operand.tmp 70), 99, _, _, none⟩) (v := .tuple #[.agg hc, .bool ok]) rfl (by kernel_rfl) (by kernel_rfl) (by kernel_rfl) (fun _ _ _ h => h) (Or.inl ⟨by rfl, fun w hS => by go_simp⟩) hH1 ?_
    simp only [Act.put, List.setIfInBounds_toArray, List.set_cons_zero, List.set_cons_succ]
    refine wpAnyH_take (i := 12) (oi := ⟨some 71, Op.extract (Operand.tmp 59) 0, 25, _, _, none⟩) (v := .agg hc) rfl (by kernel_rfl) (by kernel_rfl) (by kernel_rfl) (fun _ _ _ h => h) (Or.inl ⟨by rfl, fun w hS => by go_simp⟩) hH1 ?_
    simp only [Act.put, List.setIfInBounds_toArray, List.set_cons_zero, List.set_cons_succ]
    refine wpAnyH_take (i := 13) (oi := ⟨some 72, Op.extract (Operand.tmp 59) 1, 4, _, _, none⟩) (v := .bool ok) rfl (by kernel_rfl) (by kernel_rfl) (by kernel_rfl) (fun _ _ _ h => h) (Or.inl ⟨by rfl, fun w hS => by go_simp⟩) hH1 ?_
    simp only [Act.put, List.setIfInBounds_toArray, List.set_cons_zero, List.set_cons_succ]
    refine wpAnyH_ready (rs := [14]) (by kernel_rfl) (by simp) ?_
    refine AllReadyH.cons (o := ⟨some 14, Op.alloc 25, 0, _, _, none⟩) rfl (fun K hK => ?_) AllReadyH.nil
    rw [if_pos (by rfl)]
    refine wp_newA 25 rfl _ Try.new25 ?_
    have b_ := below_new w4 (.cells (bytesA 32 fun _ => 0) 25)
    have U5 := Keep.mk (Blk.new w4 25 (bytesA 32 fun _ => 0))
    have S5 := Keep.mk (S4.out.below b_)
    have R5 := Keep.mk (R4.out.below b_ R4.out.lt)
    have B5 : Keep (Below w.heap.size w _) := ⟨B4.out.trans (b_.mono B4.out.size)⟩
    have nr : Keep (r ≠ w4.heap.size) := ⟨by have := R4.out.lt; omega⟩
    have gu : Keep (w.heap.size ≤ w4.heap.size) := ⟨B4.out.size⟩
    generalize w4.alloc (.cells (bytesA 32 fun _ => 0) 25) = w5 at *
    obtain ⟨u, hu⟩ : ∃ z, Keep (z = w4.heap.size) := ⟨_, ⟨rfl⟩⟩
    rw [← hu.out] at U5 nr gu ⊢
    clear b_ hu
    refine hK _ _ (S5.out.bd.c 0 rfl) fun hH2 => ?_
    clear hK
    simp only [Act.put, List.setIfInBounds_toArray, List.set_cons_zero, List.set_cons_succ]
    refine wpAnyH_ready (rs := [15]) (by kernel_rfl) (by simp) ?_
    refine AllReadyH.cons (o := ⟨none, Op.store 25 (Operand.tmp 14) (Operand.tmp 71), 0, _, _, none⟩) rfl (fun K hK => ?_) AllReadyH.nil
    rw [if_pos (by rfl)]
    refine wp_store_row 25 (.tmp 14) (.tmp 71) rfl u hc rfl rfl 25 _ U5.out (by rw [hce.out]; exact Try.size25B _) (by rw [hce.out]; exact bytesA_sizes _ _ _) (by rw [hce.out]; exact bytesA_one _ _) ?_
    have U6 := Keep.mk (U5.out.setRow hc)
    have R6 := Keep.mk (R5.out.setRow_ne nr.out hc)
    have B6 : Keep (Below w.heap.size w (w5.setRow u hc)) := ⟨below_setRow B5.out gu.out _⟩
    have S6 : (w5.setRow u hc).cell? ⟨pd, 0, none⟩ = some (clV px pd) := (S5.out.bd.setRow_ne (blk_ne S5.out.bd U5.out (by decide)) hc).c 0 rfl
    generalize w5.setRow u hc = w6 at *
    refine hK _ _ S6 fun hH3 => ?_
    clear hK
    simp only [Act.put]
    refine wpAnyH_take (i := 16) (oi := ⟨some 15, Op.assign (Operand.tmp 72), 4, _, _, none⟩) (v := .bool ok) rfl (by kernel_rfl) (by kernel_rfl) (by kernel_rfl) (fun _ _ _ h => h) (Or.inl ⟨by rfl, fun w hS => by go_simp⟩) hH3 ?_
    simp only [Act.put, List.setIfInBounds_toArray, List.set_cons_zero, List.set_cons_succ]
    refine wpAnyH_done (by kernel_rfl) ?_ _
    exact rest u hc cc ok w6 hce U6.out R6.out B6.out nr.out M4.out
  · rw [if_pos (by rfl)]
    refine wp_newA 25 rfl _ Try.new25 ?_
    have b_ := below_new w2 (.cells (bytesA 32 fun _ => 0) 25)
    have U3 := Keep.mk (Blk.new w2 25 (bytesA 32 fun _ => 0))
    have S3 := Keep.mk (S2.out.below b_)
    have R3 := Keep.mk (R2.out.below b_ R2.out.lt)
    have B3 : Keep (Below w.heap.size w _) := ⟨B2.out.trans (b_.mono B2.out.size)⟩
    have nr : Keep (r ≠ w2.heap.size) := ⟨by have := R2.out.lt; omega⟩
    have gu : Keep (w.heap.size ≤ w2.heap.size) := ⟨B2.out.size⟩
    generalize w2.alloc (.cells (bytesA 32 fun _ => 0) 25) = w3 at *
    obtain ⟨u, hu⟩ : ∃ z, Keep (z = w2.heap.size) := ⟨_, ⟨rfl⟩⟩
    rw [← hu.out] at U3 nr gu ⊢
    clear b_ hu
    refine hK _ _ (S3.out.bd.c 0 rfl) fun hH2 => ?_
    clear hK
    simp only [Act.put, List.setIfInBounds_toArray, List.set_cons_zero, List.set_cons_succ]
    refine wpAnyH_ready (rs := [10]) (by kernel_rfl) (by simp) ?_
    refine AllReadyH.cons (o := ⟨some 70, Op.call { callee := Callee.value (Operand.tmp 60), args := #[Operand.tmp 63, Operand.tmp 66, Operand.tmp 69], argTypes := #[3, 3, 67] }, 99, _, _, none⟩) rfl (fun K hK => ?_) AllReadyH.nil
    rw [if_pos (by rfl)]
    have hih := IH w3 b off cap (n - m) (i - m) (by omega) (by have := Hn.out; omega) (by omega) S3.out (Nat.lt_of_lt_of_le hbw B3.out.size) (HQ.out _ B3.out)
    rw [hq.out] at hih
    refine wp_callC 79 (.tmp 60) _ _ #[ptr px, ptr pd] rfl rfl Try.in79 #[.int .i64 ((i - m : Nat) : Int), .int .i64 ((n - m : Nat) : Int), .slice (some ⟨b, off, none⟩) q cap, ptr px, ptr pd] (by simp [Act.eval]) (fun vz wz => ∃ (cc : Nat → Int) (ok : Bool), vz = .tuple #[.agg (bytesA 32 cc), .bool ok] ∧ Below w3.heap.size w3 wz ∧ (match climbL (n - m) (i - m) (lfH x) qs with | some (t, _) => ok = true ∧ bytesA 32 cc = bytesA 32 (hof t) | none => ok = false)) ?_ ?_
    · refine hih.mono ?_
      rintro e wz ⟨cc, ok, rfl, k1, k2⟩
      exact ⟨_, rfl, cc, ok, rfl, k1, k2⟩
    rintro vz w4 ⟨cc, ok, rfl, k1, k2⟩
    obtain ⟨hc, hce⟩ : ∃ z : Array Value, Keep (z = bytesA 32 cc) := ⟨_, ⟨rfl⟩⟩
    rw [← hce.out]
    have M4 := Keep.mk k2
    have S4 := Keep.mk (S3.out.below k1)
    have R4 := Keep.mk (R3.out.below k1 R3.out.lt)
    have B4 : Keep (Below w.heap.size w w4) := ⟨B3.out.trans (k1.mono B3.out.size)⟩
    have U4 := Keep.mk (U3.out.below k1 U3.out.lt)
    clear hih k1 k2
    refine hK _ _ (S4.out.bd.c 0 rfl) fun hH1 => ?_
    clear hK
    simp only [Act.put, List.setIfInBounds_toArray, List.set_cons_zero, List.set_cons_succ]
    refine wpAnyH_take (i := 11) (oi := ⟨some 59, Op.move (Operand.tmp 70), 99, _, _, none⟩) (v := .tuple #[.agg hc, .bool ok]) rfl (by kernel_rfl) (by kernel_rfl) (by kernel_rfl) (fun _ _ _ h => h) (Or.inl ⟨by rfl, fun w hS => by go_simp⟩) hH1 ?_
    simp only [Act.put, List.setIfInBounds_toArray, List.set_cons_zero, List.set_cons_succ]
    refine wpAnyH_take (i := 12) (oi := ⟨some 71, Op.extract (Operand.tmp 59) 0, 25, _, _, none⟩) (v := .agg hc) rfl (by kernel_rfl) (by kernel_rfl) (by kernel_rfl) (fun _ _ _ h => h) (Or.inl ⟨by rfl, fun w hS => by go_simp⟩) hH1 ?_
    simp only [Act.put, List.setIfInBounds_toArray, List.set_cons_zero, List.set_cons_succ]
    refine wpAnyH_take (i := 13) (oi := ⟨some 72, Op.extract (Operand.tmp 59) 1, 4, _, _, none⟩) (v := .bool ok) rfl (by kernel_rfl) (by kernel_rfl) (by kernel_rfl) (fun _ _ _ h => h) (Or.inl ⟨by rfl, fun w hS => by go_simp⟩) hH1 ?_
    simp only [Act.put, List.setIfInBounds_toArray, List.set_cons_zero, List.set_cons_succ]
    refine wpAnyH_ready (rs := [15]) (by kernel_rfl) (by simp) ?_
    refine AllReadyH.cons (o := ⟨none, Op.store 25 (Operand.tmp 14) (Operand.tmp 71), 0, _, _, none⟩) rfl (fun K hK => ?_) AllReadyH.nil
    rw [if_pos (by rfl)]
    refine wp_store_row 25 (.tmp 14) (.tmp 71) rfl u hc rfl rfl 25 _ U4.out (by rw [hce.out]; exact Try.size25B _) (by rw [hce.out]; exact bytesA_sizes _ _ _) (by rw [hce.out]; exact bytesA_one _ _) ?_
    have U6 := Keep.mk (U4.out.setRow hc)
    have R6 := Keep.mk (R4.out.setRow_ne nr.out hc)
    have B6 : Keep (Below w.heap.size w (w4.setRow u hc)) := ⟨below_setRow B4.out gu.out _⟩
    have S6 : (w4.setRow u hc).cell? ⟨pd, 0, none⟩ = some (clV px pd) := (S4.out.bd.setRow_ne (blk_ne S4.out.bd U4.out (by decide)) hc).c 0 rfl
    generalize w4.setRow u hc = w6 at *
    refine hK _ _ S6 fun hH3 => ?_
    clear hK
    simp only [Act.put]
    refine wpAnyH_take (i := 16) (oi := ⟨some 15, Op.assign (Operand.tmp 72), 4, _, _, none⟩) (v := .bool ok) rfl (by kernel_rfl) (by kernel_rfl) (by kernel_rfl) (fun _ _ _ h => h) (Or.inl ⟨by rfl, fun w hS => by go_simp⟩) hH3 ?_
    simp only [Act.put, List.setIfInBounds_toArray, List.set_cons_zero, List.set_cons_succ]
    refine wpAnyH_done (by kernel_rfl) ?_ _
    exact rest u hc cc ok w6 hce U6.out R6.out B6.out nr.out M4.out
theorem pc_at (px pd : Nat) (x : LV) (hF : (0 ≤ x.c.k ∧ x.c.k < 9223372036854775808) ∧ (x.c.s.size ≤ 140737488351232 ∧ x.c.l.length ≤ 140737488351232)) : ∀ (k : Nat), k ≤ 4398046511104 → ∀ (ps : List Hs), ps.length = k → ∀ (w : World) (b off cap n i : Nat), 1 ≤ n → n < 9223372036854775808 → i < n → CS w px pd x → b < w.heap.size → (ps.length ≤ cap ∧ w.rangeAt b off (flatH ps)) → Calls Try.prog 79 #[.int .i64 (i : Int), .int .i64 (n : Int), .slice (some ⟨b, off, none⟩) ps.length cap, ptr px, ptr pd] w (CQ n i x ps w)
  | 0, _, ps, hk, w, b, off, cap, n, i, h1, h2, hi, hS, hb, hP => by
    obtain rfl := List.eq_nil_of_length_eq_zero hk
    by_cases e1 : n = 1
    · subst e1; exact pc_end px pd i cap _ x w hS hF
    · exact pc_short px pd n i cap _ x w hS (by omega)
  | k + 1, hkb, ps, hk, w, b, off, cap, n, i, h1, h2, hi, hS, hb, hP => by
    by_cases e1 : n = 1
    · subst e1; exact pc_one px pd i _ cap _ x ps w hS ⟨rfl⟩ (by omega)
    · obtain ⟨qs, y, rfl⟩ : ∃ qs y, ps = qs ++ [y] := ⟨ps.dropLast, ps.getLast (by intro e; subst e; simp at hk), (List.dropLast_concat_getLast _).symm⟩
      have hl : (qs ++ [y]).length = qs.length + 1 := by simp
      rw [hl] at hP hk ⊢
      have IH := pc_at px pd x hF k (by omega) qs (by omega)
      by_cases hlo : i < RtP.half n
      · exact pc_lo px pd x qs y IH b off cap n i _ _ _ w ⟨rfl⟩ ⟨rfl⟩ rfl rfl (by omega) (by omega) ⟨h2⟩ hi hlo hS hb hP.1 hP.2
      · exact pc_hi px pd x qs y IH b off cap n i _ _ _ w ⟨rfl⟩ ⟨rfl⟩ rfl rfl (by omega) (by omega) ⟨h2⟩ hi hlo hS hb hP.1 hP.2
theorem pc_any (px pd : Nat) (x : LV) (hF : (0 ≤ x.c.k ∧ x.c.k < 9223372036854775808) ∧ (x.c.s.size ≤ 140737488351232 ∧ x.c.l.length ≤ 140737488351232)) (n i : Nat) (w : World) (h1 : 1 ≤ n) (h2 : n < 9223372036854775808) (hi : i < n) (hS : CS w px pd x) (hP : HPa w.heap.size w x.pv x.ps) (hpb : x.ps.length ≤ 4398046511104) : Calls Try.prog 79 #[.int .i64 (i : Int), .int .i64 (n : Int), x.pv, ptr px, ptr pd] w (CQ n i x x.ps w) := by
  rcases hP with ⟨a, c, e, e2⟩ | ⟨b, off, cap, e, h3, h4, h5⟩
  · rw [e, e2]
    by_cases e1 : n = 1
    · subst e1; exact pc_end px pd i c a x w hS hF
    · exact pc_short px pd n i c a x w hS (by omega)
  · rw [e]; exact pc_at px pd x hF _ hpb x.ps rfl w b off cap n i h1 h2 hi hS h4 ⟨h3, h5⟩

end Go.Proofs.Ytjklmkeedhgncaa
