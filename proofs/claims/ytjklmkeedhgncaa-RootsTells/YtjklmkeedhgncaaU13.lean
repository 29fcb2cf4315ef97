import Derived.Test.YtjklmkeedhgncaaU12
import Derived.Test.YtjklmkeedhgncaaU06
import Derived.OwnWalk
namespace Go.Proofs.Ytjklmkeedhgncaa
open Go.RowKit
set_option linter.unusedSimpArgs false
set_option linter.unusedVariables false
theorem Try.in56 (w : World) (vs : Array Value) : (callFunc 56 vs).run Try.prog w = .ok (.enter 56 vs) w := by kernel_rfl
theorem Try.in30 (w : World) (vs : Array Value) : (callFunc 30 vs).run Try.prog w = .ok (.enter 30 vs) w := by kernel_rfl
theorem Try.in15 (w : World) (vs : Array Value) : (callFunc 15 vs).run Try.prog w = .ok (.enter 15 vs) w := by kernel_rfl
theorem results_cell_row3 {P : Program} {fn : Func} {p u u' : Tmp} {ty : TypeId} (h : fn.results = #[.cell p ty, .tmp u, .tmp u']) (tmps : Array Value) (w : World) (g : Nat) (t : TypeId) (cs : Array Value) (fr : Nat × Nat) (d : TypeDesc) (y y' : Value)
    (hp : tmps.getD p undef = .pointer (some ⟨g, 0, none⟩)) (hy : tmps.getD u undef = y) (hy' : tmps.getD u' undef = y') (hg : w.heap[g]? = some (.cells cs t fr))
    (hu : P.underlying ty = some d) (hd : (match d with | .struct _ | .array _ _ => true | _ => false) = true) (hi : (P.info? ty).map (·.size) = some cs.size) :
    (results fn tmps).run P w = .ok (.tuple #[.agg cs, y, y']) w := by
  have hr := run_loadVar_row (P := P) w g t ty cs fr d hg hu hd hi
  simp only [results, h]
  simp only [Array.getD_eq_getD_getElem?] at hp hy hy'
  simp [Result.andThen, asAddr, hp, hy, hy', hr]
theorem nilF (ad : Addr) (n c : Nat) (w : World) : (binOp .eql 38 (.slice (some ad) n c) (.slice none 0 0)).run Try.prog w = .ok (.bool false) w := by kernel_rfl
theorem nilT (w : World) : (binOp .eql 38 (.slice none 0 0) (.slice none 0 0)).run Try.prog w = .ok (.bool true) w := by kernel_rfl
theorem bsE (w : World) : (Instr.buildSlice 38 0 #[]).run Try.prog w = .ok (.slice (some ⟨w.heap.size, 0, none⟩) 0 0) (w.alloc (.cells #[] 5)) := by kernel_rfl
def CnP (l : List Int) (w : World) (e : Ending) (w' : World) : Prop := ∃ v, e = .returned v ∧ Own w' v l ∧ (∀ k, v.ownBlock = some k → w.heap.size ≤ k) ∧ Below w.heap.size w w'
set_option maxRecDepth 8000 in
theorem clone_some (ad : Addr) (vc : Nat) (l : List Int) (w : World) (hx : RowAt w (.slice (some ad) l.length vc) l) (hl : l.length ≤ 140737488355328) : Calls Try.prog 56 #[.slice (some ad) l.length vc] w (CnP l w) := by
  have HX := Keep.mk hx
  have HL := Keep.mk hl
  clear hx hl
  go_enter Try.func56, Try.ntmps56
  refine wp_seq_k fun K1 hK1 => ?_
  refine wp_region_list (WL.out ?_)
  refine WL.val (by kernel_rfl) (.slice none 0 0) (by go_simp) ?_
  simp only [Act.put, List.setIfInBounds_toArray, List.set_cons_zero, List.set_cons_succ]
  refine WL.nil ?_
  refine hK1 _ _ ?_
  refine wp_seq_k fun K2 hK2 => ?_
  refine wp_seq_k fun K3 hK3 => ?_
  refine wp_region_list (WL.out ?_)
  refine WL.val (by kernel_rfl) (.slice (some ad) l.length vc) (by go_simp) ?_
  simp only [Act.put, List.setIfInBounds_toArray, List.set_cons_zero, List.set_cons_succ]
  refine WL.val (by kernel_rfl) (.bool false) (by have hq_ := nilF ad l.length vc w; go_simp) ?_
  simp only [Act.put, List.setIfInBounds_toArray, List.set_cons_zero, List.set_cons_succ]
  refine WL.nil ?_
  refine hK3 _ _ ?_
  refine wp_cond_false rfl ?_
  refine wp_skip ?_
  refine hK2 _ _ ?_
  refine wp_seq_k fun K4 hK4 => ?_
  refine wp_region_list (WL.out ?_)
  refine WL.bs (by kernel_rfl) 38 0 _ rfl #[] (by simp [Act.eval]) _ _ (bsE w) ?_
  have b1 := Keep.mk (below_new w (.cells #[] 5))
  have O1 := Keep.mk (own_empty _ w.heap.size (Blk.new w 5 #[]))
  generalize w.alloc (.cells #[] 5) = w1 at *
  obtain ⟨g, hg⟩ : ∃ z, Keep (z = w.heap.size) := ⟨_, ⟨rfl⟩⟩
  rw [← hg.out] at O1 ⊢
  have Y1 := Keep.mk (HX.out.below b1.out)
  simp only [Act.put, List.setIfInBounds_toArray, List.set_cons_zero, List.set_cons_succ]
  refine WL.val (by kernel_rfl) (.slice (some ad) l.length vc) (by go_simp) ?_
  simp only [Act.put, List.setIfInBounds_toArray, List.set_cons_zero, List.set_cons_succ]
  refine WL.app (by kernel_rfl) (.tmp 5) (.tmp 6) rfl (.slice (some ⟨g, 0, none⟩) 0 0) (.slice (some ad) l.length vc) [] l rfl rfl O1.out Y1.out (by simpa using HL.out) ?_
  intro v2 w2 hp
  have O2 : Keep (Own w2 v2 l) := ⟨by simpa using hp.1⟩
  have N2 : Keep (∀ k, v2.ownBlock = some k → w.heap.size ≤ k) := ⟨fun k hk => by
    rcases hp.moved with e | ⟨j, e, hj⟩
    · rw [e] at hk; simp [Value.ownBlock] at hk; have := hg.out; omega
    · rw [e] at hk; injection hk with hk; have := b1.out.size; omega⟩
  have B2 : Keep (Below w.heap.size w w2) := ⟨b1.out.trans (hp.grown.to_below (fun k hk e => by simp [Value.ownBlock] at e; have := hg.out; omega) b1.out.size)⟩
  clear hp
  simp only [Act.put, List.setIfInBounds_toArray, List.set_cons_zero, List.set_cons_succ]
  refine WL.val (by kernel_rfl) (v2) (by go_simp) ?_
  simp only [Act.put, List.setIfInBounds_toArray, List.set_cons_zero, List.set_cons_succ]
  refine WL.nil ?_
  refine hK4 _ _ ?_
  refine wp_ret ?_
  go_ret
  exact ⟨v2, rfl, O2.out, N2.out, B2.out⟩

set_option maxRecDepth 8000 in
theorem clone_nil (w : World) : Calls Try.prog 56 #[.slice none 0 0] w (CnP [] w) := by
  go_enter Try.func56, Try.ntmps56
  refine wp_seq_k fun K1 hK1 => ?_
  refine wp_region_list (WL.out ?_)
  refine WL.val (by kernel_rfl) (.slice none 0 0) (by go_simp) ?_
  simp only [Act.put, List.setIfInBounds_toArray, List.set_cons_zero, List.set_cons_succ]
  refine WL.nil ?_
  refine hK1 _ _ ?_
  refine wp_seq_k fun K2 hK2 => ?_
  refine wp_seq_k fun K3 hK3 => ?_
  refine wp_region_list (WL.out ?_)
  refine WL.val (by kernel_rfl) (.slice none 0 0) (by go_simp) ?_
  simp only [Act.put, List.setIfInBounds_toArray, List.set_cons_zero, List.set_cons_succ]
  refine WL.val (by kernel_rfl) (.bool true) (by have hq_ := nilT w; go_simp) ?_
  simp only [Act.put, List.setIfInBounds_toArray, List.set_cons_zero, List.set_cons_succ]
  refine WL.nil ?_
  refine hK3 _ _ ?_
  refine wp_cond_true rfl ?_
  refine wp_seq_k fun K4 hK4 => ?_
  refine wp_region_list (WL.out ?_)
  refine WL.val (by kernel_rfl) (.slice none 0 0) (by go_simp) ?_
  simp only [Act.put, List.setIfInBounds_toArray, List.set_cons_zero, List.set_cons_succ]
  refine WL.nil ?_
  refine hK4 _ _ ?_
  refine wp_ret ?_
  go_ret
  exact ⟨_, rfl, own_nil w, fun k hk => by simp [Value.ownBlock] at hk, Below.refl _ _⟩

theorem clone_any (v : Value) (l : List Int) (w : World) (hx : RowAt w v l) (hl : l.length ≤ 140737488355328) : Calls Try.prog 56 #[v] w (CnP l w) := by
  have hx0 := hx
  rcases hx with ⟨rfl, rfl⟩ | ⟨a, c, rfl, rfl⟩ | ⟨h, off, cap, rfl, _, _⟩
  · exact clone_nil w
  · exact clone_some a c [] w hx0 hl
  · exact clone_some _ cap l w hx0 hl
def OwP (c : CV) (w : World) (e : Ending) (w' : World) : Prop := ∃ v, e = .returned (.agg #[.int .i64 c.k, .string c.s, v]) ∧ Own w' v c.l ∧ (∀ k, v.ownBlock = some k → w.heap.size ≤ k) ∧ Below w.heap.size w w'
set_option maxRecDepth 8000 in
theorem own_any' (c : CV) (va : Option Addr) (vn vc : Nat) (w : World) (hx : RowAt w (.slice va vn vc) c.l) (hl : c.l.length ≤ 140737488355328) : Calls Try.prog 30 #[.agg #[.int .i64 c.k, .string c.s, .slice va vn vc]] w (OwP c w) := by
  have HX := Keep.mk hx
  have HL := Keep.mk hl
  clear hx hl
  go_enter Try.func30, Try.ntmps30
  refine wp_seq_k fun K1 hK1 => ?_
  refine wp_region_list (WL.out ?_)
  refine WL.box (by kernel_rfl) 40 (.tmp 0) rfl #[.int .i64 c.k, .string c.s, .slice va vn vc] rfl ?_
  have C1 := Keep.mk (Blk.new w 40 #[.int .i64 c.k, .string c.s, .slice va vn vc])
  have b_ := below_new w (.cells #[.int .i64 c.k, .string c.s, .slice va vn vc] 40)
  change WL _ _ _ _ _ (w.alloc (.cells #[.int .i64 c.k, .string c.s, .slice va vn vc] 40))
  generalize w.alloc (.cells #[.int .i64 c.k, .string c.s, .slice va vn vc] 40) = w1 at *
  obtain ⟨p, hp0⟩ : ∃ z, Keep (z = w.heap.size) := ⟨_, ⟨rfl⟩⟩
  rw [← hp0.out] at C1 ⊢
  have B1 : Keep (Below w.heap.size w w1) := ⟨b_⟩
  have gp : Keep (w.heap.size ≤ p) := ⟨by rw [hp0.out]; exact Nat.le_refl _⟩
  clear b_
  simp only [Act.put, List.setIfInBounds_toArray, List.set_cons_zero, List.set_cons_succ]
  refine WL.new (by kernel_rfl) 40 rfl _ Try.newC ?_
  have R2 := Keep.mk (Blk.new w1 40 #[.int .i64 0, .string ByteArray.empty, .slice none 0 0])
  have b_ := below_new w1 (.cells #[.int .i64 0, .string ByteArray.empty, .slice none 0 0] 40)
  change WL _ _ _ _ _ (w1.alloc (.cells #[.int .i64 0, .string ByteArray.empty, .slice none 0 0] 40))
  generalize w1.alloc (.cells #[.int .i64 0, .string ByteArray.empty, .slice none 0 0] 40) = w2 at *
  obtain ⟨r, hr0⟩ : ∃ z, Keep (z = w1.heap.size) := ⟨_, ⟨rfl⟩⟩
  rw [← hr0.out] at R2 ⊢
  have C2 := Keep.mk (C1.out.below b_ C1.out.lt)
  have B2 : Keep (Below w.heap.size w w2) := ⟨B1.out.trans (b_.mono B1.out.size)⟩
  have gr : Keep (w.heap.size ≤ r) := ⟨by rw [hr0.out]; exact B1.out.size⟩
  clear b_
  have npr : Keep (p ≠ r) := ⟨by have := C1.out.lt; have := hr0.out; omega⟩
  have c2 : w2.cell? ⟨p, 2, none⟩ = some (.slice va vn vc) := C2.out.c 2 rfl
  simp only [Act.put, List.setIfInBounds_toArray, List.set_cons_zero, List.set_cons_succ]
  refine WL.nil ?_
  refine hK1 _ _ ?_
  refine wp_seq_k fun K2 hK2 => ?_
  refine wp_region_list (WL.out ?_)
  refine WL.val (by kernel_rfl) (.pointer (some ⟨p, 2, none⟩)) (by go_simp) ?_
  simp only [Act.put, List.setIfInBounds_toArray, List.set_cons_zero, List.set_cons_succ]
  refine WL.val (by kernel_rfl) (.slice va vn vc) (by go_simp) ?_
  simp only [Act.put, List.setIfInBounds_toArray, List.set_cons_zero, List.set_cons_succ]
  clear c2
  refine WL.callF (by kernel_rfl) 56 _ _ rfl Try.in56 #[.slice va vn vc] (by simp [Act.eval]) ?_
  refine (clone_any _ c.l w2 (HX.out.below B2.out) HL.out).mono ?_
  rintro e w3 ⟨v3, rfl, k1, k2, k3⟩
  refine ⟨_, rfl, ?_⟩
  have O3 := Keep.mk k1
  have N3 : Keep (∀ k, v3.ownBlock = some k → w2.heap.size ≤ k) := ⟨k2⟩
  have C3 := Keep.mk (C2.out.below k3 C2.out.lt)
  have R3 := Keep.mk (R2.out.below k3 R2.out.lt)
  have B3 : Keep (Below w.heap.size w w3) := ⟨B2.out.trans (k3.mono B2.out.size)⟩
  have hpl : Keep (p < w2.heap.size) := ⟨C2.out.lt⟩
  have hrl : Keep (r < w2.heap.size) := ⟨R2.out.lt⟩
  obtain ⟨xa, xn, xc, hxv⟩ := O3.out.sl
  subst hxv
  have f_o := C3.out.frozen 2
  have c_o : w3.cell? ⟨p, 2, none⟩ = some (.slice va vn vc) := C3.out.c 2 rfl
  clear k1 k2 k3 C2 R2
  simp only [Act.put, List.setIfInBounds_toArray, List.set_cons_zero, List.set_cons_succ]
  refine WL.val (by kernel_rfl) (.pointer (some ⟨p, 2, none⟩)) (by go_simp) ?_
  simp only [Act.put, List.setIfInBounds_toArray, List.set_cons_zero, List.set_cons_succ]
  refine WL.cell (by kernel_rfl) (w3.setCell ⟨p, 2, none⟩ (.slice xa xn xc)) (by go_simp) ?_
  clear f_o c_o
  have C4 : Keep (Blk (w3.setCell ⟨p, 2, none⟩ (.slice xa xn xc)) p 40 #[.int .i64 c.k, .string c.s, .slice xa xn xc]) := ⟨C3.out.set 2 (.slice xa xn xc)⟩
  have g_ : Grown w3 (w3.setCell ⟨p, 2, none⟩ (.slice xa xn xc)) (fun k => k = p) := Grown.setCell w3 p 2 _ fun _ => rfl
  have R4 := Keep.mk (g_.blk R3.out (fun e => npr.out e.symm))
  have O4 := Keep.mk (O3.out.grown g_ fun k hk e => by have := N3.out k hk; have := hpl.out; omega)
  have B4 : Keep (Below w.heap.size w (w3.setCell ⟨p, 2, none⟩ (.slice xa xn xc))) := ⟨B3.out.trans (g_.to_below (fun k hk e => by have := gp.out; omega) B3.out.size)⟩
  generalize w3.setCell ⟨p, 2, none⟩ (.slice xa xn xc) = w4 at *
  clear g_ C3 R3 O3 B3
  simp only [Act.put]
  refine WL.nil ?_
  refine hK2 _ _ ?_
  refine wp_seq_k fun K3 hK3 => ?_
  refine wp_region_list (WL.out ?_)
  refine WL.row (by kernel_rfl) 40 (.tmp 1) rfl p rfl 40 #[.int .i64 c.k, .string c.s, .slice xa xn xc] _ C4.out Try.underlying40 rfl (Try.sizeC _ _ _) ?_
  simp only [Act.put, List.setIfInBounds_toArray, List.set_cons_zero, List.set_cons_succ]
  refine WL.storeR (by kernel_rfl) 40 (.tmp 2) (.tmp 7) rfl r #[.int .i64 c.k, .string c.s, .slice xa xn xc] rfl rfl 40 #[.int .i64 0, .string ByteArray.empty, .slice none 0 0] R4.out (Try.sizeC _ _ _) rfl (by simp [Value.oneCell']) ?_
  have R9 := Keep.mk (R4.out.setRow #[.int .i64 c.k, .string c.s, .slice xa xn xc])
  have g_ : Grown w4 (w4.setRow r #[.int .i64 c.k, .string c.s, .slice xa xn xc]) (fun k => k = r) := Grown.setRow w4 r #[.int .i64 c.k, .string c.s, .slice xa xn xc] fun _ => rfl
  have O9 := Keep.mk (O4.out.grown g_ fun k hk e => by have := N3.out k hk; have := hrl.out; omega)
  have B9 : Keep (Below w.heap.size w (w4.setRow r #[.int .i64 c.k, .string c.s, .slice xa xn xc])) := ⟨below_setRow B4.out gr.out _⟩
  generalize w4.setRow r #[.int .i64 c.k, .string c.s, .slice xa xn xc] = w9 at *
  clear g_
  simp only [Act.put]
  refine WL.nil ?_
  refine hK3 _ _ ?_
  refine wp_ret ?_
  try simp only [Exit.inBlock, Exit.then]
  refine bodyPost_ret (v := .agg #[.int .i64 c.k, .string c.s, .slice xa xn xc]) (results_cell_row Try.results30 _ _ r 40 _ (0, 0) _ rfl R9.out Try.underlying40 rfl (Try.sizeC _ _ _)) rfl ⟨.slice xa xn xc, rfl, O9.out, fun k hk => by have := N3.out k hk; have := B2.out.size; omega, B9.out⟩

theorem own_any (c : CV) (w : World) (hx : RowAt w c.v c.l) (hl : c.l.length ≤ 140737488355328) : Calls Try.prog 30 #[.agg (cvA c)] w (OwP c w) := by
  obtain ⟨va, vc, hv⟩ := row_form hx
  unfold cvA
  rw [hv] at hx ⊢
  exact own_any' c va _ vc w hx hl
def takB (root : Hs) (n kind : Int) (key : ByteArray) (ls : List LV) : Bool := formB n ls && (ansB n ls kind key && rtB n ls root)
def chkE (root : Hs) (n kind : Int) (key : ByteArray) (ls : List LV) : Int := if kmay kind then (if takB root n kind key ls then 0 else 190) else 40
def chkI (root : Hs) (n kind : Int) (key : ByteArray) (ls : List LV) : Bool := decide (chkE root n kind key ls = 0) && tellB ls kind key
def CkP (root : Hs) (n kind : Int) (key : ByteArray) (ls : List LV) (w : World) (e : Ending) (w' : World) : Prop :=
  ∃ c : CV, e = .returned (.tuple #[.agg (cvA c), .bool (chkI root n kind key ls), .int .i64 (chkE root n kind key ls)]) ∧ RowAt w' c.v c.l ∧ Below w.heap.size w w' ∧
    (chkI root n kind key ls = false → c = ⟨0, ByteArray.empty, .slice none 0 0, []⟩) ∧ (∀ x, chkI root n kind key ls = true → ls = [x] → c.k = x.c.k ∧ c.s = x.c.s ∧ c.l = x.c.l)
theorem bldC : Try.prog.built 40 [] = some #[.int .i64 0, .string ByteArray.empty, .slice none 0 0] := by kernel_rfl
set_option maxRecDepth 8000 in
set_option maxHeartbeats 1000000 in
theorem ck_kind (v : Value) (n kind : Int) (key : ByteArray) (ls : List LV) (root : Hs) (w : World) (hL : LsV w.heap.size w v ls) (Hn : Keep (n < 9223372036854775808)) (hSm : SmL ls) (hkm : kmay kind = false)  : Calls Try.prog 15 #[.agg (bytesA 32 root.f), .int .i64 kind, .string key, .agg (wtA n v)] w (CkP root n kind key ls w) := by
  have hE : Keep (chkE root n kind key ls = 40) := ⟨by unfold chkE; rw [hkm]; rfl⟩
  have hI : Keep (chkI root n kind key ls = false) := ⟨by unfold chkI; rw [hE.out]; rfl⟩
  have HL := Keep.mk hL
  have HSm := Keep.mk hSm
  clear hL hSm
  go_enter Try.func15, Try.ntmps15
  refine wp_seq_k fun K1 hK1 => ?_
  refine wp_region_list (WL.out ?_)
  refine WL.box (by kernel_rfl) 25 (.tmp 0) rfl (bytesA 32 root.f) rfl ?_
  have Q1 := Keep.mk (Blk.new w 25 (bytesA 32 root.f))
  have b_ := below_new w (.cells (bytesA 32 root.f) 25)
  change WL _ _ _ _ _ (w.alloc (.cells (bytesA 32 root.f) 25))
  generalize w.alloc (.cells (bytesA 32 root.f) 25) = w1 at *
  obtain ⟨q, hq0⟩ : ∃ z, Keep (z = w.heap.size) := ⟨_, ⟨rfl⟩⟩
  rw [← hq0.out] at Q1 ⊢
  have B1 : Keep (Below w.heap.size w w1) := ⟨b_⟩
  have gq : Keep (w.heap.size ≤ q) := ⟨by rw [hq0.out]; exact Nat.le_refl _⟩
  clear b_
  simp only [Act.put, List.setIfInBounds_toArray, List.set_cons_zero, List.set_cons_succ]
  refine WL.box (by kernel_rfl) 31 (.tmp 3) rfl (wtA n v) rfl ?_
  have D2 := Keep.mk (Blk.new w1 31 (wtA n v))
  have b_ := below_new w1 (.cells (wtA n v) 31)
  change WL _ _ _ _ _ (w1.alloc (.cells (wtA n v) 31))
  generalize w1.alloc (.cells (wtA n v) 31) = w2 at *
  obtain ⟨d, hd0⟩ : ∃ z, Keep (z = w1.heap.size) := ⟨_, ⟨rfl⟩⟩
  rw [← hd0.out] at D2 ⊢
  have Q2 := Keep.mk (Q1.out.below b_ Q1.out.lt)
  have B2 : Keep (Below w.heap.size w w2) := ⟨B1.out.trans (b_.mono B1.out.size)⟩
  have gd : Keep (w.heap.size ≤ d) := ⟨by rw [hd0.out]; exact B1.out.size⟩
  clear b_
  simp only [Act.put, List.setIfInBounds_toArray, List.set_cons_zero, List.set_cons_succ]
  refine WL.new (by kernel_rfl) 40 rfl _ Try.newC ?_
  have R3 := Keep.mk (Blk.new w2 40 #[.int .i64 0, .string ByteArray.empty, .slice none 0 0])
  have b_ := below_new w2 (.cells #[.int .i64 0, .string ByteArray.empty, .slice none 0 0] 40)
  change WL _ _ _ _ _ (w2.alloc (.cells #[.int .i64 0, .string ByteArray.empty, .slice none 0 0] 40))
  generalize w2.alloc (.cells #[.int .i64 0, .string ByteArray.empty, .slice none 0 0] 40) = w3 at *
  obtain ⟨r, hr0⟩ : ∃ z, Keep (z = w2.heap.size) := ⟨_, ⟨rfl⟩⟩
  rw [← hr0.out] at R3 ⊢
  have Q3 := Keep.mk (Q2.out.below b_ Q2.out.lt)
  have D3 := Keep.mk (D2.out.below b_ D2.out.lt)
  have B3 : Keep (Below w.heap.size w w3) := ⟨B2.out.trans (b_.mono B2.out.size)⟩
  have gr : Keep (w.heap.size ≤ r) := ⟨by rw [hr0.out]; exact B2.out.size⟩
  clear b_
  simp only [Act.put, List.setIfInBounds_toArray, List.set_cons_zero, List.set_cons_succ]
  refine WL.val (by kernel_rfl) (.bool false) (by go_simp) ?_
  simp only [Act.put, List.setIfInBounds_toArray, List.set_cons_zero, List.set_cons_succ]
  refine WL.val (by kernel_rfl) (.int .i64 0) (by go_simp) ?_
  simp only [Act.put, List.setIfInBounds_toArray, List.set_cons_zero, List.set_cons_succ]
  refine WL.nil ?_
  refine hK1 _ _ ?_
  refine wp_seq_k fun K2 hK2 => ?_
  refine wp_seq_k fun K3 hK3 => ?_
  refine wp_region_list (WL.out ?_)
  refine WL.val (by kernel_rfl) (.int .i64 kind) (by go_simp) ?_
  simp only [Act.put, List.setIfInBounds_toArray, List.set_cons_zero, List.set_cons_succ]
  refine WL.callF (by kernel_rfl) 28 _ _ rfl Try.in28 #[.int .i64 kind] (by simp [Act.eval]) ?_
  refine (isk_any kind _).mono ?_
  rintro e w1_ ⟨rfl, hw_⟩
  refine ⟨_, rfl, ?_⟩
  have hw_ := hw_.symm
  subst hw_
  rw [hkm]
  simp only [Act.put, List.setIfInBounds_toArray, List.set_cons_zero, List.set_cons_succ]
  refine WL.val (by kernel_rfl) (.bool true) (by go_simp) ?_
  simp only [Act.put, List.setIfInBounds_toArray, List.set_cons_zero, List.set_cons_succ]
  refine WL.nil ?_
  refine hK3 _ _ ?_
  refine wp_cond_true rfl ?_
  refine wp_seq_k fun K4 hK4 => ?_
  refine wp_region_list (WL.out ?_)
  refine WL.bld (by kernel_rfl) 40 #[] rfl [] (by simp) #[.int .i64 0, .string ByteArray.empty, .slice none 0 0] bldC ?_
  simp only [Act.put, List.setIfInBounds_toArray, List.set_cons_zero, List.set_cons_succ]
  refine WL.storeR (by kernel_rfl) 40 (.tmp 8) (.tmp 14) rfl r #[.int .i64 0, .string ByteArray.empty, .slice none 0 0] rfl rfl 40 #[.int .i64 0, .string ByteArray.empty, .slice none 0 0] R3.out (Try.sizeC _ _ _) rfl (by simp [Value.oneCell']) ?_
  have R9 := Keep.mk (R3.out.setRow #[.int .i64 0, .string ByteArray.empty, .slice none 0 0])
  have B9 : Keep (Below w.heap.size w (w3.setRow r #[.int .i64 0, .string ByteArray.empty, .slice none 0 0])) := ⟨below_setRow B3.out gr.out _⟩
  generalize w3.setRow r #[.int .i64 0, .string ByteArray.empty, .slice none 0 0] = w9 at *
  simp only [Act.put]
  refine WL.val (by kernel_rfl) (.bool false) (by go_simp) ?_
  simp only [Act.put, List.setIfInBounds_toArray, List.set_cons_zero, List.set_cons_succ]
  refine WL.val (by kernel_rfl) (.int .i64 40) (by go_simp) ?_
  simp only [Act.put, List.setIfInBounds_toArray, List.set_cons_zero, List.set_cons_succ]
  refine WL.nil ?_
  refine hK4 _ _ ?_
  refine wp_ret ?_
  try simp only [Exit.inBlock, Exit.then]
  refine bodyPost_ret (v := .tuple #[.agg #[.int .i64 0, .string ByteArray.empty, .slice none 0 0], .bool false, .int .i64 40]) (results_cell_row3 Try.results15 _ _ r 40 _ (0, 0) _ _ _ rfl rfl rfl R9.out Try.underlying40 rfl (Try.sizeC _ _ _)) rfl ⟨⟨0, ByteArray.empty, .slice none 0 0, []⟩, ?_, .inl ⟨rfl, rfl⟩, B9.out, fun _ => rfl, ?_⟩
  · rw [hE.out, hI.out]; rfl
  · rw [hI.out]; intro y h; cases h
set_option maxRecDepth 8000 in
set_option maxHeartbeats 1000000 in
theorem ck_form (v : Value) (n kind : Int) (key : ByteArray) (ls : List LV) (root : Hs) (w : World) (hL : LsV w.heap.size w v ls) (Hn : Keep (n < 9223372036854775808)) (hSm : SmL ls) (hkm : kmay kind = true) (hfo : Keep (formB n ls = false)) : Calls Try.prog 15 #[.agg (bytesA 32 root.f), .int .i64 kind, .string key, .agg (wtA n v)] w (CkP root n kind key ls w) := by
  have hE : Keep (chkE root n kind key ls = 190) := ⟨by unfold chkE takB; rw [hkm, hfo.out]; rfl⟩
  have hI : Keep (chkI root n kind key ls = false) := ⟨by unfold chkI; rw [hE.out]; rfl⟩
  have HL := Keep.mk hL
  have HSm := Keep.mk hSm
  clear hL hSm
  go_enter Try.func15, Try.ntmps15
  refine wp_seq_k fun K1 hK1 => ?_
  refine wp_region_list (WL.out ?_)
  refine WL.box (by kernel_rfl) 25 (.tmp 0) rfl (bytesA 32 root.f) rfl ?_
  have Q1 := Keep.mk (Blk.new w 25 (bytesA 32 root.f))
  have b_ := below_new w (.cells (bytesA 32 root.f) 25)
  change WL _ _ _ _ _ (w.alloc (.cells (bytesA 32 root.f) 25))
  generalize w.alloc (.cells (bytesA 32 root.f) 25) = w1 at *
  obtain ⟨q, hq0⟩ : ∃ z, Keep (z = w.heap.size) := ⟨_, ⟨rfl⟩⟩
  rw [← hq0.out] at Q1 ⊢
  have B1 : Keep (Below w.heap.size w w1) := ⟨b_⟩
  have gq : Keep (w.heap.size ≤ q) := ⟨by rw [hq0.out]; exact Nat.le_refl _⟩
  clear b_
  simp only [Act.put, List.setIfInBounds_toArray, List.set_cons_zero, List.set_cons_succ]
  refine WL.box (by kernel_rfl) 31 (.tmp 3) rfl (wtA n v) rfl ?_
  have D2 := Keep.mk (Blk.new w1 31 (wtA n v))
  have b_ := below_new w1 (.cells (wtA n v) 31)
  change WL _ _ _ _ _ (w1.alloc (.cells (wtA n v) 31))
  generalize w1.alloc (.cells (wtA n v) 31) = w2 at *
  obtain ⟨d, hd0⟩ : ∃ z, Keep (z = w1.heap.size) := ⟨_, ⟨rfl⟩⟩
  rw [← hd0.out] at D2 ⊢
  have Q2 := Keep.mk (Q1.out.below b_ Q1.out.lt)
  have B2 : Keep (Below w.heap.size w w2) := ⟨B1.out.trans (b_.mono B1.out.size)⟩
  have gd : Keep (w.heap.size ≤ d) := ⟨by rw [hd0.out]; exact B1.out.size⟩
  clear b_
  simp only [Act.put, List.setIfInBounds_toArray, List.set_cons_zero, List.set_cons_succ]
  refine WL.new (by kernel_rfl) 40 rfl _ Try.newC ?_
  have R3 := Keep.mk (Blk.new w2 40 #[.int .i64 0, .string ByteArray.empty, .slice none 0 0])
  have b_ := below_new w2 (.cells #[.int .i64 0, .string ByteArray.empty, .slice none 0 0] 40)
  change WL _ _ _ _ _ (w2.alloc (.cells #[.int .i64 0, .string ByteArray.empty, .slice none 0 0] 40))
  generalize w2.alloc (.cells #[.int .i64 0, .string ByteArray.empty, .slice none 0 0] 40) = w3 at *
  obtain ⟨r, hr0⟩ : ∃ z, Keep (z = w2.heap.size) := ⟨_, ⟨rfl⟩⟩
  rw [← hr0.out] at R3 ⊢
  have Q3 := Keep.mk (Q2.out.below b_ Q2.out.lt)
  have D3 := Keep.mk (D2.out.below b_ D2.out.lt)
  have B3 : Keep (Below w.heap.size w w3) := ⟨B2.out.trans (b_.mono B2.out.size)⟩
  have gr : Keep (w.heap.size ≤ r) := ⟨by rw [hr0.out]; exact B2.out.size⟩
  clear b_
  simp only [Act.put, List.setIfInBounds_toArray, List.set_cons_zero, List.set_cons_succ]
  refine WL.val (by kernel_rfl) (.bool false) (by go_simp) ?_
  simp only [Act.put, List.setIfInBounds_toArray, List.set_cons_zero, List.set_cons_succ]
  refine WL.val (by kernel_rfl) (.int .i64 0) (by go_simp) ?_
  simp only [Act.put, List.setIfInBounds_toArray, List.set_cons_zero, List.set_cons_succ]
  refine WL.nil ?_
  refine hK1 _ _ ?_
  refine wp_seq_k fun K2 hK2 => ?_
  refine wp_seq_k fun K3 hK3 => ?_
  refine wp_region_list (WL.out ?_)
  refine WL.val (by kernel_rfl) (.int .i64 kind) (by go_simp) ?_
  simp only [Act.put, List.setIfInBounds_toArray, List.set_cons_zero, List.set_cons_succ]
  refine WL.callF (by kernel_rfl) 28 _ _ rfl Try.in28 #[.int .i64 kind] (by simp [Act.eval]) ?_
  refine (isk_any kind _).mono ?_
  rintro e w1_ ⟨rfl, hw_⟩
  refine ⟨_, rfl, ?_⟩
  have hw_ := hw_.symm
  subst hw_
  rw [hkm]
  simp only [Act.put, List.setIfInBounds_toArray, List.set_cons_zero, List.set_cons_succ]
  refine WL.val (by kernel_rfl) (.bool false) (by go_simp) ?_
  simp only [Act.put, List.setIfInBounds_toArray, List.set_cons_zero, List.set_cons_succ]
  refine WL.nil ?_
  refine hK3 _ _ ?_
  refine wp_cond_false rfl ?_
  refine wp_skip ?_
  refine hK2 _ _ ?_
  refine wp_seq_k fun K4 hK4 => ?_
  refine wp_seq_k fun K5 hK5 => ?_
  refine wp_region_list (WL.out ?_)
  refine WL.row (by kernel_rfl) 31 (.tmp 7) rfl d rfl 31 (wtA n v) _ D3.out Try.underlying31 rfl (by rfl) ?_
  simp only [Act.put, List.setIfInBounds_toArray, List.set_cons_zero, List.set_cons_succ]
  refine WL.callF (by kernel_rfl) 35 _ _ rfl Try.in35 #[.agg (wtA n v)] (by simp [Act.eval]) ?_
  refine (formed_any v n ls w3 ((HL.out.below B3.out).mono B3.out.size)).mono ?_
  rintro e w4 ⟨rfl, k1⟩
  refine ⟨_, rfl, ?_⟩
  rw [hfo.out]
  have Q4 := Keep.mk (Q3.out.below k1 Q3.out.lt)
  have D4 := Keep.mk (D3.out.below k1 D3.out.lt)
  have R4 := Keep.mk (R3.out.below k1 R3.out.lt)
  have B4 : Keep (Below w.heap.size w w4) := ⟨B3.out.trans (k1.mono B3.out.size)⟩
  clear k1 Q3 D3 R3 B3
  simp only [Act.put, List.setIfInBounds_toArray, List.set_cons_zero, List.set_cons_succ]
  refine WL.val (by kernel_rfl) (.bool true) (by go_simp) ?_
  simp only [Act.put, List.setIfInBounds_toArray, List.set_cons_zero, List.set_cons_succ]
  refine WL.val (by kernel_rfl) (.bool true) (by go_simp) ?_
  simp only [Act.put, List.setIfInBounds_toArray, List.set_cons_zero, List.set_cons_succ]
  refine WL.skip (by kernel_rfl) ?_
  simp only [Act.put, List.setIfInBounds_toArray, List.set_cons_zero, List.set_cons_succ]
  refine WL.skip (by kernel_rfl) ?_
  simp only [Act.put, List.setIfInBounds_toArray, List.set_cons_zero, List.set_cons_succ]
  refine WL.skip (by kernel_rfl) ?_
  simp only [Act.put, List.setIfInBounds_toArray, List.set_cons_zero, List.set_cons_succ]
  refine WL.skip (by kernel_rfl) ?_
  simp only [Act.put, List.setIfInBounds_toArray, List.set_cons_zero, List.set_cons_succ]
  refine WL.skip (by kernel_rfl) ?_
  simp only [Act.put, List.setIfInBounds_toArray, List.set_cons_zero, List.set_cons_succ]
  refine WL.val (by kernel_rfl) (.bool true) (by go_simp) ?_
  simp only [Act.put, List.setIfInBounds_toArray, List.set_cons_zero, List.set_cons_succ]
  refine WL.val (by kernel_rfl) (.bool true) (by go_simp) ?_
  simp only [Act.put, List.setIfInBounds_toArray, List.set_cons_zero, List.set_cons_succ]
  refine WL.skip (by kernel_rfl) ?_
  simp only [Act.put, List.setIfInBounds_toArray, List.set_cons_zero, List.set_cons_succ]
  refine WL.skip (by kernel_rfl) ?_
  simp only [Act.put, List.setIfInBounds_toArray, List.set_cons_zero, List.set_cons_succ]
  refine WL.skip (by kernel_rfl) ?_
  simp only [Act.put, List.setIfInBounds_toArray, List.set_cons_zero, List.set_cons_succ]
  refine WL.skip (by kernel_rfl) ?_
  simp only [Act.put, List.setIfInBounds_toArray, List.set_cons_zero, List.set_cons_succ]
  refine WL.val (by kernel_rfl) (.bool true) (by go_simp) ?_
  simp only [Act.put, List.setIfInBounds_toArray, List.set_cons_zero, List.set_cons_succ]
  refine WL.nil ?_
  refine hK5 _ _ ?_
  refine wp_cond_true rfl ?_
  refine wp_seq_k fun K6 hK6 => ?_
  refine wp_region_list (WL.out ?_)
  refine WL.bld (by kernel_rfl) 40 #[] rfl [] (by simp) #[.int .i64 0, .string ByteArray.empty, .slice none 0 0] bldC ?_
  simp only [Act.put, List.setIfInBounds_toArray, List.set_cons_zero, List.set_cons_succ]
  refine WL.storeR (by kernel_rfl) 40 (.tmp 8) (.tmp 31) rfl r #[.int .i64 0, .string ByteArray.empty, .slice none 0 0] rfl rfl 40 #[.int .i64 0, .string ByteArray.empty, .slice none 0 0] R4.out (Try.sizeC _ _ _) rfl (by simp [Value.oneCell']) ?_
  have R9 := Keep.mk (R4.out.setRow #[.int .i64 0, .string ByteArray.empty, .slice none 0 0])
  have B9 : Keep (Below w.heap.size w (w4.setRow r #[.int .i64 0, .string ByteArray.empty, .slice none 0 0])) := ⟨below_setRow B4.out gr.out _⟩
  generalize w4.setRow r #[.int .i64 0, .string ByteArray.empty, .slice none 0 0] = w9 at *
  simp only [Act.put]
  refine WL.val (by kernel_rfl) (.bool false) (by go_simp) ?_
  simp only [Act.put, List.setIfInBounds_toArray, List.set_cons_zero, List.set_cons_succ]
  refine WL.val (by kernel_rfl) (.int .i64 190) (by go_simp) ?_
  simp only [Act.put, List.setIfInBounds_toArray, List.set_cons_zero, List.set_cons_succ]
  refine WL.nil ?_
  refine hK6 _ _ ?_
  refine wp_ret ?_
  try simp only [Exit.inBlock, Exit.then]
  refine bodyPost_ret (v := .tuple #[.agg #[.int .i64 0, .string ByteArray.empty, .slice none 0 0], .bool false, .int .i64 190]) (results_cell_row3 Try.results15 _ _ r 40 _ (0, 0) _ _ _ rfl rfl rfl R9.out Try.underlying40 rfl (Try.sizeC _ _ _)) rfl ⟨⟨0, ByteArray.empty, .slice none 0 0, []⟩, ?_, .inl ⟨rfl, rfl⟩, B9.out, fun _ => rfl, ?_⟩
  · rw [hE.out, hI.out]; rfl
  · rw [hI.out]; intro y h; cases h
set_option maxRecDepth 8000 in
set_option maxHeartbeats 1000000 in
theorem ck_ans (v : Value) (n kind : Int) (key : ByteArray) (ls : List LV) (root : Hs) (w : World) (hL : LsV w.heap.size w v ls) (Hn : Keep (n < 9223372036854775808)) (hSm : SmL ls) (hkm : kmay kind = true) (hfo : Keep (formB n ls = true)) (han : Keep (ansB n ls kind key = false)) : Calls Try.prog 15 #[.agg (bytesA 32 root.f), .int .i64 kind, .string key, .agg (wtA n v)] w (CkP root n kind key ls w) := by
  have hE : Keep (chkE root n kind key ls = 190) := ⟨by unfold chkE takB; rw [hkm, hfo.out, han.out]; rfl⟩
  have hI : Keep (chkI root n kind key ls = false) := ⟨by unfold chkI; rw [hE.out]; rfl⟩
  have HL := Keep.mk hL
  have HSm := Keep.mk hSm
  clear hL hSm
  go_enter Try.func15, Try.ntmps15
  refine wp_seq_k fun K1 hK1 => ?_
  refine wp_region_list (WL.out ?_)
  refine WL.box (by kernel_rfl) 25 (.tmp 0) rfl (bytesA 32 root.f) rfl ?_
  have Q1 := Keep.mk (Blk.new w 25 (bytesA 32 root.f))
  have b_ := below_new w (.cells (bytesA 32 root.f) 25)
  change WL _ _ _ _ _ (w.alloc (.cells (bytesA 32 root.f) 25))
  generalize w.alloc (.cells (bytesA 32 root.f) 25) = w1 at *
  obtain ⟨q, hq0⟩ : ∃ z, Keep (z = w.heap.size) := ⟨_, ⟨rfl⟩⟩
  rw [← hq0.out] at Q1 ⊢
  have B1 : Keep (Below w.heap.size w w1) := ⟨b_⟩
  have gq : Keep (w.heap.size ≤ q) := ⟨by rw [hq0.out]; exact Nat.le_refl _⟩
  clear b_
  simp only [Act.put, List.setIfInBounds_toArray, List.set_cons_zero, List.set_cons_succ]
  refine WL.box (by kernel_rfl) 31 (.tmp 3) rfl (wtA n v) rfl ?_
  have D2 := Keep.mk (Blk.new w1 31 (wtA n v))
  have b_ := below_new w1 (.cells (wtA n v) 31)
  change WL _ _ _ _ _ (w1.alloc (.cells (wtA n v) 31))
  generalize w1.alloc (.cells (wtA n v) 31) = w2 at *
  obtain ⟨d, hd0⟩ : ∃ z, Keep (z = w1.heap.size) := ⟨_, ⟨rfl⟩⟩
  rw [← hd0.out] at D2 ⊢
  have Q2 := Keep.mk (Q1.out.below b_ Q1.out.lt)
  have B2 : Keep (Below w.heap.size w w2) := ⟨B1.out.trans (b_.mono B1.out.size)⟩
  have gd : Keep (w.heap.size ≤ d) := ⟨by rw [hd0.out]; exact B1.out.size⟩
  clear b_
  simp only [Act.put, List.setIfInBounds_toArray, List.set_cons_zero, List.set_cons_succ]
  refine WL.new (by kernel_rfl) 40 rfl _ Try.newC ?_
  have R3 := Keep.mk (Blk.new w2 40 #[.int .i64 0, .string ByteArray.empty, .slice none 0 0])
  have b_ := below_new w2 (.cells #[.int .i64 0, .string ByteArray.empty, .slice none 0 0] 40)
  change WL _ _ _ _ _ (w2.alloc (.cells #[.int .i64 0, .string ByteArray.empty, .slice none 0 0] 40))
  generalize w2.alloc (.cells #[.int .i64 0, .string ByteArray.empty, .slice none 0 0] 40) = w3 at *
  obtain ⟨r, hr0⟩ : ∃ z, Keep (z = w2.heap.size) := ⟨_, ⟨rfl⟩⟩
  rw [← hr0.out] at R3 ⊢
  have Q3 := Keep.mk (Q2.out.below b_ Q2.out.lt)
  have D3 := Keep.mk (D2.out.below b_ D2.out.lt)
  have B3 : Keep (Below w.heap.size w w3) := ⟨B2.out.trans (b_.mono B2.out.size)⟩
  have gr : Keep (w.heap.size ≤ r) := ⟨by rw [hr0.out]; exact B2.out.size⟩
  clear b_
  simp only [Act.put, List.setIfInBounds_toArray, List.set_cons_zero, List.set_cons_succ]
  refine WL.val (by kernel_rfl) (.bool false) (by go_simp) ?_
  simp only [Act.put, List.setIfInBounds_toArray, List.set_cons_zero, List.set_cons_succ]
  refine WL.val (by kernel_rfl) (.int .i64 0) (by go_simp) ?_
  simp only [Act.put, List.setIfInBounds_toArray, List.set_cons_zero, List.set_cons_succ]
  refine WL.nil ?_
  refine hK1 _ _ ?_
  refine wp_seq_k fun K2 hK2 => ?_
  refine wp_seq_k fun K3 hK3 => ?_
  refine wp_region_list (WL.out ?_)
  refine WL.val (by kernel_rfl) (.int .i64 kind) (by go_simp) ?_
  simp only [Act.put, List.setIfInBounds_toArray, List.set_cons_zero, List.set_cons_succ]
  refine WL.callF (by kernel_rfl) 28 _ _ rfl Try.in28 #[.int .i64 kind] (by simp [Act.eval]) ?_
  refine (isk_any kind _).mono ?_
  rintro e w1_ ⟨rfl, hw_⟩
  refine ⟨_, rfl, ?_⟩
  have hw_ := hw_.symm
  subst hw_
  rw [hkm]
  simp only [Act.put, List.setIfInBounds_toArray, List.set_cons_zero, List.set_cons_succ]
  refine WL.val (by kernel_rfl) (.bool false) (by go_simp) ?_
  simp only [Act.put, List.setIfInBounds_toArray, List.set_cons_zero, List.set_cons_succ]
  refine WL.nil ?_
  refine hK3 _ _ ?_
  refine wp_cond_false rfl ?_
  refine wp_skip ?_
  refine hK2 _ _ ?_
  refine wp_seq_k fun K4 hK4 => ?_
  refine wp_seq_k fun K5 hK5 => ?_
  refine wp_region_list (WL.out ?_)
  refine WL.row (by kernel_rfl) 31 (.tmp 7) rfl d rfl 31 (wtA n v) _ D3.out Try.underlying31 rfl (by rfl) ?_
  simp only [Act.put, List.setIfInBounds_toArray, List.set_cons_zero, List.set_cons_succ]
  refine WL.callF (by kernel_rfl) 35 _ _ rfl Try.in35 #[.agg (wtA n v)] (by simp [Act.eval]) ?_
  refine (formed_any v n ls w3 ((HL.out.below B3.out).mono B3.out.size)).mono ?_
  rintro e w4 ⟨rfl, k1⟩
  refine ⟨_, rfl, ?_⟩
  rw [hfo.out]
  have Q4 := Keep.mk (Q3.out.below k1 Q3.out.lt)
  have D4 := Keep.mk (D3.out.below k1 D3.out.lt)
  have R4 := Keep.mk (R3.out.below k1 R3.out.lt)
  have B4 : Keep (Below w.heap.size w w4) := ⟨B3.out.trans (k1.mono B3.out.size)⟩
  clear k1 Q3 D3 R3 B3
  simp only [Act.put, List.setIfInBounds_toArray, List.set_cons_zero, List.set_cons_succ]
  refine WL.val (by kernel_rfl) (.bool false) (by go_simp) ?_
  simp only [Act.put, List.setIfInBounds_toArray, List.set_cons_zero, List.set_cons_succ]
  refine WL.val (by kernel_rfl) (.bool false) (by go_simp) ?_
  simp only [Act.put, List.setIfInBounds_toArray, List.set_cons_zero, List.set_cons_succ]
  refine WL.row (by kernel_rfl) 31 (.tmp 7) rfl d rfl 31 (wtA n v) _ D4.out Try.underlying31 rfl (by rfl) ?_
  simp only [Act.put, List.setIfInBounds_toArray, List.set_cons_zero, List.set_cons_succ]
  refine WL.val (by kernel_rfl) (.int .i64 kind) (by go_simp) ?_
  simp only [Act.put, List.setIfInBounds_toArray, List.set_cons_zero, List.set_cons_succ]
  refine WL.val (by kernel_rfl) (.string key) (by go_simp) ?_
  simp only [Act.put, List.setIfInBounds_toArray, List.set_cons_zero, List.set_cons_succ]
  refine WL.callF (by kernel_rfl) 36 _ _ rfl Try.in36 #[.agg (wtA n v), .int .i64 kind, .string key] (by simp [Act.eval]) ?_
  refine (answers_any v n kind key ls w4 ((HL.out.below B4.out).mono B4.out.size) hfo.out Hn.out).mono ?_
  rintro e w5 ⟨rfl, k1⟩
  refine ⟨_, rfl, ?_⟩
  rw [han.out]
  have Q5 := Keep.mk (Q4.out.below k1 Q4.out.lt)
  have D5 := Keep.mk (D4.out.below k1 D4.out.lt)
  have R5 := Keep.mk (R4.out.below k1 R4.out.lt)
  have B5 : Keep (Below w.heap.size w w5) := ⟨B4.out.trans (k1.mono B4.out.size)⟩
  clear k1 Q4 D4 R4 B4
  simp only [Act.put, List.setIfInBounds_toArray, List.set_cons_zero, List.set_cons_succ]
  refine WL.val (by kernel_rfl) (.bool true) (by go_simp) ?_
  simp only [Act.put, List.setIfInBounds_toArray, List.set_cons_zero, List.set_cons_succ]
  refine WL.val (by kernel_rfl) (.bool true) (by go_simp) ?_
  simp only [Act.put, List.setIfInBounds_toArray, List.set_cons_zero, List.set_cons_succ]
  refine WL.val (by kernel_rfl) (.bool true) (by go_simp) ?_
  simp only [Act.put, List.setIfInBounds_toArray, List.set_cons_zero, List.set_cons_succ]
  refine WL.skip (by kernel_rfl) ?_
  simp only [Act.put, List.setIfInBounds_toArray, List.set_cons_zero, List.set_cons_succ]
  refine WL.skip (by kernel_rfl) ?_
  simp only [Act.put, List.setIfInBounds_toArray, List.set_cons_zero, List.set_cons_succ]
  refine WL.skip (by kernel_rfl) ?_
  simp only [Act.put, List.setIfInBounds_toArray, List.set_cons_zero, List.set_cons_succ]
  refine WL.skip (by kernel_rfl) ?_
  simp only [Act.put, List.setIfInBounds_toArray, List.set_cons_zero, List.set_cons_succ]
  refine WL.val (by kernel_rfl) (.bool true) (by go_simp) ?_
  simp only [Act.put, List.setIfInBounds_toArray, List.set_cons_zero, List.set_cons_succ]
  refine WL.nil ?_
  refine hK5 _ _ ?_
  refine wp_cond_true rfl ?_
  refine wp_seq_k fun K6 hK6 => ?_
  refine wp_region_list (WL.out ?_)
  refine WL.bld (by kernel_rfl) 40 #[] rfl [] (by simp) #[.int .i64 0, .string ByteArray.empty, .slice none 0 0] bldC ?_
  simp only [Act.put, List.setIfInBounds_toArray, List.set_cons_zero, List.set_cons_succ]
  refine WL.storeR (by kernel_rfl) 40 (.tmp 8) (.tmp 31) rfl r #[.int .i64 0, .string ByteArray.empty, .slice none 0 0] rfl rfl 40 #[.int .i64 0, .string ByteArray.empty, .slice none 0 0] R5.out (Try.sizeC _ _ _) rfl (by simp [Value.oneCell']) ?_
  have R9 := Keep.mk (R5.out.setRow #[.int .i64 0, .string ByteArray.empty, .slice none 0 0])
  have B9 : Keep (Below w.heap.size w (w5.setRow r #[.int .i64 0, .string ByteArray.empty, .slice none 0 0])) := ⟨below_setRow B5.out gr.out _⟩
  generalize w5.setRow r #[.int .i64 0, .string ByteArray.empty, .slice none 0 0] = w9 at *
  simp only [Act.put]
  refine WL.val (by kernel_rfl) (.bool false) (by go_simp) ?_
  simp only [Act.put, List.setIfInBounds_toArray, List.set_cons_zero, List.set_cons_succ]
  refine WL.val (by kernel_rfl) (.int .i64 190) (by go_simp) ?_
  simp only [Act.put, List.setIfInBounds_toArray, List.set_cons_zero, List.set_cons_succ]
  refine WL.nil ?_
  refine hK6 _ _ ?_
  refine wp_ret ?_
  try simp only [Exit.inBlock, Exit.then]
  refine bodyPost_ret (v := .tuple #[.agg #[.int .i64 0, .string ByteArray.empty, .slice none 0 0], .bool false, .int .i64 190]) (results_cell_row3 Try.results15 _ _ r 40 _ (0, 0) _ _ _ rfl rfl rfl R9.out Try.underlying40 rfl (Try.sizeC _ _ _)) rfl ⟨⟨0, ByteArray.empty, .slice none 0 0, []⟩, ?_, .inl ⟨rfl, rfl⟩, B9.out, fun _ => rfl, ?_⟩
  · rw [hE.out, hI.out]; rfl
  · rw [hI.out]; intro y h; cases h
set_option maxRecDepth 8000 in
set_option maxHeartbeats 1000000 in
theorem ck_root (v : Value) (n kind : Int) (key : ByteArray) (ls : List LV) (root : Hs) (w : World) (hL : LsV w.heap.size w v ls) (Hn : Keep (n < 9223372036854775808)) (hSm : SmL ls) (hkm : kmay kind = true) (hfo : Keep (formB n ls = true)) (han : Keep (ansB n ls kind key = true)) (hrt : Keep (rtB n ls root = false)) : Calls Try.prog 15 #[.agg (bytesA 32 root.f), .int .i64 kind, .string key, .agg (wtA n v)] w (CkP root n kind key ls w) := by
  have hE : Keep (chkE root n kind key ls = 190) := ⟨by unfold chkE takB; rw [hkm, hfo.out, han.out, hrt.out]; rfl⟩
  have hI : Keep (chkI root n kind key ls = false) := ⟨by unfold chkI; rw [hE.out]; rfl⟩
  have HL := Keep.mk hL
  have HSm := Keep.mk hSm
  clear hL hSm
  go_enter Try.func15, Try.ntmps15
  refine wp_seq_k fun K1 hK1 => ?_
  refine wp_region_list (WL.out ?_)
  refine WL.box (by kernel_rfl) 25 (.tmp 0) rfl (bytesA 32 root.f) rfl ?_
  have Q1 := Keep.mk (Blk.new w 25 (bytesA 32 root.f))
  have b_ := below_new w (.cells (bytesA 32 root.f) 25)
  change WL _ _ _ _ _ (w.alloc (.cells (bytesA 32 root.f) 25))
  generalize w.alloc (.cells (bytesA 32 root.f) 25) = w1 at *
  obtain ⟨q, hq0⟩ : ∃ z, Keep (z = w.heap.size) := ⟨_, ⟨rfl⟩⟩
  rw [← hq0.out] at Q1 ⊢
  have B1 : Keep (Below w.heap.size w w1) := ⟨b_⟩
  have gq : Keep (w.heap.size ≤ q) := ⟨by rw [hq0.out]; exact Nat.le_refl _⟩
  clear b_
  simp only [Act.put, List.setIfInBounds_toArray, List.set_cons_zero, List.set_cons_succ]
  refine WL.box (by kernel_rfl) 31 (.tmp 3) rfl (wtA n v) rfl ?_
  have D2 := Keep.mk (Blk.new w1 31 (wtA n v))
  have b_ := below_new w1 (.cells (wtA n v) 31)
  change WL _ _ _ _ _ (w1.alloc (.cells (wtA n v) 31))
  generalize w1.alloc (.cells (wtA n v) 31) = w2 at *
  obtain ⟨d, hd0⟩ : ∃ z, Keep (z = w1.heap.size) := ⟨_, ⟨rfl⟩⟩
  rw [← hd0.out] at D2 ⊢
  have Q2 := Keep.mk (Q1.out.below b_ Q1.out.lt)
  have B2 : Keep (Below w.heap.size w w2) := ⟨B1.out.trans (b_.mono B1.out.size)⟩
  have gd : Keep (w.heap.size ≤ d) := ⟨by rw [hd0.out]; exact B1.out.size⟩
  clear b_
  simp only [Act.put, List.setIfInBounds_toArray, List.set_cons_zero, List.set_cons_succ]
  refine WL.new (by kernel_rfl) 40 rfl _ Try.newC ?_
  have R3 := Keep.mk (Blk.new w2 40 #[.int .i64 0, .string ByteArray.empty, .slice none 0 0])
  have b_ := below_new w2 (.cells #[.int .i64 0, .string ByteArray.empty, .slice none 0 0] 40)
  change WL _ _ _ _ _ (w2.alloc (.cells #[.int .i64 0, .string ByteArray.empty, .slice none 0 0] 40))
  generalize w2.alloc (.cells #[.int .i64 0, .string ByteArray.empty, .slice none 0 0] 40) = w3 at *
  obtain ⟨r, hr0⟩ : ∃ z, Keep (z = w2.heap.size) := ⟨_, ⟨rfl⟩⟩
  rw [← hr0.out] at R3 ⊢
  have Q3 := Keep.mk (Q2.out.below b_ Q2.out.lt)
  have D3 := Keep.mk (D2.out.below b_ D2.out.lt)
  have B3 : Keep (Below w.heap.size w w3) := ⟨B2.out.trans (b_.mono B2.out.size)⟩
  have gr : Keep (w.heap.size ≤ r) := ⟨by rw [hr0.out]; exact B2.out.size⟩
  clear b_
  simp only [Act.put, List.setIfInBounds_toArray, List.set_cons_zero, List.set_cons_succ]
  refine WL.val (by kernel_rfl) (.bool false) (by go_simp) ?_
  simp only [Act.put, List.setIfInBounds_toArray, List.set_cons_zero, List.set_cons_succ]
  refine WL.val (by kernel_rfl) (.int .i64 0) (by go_simp) ?_
  simp only [Act.put, List.setIfInBounds_toArray, List.set_cons_zero, List.set_cons_succ]
  refine WL.nil ?_
  refine hK1 _ _ ?_
  refine wp_seq_k fun K2 hK2 => ?_
  refine wp_seq_k fun K3 hK3 => ?_
  refine wp_region_list (WL.out ?_)
  refine WL.val (by kernel_rfl) (.int .i64 kind) (by go_simp) ?_
  simp only [Act.put, List.setIfInBounds_toArray, List.set_cons_zero, List.set_cons_succ]
  refine WL.callF (by kernel_rfl) 28 _ _ rfl Try.in28 #[.int .i64 kind] (by simp [Act.eval]) ?_
  refine (isk_any kind _).mono ?_
  rintro e w1_ ⟨rfl, hw_⟩
  refine ⟨_, rfl, ?_⟩
  have hw_ := hw_.symm
  subst hw_
  rw [hkm]
  simp only [Act.put, List.setIfInBounds_toArray, List.set_cons_zero, List.set_cons_succ]
  refine WL.val (by kernel_rfl) (.bool false) (by go_simp) ?_
  simp only [Act.put, List.setIfInBounds_toArray, List.set_cons_zero, List.set_cons_succ]
  refine WL.nil ?_
  refine hK3 _ _ ?_
  refine wp_cond_false rfl ?_
  refine wp_skip ?_
  refine hK2 _ _ ?_
  refine wp_seq_k fun K4 hK4 => ?_
  refine wp_seq_k fun K5 hK5 => ?_
  refine wp_region_list (WL.out ?_)
  refine WL.row (by kernel_rfl) 31 (.tmp 7) rfl d rfl 31 (wtA n v) _ D3.out Try.underlying31 rfl (by rfl) ?_
  simp only [Act.put, List.setIfInBounds_toArray, List.set_cons_zero, List.set_cons_succ]
  refine WL.callF (by kernel_rfl) 35 _ _ rfl Try.in35 #[.agg (wtA n v)] (by simp [Act.eval]) ?_
  refine (formed_any v n ls w3 ((HL.out.below B3.out).mono B3.out.size)).mono ?_
  rintro e w4 ⟨rfl, k1⟩
  refine ⟨_, rfl, ?_⟩
  rw [hfo.out]
  have Q4 := Keep.mk (Q3.out.below k1 Q3.out.lt)
  have D4 := Keep.mk (D3.out.below k1 D3.out.lt)
  have R4 := Keep.mk (R3.out.below k1 R3.out.lt)
  have B4 : Keep (Below w.heap.size w w4) := ⟨B3.out.trans (k1.mono B3.out.size)⟩
  clear k1 Q3 D3 R3 B3
  simp only [Act.put, List.setIfInBounds_toArray, List.set_cons_zero, List.set_cons_succ]
  refine WL.val (by kernel_rfl) (.bool false) (by go_simp) ?_
  simp only [Act.put, List.setIfInBounds_toArray, List.set_cons_zero, List.set_cons_succ]
  refine WL.val (by kernel_rfl) (.bool false) (by go_simp) ?_
  simp only [Act.put, List.setIfInBounds_toArray, List.set_cons_zero, List.set_cons_succ]
  refine WL.row (by kernel_rfl) 31 (.tmp 7) rfl d rfl 31 (wtA n v) _ D4.out Try.underlying31 rfl (by rfl) ?_
  simp only [Act.put, List.setIfInBounds_toArray, List.set_cons_zero, List.set_cons_succ]
  refine WL.val (by kernel_rfl) (.int .i64 kind) (by go_simp) ?_
  simp only [Act.put, List.setIfInBounds_toArray, List.set_cons_zero, List.set_cons_succ]
  refine WL.val (by kernel_rfl) (.string key) (by go_simp) ?_
  simp only [Act.put, List.setIfInBounds_toArray, List.set_cons_zero, List.set_cons_succ]
  refine WL.callF (by kernel_rfl) 36 _ _ rfl Try.in36 #[.agg (wtA n v), .int .i64 kind, .string key] (by simp [Act.eval]) ?_
  refine (answers_any v n kind key ls w4 ((HL.out.below B4.out).mono B4.out.size) hfo.out Hn.out).mono ?_
  rintro e w5 ⟨rfl, k1⟩
  refine ⟨_, rfl, ?_⟩
  rw [han.out]
  have Q5 := Keep.mk (Q4.out.below k1 Q4.out.lt)
  have D5 := Keep.mk (D4.out.below k1 D4.out.lt)
  have R5 := Keep.mk (R4.out.below k1 R4.out.lt)
  have B5 : Keep (Below w.heap.size w w5) := ⟨B4.out.trans (k1.mono B4.out.size)⟩
  clear k1 Q4 D4 R4 B4
  simp only [Act.put, List.setIfInBounds_toArray, List.set_cons_zero, List.set_cons_succ]
  refine WL.val (by kernel_rfl) (.bool false) (by go_simp) ?_
  simp only [Act.put, List.setIfInBounds_toArray, List.set_cons_zero, List.set_cons_succ]
  refine WL.val (by kernel_rfl) (.bool false) (by go_simp) ?_
  simp only [Act.put, List.setIfInBounds_toArray, List.set_cons_zero, List.set_cons_succ]
  refine WL.val (by kernel_rfl) (.bool false) (by go_simp) ?_
  simp only [Act.put, List.setIfInBounds_toArray, List.set_cons_zero, List.set_cons_succ]
  refine WL.row (by kernel_rfl) 31 (.tmp 7) rfl d rfl 31 (wtA n v) _ D5.out Try.underlying31 rfl (by rfl) ?_
  simp only [Act.put, List.setIfInBounds_toArray, List.set_cons_zero, List.set_cons_succ]
  refine WL.row (by kernel_rfl) 25 (.tmp 4) rfl q rfl 25 (bytesA 32 root.f) _ Q5.out Try.underlying25 rfl (Try.size25B _) ?_
  simp only [Act.put, List.setIfInBounds_toArray, List.set_cons_zero, List.set_cons_succ]
  refine WL.callF (by kernel_rfl) 37 _ _ rfl Try.in37 #[.agg (wtA n v), .agg (bytesA 32 root.f)] (by simp [Act.eval]) ?_
  refine (rooted_any v n ls root w5 ((HL.out.below B5.out).mono B5.out.size) hfo.out Hn.out HSm.out).mono ?_
  rintro e w6 ⟨rfl, k1⟩
  refine ⟨_, rfl, ?_⟩
  rw [hrt.out]
  have Q6 := Keep.mk (Q5.out.below k1 Q5.out.lt)
  have D6 := Keep.mk (D5.out.below k1 D5.out.lt)
  have R6 := Keep.mk (R5.out.below k1 R5.out.lt)
  have B6 : Keep (Below w.heap.size w w6) := ⟨B5.out.trans (k1.mono B5.out.size)⟩
  clear k1 Q5 D5 R5 B5
  simp only [Act.put, List.setIfInBounds_toArray, List.set_cons_zero, List.set_cons_succ]
  refine WL.val (by kernel_rfl) (.bool true) (by go_simp) ?_
  simp only [Act.put, List.setIfInBounds_toArray, List.set_cons_zero, List.set_cons_succ]
  refine WL.val (by kernel_rfl) (.bool true) (by go_simp) ?_
  simp only [Act.put, List.setIfInBounds_toArray, List.set_cons_zero, List.set_cons_succ]
  refine WL.nil ?_
  refine hK5 _ _ ?_
  refine wp_cond_true rfl ?_
  refine wp_seq_k fun K6 hK6 => ?_
  refine wp_region_list (WL.out ?_)
  refine WL.bld (by kernel_rfl) 40 #[] rfl [] (by simp) #[.int .i64 0, .string ByteArray.empty, .slice none 0 0] bldC ?_
  simp only [Act.put, List.setIfInBounds_toArray, List.set_cons_zero, List.set_cons_succ]
  refine WL.storeR (by kernel_rfl) 40 (.tmp 8) (.tmp 31) rfl r #[.int .i64 0, .string ByteArray.empty, .slice none 0 0] rfl rfl 40 #[.int .i64 0, .string ByteArray.empty, .slice none 0 0] R6.out (Try.sizeC _ _ _) rfl (by simp [Value.oneCell']) ?_
  have R9 := Keep.mk (R6.out.setRow #[.int .i64 0, .string ByteArray.empty, .slice none 0 0])
  have B9 : Keep (Below w.heap.size w (w6.setRow r #[.int .i64 0, .string ByteArray.empty, .slice none 0 0])) := ⟨below_setRow B6.out gr.out _⟩
  generalize w6.setRow r #[.int .i64 0, .string ByteArray.empty, .slice none 0 0] = w9 at *
  simp only [Act.put]
  refine WL.val (by kernel_rfl) (.bool false) (by go_simp) ?_
  simp only [Act.put, List.setIfInBounds_toArray, List.set_cons_zero, List.set_cons_succ]
  refine WL.val (by kernel_rfl) (.int .i64 190) (by go_simp) ?_
  simp only [Act.put, List.setIfInBounds_toArray, List.set_cons_zero, List.set_cons_succ]
  refine WL.nil ?_
  refine hK6 _ _ ?_
  refine wp_ret ?_
  try simp only [Exit.inBlock, Exit.then]
  refine bodyPost_ret (v := .tuple #[.agg #[.int .i64 0, .string ByteArray.empty, .slice none 0 0], .bool false, .int .i64 190]) (results_cell_row3 Try.results15 _ _ r 40 _ (0, 0) _ _ _ rfl rfl rfl R9.out Try.underlying40 rfl (Try.sizeC _ _ _)) rfl ⟨⟨0, ByteArray.empty, .slice none 0 0, []⟩, ?_, .inl ⟨rfl, rfl⟩, B9.out, fun _ => rfl, ?_⟩
  · rw [hE.out, hI.out]; rfl
  · rw [hI.out]; intro y h; cases h
set_option maxRecDepth 8000 in
set_option maxHeartbeats 1000000 in
theorem ck_no (v : Value) (n kind : Int) (key : ByteArray) (ls : List LV) (root : Hs) (w : World) (hL : LsV w.heap.size w v ls) (Hn : Keep (n < 9223372036854775808)) (hSm : SmL ls) (hkm : kmay kind = true) (hfo : Keep (formB n ls = true)) (han : Keep (ansB n ls kind key = true)) (hrt : Keep (rtB n ls root = true)) (hte : Keep (tellB ls kind key = false)) : Calls Try.prog 15 #[.agg (bytesA 32 root.f), .int .i64 kind, .string key, .agg (wtA n v)] w (CkP root n kind key ls w) := by
  have hE : Keep (chkE root n kind key ls = 0) := ⟨by unfold chkE takB; rw [hkm, hfo.out, han.out, hrt.out]; rfl⟩
  have hI : Keep (chkI root n kind key ls = false) := ⟨by unfold chkI; rw [hE.out]; rw [hte.out]; rfl⟩
  have HL := Keep.mk hL
  have HSm := Keep.mk hSm
  clear hL hSm
  go_enter Try.func15, Try.ntmps15
  refine wp_seq_k fun K1 hK1 => ?_
  refine wp_region_list (WL.out ?_)
  refine WL.box (by kernel_rfl) 25 (.tmp 0) rfl (bytesA 32 root.f) rfl ?_
  have Q1 := Keep.mk (Blk.new w 25 (bytesA 32 root.f))
  have b_ := below_new w (.cells (bytesA 32 root.f) 25)
  change WL _ _ _ _ _ (w.alloc (.cells (bytesA 32 root.f) 25))
  generalize w.alloc (.cells (bytesA 32 root.f) 25) = w1 at *
  obtain ⟨q, hq0⟩ : ∃ z, Keep (z = w.heap.size) := ⟨_, ⟨rfl⟩⟩
  rw [← hq0.out] at Q1 ⊢
  have B1 : Keep (Below w.heap.size w w1) := ⟨b_⟩
  have gq : Keep (w.heap.size ≤ q) := ⟨by rw [hq0.out]; exact Nat.le_refl _⟩
  clear b_
  simp only [Act.put, List.setIfInBounds_toArray, List.set_cons_zero, List.set_cons_succ]
  refine WL.box (by kernel_rfl) 31 (.tmp 3) rfl (wtA n v) rfl ?_
  have D2 := Keep.mk (Blk.new w1 31 (wtA n v))
  have b_ := below_new w1 (.cells (wtA n v) 31)
  change WL _ _ _ _ _ (w1.alloc (.cells (wtA n v) 31))
  generalize w1.alloc (.cells (wtA n v) 31) = w2 at *
  obtain ⟨d, hd0⟩ : ∃ z, Keep (z = w1.heap.size) := ⟨_, ⟨rfl⟩⟩
  rw [← hd0.out] at D2 ⊢
  have Q2 := Keep.mk (Q1.out.below b_ Q1.out.lt)
  have B2 : Keep (Below w.heap.size w w2) := ⟨B1.out.trans (b_.mono B1.out.size)⟩
  have gd : Keep (w.heap.size ≤ d) := ⟨by rw [hd0.out]; exact B1.out.size⟩
  clear b_
  simp only [Act.put, List.setIfInBounds_toArray, List.set_cons_zero, List.set_cons_succ]
  refine WL.new (by kernel_rfl) 40 rfl _ Try.newC ?_
  have R3 := Keep.mk (Blk.new w2 40 #[.int .i64 0, .string ByteArray.empty, .slice none 0 0])
  have b_ := below_new w2 (.cells #[.int .i64 0, .string ByteArray.empty, .slice none 0 0] 40)
  change WL _ _ _ _ _ (w2.alloc (.cells #[.int .i64 0, .string ByteArray.empty, .slice none 0 0] 40))
  generalize w2.alloc (.cells #[.int .i64 0, .string ByteArray.empty, .slice none 0 0] 40) = w3 at *
  obtain ⟨r, hr0⟩ : ∃ z, Keep (z = w2.heap.size) := ⟨_, ⟨rfl⟩⟩
  rw [← hr0.out] at R3 ⊢
  have Q3 := Keep.mk (Q2.out.below b_ Q2.out.lt)
  have D3 := Keep.mk (D2.out.below b_ D2.out.lt)
  have B3 : Keep (Below w.heap.size w w3) := ⟨B2.out.trans (b_.mono B2.out.size)⟩
  have gr : Keep (w.heap.size ≤ r) := ⟨by rw [hr0.out]; exact B2.out.size⟩
  clear b_
  simp only [Act.put, List.setIfInBounds_toArray, List.set_cons_zero, List.set_cons_succ]
  refine WL.val (by kernel_rfl) (.bool false) (by go_simp) ?_
  simp only [Act.put, List.setIfInBounds_toArray, List.set_cons_zero, List.set_cons_succ]
  refine WL.val (by kernel_rfl) (.int .i64 0) (by go_simp) ?_
  simp only [Act.put, List.setIfInBounds_toArray, List.set_cons_zero, List.set_cons_succ]
  refine WL.nil ?_
  refine hK1 _ _ ?_
  refine wp_seq_k fun K2 hK2 => ?_
  refine wp_seq_k fun K3 hK3 => ?_
  refine wp_region_list (WL.out ?_)
  refine WL.val (by kernel_rfl) (.int .i64 kind) (by go_simp) ?_
  simp only [Act.put, List.setIfInBounds_toArray, List.set_cons_zero, List.set_cons_succ]
  refine WL.callF (by kernel_rfl) 28 _ _ rfl Try.in28 #[.int .i64 kind] (by simp [Act.eval]) ?_
  refine (isk_any kind _).mono ?_
  rintro e w1_ ⟨rfl, hw_⟩
  refine ⟨_, rfl, ?_⟩
  have hw_ := hw_.symm
  subst hw_
  rw [hkm]
  simp only [Act.put, List.setIfInBounds_toArray, List.set_cons_zero, List.set_cons_succ]
  refine WL.val (by kernel_rfl) (.bool false) (by go_simp) ?_
  simp only [Act.put, List.setIfInBounds_toArray, List.set_cons_zero, List.set_cons_succ]
  refine WL.nil ?_
  refine hK3 _ _ ?_
  refine wp_cond_false rfl ?_
  refine wp_skip ?_
  refine hK2 _ _ ?_
  refine wp_seq_k fun K4 hK4 => ?_
  refine wp_seq_k fun K5 hK5 => ?_
  refine wp_region_list (WL.out ?_)
  refine WL.row (by kernel_rfl) 31 (.tmp 7) rfl d rfl 31 (wtA n v) _ D3.out Try.underlying31 rfl (by rfl) ?_
  simp only [Act.put, List.setIfInBounds_toArray, List.set_cons_zero, List.set_cons_succ]
  refine WL.callF (by kernel_rfl) 35 _ _ rfl Try.in35 #[.agg (wtA n v)] (by simp [Act.eval]) ?_
  refine (formed_any v n ls w3 ((HL.out.below B3.out).mono B3.out.size)).mono ?_
  rintro e w4 ⟨rfl, k1⟩
  refine ⟨_, rfl, ?_⟩
  rw [hfo.out]
  have Q4 := Keep.mk (Q3.out.below k1 Q3.out.lt)
  have D4 := Keep.mk (D3.out.below k1 D3.out.lt)
  have R4 := Keep.mk (R3.out.below k1 R3.out.lt)
  have B4 : Keep (Below w.heap.size w w4) := ⟨B3.out.trans (k1.mono B3.out.size)⟩
  clear k1 Q3 D3 R3 B3
  simp only [Act.put, List.setIfInBounds_toArray, List.set_cons_zero, List.set_cons_succ]
  refine WL.val (by kernel_rfl) (.bool false) (by go_simp) ?_
  simp only [Act.put, List.setIfInBounds_toArray, List.set_cons_zero, List.set_cons_succ]
  refine WL.val (by kernel_rfl) (.bool false) (by go_simp) ?_
  simp only [Act.put, List.setIfInBounds_toArray, List.set_cons_zero, List.set_cons_succ]
  refine WL.row (by kernel_rfl) 31 (.tmp 7) rfl d rfl 31 (wtA n v) _ D4.out Try.underlying31 rfl (by rfl) ?_
  simp only [Act.put, List.setIfInBounds_toArray, List.set_cons_zero, List.set_cons_succ]
  refine WL.val (by kernel_rfl) (.int .i64 kind) (by go_simp) ?_
  simp only [Act.put, List.setIfInBounds_toArray, List.set_cons_zero, List.set_cons_succ]
  refine WL.val (by kernel_rfl) (.string key) (by go_simp) ?_
  simp only [Act.put, List.setIfInBounds_toArray, List.set_cons_zero, List.set_cons_succ]
  refine WL.callF (by kernel_rfl) 36 _ _ rfl Try.in36 #[.agg (wtA n v), .int .i64 kind, .string key] (by simp [Act.eval]) ?_
  refine (answers_any v n kind key ls w4 ((HL.out.below B4.out).mono B4.out.size) hfo.out Hn.out).mono ?_
  rintro e w5 ⟨rfl, k1⟩
  refine ⟨_, rfl, ?_⟩
  rw [han.out]
  have Q5 := Keep.mk (Q4.out.below k1 Q4.out.lt)
  have D5 := Keep.mk (D4.out.below k1 D4.out.lt)
  have R5 := Keep.mk (R4.out.below k1 R4.out.lt)
  have B5 : Keep (Below w.heap.size w w5) := ⟨B4.out.trans (k1.mono B4.out.size)⟩
  clear k1 Q4 D4 R4 B4
  simp only [Act.put, List.setIfInBounds_toArray, List.set_cons_zero, List.set_cons_succ]
  refine WL.val (by kernel_rfl) (.bool false) (by go_simp) ?_
  simp only [Act.put, List.setIfInBounds_toArray, List.set_cons_zero, List.set_cons_succ]
  refine WL.val (by kernel_rfl) (.bool false) (by go_simp) ?_
  simp only [Act.put, List.setIfInBounds_toArray, List.set_cons_zero, List.set_cons_succ]
  refine WL.val (by kernel_rfl) (.bool false) (by go_simp) ?_
  simp only [Act.put, List.setIfInBounds_toArray, List.set_cons_zero, List.set_cons_succ]
  refine WL.row (by kernel_rfl) 31 (.tmp 7) rfl d rfl 31 (wtA n v) _ D5.out Try.underlying31 rfl (by rfl) ?_
  simp only [Act.put, List.setIfInBounds_toArray, List.set_cons_zero, List.set_cons_succ]
  refine WL.row (by kernel_rfl) 25 (.tmp 4) rfl q rfl 25 (bytesA 32 root.f) _ Q5.out Try.underlying25 rfl (Try.size25B _) ?_
  simp only [Act.put, List.setIfInBounds_toArray, List.set_cons_zero, List.set_cons_succ]
  refine WL.callF (by kernel_rfl) 37 _ _ rfl Try.in37 #[.agg (wtA n v), .agg (bytesA 32 root.f)] (by simp [Act.eval]) ?_
  refine (rooted_any v n ls root w5 ((HL.out.below B5.out).mono B5.out.size) hfo.out Hn.out HSm.out).mono ?_
  rintro e w6 ⟨rfl, k1⟩
  refine ⟨_, rfl, ?_⟩
  rw [hrt.out]
  have Q6 := Keep.mk (Q5.out.below k1 Q5.out.lt)
  have D6 := Keep.mk (D5.out.below k1 D5.out.lt)
  have R6 := Keep.mk (R5.out.below k1 R5.out.lt)
  have B6 : Keep (Below w.heap.size w w6) := ⟨B5.out.trans (k1.mono B5.out.size)⟩
  clear k1 Q5 D5 R5 B5
  simp only [Act.put, List.setIfInBounds_toArray, List.set_cons_zero, List.set_cons_succ]
  refine WL.val (by kernel_rfl) (.bool false) (by go_simp) ?_
  simp only [Act.put, List.setIfInBounds_toArray, List.set_cons_zero, List.set_cons_succ]
  refine WL.val (by kernel_rfl) (.bool false) (by go_simp) ?_
  simp only [Act.put, List.setIfInBounds_toArray, List.set_cons_zero, List.set_cons_succ]
  refine WL.nil ?_
  refine hK5 _ _ ?_
  refine wp_cond_false rfl ?_
  refine wp_skip ?_
  refine hK4 _ _ ?_
  refine wp_seq_k fun K6 hK6 => ?_
  refine wp_seq_k fun K7 hK7 => ?_
  refine wp_region_list (WL.out ?_)
  refine WL.row (by kernel_rfl) 31 (.tmp 7) rfl d rfl 31 (wtA n v) _ D6.out Try.underlying31 rfl (by rfl) ?_
  simp only [Act.put, List.setIfInBounds_toArray, List.set_cons_zero, List.set_cons_succ]
  refine WL.val (by kernel_rfl) (.int .i64 kind) (by go_simp) ?_
  simp only [Act.put, List.setIfInBounds_toArray, List.set_cons_zero, List.set_cons_succ]
  refine WL.val (by kernel_rfl) (.string key) (by go_simp) ?_
  simp only [Act.put, List.setIfInBounds_toArray, List.set_cons_zero, List.set_cons_succ]
  refine WL.callF (by kernel_rfl) 38 _ _ rfl Try.in38 #[.agg (wtA n v), .int .i64 kind, .string key] (by simp [Act.eval]) ?_
  refine (tell_any v n kind key ls w6 ((HL.out.below B6.out).mono B6.out.size)).mono ?_
  rintro e w7 ⟨rfl, k1⟩
  refine ⟨_, rfl, ?_⟩
  rw [hte.out]
  have Q7 := Keep.mk (Q6.out.below k1 Q6.out.lt)
  have D7 := Keep.mk (D6.out.below k1 D6.out.lt)
  have R7 := Keep.mk (R6.out.below k1 R6.out.lt)
  have B7 : Keep (Below w.heap.size w w7) := ⟨B6.out.trans (k1.mono B6.out.size)⟩
  clear k1 Q6 D6 R6 B6
  simp only [Act.put, List.setIfInBounds_toArray, List.set_cons_zero, List.set_cons_succ]
  refine WL.val (by kernel_rfl) (.bool true) (by go_simp) ?_
  simp only [Act.put, List.setIfInBounds_toArray, List.set_cons_zero, List.set_cons_succ]
  refine WL.nil ?_
  refine hK7 _ _ ?_
  refine wp_cond_true rfl ?_
  refine wp_seq_k fun K8 hK8 => ?_
  refine wp_region_list (WL.out ?_)
  refine WL.bld (by kernel_rfl) 40 #[] rfl [] (by simp) #[.int .i64 0, .string ByteArray.empty, .slice none 0 0] bldC ?_
  simp only [Act.put, List.setIfInBounds_toArray, List.set_cons_zero, List.set_cons_succ]
  refine WL.storeR (by kernel_rfl) 40 (.tmp 8) (.tmp 37) rfl r #[.int .i64 0, .string ByteArray.empty, .slice none 0 0] rfl rfl 40 #[.int .i64 0, .string ByteArray.empty, .slice none 0 0] R7.out (Try.sizeC _ _ _) rfl (by simp [Value.oneCell']) ?_
  have R9 := Keep.mk (R7.out.setRow #[.int .i64 0, .string ByteArray.empty, .slice none 0 0])
  have B9 : Keep (Below w.heap.size w (w7.setRow r #[.int .i64 0, .string ByteArray.empty, .slice none 0 0])) := ⟨below_setRow B7.out gr.out _⟩
  generalize w7.setRow r #[.int .i64 0, .string ByteArray.empty, .slice none 0 0] = w9 at *
  simp only [Act.put]
  refine WL.val (by kernel_rfl) (.bool false) (by go_simp) ?_
  simp only [Act.put, List.setIfInBounds_toArray, List.set_cons_zero, List.set_cons_succ]
  refine WL.val (by kernel_rfl) (.int .i64 0) (by go_simp) ?_
  simp only [Act.put, List.setIfInBounds_toArray, List.set_cons_zero, List.set_cons_succ]
  refine WL.nil ?_
  refine hK8 _ _ ?_
  refine wp_ret ?_
  try simp only [Exit.inBlock, Exit.then]
  refine bodyPost_ret (v := .tuple #[.agg #[.int .i64 0, .string ByteArray.empty, .slice none 0 0], .bool false, .int .i64 0]) (results_cell_row3 Try.results15 _ _ r 40 _ (0, 0) _ _ _ rfl rfl rfl R9.out Try.underlying40 rfl (Try.sizeC _ _ _)) rfl ⟨⟨0, ByteArray.empty, .slice none 0 0, []⟩, ?_, .inl ⟨rfl, rfl⟩, B9.out, fun _ => rfl, ?_⟩
  · rw [hE.out, hI.out]; rfl
  · rw [hI.out]; intro y h; cases h
set_option maxRecDepth 8000 in
set_option maxHeartbeats 1000000 in
theorem ck_yes (v : Value) (n kind : Int) (key : ByteArray) (ls : List LV) (root : Hs) (w : World) (hL : LsV w.heap.size w v ls) (Hn : Keep (n < 9223372036854775808)) (hSm : SmL ls) (hkm : kmay kind = true) (hfo : Keep (formB n ls = true)) (han : Keep (ansB n ls kind key = true)) (hrt : Keep (rtB n ls root = true)) (hte : Keep (tellB ls kind key = true)) (x : LV) (hls : Keep (ls = [x])) (b off cap : Nat) (hv : Keep (v = .slice (some ⟨b, off, none⟩) 1 cap)) (HRx : Keep (∀ wx, Below w.heap.size w wx → wx.rangeAt b off (lvA x).toList)) (HLx : Keep (∀ wx, Below w.heap.size w wx → RowAt wx x.c.v x.c.l)) (HSz : Keep (x.c.l.length ≤ 140737488355328)) : Calls Try.prog 15 #[.agg (bytesA 32 root.f), .int .i64 kind, .string key, .agg (wtA n v)] w (CkP root n kind key ls w) := by
  have hE : Keep (chkE root n kind key ls = 0) := ⟨by unfold chkE takB; rw [hkm, hfo.out, han.out, hrt.out]; rfl⟩
  have hI : Keep (chkI root n kind key ls = true) := ⟨by unfold chkI; rw [hE.out]; rw [hte.out]; rfl⟩
  have HL := Keep.mk hL
  have HSm := Keep.mk hSm
  clear hL hSm
  go_enter Try.func15, Try.ntmps15
  refine wp_seq_k fun K1 hK1 => ?_
  refine wp_region_list (WL.out ?_)
  refine WL.box (by kernel_rfl) 25 (.tmp 0) rfl (bytesA 32 root.f) rfl ?_
  have Q1 := Keep.mk (Blk.new w 25 (bytesA 32 root.f))
  have b_ := below_new w (.cells (bytesA 32 root.f) 25)
  change WL _ _ _ _ _ (w.alloc (.cells (bytesA 32 root.f) 25))
  generalize w.alloc (.cells (bytesA 32 root.f) 25) = w1 at *
  obtain ⟨q, hq0⟩ : ∃ z, Keep (z = w.heap.size) := ⟨_, ⟨rfl⟩⟩
  rw [← hq0.out] at Q1 ⊢
  have B1 : Keep (Below w.heap.size w w1) := ⟨b_⟩
  have gq : Keep (w.heap.size ≤ q) := ⟨by rw [hq0.out]; exact Nat.le_refl _⟩
  clear b_
  simp only [Act.put, List.setIfInBounds_toArray, List.set_cons_zero, List.set_cons_succ]
  refine WL.box (by kernel_rfl) 31 (.tmp 3) rfl (wtA n v) rfl ?_
  have D2 := Keep.mk (Blk.new w1 31 (wtA n v))
  have b_ := below_new w1 (.cells (wtA n v) 31)
  change WL _ _ _ _ _ (w1.alloc (.cells (wtA n v) 31))
  generalize w1.alloc (.cells (wtA n v) 31) = w2 at *
  obtain ⟨d, hd0⟩ : ∃ z, Keep (z = w1.heap.size) := ⟨_, ⟨rfl⟩⟩
  rw [← hd0.out] at D2 ⊢
  have Q2 := Keep.mk (Q1.out.below b_ Q1.out.lt)
  have B2 : Keep (Below w.heap.size w w2) := ⟨B1.out.trans (b_.mono B1.out.size)⟩
  have gd : Keep (w.heap.size ≤ d) := ⟨by rw [hd0.out]; exact B1.out.size⟩
  clear b_
  simp only [Act.put, List.setIfInBounds_toArray, List.set_cons_zero, List.set_cons_succ]
  refine WL.new (by kernel_rfl) 40 rfl _ Try.newC ?_
  have R3 := Keep.mk (Blk.new w2 40 #[.int .i64 0, .string ByteArray.empty, .slice none 0 0])
  have b_ := below_new w2 (.cells #[.int .i64 0, .string ByteArray.empty, .slice none 0 0] 40)
  change WL _ _ _ _ _ (w2.alloc (.cells #[.int .i64 0, .string ByteArray.empty, .slice none 0 0] 40))
  generalize w2.alloc (.cells #[.int .i64 0, .string ByteArray.empty, .slice none 0 0] 40) = w3 at *
  obtain ⟨r, hr0⟩ : ∃ z, Keep (z = w2.heap.size) := ⟨_, ⟨rfl⟩⟩
  rw [← hr0.out] at R3 ⊢
  have Q3 := Keep.mk (Q2.out.below b_ Q2.out.lt)
  have D3 := Keep.mk (D2.out.below b_ D2.out.lt)
  have B3 : Keep (Below w.heap.size w w3) := ⟨B2.out.trans (b_.mono B2.out.size)⟩
  have gr : Keep (w.heap.size ≤ r) := ⟨by rw [hr0.out]; exact B2.out.size⟩
  clear b_
  simp only [Act.put, List.setIfInBounds_toArray, List.set_cons_zero, List.set_cons_succ]
  refine WL.val (by kernel_rfl) (.bool false) (by go_simp) ?_
  simp only [Act.put, List.setIfInBounds_toArray, List.set_cons_zero, List.set_cons_succ]
  refine WL.val (by kernel_rfl) (.int .i64 0) (by go_simp) ?_
  simp only [Act.put, List.setIfInBounds_toArray, List.set_cons_zero, List.set_cons_succ]
  refine WL.nil ?_
  refine hK1 _ _ ?_
  refine wp_seq_k fun K2 hK2 => ?_
  refine wp_seq_k fun K3 hK3 => ?_
  refine wp_region_list (WL.out ?_)
  refine WL.val (by kernel_rfl) (.int .i64 kind) (by go_simp) ?_
  simp only [Act.put, List.setIfInBounds_toArray, List.set_cons_zero, List.set_cons_succ]
  refine WL.callF (by kernel_rfl) 28 _ _ rfl Try.in28 #[.int .i64 kind] (by simp [Act.eval]) ?_
  refine (isk_any kind _).mono ?_
  rintro e w1_ ⟨rfl, hw_⟩
  refine ⟨_, rfl, ?_⟩
  have hw_ := hw_.symm
  subst hw_
  rw [hkm]
  simp only [Act.put, List.setIfInBounds_toArray, List.set_cons_zero, List.set_cons_succ]
  refine WL.val (by kernel_rfl) (.bool false) (by go_simp) ?_
  simp only [Act.put, List.setIfInBounds_toArray, List.set_cons_zero, List.set_cons_succ]
  refine WL.nil ?_
  refine hK3 _ _ ?_
  refine wp_cond_false rfl ?_
  refine wp_skip ?_
  refine hK2 _ _ ?_
  refine wp_seq_k fun K4 hK4 => ?_
  refine wp_seq_k fun K5 hK5 => ?_
  refine wp_region_list (WL.out ?_)
  refine WL.row (by kernel_rfl) 31 (.tmp 7) rfl d rfl 31 (wtA n v) _ D3.out Try.underlying31 rfl (by rfl) ?_
  simp only [Act.put, List.setIfInBounds_toArray, List.set_cons_zero, List.set_cons_succ]
  refine WL.callF (by kernel_rfl) 35 _ _ rfl Try.in35 #[.agg (wtA n v)] (by simp [Act.eval]) ?_
  refine (formed_any v n ls w3 ((HL.out.below B3.out).mono B3.out.size)).mono ?_
  rintro e w4 ⟨rfl, k1⟩
  refine ⟨_, rfl, ?_⟩
  rw [hfo.out]
  have Q4 := Keep.mk (Q3.out.below k1 Q3.out.lt)
  have D4 := Keep.mk (D3.out.below k1 D3.out.lt)
  have R4 := Keep.mk (R3.out.below k1 R3.out.lt)
  have B4 : Keep (Below w.heap.size w w4) := ⟨B3.out.trans (k1.mono B3.out.size)⟩
  clear k1 Q3 D3 R3 B3
  simp only [Act.put, List.setIfInBounds_toArray, List.set_cons_zero, List.set_cons_succ]
  refine WL.val (by kernel_rfl) (.bool false) (by go_simp) ?_
  simp only [Act.put, List.setIfInBounds_toArray, List.set_cons_zero, List.set_cons_succ]
  refine WL.val (by kernel_rfl) (.bool false) (by go_simp) ?_
  simp only [Act.put, List.setIfInBounds_toArray, List.set_cons_zero, List.set_cons_succ]
  refine WL.row (by kernel_rfl) 31 (.tmp 7) rfl d rfl 31 (wtA n v) _ D4.out Try.underlying31 rfl (by rfl) ?_
  simp only [Act.put, List.setIfInBounds_toArray, List.set_cons_zero, List.set_cons_succ]
  refine WL.val (by kernel_rfl) (.int .i64 kind) (by go_simp) ?_
  simp only [Act.put, List.setIfInBounds_toArray, List.set_cons_zero, List.set_cons_succ]
  refine WL.val (by kernel_rfl) (.string key) (by go_simp) ?_
  simp only [Act.put, List.setIfInBounds_toArray, List.set_cons_zero, List.set_cons_succ]
  refine WL.callF (by kernel_rfl) 36 _ _ rfl Try.in36 #[.agg (wtA n v), .int .i64 kind, .string key] (by simp [Act.eval]) ?_
  refine (answers_any v n kind key ls w4 ((HL.out.below B4.out).mono B4.out.size) hfo.out Hn.out).mono ?_
  rintro e w5 ⟨rfl, k1⟩
  refine ⟨_, rfl, ?_⟩
  rw [han.out]
  have Q5 := Keep.mk (Q4.out.below k1 Q4.out.lt)
  have D5 := Keep.mk (D4.out.below k1 D4.out.lt)
  have R5 := Keep.mk (R4.out.below k1 R4.out.lt)
  have B5 : Keep (Below w.heap.size w w5) := ⟨B4.out.trans (k1.mono B4.out.size)⟩
  clear k1 Q4 D4 R4 B4
  simp only [Act.put, List.setIfInBounds_toArray, List.set_cons_zero, List.set_cons_succ]
  refine WL.val (by kernel_rfl) (.bool false) (by go_simp) ?_
  simp only [Act.put, List.setIfInBounds_toArray, List.set_cons_zero, List.set_cons_succ]
  refine WL.val (by kernel_rfl) (.bool false) (by go_simp) ?_
  simp only [Act.put, List.setIfInBounds_toArray, List.set_cons_zero, List.set_cons_succ]
  refine WL.val (by kernel_rfl) (.bool false) (by go_simp) ?_
  simp only [Act.put, List.setIfInBounds_toArray, List.set_cons_zero, List.set_cons_succ]
  refine WL.row (by kernel_rfl) 31 (.tmp 7) rfl d rfl 31 (wtA n v) _ D5.out Try.underlying31 rfl (by rfl) ?_
  simp only [Act.put, List.setIfInBounds_toArray, List.set_cons_zero, List.set_cons_succ]
  refine WL.row (by kernel_rfl) 25 (.tmp 4) rfl q rfl 25 (bytesA 32 root.f) _ Q5.out Try.underlying25 rfl (Try.size25B _) ?_
  simp only [Act.put, List.setIfInBounds_toArray, List.set_cons_zero, List.set_cons_succ]
  refine WL.callF (by kernel_rfl) 37 _ _ rfl Try.in37 #[.agg (wtA n v), .agg (bytesA 32 root.f)] (by simp [Act.eval]) ?_
  refine (rooted_any v n ls root w5 ((HL.out.below B5.out).mono B5.out.size) hfo.out Hn.out HSm.out).mono ?_
  rintro e w6 ⟨rfl, k1⟩
  refine ⟨_, rfl, ?_⟩
  rw [hrt.out]
  have Q6 := Keep.mk (Q5.out.below k1 Q5.out.lt)
  have D6 := Keep.mk (D5.out.below k1 D5.out.lt)
  have R6 := Keep.mk (R5.out.below k1 R5.out.lt)
  have B6 : Keep (Below w.heap.size w w6) := ⟨B5.out.trans (k1.mono B5.out.size)⟩
  clear k1 Q5 D5 R5 B5
  simp only [Act.put, List.setIfInBounds_toArray, List.set_cons_zero, List.set_cons_succ]
  refine WL.val (by kernel_rfl) (.bool false) (by go_simp) ?_
  simp only [Act.put, List.setIfInBounds_toArray, List.set_cons_zero, List.set_cons_succ]
  refine WL.val (by kernel_rfl) (.bool false) (by go_simp) ?_
  simp only [Act.put, List.setIfInBounds_toArray, List.set_cons_zero, List.set_cons_succ]
  refine WL.nil ?_
  refine hK5 _ _ ?_
  refine wp_cond_false rfl ?_
  refine wp_skip ?_
  refine hK4 _ _ ?_
  refine wp_seq_k fun K6 hK6 => ?_
  refine wp_seq_k fun K7 hK7 => ?_
  refine wp_region_list (WL.out ?_)
  refine WL.row (by kernel_rfl) 31 (.tmp 7) rfl d rfl 31 (wtA n v) _ D6.out Try.underlying31 rfl (by rfl) ?_
  simp only [Act.put, List.setIfInBounds_toArray, List.set_cons_zero, List.set_cons_succ]
  refine WL.val (by kernel_rfl) (.int .i64 kind) (by go_simp) ?_
  simp only [Act.put, List.setIfInBounds_toArray, List.set_cons_zero, List.set_cons_succ]
  refine WL.val (by kernel_rfl) (.string key) (by go_simp) ?_
  simp only [Act.put, List.setIfInBounds_toArray, List.set_cons_zero, List.set_cons_succ]
  refine WL.callF (by kernel_rfl) 38 _ _ rfl Try.in38 #[.agg (wtA n v), .int .i64 kind, .string key] (by simp [Act.eval]) ?_
  refine (tell_any v n kind key ls w6 ((HL.out.below B6.out).mono B6.out.size)).mono ?_
  rintro e w7 ⟨rfl, k1⟩
  refine ⟨_, rfl, ?_⟩
  rw [hte.out]
  have Q7 := Keep.mk (Q6.out.below k1 Q6.out.lt)
  have D7 := Keep.mk (D6.out.below k1 D6.out.lt)
  have R7 := Keep.mk (R6.out.below k1 R6.out.lt)
  have B7 : Keep (Below w.heap.size w w7) := ⟨B6.out.trans (k1.mono B6.out.size)⟩
  clear k1 Q6 D6 R6 B6
  simp only [Act.put, List.setIfInBounds_toArray, List.set_cons_zero, List.set_cons_succ]
  refine WL.val (by kernel_rfl) (.bool false) (by go_simp) ?_
  simp only [Act.put, List.setIfInBounds_toArray, List.set_cons_zero, List.set_cons_succ]
  refine WL.nil ?_
  refine hK7 _ _ ?_
  refine wp_cond_false rfl ?_
  refine wp_skip ?_
  refine hK6 _ _ ?_
  refine wp_seq_k fun K8 hK8 => ?_
  refine wp_region_list (WL.out ?_)
  refine WL.val (by kernel_rfl) (.pointer (some ⟨d, 1, none⟩)) (by go_simp) ?_
  simp only [Act.put, List.setIfInBounds_toArray, List.set_cons_zero, List.set_cons_succ]
  have w1_ : w7.cell? ⟨d, 1, none⟩ = some (.slice (some ⟨b, off, none⟩) 1 cap) := by have h := D7.out.c 1 (by rfl : (wtA n v)[1]? = some v); rw [hv.out] at h; exact h
  refine WL.val (by kernel_rfl) (.slice (some ⟨b, off, none⟩) 1 cap) (by go_simp) ?_
  clear w1_
  simp only [Act.put, List.setIfInBounds_toArray, List.set_cons_zero, List.set_cons_succ]
  refine WL.val (by kernel_rfl) (.pointer (some ⟨b, off, none⟩)) (by go_simp) ?_
  simp only [Act.put, List.setIfInBounds_toArray, List.set_cons_zero, List.set_cons_succ]
  refine WL.val (by kernel_rfl) (.pointer (some ⟨b, off + 1, none⟩)) (by go_simp) ?_
  simp only [Act.put, List.setIfInBounds_toArray, List.set_cons_zero, List.set_cons_succ]
  refine WL.midA (by kernel_rfl) 40 (.tmp 41) rfl b (off + 1) rfl (cvA x.c) _ (rng_mid (HRx.out w7 B7.out)) Try.underlying40 rfl (Try.sizeC _ _ _) ?_
  simp only [Act.put, List.setIfInBounds_toArray, List.set_cons_zero, List.set_cons_succ]
  refine WL.callF (by kernel_rfl) 30 _ _ rfl Try.in30 #[.agg (cvA x.c)] (by simp [Act.eval]) ?_
  refine (own_any x.c w7 (HLx.out w7 B7.out) HSz.out).mono ?_
  rintro e w8 ⟨v8, rfl, k2, k3, k1⟩
  refine ⟨_, rfl, ?_⟩
  have O8 := Keep.mk k2
  have N8 : Keep (∀ k, v8.ownBlock = some k → w7.heap.size ≤ k) := ⟨k3⟩
  have hrl : Keep (r < w7.heap.size) := ⟨R7.out.lt⟩
  obtain ⟨xa, xn, xc, hxv⟩ := O8.out.sl
  subst hxv
  have Q8 := Keep.mk (Q7.out.below k1 Q7.out.lt)
  have D8 := Keep.mk (D7.out.below k1 D7.out.lt)
  have R8 := Keep.mk (R7.out.below k1 R7.out.lt)
  have B8 : Keep (Below w.heap.size w w8) := ⟨B7.out.trans (k1.mono B7.out.size)⟩
  clear k1 Q7 D7 R7 B7
  simp only [Act.put, List.setIfInBounds_toArray, List.set_cons_zero, List.set_cons_succ]
  refine WL.storeR (by kernel_rfl) 40 (.tmp 8) (.tmp 43) rfl r #[.int .i64 x.c.k, .string x.c.s, .slice xa xn xc] rfl rfl 40 #[.int .i64 0, .string ByteArray.empty, .slice none 0 0] R8.out (Try.sizeC _ _ _) rfl (by simp [Value.oneCell']) ?_
  have R9 := Keep.mk (R8.out.setRow #[.int .i64 x.c.k, .string x.c.s, .slice xa xn xc])
  have g_ : Grown w8 (w8.setRow r #[.int .i64 x.c.k, .string x.c.s, .slice xa xn xc]) (fun k => k = r) := Grown.setRow w8 r #[.int .i64 x.c.k, .string x.c.s, .slice xa xn xc] fun _ => rfl
  have O9 := Keep.mk (O8.out.grown g_ fun k hk e => by have := N8.out k hk; have := hrl.out; omega)
  have B9 : Keep (Below w.heap.size w (w8.setRow r #[.int .i64 x.c.k, .string x.c.s, .slice xa xn xc])) := ⟨below_setRow B8.out gr.out _⟩
  generalize w8.setRow r #[.int .i64 x.c.k, .string x.c.s, .slice xa xn xc] = w9 at *
  clear g_
  simp only [Act.put]
  refine WL.val (by kernel_rfl) (.bool true) (by go_simp) ?_
  simp only [Act.put, List.setIfInBounds_toArray, List.set_cons_zero, List.set_cons_succ]
  refine WL.val (by kernel_rfl) (.int .i64 0) (by go_simp) ?_
  simp only [Act.put, List.setIfInBounds_toArray, List.set_cons_zero, List.set_cons_succ]
  refine WL.nil ?_
  refine hK8 _ _ ?_
  refine wp_ret ?_
  try simp only [Exit.inBlock, Exit.then]
  refine bodyPost_ret (v := .tuple #[.agg #[.int .i64 x.c.k, .string x.c.s, .slice xa xn xc], .bool true, .int .i64 0]) (results_cell_row3 Try.results15 _ _ r 40 _ (0, 0) _ _ _ rfl rfl rfl R9.out Try.underlying40 rfl (Try.sizeC _ _ _)) rfl ⟨⟨x.c.k, x.c.s, .slice xa xn xc, x.c.l⟩, ?_, O9.out.row, B9.out, ?_, ?_⟩
  · rw [hE.out, hI.out]; rfl
  · rw [hI.out]; intro h; cases h
  · intro y _ hy
    injection (hls.out.symm.trans hy) with hy
    subst hy
    exact ⟨rfl, rfl, rfl⟩
theorem pcheck_any (v : Value) (n kind : Int) (key : ByteArray) (ls : List LV) (root : Hs) (w : World) (hL : LsV w.heap.size w v ls) (hn : n < 9223372036854775808) (hSm : SmL ls) : Calls Try.prog 15 #[.agg (bytesA 32 root.f), .int .i64 kind, .string key, .agg (wtA n v)] w (CkP root n kind key ls w) := by
  cases hk : kmay kind
  · exact ck_kind v n kind key ls root w hL ⟨hn⟩ hSm hk
  · cases hf : formB n ls
    · exact ck_form v n kind key ls root w hL ⟨hn⟩ hSm hk ⟨hf⟩
    · cases ha : ansB n ls kind key
      · exact ck_ans v n kind key ls root w hL ⟨hn⟩ hSm hk ⟨hf⟩ ⟨ha⟩
      · cases hr : rtB n ls root
        · exact ck_root v n kind key ls root w hL ⟨hn⟩ hSm hk ⟨hf⟩ ⟨ha⟩ ⟨hr⟩
        · cases ht : tellB ls kind key
          · exact ck_no v n kind key ls root w hL ⟨hn⟩ hSm hk ⟨hf⟩ ⟨ha⟩ ⟨hr⟩ ⟨ht⟩
          · obtain ⟨x, rfl⟩ : ∃ x, ls = [x] := by
              unfold tellB at ht
              split at ht
              · exact ⟨_, rfl⟩
              · cases ht
            have hL0 := hL
            rcases hL with ⟨a, c, _, h⟩ | ⟨b, off, cap, rfl, h2, h3⟩
            · cases h
            · exact ck_yes _ n kind key [x] root w hL0 ⟨hn⟩ hSm hk ⟨hf⟩ ⟨ha⟩ ⟨hr⟩ ⟨ht⟩ x ⟨rfl⟩ b off cap ⟨rfl⟩ ⟨fun wx hb => by have h := (h3.below hb).at_ 0 x rfl; simpa using h⟩ ⟨fun wx hb => ((h3.below hb).lf x (by simp)).row⟩ ⟨by have := hSm x (by simp); omega⟩

theorem Try.in55 (w : World) (vs : Array Value) : (callFunc 55 vs).run Try.prog w = .ok (.enter 55 vs) w := by kernel_rfl
theorem Try.in54 (w : World) (vs : Array Value) : (callFunc 54 vs).run Try.prog w = .ok (.enter 54 vs) w := by kernel_rfl
set_option maxRecDepth 8000 in
theorem ar1_any (c : CV) (kind : Int) (key : ByteArray) (qk : Nat) (w : World) (hq : ∀ wx, Below w.heap.size w wx → wx.cell? ⟨qk, 0, none⟩ = some (.int .i64 kind)) : Calls Try.prog 55 #[.agg (cvA c), .string key, ptr qk] w fun e w' => e = .returned (.int .i64 (stI c.k c.s kind key)) ∧ Below w.heap.size w w' := by
  have HQ := Keep.mk hq
  clear hq
  go_enter Try.func55, Try.ntmps55
  refine wp_seq_k fun K1 hK1 => ?_
  refine wp_region_list (WL.out ?_)
  refine WL.box (by kernel_rfl) 40 (.tmp 0) rfl (cvA c) rfl ?_
  have P1 := Keep.mk (Blk.new w 40 (cvA c))
  have b_ := below_new w (.cells (cvA c) 40)
  change WL _ _ _ _ _ (w.alloc (.cells (cvA c) 40))
  generalize w.alloc (.cells (cvA c) 40) = w1 at *
  obtain ⟨p, hp0⟩ : ∃ z, Keep (z = w.heap.size) := ⟨_, ⟨rfl⟩⟩
  rw [← hp0.out] at P1 ⊢
  have B1 : Keep (Below w.heap.size w w1) := ⟨b_⟩
  have gp : Keep (w.heap.size ≤ p) := ⟨by rw [hp0.out]; exact Nat.le_refl _⟩
  clear b_
  have m0_ := HQ.out _ B1.out
  simp only [Act.put, List.setIfInBounds_toArray, List.set_cons_zero, List.set_cons_succ]
  refine WL.val (by kernel_rfl) (.int .i64 0) (by go_simp) ?_
  simp only [Act.put, List.setIfInBounds_toArray, List.set_cons_zero, List.set_cons_succ]
  refine WL.nil ?_
  refine hK1 _ _ ?_
  refine wp_seq_k fun K2 hK2 => ?_
  refine wp_region_list (WL.out ?_)
  refine WL.row (by kernel_rfl) 40 (.tmp 3) rfl p rfl 40 (cvA c) _ P1.out Try.underlying40 rfl (Try.sizeC _ _ _) ?_
  simp only [Act.put, List.setIfInBounds_toArray, List.set_cons_zero, List.set_cons_succ]
  refine WL.val (by kernel_rfl) (.int .i64 kind) (by go_simp) ?_
  simp only [Act.put, List.setIfInBounds_toArray, List.set_cons_zero, List.set_cons_succ]
  refine WL.val (by kernel_rfl) (.string key) (by go_simp) ?_
  simp only [Act.put, List.setIfInBounds_toArray, List.set_cons_zero, List.set_cons_succ]
  refine WL.callF (by kernel_rfl) 46 _ _ rfl Try.in46 #[.agg (cvA c), .int .i64 kind, .string key] (by simp [Act.eval]) ?_
  refine (stands_any c.k kind c.s key c.v w1).mono ?_
  rintro e w2 ⟨rfl, k1⟩
  refine ⟨_, rfl, ?_⟩
  have B2 : Keep (Below w.heap.size w w2) := ⟨B1.out.trans (k1.mono B1.out.size)⟩
  clear k1
  simp only [Act.put, List.setIfInBounds_toArray, List.set_cons_zero, List.set_cons_succ]
  refine WL.val (by kernel_rfl) (.int .i64 (stI c.k c.s kind key)) (by go_simp) ?_
  simp only [Act.put, List.setIfInBounds_toArray, List.set_cons_zero, List.set_cons_succ]
  refine WL.nil ?_
  refine hK2 _ _ ?_
  refine wp_ret ?_
  go_ret
  exact ⟨rfl, B2.out⟩
theorem beq0 (x : Int) : (x == 0) = decide (x = 0) := rfl
def fndB (L : List CV) (i : Nat) (kind : Int) (key : ByteArray) : Bool := match L[i]? with
  | some c => decide (stI c.k c.s kind key = 0)
  | none => false
set_option maxRecDepth 8000 in
set_option maxHeartbeats 1000000 in
theorem bs_any (la : Option Addr) (n cap at_ : Nat) (L : List CV) (kind : Int) (key : ByteArray) (qk : Nat) (w : World) (hn : Keep (L.length = n)) (hN : n ≤ 3600000000000) (hC : 0 < n → ∃ b off, la = some ⟨b, off, none⟩ ∧ CsAt w.heap.size w b off L)
    (hq : ∀ wx, Below w.heap.size w wx → wx.cell? ⟨qk, 0, none⟩ = some (.int .i64 kind)) (hat : at_ ≤ n) (hAt : ∀ (i : Nat) (c : CV), L[i]? = some c → (stI c.k c.s kind key < 0 ↔ i < at_)) :
    Calls Try.prog 54 #[.slice la n cap, .string key, .func (.func 55) #[] #[ptr qk]] w fun e w' => e = .returned (.tuple #[.int .i64 (at_ : Int), .bool (fndB L at_ kind key)]) ∧ Below w.heap.size w w' := by
  have HN := Keep.mk hN
  have HC := Keep.mk hC
  have HQ := Keep.mk hq
  have HAt := Keep.mk hAt
  clear hN hC hq hAt
  go_enter Try.func54, Try.ntmps54
  refine wp_seq_k fun K1 hK1 => ?_
  refine wp_region_list (WL.out ?_)
  refine WL.val (by kernel_rfl) (.int .i64 0) (by go_simp) ?_
  simp only [Act.put, List.setIfInBounds_toArray, List.set_cons_zero, List.set_cons_succ]
  refine WL.val (by kernel_rfl) (.bool false) (by go_simp) ?_
  simp only [Act.put, List.setIfInBounds_toArray, List.set_cons_zero, List.set_cons_succ]
  refine WL.nil ?_
  refine hK1 _ _ ?_
  refine wp_seq_k fun K2 hK2 => ?_
  refine wp_region_list (WL.out ?_)
  refine WL.val (by kernel_rfl) (.slice la n cap) (by go_simp) ?_
  simp only [Act.put, List.setIfInBounds_toArray, List.set_cons_zero, List.set_cons_succ]
  refine WL.val (by kernel_rfl) (.int .i64 (n : Int)) (by go_simp) ?_
  simp only [Act.put, List.setIfInBounds_toArray, List.set_cons_zero, List.set_cons_succ]
  refine WL.val (by kernel_rfl) (.int .i64 (n : Int)) (by go_simp) ?_
  simp only [Act.put, List.setIfInBounds_toArray, List.set_cons_zero, List.set_cons_succ]
  refine WL.nil ?_
  refine hK2 _ _ ?_
  refine wp_seq_k fun K3 hK3 => ?_
  refine wp_region_list (WL.out ?_)
  refine WL.val (by kernel_rfl) (.int .i64 (n : Int)) (by go_simp) ?_
  simp only [Act.put, List.setIfInBounds_toArray, List.set_cons_zero, List.set_cons_succ]
  refine WL.val (by kernel_rfl) (.int .i64 0) (by go_simp) ?_
  simp only [Act.put, List.setIfInBounds_toArray, List.set_cons_zero, List.set_cons_succ]
  refine WL.val (by kernel_rfl) (.int .i64 (n : Int)) (by go_simp) ?_
  simp only [Act.put, List.setIfInBounds_toArray, List.set_cons_zero, List.set_cons_succ]
  refine WL.nil ?_
  refine hK3 _ _ ?_
  refine wp_seq_k fun K4 hK4 => ?_
  refine wp_block ?_
  refine wp_loop (fun ac wr => ∃ (t : Nat) (f : Nat → Value) (vj : Value), ac = { tmps := #[.slice la n cap, .string key, .func (.func 55) #[] #[ptr qk], undef, undef, undef, .int .i64 0, .bool false, .int .i64 (n : Int), .int .i64 (t : Int), vj, f 11, .slice la n cap, .int .i64 (n : Int), .int .i64 (n : Int), f 15, f 16, f 17, f 18, f 19, f 20, f 21, f 22, f 23, f 24, f 25, f 26, f 27, f 28, f 29, f 30, f 31, f 32, f 33, f 34, undef, undef, undef, undef, undef, undef, undef, undef, undef, undef, undef, undef, undef, undef], defers := [] } ∧ ∃ j : Nat, vj = .int .i64 (j : Int) ∧ t ≤ j ∧ j ≤ n ∧ t ≤ at_ ∧ at_ ≤ j ∧ Below w.heap.size w wr) (fun a _ => (intOf (a.tmps.getD 10 undef) - intOf (a.tmps.getD 9 undef)).toNat) ⟨0, fun zz => [.slice la n cap, .string key, .func (.func 55) #[] #[ptr qk], undef, undef, undef, .int .i64 0, .bool false, .int .i64 (n : Int), .int .i64 0, .int .i64 (n : Int), undef, .slice la n cap, .int .i64 (n : Int), .int .i64 (n : Int), undef, undef, undef, undef, undef, undef, undef, undef, undef, undef, undef, undef, undef, undef, undef, undef, undef, undef, undef, undef, undef, undef, undef, undef, undef, undef, undef, undef, undef, undef, undef, undef, undef, undef].getD zz undef, .int .i64 (n : Int), rfl, n, rfl, by omega, by omega, by omega, by omega, Below.refl _ _⟩ ?_
  rintro ac wr ⟨t, f, vj, rfl, hrel⟩
  obtain ⟨j, hvj, hj1, hj2, hj3, hj4, hb⟩ := hrel
  subst hvj
  have B1 := Keep.mk hb
  clear hb
  by_cases hij : t < j
  · have hij' : (t : Int) < (j : Int) := by omega
    have hll := HN.out
    obtain ⟨m, hm⟩ : ∃ m, m = (t + j) / 2 := ⟨_, rfl⟩
    have hmi : t ≤ m := by omega
    have hmj : m < j := by omega
    have hml : m < n := by omega
    have hw1 : IntKind.i64.wrap ((t : Int) + (j : Int)) = (t : Int) + (j : Int) := by rw [IntKind.wrap_i64]; omega
    have hw2 : IntKind.u64.wrap ((t : Int) + (j : Int)) = (t : Int) + (j : Int) := by rw [IntKind.wrap_u64]; omega
    have hw3 : ((t : Int) + (j : Int)) / 2 = (m : Int) := by omega
    have hw4 : IntKind.i64.wrap (m : Int) = (m : Int) := by rw [IntKind.wrap_i64]; omega
    have hw5 : IntKind.i64.wrap ((m : Int) + 1) = ((m + 1 : Nat) : Int) := by rw [IntKind.wrap_i64]; omega
    have hml' : (m : Int) < (n : Int) := by omega
    clear hm
    obtain ⟨b, off, hla, hcx⟩ := HC.out (by omega)
    subst hla
    have HX : Keep (CsAt w.heap.size wr b off L) := ⟨hcx.below B1.out⟩
    clear hcx
    obtain ⟨c, Hc⟩ : ∃ z, Keep (L[m]? = some z) := ⟨L[m]'(by rw [hn.out]; omega), ⟨List.getElem?_eq_getElem _⟩⟩
    have Hat : Keep ((stI c.k c.s kind key) < 0 ↔ m < at_) := ⟨HAt.out m c Hc.out⟩
    refine wp_seq_k fun K5 hK5 => ?_
    refine wp_seq_k fun K6 hK6 => ?_
    refine wp_region_list (WL.out ?_)
    refine WL.val (by kernel_rfl) (.int .i64 (t : Int)) (by go_simp) ?_
    simp only [Act.put, List.setIfInBounds_toArray, List.set_cons_zero, List.set_cons_succ]
    refine WL.val (by kernel_rfl) (.int .i64 (j : Int)) (by go_simp) ?_
    simp only [Act.put, List.setIfInBounds_toArray, List.set_cons_zero, List.set_cons_succ]
    refine WL.val (by kernel_rfl) (.bool true) (by go_simp) ?_
    simp only [Act.put, List.setIfInBounds_toArray, List.set_cons_zero, List.set_cons_succ]
    refine WL.nil ?_
    refine hK6 _ _ ?_
    refine wp_cond_true rfl ?_
    refine wp_skip ?_
    refine hK5 _ _ ?_
    refine wp_block ?_
    refine wp_seq_k fun K7 hK7 => ?_
    refine wp_region_list (WL.out ?_)
    refine WL.val (by kernel_rfl) (.int .i64 (t : Int)) (by go_simp) ?_
    simp only [Act.put, List.setIfInBounds_toArray, List.set_cons_zero, List.set_cons_succ]
    refine WL.val (by kernel_rfl) (.int .i64 (j : Int)) (by go_simp) ?_
    simp only [Act.put, List.setIfInBounds_toArray, List.set_cons_zero, List.set_cons_succ]
    refine WL.val (by kernel_rfl) (.int .i64 ((t : Int) + (j : Int))) (by go_simp) ?_
    simp only [Act.put, List.setIfInBounds_toArray, List.set_cons_zero, List.set_cons_succ]
    refine WL.val (by kernel_rfl) (.int .u64 ((t : Int) + (j : Int))) (by go_simp) ?_
    simp only [Act.put, List.setIfInBounds_toArray, List.set_cons_zero, List.set_cons_succ]
    refine WL.val (by kernel_rfl) (.int .u64 (m : Int)) (by go_simp) ?_
    simp only [Act.put, List.setIfInBounds_toArray, List.set_cons_zero, List.set_cons_succ]
    refine WL.val (by kernel_rfl) (.int .i64 (m : Int)) (by go_simp) ?_
    clear hw1 hw2 hw3 hw4
    simp only [Act.put, List.setIfInBounds_toArray, List.set_cons_zero, List.set_cons_succ]
    refine WL.val (by kernel_rfl) (.int .i64 (m : Int)) (by go_simp) ?_
    simp only [Act.put, List.setIfInBounds_toArray, List.set_cons_zero, List.set_cons_succ]
    refine WL.nil ?_
    refine hK7 _ _ ?_
    refine wp_seq_k fun K8 hK8 => ?_
    refine wp_region_list (WL.out ?_)
    refine WL.val (by kernel_rfl) (.func (.func 55) #[] #[ptr qk]) (by go_simp) ?_
    simp only [Act.put, List.setIfInBounds_toArray, List.set_cons_zero, List.set_cons_succ]
    refine WL.val (by kernel_rfl) (.slice (some ⟨b, off, none⟩) n cap) (by go_simp) ?_
    simp only [Act.put, List.setIfInBounds_toArray, List.set_cons_zero, List.set_cons_succ]
    refine WL.val (by kernel_rfl) (.int .i64 (m : Int)) (by go_simp) ?_
    simp only [Act.put, List.setIfInBounds_toArray, List.set_cons_zero, List.set_cons_succ]
    refine WL.val (by kernel_rfl) (.pointer (some ⟨b, off + m * 3, none⟩)) (by go_simp) ?_
    simp only [Act.put, List.setIfInBounds_toArray, List.set_cons_zero, List.set_cons_succ]
    refine WL.midA (by kernel_rfl) 40 (.tmp 27) rfl b (off + m * 3) rfl (cvA c) _ (HX.out.at_ m c Hc.out) Try.underlying40 rfl (Try.sizeC _ _ _) ?_
    simp only [Act.put, List.setIfInBounds_toArray, List.set_cons_zero, List.set_cons_succ]
    refine WL.val (by kernel_rfl) (.string key) (by go_simp) ?_
    simp only [Act.put, List.setIfInBounds_toArray, List.set_cons_zero, List.set_cons_succ]
    refine WL.callC (by kernel_rfl) 55 (.tmp 24) _ _ #[ptr qk] rfl rfl Try.in55 #[.agg (cvA c), .string key, ptr qk] (by simp [Act.eval]) ?_
    refine (ar1_any c kind key qk wr (fun wx hb => HQ.out wx (B1.out.trans (hb.mono B1.out.size)))).mono ?_
    rintro e w2 ⟨rfl, k1⟩
    refine ⟨_, rfl, ?_⟩
    have B2 : Keep (Below w.heap.size w w2) := ⟨B1.out.trans (k1.mono B1.out.size)⟩
    clear k1
    simp only [Act.put, List.setIfInBounds_toArray, List.set_cons_zero, List.set_cons_succ]
    refine WL.val (by kernel_rfl) (.bool (decide ((stI c.k c.s kind key) < 0))) (by go_simp) ?_
    simp only [Act.put, List.setIfInBounds_toArray, List.set_cons_zero, List.set_cons_succ]
    refine WL.nil ?_
    refine hK8 _ _ ?_
    obtain ⟨bb, hbb⟩ : ∃ z, decide ((stI c.k c.s kind key) < 0) = z := ⟨_, rfl⟩
    rw [hbb]
    cases bb
    · refine wp_cond_false rfl ?_
      refine wp_region_list (WL.out ?_)
      refine WL.val (by kernel_rfl) (.int .i64 (m : Int)) (by go_simp) ?_
      simp only [Act.put, List.setIfInBounds_toArray, List.set_cons_zero, List.set_cons_succ]
      refine WL.val (by kernel_rfl) (.int .i64 (m : Int)) (by go_simp) ?_
      simp only [Act.put, List.setIfInBounds_toArray, List.set_cons_zero, List.set_cons_succ]
      refine WL.nil ?_
      have hge : ¬ m < at_ := fun h => of_decide_eq_false hbb (Hat.out.mpr h)
      refine ⟨⟨t, fun zz => [.slice (some ⟨b, off, none⟩) n cap, .string key, .func (.func 55) #[] #[ptr qk], undef, undef, undef, .int .i64 0, .bool false, .int .i64 (n : Int), .int .i64 (t : Int), .int .i64 (m : Int), .int .i64 (m : Int), .slice (some ⟨b, off, none⟩) n cap, .int .i64 (n : Int), .int .i64 (n : Int), .int .i64 (t : Int), .int .i64 (j : Int), .bool true, .int .i64 (t : Int), .int .i64 (j : Int), .int .i64 ((t : Int) + (j : Int)), .int .u64 ((t : Int) + (j : Int)), .int .u64 (m : Int), .int .i64 (m : Int), .func (.func 55) #[] #[ptr qk], .slice (some ⟨b, off, none⟩) n cap, .int .i64 (m : Int), .pointer (some ⟨b, off + m * 3, none⟩), .agg (cvA c), .string key, .int .i64 (stI c.k c.s kind key), .bool false, f 32, f 33, .int .i64 (m : Int), undef, undef, undef, undef, undef, undef, undef, undef, undef, undef, undef, undef, undef, undef].getD zz undef, .int .i64 (m : Int), rfl, m, rfl, by omega, by omega, by omega, by omega, B2.out⟩, ?_⟩
      · simp only [intOf]; show ((m : Int) - (t : Int)).toNat < ((j : Int) - (t : Int)).toNat; omega
    · refine wp_cond_true rfl ?_
      refine wp_region_list (WL.out ?_)
      refine WL.val (by kernel_rfl) (.int .i64 (m : Int)) (by go_simp) ?_
      simp only [Act.put, List.setIfInBounds_toArray, List.set_cons_zero, List.set_cons_succ]
      refine WL.val (by kernel_rfl) (.int .i64 ((m + 1 : Nat) : Int)) (by go_simp) ?_
      simp only [Act.put, List.setIfInBounds_toArray, List.set_cons_zero, List.set_cons_succ]
      refine WL.val (by kernel_rfl) (.int .i64 ((m + 1 : Nat) : Int)) (by go_simp) ?_
      simp only [Act.put, List.setIfInBounds_toArray, List.set_cons_zero, List.set_cons_succ]
      refine WL.nil ?_
      have hge : m < at_ := Hat.out.mp (of_decide_eq_true hbb)
      refine ⟨⟨m + 1, fun zz => [.slice (some ⟨b, off, none⟩) n cap, .string key, .func (.func 55) #[] #[ptr qk], undef, undef, undef, .int .i64 0, .bool false, .int .i64 (n : Int), .int .i64 ((m + 1 : Nat) : Int), .int .i64 (j : Int), .int .i64 (m : Int), .slice (some ⟨b, off, none⟩) n cap, .int .i64 (n : Int), .int .i64 (n : Int), .int .i64 (t : Int), .int .i64 (j : Int), .bool true, .int .i64 (t : Int), .int .i64 (j : Int), .int .i64 ((t : Int) + (j : Int)), .int .u64 ((t : Int) + (j : Int)), .int .u64 (m : Int), .int .i64 (m : Int), .func (.func 55) #[] #[ptr qk], .slice (some ⟨b, off, none⟩) n cap, .int .i64 (m : Int), .pointer (some ⟨b, off + m * 3, none⟩), .agg (cvA c), .string key, .int .i64 (stI c.k c.s kind key), .bool true, .int .i64 (m : Int), .int .i64 ((m + 1 : Nat) : Int), f 34, undef, undef, undef, undef, undef, undef, undef, undef, undef, undef, undef, undef, undef, undef].getD zz undef, .int .i64 (j : Int), rfl, j, rfl, by omega, by omega, by omega, by omega, B2.out⟩, ?_⟩
      · simp only [intOf]; show ((j : Int) - ((m + 1 : Nat) : Int)).toNat < ((j : Int) - (t : Int)).toNat; omega
  · have hij' : ¬ (t : Int) < (j : Int) := by omega
    obtain rfl : t = at_ := by omega
    by_cases htn : t < n
    · have htn' : (t : Int) < (n : Int) := by omega
      obtain ⟨b, off, hla, hcx⟩ := HC.out (by omega)
      subst hla
      have HX : Keep (CsAt w.heap.size wr b off L) := ⟨hcx.below B1.out⟩
      clear hcx
      obtain ⟨c, Hc⟩ : ∃ z, Keep (L[t]? = some z) := ⟨L[t]'(by rw [hn.out]; omega), ⟨List.getElem?_eq_getElem _⟩⟩
      have Hat : Keep ((stI c.k c.s kind key) < 0 ↔ t < t) := ⟨HAt.out t c Hc.out⟩
      refine wp_seq_k fun K9 hK9 => ?_
      refine wp_seq_k fun K10 hK10 => ?_
      refine wp_region_list (WL.out ?_)
      refine WL.val (by kernel_rfl) (.int .i64 (t : Int)) (by go_simp) ?_
      simp only [Act.put, List.setIfInBounds_toArray, List.set_cons_zero, List.set_cons_succ]
      refine WL.val (by kernel_rfl) (.int .i64 (j : Int)) (by go_simp) ?_
      simp only [Act.put, List.setIfInBounds_toArray, List.set_cons_zero, List.set_cons_succ]
      refine WL.val (by kernel_rfl) (.bool false) (by go_simp) ?_
      simp only [Act.put, List.setIfInBounds_toArray, List.set_cons_zero, List.set_cons_succ]
      refine WL.nil ?_
      refine hK10 _ _ ?_
      refine wp_cond_false rfl ?_
      refine wp_exit ?_
      refine hK4 _ _ ?_
      refine wp_seq_k fun K11 hK11 => ?_
      refine wp_region_list (WL.out ?_)
      refine WL.val (by kernel_rfl) (.int .i64 (t : Int)) (by go_simp) ?_
      simp only [Act.put, List.setIfInBounds_toArray, List.set_cons_zero, List.set_cons_succ]
      refine WL.val (by kernel_rfl) (.int .i64 (t : Int)) (by go_simp) ?_
      simp only [Act.put, List.setIfInBounds_toArray, List.set_cons_zero, List.set_cons_succ]
      refine WL.val (by kernel_rfl) (.int .i64 (n : Int)) (by go_simp) ?_
      simp only [Act.put, List.setIfInBounds_toArray, List.set_cons_zero, List.set_cons_succ]
      refine WL.val (by kernel_rfl) (.bool true) (by go_simp) ?_
      simp only [Act.put, List.setIfInBounds_toArray, List.set_cons_zero, List.set_cons_succ]
      refine WL.val (by kernel_rfl) (.bool true) (by go_simp) ?_
      simp only [Act.put, List.setIfInBounds_toArray, List.set_cons_zero, List.set_cons_succ]
      refine WL.val (by kernel_rfl) (.func (.func 55) #[] #[ptr qk]) (by go_simp) ?_
      simp only [Act.put, List.setIfInBounds_toArray, List.set_cons_zero, List.set_cons_succ]
      refine WL.val (by kernel_rfl) (.slice (some ⟨b, off, none⟩) n cap) (by go_simp) ?_
      simp only [Act.put, List.setIfInBounds_toArray, List.set_cons_zero, List.set_cons_succ]
      refine WL.val (by kernel_rfl) (.int .i64 (t : Int)) (by go_simp) ?_
      simp only [Act.put, List.setIfInBounds_toArray, List.set_cons_zero, List.set_cons_succ]
      refine WL.val (by kernel_rfl) (.pointer (some ⟨b, off + t * 3, none⟩)) (by go_simp) ?_
      simp only [Act.put, List.setIfInBounds_toArray, List.set_cons_zero, List.set_cons_succ]
      refine WL.midA (by kernel_rfl) 40 (.tmp 43) rfl b (off + t * 3) rfl (cvA c) _ (HX.out.at_ t c Hc.out) Try.underlying40 rfl (Try.sizeC _ _ _) ?_
      simp only [Act.put, List.setIfInBounds_toArray, List.set_cons_zero, List.set_cons_succ]
      refine WL.val (by kernel_rfl) (.string key) (by go_simp) ?_
      simp only [Act.put, List.setIfInBounds_toArray, List.set_cons_zero, List.set_cons_succ]
      refine WL.callC (by kernel_rfl) 55 (.tmp 40) _ _ #[ptr qk] rfl rfl Try.in55 #[.agg (cvA c), .string key, ptr qk] (by simp [Act.eval]) ?_
      refine (ar1_any c kind key qk wr (fun wx hb => HQ.out wx (B1.out.trans (hb.mono B1.out.size)))).mono ?_
      rintro e w2 ⟨rfl, k1⟩
      refine ⟨_, rfl, ?_⟩
      have B2 : Keep (Below w.heap.size w w2) := ⟨B1.out.trans (k1.mono B1.out.size)⟩
      clear k1
      simp only [Act.put, List.setIfInBounds_toArray, List.set_cons_zero, List.set_cons_succ]
      refine WL.val (by kernel_rfl) (.bool (decide ((stI c.k c.s kind key) = 0))) (by have hq_ := beq0 (stI c.k c.s kind key); go_simp) ?_
      simp only [Act.put, List.setIfInBounds_toArray, List.set_cons_zero, List.set_cons_succ]
      refine WL.val (by kernel_rfl) (.bool (decide ((stI c.k c.s kind key) = 0))) (by go_simp) ?_
      simp only [Act.put, List.setIfInBounds_toArray, List.set_cons_zero, List.set_cons_succ]
      refine WL.val (by kernel_rfl) (.int .i64 (t : Int)) (by go_simp) ?_
      simp only [Act.put, List.setIfInBounds_toArray, List.set_cons_zero, List.set_cons_succ]
      refine WL.val (by kernel_rfl) (.bool (decide ((stI c.k c.s kind key) = 0))) (by go_simp) ?_
      simp only [Act.put, List.setIfInBounds_toArray, List.set_cons_zero, List.set_cons_succ]
      refine WL.nil ?_
      refine hK11 _ _ ?_
      refine wp_ret ?_
      go_ret2
      have hf : fndB L t kind key = decide (stI c.k c.s kind key = 0) := by unfold fndB; rw [Hc.out]
      rw [hf]
      exact ⟨rfl, B2.out⟩
    · have htn' : ¬ (t : Int) < (n : Int) := by omega
      refine wp_seq_k fun K12 hK12 => ?_
      refine wp_seq_k fun K13 hK13 => ?_
      refine wp_region_list (WL.out ?_)
      refine WL.val (by kernel_rfl) (.int .i64 (t : Int)) (by go_simp) ?_
      simp only [Act.put, List.setIfInBounds_toArray, List.set_cons_zero, List.set_cons_succ]
      refine WL.val (by kernel_rfl) (.int .i64 (j : Int)) (by go_simp) ?_
      simp only [Act.put, List.setIfInBounds_toArray, List.set_cons_zero, List.set_cons_succ]
      refine WL.val (by kernel_rfl) (.bool false) (by go_simp) ?_
      simp only [Act.put, List.setIfInBounds_toArray, List.set_cons_zero, List.set_cons_succ]
      refine WL.nil ?_
      refine hK13 _ _ ?_
      refine wp_cond_false rfl ?_
      refine wp_exit ?_
      refine hK4 _ _ ?_
      refine wp_seq_k fun K14 hK14 => ?_
      refine wp_region_list (WL.out ?_)
      refine WL.val (by kernel_rfl) (.int .i64 (t : Int)) (by go_simp) ?_
      simp only [Act.put, List.setIfInBounds_toArray, List.set_cons_zero, List.set_cons_succ]
      refine WL.val (by kernel_rfl) (.int .i64 (t : Int)) (by go_simp) ?_
      simp only [Act.put, List.setIfInBounds_toArray, List.set_cons_zero, List.set_cons_succ]
      refine WL.val (by kernel_rfl) (.int .i64 (n : Int)) (by go_simp) ?_
      simp only [Act.put, List.setIfInBounds_toArray, List.set_cons_zero, List.set_cons_succ]
      refine WL.val (by kernel_rfl) (.bool false) (by go_simp) ?_
      simp only [Act.put, List.setIfInBounds_toArray, List.set_cons_zero, List.set_cons_succ]
      refine WL.val (by kernel_rfl) (.bool false) (by go_simp) ?_
      simp only [Act.put, List.setIfInBounds_toArray, List.set_cons_zero, List.set_cons_succ]
      refine WL.skip (by kernel_rfl) ?_
      simp only [Act.put, List.setIfInBounds_toArray, List.set_cons_zero, List.set_cons_succ]
      refine WL.skip (by kernel_rfl) ?_
      simp only [Act.put, List.setIfInBounds_toArray, List.set_cons_zero, List.set_cons_succ]
      refine WL.skip (by kernel_rfl) ?_
      simp only [Act.put, List.setIfInBounds_toArray, List.set_cons_zero, List.set_cons_succ]
      refine WL.skip (by kernel_rfl) ?_
      simp only [Act.put, List.setIfInBounds_toArray, List.set_cons_zero, List.set_cons_succ]
      refine WL.skip (by kernel_rfl) ?_
      simp only [Act.put, List.setIfInBounds_toArray, List.set_cons_zero, List.set_cons_succ]
      refine WL.skip (by kernel_rfl) ?_
      simp only [Act.put, List.setIfInBounds_toArray, List.set_cons_zero, List.set_cons_succ]
      refine WL.skip (by kernel_rfl) ?_
      simp only [Act.put, List.setIfInBounds_toArray, List.set_cons_zero, List.set_cons_succ]
      refine WL.skip (by kernel_rfl) ?_
      simp only [Act.put, List.setIfInBounds_toArray, List.set_cons_zero, List.set_cons_succ]
      refine WL.val (by kernel_rfl) (.bool false) (by go_simp) ?_
      simp only [Act.put, List.setIfInBounds_toArray, List.set_cons_zero, List.set_cons_succ]
      refine WL.val (by kernel_rfl) (.int .i64 (t : Int)) (by go_simp) ?_
      simp only [Act.put, List.setIfInBounds_toArray, List.set_cons_zero, List.set_cons_succ]
      refine WL.val (by kernel_rfl) (.bool false) (by go_simp) ?_
      simp only [Act.put, List.setIfInBounds_toArray, List.set_cons_zero, List.set_cons_succ]
      refine WL.nil ?_
      refine hK14 _ _ ?_
      refine wp_ret ?_
      go_ret2
      have hf : fndB L t kind key = false := by unfold fndB; rw [List.getElem?_eq_none (by rw [hn.out]; omega)]
      rw [hf]
      exact ⟨rfl, B1.out⟩

theorem Try.in29 (w : World) (vs : Array Value) : (callFunc 29 vs).run Try.prog w = .ok (.enter 29 vs) w := by kernel_rfl
theorem infoI : (Try.prog.info? 3).map (fun i => (i.zero, i.size, i.bytes)) = some (some (.int .i64 0), 1, 8) := by kernel_rfl
theorem bsI1 (a : Int) (w : World) : (Instr.buildSlice 64 1 #[(0, .int .i64 a)]).run Try.prog w = .ok (.slice (some ⟨w.heap.size, 0, none⟩) 1 1) (w.alloc (.cells #[.int .i64 a] 3)) := by kernel_rfl
theorem run_appI (w : World) (ty : TypeId) (B : Nat) (v : Value) (n : Nat) (xs : List Value) (hown : w.ownsRow B 3 1 v n xs) (gx : Nat) (a : Int) (hc : w.cell? ⟨gx, 0, none⟩ = some (.int .i64 a)) (hb : n + 1 ≤ 4398046511104) (hB : B ≤ w.heap.size) :
    ∃ v' w', (Builtin.append_ #[64, 64] ty #[v, .slice (some ⟨gx, 0, none⟩) 1 1]).run Try.prog w = .ok v' w' ∧ w'.ownsRow B 3 1 v' (n + 1) (xs ++ [.int .i64 a]) ∧ (Grown w w' fun k => v.ownBlock = some k) ∧ (v'.ownBlock = v.ownBlock ∨ v'.ownBlock = some w.heap.size) := by
  obtain ⟨i, hi, hzz⟩ := Option.map_eq_some_iff.1 infoI
  simp only [Prod.mk.injEq] at hzz
  obtain ⟨hz, hsz, hby⟩ := hzz
  obtain ⟨v', w', hr, h1, h2, _, h3⟩ := run_append_own_at (P := Try.prog) w B 64 ty 3 i (.int .i64 0) 1 8 Try.underlying64 hi hz hsz hby rfl (by omega) v n xs hown ⟨gx, 0, none⟩ 1 1 [.int .i64 a] rfl (fun j u hu => by
    cases j with
    | zero => simp at hu; subst hu; exact hc
    | succ j => simp at hu) (fun u hu => by simp at hu; subst hu; rfl) (by unfold maxLen; omega) (by omega) hB
  exact ⟨v', w', hr, h1, Grown.of h2 fun k _ e => e, h3⟩
theorem WL.appI {ops : Array Oper} {rest : List Oper} {o : Oper} {a : Act} {w : World} {Q : Exit → Act → World → Prop} (hw : Region.wanted o (yielded ops a.tmps) = true) (s x : Operand)
    (ho : o.op = .call { callee := .builtin .append, args := #[s, x], argTypes := #[64, 64] }) (v : Value) (B n : Nat) (xs : List Value) (gx : Nat) (z : Int)
    (hs : a.eval s = v) (hx : a.eval x = .slice (some ⟨gx, 0, none⟩) 1 1) (hown : w.ownsRow B 3 1 v n xs) (hc : w.cell? ⟨gx, 0, none⟩ = some (.int .i64 z)) (hb : n + 1 ≤ 4398046511104) (hB : B ≤ w.heap.size)
    (h : ∀ v' w', w'.ownsRow B 3 1 v' (n + 1) (xs ++ [.int .i64 z]) → (Grown w w' fun k => v.ownBlock = some k) → (v'.ownBlock = v.ownBlock ∨ v'.ownBlock = some w.heap.size) → WL Try.prog ops Q rest (a.put o.dst v') w') : WL Try.prog ops Q (o :: rest) a w :=
  ⟨wpList_wanted hw fun K hK => by
    obtain ⟨v', w', hr, h1, h2, h3⟩ := run_appI w o.type B v n xs hown gx z hc hb hB
    unfold Oper.wp execOp
    simp only [ho, resolve, invoke, builtin, Sem.run_bind, Sem.run_pure, Result.andThen_ok, List.map_toArray, List.map_cons, List.map_nil, hs, hx, hr]
    exact hK _ _ (h v' w' h1 h2 h3).out⟩
def fnd (n at_ : Nat) (is : Bool) : List Nat := if is then [at_] else (if 0 < at_ then [at_ - 1] else []) ++ (if at_ < n then [at_] else [])
theorem nsv_owns {w : World} {B : Nat} {v : Value} {ns : List Nat} (h : w.ownsRow B 3 1 v ns.length (ns.map fun (k : Nat) => Value.int .i64 (k : Int))) : NsV w v ns := by
  rcases h.2 with ⟨rfl, h0⟩ | ⟨g, cap, cur, rfl, _, h3, h4, h5, h6, h7⟩
  · exact .inl ⟨none, 0, rfl, List.length_eq_zero_iff.mp h0⟩
  · refine .inr ⟨g, cap, rfl, ⟨cur, _, h3⟩, fun j k hj => ?_⟩
    have hl : j < ns.length := (List.getElem?_eq_some_iff.mp hj).1
    have e : cur.toList[j]? = some (.int .i64 (k : Int)) := by
      have e2 : (cur.toList.take (ns.length * 1))[j]? = some (.int .i64 (k : Int)) := by rw [h7, List.getElem?_map, hj]; rfl
      rw [List.getElem?_take, if_pos (by omega)] at e2
      exact e2
    rw [Array.getElem?_toList] at e
    exact (show Blk w g 3 cur from h3).c j e
theorem NsV.below {w w' : World} {v : Value} {ns : List Nat} (h : NsV w v ns) (hb : Below w.heap.size w w') : NsV w' v ns := by
  rcases h with h | ⟨g, c, h1, ⟨cs, fr, h2⟩, h3⟩
  · exact .inl h
  · have g_ := Grown.below (S := fun _ => False) hb
    exact .inr ⟨g, c, h1, g_.typ ⟨cs, fr, h2⟩ id, fun j n hj => g_.cell (h3 j n hj) id⟩
set_option maxRecDepth 8000 in
theorem ar_is (la : Option Addr) (n cap at_ : Nat) (L : List CV) (kind : Int) (key : ByteArray) (w : World) (hn : Keep (L.length = n)) (HN : Keep (n ≤ 3600000000000)) (HC : Keep (0 < n → ∃ b off, la = some ⟨b, off, none⟩ ∧ CsAt w.heap.size w b off L)) (HA : Keep (at_ ≤ n)) (HAt : Keep (∀ (i : Nat) (c : CV), L[i]? = some c → (stI c.k c.s kind key < 0 ↔ i < at_))) (HF : Keep (fndB L at_ kind key = true))  :
    Calls Try.prog 29 #[.slice la n cap, .int .i64 kind, .string key] w fun e w' => ∃ v, e = .returned v ∧ NsV w' v (fnd n at_ true) ∧ Below w.heap.size w w' := by
  go_enter Try.func29, Try.ntmps29
  refine wp_seq_k fun K1 hK1 => ?_
  refine wp_region_list (WL.out ?_)
  refine WL.boxV (by kernel_rfl) 3 (.tmp 1) rfl (.int .i64 kind) rfl (by rfl) ?_
  have K1 := Keep.mk (Blk.new w 3 #[.int .i64 kind])
  have b_ := below_new w (.cells #[.int .i64 kind] 3)
  change WL _ _ _ _ _ (w.alloc (.cells #[.int .i64 kind] 3))
  generalize w.alloc (.cells #[.int .i64 kind] 3) = w1 at *
  obtain ⟨qk, hqk0⟩ : ∃ z, Keep (z = w.heap.size) := ⟨_, ⟨rfl⟩⟩
  rw [← hqk0.out] at K1 ⊢
  have B1 : Keep (Below w.heap.size w w1) := ⟨b_⟩
  have gqk : Keep (w.heap.size ≤ qk) := ⟨by rw [hqk0.out]; exact Nat.le_refl _⟩
  clear b_
  have HQ : Keep (∀ wx, Below w1.heap.size w1 wx → wx.cell? ⟨qk, 0, none⟩ = some (.int .i64 kind)) := ⟨fun wx hb => (K1.out.below hb K1.out.lt).c 0 rfl⟩
  simp only [Act.put, List.setIfInBounds_toArray, List.set_cons_zero, List.set_cons_succ]
  refine WL.val (by kernel_rfl) (.slice none 0 0) (by go_simp) ?_
  simp only [Act.put, List.setIfInBounds_toArray, List.set_cons_zero, List.set_cons_succ]
  refine WL.nil ?_
  refine hK1 _ _ ?_
  refine wp_seq_k fun K2 hK2 => ?_
  refine wp_region_list (WL.out ?_)
  refine WL.val (by kernel_rfl) (.slice la n cap) (by go_simp) ?_
  simp only [Act.put, List.setIfInBounds_toArray, List.set_cons_zero, List.set_cons_succ]
  refine WL.val (by kernel_rfl) (.string key) (by go_simp) ?_
  simp only [Act.put, List.setIfInBounds_toArray, List.set_cons_zero, List.set_cons_succ]
  refine WL.val (by kernel_rfl) (.func (.func 55) #[] #[ptr qk]) (by go_simp) ?_
  simp only [Act.put, List.setIfInBounds_toArray, List.set_cons_zero, List.set_cons_succ]
  refine WL.callF (by kernel_rfl) 54 _ _ rfl Try.in54 #[.slice la n cap, .string key, .func (.func 55) #[] #[ptr qk]] (by simp [Act.eval]) ?_
  refine (bs_any la n cap at_ L kind key qk w1 hn HN.out (fun h => by obtain ⟨b, off, h1, h2⟩ := HC.out h; exact ⟨b, off, h1, (h2.below B1.out).mono B1.out.size⟩) HQ.out HA.out HAt.out).mono ?_
  rintro e w2 ⟨rfl, k1⟩
  refine ⟨_, rfl, ?_⟩
  rw [HF.out]
  have B2 : Keep (Below w.heap.size w w2) := ⟨B1.out.trans (k1.mono B1.out.size)⟩
  clear k1
  simp only [Act.put, List.setIfInBounds_toArray, List.set_cons_zero, List.set_cons_succ]
  refine WL.val (by kernel_rfl) (.tuple #[.int .i64 (at_ : Int), .bool true]) (by go_simp) ?_
  simp only [Act.put, List.setIfInBounds_toArray, List.set_cons_zero, List.set_cons_succ]
  refine WL.val (by kernel_rfl) (.int .i64 (at_ : Int)) (by go_simp) ?_
  simp only [Act.put, List.setIfInBounds_toArray, List.set_cons_zero, List.set_cons_succ]
  refine WL.val (by kernel_rfl) (.bool true) (by go_simp) ?_
  simp only [Act.put, List.setIfInBounds_toArray, List.set_cons_zero, List.set_cons_succ]
  refine WL.val (by kernel_rfl) (.int .i64 (at_ : Int)) (by go_simp) ?_
  simp only [Act.put, List.setIfInBounds_toArray, List.set_cons_zero, List.set_cons_succ]
  refine WL.val (by kernel_rfl) (.bool true) (by go_simp) ?_
  simp only [Act.put, List.setIfInBounds_toArray, List.set_cons_zero, List.set_cons_succ]
  refine WL.nil ?_
  refine hK2 _ _ ?_
  refine wp_seq_k fun K3 hK3 => ?_
  refine wp_seq_k fun K4 hK4 => ?_
  refine wp_region_list (WL.out ?_)
  refine WL.val (by kernel_rfl) (.bool true) (by go_simp) ?_
  simp only [Act.put, List.setIfInBounds_toArray, List.set_cons_zero, List.set_cons_succ]
  refine WL.nil ?_
  refine hK4 _ _ ?_
  refine wp_cond_true rfl ?_
  refine wp_seq_k fun K5 hK5 => ?_
  refine wp_region_list (WL.out ?_)
  refine WL.val (by kernel_rfl) (.int .i64 (at_ : Int)) (by go_simp) ?_
  simp only [Act.put, List.setIfInBounds_toArray, List.set_cons_zero, List.set_cons_succ]
  refine WL.bs (by kernel_rfl) 64 1 _ rfl #[(0, .int .i64 (at_ : Int))] (by simp [Act.eval]) _ _ (bsI1 (at_ : Int) w2) ?_
  have b_ := below_new w2 (.cells #[.int .i64 (at_ : Int)] 3)
  have Ng := Keep.mk (Blk.new w2 3 #[.int .i64 (at_ : Int)])
  generalize w2.alloc (.cells #[.int .i64 (at_ : Int)] 3) = w3 at *
  obtain ⟨g, hg⟩ : ∃ z, Keep (z = w2.heap.size) := ⟨_, ⟨rfl⟩⟩
  rw [← hg.out] at Ng ⊢
  have B3 : Keep (Below w.heap.size w w3) := ⟨B2.out.trans (b_.mono B2.out.size)⟩
  have gg : Keep (w.heap.size ≤ g) := ⟨by rw [hg.out]; exact B2.out.size⟩
  clear b_
  simp only [Act.put, List.setIfInBounds_toArray, List.set_cons_zero, List.set_cons_succ]
  refine WL.val (by kernel_rfl) (.slice (some ⟨g, 0, none⟩) 1 1) (by go_simp) ?_
  simp only [Act.put, List.setIfInBounds_toArray, List.set_cons_zero, List.set_cons_succ]
  refine WL.nil ?_
  refine hK5 _ _ ?_
  refine wp_ret ?_
  go_ret
  exact ⟨_, rfl, .inr ⟨g, 1, rfl, Ng.out.typ, fun j k hj => by rw [fnd, if_pos rfl] at hj; cases j with | zero => simp at hj; subst hj; exact Ng.out.c 0 rfl | succ j => simp at hj⟩, B3.out⟩
set_option maxRecDepth 8000 in
theorem ar_lo (la : Option Addr) (n cap at_ : Nat) (L : List CV) (kind : Int) (key : ByteArray) (w : World) (hn : Keep (L.length = n)) (HN : Keep (n ≤ 3600000000000)) (HC : Keep (0 < n → ∃ b off, la = some ⟨b, off, none⟩ ∧ CsAt w.heap.size w b off L)) (HA : Keep (at_ ≤ n)) (HAt : Keep (∀ (i : Nat) (c : CV), L[i]? = some c → (stI c.k c.s kind key < 0 ↔ i < at_))) (HF : Keep (fndB L at_ kind key = false)) (h0 : ¬ 0 < at_) (h1 : at_ < n) :
    Calls Try.prog 29 #[.slice la n cap, .int .i64 kind, .string key] w fun e w' => ∃ v, e = .returned v ∧ NsV w' v (fnd n at_ false) ∧ Below w.heap.size w w' := by
  have g0 : ¬ (at_ : Int) > 0 := by omega
  have g0' : ¬ 0 < (at_ : Int) := by omega
  have g1 : (at_ : Int) < (n : Int) := by omega
  go_enter Try.func29, Try.ntmps29
  refine wp_seq_k fun K1 hK1 => ?_
  refine wp_region_list (WL.out ?_)
  refine WL.boxV (by kernel_rfl) 3 (.tmp 1) rfl (.int .i64 kind) rfl (by rfl) ?_
  have K1 := Keep.mk (Blk.new w 3 #[.int .i64 kind])
  have b_ := below_new w (.cells #[.int .i64 kind] 3)
  change WL _ _ _ _ _ (w.alloc (.cells #[.int .i64 kind] 3))
  generalize w.alloc (.cells #[.int .i64 kind] 3) = w1 at *
  obtain ⟨qk, hqk0⟩ : ∃ z, Keep (z = w.heap.size) := ⟨_, ⟨rfl⟩⟩
  rw [← hqk0.out] at K1 ⊢
  have B1 : Keep (Below w.heap.size w w1) := ⟨b_⟩
  have gqk : Keep (w.heap.size ≤ qk) := ⟨by rw [hqk0.out]; exact Nat.le_refl _⟩
  clear b_
  have HQ : Keep (∀ wx, Below w1.heap.size w1 wx → wx.cell? ⟨qk, 0, none⟩ = some (.int .i64 kind)) := ⟨fun wx hb => (K1.out.below hb K1.out.lt).c 0 rfl⟩
  simp only [Act.put, List.setIfInBounds_toArray, List.set_cons_zero, List.set_cons_succ]
  refine WL.val (by kernel_rfl) (.slice none 0 0) (by go_simp) ?_
  simp only [Act.put, List.setIfInBounds_toArray, List.set_cons_zero, List.set_cons_succ]
  refine WL.nil ?_
  refine hK1 _ _ ?_
  refine wp_seq_k fun K2 hK2 => ?_
  refine wp_region_list (WL.out ?_)
  refine WL.val (by kernel_rfl) (.slice la n cap) (by go_simp) ?_
  simp only [Act.put, List.setIfInBounds_toArray, List.set_cons_zero, List.set_cons_succ]
  refine WL.val (by kernel_rfl) (.string key) (by go_simp) ?_
  simp only [Act.put, List.setIfInBounds_toArray, List.set_cons_zero, List.set_cons_succ]
  refine WL.val (by kernel_rfl) (.func (.func 55) #[] #[ptr qk]) (by go_simp) ?_
  simp only [Act.put, List.setIfInBounds_toArray, List.set_cons_zero, List.set_cons_succ]
  refine WL.callF (by kernel_rfl) 54 _ _ rfl Try.in54 #[.slice la n cap, .string key, .func (.func 55) #[] #[ptr qk]] (by simp [Act.eval]) ?_
  refine (bs_any la n cap at_ L kind key qk w1 hn HN.out (fun h => by obtain ⟨b, off, h1, h2⟩ := HC.out h; exact ⟨b, off, h1, (h2.below B1.out).mono B1.out.size⟩) HQ.out HA.out HAt.out).mono ?_
  rintro e w2 ⟨rfl, k1⟩
  refine ⟨_, rfl, ?_⟩
  rw [HF.out]
  have B2 : Keep (Below w.heap.size w w2) := ⟨B1.out.trans (k1.mono B1.out.size)⟩
  clear k1
  simp only [Act.put, List.setIfInBounds_toArray, List.set_cons_zero, List.set_cons_succ]
  refine WL.val (by kernel_rfl) (.tuple #[.int .i64 (at_ : Int), .bool false]) (by go_simp) ?_
  simp only [Act.put, List.setIfInBounds_toArray, List.set_cons_zero, List.set_cons_succ]
  refine WL.val (by kernel_rfl) (.int .i64 (at_ : Int)) (by go_simp) ?_
  simp only [Act.put, List.setIfInBounds_toArray, List.set_cons_zero, List.set_cons_succ]
  refine WL.val (by kernel_rfl) (.bool false) (by go_simp) ?_
  simp only [Act.put, List.setIfInBounds_toArray, List.set_cons_zero, List.set_cons_succ]
  refine WL.val (by kernel_rfl) (.int .i64 (at_ : Int)) (by go_simp) ?_
  simp only [Act.put, List.setIfInBounds_toArray, List.set_cons_zero, List.set_cons_succ]
  refine WL.val (by kernel_rfl) (.bool false) (by go_simp) ?_
  simp only [Act.put, List.setIfInBounds_toArray, List.set_cons_zero, List.set_cons_succ]
  refine WL.nil ?_
  refine hK2 _ _ ?_
  refine wp_seq_k fun K3 hK3 => ?_
  refine wp_seq_k fun K4 hK4 => ?_
  refine wp_region_list (WL.out ?_)
  refine WL.val (by kernel_rfl) (.bool false) (by go_simp) ?_
  simp only [Act.put, List.setIfInBounds_toArray, List.set_cons_zero, List.set_cons_succ]
  refine WL.nil ?_
  refine hK4 _ _ ?_
  refine wp_cond_false rfl ?_
  refine wp_skip ?_
  refine hK3 _ _ ?_
  refine wp_seq_k fun K5 hK5 => ?_
  refine wp_region_list (WL.out ?_)
  refine WL.val (by kernel_rfl) (.slice none 0 0) (by go_simp) ?_
  simp only [Act.put, List.setIfInBounds_toArray, List.set_cons_zero, List.set_cons_succ]
  refine WL.nil ?_
  refine hK5 _ _ ?_
  refine wp_seq_k fun K6 hK6 => ?_
  refine wp_seq_k fun K7 hK7 => ?_
  refine wp_region_list (WL.out ?_)
  refine WL.val (by kernel_rfl) (.int .i64 (at_ : Int)) (by go_simp) ?_
  simp only [Act.put, List.setIfInBounds_toArray, List.set_cons_zero, List.set_cons_succ]
  refine WL.val (by kernel_rfl) (.bool false) (by go_simp) ?_
  simp only [Act.put, List.setIfInBounds_toArray, List.set_cons_zero, List.set_cons_succ]
  refine WL.nil ?_
  refine hK7 _ _ ?_
  refine wp_cond_false rfl ?_
  refine wp_skip ?_
  refine hK6 _ _ ?_
  refine wp_seq_k fun K8 hK8 => ?_
  refine wp_seq_k fun K9 hK9 => ?_
  refine wp_region_list (WL.out ?_)
  refine WL.val (by kernel_rfl) (.int .i64 (at_ : Int)) (by go_simp) ?_
  simp only [Act.put, List.setIfInBounds_toArray, List.set_cons_zero, List.set_cons_succ]
  refine WL.val (by kernel_rfl) (.slice la n cap) (by go_simp) ?_
  simp only [Act.put, List.setIfInBounds_toArray, List.set_cons_zero, List.set_cons_succ]
  refine WL.val (by kernel_rfl) (.int .i64 (n : Int)) (by go_simp) ?_
  simp only [Act.put, List.setIfInBounds_toArray, List.set_cons_zero, List.set_cons_succ]
  refine WL.val (by kernel_rfl) (.bool true) (by go_simp) ?_
  simp only [Act.put, List.setIfInBounds_toArray, List.set_cons_zero, List.set_cons_succ]
  refine WL.nil ?_
  refine hK9 _ _ ?_
  refine wp_cond_true rfl ?_
  refine wp_region_list (WL.out ?_)
  refine WL.val (by kernel_rfl) (.slice none 0 0) (by go_simp) ?_
  simp only [Act.put, List.setIfInBounds_toArray, List.set_cons_zero, List.set_cons_succ]
  refine WL.val (by kernel_rfl) (.int .i64 (at_ : Int)) (by go_simp) ?_
  simp only [Act.put, List.setIfInBounds_toArray, List.set_cons_zero, List.set_cons_succ]
  refine WL.bs (by kernel_rfl) 64 1 _ rfl #[(0, .int .i64 (at_ : Int))] (by simp [Act.eval]) _ _ (bsI1 (at_ : Int) w2) ?_
  have b_ := below_new w2 (.cells #[.int .i64 (at_ : Int)] 3)
  have Nh := Keep.mk (Blk.new w2 3 #[.int .i64 (at_ : Int)])
  generalize w2.alloc (.cells #[.int .i64 (at_ : Int)] 3) = w5 at *
  obtain ⟨h, hh⟩ : ∃ z, Keep (z = w2.heap.size) := ⟨_, ⟨rfl⟩⟩
  rw [← hh.out] at Nh ⊢
  have B5 : Keep (Below w.heap.size w w5) := ⟨B2.out.trans (b_.mono B2.out.size)⟩
  have gh : Keep (w.heap.size ≤ h) := ⟨by rw [hh.out]; exact B2.out.size⟩
  have b5 := Keep.mk b_
  clear b_
  simp only [Act.put, List.setIfInBounds_toArray, List.set_cons_zero, List.set_cons_succ]
  refine WL.appI (by kernel_rfl) (.tmp 31) (.tmp 33) rfl (.slice none 0 0) w.heap.size 0 [] h (at_ : Int) rfl rfl ⟨rfl, .inl ⟨rfl, rfl⟩⟩ (Nh.out.c 0 rfl) (by omega) B5.out.size ?_
  intro v6 w6 k1 k2 k3
  have O6 : Keep (w6.ownsRow w.heap.size 3 1 v6 (0 + 1) ([] ++ [.int .i64 (at_ : Int)])) := ⟨k1⟩
  have B6 : Keep (Below w.heap.size w w6) := ⟨B5.out.trans (k2.to_below (fun k hk e => by
    simp [Value.ownBlock] at e) B5.out.size)⟩
  clear k1 k2 k3
  simp only [Act.put, List.setIfInBounds_toArray, List.set_cons_zero, List.set_cons_succ]
  refine WL.val (by kernel_rfl) (v6) (by go_simp) ?_
  simp only [Act.put, List.setIfInBounds_toArray, List.set_cons_zero, List.set_cons_succ]
  refine WL.nil ?_
  refine hK8 _ _ ?_
  refine wp_seq_k fun K10 hK10 => ?_
  refine wp_region_list (WL.out ?_)
  refine WL.val (by kernel_rfl) (v6) (by go_simp) ?_
  simp only [Act.put, List.setIfInBounds_toArray, List.set_cons_zero, List.set_cons_succ]
  refine WL.val (by kernel_rfl) (v6) (by go_simp) ?_
  simp only [Act.put, List.setIfInBounds_toArray, List.set_cons_zero, List.set_cons_succ]
  refine WL.nil ?_
  refine hK10 _ _ ?_
  refine wp_ret ?_
  go_ret
  have hfn : fnd n at_ false = [at_] := by simp [fnd, h0, h1]
  refine ⟨_, rfl, ?_, B6.out⟩
  rw [hfn]
  exact nsv_owns O6.out
set_option maxRecDepth 8000 in
theorem ar_hi (la : Option Addr) (n cap at_ : Nat) (L : List CV) (kind : Int) (key : ByteArray) (w : World) (hn : Keep (L.length = n)) (HN : Keep (n ≤ 3600000000000)) (HC : Keep (0 < n → ∃ b off, la = some ⟨b, off, none⟩ ∧ CsAt w.heap.size w b off L)) (HA : Keep (at_ ≤ n)) (HAt : Keep (∀ (i : Nat) (c : CV), L[i]? = some c → (stI c.k c.s kind key < 0 ↔ i < at_))) (HF : Keep (fndB L at_ kind key = false)) (h0 : 0 < at_) (h1 : ¬ at_ < n) :
    Calls Try.prog 29 #[.slice la n cap, .int .i64 kind, .string key] w fun e w' => ∃ v, e = .returned v ∧ NsV w' v (fnd n at_ false) ∧ Below w.heap.size w w' := by
  have g0 : (at_ : Int) > 0 := by omega
  have g1 : ¬ (at_ : Int) < (n : Int) := by omega
  have hw1 : IntKind.i64.wrap ((at_ : Int) - 1) = ((at_ - 1 : Nat) : Int) := by rw [IntKind.wrap_i64]; have := HN.out; have := HA.out; omega
  go_enter Try.func29, Try.ntmps29
  refine wp_seq_k fun K1 hK1 => ?_
  refine wp_region_list (WL.out ?_)
  refine WL.boxV (by kernel_rfl) 3 (.tmp 1) rfl (.int .i64 kind) rfl (by rfl) ?_
  have K1 := Keep.mk (Blk.new w 3 #[.int .i64 kind])
  have b_ := below_new w (.cells #[.int .i64 kind] 3)
  change WL _ _ _ _ _ (w.alloc (.cells #[.int .i64 kind] 3))
  generalize w.alloc (.cells #[.int .i64 kind] 3) = w1 at *
  obtain ⟨qk, hqk0⟩ : ∃ z, Keep (z = w.heap.size) := ⟨_, ⟨rfl⟩⟩
  rw [← hqk0.out] at K1 ⊢
  have B1 : Keep (Below w.heap.size w w1) := ⟨b_⟩
  have gqk : Keep (w.heap.size ≤ qk) := ⟨by rw [hqk0.out]; exact Nat.le_refl _⟩
  clear b_
  have HQ : Keep (∀ wx, Below w1.heap.size w1 wx → wx.cell? ⟨qk, 0, none⟩ = some (.int .i64 kind)) := ⟨fun wx hb => (K1.out.below hb K1.out.lt).c 0 rfl⟩
  simp only [Act.put, List.setIfInBounds_toArray, List.set_cons_zero, List.set_cons_succ]
  refine WL.val (by kernel_rfl) (.slice none 0 0) (by go_simp) ?_
  simp only [Act.put, List.setIfInBounds_toArray, List.set_cons_zero, List.set_cons_succ]
  refine WL.nil ?_
  refine hK1 _ _ ?_
  refine wp_seq_k fun K2 hK2 => ?_
  refine wp_region_list (WL.out ?_)
  refine WL.val (by kernel_rfl) (.slice la n cap) (by go_simp) ?_
  simp only [Act.put, List.setIfInBounds_toArray, List.set_cons_zero, List.set_cons_succ]
  refine WL.val (by kernel_rfl) (.string key) (by go_simp) ?_
  simp only [Act.put, List.setIfInBounds_toArray, List.set_cons_zero, List.set_cons_succ]
  refine WL.val (by kernel_rfl) (.func (.func 55) #[] #[ptr qk]) (by go_simp) ?_
  simp only [Act.put, List.setIfInBounds_toArray, List.set_cons_zero, List.set_cons_succ]
  refine WL.callF (by kernel_rfl) 54 _ _ rfl Try.in54 #[.slice la n cap, .string key, .func (.func 55) #[] #[ptr qk]] (by simp [Act.eval]) ?_
  refine (bs_any la n cap at_ L kind key qk w1 hn HN.out (fun h => by obtain ⟨b, off, h1, h2⟩ := HC.out h; exact ⟨b, off, h1, (h2.below B1.out).mono B1.out.size⟩) HQ.out HA.out HAt.out).mono ?_
  rintro e w2 ⟨rfl, k1⟩
  refine ⟨_, rfl, ?_⟩
  rw [HF.out]
  have B2 : Keep (Below w.heap.size w w2) := ⟨B1.out.trans (k1.mono B1.out.size)⟩
  clear k1
  simp only [Act.put, List.setIfInBounds_toArray, List.set_cons_zero, List.set_cons_succ]
  refine WL.val (by kernel_rfl) (.tuple #[.int .i64 (at_ : Int), .bool false]) (by go_simp) ?_
  simp only [Act.put, List.setIfInBounds_toArray, List.set_cons_zero, List.set_cons_succ]
  refine WL.val (by kernel_rfl) (.int .i64 (at_ : Int)) (by go_simp) ?_
  simp only [Act.put, List.setIfInBounds_toArray, List.set_cons_zero, List.set_cons_succ]
  refine WL.val (by kernel_rfl) (.bool false) (by go_simp) ?_
  simp only [Act.put, List.setIfInBounds_toArray, List.set_cons_zero, List.set_cons_succ]
  refine WL.val (by kernel_rfl) (.int .i64 (at_ : Int)) (by go_simp) ?_
  simp only [Act.put, List.setIfInBounds_toArray, List.set_cons_zero, List.set_cons_succ]
  refine WL.val (by kernel_rfl) (.bool false) (by go_simp) ?_
  simp only [Act.put, List.setIfInBounds_toArray, List.set_cons_zero, List.set_cons_succ]
  refine WL.nil ?_
  refine hK2 _ _ ?_
  refine wp_seq_k fun K3 hK3 => ?_
  refine wp_seq_k fun K4 hK4 => ?_
  refine wp_region_list (WL.out ?_)
  refine WL.val (by kernel_rfl) (.bool false) (by go_simp) ?_
  simp only [Act.put, List.setIfInBounds_toArray, List.set_cons_zero, List.set_cons_succ]
  refine WL.nil ?_
  refine hK4 _ _ ?_
  refine wp_cond_false rfl ?_
  refine wp_skip ?_
  refine hK3 _ _ ?_
  refine wp_seq_k fun K5 hK5 => ?_
  refine wp_region_list (WL.out ?_)
  refine WL.val (by kernel_rfl) (.slice none 0 0) (by go_simp) ?_
  simp only [Act.put, List.setIfInBounds_toArray, List.set_cons_zero, List.set_cons_succ]
  refine WL.nil ?_
  refine hK5 _ _ ?_
  refine wp_seq_k fun K6 hK6 => ?_
  refine wp_seq_k fun K7 hK7 => ?_
  refine wp_region_list (WL.out ?_)
  refine WL.val (by kernel_rfl) (.int .i64 (at_ : Int)) (by go_simp) ?_
  simp only [Act.put, List.setIfInBounds_toArray, List.set_cons_zero, List.set_cons_succ]
  refine WL.val (by kernel_rfl) (.bool true) (by go_simp) ?_
  simp only [Act.put, List.setIfInBounds_toArray, List.set_cons_zero, List.set_cons_succ]
  refine WL.nil ?_
  refine hK7 _ _ ?_
  refine wp_cond_true rfl ?_
  refine wp_region_list (WL.out ?_)
  refine WL.val (by kernel_rfl) (.slice none 0 0) (by go_simp) ?_
  simp only [Act.put, List.setIfInBounds_toArray, List.set_cons_zero, List.set_cons_succ]
  refine WL.val (by kernel_rfl) (.int .i64 (at_ : Int)) (by go_simp) ?_
  simp only [Act.put, List.setIfInBounds_toArray, List.set_cons_zero, List.set_cons_succ]
  refine WL.val (by kernel_rfl) (.int .i64 ((at_ - 1 : Nat) : Int)) (by go_simp) ?_
  simp only [Act.put, List.setIfInBounds_toArray, List.set_cons_zero, List.set_cons_succ]
  refine WL.bs (by kernel_rfl) 64 1 _ rfl #[(0, .int .i64 ((at_ - 1 : Nat) : Int))] (by simp [Act.eval]) _ _ (bsI1 ((at_ - 1 : Nat) : Int) w2) ?_
  have b_ := below_new w2 (.cells #[.int .i64 ((at_ - 1 : Nat) : Int)] 3)
  have Ng := Keep.mk (Blk.new w2 3 #[.int .i64 ((at_ - 1 : Nat) : Int)])
  generalize w2.alloc (.cells #[.int .i64 ((at_ - 1 : Nat) : Int)] 3) = w3 at *
  obtain ⟨g, hg⟩ : ∃ z, Keep (z = w2.heap.size) := ⟨_, ⟨rfl⟩⟩
  rw [← hg.out] at Ng ⊢
  have B3 : Keep (Below w.heap.size w w3) := ⟨B2.out.trans (b_.mono B2.out.size)⟩
  have gg : Keep (w.heap.size ≤ g) := ⟨by rw [hg.out]; exact B2.out.size⟩
  clear b_
  simp only [Act.put, List.setIfInBounds_toArray, List.set_cons_zero, List.set_cons_succ]
  refine WL.appI (by kernel_rfl) (.tmp 22) (.tmp 25) rfl (.slice none 0 0) w.heap.size 0 [] g ((at_ - 1 : Nat) : Int) rfl rfl ⟨rfl, .inl ⟨rfl, rfl⟩⟩ (Ng.out.c 0 rfl) (by omega) B3.out.size ?_
  intro v4 w4 k1 k2 k3
  have O4 : Keep (w4.ownsRow w.heap.size 3 1 v4 (0 + 1) ([] ++ [.int .i64 ((at_ - 1 : Nat) : Int)])) := ⟨k1⟩
  have B4 : Keep (Below w.heap.size w w4) := ⟨B3.out.trans (k2.to_below (fun k hk e => by
    simp [Value.ownBlock] at e) B3.out.size)⟩
  clear k1 k2 k3
  obtain ⟨va, vc, hv4⟩ := owns_sl O4.out
  subst hv4
  simp only [Act.put, List.setIfInBounds_toArray, List.set_cons_zero, List.set_cons_succ]
  refine WL.val (by kernel_rfl) (.slice va (0 + 1) vc) (by go_simp) ?_
  simp only [Act.put, List.setIfInBounds_toArray, List.set_cons_zero, List.set_cons_succ]
  refine WL.nil ?_
  refine hK6 _ _ ?_
  refine wp_seq_k fun K8 hK8 => ?_
  refine wp_seq_k fun K9 hK9 => ?_
  refine wp_region_list (WL.out ?_)
  refine WL.val (by kernel_rfl) (.int .i64 (at_ : Int)) (by go_simp) ?_
  simp only [Act.put, List.setIfInBounds_toArray, List.set_cons_zero, List.set_cons_succ]
  refine WL.val (by kernel_rfl) (.slice la n cap) (by go_simp) ?_
  simp only [Act.put, List.setIfInBounds_toArray, List.set_cons_zero, List.set_cons_succ]
  refine WL.val (by kernel_rfl) (.int .i64 (n : Int)) (by go_simp) ?_
  simp only [Act.put, List.setIfInBounds_toArray, List.set_cons_zero, List.set_cons_succ]
  refine WL.val (by kernel_rfl) (.bool false) (by go_simp) ?_
  simp only [Act.put, List.setIfInBounds_toArray, List.set_cons_zero, List.set_cons_succ]
  refine WL.nil ?_
  refine hK9 _ _ ?_
  refine wp_cond_false rfl ?_
  refine wp_skip ?_
  refine hK8 _ _ ?_
  refine wp_seq_k fun K10 hK10 => ?_
  refine wp_region_list (WL.out ?_)
  refine WL.val (by kernel_rfl) (.slice va (0 + 1) vc) (by go_simp) ?_
  simp only [Act.put, List.setIfInBounds_toArray, List.set_cons_zero, List.set_cons_succ]
  refine WL.val (by kernel_rfl) (.slice va (0 + 1) vc) (by go_simp) ?_
  simp only [Act.put, List.setIfInBounds_toArray, List.set_cons_zero, List.set_cons_succ]
  refine WL.nil ?_
  refine hK10 _ _ ?_
  refine wp_ret ?_
  go_ret
  have hfn : fnd n at_ false = [at_ - 1] := by simp [fnd, h0, h1]
  refine ⟨_, rfl, ?_, B4.out⟩
  rw [hfn]
  exact nsv_owns O4.out
set_option maxRecDepth 8000 in
theorem ar_mid (la : Option Addr) (n cap at_ : Nat) (L : List CV) (kind : Int) (key : ByteArray) (w : World) (hn : Keep (L.length = n)) (HN : Keep (n ≤ 3600000000000)) (HC : Keep (0 < n → ∃ b off, la = some ⟨b, off, none⟩ ∧ CsAt w.heap.size w b off L)) (HA : Keep (at_ ≤ n)) (HAt : Keep (∀ (i : Nat) (c : CV), L[i]? = some c → (stI c.k c.s kind key < 0 ↔ i < at_))) (HF : Keep (fndB L at_ kind key = false)) (h0 : 0 < at_) (h1 : at_ < n) :
    Calls Try.prog 29 #[.slice la n cap, .int .i64 kind, .string key] w fun e w' => ∃ v, e = .returned v ∧ NsV w' v (fnd n at_ false) ∧ Below w.heap.size w w' := by
  have g0 : (at_ : Int) > 0 := by omega
  have g1 : (at_ : Int) < (n : Int) := by omega
  have hw1 : IntKind.i64.wrap ((at_ : Int) - 1) = ((at_ - 1 : Nat) : Int) := by rw [IntKind.wrap_i64]; have := HN.out; have := HA.out; omega
  go_enter Try.func29, Try.ntmps29
  refine wp_seq_k fun K1 hK1 => ?_
  refine wp_region_list (WL.out ?_)
  refine WL.boxV (by kernel_rfl) 3 (.tmp 1) rfl (.int .i64 kind) rfl (by rfl) ?_
  have K1 := Keep.mk (Blk.new w 3 #[.int .i64 kind])
  have b_ := below_new w (.cells #[.int .i64 kind] 3)
  change WL _ _ _ _ _ (w.alloc (.cells #[.int .i64 kind] 3))
  generalize w.alloc (.cells #[.int .i64 kind] 3) = w1 at *
  obtain ⟨qk, hqk0⟩ : ∃ z, Keep (z = w.heap.size) := ⟨_, ⟨rfl⟩⟩
  rw [← hqk0.out] at K1 ⊢
  have B1 : Keep (Below w.heap.size w w1) := ⟨b_⟩
  have gqk : Keep (w.heap.size ≤ qk) := ⟨by rw [hqk0.out]; exact Nat.le_refl _⟩
  clear b_
  have HQ : Keep (∀ wx, Below w1.heap.size w1 wx → wx.cell? ⟨qk, 0, none⟩ = some (.int .i64 kind)) := ⟨fun wx hb => (K1.out.below hb K1.out.lt).c 0 rfl⟩
  simp only [Act.put, List.setIfInBounds_toArray, List.set_cons_zero, List.set_cons_succ]
  refine WL.val (by kernel_rfl) (.slice none 0 0) (by go_simp) ?_
  simp only [Act.put, List.setIfInBounds_toArray, List.set_cons_zero, List.set_cons_succ]
  refine WL.nil ?_
  refine hK1 _ _ ?_
  refine wp_seq_k fun K2 hK2 => ?_
  refine wp_region_list (WL.out ?_)
  refine WL.val (by kernel_rfl) (.slice la n cap) (by go_simp) ?_
  simp only [Act.put, List.setIfInBounds_toArray, List.set_cons_zero, List.set_cons_succ]
  refine WL.val (by kernel_rfl) (.string key) (by go_simp) ?_
  simp only [Act.put, List.setIfInBounds_toArray, List.set_cons_zero, List.set_cons_succ]
  refine WL.val (by kernel_rfl) (.func (.func 55) #[] #[ptr qk]) (by go_simp) ?_
  simp only [Act.put, List.setIfInBounds_toArray, List.set_cons_zero, List.set_cons_succ]
  refine WL.callF (by kernel_rfl) 54 _ _ rfl Try.in54 #[.slice la n cap, .string key, .func (.func 55) #[] #[ptr qk]] (by simp [Act.eval]) ?_
  refine (bs_any la n cap at_ L kind key qk w1 hn HN.out (fun h => by obtain ⟨b, off, h1, h2⟩ := HC.out h; exact ⟨b, off, h1, (h2.below B1.out).mono B1.out.size⟩) HQ.out HA.out HAt.out).mono ?_
  rintro e w2 ⟨rfl, k1⟩
  refine ⟨_, rfl, ?_⟩
  rw [HF.out]
  have B2 : Keep (Below w.heap.size w w2) := ⟨B1.out.trans (k1.mono B1.out.size)⟩
  clear k1
  simp only [Act.put, List.setIfInBounds_toArray, List.set_cons_zero, List.set_cons_succ]
  refine WL.val (by kernel_rfl) (.tuple #[.int .i64 (at_ : Int), .bool false]) (by go_simp) ?_
  simp only [Act.put, List.setIfInBounds_toArray, List.set_cons_zero, List.set_cons_succ]
  refine WL.val (by kernel_rfl) (.int .i64 (at_ : Int)) (by go_simp) ?_
  simp only [Act.put, List.setIfInBounds_toArray, List.set_cons_zero, List.set_cons_succ]
  refine WL.val (by kernel_rfl) (.bool false) (by go_simp) ?_
  simp only [Act.put, List.setIfInBounds_toArray, List.set_cons_zero, List.set_cons_succ]
  refine WL.val (by kernel_rfl) (.int .i64 (at_ : Int)) (by go_simp) ?_
  simp only [Act.put, List.setIfInBounds_toArray, List.set_cons_zero, List.set_cons_succ]
  refine WL.val (by kernel_rfl) (.bool false) (by go_simp) ?_
  simp only [Act.put, List.setIfInBounds_toArray, List.set_cons_zero, List.set_cons_succ]
  refine WL.nil ?_
  refine hK2 _ _ ?_
  refine wp_seq_k fun K3 hK3 => ?_
  refine wp_seq_k fun K4 hK4 => ?_
  refine wp_region_list (WL.out ?_)
  refine WL.val (by kernel_rfl) (.bool false) (by go_simp) ?_
  simp only [Act.put, List.setIfInBounds_toArray, List.set_cons_zero, List.set_cons_succ]
  refine WL.nil ?_
  refine hK4 _ _ ?_
  refine wp_cond_false rfl ?_
  refine wp_skip ?_
  refine hK3 _ _ ?_
  refine wp_seq_k fun K5 hK5 => ?_
  refine wp_region_list (WL.out ?_)
  refine WL.val (by kernel_rfl) (.slice none 0 0) (by go_simp) ?_
  simp only [Act.put, List.setIfInBounds_toArray, List.set_cons_zero, List.set_cons_succ]
  refine WL.nil ?_
  refine hK5 _ _ ?_
  refine wp_seq_k fun K6 hK6 => ?_
  refine wp_seq_k fun K7 hK7 => ?_
  refine wp_region_list (WL.out ?_)
  refine WL.val (by kernel_rfl) (.int .i64 (at_ : Int)) (by go_simp) ?_
  simp only [Act.put, List.setIfInBounds_toArray, List.set_cons_zero, List.set_cons_succ]
  refine WL.val (by kernel_rfl) (.bool true) (by go_simp) ?_
  simp only [Act.put, List.setIfInBounds_toArray, List.set_cons_zero, List.set_cons_succ]
  refine WL.nil ?_
  refine hK7 _ _ ?_
  refine wp_cond_true rfl ?_
  refine wp_region_list (WL.out ?_)
  refine WL.val (by kernel_rfl) (.slice none 0 0) (by go_simp) ?_
  simp only [Act.put, List.setIfInBounds_toArray, List.set_cons_zero, List.set_cons_succ]
  refine WL.val (by kernel_rfl) (.int .i64 (at_ : Int)) (by go_simp) ?_
  simp only [Act.put, List.setIfInBounds_toArray, List.set_cons_zero, List.set_cons_succ]
  refine WL.val (by kernel_rfl) (.int .i64 ((at_ - 1 : Nat) : Int)) (by go_simp) ?_
  simp only [Act.put, List.setIfInBounds_toArray, List.set_cons_zero, List.set_cons_succ]
  refine WL.bs (by kernel_rfl) 64 1 _ rfl #[(0, .int .i64 ((at_ - 1 : Nat) : Int))] (by simp [Act.eval]) _ _ (bsI1 ((at_ - 1 : Nat) : Int) w2) ?_
  have b_ := below_new w2 (.cells #[.int .i64 ((at_ - 1 : Nat) : Int)] 3)
  have Ng := Keep.mk (Blk.new w2 3 #[.int .i64 ((at_ - 1 : Nat) : Int)])
  generalize w2.alloc (.cells #[.int .i64 ((at_ - 1 : Nat) : Int)] 3) = w3 at *
  obtain ⟨g, hg⟩ : ∃ z, Keep (z = w2.heap.size) := ⟨_, ⟨rfl⟩⟩
  rw [← hg.out] at Ng ⊢
  have B3 : Keep (Below w.heap.size w w3) := ⟨B2.out.trans (b_.mono B2.out.size)⟩
  have gg : Keep (w.heap.size ≤ g) := ⟨by rw [hg.out]; exact B2.out.size⟩
  clear b_
  simp only [Act.put, List.setIfInBounds_toArray, List.set_cons_zero, List.set_cons_succ]
  refine WL.appI (by kernel_rfl) (.tmp 22) (.tmp 25) rfl (.slice none 0 0) w.heap.size 0 [] g ((at_ - 1 : Nat) : Int) rfl rfl ⟨rfl, .inl ⟨rfl, rfl⟩⟩ (Ng.out.c 0 rfl) (by omega) B3.out.size ?_
  intro v4 w4 k1 k2 k3
  have O4 : Keep (w4.ownsRow w.heap.size 3 1 v4 (0 + 1) ([] ++ [.int .i64 ((at_ - 1 : Nat) : Int)])) := ⟨k1⟩
  have B4 : Keep (Below w.heap.size w w4) := ⟨B3.out.trans (k2.to_below (fun k hk e => by
    simp [Value.ownBlock] at e) B3.out.size)⟩
  clear k1 k2 k3
  obtain ⟨va, vc, hv4⟩ := owns_sl O4.out
  subst hv4
  simp only [Act.put, List.setIfInBounds_toArray, List.set_cons_zero, List.set_cons_succ]
  refine WL.val (by kernel_rfl) (.slice va (0 + 1) vc) (by go_simp) ?_
  simp only [Act.put, List.setIfInBounds_toArray, List.set_cons_zero, List.set_cons_succ]
  refine WL.nil ?_
  refine hK6 _ _ ?_
  refine wp_seq_k fun K8 hK8 => ?_
  refine wp_seq_k fun K9 hK9 => ?_
  refine wp_region_list (WL.out ?_)
  refine WL.val (by kernel_rfl) (.int .i64 (at_ : Int)) (by go_simp) ?_
  simp only [Act.put, List.setIfInBounds_toArray, List.set_cons_zero, List.set_cons_succ]
  refine WL.val (by kernel_rfl) (.slice la n cap) (by go_simp) ?_
  simp only [Act.put, List.setIfInBounds_toArray, List.set_cons_zero, List.set_cons_succ]
  refine WL.val (by kernel_rfl) (.int .i64 (n : Int)) (by go_simp) ?_
  simp only [Act.put, List.setIfInBounds_toArray, List.set_cons_zero, List.set_cons_succ]
  refine WL.val (by kernel_rfl) (.bool true) (by go_simp) ?_
  simp only [Act.put, List.setIfInBounds_toArray, List.set_cons_zero, List.set_cons_succ]
  refine WL.nil ?_
  refine hK9 _ _ ?_
  refine wp_cond_true rfl ?_
  refine wp_region_list (WL.out ?_)
  refine WL.val (by kernel_rfl) (.slice va (0 + 1) vc) (by go_simp) ?_
  simp only [Act.put, List.setIfInBounds_toArray, List.set_cons_zero, List.set_cons_succ]
  refine WL.val (by kernel_rfl) (.int .i64 (at_ : Int)) (by go_simp) ?_
  simp only [Act.put, List.setIfInBounds_toArray, List.set_cons_zero, List.set_cons_succ]
  refine WL.bs (by kernel_rfl) 64 1 _ rfl #[(0, .int .i64 (at_ : Int))] (by simp [Act.eval]) _ _ (bsI1 (at_ : Int) w4) ?_
  have b_ := below_new w4 (.cells #[.int .i64 (at_ : Int)] 3)
  have Nh := Keep.mk (Blk.new w4 3 #[.int .i64 (at_ : Int)])
  generalize w4.alloc (.cells #[.int .i64 (at_ : Int)] 3) = w5 at *
  obtain ⟨h, hh⟩ : ∃ z, Keep (z = w4.heap.size) := ⟨_, ⟨rfl⟩⟩
  rw [← hh.out] at Nh ⊢
  have B5 : Keep (Below w.heap.size w w5) := ⟨B4.out.trans (b_.mono B4.out.size)⟩
  have gh : Keep (w.heap.size ≤ h) := ⟨by rw [hh.out]; exact B4.out.size⟩
  have b5 := Keep.mk b_
  clear b_
  simp only [Act.put, List.setIfInBounds_toArray, List.set_cons_zero, List.set_cons_succ]
  refine WL.appI (by kernel_rfl) (.tmp 31) (.tmp 33) rfl (.slice va (0 + 1) vc) w.heap.size (0 + 1) ([] ++ [.int .i64 ((at_ - 1 : Nat) : Int)]) h (at_ : Int) rfl rfl (owns_below O4.out b5.out) (Nh.out.c 0 rfl) (by omega) B5.out.size ?_
  intro v6 w6 k1 k2 k3
  have O6 : Keep (w6.ownsRow w.heap.size 3 1 v6 ((0 + 1) + 1) (([] ++ [.int .i64 ((at_ - 1 : Nat) : Int)]) ++ [.int .i64 (at_ : Int)])) := ⟨k1⟩
  have B6 : Keep (Below w.heap.size w w6) := ⟨B5.out.trans (k2.to_below (fun k hk e => by
    rcases O4.out.2 with ⟨h1, _⟩ | ⟨g9, c9, cur9, h1, h2, _⟩
    · rw [h1] at e; cases e
    · rw [h1] at e; injection e with e; subst e; exact absurd hk (Nat.not_lt.mpr h2)) B5.out.size)⟩
  clear k1 k2 k3
  simp only [Act.put, List.setIfInBounds_toArray, List.set_cons_zero, List.set_cons_succ]
  refine WL.val (by kernel_rfl) (v6) (by go_simp) ?_
  simp only [Act.put, List.setIfInBounds_toArray, List.set_cons_zero, List.set_cons_succ]
  refine WL.nil ?_
  refine hK8 _ _ ?_
  refine wp_seq_k fun K10 hK10 => ?_
  refine wp_region_list (WL.out ?_)
  refine WL.val (by kernel_rfl) (v6) (by go_simp) ?_
  simp only [Act.put, List.setIfInBounds_toArray, List.set_cons_zero, List.set_cons_succ]
  refine WL.val (by kernel_rfl) (v6) (by go_simp) ?_
  simp only [Act.put, List.setIfInBounds_toArray, List.set_cons_zero, List.set_cons_succ]
  refine WL.nil ?_
  refine hK10 _ _ ?_
  refine wp_ret ?_
  go_ret
  have hfn : fnd n at_ false = [at_ - 1, at_] := by simp [fnd, h0, h1]
  refine ⟨_, rfl, ?_, B6.out⟩
  rw [hfn]
  exact nsv_owns O6.out
theorem ar_any (la : Option Addr) (n cap at_ : Nat) (L : List CV) (kind : Int) (key : ByteArray) (w : World) (hn : L.length = n) (hn1 : 1 ≤ n) (hN : n ≤ 3600000000000) (hC : 0 < n → ∃ b off, la = some ⟨b, off, none⟩ ∧ CsAt w.heap.size w b off L) (hA : at_ ≤ n) (hAt : ∀ (i : Nat) (c : CV), L[i]? = some c → (stI c.k c.s kind key < 0 ↔ i < at_)) :
    Calls Try.prog 29 #[.slice la n cap, .int .i64 kind, .string key] w fun e w' => ∃ v, e = .returned v ∧ NsV w' v (fnd n at_ (fndB L at_ kind key)) ∧ Below w.heap.size w w' := by
  cases hF : fndB L at_ kind key
  · by_cases h0 : 0 < at_
    · by_cases h1 : at_ < n
      · exact ar_mid la n cap at_ L kind key w ⟨hn⟩ ⟨hN⟩ ⟨hC⟩ ⟨hA⟩ ⟨hAt⟩ ⟨hF⟩ h0 h1
      · exact ar_hi la n cap at_ L kind key w ⟨hn⟩ ⟨hN⟩ ⟨hC⟩ ⟨hA⟩ ⟨hAt⟩ ⟨hF⟩ h0 h1
    · exact ar_lo la n cap at_ L kind key w ⟨hn⟩ ⟨hN⟩ ⟨hC⟩ ⟨hA⟩ ⟨hAt⟩ ⟨hF⟩ h0 (by omega)
  · exact ar_is la n cap at_ L kind key w ⟨hn⟩ ⟨hN⟩ ⟨hC⟩ ⟨hA⟩ ⟨hAt⟩ ⟨hF⟩

end Go.Proofs.Ytjklmkeedhgncaa
