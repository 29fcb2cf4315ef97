import Derived.Test.YtdpcjfafbmhceaaA12
import Derived.Test.YtdpcjfafbmhceaaA07
import Derived.OwnWalk
set_option maxRecDepth 8000
set_option maxHeartbeats 1000000
namespace Go.Proofs.Ytdpcjfafbmhceaa
open Go.RowKit
set_option linter.unusedSimpArgs false
set_option linter.unusedVariables false
theorem Qv (w : World) (vs : Array Value) : (callFunc 28 vs).run Try.prog w = .ok (.enter 28 vs) w := by kernel_rfl
theorem zl {P : Program} {fn : Func} {p u u' : Tmp} {ty : TypeId} (h : fn.results = #[.cell p ty, .tmp u, .tmp u']) (tmps : Array Value) (w : World) (g : Nat) (t : TypeId) (cs : Array Value) (fr : Nat × Nat) (d : TypeDesc) (y y' : Value)
  (hp : tmps.getD p undef = .pointer (some ⟨g, 0, none⟩)) (hy : tmps.getD u undef = y) (hy' : tmps.getD u' undef = y') (hg : w.heap[g]? = some (.cells cs t fr))
  (hu : P.underlying ty = some d) (hd : (match d with | .struct _ | .array _ _ => true | _ => false) = true) (hi : (P.info? ty).map (·.size) = some cs.size) :
  (results fn tmps).run P w = .ok (.tuple #[.agg cs, y, y']) w := by
 have hr := run_loadVar_row (P := P) w g t ty cs fr d hg hu hd hi
 simp only [results, h]
 simp only [Array.getD_eq_getD_getElem?] at hp hy hy'
 simp [Result.andThen, asAddr, hp, hy, hy', hr]
theorem DC (ad : Addr) (n c : Nat) (w : World) : (binOp .eql 42 (.slice (some ad) n c) (.slice none 0 0)).run Try.prog w = .ok (.bool false) w := by kernel_rfl
theorem DB (w : World) : (binOp .eql 42 (.slice none 0 0) (.slice none 0 0)).run Try.prog w = .ok (.bool true) w := by kernel_rfl
theorem bsE (w : World) : (Instr.buildSlice 42 0 #[]).run Try.prog w = .ok (.slice (some ⟨w.heap.size, 0, none⟩) 0 0) (w.alloc (.cells #[] 5)) := by kernel_rfl
def CnP (l : List Int) (w : World) (e : Ending) (w' : World) : Prop := ∃ v, e = .returned v ∧ Own w' v l ∧ (∀ k, v.ownBlock = some k → w.heap.size ≤ k) ∧ Below w.heap.size w w'
theorem kr (ad : Addr) (vc : Nat) (l : List Int) (w : World) (hx : RowAt w (.slice (some ad) l.length vc) l) (hl : l.length ≤ 140737488355328) : Calls Try.prog 54 #[.slice (some ad) l.length vc] w (CnP l w) := by
 have HX := kk hx
 have HL := kk hl
 clear hx hl
 go_enter Try.func54, Try.ntmps54
 refine wp_seq_k fun K1 hK1 => rgn (Vv (.slice none 0 0) (h:=WL.nil (hK1 _ _ (wp_seq_k fun K2 hK2 => wp_seq_k fun K3 hK3 => rgn (Vv (.slice (some ad) l.length vc) (h:=?_))))))
 refine WL.val (by kernel_rfl) (.bool false) (by have hq_ := DC ad l.length vc w; go_simp) ?_
 simp only [Act.put, pqA, pqB, pqC]
 refine WL.nil (hK3 _ _ (Cf (h:=wp_skip (hK2 _ _ (wp_seq_k fun K4 hK4 => rgn (?_))))))
 refine WL.bs (by kernel_rfl) 42 0 _ rfl #[] (by simp [Act.eval]) _ _ (bsE w) ?_
 have b1 := kk (qg w (.cells #[] 5))
 have O1 := kk (Yv _ w.heap.size (Blk.new w 5 #[]))
 generalize w.alloc (.cells #[] 5) = w1 at *
 obtain ⟨g, hg⟩ := nm w
 rw [← hg.o] at O1 ⊢
 have Y1 := kk (HX.o.below b1.o)
 simp only [Act.put, pqA, pqB, pqC]
 refine VlS (.slice (some ad) l.length vc) ?_
 refine WL.app (by kernel_rfl) (.tmp 5) (.tmp 6) rfl (.slice (some ⟨g, 0, none⟩) 0 0) (.slice (some ad) l.length vc) [] l rfl rfl O1.o Y1.o (by simpa using HL.o) ?_
 intro v2 w2 hp
 have O2 : Keep (Own w2 v2 l) := ⟨by simpa using hp.1⟩
 have N2 : Keep (∀ k, v2.ownBlock = some k → w.heap.size ≤ k) := ⟨fun k hk => by
  rcases hp.moved with e | ⟨j, e, hj⟩
  ·rw [e] at hk; simp [Value.ownBlock] at hk; have := hg.o; omega
  ·rw [e] at hk; injection hk with hk; have := b1.o.size; omega⟩
 have B2 : Keep (Below w.heap.size w w2) := ⟨b1.o.trans (hp.grown.to_below (fun k hk e => by simp [Value.ownBlock] at e; have := hg.o; omega) b1.o.size)⟩
 clear hp
 simp only [Act.put, pqA, pqB, pqC]
 refine Vv (v2) (h:=WL.nil (hK4 _ _ (wp_ret ?_)))
 go_ret
 exact ⟨v2, rfl, O2.o, N2.o, B2.o⟩
theorem YT (w : World) : Calls Try.prog 54 #[.slice none 0 0] w (CnP [] w) := by
 go_enter Try.func54, Try.ntmps54
 refine wp_seq_k fun K1 hK1 => rgn (Vv (.slice none 0 0) (h:=WL.nil (hK1 _ _ (wp_seq_k fun K2 hK2 => wp_seq_k fun K3 hK3 => rgn (Vv (.slice none 0 0) (h:=?_))))))
 refine WL.val (by kernel_rfl) (.bool true) (by have hq_ := DB w; go_simp) ?_
 simp only [Act.put, pqA, pqB, pqC]
 refine WL.nil (hK3 _ _ (Ct (h:=wp_seq_k fun K4 hK4 => rgn (Vv (.slice none 0 0) (h:=WL.nil (hK4 _ _ (wp_ret ?_)))))))
 go_ret
 exact ⟨_, rfl, ju w, fun k hk => by simp [Value.ownBlock] at hk, Below.refl _ _⟩
theorem YU (v : Value) (l : List Int) (w : World) (hx : RowAt w v l) (hl : l.length ≤ 140737488355328) : Calls Try.prog 54 #[v] w (CnP l w) := by
 have hx0 := hx
 rcases hx with ⟨rfl, rfl⟩ | ⟨a, c, rfl, rfl⟩ | ⟨h, off, cap, rfl, _, _⟩
 ·exact YT w
 ·exact kr a c [] w hx0 hl
 ·exact kr _ cap l w hx0 hl
def OwP (c : CV) (w : World) (e : Ending) (w' : World) : Prop := ∃ v, e = .returned (.agg #[.int .i64 c.k, .string c.s, v]) ∧ Own w' v c.l ∧ (∀ k, v.ownBlock = some k → w.heap.size ≤ k) ∧ Below w.heap.size w w'
theorem ZJ (c : CV) (va : Option Addr) (vn vc : Nat) (w : World) (hx : RowAt w (.slice va vn vc) c.l) (hl : c.l.length ≤ 140737488355328) : Calls Try.prog 28 #[.agg #[.int .i64 c.k, .string c.s, .slice va vn vc]] w (OwP c w) := by
 have HX := kk hx
 have HL := kk hl
 clear hx hl
 go_enter Try.func28, Try.ntmps28
 refine wp_seq_k fun K1 hK1 => rgn (zH 44 (.tmp 0) #[.int .i64 c.k, .string c.s, .slice va vn vc] fun p w1 hp0 C1 b_ => ?_)
 have B1 : Keep (Below w.heap.size w w1) := ⟨b_⟩
 have gp := lh hp0
 clear b_
 refine zU 44 zK fun r w2 hr0 R2 b_ => ?_
 have C2 := kbx C1 b_
 have B2 := tb B1 b_
 have gr : Keep (w.heap.size ≤ r) := ⟨by rw [hr0.o]; exact B1.o.size⟩
 clear b_
 have npr : Keep (p ≠ r) := ⟨by have := C1.o.lt; have := hr0.o; omega⟩
 have c2 : w2.cell? ⟨p, 2, none⟩ = some (.slice va vn vc) := C2.o.c 2 rfl
 refine WL.nil (hK1 _ _ (wp_seq_k fun K2 hK2 => rgn (Vv (.pointer (some ⟨p, 2, none⟩)) (h:=Vv (.slice va vn vc) (h:=?_)))))
 clear c2
 refine ClS (vs := #[.slice va vn vc]) (YU _ c.l w2 (HX.o.below B2.o) HL.o) ?_
 rintro e w3 ⟨v3, rfl, k1, k2, k3⟩
 refine ⟨_, rfl, ?_⟩
 have O3 := kk k1
 have N3 : Keep (∀ k, v3.ownBlock = some k → w2.heap.size ≤ k) := ⟨k2⟩
 have C3 := kbx C2 k3
 have R3 := kbx R2 k3
 have B3 := tb B2 k3
 have hpl : Keep (p < w2.heap.size) := ⟨C2.o.lt⟩
 have hrl : Keep (r < w2.heap.size) := ⟨R2.o.lt⟩
 obtain ⟨xa, xn, xc, hxv⟩ := O3.o.sl
 subst hxv
 have f_o := C3.o.frozen 2
 have c_o : w3.cell? ⟨p, 2, none⟩ = some (.slice va vn vc) := C3.o.c 2 rfl
 clear k1 k2 k3 C2 R2
 refine VlS (.pointer (some ⟨p, 2, none⟩)) ?_
 refine WL.cell (by kernel_rfl) (w3.setCell ⟨p, 2, none⟩ (.slice xa xn xc)) (by go_simp) ?_
 clear f_o c_o
 have C4 : Keep (Blk (w3.setCell ⟨p, 2, none⟩ (.slice xa xn xc)) p 44 #[.int .i64 c.k, .string c.s, .slice xa xn xc]) := ⟨C3.o.set 2 (.slice xa xn xc)⟩
 have g_ : Grown w3 (w3.setCell ⟨p, 2, none⟩ (.slice xa xn xc)) (fun k => k = p) := Grown.setCell w3 p 2 _ fun _ => rfl
 have R4 := kk (g_.blk R3.o (fun e => npr.o e.symm))
 have O4 := kk (O3.o.grown g_ fun k hk e => by have := N3.o k hk; have := hpl.o; omega)
 have B4 : Keep (Below w.heap.size w (w3.setCell ⟨p, 2, none⟩ (.slice xa xn xc))) := ⟨B3.o.trans (g_.to_below (fun k hk e => by have := gp.o; omega) B3.o.size)⟩
 generalize w3.setCell ⟨p, 2, none⟩ (.slice xa xn xc) = w4 at *
 clear g_ C3 R3 O3 B3
 simp only [Act.put]
 refine WL.nil (hK2 _ _ (wp_seq_k fun K3 hK3 => rgn (Vr C4.o (qw _ _ _) (h:=?_))))
 refine StR #[.int .i64 c.k, .string c.s, .slice xa xn xc] R4.o (qw _ _ _) rfl (by simp [Value.oneCell']) ?_
 have R9 := kk (R4.o.setRow #[.int .i64 c.k, .string c.s, .slice xa xn xc])
 have g_ : Grown w4 (w4.setRow r #[.int .i64 c.k, .string c.s, .slice xa xn xc]) (fun k => k = r) := Grown.setRow w4 r #[.int .i64 c.k, .string c.s, .slice xa xn xc] fun _ => rfl
 have O9 := kk (O4.o.grown g_ fun k hk e => by have := N3.o k hk; have := hrl.o; omega)
 have B9 : Keep (Below w.heap.size w (w4.setRow r #[.int .i64 c.k, .string c.s, .slice xa xn xc])) := ⟨qf B4.o gr.o _⟩
 generalize w4.setRow r #[.int .i64 c.k, .string c.s, .slice xa xn xc] = w9 at *
 clear g_
 refine WL.nil (hK3 _ _ (wp_ret ?_))
 try simp only [Exit.inBlock, Exit.then]
 refine bodyPost_ret (v := .agg #[.int .i64 c.k, .string c.s, .slice xa xn xc]) (results_cell_row Try.results28 _ _ r 44 _ (0, 0) _ rfl R9.o Try.underlying44 rfl (qw _ _ _)) rfl ⟨.slice xa xn xc, rfl, O9.o, fun k hk => by have := N3.o k hk; have := B2.o.size; omega, B9.o⟩
theorem Ke (c : CV) (w : World) (hx : RowAt w c.v c.l) (hl : c.l.length ≤ 140737488355328) : Calls Try.prog 28 #[.agg (cvA c)] w (OwP c w) := by
 obtain ⟨va, vc, hv⟩ := qR hx
 unfold cvA
 rw [hv] at hx ⊢
 exact ZJ c va _ vc w hx hl
def XZ (root : Hs) (n kind : Int) (key : ByteArray) (ls : List LV) : Bool := jT n ls && (xZ n ls kind key && rtB n ls root)
def xY (root : Hs) (n kind : Int) (key : ByteArray) (ls : List LV) : Int := if zi kind then (if XZ root n kind key ls then 0 else 190) else 40
def xp (root : Hs) (n kind : Int) (key : ByteArray) (ls : List LV) : Bool := decide (xY root n kind key ls = 0) && jq ls kind key
def CkP (root : Hs) (n kind : Int) (key : ByteArray) (ls : List LV) (w : World) (e : Ending) (w' : World) : Prop :=
 ∃ c : CV, e = .returned (.tuple #[.agg (cvA c), .bool (xp root n kind key ls), .int .i64 (xY root n kind key ls)]) ∧ (Own w' c.v c.l ∧ ∀ k, c.v.ownBlock = some k → w.heap.size ≤ k) ∧ Below w.heap.size w w' ∧
  (xp root n kind key ls = false → c = ⟨0, ByteArray.empty, .slice none 0 0, []⟩) ∧ (∀ x, xp root n kind key ls = true → ls = [x] → c.k = x.c.k ∧ c.s = x.c.s ∧ c.l = x.c.l)
theorem Uq : Try.prog.built 44 [] = some #[.int .i64 0, .string ByteArray.empty, .slice none 0 0] := by kernel_rfl
theorem VI (v : Value) (n kind : Int) (key : ByteArray) (ls : List LV) (root : Hs) (w : World) (hL : LsV w.heap.size w v ls) (Hn : Keep (n < 9223372036854775808)) (hSm : SmL ls) (hkm : zi kind = false)  : Calls Try.prog 14 #[.agg (qb 32 root.f), .int .i64 kind, .string key, .agg (wtA n v)] w (CkP root n kind key ls w) := by
 have hE : Keep (xY root n kind key ls = 40) := ⟨by unfold xY; rw [hkm]; rfl⟩
 have hI : Keep (xp root n kind key ls = false) := ⟨by unfold xp; rw [hE.o]; rfl⟩
 have HL := kk hL
 have HSm := kk hSm
 clear hL hSm
 go_enter Try.func14, Try.ntmps14
 refine wp_seq_k fun K1 hK1 => rgn (zH 32 (.tmp 0) (qb 32 root.f) fun q w1 hq0 Q1 b_ => ?_)
 have B1 : Keep (Below w.heap.size w w1) := ⟨b_⟩
 have gq := lh hq0
 clear b_
 refine zH 25 (.tmp 3) (wtA n v) fun d w2 hd0 D2 b_ => ?_
 have Q2 := kbx Q1 b_
 have B2 := tb B1 b_
 have gd : Keep (w.heap.size ≤ d) := ⟨by rw [hd0.o]; exact B1.o.size⟩
 clear b_
 refine zU 44 zK fun r w3 hr0 R3 b_ => ?_
 have Q3 := kbx Q2 b_
 have D3 := kbx D2 b_
 have B3 := tb B2 b_
 have gr : Keep (w.heap.size ≤ r) := ⟨by rw [hr0.o]; exact B2.o.size⟩
 clear b_
 refine Vf (h:=Vv (.int .i64 0) (h:=WL.nil (hK1 _ _ (wp_seq_k fun K2 hK2 => wp_seq_k fun K3 hK3 => rgn (Vv (.int .i64 kind) (h:=ClS (vs := #[.int .i64 kind]) (zL kind _) ?_))))))
 rintro e w1_ ⟨rfl, hw_⟩
 refine ⟨_, rfl, ?_⟩
 have hw_ := hw_.symm
 subst hw_
 rw [hkm]
 refine Vt (h:=WL.nil (hK3 _ _ (Ct (h:=wp_seq_k fun K4 hK4 => rgn (?_)))))
 refine WL.bld (by kernel_rfl) 44 #[] rfl [] (by simp) #[.int .i64 0, .string ByteArray.empty, .slice none 0 0] Uq ?_
 simp only [Act.put, pqA, pqB, pqC]
 refine StR #[.int .i64 0, .string ByteArray.empty, .slice none 0 0] R3.o (qw _ _ _) rfl (by simp [Value.oneCell']) ?_
 have R9 := kk (R3.o.setRow #[.int .i64 0, .string ByteArray.empty, .slice none 0 0])
 have B9 : Keep (Below w.heap.size w (w3.setRow r #[.int .i64 0, .string ByteArray.empty, .slice none 0 0])) := ⟨qf B3.o gr.o _⟩
 generalize w3.setRow r #[.int .i64 0, .string ByteArray.empty, .slice none 0 0] = w9 at *
 refine Vf (h:=Vv (.int .i64 40) (h:=WL.nil (hK4 _ _ (wp_ret ?_))))
 try simp only [Exit.inBlock, Exit.then]
 refine bodyPost_ret (v := .tuple #[.agg #[.int .i64 0, .string ByteArray.empty, .slice none 0 0], .bool false, .int .i64 40]) (zl Try.results14 _ _ r 44 _ (0, 0) _ _ _ rfl rfl rfl R9.o Try.underlying44 rfl (qw _ _ _)) rfl ⟨⟨0, ByteArray.empty, .slice none 0 0, []⟩, ?_, ⟨ju w9, fun k hk => by simp [Value.ownBlock] at hk⟩, B9.o, fun _ => rfl, ?_⟩
 ·rw [hE.o, hI.o]; rfl
 ·rw [hI.o]; intro y h; cases h
theorem VJ (v : Value) (n kind : Int) (key : ByteArray) (ls : List LV) (root : Hs) (w : World) (hL : LsV w.heap.size w v ls) (Hn : Keep (n < 9223372036854775808)) (hSm : SmL ls) (hkm : zi kind = true) (hfo : Keep (jT n ls = false)) : Calls Try.prog 14 #[.agg (qb 32 root.f), .int .i64 kind, .string key, .agg (wtA n v)] w (CkP root n kind key ls w) := by
 have hE : Keep (xY root n kind key ls = 190) := ⟨by unfold xY XZ; rw [hkm, hfo.o]; rfl⟩
 have hI : Keep (xp root n kind key ls = false) := ⟨by unfold xp; rw [hE.o]; rfl⟩
 have HL := kk hL
 have HSm := kk hSm
 clear hL hSm
 go_enter Try.func14, Try.ntmps14
 refine wp_seq_k fun K1 hK1 => rgn (zH 32 (.tmp 0) (qb 32 root.f) fun q w1 hq0 Q1 b_ => ?_)
 have B1 : Keep (Below w.heap.size w w1) := ⟨b_⟩
 have gq := lh hq0
 clear b_
 refine zH 25 (.tmp 3) (wtA n v) fun d w2 hd0 D2 b_ => ?_
 have Q2 := kbx Q1 b_
 have B2 := tb B1 b_
 have gd : Keep (w.heap.size ≤ d) := ⟨by rw [hd0.o]; exact B1.o.size⟩
 clear b_
 refine zU 44 zK fun r w3 hr0 R3 b_ => ?_
 have Q3 := kbx Q2 b_
 have D3 := kbx D2 b_
 have B3 := tb B2 b_
 have gr : Keep (w.heap.size ≤ r) := ⟨by rw [hr0.o]; exact B2.o.size⟩
 clear b_
 refine Vf (h:=Vv (.int .i64 0) (h:=WL.nil (hK1 _ _ (wp_seq_k fun K2 hK2 => wp_seq_k fun K3 hK3 => rgn (Vv (.int .i64 kind) (h:=ClS (vs := #[.int .i64 kind]) (zL kind _) ?_))))))
 rintro e w1_ ⟨rfl, hw_⟩
 refine ⟨_, rfl, ?_⟩
 have hw_ := hw_.symm
 subst hw_
 rw [hkm]
 refine Vf (h:=WL.nil (hK3 _ _ (Cf (h:=wp_skip (hK2 _ _ (wp_seq_k fun K4 hK4 => wp_seq_k fun K5 hK5 => rgn (?_)))))))
 refine WL.row (by kernel_rfl) 25 (.tmp 7) rfl d rfl 25 (wtA n v) _ D3.o Try.underlying25 rfl (by rfl) ?_
 simp only [Act.put, pqA, pqB, pqC]
 refine ClS (jG v n ls w3 ((HL.o.below B3.o).mono B3.o.size)) ?_
 rintro e w4 ⟨rfl, k1⟩
 refine ⟨_, rfl, ?_⟩
 rw [hfo.o]
 have Q4 := kbx Q3 k1
 have D4 := kbx D3 k1
 have R4 := kbx R3 k1
 have B4 := tb B3 k1
 clear k1 Q3 D3 R3 B3
 refine Vt (h:=Vt (h:=Vs (h:=Vs (h:=Vs (h:=Vs (h:=Vs (h:=Vt (h:=Vt (h:=Vs (h:=Vs (h:=Vs (h:=Vs (h:=Vt (h:=?_))))))))))))))
 refine WL.nil (hK5 _ _ (Ct (h:=wp_seq_k fun K6 hK6 => rgn (?_))))
 refine WL.bld (by kernel_rfl) 44 #[] rfl [] (by simp) #[.int .i64 0, .string ByteArray.empty, .slice none 0 0] Uq ?_
 simp only [Act.put, pqA, pqB, pqC]
 refine StR #[.int .i64 0, .string ByteArray.empty, .slice none 0 0] R4.o (qw _ _ _) rfl (by simp [Value.oneCell']) ?_
 have R9 := kk (R4.o.setRow #[.int .i64 0, .string ByteArray.empty, .slice none 0 0])
 have B9 : Keep (Below w.heap.size w (w4.setRow r #[.int .i64 0, .string ByteArray.empty, .slice none 0 0])) := ⟨qf B4.o gr.o _⟩
 generalize w4.setRow r #[.int .i64 0, .string ByteArray.empty, .slice none 0 0] = w9 at *
 refine Vf (h:=Vv (.int .i64 190) (h:=WL.nil (hK6 _ _ (wp_ret ?_))))
 try simp only [Exit.inBlock, Exit.then]
 refine bodyPost_ret (v := .tuple #[.agg #[.int .i64 0, .string ByteArray.empty, .slice none 0 0], .bool false, .int .i64 190]) (zl Try.results14 _ _ r 44 _ (0, 0) _ _ _ rfl rfl rfl R9.o Try.underlying44 rfl (qw _ _ _)) rfl ⟨⟨0, ByteArray.empty, .slice none 0 0, []⟩, ?_, ⟨ju w9, fun k hk => by simp [Value.ownBlock] at hk⟩, B9.o, fun _ => rfl, ?_⟩
 ·rw [hE.o, hI.o]; rfl
 ·rw [hI.o]; intro y h; cases h
theorem GM (v : Value) (n kind : Int) (key : ByteArray) (ls : List LV) (root : Hs) (w : World) (hL : LsV w.heap.size w v ls) (Hn : Keep (n < 9223372036854775808)) (hSm : SmL ls) (hkm : zi kind = true) (hfo : Keep (jT n ls = true)) (han : Keep (xZ n ls kind key = false)) : Calls Try.prog 14 #[.agg (qb 32 root.f), .int .i64 kind, .string key, .agg (wtA n v)] w (CkP root n kind key ls w) := by
 have hE : Keep (xY root n kind key ls = 190) := ⟨by unfold xY XZ; rw [hkm, hfo.o, han.o]; rfl⟩
 have hI : Keep (xp root n kind key ls = false) := ⟨by unfold xp; rw [hE.o]; rfl⟩
 have HL := kk hL
 have HSm := kk hSm
 clear hL hSm
 go_enter Try.func14, Try.ntmps14
 refine wp_seq_k fun K1 hK1 => rgn (zH 32 (.tmp 0) (qb 32 root.f) fun q w1 hq0 Q1 b_ => ?_)
 have B1 : Keep (Below w.heap.size w w1) := ⟨b_⟩
 have gq := lh hq0
 clear b_
 refine zH 25 (.tmp 3) (wtA n v) fun d w2 hd0 D2 b_ => ?_
 have Q2 := kbx Q1 b_
 have B2 := tb B1 b_
 have gd : Keep (w.heap.size ≤ d) := ⟨by rw [hd0.o]; exact B1.o.size⟩
 clear b_
 refine zU 44 zK fun r w3 hr0 R3 b_ => ?_
 have Q3 := kbx Q2 b_
 have D3 := kbx D2 b_
 have B3 := tb B2 b_
 have gr : Keep (w.heap.size ≤ r) := ⟨by rw [hr0.o]; exact B2.o.size⟩
 clear b_
 refine Vf (h:=Vv (.int .i64 0) (h:=WL.nil (hK1 _ _ (wp_seq_k fun K2 hK2 => wp_seq_k fun K3 hK3 => rgn (Vv (.int .i64 kind) (h:=ClS (vs := #[.int .i64 kind]) (zL kind _) ?_))))))
 rintro e w1_ ⟨rfl, hw_⟩
 refine ⟨_, rfl, ?_⟩
 have hw_ := hw_.symm
 subst hw_
 rw [hkm]
 refine Vf (h:=WL.nil (hK3 _ _ (Cf (h:=wp_skip (hK2 _ _ (wp_seq_k fun K4 hK4 => wp_seq_k fun K5 hK5 => rgn (?_)))))))
 refine WL.row (by kernel_rfl) 25 (.tmp 7) rfl d rfl 25 (wtA n v) _ D3.o Try.underlying25 rfl (by rfl) ?_
 simp only [Act.put, pqA, pqB, pqC]
 refine ClS (jG v n ls w3 ((HL.o.below B3.o).mono B3.o.size)) ?_
 rintro e w4 ⟨rfl, k1⟩
 refine ⟨_, rfl, ?_⟩
 rw [hfo.o]
 have Q4 := kbx Q3 k1
 have D4 := kbx D3 k1
 have R4 := kbx R3 k1
 have B4 := tb B3 k1
 clear k1 Q3 D3 R3 B3
 refine Vf (h:=Vf (h:=?_))
 refine WL.row (by kernel_rfl) 25 (.tmp 7) rfl d rfl 25 (wtA n v) _ D4.o Try.underlying25 rfl (by rfl) ?_
 simp only [Act.put, pqA, pqB, pqC]
 refine Vv (.int .i64 kind) (h:=Vv (.string key) (h:=ClS (jL v n kind key ls w4 ((HL.o.below B4.o).mono B4.o.size) hfo.o Hn.o) ?_))
 rintro e w5 ⟨rfl, k1⟩
 refine ⟨_, rfl, ?_⟩
 rw [han.o]
 have Q5 := kbx Q4 k1
 have D5 := kbx D4 k1
 have R5 := kbx R4 k1
 have B5 := tb B4 k1
 clear k1 Q4 D4 R4 B4
 refine Vt (h:=Vt (h:=Vt (h:=Vs (h:=Vs (h:=Vs (h:=Vs (h:=Vt (h:=WL.nil (hK5 _ _ (Ct (h:=wp_seq_k fun K6 hK6 => rgn (?_))))))))))))
 refine WL.bld (by kernel_rfl) 44 #[] rfl [] (by simp) #[.int .i64 0, .string ByteArray.empty, .slice none 0 0] Uq ?_
 simp only [Act.put, pqA, pqB, pqC]
 refine StR #[.int .i64 0, .string ByteArray.empty, .slice none 0 0] R5.o (qw _ _ _) rfl (by simp [Value.oneCell']) ?_
 have R9 := kk (R5.o.setRow #[.int .i64 0, .string ByteArray.empty, .slice none 0 0])
 have B9 : Keep (Below w.heap.size w (w5.setRow r #[.int .i64 0, .string ByteArray.empty, .slice none 0 0])) := ⟨qf B5.o gr.o _⟩
 generalize w5.setRow r #[.int .i64 0, .string ByteArray.empty, .slice none 0 0] = w9 at *
 refine Vf (h:=Vv (.int .i64 190) (h:=WL.nil (hK6 _ _ (wp_ret ?_))))
 try simp only [Exit.inBlock, Exit.then]
 refine bodyPost_ret (v := .tuple #[.agg #[.int .i64 0, .string ByteArray.empty, .slice none 0 0], .bool false, .int .i64 190]) (zl Try.results14 _ _ r 44 _ (0, 0) _ _ _ rfl rfl rfl R9.o Try.underlying44 rfl (qw _ _ _)) rfl ⟨⟨0, ByteArray.empty, .slice none 0 0, []⟩, ?_, ⟨ju w9, fun k hk => by simp [Value.ownBlock] at hk⟩, B9.o, fun _ => rfl, ?_⟩
 ·rw [hE.o, hI.o]; rfl
 ·rw [hI.o]; intro y h; cases h
theorem VH (v : Value) (n kind : Int) (key : ByteArray) (ls : List LV) (root : Hs) (w : World) (hL : LsV w.heap.size w v ls) (Hn : Keep (n < 9223372036854775808)) (hSm : SmL ls) (hkm : zi kind = true) (hfo : Keep (jT n ls = true)) (han : Keep (xZ n ls kind key = true)) (hrt : Keep (rtB n ls root = false)) : Calls Try.prog 14 #[.agg (qb 32 root.f), .int .i64 kind, .string key, .agg (wtA n v)] w (CkP root n kind key ls w) := by
 have hE : Keep (xY root n kind key ls = 190) := ⟨by unfold xY XZ; rw [hkm, hfo.o, han.o, hrt.o]; rfl⟩
 have hI : Keep (xp root n kind key ls = false) := ⟨by unfold xp; rw [hE.o]; rfl⟩
 have HL := kk hL
 have HSm := kk hSm
 clear hL hSm
 go_enter Try.func14, Try.ntmps14
 refine wp_seq_k fun K1 hK1 => rgn (zH 32 (.tmp 0) (qb 32 root.f) fun q w1 hq0 Q1 b_ => ?_)
 have B1 : Keep (Below w.heap.size w w1) := ⟨b_⟩
 have gq := lh hq0
 clear b_
 refine zH 25 (.tmp 3) (wtA n v) fun d w2 hd0 D2 b_ => ?_
 have Q2 := kbx Q1 b_
 have B2 := tb B1 b_
 have gd : Keep (w.heap.size ≤ d) := ⟨by rw [hd0.o]; exact B1.o.size⟩
 clear b_
 refine zU 44 zK fun r w3 hr0 R3 b_ => ?_
 have Q3 := kbx Q2 b_
 have D3 := kbx D2 b_
 have B3 := tb B2 b_
 have gr : Keep (w.heap.size ≤ r) := ⟨by rw [hr0.o]; exact B2.o.size⟩
 clear b_
 refine Vf (h:=Vv (.int .i64 0) (h:=WL.nil (hK1 _ _ (wp_seq_k fun K2 hK2 => wp_seq_k fun K3 hK3 => rgn (Vv (.int .i64 kind) (h:=ClS (vs := #[.int .i64 kind]) (zL kind _) ?_))))))
 rintro e w1_ ⟨rfl, hw_⟩
 refine ⟨_, rfl, ?_⟩
 have hw_ := hw_.symm
 subst hw_
 rw [hkm]
 refine Vf (h:=WL.nil (hK3 _ _ (Cf (h:=wp_skip (hK2 _ _ (wp_seq_k fun K4 hK4 => wp_seq_k fun K5 hK5 => rgn (?_)))))))
 refine WL.row (by kernel_rfl) 25 (.tmp 7) rfl d rfl 25 (wtA n v) _ D3.o Try.underlying25 rfl (by rfl) ?_
 simp only [Act.put, pqA, pqB, pqC]
 refine ClS (jG v n ls w3 ((HL.o.below B3.o).mono B3.o.size)) ?_
 rintro e w4 ⟨rfl, k1⟩
 refine ⟨_, rfl, ?_⟩
 rw [hfo.o]
 have Q4 := kbx Q3 k1
 have D4 := kbx D3 k1
 have R4 := kbx R3 k1
 have B4 := tb B3 k1
 clear k1 Q3 D3 R3 B3
 refine Vf (h:=Vf (h:=?_))
 refine WL.row (by kernel_rfl) 25 (.tmp 7) rfl d rfl 25 (wtA n v) _ D4.o Try.underlying25 rfl (by rfl) ?_
 simp only [Act.put, pqA, pqB, pqC]
 refine Vv (.int .i64 kind) (h:=Vv (.string key) (h:=ClS (jL v n kind key ls w4 ((HL.o.below B4.o).mono B4.o.size) hfo.o Hn.o) ?_))
 rintro e w5 ⟨rfl, k1⟩
 refine ⟨_, rfl, ?_⟩
 rw [han.o]
 have Q5 := kbx Q4 k1
 have D5 := kbx D4 k1
 have R5 := kbx R4 k1
 have B5 := tb B4 k1
 clear k1 Q4 D4 R4 B4
 refine Vf (h:=Vf (h:=Vf (h:=?_)))
 refine WL.row (by kernel_rfl) 25 (.tmp 7) rfl d rfl 25 (wtA n v) _ D5.o Try.underlying25 rfl (by rfl) ?_
 simp only [Act.put, pqA, pqB, pqC]
 refine Vr Q5.o (qd _) (h:=ClS (yk v n ls root w5 ((HL.o.below B5.o).mono B5.o.size) hfo.o Hn.o HSm.o) ?_)
 rintro e w6 ⟨rfl, k1⟩
 refine ⟨_, rfl, ?_⟩
 rw [hrt.o]
 have Q6 := kbx Q5 k1
 have D6 := kbx D5 k1
 have R6 := kbx R5 k1
 have B6 := tb B5 k1
 clear k1 Q5 D5 R5 B5
 refine Vt (h:=Vt (h:=WL.nil (hK5 _ _ (Ct (h:=wp_seq_k fun K6 hK6 => rgn (?_))))))
 refine WL.bld (by kernel_rfl) 44 #[] rfl [] (by simp) #[.int .i64 0, .string ByteArray.empty, .slice none 0 0] Uq ?_
 simp only [Act.put, pqA, pqB, pqC]
 refine StR #[.int .i64 0, .string ByteArray.empty, .slice none 0 0] R6.o (qw _ _ _) rfl (by simp [Value.oneCell']) ?_
 have R9 := kk (R6.o.setRow #[.int .i64 0, .string ByteArray.empty, .slice none 0 0])
 have B9 : Keep (Below w.heap.size w (w6.setRow r #[.int .i64 0, .string ByteArray.empty, .slice none 0 0])) := ⟨qf B6.o gr.o _⟩
 generalize w6.setRow r #[.int .i64 0, .string ByteArray.empty, .slice none 0 0] = w9 at *
 refine Vf (h:=Vv (.int .i64 190) (h:=WL.nil (hK6 _ _ (wp_ret ?_))))
 try simp only [Exit.inBlock, Exit.then]
 refine bodyPost_ret (v := .tuple #[.agg #[.int .i64 0, .string ByteArray.empty, .slice none 0 0], .bool false, .int .i64 190]) (zl Try.results14 _ _ r 44 _ (0, 0) _ _ _ rfl rfl rfl R9.o Try.underlying44 rfl (qw _ _ _)) rfl ⟨⟨0, ByteArray.empty, .slice none 0 0, []⟩, ?_, ⟨ju w9, fun k hk => by simp [Value.ownBlock] at hk⟩, B9.o, fun _ => rfl, ?_⟩
 ·rw [hE.o, hI.o]; rfl
 ·rw [hI.o]; intro y h; cases h
theorem Di (v : Value) (n kind : Int) (key : ByteArray) (ls : List LV) (root : Hs) (w : World) (hL : LsV w.heap.size w v ls) (Hn : Keep (n < 9223372036854775808)) (hSm : SmL ls) (hkm : zi kind = true) (hfo : Keep (jT n ls = true)) (han : Keep (xZ n ls kind key = true)) (hrt : Keep (rtB n ls root = true)) (hte : Keep (jq ls kind key = false)) : Calls Try.prog 14 #[.agg (qb 32 root.f), .int .i64 kind, .string key, .agg (wtA n v)] w (CkP root n kind key ls w) := by
 have hE : Keep (xY root n kind key ls = 0) := ⟨by unfold xY XZ; rw [hkm, hfo.o, han.o, hrt.o]; rfl⟩
 have hI : Keep (xp root n kind key ls = false) := ⟨by unfold xp; rw [hE.o]; rw [hte.o]; rfl⟩
 have HL := kk hL
 have HSm := kk hSm
 clear hL hSm
 go_enter Try.func14, Try.ntmps14
 refine wp_seq_k fun K1 hK1 => rgn (zH 32 (.tmp 0) (qb 32 root.f) fun q w1 hq0 Q1 b_ => ?_)
 have B1 : Keep (Below w.heap.size w w1) := ⟨b_⟩
 have gq := lh hq0
 clear b_
 refine zH 25 (.tmp 3) (wtA n v) fun d w2 hd0 D2 b_ => ?_
 have Q2 := kbx Q1 b_
 have B2 := tb B1 b_
 have gd : Keep (w.heap.size ≤ d) := ⟨by rw [hd0.o]; exact B1.o.size⟩
 clear b_
 refine zU 44 zK fun r w3 hr0 R3 b_ => ?_
 have Q3 := kbx Q2 b_
 have D3 := kbx D2 b_
 have B3 := tb B2 b_
 have gr : Keep (w.heap.size ≤ r) := ⟨by rw [hr0.o]; exact B2.o.size⟩
 clear b_
 refine Vf (h:=Vv (.int .i64 0) (h:=WL.nil (hK1 _ _ (wp_seq_k fun K2 hK2 => wp_seq_k fun K3 hK3 => rgn (Vv (.int .i64 kind) (h:=ClS (vs := #[.int .i64 kind]) (zL kind _) ?_))))))
 rintro e w1_ ⟨rfl, hw_⟩
 refine ⟨_, rfl, ?_⟩
 have hw_ := hw_.symm
 subst hw_
 rw [hkm]
 refine Vf (h:=WL.nil (hK3 _ _ (Cf (h:=wp_skip (hK2 _ _ (wp_seq_k fun K4 hK4 => wp_seq_k fun K5 hK5 => rgn (?_)))))))
 refine WL.row (by kernel_rfl) 25 (.tmp 7) rfl d rfl 25 (wtA n v) _ D3.o Try.underlying25 rfl (by rfl) ?_
 simp only [Act.put, pqA, pqB, pqC]
 refine ClS (jG v n ls w3 ((HL.o.below B3.o).mono B3.o.size)) ?_
 rintro e w4 ⟨rfl, k1⟩
 refine ⟨_, rfl, ?_⟩
 rw [hfo.o]
 have Q4 := kbx Q3 k1
 have D4 := kbx D3 k1
 have R4 := kbx R3 k1
 have B4 := tb B3 k1
 clear k1 Q3 D3 R3 B3
 refine Vf (h:=Vf (h:=?_))
 refine WL.row (by kernel_rfl) 25 (.tmp 7) rfl d rfl 25 (wtA n v) _ D4.o Try.underlying25 rfl (by rfl) ?_
 simp only [Act.put, pqA, pqB, pqC]
 refine Vv (.int .i64 kind) (h:=Vv (.string key) (h:=ClS (jL v n kind key ls w4 ((HL.o.below B4.o).mono B4.o.size) hfo.o Hn.o) ?_))
 rintro e w5 ⟨rfl, k1⟩
 refine ⟨_, rfl, ?_⟩
 rw [han.o]
 have Q5 := kbx Q4 k1
 have D5 := kbx D4 k1
 have R5 := kbx R4 k1
 have B5 := tb B4 k1
 clear k1 Q4 D4 R4 B4
 refine Vf (h:=Vf (h:=Vf (h:=?_)))
 refine WL.row (by kernel_rfl) 25 (.tmp 7) rfl d rfl 25 (wtA n v) _ D5.o Try.underlying25 rfl (by rfl) ?_
 simp only [Act.put, pqA, pqB, pqC]
 refine Vr Q5.o (qd _) (h:=ClS (yk v n ls root w5 ((HL.o.below B5.o).mono B5.o.size) hfo.o Hn.o HSm.o) ?_)
 rintro e w6 ⟨rfl, k1⟩
 refine ⟨_, rfl, ?_⟩
 rw [hrt.o]
 have Q6 := kbx Q5 k1
 have D6 := kbx D5 k1
 have R6 := kbx R5 k1
 have B6 := tb B5 k1
 clear k1 Q5 D5 R5 B5
 refine Vf (h:=Vf (h:=WL.nil (hK5 _ _ (Cf (h:=wp_skip (hK4 _ _ (wp_seq_k fun K6 hK6 => wp_seq_k fun K7 hK7 => rgn (?_))))))))
 refine WL.row (by kernel_rfl) 25 (.tmp 7) rfl d rfl 25 (wtA n v) _ D6.o Try.underlying25 rfl (by rfl) ?_
 simp only [Act.put, pqA, pqB, pqC]
 refine Vv (.int .i64 kind) (h:=Vv (.string key) (h:=ClS (KA v n kind key ls w6 ((HL.o.below B6.o).mono B6.o.size)) ?_))
 rintro e w7 ⟨rfl, k1⟩
 refine ⟨_, rfl, ?_⟩
 rw [hte.o]
 have Q7 := kbx Q6 k1
 have D7 := kbx D6 k1
 have R7 := kbx R6 k1
 have B7 := tb B6 k1
 clear k1 Q6 D6 R6 B6
 refine Vt (h:=WL.nil (hK7 _ _ (Ct (h:=wp_seq_k fun K8 hK8 => rgn (?_)))))
 refine WL.bld (by kernel_rfl) 44 #[] rfl [] (by simp) #[.int .i64 0, .string ByteArray.empty, .slice none 0 0] Uq ?_
 simp only [Act.put, pqA, pqB, pqC]
 refine StR #[.int .i64 0, .string ByteArray.empty, .slice none 0 0] R7.o (qw _ _ _) rfl (by simp [Value.oneCell']) ?_
 have R9 := kk (R7.o.setRow #[.int .i64 0, .string ByteArray.empty, .slice none 0 0])
 have B9 : Keep (Below w.heap.size w (w7.setRow r #[.int .i64 0, .string ByteArray.empty, .slice none 0 0])) := ⟨qf B7.o gr.o _⟩
 generalize w7.setRow r #[.int .i64 0, .string ByteArray.empty, .slice none 0 0] = w9 at *
 refine Vf (h:=Vv (.int .i64 0) (h:=WL.nil (hK8 _ _ (wp_ret ?_))))
 try simp only [Exit.inBlock, Exit.then]
 refine bodyPost_ret (v := .tuple #[.agg #[.int .i64 0, .string ByteArray.empty, .slice none 0 0], .bool false, .int .i64 0]) (zl Try.results14 _ _ r 44 _ (0, 0) _ _ _ rfl rfl rfl R9.o Try.underlying44 rfl (qw _ _ _)) rfl ⟨⟨0, ByteArray.empty, .slice none 0 0, []⟩, ?_, ⟨ju w9, fun k hk => by simp [Value.ownBlock] at hk⟩, B9.o, fun _ => rfl, ?_⟩
 ·rw [hE.o, hI.o]; rfl
 ·rw [hI.o]; intro y h; cases h
theorem GL (v : Value) (n kind : Int) (key : ByteArray) (ls : List LV) (root : Hs) (w : World) (hL : LsV w.heap.size w v ls) (Hn : Keep (n < 9223372036854775808)) (hSm : SmL ls) (hkm : zi kind = true) (hfo : Keep (jT n ls = true)) (han : Keep (xZ n ls kind key = true)) (hrt : Keep (rtB n ls root = true)) (hte : Keep (jq ls kind key = true)) (x : LV) (hls : Keep (ls = [x])) (b off cap : Nat) (hv : Keep (v = .slice (some ⟨b, off, none⟩) 1 cap)) (HRx : Keep (∀ wx, Below w.heap.size w wx → wx.rangeAt b off (lvA x).toList)) (HLx : Keep (∀ wx, Below w.heap.size w wx → RowAt wx x.c.v x.c.l)) (HSz : Keep (x.c.l.length ≤ 140737488355328)) : Calls Try.prog 14 #[.agg (qb 32 root.f), .int .i64 kind, .string key, .agg (wtA n v)] w (CkP root n kind key ls w) := by
 have hE : Keep (xY root n kind key ls = 0) := ⟨by unfold xY XZ; rw [hkm, hfo.o, han.o, hrt.o]; rfl⟩
 have hI : Keep (xp root n kind key ls = true) := ⟨by unfold xp; rw [hE.o]; rw [hte.o]; rfl⟩
 have HL := kk hL
 have HSm := kk hSm
 clear hL hSm
 go_enter Try.func14, Try.ntmps14
 refine wp_seq_k fun K1 hK1 => rgn (zH 32 (.tmp 0) (qb 32 root.f) fun q w1 hq0 Q1 b_ => ?_)
 have B1 : Keep (Below w.heap.size w w1) := ⟨b_⟩
 have gq := lh hq0
 clear b_
 refine zH 25 (.tmp 3) (wtA n v) fun d w2 hd0 D2 b_ => ?_
 have Q2 := kbx Q1 b_
 have B2 := tb B1 b_
 have gd : Keep (w.heap.size ≤ d) := ⟨by rw [hd0.o]; exact B1.o.size⟩
 clear b_
 refine zU 44 zK fun r w3 hr0 R3 b_ => ?_
 have Q3 := kbx Q2 b_
 have D3 := kbx D2 b_
 have B3 := tb B2 b_
 have gr : Keep (w.heap.size ≤ r) := ⟨by rw [hr0.o]; exact B2.o.size⟩
 clear b_
 refine Vf (h:=Vv (.int .i64 0) (h:=WL.nil (hK1 _ _ (wp_seq_k fun K2 hK2 => wp_seq_k fun K3 hK3 => rgn (Vv (.int .i64 kind) (h:=ClS (vs := #[.int .i64 kind]) (zL kind _) ?_))))))
 rintro e w1_ ⟨rfl, hw_⟩
 refine ⟨_, rfl, ?_⟩
 have hw_ := hw_.symm
 subst hw_
 rw [hkm]
 refine Vf (h:=WL.nil (hK3 _ _ (Cf (h:=wp_skip (hK2 _ _ (wp_seq_k fun K4 hK4 => wp_seq_k fun K5 hK5 => rgn (?_)))))))
 refine WL.row (by kernel_rfl) 25 (.tmp 7) rfl d rfl 25 (wtA n v) _ D3.o Try.underlying25 rfl (by rfl) ?_
 simp only [Act.put, pqA, pqB, pqC]
 refine ClS (jG v n ls w3 ((HL.o.below B3.o).mono B3.o.size)) ?_
 rintro e w4 ⟨rfl, k1⟩
 refine ⟨_, rfl, ?_⟩
 rw [hfo.o]
 have Q4 := kbx Q3 k1
 have D4 := kbx D3 k1
 have R4 := kbx R3 k1
 have B4 := tb B3 k1
 clear k1 Q3 D3 R3 B3
 refine Vf (h:=Vf (h:=?_))
 refine WL.row (by kernel_rfl) 25 (.tmp 7) rfl d rfl 25 (wtA n v) _ D4.o Try.underlying25 rfl (by rfl) ?_
 simp only [Act.put, pqA, pqB, pqC]
 refine Vv (.int .i64 kind) (h:=Vv (.string key) (h:=ClS (jL v n kind key ls w4 ((HL.o.below B4.o).mono B4.o.size) hfo.o Hn.o) ?_))
 rintro e w5 ⟨rfl, k1⟩
 refine ⟨_, rfl, ?_⟩
 rw [han.o]
 have Q5 := kbx Q4 k1
 have D5 := kbx D4 k1
 have R5 := kbx R4 k1
 have B5 := tb B4 k1
 clear k1 Q4 D4 R4 B4
 refine Vf (h:=Vf (h:=Vf (h:=?_)))
 refine WL.row (by kernel_rfl) 25 (.tmp 7) rfl d rfl 25 (wtA n v) _ D5.o Try.underlying25 rfl (by rfl) ?_
 simp only [Act.put, pqA, pqB, pqC]
 refine Vr Q5.o (qd _) (h:=ClS (yk v n ls root w5 ((HL.o.below B5.o).mono B5.o.size) hfo.o Hn.o HSm.o) ?_)
 rintro e w6 ⟨rfl, k1⟩
 refine ⟨_, rfl, ?_⟩
 rw [hrt.o]
 have Q6 := kbx Q5 k1
 have D6 := kbx D5 k1
 have R6 := kbx R5 k1
 have B6 := tb B5 k1
 clear k1 Q5 D5 R5 B5
 refine Vf (h:=Vf (h:=WL.nil (hK5 _ _ (Cf (h:=wp_skip (hK4 _ _ (wp_seq_k fun K6 hK6 => wp_seq_k fun K7 hK7 => rgn (?_))))))))
 refine WL.row (by kernel_rfl) 25 (.tmp 7) rfl d rfl 25 (wtA n v) _ D6.o Try.underlying25 rfl (by rfl) ?_
 simp only [Act.put, pqA, pqB, pqC]
 refine Vv (.int .i64 kind) (h:=Vv (.string key) (h:=ClS (KA v n kind key ls w6 ((HL.o.below B6.o).mono B6.o.size)) ?_))
 rintro e w7 ⟨rfl, k1⟩
 refine ⟨_, rfl, ?_⟩
 rw [hte.o]
 have Q7 := kbx Q6 k1
 have D7 := kbx D6 k1
 have R7 := kbx R6 k1
 have B7 := tb B6 k1
 clear k1 Q6 D6 R6 B6
 refine Vf (h:=WL.nil (hK7 _ _ (Cf (h:=wp_skip (hK6 _ _ (wp_seq_k fun K8 hK8 => rgn (Vv (.pointer (some ⟨d, 1, none⟩)) (h:=?_))))))))
 refine CeS (.slice (some ⟨b, off, none⟩) 1 cap) (show w7.cell? ⟨d, 1, none⟩ = some (.slice (some ⟨b, off, none⟩) 1 cap) from by have h := D7.o.c 1 (by rfl : (wtA n v)[1]? = some v); rw [hv.o] at h; exact h) ?_
 refine Vv (.pointer (some ⟨b, off, none⟩)) (h:=Vv (.pointer (some ⟨b, off + 1, none⟩)) (h:=?_))
 refine WL.midA (by kernel_rfl) 44 (.tmp 41) rfl b (off + 1) rfl (cvA x.c) _ (zn (HRx.o w7 B7.o)) Try.underlying44 rfl (qw _ _ _) ?_
 simp only [Act.put, pqA, pqB, pqC]
 refine ClS (vs := #[.agg (cvA x.c)]) (Ke x.c w7 (HLx.o w7 B7.o) HSz.o) ?_
 rintro e w8 ⟨v8, rfl, k2, k3, k1⟩
 refine ⟨_, rfl, ?_⟩
 have O8 := kk k2
 have z7 : Keep (w.heap.size ≤ w7.heap.size) := ⟨B7.o.size⟩
 have N8 : Keep (∀ k, v8.ownBlock = some k → w7.heap.size ≤ k) := ⟨k3⟩
 have hrl : Keep (r < w7.heap.size) := ⟨R7.o.lt⟩
 obtain ⟨xa, xn, xc, hxv⟩ := O8.o.sl
 subst hxv
 have Q8 := kbx Q7 k1
 have D8 := kbx D7 k1
 have R8 := kbx R7 k1
 have B8 := tb B7 k1
 clear k1 Q7 D7 R7 B7
 refine StR #[.int .i64 x.c.k, .string x.c.s, .slice xa xn xc] R8.o (qw _ _ _) rfl (by simp [Value.oneCell']) ?_
 have R9 := kk (R8.o.setRow #[.int .i64 x.c.k, .string x.c.s, .slice xa xn xc])
 have g_ : Grown w8 (w8.setRow r #[.int .i64 x.c.k, .string x.c.s, .slice xa xn xc]) (fun k => k = r) := Grown.setRow w8 r #[.int .i64 x.c.k, .string x.c.s, .slice xa xn xc] fun _ => rfl
 have O9 := kk (O8.o.grown g_ fun k hk e => by have := N8.o k hk; have := hrl.o; omega)
 have B9 : Keep (Below w.heap.size w (w8.setRow r #[.int .i64 x.c.k, .string x.c.s, .slice xa xn xc])) := ⟨qf B8.o gr.o _⟩
 generalize w8.setRow r #[.int .i64 x.c.k, .string x.c.s, .slice xa xn xc] = w9 at *
 clear g_
 refine Vt (h:=Vv (.int .i64 0) (h:=WL.nil (hK8 _ _ (wp_ret ?_))))
 try simp only [Exit.inBlock, Exit.then]
 refine bodyPost_ret (v := .tuple #[.agg #[.int .i64 x.c.k, .string x.c.s, .slice xa xn xc], .bool true, .int .i64 0]) (zl Try.results14 _ _ r 44 _ (0, 0) _ _ _ rfl rfl rfl R9.o Try.underlying44 rfl (qw _ _ _)) rfl ⟨⟨x.c.k, x.c.s, .slice xa xn xc, x.c.l⟩, ?_, ⟨O9.o, fun k hk => Nat.le_trans z7.o (N8.o k hk)⟩, B9.o, ?_, ?_⟩
 ·rw [hE.o, hI.o]; rfl
 ·rw [hI.o]; intro h; cases h
 ·intro y _ hy
  injection (hls.o.symm.trans hy) with hy
  subst hy
  exact ⟨rfl, rfl, rfl⟩
theorem vX (v : Value) (n kind : Int) (key : ByteArray) (ls : List LV) (root : Hs) (w : World) (hL : LsV w.heap.size w v ls) (hn : n < 9223372036854775808) (hSm : SmL ls) : Calls Try.prog 14 #[.agg (qb 32 root.f), .int .i64 kind, .string key, .agg (wtA n v)] w (CkP root n kind key ls w) := by
 cases hk : zi kind
 ·exact VI v n kind key ls root w hL ⟨hn⟩ hSm hk
 ·cases hf : jT n ls
  ·exact VJ v n kind key ls root w hL ⟨hn⟩ hSm hk ⟨hf⟩
  ·cases ha : xZ n ls kind key
   ·exact GM v n kind key ls root w hL ⟨hn⟩ hSm hk ⟨hf⟩ ⟨ha⟩
   ·cases hr : rtB n ls root
    ·exact VH v n kind key ls root w hL ⟨hn⟩ hSm hk ⟨hf⟩ ⟨ha⟩ ⟨hr⟩
    ·cases ht : jq ls kind key
     ·exact Di v n kind key ls root w hL ⟨hn⟩ hSm hk ⟨hf⟩ ⟨ha⟩ ⟨hr⟩ ⟨ht⟩
     ·obtain ⟨x, rfl⟩ : ∃ x, ls = [x] := by
       unfold jq at ht
       split at ht
       ·exact ⟨_, rfl⟩
       ·cases ht
      have hL0 := hL
      rcases hL with ⟨a, c, _, h⟩ | ⟨b, off, cap, rfl, h2, h3⟩
      ·cases h
      ·exact GL _ n kind key [x] root w hL0 ⟨hn⟩ hSm hk ⟨hf⟩ ⟨ha⟩ ⟨hr⟩ ⟨ht⟩ x ⟨rfl⟩ b off cap ⟨rfl⟩ ⟨fun wx hb => by have h := (h3.below hb).at_ 0 x rfl; simpa using h⟩ ⟨fun wx hb => ((h3.below hb).lf x (by simp)).row⟩ ⟨by have := hSm x (by simp); omega⟩
theorem Qo (w : World) (vs : Array Value) : (callFunc 53 vs).run Try.prog w = .ok (.enter 53 vs) w := by kernel_rfl
theorem XP (c : CV) (kind : Int) (key : ByteArray) (qk : Nat) (w : World) (hq : ∀ wx, Below w.heap.size w wx → wx.cell? ⟨qk, 0, none⟩ = some (.int .i64 kind)) : Calls Try.prog 53 #[.agg (cvA c), .string key, ptr qk] w fun e w' => e = .returned (.int .i64 (stI c.k c.s kind key)) ∧ Below w.heap.size w w' := by
 have HQ := kk hq
 clear hq
 go_enter Try.func53, Try.ntmps53
 refine wp_seq_k fun K1 hK1 => rgn (zH 44 (.tmp 0) (cvA c) fun p w1 hp0 P1 b_ => ?_)
 have B1 : Keep (Below w.heap.size w w1) := ⟨b_⟩
 have gp := lh hp0
 clear b_
 have m0_ := HQ.o _ B1.o
 refine Vv (.int .i64 0) (h:=WL.nil (hK1 _ _ (wp_seq_k fun K2 hK2 => rgn (Vr P1.o (qw _ _ _) (h:=Vv (.int .i64 kind) (h:=Vv (.string key) (h:=ClS (vs := #[.agg (cvA c), .int .i64 kind, .string key]) (zY c.k kind c.s key c.v w1) ?_)))))))
 rintro e w2 ⟨rfl, k1⟩
 refine ⟨_, rfl, ?_⟩
 have B2 := tb B1 k1
 clear k1
 refine Vv (.int .i64 (stI c.k c.s kind key)) (h:=WL.nil (hK2 _ _ (wp_ret ?_)))
 go_ret
 exact ⟨rfl, B2.o⟩
theorem DS (x : Int) : (x == 0) = decide (x = 0) := rfl
def fndB (L : List CV) (i : Nat) (kind : Int) (key : ByteArray) : Bool := match L[i]? with
 | some c => decide (stI c.k c.s kind key = 0)
 | none => false
theorem Kp (la : Option Addr) (n cap at_ : Nat) (L : List CV) (kind : Int) (key : ByteArray) (qk : Nat) (w : World) (hn : Keep (L.length = n)) (hN : n ≤ 1099511627776) (hC : 0 < n → ∃ b off, la = some ⟨b, off, none⟩ ∧ CsAt w.heap.size w b off L)
  (hq : ∀ wx, Below w.heap.size w wx → wx.cell? ⟨qk, 0, none⟩ = some (.int .i64 kind)) (hat : at_ ≤ n) (hAt : ∀ (i : Nat) (c : CV), L[i]? = some c → (stI c.k c.s kind key < 0 ↔ i < at_)) :
  Calls Try.prog 52 #[.slice la n cap, .string key, .func (.func 53) #[] #[ptr qk]] w fun e w' => e = .returned (.tuple #[.int .i64 (at_ : Int), .bool (fndB L at_ kind key)]) ∧ Below w.heap.size w w' := by
 have HN := kk hN
 have HC := kk hC
 have HQ := kk hq
 have HAt := kk hAt
 clear hN hC hq hAt
 go_enter Try.func52, Try.ntmps52
 refine wp_seq_k fun K1 hK1 => rgn (Vv (.int .i64 0) (h:=Vf (h:=WL.nil (hK1 _ _ (wp_seq_k fun K2 hK2 => rgn (Vv (.slice la n cap) (h:=Vv (.int .i64 (n : Int)) (h:=Vv (.int .i64 (n : Int)) (h:=WL.nil (hK2 _ _ (wp_seq_k fun K3 hK3 => rgn (Vv (.int .i64 (n : Int)) (h:=Vv (.int .i64 0) (h:=Vv (.int .i64 (n : Int)) (h:=WL.nil (hK3 _ _ (wp_seq_k fun K4 hK4 => wp_block (?_))))))))))))))))))
 refine wp_loop (fun ac wr => ∃ (t : Nat) (vj : Value), ac = apF (fun f => { tmps := #[.slice la n cap, .string key, .func (.func 53) #[] #[ptr qk], undef, undef, undef, .int .i64 0, .bool false, .int .i64 (n : Int), .int .i64 (t : Int), vj, f 11, .slice la n cap, .int .i64 (n : Int), .int .i64 (n : Int), f 15, f 16, f 17, f 18, f 19, f 20, f 21, f 22, f 23, f 24, f 25, f 26, f 27, f 28, f 29, f 30, f 31, f 32, f 33, f 34, undef, undef, undef, undef, undef, undef, undef, undef, undef, undef, undef, undef, undef, undef], defers := [] }) ac ∧ ∃ j : Nat, vj = .int .i64 (j : Int) ∧ t ≤ j ∧ j ≤ n ∧ t ≤ at_ ∧ at_ ≤ j ∧ Below w.heap.size w wr) (fun a _ => (intOf (a.tmps.getD 10 undef) - intOf (a.tmps.getD 9 undef)).toNat) ⟨0, .int .i64 (n : Int), rfl, n, rfl, by omega, by omega, by omega, by omega, Below.refl _ _⟩ ?_
 rintro ac wr ⟨t, vj, hac, hrel⟩
 obtain ⟨f, rfl⟩ := unF hac
 obtain ⟨j, hvj, hj1, hj2, hj3, hj4, hb⟩ := hrel
 subst hvj
 have B1 := kk hb
 clear hb
 by_cases hij : t < j
 ·have hij' : (t : Int) < (j : Int) := by omega
  have hll := HN.o
  obtain ⟨m, hm⟩ : ∃ m, m = (t + j) / 2 := ⟨_, rfl⟩
  have hmi : t ≤ m := by omega
  have hmj : m < j := by omega
  have hml : m < n := by omega
  have hw1 : IntKind.i64.wrap ((t : Int) + (j : Int)) = (t : Int) + (j : Int) := by rw [IntKind.wrap_i64]; omega
  have hw2 : IntKind.u64.wrap ((t : Int) + (j : Int)) = (t : Int) + (j : Int) := by rw [IntKind.wrap_u64]; omega
  have hw3 : ((t : Int) + (j : Int)) / 2 = (m : Int) := by omega
  have hw4 : IntKind.i64.wrap (m : Int) = (m : Int) := by rw [IntKind.wrap_i64]; omega
  have hw5 : IntKind.i64.wrap ((m : Int) + 1) = ((m + 1 : Nat) : Int) := by rw [IntKind.wrap_i64]; omega
  have hml' : (m : Int) < (n : Int) := by omega
  clear hm
  obtain ⟨b, off, hla, hcx⟩ := HC.o (by omega)
  subst hla
  have HX : Keep (CsAt w.heap.size wr b off L) := ⟨hcx.below B1.o⟩
  clear hcx
  obtain ⟨c, Hc⟩ : ∃ z, Keep (L[m]? = some z) := ⟨L[m]'(by rw [hn.o]; omega), ⟨List.getElem?_eq_getElem _⟩⟩
  have Hat : Keep ((stI c.k c.s kind key) < 0 ↔ m < at_) := ⟨HAt.o m c Hc.o⟩
  refine wp_seq_k fun K5 hK5 => wp_seq_k fun K6 hK6 => rgn (Vv (.int .i64 (t : Int)) (h:=Vv (.int .i64 (j : Int)) (h:=Vt (h:=WL.nil (hK6 _ _ (Ct (h:=wp_skip (hK5 _ _ (wp_block (wp_seq_k fun K7 hK7 => rgn (Vv (.int .i64 (t : Int)) (h:=Vv (.int .i64 (j : Int)) (h:=Vv (.int .i64 ((t : Int) + (j : Int))) (h:=Vv (.int .u64 ((t : Int) + (j : Int))) (h:=?_)))))))))))))))
  refine VlS (.int .u64 (m : Int)) ?_
  refine WL.val (by kernel_rfl) (.int .i64 (m : Int)) (by go_simp) ?_
  clear hw1 hw2 hw3 hw4
  simp only [Act.put, pqA, pqB, pqC]
  refine Vv (.int .i64 (m : Int)) (h:=WL.nil (hK7 _ _ (wp_seq_k fun K8 hK8 => rgn (Vv (.func (.func 53) #[] #[ptr qk]) (h:=Vv (.slice (some ⟨b, off, none⟩) n cap) (h:=Vv (.int .i64 (m : Int)) (h:=Vv (.pointer (some ⟨b, off + m * 3, none⟩)) (h:=?_))))))))
  refine WL.midA (by kernel_rfl) 44 (.tmp 27) rfl b (off + m * 3) rfl (cvA c) _ (HX.o.at_ m c Hc.o) Try.underlying44 rfl (qw _ _ _) ?_
  simp only [Act.put, pqA, pqB, pqC]
  refine VlS (.string key) ?_
  refine WL.callC (by kernel_rfl) 53 (.tmp 24) _ _ #[ptr qk] rfl rfl Qo #[.agg (cvA c), .string key, ptr qk] (by simp [Act.eval]) ?_
  refine (XP c kind key qk wr (fun wx hb => HQ.o wx (B1.o.trans (hb.mono B1.o.size)))).mono ?_
  rintro e w2 ⟨rfl, k1⟩
  refine ⟨_, rfl, ?_⟩
  have B2 := tb B1 k1
  clear k1
  simp only [Act.put, pqA, pqB, pqC]
  refine Vv (.bool (decide ((stI c.k c.s kind key) < 0))) (h:=WL.nil (hK8 _ _ (?_)))
  obtain ⟨bb, hbb⟩ : ∃ z, decide ((stI c.k c.s kind key) < 0) = z := ⟨_, rfl⟩
  rw [hbb]
  cases bb
  ·refine Cf (h:=rgn (Vv (.int .i64 (m : Int)) (h:=Vv (.int .i64 (m : Int)) (h:=?_))))
   refine WL.nil ?_
   have hge : ¬ m < at_ := fun h => of_decide_eq_false hbb (Hat.o.mpr h)
   refine ⟨⟨t, .int .i64 (m : Int), rfl, m, rfl, by omega, by omega, by omega, by omega, B2.o⟩, ?_⟩
   ·simp only [intOf]; show ((m : Int) - (t : Int)).toNat < ((j : Int) - (t : Int)).toNat; omega
  ·refine Ct (h:=rgn (Vv (.int .i64 (m : Int)) (h:=Vv (.int .i64 ((m + 1 : Nat) : Int)) (h:=Vv (.int .i64 ((m + 1 : Nat) : Int)) (h:=?_)))))
   refine WL.nil ?_
   have hge : m < at_ := Hat.o.mp (of_decide_eq_true hbb)
   refine ⟨⟨m + 1, .int .i64 (j : Int), rfl, j, rfl, by omega, by omega, by omega, by omega, B2.o⟩, ?_⟩
   ·simp only [intOf]; show ((j : Int) - ((m + 1 : Nat) : Int)).toNat < ((j : Int) - (t : Int)).toNat; omega
 ·have hij' : ¬ (t : Int) < (j : Int) := by omega
  obtain rfl : t = at_ := by omega
  by_cases htn : t < n
  ·have htn' : (t : Int) < (n : Int) := by omega
   obtain ⟨b, off, hla, hcx⟩ := HC.o (by omega)
   subst hla
   have HX : Keep (CsAt w.heap.size wr b off L) := ⟨hcx.below B1.o⟩
   clear hcx
   obtain ⟨c, Hc⟩ : ∃ z, Keep (L[t]? = some z) := ⟨L[t]'(by rw [hn.o]; omega), ⟨List.getElem?_eq_getElem _⟩⟩
   have Hat : Keep ((stI c.k c.s kind key) < 0 ↔ t < t) := ⟨HAt.o t c Hc.o⟩
   refine wp_seq_k fun K9 hK9 => wp_seq_k fun K10 hK10 => rgn (Vv (.int .i64 (t : Int)) (h:=Vv (.int .i64 (j : Int)) (h:=Vf (h:=WL.nil (hK10 _ _ (Cf (h:=wp_exit (hK4 _ _ (wp_seq_k fun K11 hK11 => rgn (Vv (.int .i64 (t : Int)) (h:=Vv (.int .i64 (t : Int)) (h:=Vv (.int .i64 (n : Int)) (h:=Vt (h:=Vt (h:=?_)))))))))))))))
   refine Vv (.func (.func 53) #[] #[ptr qk]) (h:=Vv (.slice (some ⟨b, off, none⟩) n cap) (h:=Vv (.int .i64 (t : Int)) (h:=Vv (.pointer (some ⟨b, off + t * 3, none⟩)) (h:=?_))))
   refine WL.midA (by kernel_rfl) 44 (.tmp 43) rfl b (off + t * 3) rfl (cvA c) _ (HX.o.at_ t c Hc.o) Try.underlying44 rfl (qw _ _ _) ?_
   simp only [Act.put, pqA, pqB, pqC]
   refine VlS (.string key) ?_
   refine WL.callC (by kernel_rfl) 53 (.tmp 40) _ _ #[ptr qk] rfl rfl Qo #[.agg (cvA c), .string key, ptr qk] (by simp [Act.eval]) ?_
   refine (XP c kind key qk wr (fun wx hb => HQ.o wx (B1.o.trans (hb.mono B1.o.size)))).mono ?_
   rintro e w2 ⟨rfl, k1⟩
   refine ⟨_, rfl, ?_⟩
   have B2 := tb B1 k1
   clear k1
   simp only [Act.put, pqA, pqB, pqC]
   refine WL.val (by kernel_rfl) (.bool (decide ((stI c.k c.s kind key) = 0))) (by have hq_ := DS (stI c.k c.s kind key); go_simp) ?_
   simp only [Act.put, pqA, pqB, pqC]
   refine Vv (.bool (decide ((stI c.k c.s kind key) = 0))) (h:=Vv (.int .i64 (t : Int)) (h:=Vv (.bool (decide ((stI c.k c.s kind key) = 0))) (h:=WL.nil (hK11 _ _ (wp_ret ?_)))))
   go_ret2
   have hf : fndB L t kind key = decide (stI c.k c.s kind key = 0) := by unfold fndB; rw [Hc.o]
   rw [hf]
   exact ⟨rfl, B2.o⟩
  ·have htn' : ¬ (t : Int) < (n : Int) := by omega
   refine wp_seq_k fun K12 hK12 => wp_seq_k fun K13 hK13 => rgn (Vv (.int .i64 (t : Int)) (h:=Vv (.int .i64 (j : Int)) (h:=Vf (h:=WL.nil (hK13 _ _ (Cf (h:=wp_exit (hK4 _ _ (wp_seq_k fun K14 hK14 => rgn (Vv (.int .i64 (t : Int)) (h:=Vv (.int .i64 (t : Int)) (h:=Vv (.int .i64 (n : Int)) (h:=Vf (h:=Vf (h:=?_)))))))))))))))
   refine Vs (h:=Vs (h:=Vs (h:=Vs (h:=Vs (h:=Vs (h:=Vs (h:=Vs (h:=Vf (h:=Vv (.int .i64 (t : Int)) (h:=Vf (h:=WL.nil (hK14 _ _ (wp_ret ?_)))))))))))))
   go_ret2
   have hf : fndB L t kind key = false := by unfold fndB; rw [List.getElem?_eq_none (by rw [hn.o]; omega)]
   rw [hf]
   exact ⟨rfl, B1.o⟩
end Go.Proofs.Ytdpcjfafbmhceaa
