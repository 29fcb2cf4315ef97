import Derived.Test.YtkcdoamohiaiaaaF06
import Derived.Deep.RegionHeld3
import Derived.Lib.EndianBits
namespace Go.Proofs.Ytkcdoamohiaiaaa
open Go.RowKit
set_option linter.unusedSimpArgs false
set_option linter.unusedVariables false

def hsL (l : List Hs) : List Int := numL l.length ++ l.flatMap hB
def saltP (s : Int) (t : Nat) : List Int := (List.range t).map fun i => s / 256 ^ i % 256
def bkL (l : List (List Int)) : List Int := numL l.length ++ l.flatMap bform
def putF (i : Nat) (M : MsgV) : List Int := if i = 0 then hsL M.hd else if i = 1 then saltP M.sa 8 else if i = 2 then bform M.bl else if i = 3 then hsL M.wt else bkL M.bk
def encM (M : MsgV) : List Int := [M.k] ++ (hasI M.k).flatMap fun i => putF i M
def Fr (B : Nat) (v : Value) : Prop := ∀ k, v.ownBlock = some k → B ≤ k
structure PS (B p : Nat) (v : Value) (w0 w : World) (L : List Int) (vr : Value) (wr : World) : Prop where
  o : OutAt wr p vr L
  f : Fr B vr
  b : Below B w0 wr
  m : Moved w v vr
  g : Grown w wr (OF p v)
def PPost (B p : Nat) (v : Value) (w0 w : World) (L : List Int) (e : Ending) (w' : World) : Prop := e = .returned (.tuple #[]) ∧ ∃ v', PS B p v w0 w L v' w'
theorem PS.start {B p : Nat} {v : Value} {L : List Int} {w0 w : World} (h : OutAt w p v L) (hf : Fr B v) (hb : Below B w0 w) : PS B p v w0 w L v w := ⟨h, hf, hb, Moved.refl _ _, Grown.refl _ _⟩
theorem PS.call {B p : Nat} {v vr : Value} {L L' : List Int} {w0 w wr w' : World} {e : Ending} (hs : PS B p v w0 w L vr wr) (h : OutPost p vr L' wr e w') (hB : B ≤ w0.heap.size) (hp : B ≤ p) : PPost B p v w0 w L' e w' := by
  have h0 := h.trans hs.m hs.g
  obtain ⟨he, v', h1, h2, h3⟩ := h
  obtain ⟨_, v'', i1, i2, i3⟩ := OutPost.trans hs.m hs.g (e := .returned (.tuple #[])) ⟨rfl, v', h1, h2, h3⟩
  refine ⟨he, v', h1, fun k hk => ?_, hs.b.trans (h3.to_below (B := B) (fun k hk ho => ?_) (Nat.le_trans hB hs.b.size)), hs.m.trans hs.g.size h2, i3⟩
  · rcases h2 with h2 | ⟨j, hj, h2⟩
    · exact hs.f k (by rw [← h2]; exact hk)
    · rw [hk] at hj
      have : k = j := by injection hj
      subst this
      exact Nat.le_trans (Nat.le_trans hB hs.b.size) h2
  · rcases ho with rfl | ho
    · omega
    · have := hs.f k ho
      omega
theorem PS.alloc {B p : Nat} {v vr : Value} {L : List Int} {w0 w wr : World} (h : PS B p v w0 w L vr wr) (hB : B ≤ w0.heap.size) (ob : Obj) : PS B p v w0 w L vr (wr.alloc ob) :=
  ⟨h.o.box ob, h.f, h.b.trans ((below_new wr _).mono (Nat.le_trans hB h.b.size)), h.m, h.g.trans (Grown.alloc wr ob _)⟩
theorem PS.below {B p : Nat} {v vr : Value} {L : List Int} {w0 w wr w' : World} (h : PS B p v w0 w L vr wr) (hB : B ≤ w0.heap.size) (hb : Below wr.heap.size wr w') : PS B p v w0 w L vr w' :=
  ⟨h.o.grown (Grown.below (S := fun _ => False) hb) fun _ _ h => h, h.f, h.b.trans (hb.mono (Nat.le_trans hB h.b.size)), h.m, h.g.trans (Grown.below hb)⟩
theorem PS.setRow {B p : Nat} {v vr : Value} {L : List Int} {w0 w wr : World} (h : PS B p v w0 w L vr wr) (gn : Nat) (cs : Array Value) (h1 : w.heap.size ≤ gn) (h2 : B ≤ gn) (h3 : gn ≠ p) (h4 : vr.ownBlock ≠ some gn) : PS B p v w0 w L vr (wr.setRow gn cs) :=
  ⟨h.o.grown (Grown.setRow wr gn cs (S := fun k => k = gn) fun _ => rfl) fun k hk e => by rcases hk with hk | hk; exact h3 (e.symm.trans hk); rw [e] at hk; exact h4 hk, h.f, below_setRow h.b h2 _, h.m, h.g.next (Grown.setRow wr gn cs (S := fun k => k = gn) fun _ => rfl) fun i hi e => by omega⟩
theorem PS.cast {B p : Nat} {v vr : Value} {L L' : List Int} {w0 w wr : World} (h : PS B p v w0 w L vr wr) (e : L = L') : PS B p v w0 w L' vr wr := e ▸ h
theorem PPost.up {B p : Nat} {v vr : Value} {L L' : List Int} {w0 w wr w' : World} {e : Ending} (hs : PS B p v w0 w L vr wr) (h : PPost B p vr w0 wr L' e w') : PPost B p v w0 w L' e w' := by
  obtain ⟨he, v', h1⟩ := h
  obtain ⟨_, v'', i1, i2, i3⟩ := OutPost.trans hs.m hs.g (e := .returned (.tuple #[])) ⟨rfl, v', h1.o, h1.m, h1.g⟩
  exact ⟨he, v', h1.o, h1.f, h1.b, hs.m.trans hs.g.size h1.m, i3⟩
theorem row_lt {w : World} {v : Value} {l : List Int} (h : RowAt w v l) (h0 : 0 < l.length) {k : Nat} (hk : v.ownBlock = some k) : k < w.heap.size := by
  rcases h with ⟨rfl, rfl⟩ | ⟨a, c, rfl, rfl⟩ | ⟨b, off, cap, rfl, h1, h2⟩
  · simp at h0
  · simp at h0
  · have : b = k := by simpa [Value.ownBlock] using hk
    subst this
    exact cell_lt (h2 0 h0)
theorem HRow.at' {w w' : World} {B : Nat} {a : Option Addr} {n c : Nat} {l : List Hs} (h : Sh.HRow w (.slice a n c) l) (t : Nat) (ht : t < l.length) (hB : w.heap.size ≤ B) (hb : Below B w w') : ∃ b o, a = some ⟨b, o, none⟩ ∧ w'.rangeAt b (o + t * 32) (Sh.encH (l.getD t default)) := by
  obtain ⟨b, o, rfl, _, _, h1⟩ := h.at (by omega)
  refine ⟨b, o, rfl, ?_⟩
  rw [List.getD_eq_getElem?_getD, List.getElem?_eq_getElem ht]
  exact Sh.rangeAt_below (Sh.rangeAt_elem h1 t ht) (hb.mono hB) (Sh.rangeAt_lt h1 (by omega))
theorem fm_step {α : Type} (f : α → List Int) (l : List α) (t : Nat) (x : α) (h : l[t]? = some x) : (l.take (t + 1)).flatMap f = (l.take t).flatMap f ++ f x := by
  rw [List.take_add_one, h]; simp
theorem fm_le {α : Type} (f : α → List Int) (l : List α) (t : Nat) : ((l.take t).flatMap f).length ≤ (l.flatMap f).length := by
  conv => rhs; rw [← List.take_append_drop t l]
  rw [List.flatMap_append, List.length_append]; omega
theorem Try.in42 (w : World) (vs : Array Value) : (callFunc 42 vs).run Try.prog w = .ok (.enter 42 vs) w := by kernel_rfl
theorem Try.in47 (w : World) (vs : Array Value) : (callFunc 47 vs).run Try.prog w = .ok (.enter 47 vs) w := by kernel_rfl
theorem Try.in60 (w : World) (vs : Array Value) : (callFunc 60 vs).run Try.prog w = .ok (.enter 60 vs) w := by kernel_rfl
theorem Try.in67 (w : World) (vs : Array Value) : (callFunc 67 vs).run Try.prog w = .ok (.enter 67 vs) w := by kernel_rfl
theorem Try.in68 (w : World) (vs : Array Value) : (callFunc 68 vs).run Try.prog w = .ok (.enter 68 vs) w := by kernel_rfl
theorem Try.in20 (w : World) (vs : Array Value) : (callFunc 20 vs).run Try.prog w = .ok (.enter 20 vs) w := by kernel_rfl
theorem Try.in52 (w : World) (vs : Array Value) : (callFunc 52 vs).run Try.prog w = .ok (.enter 52 vs) w := by kernel_rfl
theorem Try.in21 (w : World) (vs : Array Value) : (callFunc 21 vs).run Try.prog w = .ok (.enter 21 vs) w := by kernel_rfl
theorem Try.in19 (w : World) (vs : Array Value) : (callFunc 19 vs).run Try.prog w = .ok (.enter 19 vs) w := by kernel_rfl
theorem Try.in11 (w : World) (vs : Array Value) : (callFunc 11 vs).run Try.prog w = .ok (.enter 11 vs) w := by kernel_rfl
set_option maxRecDepth 8000 in
set_option maxHeartbeats 2000000 in
theorem putHashes_any (B p : Nat) (v : Value) (L : List Int) (w0 w : World) (hw0 : B ≤ w0.heap.size) (hs0 : w0.heap.size ≤ B) (hb : Below B w0 w) (hO : OutAt w p v L) (hp : B ≤ p) (hf : Fr B v) (vl : Value) (l : List Hs) (hr : Sh.HRow w0 vl l) (hn : l.length ≤ 140737488355328) (hl : (L ++ hsL l).length ≤ 140737488355328) :
    Calls Try.prog 42 #[ptr p, vl] w (PPost B p v w0 w (L ++ hsL l)) := by
  obtain ⟨pa, pc, rfl⟩ := hr.form
  have HS0 : Keep (PS B p v w0 w L v w) := ⟨PS.start hO hf hb⟩
  have HO := Keep.mk hO
  have Hw0 := Keep.mk hw0
  have Hs0 := Keep.mk hs0
  have Hb := Keep.mk hb
  have Hp := Keep.mk hp
  have HF := Keep.mk hf
  have HR := Keep.mk hr
  have HN := Keep.mk hn
  have HL := Keep.mk hl
  have hwn : IntKind.u64.wrap (l.length : Int) = (l.length : Int) := by rw [IntKind.wrap_u64]; omega
  have hni : (l.length : Int) ≤ 9223372036854775807 := by omega
  clear hO hw0 hs0 hb hp hf hr hn hl
  unfold hsL
  go_enter Try.func42, Try.ntmps42
  refine wp_seq_k fun K1 hK1 => ?_
  refine wp_region_list (WL.out ?_)
  refine WL.val (by kernel_rfl) (.pointer (some ⟨p, 0, none⟩)) (by go_simp) ?_
  simp only [Act.put, List.setIfInBounds_toArray, List.set_cons_zero, List.set_cons_succ]
  refine WL.val (by kernel_rfl) (.slice pa l.length pc) (by go_simp) ?_
  simp only [Act.put, List.setIfInBounds_toArray, List.set_cons_zero, List.set_cons_succ]
  refine WL.val (by kernel_rfl) (.int .i64 (l.length : Int)) (by go_simp) ?_
  simp only [Act.put, List.setIfInBounds_toArray, List.set_cons_zero, List.set_cons_succ]
  refine WL.val (by kernel_rfl) (.int .u64 (l.length : Int)) (by go_simp) ?_
  simp only [Act.put, List.setIfInBounds_toArray, List.set_cons_zero, List.set_cons_succ]
  refine WL.callF (by kernel_rfl) 67 _ _ rfl Try.in67 #[ptr p, .int .u64 (l.length : Int)] (by simp [Act.eval]) ?_
  refine (onum_any p v L l.length w HO.out (by have := HN.out; omega) (by have := HL.out; rw [hsL, List.length_append, List.length_append] at this; rw [List.length_append]; omega)).mono ?_
  intro e w1 hp1
  obtain ⟨rfl, v1, hP1⟩ := HS0.out.call hp1 Hw0.out Hp.out
  refine ⟨_, rfl, ?_⟩
  have HP1 : Keep (PS B p v w0 w (L ++ (numL l.length ++ (l.take 0).flatMap hB)) v1 w1) := ⟨hP1.cast (by simp)⟩
  clear hp1 hP1
  simp only [Act.put, List.setIfInBounds_toArray, List.set_cons_zero, List.set_cons_succ]
  refine WL.nil ?_
  refine hK1 _ _ ?_
  refine wp_seq_k fun K2 hK2 => ?_
  refine wp_region_list (WL.out ?_)
  refine WL.val (by kernel_rfl) (.slice pa l.length pc) (by go_simp) ?_
  simp only [Act.put, List.setIfInBounds_toArray, List.set_cons_zero, List.set_cons_succ]
  refine WL.val (by kernel_rfl) (.int .i64 (l.length : Int)) (by go_simp) ?_
  simp only [Act.put, List.setIfInBounds_toArray, List.set_cons_zero, List.set_cons_succ]
  refine WL.val (by kernel_rfl) (.int .i64 0) (by go_simp) ?_
  simp only [Act.put, List.setIfInBounds_toArray, List.set_cons_zero, List.set_cons_succ]
  refine WL.nil ?_
  refine hK2 _ _ ?_
  refine wp_block ?_
  refine wp_loop (fun ac wr => ∃ (t : Nat) (u5 u14 u15 u16 u17 u18 u19 u20 : Value), ac = { tmps := #[.pointer (some ⟨p, 0, none⟩), .slice pa l.length pc, undef, undef, undef, u5, .pointer (some ⟨p, 0, none⟩), .slice pa l.length pc, .int .i64 (l.length : Int), .int .u64 (l.length : Int), .tuple #[], .slice pa l.length pc, .int .i64 (l.length : Int), .int .i64 (t : Int), u14, u15, u16, u17, u18, u19, u20], defers := [] } ∧ t ≤ l.length ∧ ∃ vr, Keep (PS B p v w0 w (L ++ (numL l.length ++ (l.take t).flatMap hB)) vr wr)) (fun a _ => l.length - (intOf (a.tmps.getD 13 undef)).toNat) ⟨0, undef, undef, undef, undef, undef, undef, undef, undef, rfl, by omega, v1, HP1⟩ ?_
  rintro ac wr ⟨t, u5, u14, u15, u16, u17, u18, u19, u20, rfl, ht, vr, HPr⟩
  by_cases hlt : t < l.length
  · have hlt' : (t : Int) < (l.length : Int) := by omega
    have hwt : IntKind.i64.wrap ((t : Int) + 1) = (t : Int) + 1 := by rw [IntKind.wrap_i64]; have := HN.out; omega
    obtain ⟨b, o, hpa, hrg⟩ := HRow.at' HR.out t hlt Hs0.out HPr.out.b
    subst hpa
    have Hrg := Keep.mk hrg
    clear hrg
    obtain ⟨x, hx⟩ : ∃ x, x = l.getD t default := ⟨_, rfl⟩
    rw [← hx] at Hrg
    have Hx : Keep (l[t]? = some x) := ⟨by rw [hx, List.getD_eq_getElem?_getD, List.getElem?_eq_getElem hlt]; rfl⟩
    clear hx
    refine wp_seq_k fun K3 hK3 => ?_
    refine wp_region_list (WL.out ?_)
    refine WL.val (by kernel_rfl) (.bool true) (by go_simp) ?_
    simp only [Act.put, List.setIfInBounds_toArray, List.set_cons_zero, List.set_cons_succ]
    refine WL.nil ?_
    refine hK3 _ _ ?_
    refine wp_seq_k fun K4 hK4 => ?_
    refine wp_cond_true rfl ?_
    refine wp_skip ?_
    refine hK4 _ _ ?_
    refine wp_seq_k fun K5 hK5 => ?_
    refine wp_block ?_
    refine wp_seq_k fun K6 hK6 => ?_
    refine wp_region_list (WL.out ?_)
    refine WL.val (by kernel_rfl) (.pointer (some ⟨b, o + t * 32, none⟩)) (by go_simp) ?_
    simp only [Act.put, List.setIfInBounds_toArray, List.set_cons_zero, List.set_cons_succ]
    refine WL.mid (by kernel_rfl) 70 (.tmp 15) rfl b (o + t * 32) rfl (Sh.encH x) _ Hrg.out Try.underlying70 rfl (Sh.Try.size70L x) ?_
    rw [Sh.encH_arr]
    simp only [Act.put, List.setIfInBounds_toArray, List.set_cons_zero, List.set_cons_succ]
    refine WL.new (by kernel_rfl) 70 rfl _ Try.new70 ?_
    have HXn := Keep.mk (Blk.new wr 70 (bytesA 32 fun _ => 0))
    have HPn := Keep.mk (HPr.out.alloc Hw0.out (.cells (bytesA 32 fun _ => 0) 70))
    have Hgn : Keep (B ≤ wr.heap.size ∧ wr.heap.size ≠ p ∧ vr.ownBlock ≠ some wr.heap.size ∧ w.heap.size ≤ wr.heap.size) := ⟨Nat.le_trans Hw0.out HPr.out.b.size, fun e => by have := HPr.out.o.blk.lt; omega, fun e => by have := HPr.out.o.own.lt _ e; omega, HPr.out.g.size⟩
    generalize wr.alloc (.cells (bytesA 32 fun _ => 0) 70) = wn at *
    generalize wr.heap.size = gn at *
    simp only [Act.put, List.setIfInBounds_toArray, List.set_cons_zero, List.set_cons_succ]
    refine WL.storeR (by kernel_rfl) 70 (.tmp 5) (.tmp 16) rfl gn (bytesA 32 x.f) rfl rfl 70 (bytesA 32 fun _ => 0) HXn.out (Try.size70B _) (bytesA_sizes _ _ _) (bytesA_one _ _) ?_
    have HX2 := Keep.mk (HXn.out.setRow (bytesA 32 x.f))
    have HP2 := Keep.mk (HPn.out.setRow gn (bytesA 32 x.f) Hgn.out.2.2.2 Hgn.out.1 Hgn.out.2.1 Hgn.out.2.2.1)
    generalize wn.setRow gn (bytesA 32 x.f) = w2 at *
    simp only [Act.put]
    refine WL.nil ?_
    refine hK6 _ _ ?_
    refine wp_region_list (WL.out ?_)
    refine WL.val (by kernel_rfl) (.pointer (some ⟨p, 0, none⟩)) (by go_simp) ?_
    simp only [Act.put, List.setIfInBounds_toArray, List.set_cons_zero, List.set_cons_succ]
    refine WL.row (by kernel_rfl) 70 (.tmp 5) rfl gn rfl 70 (bytesA 32 x.f) _ HX2.out Try.underlying70 rfl (Try.size70B _) ?_
    simp only [Act.put, List.setIfInBounds_toArray, List.set_cons_zero, List.set_cons_succ]
    refine WL.callF (by kernel_rfl) 68 _ _ rfl Try.in68 #[ptr p, .agg (bytesA 32 x.f)] (by simp [Act.eval]) ?_
    refine (ohash_any p vr _ x.f w2 HP2.out.o (by have := HL.out; have h2 := fm_le hB l (t + 1); rw [fm_step hB l t x Hx.out, List.length_append, hB_len] at h2; rw [hsL, List.length_append, List.length_append] at this; rw [List.length_append, List.length_append]; omega)).mono ?_
    intro e w3 hp3
    obtain ⟨rfl, v3, hP3⟩ := HP2.out.call hp3 Hw0.out Hp.out
    refine ⟨_, rfl, ?_⟩
    have HP3 : Keep (PS B p v w0 w (L ++ (numL l.length ++ (l.take (t + 1)).flatMap hB)) v3 w3) := ⟨hP3.cast (by rw [fm_step hB l t x Hx.out]; simp only [List.append_assoc]; rfl)⟩
    clear hp3 hP3
    simp only [Act.put, List.setIfInBounds_toArray, List.set_cons_zero, List.set_cons_succ]
    refine WL.nil ?_
    refine hK5 _ _ ?_
    refine wp_region_list (WL.out ?_)
    refine WL.val (by kernel_rfl) (.int .i64 ((t : Int) + 1)) (by go_simp) ?_
    simp only [Act.put, List.setIfInBounds_toArray, List.set_cons_zero, List.set_cons_succ]
    refine WL.val (by kernel_rfl) (.int .i64 ((t : Int) + 1)) (by go_simp) ?_
    simp only [Act.put, List.setIfInBounds_toArray, List.set_cons_zero, List.set_cons_succ]
    refine WL.nil ?_
    refine ⟨⟨t + 1, .pointer (some ⟨gn, 0, none⟩), .bool true, .pointer (some ⟨b, o + t * 32, none⟩), .agg (bytesA 32 x.f), .pointer (some ⟨p, 0, none⟩), .agg (bytesA 32 x.f), .tuple #[], .int .i64 ((t : Int) + 1), rfl, by omega, v3, HP3⟩, by simp [intOf]; omega⟩
  · obtain rfl : t = l.length := by omega
    refine wp_seq_k fun K7 hK7 => ?_
    refine wp_region_list (WL.out ?_)
    refine WL.val (by kernel_rfl) (.bool false) (by go_simp) ?_
    simp only [Act.put, List.setIfInBounds_toArray, List.set_cons_zero, List.set_cons_succ]
    refine WL.nil ?_
    refine hK7 _ _ ?_
    refine wp_seq_k fun K8 hK8 => ?_
    refine wp_cond_false rfl ?_
    refine wp_exit ?_
    go_end0
    rw [List.take_length] at HPr
    exact ⟨rfl, vr, HPr.out⟩
set_option maxRecDepth 8000 in
set_option maxHeartbeats 2000000 in
theorem putBlocks_any (B p : Nat) (v : Value) (L : List Int) (w0 w : World) (hw0 : B ≤ w0.heap.size) (hs0 : w0.heap.size ≤ B) (hb : Below B w0 w) (hO : OutAt w p v L) (hp : B ≤ p) (hf : Fr B v) (vl : Value) (l : List (List Int)) (hr : RwsAt w0 vl l) (hpos : ∀ i, i < l.length → 0 < (l.getD i []).length) (hn : l.length ≤ 140737488355328) (hl : (L ++ bkL l).length ≤ 140737488355328) :
    Calls Try.prog 60 #[ptr p, vl] w (PPost B p v w0 w (L ++ bkL l)) := by
  obtain ⟨pa, pc, rfl⟩ := hr.form
  have HS0 : Keep (PS B p v w0 w L v w) := ⟨PS.start hO hf hb⟩
  have HO := Keep.mk hO
  have Hw0 := Keep.mk hw0
  have Hs0 := Keep.mk hs0
  have Hb := Keep.mk hb
  have Hp := Keep.mk hp
  have HF := Keep.mk hf
  have HR := Keep.mk hr
  have HP := Keep.mk hpos
  have HN := Keep.mk hn
  have HL := Keep.mk hl
  have hwn : IntKind.u64.wrap (l.length : Int) = (l.length : Int) := by rw [IntKind.wrap_u64]; omega
  have hni : (l.length : Int) ≤ 9223372036854775807 := by omega
  clear hO hw0 hs0 hb hp hf hr hn hl hpos
  unfold bkL
  go_enter Try.func60, Try.ntmps60
  refine wp_seq_k fun K1 hK1 => ?_
  refine wp_region_list (WL.out ?_)
  refine WL.val (by kernel_rfl) (.pointer (some ⟨p, 0, none⟩)) (by go_simp) ?_
  simp only [Act.put, List.setIfInBounds_toArray, List.set_cons_zero, List.set_cons_succ]
  refine WL.val (by kernel_rfl) (.slice pa l.length pc) (by go_simp) ?_
  simp only [Act.put, List.setIfInBounds_toArray, List.set_cons_zero, List.set_cons_succ]
  refine WL.val (by kernel_rfl) (.int .i64 (l.length : Int)) (by go_simp) ?_
  simp only [Act.put, List.setIfInBounds_toArray, List.set_cons_zero, List.set_cons_succ]
  refine WL.val (by kernel_rfl) (.int .u64 (l.length : Int)) (by go_simp) ?_
  simp only [Act.put, List.setIfInBounds_toArray, List.set_cons_zero, List.set_cons_succ]
  refine WL.callF (by kernel_rfl) 67 _ _ rfl Try.in67 #[ptr p, .int .u64 (l.length : Int)] (by simp [Act.eval]) ?_
  refine (onum_any p v L l.length w HO.out (by have := HN.out; omega) (by have := HL.out; rw [bkL, List.length_append, List.length_append] at this; rw [List.length_append]; omega)).mono ?_
  intro e w1 hp1
  obtain ⟨rfl, v1, hP1⟩ := HS0.out.call hp1 Hw0.out Hp.out
  refine ⟨_, rfl, ?_⟩
  have HP1 : Keep (PS B p v w0 w (L ++ (numL l.length ++ (l.take 0).flatMap bform)) v1 w1) := ⟨hP1.cast (by simp)⟩
  clear hp1 hP1
  simp only [Act.put, List.setIfInBounds_toArray, List.set_cons_zero, List.set_cons_succ]
  refine WL.nil ?_
  refine hK1 _ _ ?_
  refine wp_seq_k fun K2 hK2 => ?_
  refine wp_region_list (WL.out ?_)
  refine WL.val (by kernel_rfl) (.slice pa l.length pc) (by go_simp) ?_
  simp only [Act.put, List.setIfInBounds_toArray, List.set_cons_zero, List.set_cons_succ]
  refine WL.val (by kernel_rfl) (.int .i64 (l.length : Int)) (by go_simp) ?_
  simp only [Act.put, List.setIfInBounds_toArray, List.set_cons_zero, List.set_cons_succ]
  refine WL.val (by kernel_rfl) (.int .i64 0) (by go_simp) ?_
  simp only [Act.put, List.setIfInBounds_toArray, List.set_cons_zero, List.set_cons_succ]
  refine WL.nil ?_
  refine hK2 _ _ ?_
  refine wp_block ?_
  refine wp_loop (fun ac wr => ∃ (t : Nat) (u5 u14 u15 u16 u17 u18 u19 u20 : Value), ac = { tmps := #[.pointer (some ⟨p, 0, none⟩), .slice pa l.length pc, undef, undef, undef, u5, .pointer (some ⟨p, 0, none⟩), .slice pa l.length pc, .int .i64 (l.length : Int), .int .u64 (l.length : Int), .tuple #[], .slice pa l.length pc, .int .i64 (l.length : Int), .int .i64 (t : Int), u14, u15, u16, u17, u18, u19, u20], defers := [] } ∧ t ≤ l.length ∧ ∃ vr, Keep (PS B p v w0 w (L ++ (numL l.length ++ (l.take t).flatMap bform)) vr wr)) (fun a _ => l.length - (intOf (a.tmps.getD 13 undef)).toNat) ⟨0, undef, undef, undef, undef, undef, undef, undef, undef, rfl, by omega, v1, HP1⟩ ?_
  rintro ac wr ⟨t, u5, u14, u15, u16, u17, u18, u19, u20, rfl, ht, vr, HPr⟩
  by_cases hlt : t < l.length
  · have hlt' : (t : Int) < (l.length : Int) := by omega
    have hwt : IntKind.i64.wrap ((t : Int) + 1) = (t : Int) + 1 := by rw [IntKind.wrap_i64]; have := HN.out; omega
    obtain ⟨b, o, xa, xc, hpa, _, hcl, hrow⟩ := HR.out.at t hlt
    subst hpa
    obtain ⟨x, hx⟩ : ∃ x, x = l.getD t [] := ⟨_, rfl⟩
    rw [← hx] at hcl hrow
    have Hx : Keep (l[t]? = some x) := ⟨by rw [hx, List.getD_eq_getElem?_getD, List.getElem?_eq_getElem hlt]; rfl⟩
    have Hx0 : Keep (0 < x.length) := ⟨by rw [hx]; exact HP.out t hlt⟩
    have Hrow := Keep.mk hrow
    have hcl2 : wr.cell? ⟨b, o + t, none⟩ = some (.slice xa x.length xc) := by rw [(HPr.out.b.mono Hs0.out).cell (p := ⟨b, o + t, none⟩) (cell_lt hcl)]; exact hcl
    clear hx hrow hcl
    refine wp_seq_k fun K3 hK3 => ?_
    refine wp_region_list (WL.out ?_)
    refine WL.val (by kernel_rfl) (.bool true) (by go_simp) ?_
    simp only [Act.put, List.setIfInBounds_toArray, List.set_cons_zero, List.set_cons_succ]
    refine WL.nil ?_
    refine hK3 _ _ ?_
    refine wp_seq_k fun K4 hK4 => ?_
    refine wp_cond_true rfl ?_
    refine wp_skip ?_
    refine hK4 _ _ ?_
    refine wp_seq_k fun K5 hK5 => ?_
    refine wp_block ?_
    refine wp_seq_k fun K6 hK6 => ?_
    refine wp_region_list (WL.out ?_)
    refine WL.val (by kernel_rfl) (.pointer (some ⟨b, o + t, none⟩)) (by go_simp) ?_
    simp only [Act.put, List.setIfInBounds_toArray, List.set_cons_zero, List.set_cons_succ]
    refine WL.val (by kernel_rfl) (.slice xa x.length xc) (by go_simp) ?_
    simp only [Act.put, List.setIfInBounds_toArray, List.set_cons_zero, List.set_cons_succ]
    refine WL.val (by kernel_rfl) (.slice xa x.length xc) (by go_simp) ?_
    simp only [Act.put, List.setIfInBounds_toArray, List.set_cons_zero, List.set_cons_succ]
    refine WL.nil ?_
    refine hK6 _ _ ?_
    refine wp_region_list (WL.out ?_)
    refine WL.val (by kernel_rfl) (.pointer (some ⟨p, 0, none⟩)) (by go_simp) ?_
    simp only [Act.put, List.setIfInBounds_toArray, List.set_cons_zero, List.set_cons_succ]
    refine WL.val (by kernel_rfl) (.slice xa x.length xc) (by go_simp) ?_
    simp only [Act.put, List.setIfInBounds_toArray, List.set_cons_zero, List.set_cons_succ]
    refine WL.callF (by kernel_rfl) 52 _ _ rfl Try.in52 #[ptr p, .slice xa x.length xc] (by simp [Act.eval]) ?_
    refine (obytes_any p vr _ _ x wr HPr.out.o (Hrow.out.below (HPr.out.b.mono Hs0.out)) (fun k hk ho => by have h1 := row_lt Hrow.out Hx0.out hk; have h2 := Hs0.out; have h3 := Hp.out; rcases ho with rfl | ho; omega; have := HPr.out.f k ho; omega) (by have := HL.out; have h2 := fm_le bform l (t + 1); rw [fm_step bform l t x Hx.out, List.length_append] at h2; rw [bkL, List.length_append, List.length_append] at this; rw [List.length_append, List.length_append]; omega)).mono ?_
    intro e w3 hp3
    obtain ⟨rfl, v3, hP3⟩ := HPr.out.call hp3 Hw0.out Hp.out
    refine ⟨_, rfl, ?_⟩
    have HP3 : Keep (PS B p v w0 w (L ++ (numL l.length ++ (l.take (t + 1)).flatMap bform)) v3 w3) := ⟨hP3.cast (by rw [fm_step bform l t x Hx.out]; simp only [List.append_assoc])⟩
    clear hp3 hP3
    simp only [Act.put, List.setIfInBounds_toArray, List.set_cons_zero, List.set_cons_succ]
    refine WL.nil ?_
    refine hK5 _ _ ?_
    refine wp_region_list (WL.out ?_)
    refine WL.val (by kernel_rfl) (.int .i64 ((t : Int) + 1)) (by go_simp) ?_
    simp only [Act.put, List.setIfInBounds_toArray, List.set_cons_zero, List.set_cons_succ]
    refine WL.val (by kernel_rfl) (.int .i64 ((t : Int) + 1)) (by go_simp) ?_
    simp only [Act.put, List.setIfInBounds_toArray, List.set_cons_zero, List.set_cons_succ]
    refine WL.nil ?_
    refine ⟨⟨t + 1, .slice xa x.length xc, .bool true, .pointer (some ⟨b, o + t, none⟩), .slice xa x.length xc, .pointer (some ⟨p, 0, none⟩), .slice xa x.length xc, .tuple #[], .int .i64 ((t : Int) + 1), rfl, by omega, v3, HP3⟩, by simp [intOf]; omega⟩
  · obtain rfl : t = l.length := by omega
    refine wp_seq_k fun K7 hK7 => ?_
    refine wp_region_list (WL.out ?_)
    refine WL.val (by kernel_rfl) (.bool false) (by go_simp) ?_
    simp only [Act.put, List.setIfInBounds_toArray, List.set_cons_zero, List.set_cons_succ]
    refine WL.nil ?_
    refine hK7 _ _ ?_
    refine wp_seq_k fun K8 hK8 => ?_
    refine wp_cond_false rfl ?_
    refine wp_exit ?_
    go_end0
    rw [List.take_length] at HPr
    exact ⟨rfl, vr, HPr.out⟩
theorem salt_len (s : Int) (t : Nat) : (saltP s t).length = t := by simp [saltP]
theorem salt_step (s : Int) (t : Nat) : saltP s (t + 1) = saltP s t ++ [s / 256 ^ t % 256] := by simp [saltP, List.range_succ]
theorem salt_div (s : Int) (t : Nat) : s / 256 ^ t / 256 = s / 256 ^ (t + 1) := by
  have hp : (0 : Int) < 256 ^ t := Int.pow_pos (by decide)
  rw [Int.pow_succ, Int.ediv_ediv, if_neg (fun h => by omega), Int.sub_zero]
theorem salt_rng (s : Int) (t : Nat) (h : 0 ≤ s ∧ s < 18446744073709551616) : 0 ≤ s / 256 ^ t ∧ s / 256 ^ t < 18446744073709551616 := by
  have hp : (0 : Int) < 256 ^ t := Int.pow_pos (by decide)
  exact ⟨Int.ediv_nonneg h.1 (Int.le_of_lt hp), Int.lt_of_le_of_lt (Int.ediv_le_self _ h.1) h.2⟩
set_option maxRecDepth 8000 in
set_option maxHeartbeats 2000000 in
theorem putSalt_any (B p : Nat) (v : Value) (L : List Int) (w0 w : World) (hw0 : B ≤ w0.heap.size) (hs0 : w0.heap.size ≤ B) (hb : Below B w0 w) (hO : OutAt w p v L) (hp : B ≤ p) (hf : Fr B v) (s : Int) (hs : 0 ≤ s ∧ s < 18446744073709551616) (hl : (L ++ saltP s 8).length ≤ 140737488355328) :
    Calls Try.prog 47 #[ptr p, .int .u64 s] w (PPost B p v w0 w (L ++ saltP s 8)) := by
  have HS0 : Keep (PS B p v w0 w L v w) := ⟨PS.start hO hf hb⟩
  have HO := Keep.mk hO
  have Hw0 := Keep.mk hw0
  have Hs0 := Keep.mk hs0
  have Hb := Keep.mk hb
  have Hp := Keep.mk hp
  have HF := Keep.mk hf
  have HS := Keep.mk hs
  have HL := Keep.mk hl
  clear hO hw0 hs0 hb hp hf hl hs
  go_enter Try.func47, Try.ntmps47
  refine wp_seq_k fun K1 hK1 => ?_
  refine wp_region_list (WL.out ?_)
  refine WL.val (by kernel_rfl) (.int .i64 0) (by go_simp) ?_
  simp only [Act.put, List.setIfInBounds_toArray, List.set_cons_zero, List.set_cons_succ]
  refine WL.nil ?_
  refine hK1 _ _ ?_
  refine wp_block ?_
  refine wp_loop (fun ac wr => ∃ (t : Nat) (u5 u6 u7 u8 u9 u10 u11 u12 : Value), ac = { tmps := #[.pointer (some ⟨p, 0, none⟩), .int .u64 (s / 256 ^ t), undef, undef, .int .i64 (t : Int), u5, u6, u7, u8, u9, u10, u11, u12], defers := [] } ∧ t ≤ 8 ∧ ∃ vr, Keep (PS B p v w0 w (L ++ saltP s t) vr wr)) (fun a _ => 8 - (intOf (a.tmps.getD 4 undef)).toNat) ⟨0, undef, undef, undef, undef, undef, undef, undef, undef, by simp, by omega, v, ⟨HS0.out.cast (by simp [saltP])⟩⟩ ?_
  rintro ac wr ⟨t, u5, u6, u7, u8, u9, u10, u11, u12, rfl, ht, vr, HPr⟩
  by_cases hlt : t < 8
  · have hlt' : (t : Int) < 8 := by omega
    have hwt : IntKind.i64.wrap ((t : Int) + 1) = (t : Int) + 1 := by rw [IntKind.wrap_i64]; omega
    obtain ⟨y, hy⟩ : ∃ y, y = s / 256 ^ t := ⟨_, rfl⟩
    rw [← hy]
    have Hy := Keep.mk hy
    have hyr : 0 ≤ y ∧ y < 18446744073709551616 := by rw [hy]; exact salt_rng s t HS.out
    clear hy
    have hw8 : IntKind.u8.wrap y = y % 256 := by rw [IntKind.wrap_u8]
    refine wp_seq_k fun K2 hK2 => ?_
    refine wp_region_list (WL.out ?_)
    refine WL.val (by kernel_rfl) (.bool true) (by go_simp) ?_
    simp only [Act.put, List.setIfInBounds_toArray, List.set_cons_zero, List.set_cons_succ]
    refine WL.nil ?_
    refine hK2 _ _ ?_
    refine wp_seq_k fun K3 hK3 => ?_
    refine wp_cond_true rfl ?_
    refine wp_skip ?_
    refine hK3 _ _ ?_
    refine wp_seq_k fun K4 hK4 => ?_
    refine wp_block ?_
    refine wp_seq_k fun K5 hK5 => ?_
    refine wp_region_list (WL.out ?_)
    refine WL.val (by kernel_rfl) (.pointer (some ⟨p, 0, none⟩)) (by go_simp) ?_
    simp only [Act.put, List.setIfInBounds_toArray, List.set_cons_zero, List.set_cons_succ]
    refine WL.val (by kernel_rfl) (.int .u64 y) (by go_simp) ?_
    simp only [Act.put, List.setIfInBounds_toArray, List.set_cons_zero, List.set_cons_succ]
    refine WL.val (by kernel_rfl) (.int .u8 (y % 256)) (by go_simp) ?_
    simp only [Act.put, List.setIfInBounds_toArray, List.set_cons_zero, List.set_cons_succ]
    refine WL.callF (by kernel_rfl) 20 _ _ rfl Try.in20 #[ptr p, .int .u8 (y % 256)] (by simp [Act.eval]) ?_
    refine (obyte_any p vr _ (y % 256) wr HPr.out.o (by have := HL.out; rw [List.length_append, salt_len] at this; rw [List.length_append, List.length_append, salt_len]; simp; omega)).mono ?_
    intro e w3 hp3
    obtain ⟨rfl, v3, hP3⟩ := HPr.out.call hp3 Hw0.out Hp.out
    refine ⟨_, rfl, ?_⟩
    have HP3 : Keep (PS B p v w0 w (L ++ saltP s (t + 1)) v3 w3) := ⟨hP3.cast (by rw [salt_step, ← Hy.out, ← List.append_assoc])⟩
    clear hp3 hP3
    simp only [Act.put, List.setIfInBounds_toArray, List.set_cons_zero, List.set_cons_succ]
    refine WL.nil ?_
    refine hK5 _ _ ?_
    refine wp_region_list (WL.out ?_)
    refine WL.val (by kernel_rfl) (.int .u64 y) (by go_simp) ?_
    simp only [Act.put, List.setIfInBounds_toArray, List.set_cons_zero, List.set_cons_succ]
    refine WL.val (by kernel_rfl) (.int .u64 (y / 256)) (by go_simp) ?_
    simp only [Act.put, List.setIfInBounds_toArray, List.set_cons_zero, List.set_cons_succ]
    refine WL.val (by kernel_rfl) (.int .u64 (y / 256)) (by go_simp) ?_
    simp only [Act.put, List.setIfInBounds_toArray, List.set_cons_zero, List.set_cons_succ]
    refine WL.nil ?_
    refine hK4 _ _ ?_
    refine wp_region_list (WL.out ?_)
    refine WL.val (by kernel_rfl) (.int .i64 ((t : Int) + 1)) (by go_simp) ?_
    simp only [Act.put, List.setIfInBounds_toArray, List.set_cons_zero, List.set_cons_succ]
    refine WL.val (by kernel_rfl) (.int .i64 ((t : Int) + 1)) (by go_simp) ?_
    simp only [Act.put, List.setIfInBounds_toArray, List.set_cons_zero, List.set_cons_succ]
    refine WL.nil ?_
    refine ⟨⟨t + 1, .bool true, .pointer (some ⟨p, 0, none⟩), .int .u64 y, .int .u8 (y % 256), .tuple #[], .int .u64 y, .int .u64 (y / 256), .int .i64 ((t : Int) + 1), by rw [← salt_div, ← Hy.out]; rfl, by omega, v3, HP3⟩, by simp [intOf]; omega⟩
  · obtain rfl : t = 8 := by omega
    refine wp_seq_k fun K6 hK6 => ?_
    refine wp_region_list (WL.out ?_)
    refine WL.val (by kernel_rfl) (.bool false) (by go_simp) ?_
    simp only [Act.put, List.setIfInBounds_toArray, List.set_cons_zero, List.set_cons_succ]
    refine WL.nil ?_
    refine hK6 _ _ ?_
    refine wp_seq_k fun K7 hK7 => ?_
    refine wp_cond_false rfl ?_
    refine wp_exit ?_
    go_end0
    exact ⟨rfl, vr, HPr.out⟩
def pfn (i : Nat) : Nat := if i = 0 then 41 else if i = 1 then 46 else if i = 2 then 51 else if i = 3 then 56 else 59
theorem pfn_in (i : Nat) (w : World) (vs : Array Value) : (callFunc (pfn i) vs).run Try.prog w = .ok (.enter (pfn i) vs) w := by
  unfold pfn
  repeat' split
  all_goals kernel_rfl
theorem fldA_p (i : Nat) : (fldA i)[1]? = some (.func (.func (pfn i)) #[] #[]) := by
  unfold fldA pfn
  repeat' split
  all_goals rfl
theorem put0_any (B p : Nat) (v : Value) (L : List Int) (w0 w : World) (hw0 : B ≤ w0.heap.size) (hs0 : w0.heap.size ≤ B) (hb : Below B w0 w) (hO : OutAt w p v L) (hp : B ≤ p) (hf : Fr B v) (M : MsgV) (c : MC) (hA : MsAt w0 M c) (hok : MsOk M) (hl : (L ++ putF 0 M).length ≤ 140737488355328) :
    Calls Try.prog 41 #[ptr p, .agg (msA c)] w (PPost B p v w0 w (L ++ putF 0 M)) := by
  have HS0 : Keep (PS B p v w0 w L v w) := ⟨PS.start hO hf hb⟩
  have HO := Keep.mk hO
  have Hw0 := Keep.mk hw0
  have Hs0 := Keep.mk hs0
  have Hb := Keep.mk hb
  have Hp := Keep.mk hp
  have HF := Keep.mk hf
  have HA := Keep.mk hA
  have Hok := Keep.mk hok
  have HL := Keep.mk hl
  obtain ⟨⟨ha, hn, hk, e1⟩, ⟨ba, bn, bk, e2⟩, ⟨wa, wn, wk, e3⟩, ⟨xa, xn, xk, e4⟩⟩ := hA.sl
  clear hO hw0 hs0 hb hp hf hl hA hok
  go_enter Try.func41, Try.ntmps41
  refine wp_seq_k fun K1 hK1 => ?_
  refine wp_region_list (WL.out ?_)
  refine WL.box (by kernel_rfl) 32 (.tmp 1) rfl _ rfl ?_
  have HX := Keep.mk (Blk.new w 32 (msA c))
  have HP1 := Keep.mk (HS0.out.alloc Hw0.out (.cells (msA c) 32))
  generalize w.alloc (.cells (msA c) 32) = w1 at *
  generalize w.heap.size = g at *
  have c0 := HX.out.c 1 (ms_1 c)
  simp only [Act.put, List.setIfInBounds_toArray, List.set_cons_zero, List.set_cons_succ]
  refine WL.nil ?_
  refine hK1 _ _ ?_
  refine wp_region_list (WL.out ?_)
  refine WL.val (by kernel_rfl) (.pointer (some ⟨p, 0, none⟩)) (by go_simp) ?_
  simp only [Act.put, List.setIfInBounds_toArray, List.set_cons_zero, List.set_cons_succ]
  refine WL.val (by kernel_rfl) (.pointer (some ⟨g, 1, none⟩)) (by go_simp) ?_
  simp only [Act.put, List.setIfInBounds_toArray, List.set_cons_zero, List.set_cons_succ]
  refine WL.val (by kernel_rfl) (c.h) (by go_simp) ?_
  simp only [Act.put, List.setIfInBounds_toArray, List.set_cons_zero, List.set_cons_succ]
  refine WL.callF (by kernel_rfl) 42 _ _ rfl Try.in42 #[ptr p, c.h] (by simp [Act.eval]) ?_
  refine (putHashes_any B p v L w0 w1 Hw0.out Hs0.out HP1.out.b HP1.out.o Hp.out HF.out c.h M.hd HA.out.hd Hok.out.hd HL.out).mono ?_
  intro e w2 hp2
  obtain ⟨rfl, v2, hP2⟩ := PPost.up HP1.out hp2
  refine ⟨_, rfl, ?_⟩
  simp only [Act.put, List.setIfInBounds_toArray, List.set_cons_zero, List.set_cons_succ]
  refine WL.nil ?_
  go_end0
  exact ⟨rfl, v2, by first | exact hP2 | (rw [HA.out.s] at hP2; exact hP2)⟩
theorem put1_any (B p : Nat) (v : Value) (L : List Int) (w0 w : World) (hw0 : B ≤ w0.heap.size) (hs0 : w0.heap.size ≤ B) (hb : Below B w0 w) (hO : OutAt w p v L) (hp : B ≤ p) (hf : Fr B v) (M : MsgV) (c : MC) (hA : MsAt w0 M c) (hok : MsOk M) (hl : (L ++ putF 1 M).length ≤ 140737488355328) :
    Calls Try.prog 46 #[ptr p, .agg (msA c)] w (PPost B p v w0 w (L ++ putF 1 M)) := by
  have HS0 : Keep (PS B p v w0 w L v w) := ⟨PS.start hO hf hb⟩
  have HO := Keep.mk hO
  have Hw0 := Keep.mk hw0
  have Hs0 := Keep.mk hs0
  have Hb := Keep.mk hb
  have Hp := Keep.mk hp
  have HF := Keep.mk hf
  have HA := Keep.mk hA
  have Hok := Keep.mk hok
  have HL := Keep.mk hl
  obtain ⟨⟨ha, hn, hk, e1⟩, ⟨ba, bn, bk, e2⟩, ⟨wa, wn, wk, e3⟩, ⟨xa, xn, xk, e4⟩⟩ := hA.sl
  clear hO hw0 hs0 hb hp hf hl hA hok
  go_enter Try.func46, Try.ntmps46
  refine wp_seq_k fun K1 hK1 => ?_
  refine wp_region_list (WL.out ?_)
  refine WL.box (by kernel_rfl) 32 (.tmp 1) rfl _ rfl ?_
  have HX := Keep.mk (Blk.new w 32 (msA c))
  have HP1 := Keep.mk (HS0.out.alloc Hw0.out (.cells (msA c) 32))
  generalize w.alloc (.cells (msA c) 32) = w1 at *
  generalize w.heap.size = g at *
  have c0 := HX.out.c 2 (ms_2 c)
  simp only [Act.put, List.setIfInBounds_toArray, List.set_cons_zero, List.set_cons_succ]
  refine WL.nil ?_
  refine hK1 _ _ ?_
  refine wp_region_list (WL.out ?_)
  refine WL.val (by kernel_rfl) (.pointer (some ⟨p, 0, none⟩)) (by go_simp) ?_
  simp only [Act.put, List.setIfInBounds_toArray, List.set_cons_zero, List.set_cons_succ]
  refine WL.val (by kernel_rfl) (.pointer (some ⟨g, 2, none⟩)) (by go_simp) ?_
  simp only [Act.put, List.setIfInBounds_toArray, List.set_cons_zero, List.set_cons_succ]
  refine WL.val (by kernel_rfl) (.int .u64 c.s) (by go_simp) ?_
  simp only [Act.put, List.setIfInBounds_toArray, List.set_cons_zero, List.set_cons_succ]
  refine WL.callF (by kernel_rfl) 47 _ _ rfl Try.in47 #[ptr p, .int .u64 c.s] (by simp [Act.eval]) ?_
  refine (putSalt_any B p v L w0 w1 Hw0.out Hs0.out HP1.out.b HP1.out.o Hp.out HF.out c.s (by rw [HA.out.s]; exact Hok.out.s) (by rw [HA.out.s]; exact HL.out)).mono ?_
  intro e w2 hp2
  obtain ⟨rfl, v2, hP2⟩ := PPost.up HP1.out hp2
  refine ⟨_, rfl, ?_⟩
  simp only [Act.put, List.setIfInBounds_toArray, List.set_cons_zero, List.set_cons_succ]
  refine WL.nil ?_
  go_end0
  exact ⟨rfl, v2, by first | exact hP2 | (rw [HA.out.s] at hP2; exact hP2)⟩
theorem put2_any (B p : Nat) (v : Value) (L : List Int) (w0 w : World) (hw0 : B ≤ w0.heap.size) (hs0 : w0.heap.size ≤ B) (hb : Below B w0 w) (hO : OutAt w p v L) (hp : B ≤ p) (hf : Fr B v) (M : MsgV) (c : MC) (hA : MsAt w0 M c) (hok : MsOk M) (hz : 0 < M.bl.length) (hl : (L ++ putF 2 M).length ≤ 140737488355328) :
    Calls Try.prog 51 #[ptr p, .agg (msA c)] w (PPost B p v w0 w (L ++ putF 2 M)) := by
  have HS0 : Keep (PS B p v w0 w L v w) := ⟨PS.start hO hf hb⟩
  have HO := Keep.mk hO
  have Hw0 := Keep.mk hw0
  have Hs0 := Keep.mk hs0
  have Hb := Keep.mk hb
  have Hp := Keep.mk hp
  have HF := Keep.mk hf
  have HA := Keep.mk hA
  have Hok := Keep.mk hok
  have HL := Keep.mk hl
  have Hz := Keep.mk hz
  obtain ⟨⟨ha, hn, hk, e1⟩, ⟨ba, bn, bk, e2⟩, ⟨wa, wn, wk, e3⟩, ⟨xa, xn, xk, e4⟩⟩ := hA.sl
  clear hO hw0 hs0 hb hp hf hl hA hok hz
  go_enter Try.func51, Try.ntmps51
  refine wp_seq_k fun K1 hK1 => ?_
  refine wp_region_list (WL.out ?_)
  refine WL.box (by kernel_rfl) 32 (.tmp 1) rfl _ rfl ?_
  have HX := Keep.mk (Blk.new w 32 (msA c))
  have HP1 := Keep.mk (HS0.out.alloc Hw0.out (.cells (msA c) 32))
  generalize w.alloc (.cells (msA c) 32) = w1 at *
  generalize w.heap.size = g at *
  have c0 := HX.out.c 3 (ms_3 c)
  simp only [Act.put, List.setIfInBounds_toArray, List.set_cons_zero, List.set_cons_succ]
  refine WL.nil ?_
  refine hK1 _ _ ?_
  refine wp_region_list (WL.out ?_)
  refine WL.val (by kernel_rfl) (.pointer (some ⟨p, 0, none⟩)) (by go_simp) ?_
  simp only [Act.put, List.setIfInBounds_toArray, List.set_cons_zero, List.set_cons_succ]
  refine WL.val (by kernel_rfl) (.pointer (some ⟨g, 3, none⟩)) (by go_simp) ?_
  simp only [Act.put, List.setIfInBounds_toArray, List.set_cons_zero, List.set_cons_succ]
  refine WL.val (by kernel_rfl) (c.b) (by go_simp) ?_
  simp only [Act.put, List.setIfInBounds_toArray, List.set_cons_zero, List.set_cons_succ]
  refine WL.callF (by kernel_rfl) 52 _ _ rfl Try.in52 #[ptr p, c.b] (by simp [Act.eval]) ?_
  refine ((obytes_any p v c.b L M.bl w1 HP1.out.o (HA.out.bl.below (HP1.out.b.mono Hs0.out)) (fun k hk ho => by have h1 := row_lt HA.out.bl Hz.out hk; have h2 := Hs0.out; have h3 := Hp.out; rcases ho with rfl | ho; omega; have := HF.out k ho; omega) (by have := HL.out; rw [List.length_append] at this; exact this)).mono fun e w' h => (PS.start HP1.out.o HF.out HP1.out.b).call h Hw0.out Hp.out).mono ?_
  intro e w2 hp2
  obtain ⟨rfl, v2, hP2⟩ := PPost.up HP1.out hp2
  refine ⟨_, rfl, ?_⟩
  simp only [Act.put, List.setIfInBounds_toArray, List.set_cons_zero, List.set_cons_succ]
  refine WL.nil ?_
  go_end0
  exact ⟨rfl, v2, by first | exact hP2 | (rw [HA.out.s] at hP2; exact hP2)⟩
theorem put3_any (B p : Nat) (v : Value) (L : List Int) (w0 w : World) (hw0 : B ≤ w0.heap.size) (hs0 : w0.heap.size ≤ B) (hb : Below B w0 w) (hO : OutAt w p v L) (hp : B ≤ p) (hf : Fr B v) (M : MsgV) (c : MC) (hA : MsAt w0 M c) (hok : MsOk M) (hl : (L ++ putF 3 M).length ≤ 140737488355328) :
    Calls Try.prog 56 #[ptr p, .agg (msA c)] w (PPost B p v w0 w (L ++ putF 3 M)) := by
  have HS0 : Keep (PS B p v w0 w L v w) := ⟨PS.start hO hf hb⟩
  have HO := Keep.mk hO
  have Hw0 := Keep.mk hw0
  have Hs0 := Keep.mk hs0
  have Hb := Keep.mk hb
  have Hp := Keep.mk hp
  have HF := Keep.mk hf
  have HA := Keep.mk hA
  have Hok := Keep.mk hok
  have HL := Keep.mk hl
  obtain ⟨⟨ha, hn, hk, e1⟩, ⟨ba, bn, bk, e2⟩, ⟨wa, wn, wk, e3⟩, ⟨xa, xn, xk, e4⟩⟩ := hA.sl
  clear hO hw0 hs0 hb hp hf hl hA hok
  go_enter Try.func56, Try.ntmps56
  refine wp_seq_k fun K1 hK1 => ?_
  refine wp_region_list (WL.out ?_)
  refine WL.box (by kernel_rfl) 32 (.tmp 1) rfl _ rfl ?_
  have HX := Keep.mk (Blk.new w 32 (msA c))
  have HP1 := Keep.mk (HS0.out.alloc Hw0.out (.cells (msA c) 32))
  generalize w.alloc (.cells (msA c) 32) = w1 at *
  generalize w.heap.size = g at *
  have c0 := HX.out.c 4 (ms_4 c)
  simp only [Act.put, List.setIfInBounds_toArray, List.set_cons_zero, List.set_cons_succ]
  refine WL.nil ?_
  refine hK1 _ _ ?_
  refine wp_region_list (WL.out ?_)
  refine WL.val (by kernel_rfl) (.pointer (some ⟨p, 0, none⟩)) (by go_simp) ?_
  simp only [Act.put, List.setIfInBounds_toArray, List.set_cons_zero, List.set_cons_succ]
  refine WL.val (by kernel_rfl) (.pointer (some ⟨g, 4, none⟩)) (by go_simp) ?_
  simp only [Act.put, List.setIfInBounds_toArray, List.set_cons_zero, List.set_cons_succ]
  refine WL.val (by kernel_rfl) (c.w) (by go_simp) ?_
  simp only [Act.put, List.setIfInBounds_toArray, List.set_cons_zero, List.set_cons_succ]
  refine WL.callF (by kernel_rfl) 42 _ _ rfl Try.in42 #[ptr p, c.w] (by simp [Act.eval]) ?_
  refine (putHashes_any B p v L w0 w1 Hw0.out Hs0.out HP1.out.b HP1.out.o Hp.out HF.out c.w M.wt HA.out.wt Hok.out.wt HL.out).mono ?_
  intro e w2 hp2
  obtain ⟨rfl, v2, hP2⟩ := PPost.up HP1.out hp2
  refine ⟨_, rfl, ?_⟩
  simp only [Act.put, List.setIfInBounds_toArray, List.set_cons_zero, List.set_cons_succ]
  refine WL.nil ?_
  go_end0
  exact ⟨rfl, v2, by first | exact hP2 | (rw [HA.out.s] at hP2; exact hP2)⟩
theorem put4_any (B p : Nat) (v : Value) (L : List Int) (w0 w : World) (hw0 : B ≤ w0.heap.size) (hs0 : w0.heap.size ≤ B) (hb : Below B w0 w) (hO : OutAt w p v L) (hp : B ≤ p) (hf : Fr B v) (M : MsgV) (c : MC) (hA : MsAt w0 M c) (hok : MsOk M) (hz : ∀ i, i < M.bk.length → 0 < (M.bk.getD i []).length) (hl : (L ++ putF 4 M).length ≤ 140737488355328) :
    Calls Try.prog 59 #[ptr p, .agg (msA c)] w (PPost B p v w0 w (L ++ putF 4 M)) := by
  have HS0 : Keep (PS B p v w0 w L v w) := ⟨PS.start hO hf hb⟩
  have HO := Keep.mk hO
  have Hw0 := Keep.mk hw0
  have Hs0 := Keep.mk hs0
  have Hb := Keep.mk hb
  have Hp := Keep.mk hp
  have HF := Keep.mk hf
  have HA := Keep.mk hA
  have Hok := Keep.mk hok
  have HL := Keep.mk hl
  have Hz := Keep.mk hz
  obtain ⟨⟨ha, hn, hk, e1⟩, ⟨ba, bn, bk, e2⟩, ⟨wa, wn, wk, e3⟩, ⟨xa, xn, xk, e4⟩⟩ := hA.sl
  clear hO hw0 hs0 hb hp hf hl hA hok hz
  go_enter Try.func59, Try.ntmps59
  refine wp_seq_k fun K1 hK1 => ?_
  refine wp_region_list (WL.out ?_)
  refine WL.box (by kernel_rfl) 32 (.tmp 1) rfl _ rfl ?_
  have HX := Keep.mk (Blk.new w 32 (msA c))
  have HP1 := Keep.mk (HS0.out.alloc Hw0.out (.cells (msA c) 32))
  generalize w.alloc (.cells (msA c) 32) = w1 at *
  generalize w.heap.size = g at *
  have c0 := HX.out.c 5 (ms_5 c)
  simp only [Act.put, List.setIfInBounds_toArray, List.set_cons_zero, List.set_cons_succ]
  refine WL.nil ?_
  refine hK1 _ _ ?_
  refine wp_region_list (WL.out ?_)
  refine WL.val (by kernel_rfl) (.pointer (some ⟨p, 0, none⟩)) (by go_simp) ?_
  simp only [Act.put, List.setIfInBounds_toArray, List.set_cons_zero, List.set_cons_succ]
  refine WL.val (by kernel_rfl) (.pointer (some ⟨g, 5, none⟩)) (by go_simp) ?_
  simp only [Act.put, List.setIfInBounds_toArray, List.set_cons_zero, List.set_cons_succ]
  refine WL.val (by kernel_rfl) (c.x) (by go_simp) ?_
  simp only [Act.put, List.setIfInBounds_toArray, List.set_cons_zero, List.set_cons_succ]
  refine WL.callF (by kernel_rfl) 60 _ _ rfl Try.in60 #[ptr p, c.x] (by simp [Act.eval]) ?_
  refine (putBlocks_any B p v L w0 w1 Hw0.out Hs0.out HP1.out.b HP1.out.o Hp.out HF.out c.x M.bk HA.out.bk Hz.out Hok.out.bk HL.out).mono ?_
  intro e w2 hp2
  obtain ⟨rfl, v2, hP2⟩ := PPost.up HP1.out hp2
  refine ⟨_, rfl, ?_⟩
  simp only [Act.put, List.setIfInBounds_toArray, List.set_cons_zero, List.set_cons_succ]
  refine WL.nil ?_
  go_end0
  exact ⟨rfl, v2, by first | exact hP2 | (rw [HA.out.s] at hP2; exact hP2)⟩
structure PutOk (M : MsgV) (i : Nat) : Prop where
  bl : i = 2 → 0 < M.bl.length
  bk : i = 4 → ∀ j, j < M.bk.length → 0 < (M.bk.getD j []).length
theorem put_any (i : Nat) (hi : i < 5) (B p : Nat) (v : Value) (L : List Int) (w0 w : World) (hw0 : B ≤ w0.heap.size) (hs0 : w0.heap.size ≤ B) (hb : Below B w0 w) (hO : OutAt w p v L) (hp : B ≤ p) (hf : Fr B v) (M : MsgV) (c : MC) (hA : MsAt w0 M c) (hok : MsOk M) (hz : PutOk M i) (hl : (L ++ putF i M).length ≤ 140737488355328) :
    Calls Try.prog (pfn i) #[ptr p, .agg (msA c)] w (PPost B p v w0 w (L ++ putF i M)) := by
  match i, hi with
  | 0, _ => exact put0_any B p v L w0 w hw0 hs0 hb hO hp hf M c hA hok hl
  | 1, _ => exact put1_any B p v L w0 w hw0 hs0 hb hO hp hf M c hA hok hl
  | 2, _ => exact put2_any B p v L w0 w hw0 hs0 hb hO hp hf M c hA hok (hz.bl rfl) hl
  | 3, _ => exact put3_any B p v L w0 w hw0 hs0 hb hO hp hf M c hA hok hl
  | 4, _ => exact put4_any B p v L w0 w hw0 hs0 hb hO hp hf M c hA hok (hz.bk rfl) hl
theorem chk_facts {M : MsgV} (h : chkM M = 0) : ¬ hasI M.k = [] ∧ moreB M = false ∧ M.hd.length ≤ 4096 ∧ M.wt.length ≤ 4096 ∧ M.bk.length ≤ 256 ∧ ¬ (M.k = 3 ∧ M.bk.length = 0) ∧ Sh.risesB M.hd = true ∧ Sh.risesB M.wt = true ∧ ¬ (M.k = 1 ∧ isP (M.bl.length : Int) = false) ∧ okR M.bk = true ∧ ¬ fit M.bk < M.bk.length := by
  unfold chkM at h
  repeat' split at h
  all_goals first | (exact absurd h (by decide)) | skip
  refine ⟨by assumption, by simp_all, by omega, by omega, by omega, by assumption, by simp_all, by simp_all, by assumption, by simp_all, by assumption⟩
theorem hsL_len (l : List Hs) : (hsL l).length ≤ 10 + l.length * 32 := by
  unfold hsL
  have h1 := numL_len l.length
  have h2 : (l.flatMap hB).length = l.length * 32 := by
    induction l with
    | nil => rfl
    | cons x l ih => rw [List.flatMap_cons, List.length_append, hB_len, ih (numL_len _), List.length_cons]; omega
  rw [List.length_append, h2]; omega
theorem bkL_len (l : List (List Int)) (h : okR l = true) : (bkL l).length ≤ 10 + l.length * 1048586 := by
  unfold bkL
  have h1 := numL_len l.length
  have h2 : (l.flatMap bform).length ≤ l.length * 1048586 := by
    clear h1
    induction l with
    | nil => simp
    | cons x l ih =>
      simp only [okR, List.all_cons, Bool.and_eq_true, decide_eq_true_eq] at h
      have h3 := numL_len x.length
      have h4 := ih (by simpa [okR] using h.2)
      rw [List.flatMap_cons, List.length_append, bform, List.length_append, List.length_cons]
      omega
  rw [List.length_append]; omega
theorem enc_small {M : MsgV} (h : chkM M = 0) : (encM M).length ≤ 300000000 := by
  obtain ⟨h1, h2, h3, h4, h5, h6, h7, h8, h9, h10, h11⟩ := chk_facts h
  have a1 := hsL_len M.hd
  have a2 := hsL_len M.wt
  have a3 := bkL_len M.bk h10
  unfold encM
  rcases hasI_cases h1 with e | e | e
  · have a4 : M.bl.length ≤ 8192 := by
      have : isP (M.bl.length : Int) = true := by
        rcases Bool.eq_false_or_eq_true (isP (M.bl.length : Int)) with hh | hh
        · exact hh
        · exact absurd ⟨e, hh⟩ h9
      have := isP_rng this
      omega
    have a5 := numL_len M.bl.length
    rw [e]
    simp [hasI, putF, bform, salt_len]
    omega
  · rw [e]
    simp [hasI, putF]
    omega
  · rw [e]
    simp [hasI, putF]
    omega
theorem put_ok {M : MsgV} (h : chkM M = 0) (i : Nat) (hi : i ∈ hasI M.k) : PutOk M i := by
  obtain ⟨h1, h2, h3, h4, h5, h6, h7, h8, h9, h10, h11⟩ := chk_facts h
  refine ⟨fun e => ?_, fun _ j hj => ((okR_iff _).1 h10 j hj).1⟩
  subst e
  rcases hasI_cases h1 with e | e | e
  · have : isP (M.bl.length : Int) = true := by
      rcases Bool.eq_false_or_eq_true (isP (M.bl.length : Int)) with hh | hh
      · exact hh
      · exact absurd ⟨e, hh⟩ h9
    have := isP_rng this
    omega
  · rw [e] at hi; simp [hasI] at hi
  · rw [e] at hi; simp [hasI] at hi
def FreshB (w w' : World) (v : Value) (l : List Int) : Prop := ∃ g, v = .slice (some ⟨g, 0, none⟩) l.length l.length ∧ w.heap.size ≤ g ∧ Blk w' g 5 (bv l).toArray
def EncPost (M : MsgV) (w : World) (e : Ending) (w' : World) : Prop := ∃ v, e = .returned (.tuple #[v, .int .i64 (chkM M)]) ∧ ((chkM M = 0 ∧ FreshB w w' v (encM M)) ∨ (chkM M ≠ 0 ∧ v = .slice none 0 0)) ∧ Below w.heap.size w w'
set_option maxRecDepth 8000 in
set_option maxHeartbeats 4000000 in
theorem encode_any (M : MsgV) (c : MC) (w : World) (hA : MsAt w M c) (hok : MsOk M) : Calls Try.prog 11 #[.agg (msA c)] w (EncPost M w) := by
  have Ek := Keep.mk hA.k
  have HA := Keep.mk hA
  have Hok := Keep.mk hok
  have hni : ((hasI M.k).length : Int) ≤ 9223372036854775807 := by have := hasI_len M.k; omega
  clear hA hok
  go_enter Try.func11, Try.ntmps11
  refine wp_seq_k fun K1 hK1 => ?_
  refine wp_region_list (WL.out ?_)
  refine WL.box (by kernel_rfl) 32 (.tmp 0) rfl _ rfl ?_
  have HM := Keep.mk (Blk.new w 32 (msA c))
  have B1 := Keep.mk (below_new w (.cells (msA c) 32))
  have HA1 := Keep.mk (HA.out.below (below_new w (.cells (msA c) 32)))
  generalize w.alloc (.cells (msA c) 32) = w1 at *
  obtain ⟨g, hg⟩ : ∃ g, g = w.heap.size := ⟨_, rfl⟩
  rw [← hg] at HM B1 ⊢
  have HgE := Keep.mk hg
  clear hg
  simp only [Act.put, List.setIfInBounds_toArray, List.set_cons_zero, List.set_cons_succ]
  refine WL.val (by kernel_rfl) (.slice none 0 0) (by go_simp) ?_
  simp only [Act.put, List.setIfInBounds_toArray, List.set_cons_zero, List.set_cons_succ]
  refine WL.val (by kernel_rfl) (.int .i64 0) (by go_simp) ?_
  simp only [Act.put, List.setIfInBounds_toArray, List.set_cons_zero, List.set_cons_succ]
  refine WL.nil ?_
  refine hK1 _ _ ?_
  refine wp_seq_k fun K2 hK2 => ?_
  refine wp_seq_k fun K3 hK3 => ?_
  refine wp_region_list (WL.out ?_)
  refine WL.row (by kernel_rfl) 32 (.tmp 1) rfl g rfl 32 (msA c) _ HM.out Try.underlying32 rfl (Try.size32B _) ?_
  simp only [Act.put, List.setIfInBounds_toArray, List.set_cons_zero, List.set_cons_succ]
  refine WL.callF (by kernel_rfl) 6 _ _ rfl Try.in6 #[.agg (msA c)] (by simp [Act.eval]) ?_
  refine (check_any M c w1 HA1.out Hok.out).mono ?_
  rintro e w2 ⟨rfl, hb2⟩
  refine ⟨_, rfl, ?_⟩
  have HM2 := Keep.mk (HM.out.below hb2 HM.out.lt)
  have HA2 := Keep.mk (HA1.out.below hb2)
  have B2 : Keep (Below g w w2) := ⟨B1.out.trans (hb2.mono (by rw [HgE.out]; exact B1.out.size))⟩
  clear hb2
  simp only [Act.put, List.setIfInBounds_toArray, List.set_cons_zero, List.set_cons_succ]
  refine WL.val (by kernel_rfl) (.int .i64 (chkM M)) (by go_simp) ?_
  simp only [Act.put, List.setIfInBounds_toArray, List.set_cons_zero, List.set_cons_succ]
  refine WL.nil ?_
  refine hK3 _ _ ?_
  refine wp_seq_k fun K4 hK4 => ?_
  refine wp_region_list (WL.out ?_)
  refine WL.val (by kernel_rfl) (.int .i64 (chkM M)) (by go_simp) ?_
  simp only [Act.put, List.setIfInBounds_toArray, List.set_cons_zero, List.set_cons_succ]
  by_cases h2_1 : chkM M = 0
  · skip
    refine WL.val (by kernel_rfl) (.bool false) (by go_simp) ?_
    simp only [Act.put, List.setIfInBounds_toArray, List.set_cons_zero, List.set_cons_succ]
    refine WL.nil ?_
    refine hK4 _ _ ?_
    refine wp_cond_false rfl ?_
    refine wp_skip ?_
    refine hK2 _ _ ?_
    refine wp_seq_k fun K5 hK5 => ?_
    have Hch := Keep.mk h2_1
    obtain ⟨h1, _, _, _, _, _, _, _, _, _, _⟩ := chk_facts h2_1
    have Hk := Keep.mk h1
    clear h1
    refine wp_region_list (WL.out ?_)
    refine WL.callF (by kernel_rfl) 19 _ _ rfl Try.in19 #[] (by simp [Act.eval]) ?_
    refine (newOut_any w2).mono ?_
    rintro e w3 ⟨rfl, hw3⟩
    refine ⟨_, rfl, ?_⟩
    have HO3 : Keep (OutAt w3 w2.heap.size (.slice none 0 0) []) := ⟨by rw [hw3]; exact ⟨Blk.new w2 73 _, own_nil _⟩⟩
    have B3 : Keep (Below w2.heap.size w2 w3) := ⟨by rw [hw3]; exact below_new w2 _⟩
    clear hw3
    obtain ⟨p, hp⟩ : ∃ p, p = w2.heap.size := ⟨_, rfl⟩
    rw [← hp] at HO3 B3 ⊢
    have HpE := Keep.mk hp
    clear hp
    have HM3 : Keep (Blk w3 g 32 (msA c)) := ⟨HM2.out.below B3.out (by rw [HpE.out]; exact HM2.out.lt)⟩
    have d0 := HM3.out.c 0 (ms_0 c)
    rw [Ek.out] at d0
    have hw8 : IntKind.u8.wrap M.k = M.k := by rw [IntKind.wrap_u8]; rcases hasI_cases Hk.out with e | e | e <;> rw [e] <;> rfl
    simp only [Act.put, List.setIfInBounds_toArray, List.set_cons_zero, List.set_cons_succ]
    refine WL.val (by kernel_rfl) (.pointer (some ⟨p, 0, none⟩)) (by go_simp) ?_
    simp only [Act.put, List.setIfInBounds_toArray, List.set_cons_zero, List.set_cons_succ]
    refine WL.nil ?_
    refine hK5 _ _ ?_
    refine wp_seq_k fun K6 hK6 => ?_
    refine wp_region_list (WL.out ?_)
    refine WL.val (by kernel_rfl) (.pointer (some ⟨p, 0, none⟩)) (by go_simp) ?_
    simp only [Act.put, List.setIfInBounds_toArray, List.set_cons_zero, List.set_cons_succ]
    refine WL.val (by kernel_rfl) (.pointer (some ⟨g, 0, none⟩)) (by go_simp) ?_
    simp only [Act.put, List.setIfInBounds_toArray, List.set_cons_zero, List.set_cons_succ]
    refine WL.val (by kernel_rfl) (.int .i64 M.k) (by go_simp) ?_
    simp only [Act.put, List.setIfInBounds_toArray, List.set_cons_zero, List.set_cons_succ]
    refine WL.val (by kernel_rfl) (.int .u8 M.k) (by go_simp) ?_
    simp only [Act.put, List.setIfInBounds_toArray, List.set_cons_zero, List.set_cons_succ]
    refine WL.callF (by kernel_rfl) 20 _ _ rfl Try.in20 #[ptr p, .int .u8 M.k] (by simp [Act.eval]) ?_
    refine (obyte_any p (.slice none 0 0) [] M.k w3 HO3.out (by simp)).mono ?_
    intro e w4 hp4
    obtain ⟨rfl, v4, hP4⟩ := (PS.start (B := p) (w0 := w2) HO3.out (fun k hk => by simp [Value.ownBlock] at hk) B3.out).call hp4 (by rw [HpE.out]; exact Nat.le_refl _) (Nat.le_refl _)
    refine ⟨_, rfl, ?_⟩
    have HO4 := Keep.mk hP4.o
    have HF4 := Keep.mk hP4.f
    have B4 := Keep.mk hP4.b
    clear hp4 hP4
    have HM4 : Keep (Blk w4 g 32 (msA c)) := ⟨HM2.out.below B4.out (by rw [HpE.out]; exact HM2.out.lt)⟩
    have e0 := HM4.out.c 0 (ms_0 c)
    rw [Ek.out] at e0
    simp only [Act.put, List.setIfInBounds_toArray, List.set_cons_zero, List.set_cons_succ]
    refine WL.nil ?_
    refine hK6 _ _ ?_
    refine wp_seq_k fun K7 hK7 => ?_
    refine wp_seq_k fun K8 hK8 => ?_
    refine wp_region_held_drew (S := fun wx => wx.cell? ⟨g, 0, none⟩ = some (.int .i64 M.k)) (by kernel_rfl) (e0) (fun hHeld => ?_)
    refine wpAnyH_take (i := 1) (oi := ⟨some 20, Op.fieldAddr 32 (Operand.tmp 1) 0, 0, _, _, none⟩) (v := .pointer (some ⟨g, 0, none⟩)) rfl (by kernel_rfl) (by kernel_rfl) (by kernel_rfl) (fun _ _ _ h => h) (Or.inl ⟨by rfl, fun w hS => by go_simp⟩) hHeld ?_
    simp only [Act.put, List.setIfInBounds_toArray, List.set_cons_zero, List.set_cons_succ]
    refine wpAnyH_take (i := 2) (oi := ⟨some 21, Op.load 3 (Operand.tmp 20), 3, _, _, none⟩) (v := .int .i64 M.k) rfl (by kernel_rfl) (by kernel_rfl) (by kernel_rfl) (fun _ _ _ h => h) (Or.inl ⟨by rfl, fun w hS => by go_simp⟩) hHeld ?_
    simp only [Act.put, List.setIfInBounds_toArray, List.set_cons_zero, List.set_cons_succ]
    refine wpAnyH_take (i := 5) (oi := ⟨some 24, Op.move (Operand.const (Value.int IntKind.i64 0)), 3, _, _, none⟩) (v := .int .i64 0) rfl (by kernel_rfl) (by kernel_rfl) (by kernel_rfl) (fun _ _ _ h => h) (Or.inl ⟨by rfl, fun w hS => by go_simp⟩) hHeld ?_
    simp only [Act.put, List.setIfInBounds_toArray, List.set_cons_zero, List.set_cons_succ]
    refine wpAnyH_ready (rs := [0]) (by kernel_rfl) (by simp) ?_
    refine AllReadyH.cons (o := ⟨some 19, Op.call { callee := Callee.value (Operand.func 13), args := #[], argTypes := #[] }, 46, _, _, none⟩) rfl (fun K hK => ?_) AllReadyH.nil
    rw [if_pos (by rfl)]
    refine wp_callF 13 _ _ rfl Try.in13 #[] (by simp [Act.eval]) (fun v w' => ∃ m, v = .map (some m) ∧ TabAt w' m ∧ Below w4.drew.heap.size w4.drew w') ((tab_any w4.drew).mono fun e w' h => by obtain ⟨m, h1, h2, h3, h4⟩ := h; exact ⟨_, h1, m, rfl, h2, h4⟩) ?_
    rintro v w5 ⟨m, rfl, hT2, hb2⟩
    have B5w : Keep (Below w4.heap.size w4 w5) := ⟨(Below.refl _ _).drew.trans hb2⟩
    have HM5 := Keep.mk (HM4.out.below B5w.out HM4.out.lt)
    have HO5 : Keep (OutAt w5 p v4 [M.k]) := ⟨HO4.out.grown (Grown.below (S := fun _ => False) B5w.out) fun _ _ h => h⟩
    have B5 : Keep (Below p w2 w5) := ⟨B4.out.trans (B5w.out.mono (by rw [HpE.out]; exact B4.out.size))⟩
    have f0 := HM5.out.c 0 (ms_0 c)
    rw [Ek.out] at f0
    obtain ⟨vF, hvF, hlk⟩ := hT2.look2 M.k
    have hlk2 := (hlk w5 (Below.refl _ _)).1
    obtain ⟨gf, hgf, HFb⟩ := hvF.some Hk.out
    subst hgf
    have HF5 := Keep.mk HFb
    have Hgf : Keep (gf ≠ g ∧ gf ≠ p ∧ v4.ownBlock ≠ some gf) := ⟨blk_ne HFb HM5.out (by decide), blk_ne HFb HO5.out.blk (by decide), HO5.out.own.ne HFb (by decide)⟩
    clear HFb
    clear hvF hlk hb2 hT2
    refine hK.out _ _ f0 fun hHeld5 => ?_
    clear hK
    simp only [Act.put, List.setIfInBounds_toArray, List.set_cons_zero, List.set_cons_succ]
    refine wpAnyH_weaken (S' := fun wx => wx.cell? ⟨g, 0, none⟩ = some (.int .i64 M.k) ∧ (Instr.lookup 46 (.map (some m)) (.int .i64 M.k) false).run Try.prog wx = .ok (.slice (some ⟨gf, 0, none⟩) (hasI M.k).length (hasI M.k).length) wx) (fun _ h => h.1) _ _ _ _ ?_
    have hH6 := And.intro hHeld5 hlk2
    refine wpAnyH_take (i := 3) (oi := ⟨some 22, Op.lookup 46 (Operand.tmp 19) (Operand.tmp 21) false, 44, _, _, none⟩) (v := .slice (some ⟨gf, 0, none⟩) (hasI M.k).length (hasI M.k).length) rfl (by kernel_rfl) (by kernel_rfl) (by kernel_rfl) (fun _ _ _ h => h) (Or.inl ⟨by rfl, fun w hS => by have h := hS.2; go_simp⟩) hH6 ?_
    simp only [Act.put, List.setIfInBounds_toArray, List.set_cons_zero, List.set_cons_succ]
    refine wpAnyH_take (i := 4) (oi := ⟨some 23, Op.call { callee := Callee.builtin Builtin.len, args := #[Operand.tmp 22], argTypes := #[44] }, 3, _, _, none⟩) (v := .int .i64 ((hasI M.k).length : Int)) rfl (by kernel_rfl) (by kernel_rfl) (by kernel_rfl) (fun _ _ _ h => h) (Or.inl ⟨by rfl, fun w hS => by go_simp⟩) hH6 ?_
    simp only [Act.put, List.setIfInBounds_toArray, List.set_cons_zero, List.set_cons_succ]
    refine wpAnyH_done (by kernel_rfl) ?_ _
    refine hK8 _ _ ?_
    refine wp_block ?_
    refine wp_loop (fun ac wr => ∃ (t : Nat) (u7 u25 u26 u27 u28 u29 u30 u31 u32 u33 : Value), ac = { tmps := #[.agg (msA c), .pointer (some ⟨g, 0, none⟩), .slice none 0 0, .int .i64 0, .int .i64 (chkM M), .pointer (some ⟨p, 0, none⟩), undef, u7, .agg (msA c), .int .i64 (chkM M), .int .i64 (chkM M), .bool false, undef, .pointer (some ⟨p, 0, none⟩), .pointer (some ⟨p, 0, none⟩), .pointer (some ⟨g, 0, none⟩), .int .i64 M.k, .int .u8 M.k, .tuple #[], .map (some m), .pointer (some ⟨g, 0, none⟩), .int .i64 M.k, .slice (some ⟨gf, 0, none⟩) (hasI M.k).length (hasI M.k).length, .int .i64 ((hasI M.k).length : Int), .int .i64 (t : Int), u25, u26, u27, u28, u29, u30, u31, u32, u33, undef, undef], defers := [] } ∧ t ≤ (hasI M.k).length ∧ ∃ vr, Keep (OutAt wr p vr ([M.k] ++ ((hasI M.k).take t).flatMap fun i => putF i M)) ∧ Keep (Fr p vr) ∧ Keep (Below p w2 wr) ∧ Keep (Blk wr g 32 (msA c)) ∧ Keep (Blk wr gf 60 (flatF (hasI M.k)))) (fun a _ => (hasI M.k).length - (intOf (a.tmps.getD 24 undef)).toNat) ⟨0, undef, undef, undef, undef, undef, undef, undef, undef, undef, undef, rfl, by omega, v4, ⟨by simpa using HO5.out⟩, HF4, B5, HM5, HF5⟩ ?_
    rintro ac wr ⟨t, u7, u25, u26, u27, u28, u29, u30, u31, u32, u33, rfl, ht, vr, HOr, HVr, Br, HMr, HFr⟩
    by_cases hlt : t < (hasI M.k).length
    · have hlt' : (t : Int) < ((hasI M.k).length : Int) := by omega
      have hwt : IntKind.i64.wrap ((t : Int) + 1) = (t : Int) + 1 := by rw [IntKind.wrap_i64]; have := hasI_len M.k; omega
      obtain ⟨i, hi⟩ : ∃ i, (hasI M.k)[t]? = some i := ⟨_, List.getElem?_eq_getElem hlt⟩
      have Hi := Keep.mk hi
      have Him : Keep (i ∈ hasI M.k) := ⟨List.mem_of_getElem? hi⟩
      clear hi
      refine wp_seq_k fun K9 hK9 => ?_
      refine wp_region_list (WL.out ?_)
      refine WL.val (by kernel_rfl) (.bool true) (by go_simp) ?_
      simp only [Act.put, List.setIfInBounds_toArray, List.set_cons_zero, List.set_cons_succ]
      refine WL.nil ?_
      refine hK9 _ _ ?_
      refine wp_seq_k fun K10 hK10 => ?_
      refine wp_cond_true rfl ?_
      refine wp_skip ?_
      refine hK10 _ _ ?_
      refine wp_seq_k fun K11 hK11 => ?_
      refine wp_block ?_
      refine wp_seq_k fun K12 hK12 => ?_
      refine wp_region_list (WL.out ?_)
      refine WL.val (by kernel_rfl) (.pointer (some ⟨gf, t * 3, none⟩)) (by go_simp) ?_
      simp only [Act.put, List.setIfInBounds_toArray, List.set_cons_zero, List.set_cons_succ]
      refine WL.mid (by kernel_rfl) 60 (.tmp 26) rfl gf (t * 3) rfl (fldA i).toList _ (fld_range HFr.out t i Hi.out) Try.underlying60 rfl (Try.size60L i) ?_
      rw [Array.toArray_toList]
      simp only [Act.put, List.setIfInBounds_toArray, List.set_cons_zero, List.set_cons_succ]
      refine WL.new (by kernel_rfl) 60 rfl _ Try.new60 ?_
      have HNn := Keep.mk (Blk.new wr 60 noF)
      have HMn := Keep.mk (HMr.out.alloc (.cells noF 60))
      have HFn := Keep.mk (HFr.out.alloc (.cells noF 60))
      have HOn := Keep.mk (HOr.out.box (.cells noF 60))
      have Bn : Keep (Below p w2 (wr.alloc (.cells noF 60))) := ⟨Br.out.trans ((below_new wr _).mono (by rw [HpE.out]; exact Br.out.size))⟩
      have Hne : Keep (wr.heap.size ≠ g ∧ wr.heap.size ≠ gf ∧ p ≤ wr.heap.size ∧ wr.heap.size ≠ p ∧ vr.ownBlock ≠ some wr.heap.size) := ⟨by have := HMr.out.lt; omega, by have := HFr.out.lt; omega, by have := HOr.out.blk.lt; omega, by have := HOr.out.blk.lt; omega, fun e => by have := HOr.out.own.lt _ e; omega⟩
      generalize wr.alloc (.cells noF 60) = wn at *
      generalize wr.heap.size = gn at *
      simp only [Act.put, List.setIfInBounds_toArray, List.set_cons_zero, List.set_cons_succ]
      refine WL.storeR (by kernel_rfl) 60 (.tmp 7) (.tmp 27) rfl gn (fldA i) rfl rfl 60 noF HNn.out (Try.size60B i) (noF_sizes i) (fldA_one i) ?_
      have HN2 := Keep.mk (HNn.out.setRow (fldA i))
      have HMs := Keep.mk (HMn.out.setRow_ne (b' := gn) (fun e => Hne.out.1 e.symm) (fldA i))
      have HFs := Keep.mk (HFn.out.setRow_ne (b' := gn) (fun e => Hne.out.2.1 e.symm) (fldA i))
      have HOs : Keep (OutAt (wn.setRow gn (fldA i)) p vr ([M.k] ++ ((hasI M.k).take t).flatMap fun i => putF i M)) := ⟨HOn.out.grown (Grown.setRow wn gn _ (S := fun k => k = gn) fun _ => rfl) fun k hk e => by rcases hk with hk | hk; exact Hne.out.2.2.2.1 (e.symm.trans hk); rw [e] at hk; exact Hne.out.2.2.2.2 hk⟩
      have Bs : Keep (Below p w2 (wn.setRow gn (fldA i))) := ⟨below_setRow Bn.out Hne.out.2.2.1 _⟩
      generalize wn.setRow gn (fldA i) = ws at *
      have c1 := HN2.out.c 1 (fldA_p i)
      simp only [Act.put]
      refine WL.nil ?_
      refine hK12 _ _ ?_
      refine wp_region_list (WL.out ?_)
      refine WL.val (by kernel_rfl) (.pointer (some ⟨gn, 1, none⟩)) (by go_simp) ?_
      simp only [Act.put, List.setIfInBounds_toArray, List.set_cons_zero, List.set_cons_succ]
      refine WL.val (by kernel_rfl) (.func (.func (pfn i)) #[] #[]) (by go_simp) ?_
      simp only [Act.put, List.setIfInBounds_toArray, List.set_cons_zero, List.set_cons_succ]
      refine WL.val (by kernel_rfl) (.pointer (some ⟨p, 0, none⟩)) (by go_simp) ?_
      simp only [Act.put, List.setIfInBounds_toArray, List.set_cons_zero, List.set_cons_succ]
      refine WL.row (by kernel_rfl) 32 (.tmp 1) rfl g rfl 32 (msA c) _ HMs.out Try.underlying32 rfl (Try.size32B _) ?_
      simp only [Act.put, List.setIfInBounds_toArray, List.set_cons_zero, List.set_cons_succ]
      refine WL.callV (by kernel_rfl) (pfn i) (.tmp 29) _ _ rfl rfl (pfn_in i) #[ptr p, .agg (msA c)] (by simp [Act.eval]) ?_
      refine (put_any i (hasI_lt _ _ Him.out) p p vr _ w2 ws (by rw [HpE.out]; exact Nat.le_refl _) (by rw [HpE.out]; exact Nat.le_refl _) Bs.out HOs.out (Nat.le_refl _) HVr.out M c HA2.out Hok.out (put_ok Hch.out i Him.out) (by have h1 := enc_small Hch.out; have h2 := fm_le (fun i => putF i M) (hasI M.k) (t + 1); rw [fm_step (fun i => putF i M) (hasI M.k) t i Hi.out] at h2; rw [encM, List.length_append] at h1; rw [List.append_assoc, List.length_append]; omega)).mono ?_
      intro e w9 hp9
      obtain ⟨rfl, v9, hP9⟩ := hp9
      have hO9 := hP9.o
      have hF9 := hP9.f
      have hB9 := hP9.b
      refine ⟨_, rfl, ?_⟩
      have HO9 : Keep (OutAt w9 p v9 ([M.k] ++ ((hasI M.k).take (t + 1)).flatMap fun i => putF i M)) := ⟨by rw [fm_step (fun i => putF i M) (hasI M.k) t i Hi.out, ← List.append_assoc]; exact hO9⟩
      have HV9 := Keep.mk hF9
      have B9 := Keep.mk hB9
      have HM9 : Keep (Blk w9 g 32 (msA c)) := ⟨HM2.out.below hB9 (by rw [HpE.out]; exact HM2.out.lt)⟩
      have HF9 : Keep (Blk w9 gf 60 (flatF (hasI M.k))) := ⟨hP9.g.blk HFs.out (fun ho => by rcases ho with ho | ho; exact (blk_ne HFs.out HOs.out.blk (by decide)) ho; exact HOs.out.own.ne HFs.out (by decide) ho)⟩
      clear hO9 hF9 hB9 hP9
      simp only [Act.put, List.setIfInBounds_toArray, List.set_cons_zero, List.set_cons_succ]
      refine WL.nil ?_
      refine hK11 _ _ ?_
      refine wp_region_list (WL.out ?_)
      refine WL.val (by kernel_rfl) (.int .i64 ((t : Int) + 1)) (by go_simp) ?_
      simp only [Act.put, List.setIfInBounds_toArray, List.set_cons_zero, List.set_cons_succ]
      refine WL.val (by kernel_rfl) (.int .i64 ((t : Int) + 1)) (by go_simp) ?_
      simp only [Act.put, List.setIfInBounds_toArray, List.set_cons_zero, List.set_cons_succ]
      refine WL.nil ?_
      refine ⟨⟨t + 1, .pointer (some ⟨gn, 0, none⟩), .bool true, .pointer (some ⟨gf, t * 3, none⟩), .agg (fldA i), .pointer (some ⟨gn, 1, none⟩), .func (.func (pfn i)) #[] #[], .pointer (some ⟨p, 0, none⟩), .agg (msA c), .tuple #[], .int .i64 ((t : Int) + 1), rfl, by omega, v9, HO9, HV9, B9, HM9, HF9⟩, by simp [intOf]; omega⟩
    · obtain rfl : t = (hasI M.k).length := by omega
      rw [List.take_length] at HOr
      refine wp_seq_k fun K13 hK13 => ?_
      refine wp_region_list (WL.out ?_)
      refine WL.val (by kernel_rfl) (.bool false) (by go_simp) ?_
      simp only [Act.put, List.setIfInBounds_toArray, List.set_cons_zero, List.set_cons_succ]
      refine WL.nil ?_
      refine hK13 _ _ ?_
      refine wp_seq_k fun K14 hK14 => ?_
      refine wp_cond_false rfl ?_
      refine wp_exit ?_
      refine hK7 _ _ ?_
      refine wp_seq_k fun K15 hK15 => ?_
      refine wp_region_list (WL.out ?_)
      refine WL.val (by kernel_rfl) (.pointer (some ⟨p, 0, none⟩)) (by go_simp) ?_
      simp only [Act.put, List.setIfInBounds_toArray, List.set_cons_zero, List.set_cons_succ]
      refine WL.callF (by kernel_rfl) 21 _ _ rfl Try.in21 #[ptr p] (by simp [Act.eval]) ?_
      refine (odone_any p vr (encM M) wr HOr.out (by have := enc_small Hch.out; omega)).mono ?_
      rintro e w7 ⟨rfl, hw7⟩
      refine ⟨_, rfl, ?_⟩
      have H7 : Keep (FreshB w w7 (.slice (some ⟨wr.heap.size, 0, none⟩) (encM M).length (encM M).length) (encM M)) := ⟨_, rfl, Nat.le_trans B2.out.size Br.out.size, by rw [hw7]; exact Blk.new wr 5 _⟩
      have B7 : Keep (Below w.heap.size w w7) := ⟨by rw [hw7, ← HgE.out]; exact B2.out.trans ((Br.out.trans ((below_new wr _).mono (by rw [HpE.out]; exact Br.out.size))).mono (by rw [HpE.out, HgE.out]; exact B2.out.size))⟩
      clear hw7
      simp only [Act.put, List.setIfInBounds_toArray, List.set_cons_zero, List.set_cons_succ]
      refine WL.val (by kernel_rfl) (.slice (some ⟨wr.heap.size, 0, none⟩) (encM M).length (encM M).length) (by go_simp) ?_
      simp only [Act.put, List.setIfInBounds_toArray, List.set_cons_zero, List.set_cons_succ]
      refine WL.val (by kernel_rfl) (.int .i64 0) (by go_simp) ?_
      simp only [Act.put, List.setIfInBounds_toArray, List.set_cons_zero, List.set_cons_succ]
      refine WL.nil ?_
      refine hK15 _ _ ?_
      refine wp_ret ?_
      go_ret2
      exact ⟨.slice (some ⟨wr.heap.size, 0, none⟩) (encM M).length (encM M).length, by rw [Hch.out]; rfl, .inl ⟨Hch.out, H7.out⟩, B7.out⟩
  · skip
    refine WL.val (by kernel_rfl) (.bool true) (by go_simp) ?_
    simp only [Act.put, List.setIfInBounds_toArray, List.set_cons_zero, List.set_cons_succ]
    refine WL.nil ?_
    refine hK4 _ _ ?_
    refine wp_cond_true rfl ?_
    refine wp_seq_k fun K16 hK16 => ?_
    refine wp_region_list (WL.out ?_)
    refine WL.val (by kernel_rfl) (.int .i64 (chkM M)) (by go_simp) ?_
    simp only [Act.put, List.setIfInBounds_toArray, List.set_cons_zero, List.set_cons_succ]
    refine WL.val (by kernel_rfl) (.slice none 0 0) (by go_simp) ?_
    simp only [Act.put, List.setIfInBounds_toArray, List.set_cons_zero, List.set_cons_succ]
    refine WL.val (by kernel_rfl) (.int .i64 (chkM M)) (by go_simp) ?_
    simp only [Act.put, List.setIfInBounds_toArray, List.set_cons_zero, List.set_cons_succ]
    refine WL.nil ?_
    refine hK16 _ _ ?_
    refine wp_ret ?_
    go_ret2
    exact ⟨_, rfl, .inr ⟨h2_1, rfl⟩, by rw [← HgE.out]; exact B2.out⟩
def Gives (p : Nat) (R : Int × Nat) (w : World) (e : Ending) (w' : World) : Prop := R.1 ≠ 0 ∧ ∃ q, w.heap.size ≤ q ∧ e = .panicked [wr q] ∧ BadAt w' q R.1 R.2 ∧ Grown w w' fun k => k = p
def Rds (p : Nat) (s : ByteArray) (R : Int × Nat) (Z : Value → World → Prop) (w : World) (e : Ending) (w' : World) : Prop :=
  (R.1 = 0 ∧ ∃ v, e = .returned v ∧ Z v w' ∧ InAt w' p s R.2 none ∧ Grown w w' fun k => k = p) ∨ Gives p R w e w'
theorem Gives.of {p : Nat} {R : Int × Nat} {w w1 w' : World} {e : Ending} (hg : Grown w w1 fun k => k = p) (h : Gives p R w1 e w') : Gives p R w e w' :=
  ⟨h.1, by obtain ⟨q, h1, h2, h3, h4⟩ := h.2; exact ⟨q, Nat.le_trans hg.size h1, h2, h3, hg.trans h4⟩⟩
theorem fst_rng (D : List Int) (hD : Byts D) (mm : Int) (hmm : 0 ≤ mm) : 0 ≤ (fstM D mm).1 ∧ (fstM D mm).1 ≤ mm := by
  by_cases h : (fstM D mm).2.2 = 0
  · exact fstM_le D mm hD h
  · have := (fstM_shape D mm).1 h
    omega
def hsR (L : List Int) (most : Int) (a : Nat) : Int × Nat × List Hs :=
  if (fstM (L.drop a) most).2.2 ≠ 0 then ((fstM (L.drop a) most).2.2, a + (fstM (L.drop a) most).2.1.toNat, []) else getH L (fstM (L.drop a) most).1.toNat [] (a + (fstM (L.drop a) most).2.1.toNat)
def leP (D : List Int) : Nat → Int
  | 0 => 0
  | t + 1 => leP D t + D.getD t 0 * 256 ^ t
def saR (L : List Int) (a : Nat) : Int × Nat × Int := if nextW (L.drop a) 8 ≠ 0 then (nextW (L.drop a) 8, a + nextN (L.drop a) 8, 0) else (0, a + 8, leP (L.drop a) 8)
def dgR (L : List Int) (a : Nat) : Int × Nat × List Int := if (byt (L.drop a) 8192).1 ≠ 0 then ((byt (L.drop a) 8192).1, a + (byt (L.drop a) 8192).2.1, []) else if isP ((byt (L.drop a) 8192).2.2.length : Int) = false then (60, a, []) else (0, a + (byt (L.drop a) 8192).2.1, (byt (L.drop a) 8192).2.2)
def bk1 (L : List Int) (a : Nat) : Int × Nat × List Int := if (byt (L.drop a) 1048576).1 ≠ 0 then ((byt (L.drop a) 1048576).1, a + (byt (L.drop a) 1048576).2.1, []) else if (byt (L.drop a) 1048576).2.2.length = 0 then (4, a, []) else (0, a + (byt (L.drop a) 1048576).2.1, (byt (L.drop a) 1048576).2.2)
def bkG (L : List Int) : Nat → List (List Int) → Nat → Int × Nat × List (List Int)
  | 0, P, a => (0, a, P)
  | n + 1, P, a => if (bk1 L a).1 ≠ 0 then ((bk1 L a).1, (bk1 L a).2.1, []) else bkG L n (P ++ [(bk1 L a).2.2]) (bk1 L a).2.1
def bkR (L : List Int) (a : Nat) : Int × Nat × List (List Int) :=
  if (fstM (L.drop a) 256).2.2 ≠ 0 then ((fstM (L.drop a) 256).2.2, a + (fstM (L.drop a) 256).2.1.toNat, []) else if (fstM (L.drop a) 256).1 = 0 then (1, a, []) else bkG L (fstM (L.drop a) 256).1.toNat [] (a + (fstM (L.drop a) 256).2.1.toNat)
theorem Try.in44 (w : World) (vs : Array Value) : (callFunc 44 vs).run Try.prog w = .ok (.enter 44 vs) w := by kernel_rfl
theorem Try.in49 (w : World) (vs : Array Value) : (callFunc 49 vs).run Try.prog w = .ok (.enter 49 vs) w := by kernel_rfl
theorem Try.in54 (w : World) (vs : Array Value) : (callFunc 54 vs).run Try.prog w = .ok (.enter 54 vs) w := by kernel_rfl
theorem Try.in77 (w : World) (vs : Array Value) : (callFunc 77 vs).run Try.prog w = .ok (.enter 77 vs) w := by kernel_rfl
theorem Try.in62 (w : World) (vs : Array Value) : (callFunc 62 vs).run Try.prog w = .ok (.enter 62 vs) w := by kernel_rfl
theorem row_cell {w : World} {a : Option Addr} {n c : Nat} {l : List Int} (h : RowAt w (.slice a n c) l) (t : Nat) (ht : t < l.length) : ∃ b o, a = some ⟨b, o, none⟩ ∧ w.cell? ⟨b, o + t, none⟩ = some (.int .u8 (l.getD t 0)) := by
  rcases h with ⟨h1, rfl⟩ | ⟨a', c', h1, rfl⟩ | ⟨b, off, cap, h1, _, h2⟩
  · simp at ht
  · simp at ht
  · injection h1 with h1 _ _
    exact ⟨b, off, h1, h2 t ht⟩
theorem leP_rng (D : List Int) (hD : Byts D) : ∀ t, 0 ≤ leP D t ∧ leP D t < 256 ^ t
  | 0 => by simp [leP]
  | t + 1 => by
    have h1 := leP_rng D hD t
    have h2 := hD.getD t
    have hp : (0 : Int) < 256 ^ t := Int.pow_pos (by decide)
    rw [leP, Int.pow_succ]
    have h3 : D.getD t 0 * 256 ^ t ≤ 255 * 256 ^ t := Int.mul_le_mul_of_nonneg_right (by omega) (Int.le_of_lt hp)
    have h4 : 0 ≤ D.getD t 0 * 256 ^ t := Int.mul_nonneg h2.1 (Int.le_of_lt hp)
    omega
theorem pow_8 (t : Nat) : (2 : Int) ^ (8 * t) = 256 ^ t := by rw [Int.pow_mul]; rfl
theorem mul_top (x : Int) (t : Nat) (hx : 0 ≤ x ∧ x < 256) (ht : t < 8) : 0 ≤ x * 256 ^ t ∧ x * 256 ^ t < 18446744073709551616 := by
  have hp : (0 : Int) < 256 ^ t := Int.pow_pos (by decide)
  have h3 : x * 256 ^ t ≤ 255 * 256 ^ t := Int.mul_le_mul_of_nonneg_right (by omega) (Int.le_of_lt hp)
  have h5 : (256 : Int) ^ t ≤ 72057594037927936 := by
    rcases (by omega : t = 0 ∨ t = 1 ∨ t = 2 ∨ t = 3 ∨ t = 4 ∨ t = 5 ∨ t = 6 ∨ t = 7) with rfl | rfl | rfl | rfl | rfl | rfl | rfl | rfl <;> decide
  exact ⟨Int.mul_nonneg hx.1 (Int.le_of_lt hp), by omega⟩
theorem sh_val (x : Int) (t : Nat) (hx : 0 ≤ x ∧ x < 256) (ht : t < 8) : IntKind.u64.wrap (x * 2 ^ (8 * (t : Int)).toNat) = x * 256 ^ t := by
  rw [show (8 * (t : Int)).toNat = 8 * t by omega, pow_8, IntKind.wrap_u64]
  have := mul_top x t hx ht
  omega
theorem or_val (x y : Int) (t : Nat) (hx : 0 ≤ x ∧ x < 256) (hy : 0 ≤ y ∧ y < 256 ^ t) (ht : t < 8) : bits .or .u64 y (x * 256 ^ t) = y + x * 256 ^ t := by
  have h1 := mul_top x t hx ht
  have h5 : (256 : Int) ^ t ≤ 72057594037927936 := by
    rcases (by omega : t = 0 ∨ t = 1 ∨ t = 2 ∨ t = 3 ∨ t = 4 ∨ t = 5 ∨ t = 6 ∨ t = 7) with rfl | rfl | rfl | rfl | rfl | rfl | rfl | rfl <;> decide
  have h6 : (2 : Int) ^ 64 = 18446744073709551616 := by decide
  have h7 : y < 2 ^ 64 := by omega
  have h8 : x * 256 ^ t < 2 ^ 64 := by omega
  have h9 : y < 2 ^ (8 * t) := by rw [pow_8]; exact hy.2
  have h10 : x * 256 ^ t % 2 ^ (8 * t) = 0 := by rw [pow_8]; exact Int.mul_emod_left _ _
  exact bits_join_low .u64 64 (by decide) wraps_u64 (8 * t) y (x * 256 ^ t) hy.1 h9 h7 h1.1 h10 h8
set_option maxRecDepth 8000 in
set_option maxHeartbeats 2000000 in
theorem getSalt_any (p : Nat) (s : ByteArray) (a : Nat) (w : World) (hI : InAt w p s a none) (hb : s.size ≤ 140737488355328) :
    Calls Try.prog 49 #[ptr p] w (Rds p s ((saR (lst s) a).1, (saR (lst s) a).2.1) (fun v _ => v = .int .u64 (saR (lst s) a).2.2) w) := by
  obtain ⟨D, hD⟩ : ∃ D, D = (lst s).drop a := ⟨_, rfl⟩
  obtain ⟨W, hW⟩ : ∃ W, W = nextW D 8 := ⟨_, rfl⟩
  obtain ⟨N, hN⟩ : ∃ N, N = nextN D 8 := ⟨_, rfl⟩
  have HC := Keep.mk (iraw_good p s a 8 w hI hb (by decide) (by decide) D hD W hW N hN)
  have HBy : Keep (Byts D) := ⟨by rw [hD]; exact (lst_byts s).drop a⟩
  obtain ⟨R, hR⟩ : ∃ R, R = saR (lst s) a := ⟨_, rfl⟩
  have HR1 : Keep (¬ W = 0 → R = (W, a + N, 0)) := ⟨fun h => by rw [hR]; unfold saR; rw [← hD, ← hW, ← hN, if_pos h]⟩
  have HR2 : Keep (W = 0 → R = (0, a + 8, leP D 8)) := ⟨fun h => by rw [hR]; unfold saR; rw [← hD, ← hW, if_neg (by simp [h])]⟩
  have HN1 : Keep (W = 0 → N = 8) := ⟨fun h => by rw [hN, (nextN_0 D 8 (by rw [← hW]; exact h)).1]; rfl⟩
  have HN2 : Keep (W = 0 → 8 ≤ D.length) := ⟨fun h => (nextN_0 D 8 (by rw [← hW]; exact h)).2.2⟩
  rw [← hR]
  clear hI hb hD hW hN hR
  go_enter Try.func49, Try.ntmps49
  refine wp_seq_k fun K1 hK1 => ?_
  refine wp_region_list (WL.out ?_)
  refine WL.val (by kernel_rfl) (.int .u64 0) (by go_simp) ?_
  simp only [Act.put, List.setIfInBounds_toArray, List.set_cons_zero, List.set_cons_succ]
  refine WL.nil ?_
  refine hK1 _ _ ?_
  refine wp_seq_k fun K2 hK2 => ?_
  refine wp_region_list (WL.out ?_)
  refine WL.val (by kernel_rfl) (.int .u64 0) (by go_simp) ?_
  simp only [Act.put, List.setIfInBounds_toArray, List.set_cons_zero, List.set_cons_succ]
  refine WL.nil ?_
  refine hK2 _ _ ?_
  refine wp_seq_k fun K3 hK3 => ?_
  refine wp_seq_k fun K4 hK4 => ?_
  refine wp_region_list (WL.out ?_)
  refine WL.val (by kernel_rfl) (.pointer (some ⟨p, 0, none⟩)) (by go_simp) ?_
  simp only [Act.put, List.setIfInBounds_toArray, List.set_cons_zero, List.set_cons_succ]
  refine WL.callF (by kernel_rfl) 74 _ _ rfl Try.in74 #[ptr p, .int .i64 8] (by simp [Act.eval]) ?_
  refine (HC.out).mono ?_
  rintro e w1 ⟨bad, er, res, rfl, h1, h2, h3, h4⟩
  refine ⟨_, rfl, ?_⟩
  have H1 := Keep.mk h1
  have H2 := Keep.mk h2
  have H3 := Keep.mk h3
  have H4 := Keep.mk h4
  clear h1 h2 h3 h4
  simp only [Act.put, List.setIfInBounds_toArray, List.set_cons_zero, List.set_cons_succ]
  by_cases hE : W = 0
  · rcases H3.out with ⟨e1, rfl, rfl⟩ | ⟨e1, _⟩
    rotate_left
    · exact absurd hE e1
    rcases H4.out with ⟨_, hO, k0, hk0, hk1, _⟩ | ⟨e1, _⟩
    rotate_left
    · exact absurd hE e1
    have hrow := hO.row
    rw [HN1.out hE] at hrow
    have hl8 : (D.take 8).length = 8 := by have := (HN2.out hE); rw [List.length_take]; omega
    obtain ⟨ra, rc, rfl⟩ := row_form hrow
    rw [hl8] at *
    have HRow := Keep.mk hrow
    clear hO hk0 hk1 hrow hl8
    refine WL.val (by kernel_rfl) (.slice ra 8 rc) (by go_simp) ?_
    simp only [Act.put, List.setIfInBounds_toArray, List.set_cons_zero, List.set_cons_succ]
    refine WL.val (by kernel_rfl) (.nilIface) (by go_simp) ?_
    simp only [Act.put, List.setIfInBounds_toArray, List.set_cons_zero, List.set_cons_succ]
    refine WL.callF (by kernel_rfl) 73 _ _ rfl Try.in73 #[.slice ra 8 rc, .nilIface] (by simp [Act.eval]) ?_
    refine (must73_ok (.slice ra 8 rc) w1).mono ?_
    rintro e w0 ⟨rfl, hw0⟩
    rw [hw0]
    clear hw0 w0
    refine ⟨_, rfl, ?_⟩
    simp only [Act.put, List.setIfInBounds_toArray, List.set_cons_zero, List.set_cons_succ]
    refine WL.val (by kernel_rfl) (.int .i64 8) (by go_simp) ?_
    simp only [Act.put, List.setIfInBounds_toArray, List.set_cons_zero, List.set_cons_succ]
    refine WL.val (by kernel_rfl) (.int .i64 0) (by go_simp) ?_
    simp only [Act.put, List.setIfInBounds_toArray, List.set_cons_zero, List.set_cons_succ]
    refine WL.nil ?_
    refine hK4 _ _ ?_
    refine wp_block ?_
    refine wp_loop (fun ac wr => ∃ (t : Nat) (u4 u5 u13 u14 u15 u16 u17 u18 u19 u20 u21 u22 u23 u24 : Value), ac = { tmps := #[.pointer (some ⟨p, 0, none⟩), undef, .int .u64 0, .int .u64 (leP D t), u4, u5, .pointer (some ⟨p, 0, none⟩), .tuple #[.slice ra 8 rc, .nilIface], .slice ra 8 rc, .nilIface, .slice ra 8 rc, .int .i64 8, .int .i64 (t : Int), u13, u14, u15, u16, u17, u18, u19, u20, u21, u22, u23, u24, undef], defers := [] } ∧ t ≤ 8 ∧ wr = w1) (fun a _ => 8 - (intOf (a.tmps.getD 12 undef)).toNat) ⟨0, undef, undef, undef, undef, undef, undef, undef, undef, undef, undef, undef, undef, undef, undef, rfl, by omega, rfl⟩ ?_
    rintro ac wr ⟨t, u4, u5, u13, u14, u15, u16, u17, u18, u19, u20, u21, u22, u23, u24, rfl, ht, rfl⟩
    by_cases hlt : t < 8
    · have hlt' : (t : Int) < 8 := by omega
      have hwt : IntKind.i64.wrap ((t : Int) + 1) = (t : Int) + 1 := by rw [IntKind.wrap_i64]; omega
      obtain ⟨b, o, hra, hcl⟩ := row_cell HRow.out t (by rw [List.length_take]; have := HN2.out hE; omega)
      subst hra
      obtain ⟨x, hx⟩ : ∃ x, x = D.getD t 0 := ⟨_, rfl⟩
      have hxe : (D.take 8).getD t 0 = x := by rw [hx, List.getD_eq_getElem?_getD, List.getElem?_take, if_pos hlt, ← List.getD_eq_getElem?_getD]
      rw [hxe] at hcl
      have hxr : 0 ≤ x ∧ x < 256 := by rw [hx]; exact HBy.out.getD t
      have Hx := Keep.mk hx
      clear hx hxe
      obtain ⟨y, hy⟩ : ∃ y, y = leP D t := ⟨_, rfl⟩
      rw [← hy]
      have hyr : 0 ≤ y ∧ y < 256 ^ t := by rw [hy]; exact leP_rng D HBy.out t
      have Hy := Keep.mk hy
      clear hy
      have hw8 : IntKind.u64.wrap x = x := by rw [IntKind.wrap_u64]; omega
      have hm8 : IntKind.i64.wrap (8 * (t : Int)) = 8 * (t : Int) := by rw [IntKind.wrap_i64]; omega
      have hsh : IntKind.u64.wrap (x * 2 ^ (8 * (t : Int)).toNat) = x * 256 ^ t := sh_val x t hxr hlt
      have hor : bits .or .u64 y (x * 256 ^ t) = y + x * 256 ^ t := or_val x y t hxr hyr hlt
      have hs0 : ¬ (8 * (t : Int) < 0) := by omega
      have hs1 : 8 * (t : Int) ≤ 64 := by omega
      have hs2 : 0 ≤ 8 * (t : Int) := by omega
      refine wp_seq_k fun K5 hK5 => ?_
      refine wp_region_list (WL.out ?_)
      refine WL.val (by kernel_rfl) (.bool true) (by go_simp) ?_
      simp only [Act.put, List.setIfInBounds_toArray, List.set_cons_zero, List.set_cons_succ]
      refine WL.nil ?_
      refine hK5 _ _ ?_
      refine wp_seq_k fun K6 hK6 => ?_
      refine wp_cond_true rfl ?_
      refine wp_skip ?_
      refine hK6 _ _ ?_
      refine wp_seq_k fun K7 hK7 => ?_
      refine wp_block ?_
      refine wp_seq_k fun K8 hK8 => ?_
      refine wp_region_list (WL.out ?_)
      refine WL.val (by kernel_rfl) (.int .i64 (t : Int)) (by go_simp) ?_
      simp only [Act.put, List.setIfInBounds_toArray, List.set_cons_zero, List.set_cons_succ]
      refine WL.val (by kernel_rfl) (.pointer (some ⟨b, o + t, none⟩)) (by go_simp) ?_
      simp only [Act.put, List.setIfInBounds_toArray, List.set_cons_zero, List.set_cons_succ]
      refine WL.val (by kernel_rfl) (.int .u8 x) (by go_simp) ?_
      simp only [Act.put, List.setIfInBounds_toArray, List.set_cons_zero, List.set_cons_succ]
      refine WL.val (by kernel_rfl) (.int .i64 (t : Int)) (by go_simp) ?_
      simp only [Act.put, List.setIfInBounds_toArray, List.set_cons_zero, List.set_cons_succ]
      refine WL.val (by kernel_rfl) (.int .u8 x) (by go_simp) ?_
      simp only [Act.put, List.setIfInBounds_toArray, List.set_cons_zero, List.set_cons_succ]
      refine WL.nil ?_
      refine hK8 _ _ ?_
      refine wp_region_list (WL.out ?_)
      refine WL.val (by kernel_rfl) (.int .u64 y) (by go_simp) ?_
      simp only [Act.put, List.setIfInBounds_toArray, List.set_cons_zero, List.set_cons_succ]
      refine WL.val (by kernel_rfl) (.int .u8 x) (by go_simp) ?_
      simp only [Act.put, List.setIfInBounds_toArray, List.set_cons_zero, List.set_cons_succ]
      refine WL.val (by kernel_rfl) (.int .u64 x) (by go_simp) ?_
      simp only [Act.put, List.setIfInBounds_toArray, List.set_cons_zero, List.set_cons_succ]
      refine WL.val (by kernel_rfl) (.int .i64 (t : Int)) (by go_simp) ?_
      simp only [Act.put, List.setIfInBounds_toArray, List.set_cons_zero, List.set_cons_succ]
      refine WL.val (by kernel_rfl) (.int .i64 (8 * (t : Int))) (by go_simp) ?_
      simp only [Act.put, List.setIfInBounds_toArray, List.set_cons_zero, List.set_cons_succ]
      refine WL.val (by kernel_rfl) (.int .u64 (x * 256 ^ t)) (by go_simp) ?_
      simp only [Act.put, List.setIfInBounds_toArray, List.set_cons_zero, List.set_cons_succ]
      refine WL.val (by kernel_rfl) (.int .u64 (y + x * 256 ^ t)) (by go_simp) ?_
      simp only [Act.put, List.setIfInBounds_toArray, List.set_cons_zero, List.set_cons_succ]
      refine WL.val (by kernel_rfl) (.int .u64 (y + x * 256 ^ t)) (by go_simp) ?_
      simp only [Act.put, List.setIfInBounds_toArray, List.set_cons_zero, List.set_cons_succ]
      refine WL.nil ?_
      refine hK7 _ _ ?_
      refine wp_region_list (WL.out ?_)
      refine WL.val (by kernel_rfl) (.int .i64 ((t : Int) + 1)) (by go_simp) ?_
      simp only [Act.put, List.setIfInBounds_toArray, List.set_cons_zero, List.set_cons_succ]
      refine WL.val (by kernel_rfl) (.int .i64 ((t : Int) + 1)) (by go_simp) ?_
      simp only [Act.put, List.setIfInBounds_toArray, List.set_cons_zero, List.set_cons_succ]
      refine WL.nil ?_
      refine ⟨⟨t + 1, .int .i64 (t : Int), .int .u8 x, .bool true, .int .i64 (t : Int), .pointer (some ⟨b, o + t, none⟩), .int .u8 x, .int .u64 y, .int .u8 x, .int .u64 x, .int .i64 (t : Int), .int .i64 (8 * (t : Int)), .int .u64 (x * 256 ^ t), .int .u64 (y + x * 256 ^ t), .int .i64 ((t : Int) + 1), by rw [leP, ← Hx.out, ← Hy.out]; rfl, by omega, rfl⟩, by simp [intOf]; omega⟩
    · obtain rfl : t = 8 := by omega
      refine wp_seq_k fun K9 hK9 => ?_
      refine wp_region_list (WL.out ?_)
      refine WL.val (by kernel_rfl) (.bool false) (by go_simp) ?_
      simp only [Act.put, List.setIfInBounds_toArray, List.set_cons_zero, List.set_cons_succ]
      refine WL.nil ?_
      refine hK9 _ _ ?_
      refine wp_seq_k fun K10 hK10 => ?_
      refine wp_cond_false rfl ?_
      refine wp_exit ?_
      refine hK3 _ _ ?_
      refine wp_seq_k fun K11 hK11 => ?_
      refine wp_region_list (WL.out ?_)
      refine WL.val (by kernel_rfl) (.int .u64 (leP D 8)) (by go_simp) ?_
      simp only [Act.put, List.setIfInBounds_toArray, List.set_cons_zero, List.set_cons_succ]
      refine WL.val (by kernel_rfl) (.int .u64 (leP D 8)) (by go_simp) ?_
      simp only [Act.put, List.setIfInBounds_toArray, List.set_cons_zero, List.set_cons_succ]
      refine WL.nil ?_
      refine hK11 _ _ ?_
      refine wp_ret ?_
      go_ret
      exact .inl ⟨by rw [HR2.out hE], _, rfl, by rw [HR2.out hE]; rfl, by rw [HR2.out hE]; have h := H1.out; rw [HN1.out hE] at h; exact h, H2.out⟩
  · rcases H3.out with ⟨e1, _, _⟩ | ⟨_, q, hq, rfl, rfl, hbad⟩
    · exact absurd e1 hE
    have Hbad := Keep.mk hbad
    clear hbad
    unfold err
    refine WL.val (by kernel_rfl) (res) (by go_simp) ?_
    simp only [Act.put, List.setIfInBounds_toArray, List.set_cons_zero, List.set_cons_succ]
    refine WL.val (by kernel_rfl) (.iface 84 (ptr q)) (by go_simp) ?_
    simp only [Act.put, List.setIfInBounds_toArray, List.set_cons_zero, List.set_cons_succ]
    refine WL.callP (by kernel_rfl) 73 _ _ rfl Try.in73 #[res, err q] (by simp [Act.eval, err]) ?_
    refine (must73_bad _ q w1).mono ?_
    rintro e w' ⟨rfl, rfl⟩
    refine .inr ⟨_, rfl, ?_⟩
    try simp only [Exit.inBlock, Exit.then]
    refine ⟨rfl, ?_⟩
    exact .inr ⟨by rw [HR1.out hE]; exact hE, q, hq, rfl, by rw [HR1.out hE]; exact Hbad.out, H2.out⟩
set_option maxRecDepth 8000 in
set_option maxHeartbeats 2000000 in
theorem getDigest_any (p : Nat) (s : ByteArray) (a : Nat) (w : World) (hI : InAt w p s a none) (hb : s.size ≤ 140737488355328) :
    Calls Try.prog 54 #[ptr p] w (Rds p s ((dgR (lst s) a).1, (dgR (lst s) a).2.1) (fun v w' => OwnT w' v (dgR (lst s) a).2.2 ∧ ∃ k, v.ownBlock = some k ∧ w.heap.size ≤ k) w) := by
  have HI := Keep.mk hI
  obtain ⟨D, hD⟩ : ∃ D, D = (lst s).drop a := ⟨_, rfl⟩
  obtain ⟨W, hW⟩ : ∃ W, W = (byt D (8192 : Int)).1 := ⟨_, rfl⟩
  obtain ⟨N, hN⟩ : ∃ N, N = (byt D (8192 : Int)).2.1 := ⟨_, rfl⟩
  obtain ⟨l, hl⟩ : ∃ l, l = (byt D (8192 : Int)).2.2 := ⟨_, rfl⟩
  have hDB : Byts D := by rw [hD]; exact (lst_byts s).drop a
  have HC : Keep (Calls Try.prog 76 #[ptr p, .int .i64 8192] w (RdPostB p s W (a + N) l w)) := ⟨ibytes_good p s a 8192 8192 (by decide) w hI hb (by decide) D hD W hW N hN l hl⟩
  have HLe : Keep (W = 0 → l.length ≤ 8192) := ⟨fun h => by have := (byt_back D 8192 hDB (by rw [← hW]; exact h)).1; rw [← hl] at this; omega⟩
  obtain ⟨R, hR⟩ : ∃ R, R = dgR (lst s) a := ⟨_, rfl⟩
  have HR1 : Keep (¬ W = 0 → R = (W, a + N, [])) := ⟨fun h => by rw [hR]; unfold dgR; rw [← hD, ← hW, ← hN, if_pos h]⟩
  have HR2 : Keep (W = 0 → isP (l.length : Int) = true → R = (0, a + N, l)) := ⟨fun h h2 => by rw [hR]; unfold dgR; rw [← hD, ← hW, if_neg (by simp [h]), ← hl, if_neg (by simp [h2]), ← hN]⟩
  have HR3 : Keep (W = 0 → isP (l.length : Int) = false → R = (60, a, [])) := ⟨fun h h2 => by rw [hR]; unfold dgR; rw [← hD, ← hW, if_neg (by simp [h]), ← hl, if_pos h2]⟩
  rw [← hR]
  clear hI hb hD hW hN hR hl hDB
  go_enter Try.func54, Try.ntmps54
  refine wp_seq_k fun K1 hK1 => ?_
  refine wp_region_list (WL.out ?_)
  refine WL.val (by kernel_rfl) (.slice none 0 0) (by go_simp) ?_
  simp only [Act.put, List.setIfInBounds_toArray, List.set_cons_zero, List.set_cons_succ]
  refine WL.nil ?_
  refine hK1 _ _ ?_
  refine wp_seq_k fun K2 hK2 => ?_
  refine wp_region_list (WL.out ?_)
  refine WL.val (by kernel_rfl) (.pointer (some ⟨p, 0, none⟩)) (by go_simp) ?_
  simp only [Act.put, List.setIfInBounds_toArray, List.set_cons_zero, List.set_cons_succ]
  refine WL.callF (by kernel_rfl) 34 _ _ rfl Try.in34 #[ptr p] (by simp [Act.eval]) ?_
  refine (iat_any p s a none w HI.out).mono ?_
  rintro e w0 ⟨rfl, hw0⟩
  rw [hw0]
  clear hw0 w0
  refine ⟨_, rfl, ?_⟩
  simp only [Act.put, List.setIfInBounds_toArray, List.set_cons_zero, List.set_cons_succ]
  refine WL.val (by kernel_rfl) (.int .i64 (a : Int)) (by go_simp) ?_
  simp only [Act.put, List.setIfInBounds_toArray, List.set_cons_zero, List.set_cons_succ]
  refine WL.nil ?_
  refine hK2 _ _ ?_
  refine wp_seq_k fun K3 hK3 => ?_
  refine wp_region_list (WL.out ?_)
  refine WL.val (by kernel_rfl) (.pointer (some ⟨p, 0, none⟩)) (by go_simp) ?_
  simp only [Act.put, List.setIfInBounds_toArray, List.set_cons_zero, List.set_cons_succ]
  refine WL.callF (by kernel_rfl) 76 _ _ rfl Try.in76 #[ptr p, .int .i64 8192] (by simp [Act.eval]) ?_
  refine (HC.out).mono ?_
  rintro e w1 ⟨bad, er, res, rfl, h1, h2, h3, h4⟩
  refine ⟨_, rfl, ?_⟩
  have H1 := Keep.mk h1
  have H2 := Keep.mk h2
  have H3 := Keep.mk h3
  have H4 := Keep.mk h4
  clear h1 h2 h3 h4
  simp only [Act.put, List.setIfInBounds_toArray, List.set_cons_zero, List.set_cons_succ]
  by_cases hE : W = 0
  · rcases H3.out with ⟨e1, rfl, rfl⟩ | ⟨e1, _⟩
    rotate_left
    · exact absurd hE e1
    rcases H4.out with ⟨_, hO, k0, hk0, hk1, _⟩ | ⟨e1, _⟩
    rotate_left
    · exact absurd hE e1
    obtain ⟨ra, rc, rfl⟩ := row_form hO.row
    have HOt := Keep.mk hO
    have Hk : Keep (∃ k, (Value.slice ra l.length rc).ownBlock = some k ∧ w.heap.size ≤ k) := ⟨k0, hk0, hk1⟩
    have hli : (l.length : Int) ≤ 9223372036854775807 := by have := HLe.out hE; omega
    clear hO hk0 hk1
    refine WL.val (by kernel_rfl) (.slice ra l.length rc) (by go_simp) ?_
    simp only [Act.put, List.setIfInBounds_toArray, List.set_cons_zero, List.set_cons_succ]
    refine WL.val (by kernel_rfl) (.nilIface) (by go_simp) ?_
    simp only [Act.put, List.setIfInBounds_toArray, List.set_cons_zero, List.set_cons_succ]
    refine WL.callF (by kernel_rfl) 73 _ _ rfl Try.in73 #[.slice ra l.length rc, .nilIface] (by simp [Act.eval]) ?_
    refine (must73_ok (.slice ra l.length rc) w1).mono ?_
    rintro e w0 ⟨rfl, hw0⟩
    rw [hw0]
    clear hw0 w0
    refine ⟨_, rfl, ?_⟩
    simp only [Act.put, List.setIfInBounds_toArray, List.set_cons_zero, List.set_cons_succ]
    refine WL.val (by kernel_rfl) (.slice ra l.length rc) (by go_simp) ?_
    simp only [Act.put, List.setIfInBounds_toArray, List.set_cons_zero, List.set_cons_succ]
    refine WL.nil ?_
    refine hK3 _ _ ?_
    refine wp_seq_k fun K4 hK4 => ?_
    refine wp_seq_k fun K5 hK5 => ?_
    rcases Bool.eq_false_or_eq_true (isP (l.length : Int)) with hP | hP
    · have HQ := Keep.mk (right_any (.slice ra l.length rc) l w1 HOt.out.row)
      rw [hP] at HQ
      refine wp_region_list (WL.out ?_)
      refine WL.val (by kernel_rfl) (.slice ra l.length rc) (by go_simp) ?_
      simp only [Act.put, List.setIfInBounds_toArray, List.set_cons_zero, List.set_cons_succ]
      refine WL.callF (by kernel_rfl) 16 _ _ rfl Try.in16 #[.slice ra l.length rc] (by simp [Act.eval]) ?_
      refine (HQ.out).mono ?_
      rintro e w0 ⟨rfl, hw0⟩
      rw [hw0]
      clear hw0 w0
      refine ⟨_, rfl, ?_⟩
      simp only [Act.put, List.setIfInBounds_toArray, List.set_cons_zero, List.set_cons_succ]
      refine WL.val (by kernel_rfl) (.bool false) (by go_simp) ?_
      simp only [Act.put, List.setIfInBounds_toArray, List.set_cons_zero, List.set_cons_succ]
      refine WL.nil ?_
      refine hK5 _ _ ?_
      refine wp_cond_false rfl ?_
      refine wp_skip ?_
      refine hK4 _ _ ?_
      refine wp_seq_k fun K6 hK6 => ?_
      refine wp_region_list (WL.out ?_)
      refine WL.val (by kernel_rfl) (.slice ra l.length rc) (by go_simp) ?_
      simp only [Act.put, List.setIfInBounds_toArray, List.set_cons_zero, List.set_cons_succ]
      refine WL.val (by kernel_rfl) (.slice ra l.length rc) (by go_simp) ?_
      simp only [Act.put, List.setIfInBounds_toArray, List.set_cons_zero, List.set_cons_succ]
      refine WL.nil ?_
      refine hK6 _ _ ?_
      refine wp_ret ?_
      go_ret
      exact .inl ⟨by rw [HR2.out hE hP], _, rfl, by rw [HR2.out hE hP]; exact ⟨HOt.out, Hk.out⟩, by rw [HR2.out hE hP]; exact H1.out, H2.out⟩
    · have HQ := Keep.mk (right_any (.slice ra l.length rc) l w1 HOt.out.row)
      rw [hP] at HQ
      refine wp_region_list (WL.out ?_)
      refine WL.val (by kernel_rfl) (.slice ra l.length rc) (by go_simp) ?_
      simp only [Act.put, List.setIfInBounds_toArray, List.set_cons_zero, List.set_cons_succ]
      refine WL.callF (by kernel_rfl) 16 _ _ rfl Try.in16 #[.slice ra l.length rc] (by simp [Act.eval]) ?_
      refine (HQ.out).mono ?_
      rintro e w0 ⟨rfl, hw0⟩
      rw [hw0]
      clear hw0 w0
      refine ⟨_, rfl, ?_⟩
      simp only [Act.put, List.setIfInBounds_toArray, List.set_cons_zero, List.set_cons_succ]
      refine WL.val (by kernel_rfl) (.bool true) (by go_simp) ?_
      simp only [Act.put, List.setIfInBounds_toArray, List.set_cons_zero, List.set_cons_succ]
      refine WL.nil ?_
      refine hK5 _ _ ?_
      refine wp_cond_true rfl ?_
      refine wp_region_list (WL.out ?_)
      refine WL.val (by kernel_rfl) (.int .i64 (a : Int)) (by go_simp) ?_
      simp only [Act.put, List.setIfInBounds_toArray, List.set_cons_zero, List.set_cons_succ]
      refine WL.callP (by kernel_rfl) 37 _ _ rfl Try.in37 #[.int .i64 60, .int .i64 (a : Int)] (by simp [Act.eval]) ?_
      refine (at_any 60 a w1).mono ?_
      rintro e wz ⟨rfl, hbz, hwz⟩
      refine .inr ⟨_, rfl, ?_⟩
      try simp only [Exit.inBlock, Exit.then]
      refine ⟨rfl, ?_⟩
      exact .inr ⟨by rw [HR3.out hE hP]; exact (by decide : (60 : Int) ≠ 0), w1.heap.size, H2.out.size, rfl, by rw [HR3.out hE hP]; exact hbz, H2.out.trans (Grown.below hwz)⟩
  · rcases H3.out with ⟨e1, _, _⟩ | ⟨_, q, hq, rfl, rfl, hbad⟩
    · exact absurd e1 hE
    have Hbad := Keep.mk hbad
    clear hbad
    unfold err
    refine WL.val (by kernel_rfl) (res) (by go_simp) ?_
    simp only [Act.put, List.setIfInBounds_toArray, List.set_cons_zero, List.set_cons_succ]
    refine WL.val (by kernel_rfl) (.iface 84 (ptr q)) (by go_simp) ?_
    simp only [Act.put, List.setIfInBounds_toArray, List.set_cons_zero, List.set_cons_succ]
    refine WL.callP (by kernel_rfl) 73 _ _ rfl Try.in73 #[res, err q] (by simp [Act.eval, err]) ?_
    refine (must73_bad _ q w1).mono ?_
    rintro e w' ⟨rfl, rfl⟩
    refine .inr ⟨_, rfl, ?_⟩
    try simp only [Exit.inBlock, Exit.then]
    refine ⟨rfl, ?_⟩
    exact .inr ⟨by rw [HR1.out hE]; exact hE, q, hq, rfl, by rw [HR1.out hE]; exact Hbad.out, H2.out⟩
set_option maxRecDepth 8000 in
set_option maxHeartbeats 2000000 in
theorem getBlock_any (p : Nat) (s : ByteArray) (a : Nat) (w : World) (hI : InAt w p s a none) (hb : s.size ≤ 140737488355328) :
    Calls Try.prog 77 #[ptr p] w (Rds p s ((bk1 (lst s) a).1, (bk1 (lst s) a).2.1) (fun v w' => OwnT w' v (bk1 (lst s) a).2.2 ∧ ∃ k, v.ownBlock = some k ∧ w.heap.size ≤ k) w) := by
  have HI := Keep.mk hI
  obtain ⟨D, hD⟩ : ∃ D, D = (lst s).drop a := ⟨_, rfl⟩
  obtain ⟨W, hW⟩ : ∃ W, W = (byt D (1048576 : Int)).1 := ⟨_, rfl⟩
  obtain ⟨N, hN⟩ : ∃ N, N = (byt D (1048576 : Int)).2.1 := ⟨_, rfl⟩
  obtain ⟨l, hl⟩ : ∃ l, l = (byt D (1048576 : Int)).2.2 := ⟨_, rfl⟩
  have hDB : Byts D := by rw [hD]; exact (lst_byts s).drop a
  have HC : Keep (Calls Try.prog 76 #[ptr p, .int .i64 1048576] w (RdPostB p s W (a + N) l w)) := ⟨ibytes_good p s a 1048576 1048576 (by decide) w hI hb (by decide) D hD W hW N hN l hl⟩
  have HLe : Keep (W = 0 → l.length ≤ 1048576) := ⟨fun h => by have := (byt_back D 1048576 hDB (by rw [← hW]; exact h)).1; rw [← hl] at this; omega⟩
  obtain ⟨R, hR⟩ : ∃ R, R = bk1 (lst s) a := ⟨_, rfl⟩
  have HR1 : Keep (¬ W = 0 → R = (W, a + N, [])) := ⟨fun h => by rw [hR]; unfold bk1; rw [← hD, ← hW, ← hN, if_pos h]⟩
  have HR2 : Keep (W = 0 → ¬ l.length = 0 → R = (0, a + N, l)) := ⟨fun h h2 => by rw [hR]; unfold bk1; rw [← hD, ← hW, if_neg (by simp [h]), ← hl, if_neg (by simp [h2]), ← hN]⟩
  have HR3 : Keep (W = 0 → l.length = 0 → R = (4, a, [])) := ⟨fun h h2 => by rw [hR]; unfold bk1; rw [← hD, ← hW, if_neg (by simp [h]), ← hl, if_pos h2]⟩
  rw [← hR]
  clear hI hb hD hW hN hR hl hDB
  go_enter Try.func77, Try.ntmps77
  refine wp_seq_k fun K1 hK1 => ?_
  refine wp_region_list (WL.out ?_)
  refine WL.val (by kernel_rfl) (.slice none 0 0) (by go_simp) ?_
  simp only [Act.put, List.setIfInBounds_toArray, List.set_cons_zero, List.set_cons_succ]
  refine WL.nil ?_
  refine hK1 _ _ ?_
  refine wp_seq_k fun K2 hK2 => ?_
  refine wp_region_list (WL.out ?_)
  refine WL.val (by kernel_rfl) (.pointer (some ⟨p, 0, none⟩)) (by go_simp) ?_
  simp only [Act.put, List.setIfInBounds_toArray, List.set_cons_zero, List.set_cons_succ]
  refine WL.callF (by kernel_rfl) 34 _ _ rfl Try.in34 #[ptr p] (by simp [Act.eval]) ?_
  refine (iat_any p s a none w HI.out).mono ?_
  rintro e w0 ⟨rfl, hw0⟩
  rw [hw0]
  clear hw0 w0
  refine ⟨_, rfl, ?_⟩
  simp only [Act.put, List.setIfInBounds_toArray, List.set_cons_zero, List.set_cons_succ]
  refine WL.val (by kernel_rfl) (.int .i64 (a : Int)) (by go_simp) ?_
  simp only [Act.put, List.setIfInBounds_toArray, List.set_cons_zero, List.set_cons_succ]
  refine WL.nil ?_
  refine hK2 _ _ ?_
  refine wp_seq_k fun K3 hK3 => ?_
  refine wp_region_list (WL.out ?_)
  refine WL.val (by kernel_rfl) (.pointer (some ⟨p, 0, none⟩)) (by go_simp) ?_
  simp only [Act.put, List.setIfInBounds_toArray, List.set_cons_zero, List.set_cons_succ]
  refine WL.callF (by kernel_rfl) 76 _ _ rfl Try.in76 #[ptr p, .int .i64 1048576] (by simp [Act.eval]) ?_
  refine (HC.out).mono ?_
  rintro e w1 ⟨bad, er, res, rfl, h1, h2, h3, h4⟩
  refine ⟨_, rfl, ?_⟩
  have H1 := Keep.mk h1
  have H2 := Keep.mk h2
  have H3 := Keep.mk h3
  have H4 := Keep.mk h4
  clear h1 h2 h3 h4
  simp only [Act.put, List.setIfInBounds_toArray, List.set_cons_zero, List.set_cons_succ]
  by_cases hE : W = 0
  · rcases H3.out with ⟨e1, rfl, rfl⟩ | ⟨e1, _⟩
    rotate_left
    · exact absurd hE e1
    rcases H4.out with ⟨_, hO, k0, hk0, hk1, _⟩ | ⟨e1, _⟩
    rotate_left
    · exact absurd hE e1
    obtain ⟨ra, rc, rfl⟩ := row_form hO.row
    have HOt := Keep.mk hO
    have Hk : Keep (∃ k, (Value.slice ra l.length rc).ownBlock = some k ∧ w.heap.size ≤ k) := ⟨k0, hk0, hk1⟩
    have hli : (l.length : Int) ≤ 9223372036854775807 := by have := HLe.out hE; omega
    clear hO hk0 hk1
    refine WL.val (by kernel_rfl) (.slice ra l.length rc) (by go_simp) ?_
    simp only [Act.put, List.setIfInBounds_toArray, List.set_cons_zero, List.set_cons_succ]
    refine WL.val (by kernel_rfl) (.nilIface) (by go_simp) ?_
    simp only [Act.put, List.setIfInBounds_toArray, List.set_cons_zero, List.set_cons_succ]
    refine WL.callF (by kernel_rfl) 73 _ _ rfl Try.in73 #[.slice ra l.length rc, .nilIface] (by simp [Act.eval]) ?_
    refine (must73_ok (.slice ra l.length rc) w1).mono ?_
    rintro e w0 ⟨rfl, hw0⟩
    rw [hw0]
    clear hw0 w0
    refine ⟨_, rfl, ?_⟩
    simp only [Act.put, List.setIfInBounds_toArray, List.set_cons_zero, List.set_cons_succ]
    refine WL.val (by kernel_rfl) (.slice ra l.length rc) (by go_simp) ?_
    simp only [Act.put, List.setIfInBounds_toArray, List.set_cons_zero, List.set_cons_succ]
    refine WL.nil ?_
    refine hK3 _ _ ?_
    refine wp_seq_k fun K4 hK4 => ?_
    refine wp_seq_k fun K5 hK5 => ?_
    refine wp_region_list (WL.out ?_)
    refine WL.val (by kernel_rfl) (.slice ra l.length rc) (by go_simp) ?_
    simp only [Act.put, List.setIfInBounds_toArray, List.set_cons_zero, List.set_cons_succ]
    refine WL.val (by kernel_rfl) (.int .i64 (l.length : Int)) (by go_simp) ?_
    simp only [Act.put, List.setIfInBounds_toArray, List.set_cons_zero, List.set_cons_succ]
    by_cases h3_2 : l.length = 0
    · have hP : l.length = 0 := h3_2
      have h3_2i : (l.length : Int) = 0 := by omega
      refine WL.val (by kernel_rfl) (.bool true) (by go_simp) ?_
      simp only [Act.put, List.setIfInBounds_toArray, List.set_cons_zero, List.set_cons_succ]
      refine WL.nil ?_
      refine hK5 _ _ ?_
      refine wp_cond_true rfl ?_
      refine wp_region_list (WL.out ?_)
      refine WL.val (by kernel_rfl) (.int .i64 (a : Int)) (by go_simp) ?_
      simp only [Act.put, List.setIfInBounds_toArray, List.set_cons_zero, List.set_cons_succ]
      refine WL.callP (by kernel_rfl) 37 _ _ rfl Try.in37 #[.int .i64 4, .int .i64 (a : Int)] (by simp [Act.eval]) ?_
      refine (at_any 4 a w1).mono ?_
      rintro e wz ⟨rfl, hbz, hwz⟩
      refine .inr ⟨_, rfl, ?_⟩
      try simp only [Exit.inBlock, Exit.then]
      refine ⟨rfl, ?_⟩
      exact .inr ⟨by rw [HR3.out hE hP]; exact (by decide : (4 : Int) ≠ 0), w1.heap.size, H2.out.size, rfl, by rw [HR3.out hE hP]; exact hbz, H2.out.trans (Grown.below hwz)⟩
    · have hP : ¬ l.length = 0 := h3_2
      have h3_2i : ¬ (l.length : Int) = 0 := by omega
      refine WL.val (by kernel_rfl) (.bool false) (by go_simp) ?_
      simp only [Act.put, List.setIfInBounds_toArray, List.set_cons_zero, List.set_cons_succ]
      refine WL.nil ?_
      refine hK5 _ _ ?_
      refine wp_cond_false rfl ?_
      refine wp_skip ?_
      refine hK4 _ _ ?_
      refine wp_seq_k fun K6 hK6 => ?_
      refine wp_region_list (WL.out ?_)
      refine WL.val (by kernel_rfl) (.slice ra l.length rc) (by go_simp) ?_
      simp only [Act.put, List.setIfInBounds_toArray, List.set_cons_zero, List.set_cons_succ]
      refine WL.val (by kernel_rfl) (.slice ra l.length rc) (by go_simp) ?_
      simp only [Act.put, List.setIfInBounds_toArray, List.set_cons_zero, List.set_cons_succ]
      refine WL.nil ?_
      refine hK6 _ _ ?_
      refine wp_ret ?_
      go_ret
      exact .inl ⟨by rw [HR2.out hE hP], _, rfl, by rw [HR2.out hE hP]; exact ⟨HOt.out, Hk.out⟩, by rw [HR2.out hE hP]; exact H1.out, H2.out⟩
  · rcases H3.out with ⟨e1, _, _⟩ | ⟨_, q, hq, rfl, rfl, hbad⟩
    · exact absurd e1 hE
    have Hbad := Keep.mk hbad
    clear hbad
    unfold err
    refine WL.val (by kernel_rfl) (res) (by go_simp) ?_
    simp only [Act.put, List.setIfInBounds_toArray, List.set_cons_zero, List.set_cons_succ]
    refine WL.val (by kernel_rfl) (.iface 84 (ptr q)) (by go_simp) ?_
    simp only [Act.put, List.setIfInBounds_toArray, List.set_cons_zero, List.set_cons_succ]
    refine WL.callP (by kernel_rfl) 73 _ _ rfl Try.in73 #[res, err q] (by simp [Act.eval, err]) ?_
    refine (must73_bad _ q w1).mono ?_
    rintro e w' ⟨rfl, rfl⟩
    refine .inr ⟨_, rfl, ?_⟩
    try simp only [Exit.inBlock, Exit.then]
    refine ⟨rfl, ?_⟩
    exact .inr ⟨by rw [HR1.out hE]; exact hE, q, hq, rfl, by rw [HR1.out hE]; exact Hbad.out, H2.out⟩
def OwnR (w : World) (v : Value) (vs : List Value) : Prop := w.ownsRow 0 30 1 v vs.length vs
theorem OwnR.form {w : World} {v : Value} {l : List Value} (h : OwnR w v l) : (v = .slice none 0 0 ∧ l = []) ∨ ∃ g cap cur, v = .slice (some ⟨g, 0, none⟩) l.length cap ∧ Blk w g 30 cur ∧ l.length ≤ cap ∧ cur.toList.take l.length = l := by
  rcases h.2 with ⟨rfl, h0⟩ | ⟨g, cap, cur, rfl, _, h3, h4, h5, h6, h7⟩
  · exact .inl ⟨rfl, List.eq_nil_of_length_eq_zero h0⟩
  · exact .inr ⟨g, cap, cur, rfl, h3, h4, by rw [Nat.mul_one] at h7; exact h7⟩
theorem OwnR.sl {w : World} {v : Value} {l : List Value} (h : OwnR w v l) : ∃ a c, v = .slice a l.length c := by
  rcases h.form with ⟨rfl, rfl⟩ | ⟨g, cap, cur, rfl, _⟩
  · exact ⟨_, _, rfl⟩
  · exact ⟨_, _, rfl⟩
theorem OwnR.lt {w : World} {v : Value} {l : List Value} (h : OwnR w v l) : ∀ k, v.ownBlock = some k → k < w.heap.size := fun k hk => (World.ownsRow.lt h k hk).2
theorem OwnR.grown {w w' : World} {v : Value} {l : List Value} {S : Nat → Prop} (h : OwnR w v l) (hg : Grown w w' S) (hs : ∀ k, v.ownBlock = some k → ¬ S k) : OwnR w' v l := by
  refine ⟨h.1, ?_⟩
  rcases h.2 with h1 | ⟨g, cap, cur, rfl, h2, h3, h4⟩
  · exact .inl h1
  · exact .inr ⟨g, cap, cur, rfl, h2, hg.blk h3 (hs g rfl), h4⟩
theorem OwnR.below {w w' : World} {v : Value} {l : List Value} (h : OwnR w v l) (hb : Below w.heap.size w w') : OwnR w' v l := h.grown (Grown.below (S := fun _ => False) hb) fun _ _ h => h
theorem OwnR.ne {w : World} {v : Value} {l : List Value} {p : Nat} {T : TypeId} {cs : Array Value} (h : OwnR w v l) (hp : Blk w p T cs) (hT : T ≠ 30) : v.ownBlock ≠ some p := by
  intro e
  rcases h.form with ⟨rfl, _⟩ | ⟨g, cap, cur, rfl, h3, _⟩
  · simp [Value.ownBlock] at e
  · simp [Value.ownBlock] at e
    subst e
    exact hT (blk_type hp h3)
theorem ownR_empty (w : World) : OwnR (w.alloc (.cells #[] 30)) (.slice (some ⟨w.heap.size, 0, none⟩) 0 0) [] :=
  ⟨rfl, .inr ⟨w.heap.size, 0, #[], rfl, Nat.zero_le _, Blk.new w 30 #[], Nat.le_refl _, by decide, rfl, rfl⟩⟩
theorem Try.infoR : (Try.prog.info? 30).map (fun i => (i.zero, i.size, i.bytes)) = some (some (.slice none 0 0), 1, 24) := by kernel_rfl
theorem run_appR (w : World) (ty : TypeId) (v : Value) (l : List Value) (hown : OwnR w v l) (g : Nat) (x : Value) (hx : x.oneCell' = true) (hg : Blk w g 30 #[x]) (hb : l.length ≤ 1000000000000) :
    ∃ v' w', (Builtin.append_ #[22, 22] ty #[v, .slice (some ⟨g, 0, none⟩) 1 1]).run Try.prog w = .ok v' w' ∧ OwnR w' v' (l ++ [x]) ∧ (Grown w w' fun k => v.ownBlock = some k) ∧ Moved w v v' := by
  obtain ⟨i, hi, hzz⟩ := Option.map_eq_some_iff.1 Try.infoR
  simp only [Prod.mk.injEq] at hzz
  obtain ⟨hz, hsz, hby⟩ := hzz
  obtain ⟨v', w', hr, h1, h2, _, h3⟩ := run_append_own_at (P := Try.prog) w 0 22 ty 30 i (.slice none 0 0) 1 24 Try.underlying22 hi hz hsz hby rfl (by omega) v l.length l hown ⟨g, 0, none⟩ 1 1 [x] rfl (fun j u hu => by
      rw [Addr.add_mid, Nat.zero_add, hg.cell]
      simpa using hu)
    (fun u hu => by simp at hu; rw [hu]; exact hx) (by unfold maxLen; omega) (by omega) (Nat.zero_le _)
  refine ⟨v', w', hr, ?_, Grown.of h2 fun k _ e => e, ?_⟩
  · unfold OwnR
    rw [List.length_append]
    exact h1
  · rcases h3 with h3 | h3
    · exact .inl h3
    · exact .inr ⟨_, h3, Nat.le_refl _⟩
theorem WL.appR {ops : Array Oper} {rest : List Oper} {o : Oper} {a : Act} {w : World} {Q : Exit → Act → World → Prop} (hw : Region.wanted o (yielded ops a.tmps) = true) (s x : Operand)
    (ho : o.op = .call { callee := .builtin .append, args := #[s, x], argTypes := #[22, 22] }) (v : Value) (l : List Value) (g : Nat) (y : Value) (hy : y.oneCell' = true)
    (hs : a.eval s = v) (hx : a.eval x = .slice (some ⟨g, 0, none⟩) 1 1) (hown : OwnR w v l) (hg : Blk w g 30 #[y]) (hb : l.length ≤ 1000000000000)
    (h : ∀ v' w', OwnR w' v' (l ++ [y]) → (Grown w w' fun k => v.ownBlock = some k) → Moved w v v' → WL Try.prog ops Q rest (a.put o.dst v') w') : WL Try.prog ops Q (o :: rest) a w :=
  ⟨wpList_wanted hw fun K hK => by
    obtain ⟨v', w', hr, h1, h2, h3⟩ := run_appR w o.type v l hown g y hy hg hb
    unfold Oper.wp execOp
    simp only [ho, resolve, invoke, builtin, Sem.run_bind, Sem.run_pure, Result.andThen_ok, List.map_toArray, List.map_cons, List.map_nil, hs, hx, hr]
    exact hK _ _ (h v' w' h1 h2 h3).out⟩
theorem bsR (pa : Option Addr) (n c : Nat) (w : World) : (Instr.buildSlice 22 1 #[(0, .slice pa n c)]).run Try.prog w = .ok (.slice (some ⟨w.heap.size, 0, none⟩) 1 1) (w.alloc (.cells #[.slice pa n c] 30)) := by kernel_rfl
theorem bsRE (w : World) : (Instr.buildSlice 22 0 #[]).run Try.prog w = .ok (.slice (some ⟨w.heap.size, 0, none⟩) 0 0) (w.alloc (.cells #[] 30)) := by kernel_rfl
def RowsOwn (b0 : Nat) (w : World) (v : Value) (ls : List (List Int)) : Prop :=
  ∃ vs : List Value, OwnR w v vs ∧ (∀ k, v.ownBlock = some k → b0 ≤ k) ∧ vs.length = ls.length ∧ ∀ i, i < ls.length → OwnT w (vs.getD i noS) (ls.getD i []) ∧ ∃ k, (vs.getD i noS).ownBlock = some k ∧ b0 ≤ k
theorem RowsOwn.rws {b0 : Nat} {w : World} {v : Value} {ls : List (List Int)} (h : RowsOwn b0 w v ls) : RwsAt w v ls := by
  obtain ⟨vs, h1, _, h2, h3⟩ := h
  refine ⟨fun i => vs.getD i noS, ?_, fun i hi => (h3 i hi).1.row⟩
  rcases h1.form with ⟨rfl, h4⟩ | ⟨g, cap, cur, rfl, h4, h5, h6⟩
  · exact .inl ⟨_, _, rfl, List.eq_nil_of_length_eq_zero (by rw [← h2, h4]; rfl)⟩
  · refine .inr ⟨g, 0, cap, by rw [h2], by omega, fun i hi => ?_⟩
    rw [h4.cell, Nat.zero_add]
    have : vs[i]? = some (vs.getD i noS) := by rw [List.getD_eq_getElem?_getD, List.getElem?_eq_getElem (by omega)]; rfl
    rw [← this, ← h6, List.getElem?_take, if_pos (by omega), Array.getElem?_toList]
theorem RowsOwn.grown {b0 : Nat} {w w' : World} {v : Value} {ls : List (List Int)} {S : Nat → Prop} (h : RowsOwn b0 w v ls) (hg : Grown w w' S) (hT : ∀ k, Typ w k 5 ∨ Typ w k 30 → ¬ S k) : RowsOwn b0 w' v ls := by
  obtain ⟨vs, h1, h2, h3, h4⟩ := h
  refine ⟨vs, h1.grown hg fun k hk => ?_, h2, h3, fun i hi => ⟨(h4 i hi).1.grown hg fun k hk => ?_, (h4 i hi).2⟩⟩
  · rcases h1.form with ⟨rfl, _⟩ | ⟨g, cap, cur, rfl, h6, _⟩
    · simp [Value.ownBlock] at hk
    · simp [Value.ownBlock] at hk
      subst hk
      exact hT _ (.inr h6.typ)
  · exact hT _ (.inl ((h4 i hi).1.typ hk))
theorem RowsOwn.below {b0 : Nat} {w w' : World} {v : Value} {ls : List (List Int)} (h : RowsOwn b0 w v ls) (hb : Below w.heap.size w w') : RowsOwn b0 w' v ls := h.grown (Grown.below (S := fun _ => False) hb) fun _ _ h => h
theorem RowsOwn.form {b0 : Nat} {w : World} {v : Value} {ls : List (List Int)} (h : RowsOwn b0 w v ls) : ∃ a c, v = .slice a ls.length c := h.rws.form
theorem RowsOwn.push {b0 : Nat} {w' : World} {v' vx : Value} {ls : List (List Int)} {x : List Int} {vs : List Value} (h1 : OwnR w' v' (vs ++ [vx])) (hn : ∀ k, v'.ownBlock = some k → b0 ≤ k) (h3 : vs.length = ls.length) (h4 : ∀ i, i < ls.length → OwnT w' (vs.getD i noS) (ls.getD i []) ∧ ∃ k, (vs.getD i noS).ownBlock = some k ∧ b0 ≤ k) (hx : OwnT w' vx x) (hk : ∃ k, vx.ownBlock = some k ∧ b0 ≤ k) : RowsOwn b0 w' v' (ls ++ [x]) := by
  refine ⟨vs ++ [vx], h1, hn, by simp [h3], fun i hi => ?_⟩
  rw [List.length_append, List.length_singleton] at hi
  by_cases h : i < ls.length
  · have e1 : (vs ++ [vx]).getD i noS = vs.getD i noS := by rw [List.getD_eq_getElem?_getD, List.getD_eq_getElem?_getD, List.getElem?_append_left (by omega)]
    have e2 : (ls ++ [x]).getD i [] = ls.getD i [] := by rw [List.getD_eq_getElem?_getD, List.getD_eq_getElem?_getD, List.getElem?_append_left h]
    rw [e1, e2]
    exact h4 i h
  · obtain rfl : i = ls.length := by omega
    have e1 : (vs ++ [vx]).getD ls.length noS = vx := by rw [← h3, List.getD_eq_getElem?_getD]; simp
    have e2 : (ls ++ [x]).getD ls.length [] = x := by rw [List.getD_eq_getElem?_getD]; simp
    rw [e1, e2]
    exact ⟨hx, hk⟩
theorem own_typ {w : World} {v : Value} {l : List Value} {k : Nat} (h : OwnR w v l) (e : v.ownBlock = some k) (ht : Typ w k 5) : False := by
  rcases h.form with ⟨rfl, _⟩ | ⟨g, cap, cur, rfl, h3, _⟩
  · simp [Value.ownBlock] at e
  · simp [Value.ownBlock] at e
    subst e
    exact absurd (h3.typ.one ht) (by decide)
set_option maxRecDepth 8000 in
set_option maxHeartbeats 4000000 in
theorem getBlocks_any (p : Nat) (s : ByteArray) (a : Nat) (w : World) (hI : InAt w p s a none) (hb : s.size ≤ 140737488355328) :
    Calls Try.prog 62 #[ptr p] w (Rds p s ((bkR (lst s) a).1, (bkR (lst s) a).2.1) (fun v w' => RowsOwn w.heap.size w' v (bkR (lst s) a).2.2) w) := by
  have HI := Keep.mk hI
  have Hb := Keep.mk hb
  have hrg := fst_rng ((lst s).drop a) ((lst_byts s).drop a) 256 (by decide)
  have hc0 : Calls Try.prog 70 #[ptr p, .int .u64 256] w (RdPost p s (fstM ((lst s).drop a) 256).2.2 (a + (fstM ((lst s).drop a) 256).2.1.toNat) (.int .u64 (fstM ((lst s).drop a) 256).1) w) := inum_good p s a 256 w hI hb
  obtain ⟨R, hR⟩ : ∃ R, R = bkR (lst s) a := ⟨_, rfl⟩
  rw [← hR]
  unfold bkR at hR
  generalize fstM ((lst s).drop a) 256 = M at *
  obtain ⟨c, n, W⟩ := M
  simp only at hR hc0 hrg ⊢
  obtain ⟨N, hN⟩ : ∃ N, N = n.toNat := ⟨_, rfl⟩
  rw [← hN] at hR hc0
  have HC := Keep.mk hc0
  have Hcr := Keep.mk hrg
  have HR1 : Keep (¬ W = 0 → R = (W, a + N, [])) := ⟨fun h => by rw [hR, if_pos h]⟩
  have HR2 : Keep (W = 0 → ¬ c = 0 → R = bkG (lst s) c.toNat [] (a + N)) := ⟨fun h1 h2 => by rw [hR, if_neg (by simp [h1]), if_neg h2]⟩
  have HR3 : Keep (W = 0 → c = 0 → R = (1, a, [])) := ⟨fun h1 h2 => by rw [hR, if_neg (by simp [h1]), if_pos h2]⟩
  clear hI hb hR hN hrg hc0
  go_enter Try.func62, Try.ntmps62
  refine wp_seq_k fun K1 hK1 => ?_
  refine wp_region_list (WL.out ?_)
  refine WL.val (by kernel_rfl) (.slice none 0 0) (by go_simp) ?_
  simp only [Act.put, List.setIfInBounds_toArray, List.set_cons_zero, List.set_cons_succ]
  refine WL.nil ?_
  refine hK1 _ _ ?_
  refine wp_seq_k fun K2 hK2 => ?_
  refine wp_region_list (WL.out ?_)
  refine WL.val (by kernel_rfl) (.pointer (some ⟨p, 0, none⟩)) (by go_simp) ?_
  simp only [Act.put, List.setIfInBounds_toArray, List.set_cons_zero, List.set_cons_succ]
  refine WL.callF (by kernel_rfl) 34 _ _ rfl Try.in34 #[ptr p] (by simp [Act.eval]) ?_
  refine (iat_any p s a none w HI.out).mono ?_
  rintro e w0 ⟨rfl, hw0⟩
  rw [hw0]
  clear hw0 w0
  refine ⟨_, rfl, ?_⟩
  simp only [Act.put, List.setIfInBounds_toArray, List.set_cons_zero, List.set_cons_succ]
  refine WL.val (by kernel_rfl) (.int .i64 (a : Int)) (by go_simp) ?_
  simp only [Act.put, List.setIfInBounds_toArray, List.set_cons_zero, List.set_cons_succ]
  refine WL.nil ?_
  refine hK2 _ _ ?_
  refine wp_seq_k fun K3 hK3 => ?_
  refine wp_region_list (WL.out ?_)
  refine WL.val (by kernel_rfl) (.pointer (some ⟨p, 0, none⟩)) (by go_simp) ?_
  simp only [Act.put, List.setIfInBounds_toArray, List.set_cons_zero, List.set_cons_succ]
  refine WL.callF (by kernel_rfl) 70 _ _ rfl Try.in70 #[ptr p, .int .u64 256] (by simp [Act.eval]) ?_
  refine (HC.out).mono ?_
  rintro e w1 ⟨bad, er, rfl, h1, h2, h3⟩
  refine ⟨_, rfl, ?_⟩
  have H1 := Keep.mk h1
  have H2 := Keep.mk h2
  have H3 := Keep.mk h3
  clear h1 h2 h3
  simp only [Act.put, List.setIfInBounds_toArray, List.set_cons_zero, List.set_cons_succ]
  by_cases hE : W = 0
  · rcases H3.out with ⟨e1, rfl, rfl⟩ | ⟨e1, _⟩
    rotate_left
    · exact absurd hE e1
    have HI1 := H1
    refine WL.val (by kernel_rfl) (.int .u64 c) (by go_simp) ?_
    simp only [Act.put, List.setIfInBounds_toArray, List.set_cons_zero, List.set_cons_succ]
    refine WL.val (by kernel_rfl) (.nilIface) (by go_simp) ?_
    simp only [Act.put, List.setIfInBounds_toArray, List.set_cons_zero, List.set_cons_succ]
    refine WL.callF (by kernel_rfl) 69 _ _ rfl Try.in69 #[.int .u64 c, .nilIface] (by simp [Act.eval]) ?_
    refine (must69_ok (.int .u64 c) w1).mono ?_
    rintro e w0 ⟨rfl, hw0⟩
    rw [hw0]
    clear hw0 w0
    refine ⟨_, rfl, ?_⟩
    simp only [Act.put, List.setIfInBounds_toArray, List.set_cons_zero, List.set_cons_succ]
    refine WL.val (by kernel_rfl) (.int .u64 c) (by go_simp) ?_
    simp only [Act.put, List.setIfInBounds_toArray, List.set_cons_zero, List.set_cons_succ]
    refine WL.nil ?_
    refine hK3 _ _ ?_
    refine wp_seq_k fun K4 hK4 => ?_
    refine wp_seq_k fun K5 hK5 => ?_
    refine wp_region_list (WL.out ?_)
    refine WL.val (by kernel_rfl) (.int .u64 c) (by go_simp) ?_
    simp only [Act.put, List.setIfInBounds_toArray, List.set_cons_zero, List.set_cons_succ]
    by_cases h3_1 : c = 0
    · skip
      refine WL.val (by kernel_rfl) (.bool true) (by go_simp) ?_
      simp only [Act.put, List.setIfInBounds_toArray, List.set_cons_zero, List.set_cons_succ]
      refine WL.nil ?_
      refine hK5 _ _ ?_
      refine wp_cond_true rfl ?_
      refine wp_region_list (WL.out ?_)
      refine WL.val (by kernel_rfl) (.int .i64 (a : Int)) (by go_simp) ?_
      simp only [Act.put, List.setIfInBounds_toArray, List.set_cons_zero, List.set_cons_succ]
      refine WL.callP (by kernel_rfl) 37 _ _ rfl Try.in37 #[.int .i64 1, .int .i64 (a : Int)] (by simp [Act.eval]) ?_
      refine (at_any 1 a w1).mono ?_
      rintro e wz ⟨rfl, hbz, hwz⟩
      refine .inr ⟨_, rfl, ?_⟩
      try simp only [Exit.inBlock, Exit.then]
      refine ⟨rfl, ?_⟩
      exact .inr ⟨by rw [HR3.out hE h3_1]; exact (by decide : (1 : Int) ≠ 0), w1.heap.size, H2.out.size, rfl, by rw [HR3.out hE h3_1]; exact hbz, H2.out.trans (Grown.below hwz)⟩
    · skip
      refine WL.val (by kernel_rfl) (.bool false) (by go_simp) ?_
      simp only [Act.put, List.setIfInBounds_toArray, List.set_cons_zero, List.set_cons_succ]
      refine WL.nil ?_
      refine hK5 _ _ ?_
      refine wp_cond_false rfl ?_
      refine wp_skip ?_
      refine hK4 _ _ ?_
      refine wp_seq_k fun K6 hK6 => ?_
      refine wp_region_list (WL.out ?_)
      refine WL.bs (by kernel_rfl) 22 0 _ rfl #[] (by simp) _ _ (bsRE w1) ?_
      have HO2 : Keep (RowsOwn w.heap.size (w1.alloc (.cells #[] 30)) (.slice (some ⟨w1.heap.size, 0, none⟩) 0 0) []) := ⟨[], ownR_empty w1, fun k hk => by simp [Value.ownBlock] at hk; have := H2.out.size; omega, rfl, fun i hi => by simp at hi⟩
      have B2 : Keep (Below w1.heap.size w1 (w1.alloc (.cells #[] 30))) := ⟨below_new w1 _⟩
      have HI2 : Keep (InAt (w1.alloc (.cells #[] 30)) p s (a + N) none) := ⟨HI1.out.box _⟩
      have HG2 : Keep (Grown w (w1.alloc (.cells #[] 30)) fun k => k = p) := ⟨H2.out.trans (Grown.below B2.out)⟩
      generalize w1.alloc (.cells #[] 30) = w2 at *
      generalize w1.heap.size = g1 at *
      obtain ⟨n, hn⟩ : ∃ n : Nat, c = (n : Int) := ⟨c.toNat, by have := Hcr.out; omega⟩
      subst hn
      have hn256 : n ≤ 256 := by have := Hcr.out; omega
      have HK0 := Keep.mk (HR2.out hE h3_1)
      rw [Int.toNat_natCast] at HK0
      simp only [Act.put, List.setIfInBounds_toArray, List.set_cons_zero, List.set_cons_succ]
      refine WL.val (by kernel_rfl) (.slice (some ⟨g1, 0, none⟩) 0 0) (by go_simp) ?_
      simp only [Act.put, List.setIfInBounds_toArray, List.set_cons_zero, List.set_cons_succ]
      refine WL.nil ?_
      refine hK6 _ _ ?_
      refine wp_seq_k fun K7 hK7 => ?_
      refine wp_seq_k fun K8 hK8 => ?_
      refine wp_region_list (WL.out ?_)
      refine WL.val (by kernel_rfl) (.int .u64 (n : Int)) (by go_simp) ?_
      simp only [Act.put, List.setIfInBounds_toArray, List.set_cons_zero, List.set_cons_succ]
      refine WL.val (by kernel_rfl) (.int .u64 0) (by go_simp) ?_
      simp only [Act.put, List.setIfInBounds_toArray, List.set_cons_zero, List.set_cons_succ]
      refine WL.nil ?_
      refine hK8 _ _ ?_
      refine wp_block ?_
      refine wp_loop (fun ac wr => ∃ (t : Nat) (u5 u20 u21 u22 u23 u24 u25 u26 : Value), ac = { tmps := #[.pointer (some ⟨p, 0, none⟩), undef, .slice none 0 0, .int .i64 (a : Int), .int .u64 (n : Int), u5, .pointer (some ⟨p, 0, none⟩), .int .i64 (a : Int), .pointer (some ⟨p, 0, none⟩), .tuple #[.int .u64 (n : Int), .nilIface], .int .u64 (n : Int), .nilIface, .int .u64 (n : Int), .int .u64 (n : Int), .bool false, undef, undef, .slice (some ⟨g1, 0, none⟩) 0 0, .int .u64 (n : Int), .int .u64 (t : Int), u20, u21, u22, u23, u24, u25, u26, undef], defers := [] } ∧ t ≤ n ∧ ∃ l at_, bkG (lst s) n [] (a + N) = bkG (lst s) (n - t) l at_ ∧ InAt wr p s at_ none ∧ RowsOwn w.heap.size wr u5 l ∧ (Grown w wr fun k => k = p) ∧ l.length = t) (fun a _ => n - (intOf (a.tmps.getD 19 undef)).toNat) ⟨0, .slice (some ⟨g1, 0, none⟩) 0 0, undef, undef, undef, undef, undef, undef, undef, rfl, by omega, [], a + N, rfl, HI2.out, HO2.out, HG2.out, rfl⟩ ?_
      rintro ac wr ⟨t, u5, u20, u21, u22, u23, u24, u25, u26, rfl, ht, l, at_, hC, hI, hO, hG, hLn⟩
      by_cases hlt : t < n
      · have hlt' : (t : Int) < (n : Int) := by omega
        have hwt : IntKind.u64.wrap ((t : Int) + 1) = (t : Int) + 1 := by rw [IntKind.wrap_u64]; omega
        obtain ⟨k1, hk1⟩ : ∃ k1, n - t = k1 + 1 := ⟨n - t - 1, by omega⟩
        rw [hk1, bkG] at hC
        have hk2 : k1 = n - (t + 1) := by omega
        rw [hk2] at hC
        obtain ⟨la, lc, rfl⟩ := hO.form
        have HGB := Keep.mk (getBlock_any p s at_ wr hI Hb.out)
        obtain ⟨B1, hB1⟩ : ∃ B1, B1 = bk1 (lst s) at_ := ⟨_, rfl⟩
        rw [← hB1] at HGB hC
        have JC := Keep.mk hC
        have JI := Keep.mk hI
        have JO := Keep.mk hO
        have JG := Keep.mk hG
        have JLn := Keep.mk hLn
        clear hC hI hO hG hk1 hk2 hB1
        refine wp_seq_k fun K9 hK9 => ?_
        refine wp_region_list (WL.out ?_)
        refine WL.val (by kernel_rfl) (.bool true) (by go_simp) ?_
        simp only [Act.put, List.setIfInBounds_toArray, List.set_cons_zero, List.set_cons_succ]
        refine WL.nil ?_
        refine hK9 _ _ ?_
        refine wp_seq_k fun K10 hK10 => ?_
        refine wp_cond_true rfl ?_
        refine wp_skip ?_
        refine hK10 _ _ ?_
        refine wp_seq_k fun K11 hK11 => ?_
        refine wp_block ?_
        refine wp_region_list (WL.out ?_)
        refine WL.val (by kernel_rfl) (.slice la l.length lc) (by go_simp) ?_
        simp only [Act.put, List.setIfInBounds_toArray, List.set_cons_zero, List.set_cons_succ]
        refine WL.val (by kernel_rfl) (.pointer (some ⟨p, 0, none⟩)) (by go_simp) ?_
        simp only [Act.put, List.setIfInBounds_toArray, List.set_cons_zero, List.set_cons_succ]
        refine WL.callP (by kernel_rfl) 77 _ _ rfl Try.in77 #[ptr p] (by simp [Act.eval]) ?_
        refine HGB.out.mono ?_
        rintro e w3 (⟨e1, vx, rfl, ⟨hx, hk⟩, h2, h3⟩ | hgv)
        rotate_left
        · have hne := hgv.1
          obtain ⟨q, hq, rfl, hbad, hgr⟩ := hgv.2
          refine .inr ⟨_, rfl, ?_⟩
          try simp only [Exit.inBlock, Exit.then]
          refine ⟨rfl, ?_⟩
          have hRR : R = (B1.1, B1.2.1, []) := by rw [HK0.out, JC.out, if_pos hne]
          refine .inr (Gives.of JG.out ⟨by rw [hRR]; exact hne, q, hq, rfl, by rw [hRR]; exact hbad, hgr⟩)
        refine .inl ⟨_, rfl, ?_⟩
        simp only at e1
        have JC3 := Keep.mk (JC.out.trans (if_neg (by simp [e1])))
        have HO3 := Keep.mk (JO.out.grown h3 (fun k hk => by rintro rfl; rcases hk with hk | hk; exact absurd (JI.out.blk.typ.one hk) (by decide); exact absurd (JI.out.blk.typ.one hk) (by decide)))
        obtain ⟨xa, xc, rfl⟩ := row_form hx.row
        have HX3 := Keep.mk hx
        have Hk3 : Keep (∃ k, (Value.slice xa B1.2.2.length xc).ownBlock = some k ∧ w.heap.size ≤ k) := ⟨by obtain ⟨k, h4, h5⟩ := hk; exact ⟨k, h4, Nat.le_trans JG.out.size h5⟩⟩
        have HI3 := Keep.mk h2
        have HG3 : Keep (Grown w w3 fun k => k = p) := ⟨JG.out.trans h3⟩
        clear hx hk h2 h3 e1 JC
        simp only [Act.put, List.setIfInBounds_toArray, List.set_cons_zero, List.set_cons_succ]
        refine WL.bs (by kernel_rfl) 22 1 _ rfl #[(0, .slice xa B1.2.2.length xc)] (by simp [Act.eval]) _ _ (bsR xa B1.2.2.length xc w3) ?_
        have HB4 := Keep.mk (Blk.new w3 30 #[.slice xa B1.2.2.length xc])
        have B4 := Keep.mk (below_new w3 (.cells #[.slice xa B1.2.2.length xc] 30))
        have HO4 := Keep.mk (HO3.out.below B4.out)
        have HX4 := Keep.mk (HX3.out.box (.cells #[.slice xa B1.2.2.length xc] 30))
        have HI4 := Keep.mk (HI3.out.box (.cells #[.slice xa B1.2.2.length xc] 30))
        have HG4 : Keep (Grown w (w3.alloc (.cells #[.slice xa B1.2.2.length xc] 30)) fun k => k = p) := ⟨HG3.out.trans (Grown.below B4.out)⟩
        generalize w3.alloc (.cells #[.slice xa B1.2.2.length xc] 30) = w4 at *
        generalize w3.heap.size = g3 at *
        obtain ⟨vs, o1, o2, o3, o4⟩ := HO4.out
        have O1 := Keep.mk o1
        have O2 := Keep.mk o2
        have O3 := Keep.mk o3
        have O4 := Keep.mk o4
        clear o1 o2 o3 o4
        simp only [Act.put, List.setIfInBounds_toArray, List.set_cons_zero, List.set_cons_succ]
        refine WL.appR (by kernel_rfl) (.tmp 21) (.tmp 24) rfl (.slice la l.length lc) vs g3 (.slice xa B1.2.2.length xc) rfl rfl rfl O1.out HB4.out (by have := O3.out; have := JLn.out; omega) ?_
        intro v5 w5 h1 h2 h3
        have HO5 : Keep (RowsOwn w.heap.size w5 v5 (l ++ [B1.2.2])) := ⟨RowsOwn.push h1 (fun k hk => by
          rcases h3 with e | ⟨j, e, hj⟩
          · rw [e] at hk; exact O2.out k hk
          · rw [e] at hk; injection hk with hk; have := HG4.out.size; omega) O3.out (fun i hi => ⟨(O4.out i hi).1.grown h2 (fun k hk e => own_typ O1.out e ((O4.out i hi).1.typ hk)), (O4.out i hi).2⟩) (HX4.out.grown h2 (fun k hk e => own_typ O1.out e (HX4.out.typ hk))) Hk3.out⟩
        have HG5 : Keep (Grown w w5 fun k => k = p) := ⟨HG4.out.next h2 (fun k hk e => absurd (O2.out k e) (by omega))⟩
        have HI5 : Keep (InAt w5 p s B1.2.1 none) := ⟨h2.blk HI4.out.blk (fun e => O1.out.ne HI4.out.blk (by decide) e), HI4.out.le⟩
        clear h1 h2 h3
        simp only [Act.put, List.setIfInBounds_toArray, List.set_cons_zero, List.set_cons_succ]
        refine WL.val (by kernel_rfl) (v5) (by go_simp) ?_
        simp only [Act.put, List.setIfInBounds_toArray, List.set_cons_zero, List.set_cons_succ]
        refine WL.nil ?_
        refine hK11 _ _ ?_
        refine wp_region_list (WL.out ?_)
        refine WL.val (by kernel_rfl) (.int .u64 ((t : Int) + 1)) (by go_simp) ?_
        simp only [Act.put, List.setIfInBounds_toArray, List.set_cons_zero, List.set_cons_succ]
        refine WL.val (by kernel_rfl) (.int .u64 ((t : Int) + 1)) (by go_simp) ?_
        simp only [Act.put, List.setIfInBounds_toArray, List.set_cons_zero, List.set_cons_succ]
        refine WL.nil ?_
        refine ⟨⟨t + 1, v5, .bool true, .slice la l.length lc, .pointer (some ⟨p, 0, none⟩), .slice xa B1.2.2.length xc, .slice (some ⟨g3, 0, none⟩) 1 1, v5, .int .u64 ((t : Int) + 1), rfl, by omega, l ++ [B1.2.2], B1.2.1, JC3.out, HI5.out, HO5.out, HG5.out, by rw [List.length_append]; simp [JLn.out]⟩, by simp [intOf]; omega⟩
      · have hte : Keep (t = n) := ⟨by omega⟩
        have htl' : ¬ (t : Int) < (n : Int) := by omega
        refine wp_seq_k fun K12 hK12 => ?_
        refine wp_region_list (WL.out ?_)
        refine WL.val (by kernel_rfl) (.bool false) (by go_simp) ?_
        simp only [Act.put, List.setIfInBounds_toArray, List.set_cons_zero, List.set_cons_succ]
        refine WL.nil ?_
        refine hK12 _ _ ?_
        refine wp_seq_k fun K13 hK13 => ?_
        refine wp_cond_false rfl ?_
        refine wp_exit ?_
        refine hK7 _ _ ?_
        refine wp_seq_k fun K14 hK14 => ?_
        refine wp_region_list (WL.out ?_)
        refine WL.val (by kernel_rfl) (u5) (by go_simp) ?_
        simp only [Act.put, List.setIfInBounds_toArray, List.set_cons_zero, List.set_cons_succ]
        refine WL.val (by kernel_rfl) (u5) (by go_simp) ?_
        simp only [Act.put, List.setIfInBounds_toArray, List.set_cons_zero, List.set_cons_succ]
        refine WL.nil ?_
        refine hK14 _ _ ?_
        refine wp_ret ?_
        go_ret
        rw [hte.out, Nat.sub_self, bkG] at hC
        rw [HK0.out, hC]
        exact .inl ⟨rfl, u5, rfl, hO, hI, hG⟩
  · rcases H3.out with ⟨e1, _, _⟩ | ⟨_, q, hq, rfl, rfl, hbad⟩
    · exact absurd e1 hE
    have Hbad := Keep.mk hbad
    clear hbad
    unfold err
    refine WL.val (by kernel_rfl) (.int .u64 c) (by go_simp) ?_
    simp only [Act.put, List.setIfInBounds_toArray, List.set_cons_zero, List.set_cons_succ]
    refine WL.val (by kernel_rfl) (.iface 84 (ptr q)) (by go_simp) ?_
    simp only [Act.put, List.setIfInBounds_toArray, List.set_cons_zero, List.set_cons_succ]
    refine WL.callP (by kernel_rfl) 69 _ _ rfl Try.in69 #[.int .u64 c, err q] (by simp [Act.eval, err]) ?_
    refine (must69_bad _ q w1).mono ?_
    rintro e w' ⟨rfl, rfl⟩
    refine .inr ⟨_, rfl, ?_⟩
    try simp only [Exit.inBlock, Exit.then]
    refine ⟨rfl, ?_⟩
    exact .inr ⟨by rw [HR1.out hE]; exact hE, q, hq, rfl, by rw [HR1.out hE]; exact Hbad.out, H2.out⟩
end Go.Proofs.Ytkcdoamohiaiaaa
