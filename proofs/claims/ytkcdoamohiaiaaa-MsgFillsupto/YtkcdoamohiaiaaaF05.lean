import Derived.Test.YtkcdoamohiaiaaaF04
import Derived.Lib.Bytealg
import Derived.Maps.Own
namespace Go.Proofs.Ytkcdoamohiaiaaa
open Go.RowKit
set_option linter.unusedSimpArgs false
set_option linter.unusedVariables false

def wr (q : Nat) : PanicEntry := { v := .iface 75 (.agg #[err q]), recovered := false }
theorem Try.in39 (w : World) (vs : Array Value) : (callFunc 39 vs).run Try.prog w = .ok (.enter 39 vs) w := by kernel_rfl
theorem Try.in37 (w : World) (vs : Array Value) : (callFunc 37 vs).run Try.prog w = .ok (.enter 37 vs) w := by kernel_rfl
theorem Try.in35 (w : World) (vs : Array Value) : (callFunc 35 vs).run Try.prog w = .ok (.enter 35 vs) w := by kernel_rfl
theorem Try.in69 (w : World) (vs : Array Value) : (callFunc 69 vs).run Try.prog w = .ok (.enter 69 vs) w := by kernel_rfl
theorem Try.in73 (w : World) (vs : Array Value) : (callFunc 73 vs).run Try.prog w = .ok (.enter 73 vs) w := by kernel_rfl
theorem Try.in71 (w : World) (vs : Array Value) : (callFunc 71 vs).run Try.prog w = .ok (.enter 71 vs) w := by kernel_rfl
theorem Try.in31 (w : World) (vs : Array Value) : (callFunc 31 vs).run Try.prog w = .ok (.enter 31 vs) w := by kernel_rfl
theorem Try.in63 (w : World) (vs : Array Value) : (callFunc 63 vs).run Try.prog w = .ok (.enter 63 vs) w := by kernel_rfl
theorem Try.in34 (w : World) (vs : Array Value) : (callFunc 34 vs).run Try.prog w = .ok (.enter 34 vs) w := by kernel_rfl
theorem Try.in36 (w : World) (vs : Array Value) : (callFunc 36 vs).run Try.prog w = .ok (.enter 36 vs) w := by kernel_rfl
theorem Try.in70 (w : World) (vs : Array Value) : (callFunc 70 vs).run Try.prog w = .ok (.enter 70 vs) w := by kernel_rfl
theorem Try.in72 (w : World) (vs : Array Value) : (callFunc 72 vs).run Try.prog w = .ok (.enter 72 vs) w := by kernel_rfl
theorem Try.in74 (w : World) (vs : Array Value) : (callFunc 74 vs).run Try.prog w = .ok (.enter 74 vs) w := by kernel_rfl
theorem Try.in76 (w : World) (vs : Array Value) : (callFunc 76 vs).run Try.prog w = .ok (.enter 76 vs) w := by kernel_rfl
theorem Try.in38 (w : World) (vs : Array Value) : (callFunc 38 vs).run Try.prog w = .ok (.enter 38 vs) w := by kernel_rfl
theorem Try.in16 (w : World) (vs : Array Value) : (callFunc 16 vs).run Try.prog w = .ok (.enter 16 vs) w := by kernel_rfl
theorem Try.in15 (w : World) (vs : Array Value) : (callFunc 15 vs).run Try.prog w = .ok (.enter 15 vs) w := by kernel_rfl
theorem wr_built (q : Nat) : Try.prog.built 75 [(0, .iface 84 (ptr q))] = some #[.iface 84 (ptr q)] := by kernel_rfl
theorem bad_built (why : Int) (a : Nat) : Try.prog.built 100 [(0, .int .i64 why), (1, .int .i64 (a : Int))] = some #[.int .i64 why, .int .i64 (a : Int)] := by kernel_rfl
theorem with_any (q : Nat) (w : World) : Calls Try.prog 39 #[err q] w fun e w' => e = .panicked [wr q] ∧ w' = w := by
  unfold wr err
  go_enter Try.func39, Try.ntmps39
  refine wp_region_list (WL.out ?_)
  refine WL.val (by kernel_rfl) (.iface 84 (ptr q)) (by go_simp) ?_
  simp only [Act.put, List.setIfInBounds_toArray, List.set_cons_zero, List.set_cons_succ]
  refine WL.bld (by kernel_rfl) 75 _ rfl [(0, .iface 84 (ptr q))] (by simp [Act.eval]) _ (wr_built _) ?_
  simp only [Act.put, List.setIfInBounds_toArray, List.set_cons_zero, List.set_cons_succ]
  refine WL.val (by kernel_rfl) (.iface 75 (.agg #[.iface 84 (ptr q)])) (by go_simp) ?_
  simp only [Act.put, List.setIfInBounds_toArray, List.set_cons_zero, List.set_cons_succ]
  refine WL.panic (by kernel_rfl) (.tmp 4) rfl 75 _ rfl ?_
  exact ⟨rfl, rfl, rfl⟩
theorem at_any (why : Int) (a : Nat) (w : World) : Calls Try.prog 37 #[.int .i64 why, .int .i64 (a : Int)] w fun e w' => e = .panicked [wr w.heap.size] ∧ BadAt w' w.heap.size why a ∧ Below w.heap.size w w' := by
  go_enter Try.func37, Try.ntmps37
  refine wp_region_list (WL.out ?_)
  refine WL.val (by kernel_rfl) (.int .i64 why) (by go_simp) ?_
  simp only [Act.put, List.setIfInBounds_toArray, List.set_cons_zero, List.set_cons_succ]
  refine WL.val (by kernel_rfl) (.int .i64 (a : Int)) (by go_simp) ?_
  simp only [Act.put, List.setIfInBounds_toArray, List.set_cons_zero, List.set_cons_succ]
  refine WL.bld (by kernel_rfl) 100 _ rfl [(0, .int .i64 why), (1, .int .i64 (a : Int))] (by simp [Act.eval]) _ (bad_built why a) ?_
  simp only [Act.put, List.setIfInBounds_toArray, List.set_cons_zero, List.set_cons_succ]
  refine WL.box (by kernel_rfl) 100 (.tmp 6) rfl _ rfl ?_
  have HBd : Keep (BadAt (w.alloc (.cells #[.int .i64 why, .int .i64 (a : Int)] 100)) w.heap.size why a) := ⟨Blk.new w 100 _⟩
  have HB : Keep (Below w.heap.size w (w.alloc (.cells #[.int .i64 why, .int .i64 (a : Int)] 100))) := ⟨below_new w _⟩
  generalize w.alloc (.cells #[.int .i64 why, .int .i64 (a : Int)] 100) = w1 at *
  simp only [Act.put, List.setIfInBounds_toArray, List.set_cons_zero, List.set_cons_succ]
  refine WL.val (by kernel_rfl) (.iface 84 (.pointer (some ⟨w.heap.size, 0, none⟩))) (by go_simp) ?_
  simp only [Act.put, List.setIfInBounds_toArray, List.set_cons_zero, List.set_cons_succ]
  refine WL.callP (by kernel_rfl) 39 _ _ rfl Try.in39 #[err w.heap.size] (by simp [Act.eval, err, ptr]) ?_
  refine (with_any w.heap.size w1).mono ?_
  rintro e w' ⟨rfl, rfl⟩
  refine .inr ⟨_, rfl, ?_⟩
  exact ⟨rfl, rfl, HBd.out, HB.out⟩
theorem must69_ok (x : Value) (w : World) : Calls Try.prog 69 #[x, .nilIface] w fun e w' => e = .returned x ∧ w' = w := by
  go_enter Try.func69, Try.ntmps69
  go_wp2
  go_ret
  exact ⟨rfl, rfl⟩
theorem must69_bad (x : Value) (q : Nat) (w : World) : Calls Try.prog 69 #[x, err q] w fun e w' => e = .panicked [wr q] ∧ w' = w := by
  have HG := Keep.mk (with_any q w)
  unfold err at HG ⊢
  go_enter Try.func69, Try.ntmps69
  go_wp2_with fail
  refine HG.out.mono ?_
  rintro e w' ⟨rfl, rfl⟩
  exact ⟨rfl, rfl, rfl⟩
theorem must73_ok (x : Value) (w : World) : Calls Try.prog 73 #[x, .nilIface] w fun e w' => e = .returned x ∧ w' = w := by
  go_enter Try.func73, Try.ntmps73
  go_wp2
  go_ret
  exact ⟨rfl, rfl⟩
theorem must73_bad (x : Value) (q : Nat) (w : World) : Calls Try.prog 73 #[x, err q] w fun e w' => e = .panicked [wr q] ∧ w' = w := by
  have HG := Keep.mk (with_any q w)
  unfold err at HG ⊢
  go_enter Try.func73, Try.ntmps73
  go_wp2_with fail
  refine HG.out.mono ?_
  rintro e w' ⟨rfl, rfl⟩
  exact ⟨rfl, rfl, rfl⟩
theorem must35_ok (x : Value) (w : World) : Calls Try.prog 35 #[x, .nilIface] w fun e w' => e = .returned x ∧ w' = w := by
  go_enter Try.func35, Try.ntmps35
  go_wp2
  go_ret
  exact ⟨rfl, rfl⟩
theorem must35_bad (x : Value) (q : Nat) (w : World) : Calls Try.prog 35 #[x, err q] w fun e w' => e = .panicked [wr q] ∧ w' = w := by
  have HG := Keep.mk (with_any q w)
  unfold err at HG ⊢
  go_enter Try.func35, Try.ntmps35
  go_wp2_with fail
  refine HG.out.mono ?_
  rintro e w' ⟨rfl, rfl⟩
  exact ⟨rfl, rfl, rfl⟩
theorem mustH_ok (c : Nat → Int) (w : World) : Calls Try.prog 71 #[.agg (bytesA 32 c), .nilIface] w fun e w' => e = .returned (.agg (bytesA 32 c)) ∧ Below w.heap.size w w' := by
  go_enter Try.func71, Try.ntmps71
  refine wp_seq_k fun K1 hK1 => ?_
  refine wp_region_list (WL.out ?_)
  refine WL.box (by kernel_rfl) 70 (.tmp 0) rfl _ rfl ?_
  have HX1 := Keep.mk (Blk.new w 70 (bytesA 32 c))
  have B1 := Keep.mk (below_new w (.cells (bytesA 32 c) 70))
  generalize w.alloc (.cells (bytesA 32 c) 70) = w1 at *
  simp only [Act.put, List.setIfInBounds_toArray, List.set_cons_zero, List.set_cons_succ]
  refine WL.new (by kernel_rfl) 70 rfl _ Try.new70 ?_
  have HX2 := Keep.mk (HX1.out.alloc (.cells (bytesA 32 fun _ => 0) 70))
  have HY2 := Keep.mk (Blk.new w1 70 (bytesA 32 fun _ => 0))
  have B2 : Keep (Below w.heap.size w (w1.alloc (.cells (bytesA 32 fun _ => 0) 70))) := ⟨B1.out.trans ((below_new w1 _).mono B1.out.size)⟩
  have hs : Keep (w.heap.size < w1.heap.size) := ⟨HX1.out.lt⟩
  have hne : Keep (w.heap.size ≠ w1.heap.size) := ⟨by have := hs.out; omega⟩
  generalize w1.alloc (.cells (bytesA 32 fun _ => 0) 70) = w2 at *
  simp only [Act.put, List.setIfInBounds_toArray, List.set_cons_zero, List.set_cons_succ]
  refine WL.nil ?_
  refine hK1 _ _ ?_
  refine wp_seq_k fun K2 hK2 => ?_
  refine wp_seq_k fun K3 hK3 => ?_
  refine wp_region_list (WL.out ?_)
  refine WL.val (by kernel_rfl) (.nilIface) (by go_simp) ?_
  simp only [Act.put, List.setIfInBounds_toArray, List.set_cons_zero, List.set_cons_succ]
  refine WL.val (by kernel_rfl) (.bool false) (by go_simp) ?_
  simp only [Act.put, List.setIfInBounds_toArray, List.set_cons_zero, List.set_cons_succ]
  refine WL.nil ?_
  refine hK3 _ _ ?_
  refine wp_cond_false rfl ?_
  refine wp_skip ?_
  refine hK2 _ _ ?_
  refine wp_seq_k fun K4 hK4 => ?_
  refine wp_region_list (WL.out ?_)
  refine WL.row (by kernel_rfl) 70 (.tmp 2) rfl w.heap.size rfl 70 (bytesA 32 c) _ HX2.out Try.underlying70 rfl (Try.size70B _) ?_
  simp only [Act.put, List.setIfInBounds_toArray, List.set_cons_zero, List.set_cons_succ]
  refine WL.storeR (by kernel_rfl) 70 (.tmp 4) (.tmp 9) rfl w1.heap.size (bytesA 32 c) rfl rfl 70 (bytesA 32 fun _ => 0) HY2.out (Try.size70B _) (bytesA_sizes _ _ _) (bytesA_one _ _) ?_
  have HY3 := Keep.mk (HY2.out.setRow (bytesA 32 c))
  have B3 : Keep (Below w.heap.size w (w2.setRow w1.heap.size (bytesA 32 c))) := ⟨below_setRow B2.out (by have := hs.out; omega) _⟩
  generalize w2.setRow w1.heap.size (bytesA 32 c) = w3 at *
  simp only [Act.put]
  refine WL.nil ?_
  refine hK4 _ _ ?_
  refine wp_ret ?_
  refine bodyPost_ret (v := .agg (bytesA 32 c)) (results_cell1_row Try.results71 _ _ w1.heap.size 70 _ (0, 0) _ rfl HY3.out Try.underlying70 rfl (Try.size70B _)) rfl ?_
  exact ⟨rfl, B3.out⟩
theorem mustH_bad (c : Nat → Int) (q : Nat) (w : World) : Calls Try.prog 71 #[.agg (bytesA 32 c), err q] w fun e w' => e = .panicked [wr q] ∧ Below w.heap.size w w' := by
  unfold err
  go_enter Try.func71, Try.ntmps71
  refine wp_seq_k fun K1 hK1 => ?_
  refine wp_region_list (WL.out ?_)
  refine WL.box (by kernel_rfl) 70 (.tmp 0) rfl _ rfl ?_
  have HX1 := Keep.mk (Blk.new w 70 (bytesA 32 c))
  have B1 := Keep.mk (below_new w (.cells (bytesA 32 c) 70))
  generalize w.alloc (.cells (bytesA 32 c) 70) = w1 at *
  simp only [Act.put, List.setIfInBounds_toArray, List.set_cons_zero, List.set_cons_succ]
  refine WL.new (by kernel_rfl) 70 rfl _ Try.new70 ?_
  have HX2 := Keep.mk (HX1.out.alloc (.cells (bytesA 32 fun _ => 0) 70))
  have HY2 := Keep.mk (Blk.new w1 70 (bytesA 32 fun _ => 0))
  have B2 : Keep (Below w.heap.size w (w1.alloc (.cells (bytesA 32 fun _ => 0) 70))) := ⟨B1.out.trans ((below_new w1 _).mono B1.out.size)⟩
  have hs : Keep (w.heap.size < w1.heap.size) := ⟨HX1.out.lt⟩
  have hne : Keep (w.heap.size ≠ w1.heap.size) := ⟨by have := hs.out; omega⟩
  generalize w1.alloc (.cells (bytesA 32 fun _ => 0) 70) = w2 at *
  simp only [Act.put, List.setIfInBounds_toArray, List.set_cons_zero, List.set_cons_succ]
  refine WL.nil ?_
  refine hK1 _ _ ?_
  refine wp_seq_k fun K2 hK2 => ?_
  refine wp_seq_k fun K3 hK3 => ?_
  refine wp_region_list (WL.out ?_)
  refine WL.val (by kernel_rfl) (.iface 84 (ptr q)) (by go_simp) ?_
  simp only [Act.put, List.setIfInBounds_toArray, List.set_cons_zero, List.set_cons_succ]
  refine WL.val (by kernel_rfl) (.bool true) (by go_simp) ?_
  simp only [Act.put, List.setIfInBounds_toArray, List.set_cons_zero, List.set_cons_succ]
  refine WL.nil ?_
  refine hK3 _ _ ?_
  refine wp_cond_true rfl ?_
  refine wp_region_list (WL.out ?_)
  refine WL.val (by kernel_rfl) (.iface 84 (ptr q)) (by go_simp) ?_
  simp only [Act.put, List.setIfInBounds_toArray, List.set_cons_zero, List.set_cons_succ]
  refine WL.callP (by kernel_rfl) 39 _ _ rfl Try.in39 #[err q] (by simp [Act.eval, err]) ?_
  refine (with_any q w2).mono ?_
  rintro e w' ⟨rfl, rfl⟩
  refine .inr ⟨_, rfl, ?_⟩
  try simp only [Exit.inBlock, Exit.then]
  refine ⟨rfl, ?_⟩
  exact ⟨rfl, B2.out⟩
def u8s (l : List Int) : List UInt8 := l.map fun c => c.toNat.toUInt8
theorem push_list (b : ByteArray) (x : UInt8) : (b.push x).data.toList = b.data.toList ++ [x] := by
  cases b; simp [ByteArray.push]
theorem run_load_u8 {P : Program} (w : World) (b o : Nat) (c : Int) (h : w.cell? ⟨b, o, none⟩ = some (.int .u8 c)) : (load ⟨b, o, none⟩).run P w = .ok (.int .u8 c) w := by
  have h1 := h
  go_simp
theorem run_loadBytes {P : Program} (w : World) (b : Nat) : ∀ (cs : List Int) (o : Nat) (acc : ByteArray), (∀ i c, cs[i]? = some c → w.cell? ⟨b, o + i, none⟩ = some (.int .u8 c)) →
    ∃ r : ByteArray, (Extern.Bytes.loadBytes ⟨b, o, none⟩ cs.length acc).run P w = .ok r w ∧ r.data.toList = acc.data.toList ++ u8s cs
  | [], o, acc, _ => ⟨acc, rfl, by simp [u8s]⟩
  | c :: cs, o, acc, h => by
    obtain ⟨r, h1, h2⟩ := run_loadBytes w b cs (o + 1) (acc.push c.toNat.toUInt8) (fun i d hd => by
      have := h (i + 1) d (by simpa using hd)
      rwa [show o + (i + 1) = o + 1 + i by omega] at this)
    refine ⟨r, ?_, by rw [h2, push_list]; simp [u8s]⟩
    have h0 := h 0 c rfl
    rw [Nat.add_zero] at h0
    simp only [List.length_cons, Extern.Bytes.loadBytes, Sem.run_bind, run_load_u8 w b o c h0, Result.andThen_ok]
    exact h1
theorem u8_lt {a b : Int} (ha : 0 ≤ a ∧ a < 256) (hb : 0 ≤ b ∧ b < 256) : (a.toNat.toUInt8 < b.toNat.toUInt8) ↔ a < b := by
  rw [UInt8.lt_iff_toNat_lt, Nat.toUInt8_eq, Nat.toUInt8_eq, UInt8.toNat_ofNat', UInt8.toNat_ofNat']
  omega
theorem cmp_cf (f g : Nat → Int) (hf : ∀ i, 0 ≤ f i ∧ f i < 256) (hg : ∀ i, 0 ≤ g i ∧ g i < 256) : ∀ n i, Lib.compareBytes (u8s ((List.range' i n).map f)) (u8s ((List.range' i n).map g)) = Sh.cmpG f g n i
  | 0, i => rfl
  | n + 1, i => by
    simp only [List.range'_succ, List.map_cons, u8s, Lib.compareBytes, Sh.cmpG]
    have ih := cmp_cf f g hf hg n (i + 1)
    simp only [u8s] at ih
    rw [ih]
    simp only [u8_lt (hf i) (hg i), u8_lt (hg i) (hf i)]
theorem f_all (x : Hs) (i : Nat) : 0 ≤ x.f i ∧ x.f i < 256 := by
  unfold Sh.Hs.f
  have := (x.toArray.getD i 0).toNat_lt
  omega
theorem hB_range (x : Hs) : hB x = (List.range' 0 32).map x.f := by
  rw [← List.range_eq_range']; rfl
theorem hl_get' (f : Nat → Int) (n i : Nat) (hi : i < n) : (hl n f)[i]? = some (f i) := by simp [hl, hi]
theorem hs_get (x : Hs) (i : Nat) (c : Int) (h : (hB x)[i]? = some c) : (bytesA 32 x.f)[i]? = some (.int .u8 c) := by
  have hi : i < 32 := by
    have := (List.getElem?_eq_some_iff.1 h).1
    rwa [hB_len] at this
  rw [bytesA_get _ _ _ hi]
  have : (hB x)[i]? = some (x.f i) := by rw [← hl_get' x.f 32 i hi]; rfl
  rw [this] at h
  cases h; rfl
set_option maxRecDepth 8000 in
theorem cmpS_any (x y : Hs) (g g' : Nat) (w : World) (hx : Blk w g 70 (bytesA 32 x.f)) (hy : Blk w g' 70 (bytesA 32 y.f)) :
    Calls Try.prog 63 #[.slice (some ⟨g, 0, none⟩) 32 32, .slice (some ⟨g', 0, none⟩) 32 32] w fun e w' => e = .returned (.int .i64 (Sh.cf x y)) ∧ w' = w := by
  obtain ⟨r1, h1, h2⟩ := run_loadBytes (P := Try.prog) w g (hB x) 0 .empty (fun i c hc => by rw [hx.cell, Nat.zero_add]; exact hs_get x i c hc)
  obtain ⟨r2, h3, h4⟩ := run_loadBytes (P := Try.prog) w g' (hB y) 0 .empty (fun i c hc => by rw [hy.cell, Nat.zero_add]; exact hs_get y i c hc)
  rw [hB_len] at h1 h3
  have hcm : Extern.BytealgCompare.cmp r1 r2 = Sh.cf x y := by
    rw [Lib.cmp_eq, h2, h4]
    have e1 : hB x = (List.range' 0 32).map x.f := hB_range x
    have e2 : hB y = (List.range' 0 32).map y.f := hB_range y
    rw [e1, e2]
    have := cmp_cf x.f y.f (f_all x) (f_all y) 32 0
    show Lib.compareBytes (ByteArray.empty.data.toList ++ _) (ByteArray.empty.data.toList ++ _) = Sh.cmpG x.f y.f 32 0
    rw [show ByteArray.empty.data.toList = [] from rfl, List.nil_append, List.nil_append]
    exact this
  have hrun : (Extern.BytealgCompare.compare #[.slice (some ⟨g, 0, none⟩) 32 32, .slice (some ⟨g', 0, none⟩) 32 32]).run Try.prog w = .ok (.int .i64 (Sh.cf x y)) w := by
    change Sem.run Try.prog (do pure (goInt (Extern.BytealgCompare.cmp (← Extern.Bytes.bytesOf (.slice (some ⟨g, 0, none⟩) 32 32)) (← Extern.Bytes.bytesOf (.slice (some ⟨g', 0, none⟩) 32 32))))) w = _
    simp only [Extern.Bytes.bytesOf, Sem.run_bind, h1, h3, Result.andThen_ok, Sem.run_pure, hcm]
    rfl
  have HR := Keep.mk hrun
  clear hrun hcm h1 h2 h3 h4 hx hy
  go_enter Try.func63, Try.ntmps63
  go_wp2
  rw [run_callFunc_extern Try.func78 (by kernel_rfl) (by kernel_rfl) (by kernel_rfl) (e := Extern.BytealgCompare.compare) (by kernel_rfl), HR.out]
  simp only [Result.andThen]
  rw [Oper.upon_value]
  go_wp2
  go_ret
  exact ⟨rfl, rfl⟩
set_option maxRecDepth 8000 in
set_option maxHeartbeats 1000000 in
theorem behind_any (x y : Hs) (w : World) : Calls Try.prog 31 #[.agg (bytesA 32 x.f), .agg (bytesA 32 y.f)] w fun e w' => e = .returned (.bool (decide (0 < Sh.cf x y))) ∧ Below w.heap.size w w' := by
  go_enter Try.func31, Try.ntmps31
  refine wp_seq_k fun K1 hK1 => ?_
  refine wp_region_list (WL.out ?_)
  refine WL.box (by kernel_rfl) 70 (.tmp 0) rfl _ rfl ?_
  have HX1 := Keep.mk (Blk.new w 70 (bytesA 32 x.f))
  have B1 := Keep.mk (below_new w (.cells (bytesA 32 x.f) 70))
  generalize w.alloc (.cells (bytesA 32 x.f) 70) = w1 at *
  simp only [Act.put, List.setIfInBounds_toArray, List.set_cons_zero, List.set_cons_succ]
  refine WL.box (by kernel_rfl) 70 (.tmp 1) rfl _ rfl ?_
  have HX2 := Keep.mk (HX1.out.alloc (.cells (bytesA 32 y.f) 70))
  have HY2 := Keep.mk (Blk.new w1 70 (bytesA 32 y.f))
  have B2 : Keep (Below w.heap.size w (w1.alloc (.cells (bytesA 32 y.f) 70))) := ⟨B1.out.trans ((below_new w1 _).mono B1.out.size)⟩
  generalize w1.alloc (.cells (bytesA 32 y.f) 70) = w2 at *
  generalize w1.heap.size = g' at *
  generalize hgz : w.heap.size = g at *
  simp only [Act.put, List.setIfInBounds_toArray, List.set_cons_zero, List.set_cons_succ]
  refine WL.val (by kernel_rfl) (.bool false) (by go_simp) ?_
  simp only [Act.put, List.setIfInBounds_toArray, List.set_cons_zero, List.set_cons_succ]
  refine WL.nil ?_
  refine hK1 _ _ ?_
  refine wp_seq_k fun K2 hK2 => ?_
  refine wp_region_held_drew (S := fun _ => True) (by kernel_rfl) (trivial) (fun hHeld => ?_)
  refine wpAnyH_take (i := 0) (oi := ⟨some 5, Op.slice 70 (Operand.tmp 2) none none none, 30, _, _, none⟩) (v := .slice (some ⟨g, 0, none⟩) 32 32) rfl (by kernel_rfl) (by kernel_rfl) (by kernel_rfl) (fun _ _ _ h => h) (Or.inl ⟨by rfl, fun w hS => by go_simp⟩) hHeld ?_
  simp only [Act.put, List.setIfInBounds_toArray, List.set_cons_zero, List.set_cons_succ]
  refine wpAnyH_take (i := 1) (oi := ⟨some 6, Op.slice 70 (Operand.tmp 3) none none none, 30, _, _, none⟩) (v := .slice (some ⟨g', 0, none⟩) 32 32) rfl (by kernel_rfl) (by kernel_rfl) (by kernel_rfl) (fun _ _ _ h => h) (Or.inl ⟨by rfl, fun w hS => by go_simp⟩) hHeld ?_
  simp only [Act.put, List.setIfInBounds_toArray, List.set_cons_zero, List.set_cons_succ]
  refine wpAnyH_ready (rs := [2]) (by kernel_rfl) (by simp) ?_
  refine AllReadyH.cons (o := ⟨some 7, Op.call { callee := Callee.value (Operand.func 63), args := #[Operand.tmp 5, Operand.tmp 6], argTypes := #[30, 30] }, 3, _, _, none⟩) rfl (fun K hK => ?_) AllReadyH.nil
  rw [if_pos (by rfl)]
  refine wp_callF 63 _ _ rfl Try.in63 #[.slice (some ⟨g, 0, none⟩) 32 32, .slice (some ⟨g', 0, none⟩) 32 32] (by simp [Act.eval]) (fun v w' => v = .int .i64 (Sh.cf x y) ∧ w' = w2.drew) ((cmpS_any x y g g' w2.drew HX2.out HY2.out).mono fun e w' h => ⟨_, h.1, rfl, h.2⟩) ?_
  rintro v w5 ⟨rfl, rfl⟩
  refine hK.out _ _ trivial fun hHeld5 => ?_
  clear hK
  simp only [Act.put, List.setIfInBounds_toArray, List.set_cons_zero, List.set_cons_succ]
  refine wpAnyH_take (i := 3) (oi := ⟨some 8, Op.binOp BinOp.gtr 3 (Operand.tmp 7) (Operand.const (Value.int IntKind.i64 0)) 3, 4, _, _, none⟩) (v := .bool (decide (0 < Sh.cf x y))) rfl (by kernel_rfl) (by kernel_rfl) (by kernel_rfl) (fun _ _ _ h => h) (Or.inl ⟨by rfl, fun w hS => by go_simp⟩) hHeld5 ?_
  simp only [Act.put, List.setIfInBounds_toArray, List.set_cons_zero, List.set_cons_succ]
  refine wpAnyH_take (i := 4) (oi := ⟨some 4, Op.assign (Operand.tmp 8), 4, _, _, none⟩) (v := .bool (decide (0 < Sh.cf x y))) rfl (by kernel_rfl) (by kernel_rfl) (by kernel_rfl) (fun _ _ _ h => h) (Or.inl ⟨by rfl, fun w hS => by go_simp⟩) hHeld5 ?_
  simp only [Act.put, List.setIfInBounds_toArray, List.set_cons_zero, List.set_cons_succ]
  refine wpAnyH_done (by kernel_rfl) ?_ _
  refine hK2 _ _ ?_
  refine wp_ret ?_
  go_ret
  exact ⟨rfl, B2.out.drew⟩
def fnv (n : Nat) : Value := .func (.func n) #[] #[]
def fldA (i : Nat) : Array Value := if i = 0 then #[fnv 40, fnv 41, fnv 43] else if i = 1 then #[fnv 45, fnv 46, fnv 48] else if i = 2 then #[fnv 50, fnv 51, fnv 53] else if i = 3 then #[fnv 55, fnv 56, fnv 57] else #[fnv 58, fnv 59, fnv 61]
theorem fldA_size (i : Nat) : (fldA i).size = 3 := by
  unfold fldA
  repeat' split
  all_goals rfl
theorem fldA_one (i : Nat) : (fldA i).all (·.oneCell') = true := by
  unfold fldA
  repeat' split
  all_goals simp [fnv, Value.oneCell']
def noF : Array Value := #[.nilFunc, .nilFunc, .nilFunc]
theorem Try.size60 : (Try.prog.info? 60).map (·.size) = some 3 := by kernel_rfl
theorem Try.size60B (i : Nat) : (Try.prog.info? 60).map (·.size) = some (fldA i).size := by rw [fldA_size]; exact Try.size60
theorem Try.size60L (i : Nat) : (Try.prog.info? 60).map (·.size) = some (fldA i).toList.length := by rw [Array.length_toList, fldA_size]; exact Try.size60
theorem Try.new60 (w : World) : (Instr.alloc 60 true (.tuple #[])).run Try.prog w = .ok (.pointer (some ⟨w.heap.size, 0, none⟩)) (w.alloc (.cells noF 60)) := by kernel_rfl
theorem noF_sizes (i : Nat) : noF.size = (fldA i).size := by rw [fldA_size]; rfl
theorem Try.newmap (w : World) : (Instr.makeMap 46 none).run Try.prog w = .ok (.map (some w.heap.size)) (w.alloc (.map #[] 0)) := by kernel_rfl
theorem Try.in13 (w : World) (vs : Array Value) : (callFunc 13 vs).run Try.prog w = .ok (.enter 13 vs) w := by kernel_rfl
theorem fld0_any (w : World) : Calls Try.prog 26 #[] w fun e w' => e = .returned (.agg (fldA 0)) ∧ Below w.heap.size w w' := by
  have HB := Keep.mk (Blk.new w 60 noF)
  have HW := Keep.mk (below_new w (.cells noF 60))
  go_enter Try.func26, Try.ntmps26
  go_wp2_with (first | (refine wpList_new rfl 60 rfl _ Try.new60 ?_) | (refine wpList_bld rfl 60 _ rfl (fldA 0) (by kernel_rfl) ?_; refine wpList_store_row rfl 60 (.tmp 0) (.tmp 1) rfl w.heap.size (fldA 0) rfl rfl 60 noF HB.out (Try.size60B 0) rfl (fldA_one 0) ?_))
  refine bodyPost_ret (v := .agg (fldA 0)) (results_cell1_row Try.results26 _ _ w.heap.size 60 _ (0, 0) _ rfl (HB.out.setRow _) Try.underlying60 rfl (Try.size60B 0)) rfl ?_
  exact ⟨rfl, below_setRow HW.out (Nat.le_refl _) _⟩
theorem fld1_any (w : World) : Calls Try.prog 27 #[] w fun e w' => e = .returned (.agg (fldA 1)) ∧ Below w.heap.size w w' := by
  have HB := Keep.mk (Blk.new w 60 noF)
  have HW := Keep.mk (below_new w (.cells noF 60))
  go_enter Try.func27, Try.ntmps27
  go_wp2_with (first | (refine wpList_new rfl 60 rfl _ Try.new60 ?_) | (refine wpList_bld rfl 60 _ rfl (fldA 1) (by kernel_rfl) ?_; refine wpList_store_row rfl 60 (.tmp 0) (.tmp 1) rfl w.heap.size (fldA 1) rfl rfl 60 noF HB.out (Try.size60B 1) rfl (fldA_one 1) ?_))
  refine bodyPost_ret (v := .agg (fldA 1)) (results_cell1_row Try.results27 _ _ w.heap.size 60 _ (0, 0) _ rfl (HB.out.setRow _) Try.underlying60 rfl (Try.size60B 1)) rfl ?_
  exact ⟨rfl, below_setRow HW.out (Nat.le_refl _) _⟩
theorem fld2_any (w : World) : Calls Try.prog 28 #[] w fun e w' => e = .returned (.agg (fldA 2)) ∧ Below w.heap.size w w' := by
  have HB := Keep.mk (Blk.new w 60 noF)
  have HW := Keep.mk (below_new w (.cells noF 60))
  go_enter Try.func28, Try.ntmps28
  go_wp2_with (first | (refine wpList_new rfl 60 rfl _ Try.new60 ?_) | (refine wpList_bld rfl 60 _ rfl (fldA 2) (by kernel_rfl) ?_; refine wpList_store_row rfl 60 (.tmp 0) (.tmp 1) rfl w.heap.size (fldA 2) rfl rfl 60 noF HB.out (Try.size60B 2) rfl (fldA_one 2) ?_))
  refine bodyPost_ret (v := .agg (fldA 2)) (results_cell1_row Try.results28 _ _ w.heap.size 60 _ (0, 0) _ rfl (HB.out.setRow _) Try.underlying60 rfl (Try.size60B 2)) rfl ?_
  exact ⟨rfl, below_setRow HW.out (Nat.le_refl _) _⟩
theorem fld3_any (w : World) : Calls Try.prog 29 #[] w fun e w' => e = .returned (.agg (fldA 3)) ∧ Below w.heap.size w w' := by
  have HB := Keep.mk (Blk.new w 60 noF)
  have HW := Keep.mk (below_new w (.cells noF 60))
  go_enter Try.func29, Try.ntmps29
  go_wp2_with (first | (refine wpList_new rfl 60 rfl _ Try.new60 ?_) | (refine wpList_bld rfl 60 _ rfl (fldA 3) (by kernel_rfl) ?_; refine wpList_store_row rfl 60 (.tmp 0) (.tmp 1) rfl w.heap.size (fldA 3) rfl rfl 60 noF HB.out (Try.size60B 3) rfl (fldA_one 3) ?_))
  refine bodyPost_ret (v := .agg (fldA 3)) (results_cell1_row Try.results29 _ _ w.heap.size 60 _ (0, 0) _ rfl (HB.out.setRow _) Try.underlying60 rfl (Try.size60B 3)) rfl ?_
  exact ⟨rfl, below_setRow HW.out (Nat.le_refl _) _⟩
theorem fld4_any (w : World) : Calls Try.prog 30 #[] w fun e w' => e = .returned (.agg (fldA 4)) ∧ Below w.heap.size w w' := by
  have HB := Keep.mk (Blk.new w 60 noF)
  have HW := Keep.mk (below_new w (.cells noF 60))
  go_enter Try.func30, Try.ntmps30
  go_wp2_with (first | (refine wpList_new rfl 60 rfl _ Try.new60 ?_) | (refine wpList_bld rfl 60 _ rfl (fldA 4) (by kernel_rfl) ?_; refine wpList_store_row rfl 60 (.tmp 0) (.tmp 1) rfl w.heap.size (fldA 4) rfl rfl 60 noF HB.out (Try.size60B 4) rfl (fldA_one 4) ?_))
  refine bodyPost_ret (v := .agg (fldA 4)) (results_cell1_row Try.results30 _ _ w.heap.size 60 _ (0, 0) _ rfl (HB.out.setRow _) Try.underlying60 rfl (Try.size60B 4)) rfl ?_
  exact ⟨rfl, below_setRow HW.out (Nat.le_refl _) _⟩
def MapIs (w : World) (m : Nat) (ps : List (Int × Value)) : Prop :=
  ∃ es clock, w.heap[m]? = some (.map es clock) ∧ es.toList.map (fun e => (e.key, e.val)) = ps.map fun p => (Value.int .i64 p.1, p.2)
theorem MapIs.lt {w : World} {m : Nat} {ps : List (Int × Value)} (h : MapIs w m ps) : m < w.heap.size := by
  obtain ⟨es, clock, h1, _⟩ := h
  exact (Array.getElem?_eq_some_iff.1 h1).1
theorem MapIs.grown {w w' : World} {m : Nat} {ps : List (Int × Value)} {S : Nat → Prop} (h : MapIs w m ps) (hg : Grown w w' S) (hs : ¬ S m) : MapIs w' m ps := by
  have hlt := h.lt
  obtain ⟨es, clock, h1, h2⟩ := h
  exact ⟨es, clock, by rw [hg.block m hlt hs]; exact h1, h2⟩
theorem find_now (k : Int) : ∀ (es : List MapEntry) (ps : List (Int × Value)) (i : Nat), es.map (fun e => (e.key, e.val)) = ps.map (fun p => (Value.int .i64 p.1, p.2)) →
    ∃ r, Instr.findNow (.int .i64) (.int .i64 k) es i = some r ∧ r.map (·.2) = (ps.find? fun p => k == p.1).map (·.2)
  | [], [], i, _ => ⟨none, rfl, rfl⟩
  | [], p :: ps, i, h => by simp at h
  | e :: es, [], i, h => by simp at h
  | e :: es, p :: ps, i, h => by
    simp only [List.map_cons, List.cons.injEq, Prod.mk.injEq] at h
    obtain ⟨⟨h1, h2⟩, h3⟩ := h
    obtain ⟨r, h4, h5⟩ := find_now k es ps (i + 1) h3
    simp only [Instr.findNow, h1, Instr.sameNow, if_true]
    by_cases hk : k = p.1
    · subst hk
      simp only [beq_self_eq_true]
      exact ⟨_, rfl, by simp [h2]⟩
    · have hk' : (k == p.1) = false := by simpa using hk
      simp only [hk', List.find?_cons]
      exact ⟨r, h4, h5⟩
theorem run_findKey (k : Int) (es : List MapEntry) (ps : List (Int × Value)) (h : es.map (fun e => (e.key, e.val)) = ps.map (fun p => (Value.int .i64 p.1, p.2))) (w : World) :
    ∃ r, (Instr.findKey 3 (.int .i64 k) es).run Try.prog w = .ok r w ∧ r.map (·.2) = (ps.find? fun p => k == p.1).map (·.2) := by
  obtain ⟨r, h1, h2⟩ := find_now k es ps 0 h
  refine ⟨r, ?_, h2⟩
  unfold Instr.findKey
  simp only [Sem.run_bind, run_underlying Try.underlying3, Result.andThen_ok, h1, Sem.run_pure]
theorem check_key (b : Bool) (k : Int) (w : World) : (Instr.checkKey b 10000 3 (.int .i64 k)).run Try.prog w = .ok () w := by
  unfold Instr.checkKey
  simp only [Sem.run_bind, run_underlying Try.underlying3, Result.andThen_ok, Sem.run_pure]
theorem run_insert (w : World) (m : Nat) (ps : List (Int × Value)) (k : Int) (v : Value) (h : MapIs w m ps) (hk : ∀ p ∈ ps, p.1 ≠ k) :
    ∃ w', (Instr.mapUpdate 46 (.map (some m)) (.int .i64 k) v).run Try.prog w = .ok () w' ∧ MapIs w' m (ps ++ [(k, v)]) ∧ Grown w w' (fun j => j = m) ∧ w'.heap.size = w.heap.size := by
  have hlt := h.lt
  obtain ⟨es, clock, h1, h2⟩ := h
  obtain ⟨r, h3, h4⟩ := run_findKey k es.toList ps h2 w
  have hn : (ps.find? fun p => k == p.1) = none := by
    rw [List.find?_eq_none]
    intro p hp
    have := hk p hp
    simpa using fun e => this e.symm
  rw [hn] at h4
  obtain rfl : r = none := by cases r <;> simp_all
  refine ⟨ChangeMaps.setBlock w m (.map (es.push ⟨.int .i64 k, v, clock⟩) (clock + 1)), ?_, ⟨_, _, ChangeMaps.heap_setBlock_same h1 _, ?_⟩, ?_, ?_⟩
  · unfold Instr.mapUpdate
    simp only [Sem.run_bind, run_underlying Try.underlying46, Result.andThen_ok, getObj, Sem.run, h1, check_key, h3]
    simp [setObj, Sem.run, h1, ChangeMaps.setBlock]
  · simp [h2]
  · refine ⟨rfl, rfl, rfl, by simp [ChangeMaps.setBlock], fun j hj hne => ?_⟩
    simp only [ChangeMaps.setBlock]
    rw [Array.getElem?_setIfInBounds_ne (fun e => hne e.symm)]
  · simp [ChangeMaps.setBlock]
theorem wpList_ins {ops : Array Oper} {rest : List Oper} {o : Oper} {a : Act} {w : World} {Q : Exit → Act → World → Prop} (hg : o.guard = none) (x y z : Operand) (ho : o.op = .insert 46 x y z)
    (m : Nat) (ps : List (Int × Value)) (k : Int) (v : Value) (hx : a.eval x = .map (some m)) (hy : a.eval y = .int .i64 k) (hz : a.eval z = v) (h : MapIs w m ps) (hk : ∀ p ∈ ps, p.1 ≠ k)
    (hc : ∀ w', MapIs w' m (ps ++ [(k, v)]) → Grown w w' (fun j => j = m) → w'.heap.size = w.heap.size → wpList Try.prog ops Q rest (a.put o.dst undef) w') : wpList Try.prog ops Q (o :: rest) a w := by
  refine wpList_plain hg fun K hK => ?_
  obtain ⟨w', h1, h2, h3, h4⟩ := run_insert w m ps k v h hk
  unfold Oper.wp execOp
  simp only [ho, hx, hy, hz, Sem.run_bind, h1, Result.andThen_ok]
  exact hK _ _ (hc w' h2 h3 h4)
theorem run_look (w : World) (m : Nat) (ps : List (Int × Value)) (k : Int) (h : MapIs w m ps) (ok : Bool) :
    (Instr.lookup 46 (.map (some m)) (.int .i64 k) ok).run Try.prog w = .ok (if ok = true then .tuple #[((ps.find? fun p => k == p.1).map (·.2)).getD (.slice none 0 0), .bool (ps.find? fun p => k == p.1).isSome] else ((ps.find? fun p => k == p.1).map (·.2)).getD (.slice none 0 0)) w := by
  obtain ⟨es, clock, h1, h2⟩ := h
  obtain ⟨r, h3, h4⟩ := run_findKey k es.toList ps h2 w
  have hz : ∀ w : World, (zeroValue 44).run Try.prog w = .ok (.slice none 0 0) w := by intro w; kernel_rfl
  unfold Instr.lookup
  simp only [Sem.run_bind, run_underlying Try.underlying46, Result.andThen_ok, getObj, Sem.run, h1, check_key]
  rw [← h4]
  have h5 : (ps.find? fun p => k == p.1).isSome = r.isSome := by
    have := congrArg Option.isSome h4
    simpa using this.symm
  rw [h5]
  cases r with
  | none => rw [Sem.run_pure, Result.andThen_ok, h3]; simp [hz]
  | some q => rw [Sem.run_pure, Result.andThen_ok, h3]; simp


def hasI (k : Int) : List Nat := if k = 1 then [0, 1, 2, 3] else if k = 2 then [3] else if k = 3 then [4] else []
def flatF (is : List Nat) : Array Value := (is.flatMap fun i => (fldA i).toList).toArray
def FieldsAt (w : World) (v : Value) (is : List Nat) : Prop := (v = .slice none 0 0 ∧ is = []) ∨ ∃ g, v = .slice (some ⟨g, 0, none⟩) is.length is.length ∧ Blk w g 60 (flatF is)
theorem FieldsAt.grown {w w' : World} {v : Value} {is : List Nat} {S : Nat → Prop} (h : FieldsAt w v is) (hg : Grown w w' S) (hs : ∀ g, Blk w g 60 (flatF is) → ¬ S g) : FieldsAt w' v is := by
  rcases h with h | ⟨g, h1, h2⟩
  · exact .inl h
  · exact .inr ⟨g, h1, hg.blk h2 (hs g h2)⟩
theorem FieldsAt.below {w w' : World} {v : Value} {is : List Nat} (h : FieldsAt w v is) (hb : Below w.heap.size w w') : FieldsAt w' v is :=
  h.grown (Grown.below (S := fun _ => False) hb) fun _ _ h => h
structure TabAt (w : World) (m : Nat) : Prop where
  ex : ∃ V : Int → Value, MapIs w m ([1, 2, 3].map fun k => (k, V k)) ∧ ∀ k ∈ ([1, 2, 3] : List Int), FieldsAt w (V k) (hasI k)
theorem TabAt.lt {w : World} {m : Nat} (h : TabAt w m) : m < w.heap.size := by obtain ⟨V, h1, _⟩ := h.ex; exact h1.lt
theorem TabAt.grown {w w' : World} {m : Nat} {S : Nat → Prop} (h : TabAt w m) (hg : Grown w w' S) (hm : ¬ S m) (hs : ∀ g cs, Blk w g 60 cs → ¬ S g) : TabAt w' m := by
  obtain ⟨V, h1, h2⟩ := h.ex
  exact ⟨V, h1.grown hg hm, fun k hk => (h2 k hk).grown hg fun g hb => hs g _ hb⟩
theorem TabAt.below {w w' : World} {m : Nat} (h : TabAt w m) (hb : Below w.heap.size w w') : TabAt w' m :=
  h.grown (Grown.below (S := fun _ => False) hb) (fun h => h) fun _ _ _ h => h
theorem TabAt.ne {w : World} {m g : Nat} {T : TypeId} {cs : Array Value} (h : TabAt w m) (hg : Blk w g T cs) : m ≠ g := by
  rintro rfl
  obtain ⟨V, ⟨es, clock, h1, _⟩, _⟩ := h.ex
  unfold Blk at hg
  rw [hg] at h1
  cases h1
theorem hasI_none (k : Int) (h : k ∉ ([1, 2, 3] : List Int)) : hasI k = [] := by
  simp only [List.mem_cons, List.not_mem_nil, or_false, not_or] at h
  simp [hasI, h]
theorem hasI_some (k : Int) (h : k ∈ ([1, 2, 3] : List Int)) : hasI k ≠ [] := by
  simp only [List.mem_cons, List.not_mem_nil, or_false] at h
  rcases h with rfl | rfl | rfl <;> simp [hasI]
theorem find_tab (V : Int → Value) (k : Int) : (([1, 2, 3] : List Int).map fun k => (k, V k)).find? (fun p => k == p.1) = if k ∈ ([1, 2, 3] : List Int) then some (k, V k) else none := by
  rw [List.find?_map]
  by_cases h : k ∈ ([1, 2, 3] : List Int)
  · rw [if_pos h]
    have : (([1, 2, 3] : List Int).find? ((fun p : Int × Value => k == p.1) ∘ fun k => (k, V k))) = some k := by
      simp only [List.mem_cons, List.not_mem_nil, or_false] at h
      rcases h with rfl | rfl | rfl <;> rfl
    rw [this]; rfl
  · rw [if_neg h]
    have : (([1, 2, 3] : List Int).find? ((fun p : Int × Value => k == p.1) ∘ fun k => (k, V k))) = none := by
      rw [List.find?_eq_none]
      intro x hx hk
      have e : k = x := by simpa using hk
      exact h (e ▸ hx)
    rw [this]; rfl
theorem bs1 (w : World) : (Instr.buildSlice 44 4 #[(0, .agg (fldA 0)), (1, .agg (fldA 1)), (2, .agg (fldA 2)), (3, .agg (fldA 3))]).run Try.prog w = .ok (.slice (some ⟨w.heap.size, 0, none⟩) 4 4) (w.alloc (.cells (flatF (hasI 1)) 60)) := by kernel_rfl
theorem bs2 (w : World) : (Instr.buildSlice 44 1 #[(0, .agg (fldA 3))]).run Try.prog w = .ok (.slice (some ⟨w.heap.size, 0, none⟩) 1 1) (w.alloc (.cells (flatF (hasI 2)) 60)) := by kernel_rfl
theorem bs3 (w : World) : (Instr.buildSlice 44 1 #[(0, .agg (fldA 4))]).run Try.prog w = .ok (.slice (some ⟨w.heap.size, 0, none⟩) 1 1) (w.alloc (.cells (flatF (hasI 3)) 60)) := by kernel_rfl

structure TS (w0 : World) (m : Nat) (V : Int → Value) (ks : List Int) (w : World) : Prop where
  map : MapIs w m (ks.map fun k => (k, V k))
  has : ∀ k ∈ ks, FieldsAt w (V k) (hasI k)
  lo : w0.heap.size ≤ m
  below : Below w0.heap.size w0 w
theorem TS.next {w0 : World} {m : Nat} {V : Int → Value} {ks : List Int} {w w' : World} (h : TS w0 m V ks w) (hb : Below w.heap.size w w') : TS w0 m V ks w' where
  map := h.map.grown (Grown.below (S := fun _ => False) hb) fun h => h
  has k hk := (h.has k hk).below hb
  lo := h.lo
  below := h.below.trans (hb.mono h.below.size)
theorem MapIs.ne {w : World} {m g : Nat} {ps : List (Int × Value)} {T : TypeId} {cs : Array Value} (h : MapIs w m ps) (hg : Blk w g T cs) : m ≠ g := by
  rintro rfl
  obtain ⟨es, clock, h1, _⟩ := h
  unfold Blk at hg
  rw [hg] at h1
  cases h1
theorem TS.put {w0 : World} {m : Nat} {V : Int → Value} {ks : List Int} {w w' : World} (h : TS w0 m V ks w) (k : Int) (v : Value) (hk : k ∉ ks) (hv : FieldsAt w v (hasI k)) (hm : MapIs w' m (ks.map (fun k => (k, V k)) ++ [(k, v)])) (hg : Grown w w' fun j => j = m) :
    TS w0 m (fun j => if j = k then v else V j) (ks ++ [k]) w' where
  map := by
    rw [List.map_append]
    have e : ks.map (fun j => (j, if j = k then v else V j)) = ks.map fun j => (j, V j) := List.map_congr_left fun j hj => by rw [if_neg (fun e : j = k => hk (e ▸ hj))]
    rw [e]
    simpa using hm
  has j hj := by
    rcases List.mem_append.1 hj with hj | hj
    · rw [if_neg (fun e : j = k => hk (e ▸ hj))]
      exact (h.has j hj).grown hg fun g hb e => h.map.ne hb e.symm
    · have : j = k := by simpa using hj
      subst this
      rw [if_pos rfl]
      exact hv.grown hg fun g hb e => h.map.ne hb e.symm
  lo := h.lo
  below := h.below.trans (hg.to_below (B := w0.heap.size) (fun i hi e => by have := h.lo; omega) h.below.size)
theorem fields_row (w : World) (k : Int) (n : Nat) (h : (hasI k).length = n) : FieldsAt (w.alloc (.cells (flatF (hasI k)) 60)) (.slice (some ⟨w.heap.size, 0, none⟩) n n) (hasI k) := .inr ⟨_, by rw [h], Blk.new _ _ _⟩
theorem wpList_mkmap {ops : Array Oper} {rest : List Oper} {o : Oper} {a : Act} {w : World} {Q : Exit → Act → World → Prop} (hg : o.guard = none) (ho : o.op = .makeMap 46 none)
    (h : wpList Try.prog ops Q rest (a.put o.dst (.map (some w.heap.size))) (w.alloc (.map #[] 0))) : wpList Try.prog ops Q (o :: rest) a w := by
  refine wpList_plain hg fun K hK => ?_
  unfold Oper.wp execOp
  have := Try.newmap w
  simp only [ho, Option.map_none, Sem.run_bind, this, Result.andThen_ok]
  exact hK _ _ h
theorem wpList_bs {P : Program} {ops : Array Oper} {rest : List Oper} {o : Oper} {a : Act} {w : World} {Q : Exit → Act → World → Prop} (hg : o.guard = none) (t : TypeId) (n : Nat) (parts : Array (Nat × Operand)) (ho : o.op = .buildSlice t n parts)
    (vs : Array (Nat × Value)) (hv : (parts.map fun (i, x) => (i, a.eval x)) = vs) (v : Value) (w' : World) (hrun : (Instr.buildSlice t n vs).run P w = .ok v w')
    (h : wpList P ops Q rest (a.put o.dst v) w') : wpList P ops Q (o :: rest) a w := by
  refine wpList_plain hg fun K hK => ?_
  unfold Oper.wp execOp
  simp only [ho, hv, Sem.run_bind, hrun, Result.andThen_ok]
  exact hK _ _ h
theorem not_in (V : Int → Value) (ks : List Int) (k : Int) (h : k ∉ ks) : ∀ p ∈ ks.map (fun k => (k, V k)), p.1 ≠ k := by
  intro p hp e
  obtain ⟨j, hj, rfl⟩ := List.mem_map.1 hp
  exact h (e ▸ hj)
set_option maxRecDepth 8000 in
set_option maxHeartbeats 2000000 in
theorem tab_any (w : World) : Calls Try.prog 13 #[] w fun e w' => ∃ m, e = .returned (.map (some m)) ∧ TabAt w' m ∧ w.heap.size ≤ m ∧ Below w.heap.size w w' := by
  go_enter Try.func13, Try.ntmps13
  go_wp2_with (first | (refine wpList_mkmap rfl rfl ?_; refine Hid.out ?_))
  refine hid_in ?_
  have HT0 : Keep (TS w w.heap.size (fun _ => .nilFunc) [] (w.alloc (.map #[] 0))) := ⟨⟨⟨#[], 0, heap_alloc_new w _, rfl⟩, fun k hk => by simp at hk, Nat.le_refl _, below_new w _⟩⟩
  generalize w.alloc (.map #[] 0) = w0 at *
  rename Keep (TS _ _ _ _ w0) => HT
  go_wp2_with fail
  refine (fld0_any w0).mono ?_
  rintro e w1 ⟨rfl, hb⟩
  have HT1 := Keep.mk (HT.out.next hb)
  clear hb HT
  rename Keep (TS _ _ _ _ w1) => HT
  go_wp2_with fail
  refine (fld1_any w1).mono ?_
  rintro e w2 ⟨rfl, hb⟩
  have HT2 := Keep.mk (HT.out.next hb)
  clear hb HT
  rename Keep (TS _ _ _ _ w2) => HT
  go_wp2_with fail
  refine (fld2_any w2).mono ?_
  rintro e w3 ⟨rfl, hb⟩
  have HT3 := Keep.mk (HT.out.next hb)
  clear hb HT
  rename Keep (TS _ _ _ _ w3) => HT
  go_wp2_with fail
  refine (fld3_any w3).mono ?_
  rintro e w4 ⟨rfl, hb⟩
  have HT4 := Keep.mk (HT.out.next hb)
  clear hb HT
  rename Keep (TS _ _ _ _ w4) => HT
  go_wp2_with (first | (refine wpList_bs rfl 44 4 _ rfl #[(0, .agg (fldA 0)), (1, .agg (fldA 1)), (2, .agg (fldA 2)), (3, .agg (fldA 3))] (by simp [Act.eval]) _ _ (bs1 _) ?_; refine Hid.out ?_))
  refine hid_in ?_
  try simp only [Act.put, List.setIfInBounds_toArray, List.set_cons_zero, List.set_cons_succ]
  refine wpList_ins rfl (.tmp 1) _ (.tmp 6) rfl w.heap.size _ 1 _ rfl rfl rfl (HT.out.next (below_new _ (.cells (flatF (hasI 1)) 60))).map (not_in _ _ _ (by decide)) ?_
  intro w5 hm hg hs
  have HTn := Keep.mk ((HT.out.next (below_new _ (.cells (flatF (hasI 1)) 60))).put 1 _ (by decide) (fields_row w4 1 4 rfl) hm hg)
  clear hm hg hs HT
  rename Keep (TS _ _ _ _ w5) => HT
  go_wp2_with fail
  refine (fld3_any w5).mono ?_
  rintro e w6 ⟨rfl, hb⟩
  have HT6 := Keep.mk (HT.out.next hb)
  clear hb HT
  rename Keep (TS _ _ _ _ w6) => HT
  go_wp2_with (first | (refine wpList_bs rfl 44 1 _ rfl #[(0, .agg (fldA 3))] (by simp [Act.eval]) _ _ (bs2 _) ?_; refine Hid.out ?_))
  refine hid_in ?_
  try simp only [Act.put, List.setIfInBounds_toArray, List.set_cons_zero, List.set_cons_succ]
  refine wpList_ins rfl (.tmp 1) _ (.tmp 8) rfl w.heap.size _ 2 _ rfl rfl rfl (HT.out.next (below_new _ (.cells (flatF (hasI 2)) 60))).map (not_in _ _ _ (by decide)) ?_
  intro w7 hm hg hs
  have HTn := Keep.mk ((HT.out.next (below_new _ (.cells (flatF (hasI 2)) 60))).put 2 _ (by decide) (fields_row w6 2 1 rfl) hm hg)
  clear hm hg hs HT
  rename Keep (TS _ _ _ _ w7) => HT
  go_wp2_with fail
  refine (fld4_any w7).mono ?_
  rintro e w8 ⟨rfl, hb⟩
  have HT8 := Keep.mk (HT.out.next hb)
  clear hb HT
  rename Keep (TS _ _ _ _ w8) => HT
  go_wp2_with (first | (refine wpList_bs rfl 44 1 _ rfl #[(0, .agg (fldA 4))] (by simp [Act.eval]) _ _ (bs3 _) ?_; refine Hid.out ?_))
  refine hid_in ?_
  try simp only [Act.put, List.setIfInBounds_toArray, List.set_cons_zero, List.set_cons_succ]
  refine wpList_ins rfl (.tmp 1) _ (.tmp 10) rfl w.heap.size _ 3 _ rfl rfl rfl (HT.out.next (below_new _ (.cells (flatF (hasI 3)) 60))).map (not_in _ _ _ (by decide)) ?_
  intro w9 hm hg hs
  have HTn := Keep.mk ((HT.out.next (below_new _ (.cells (flatF (hasI 3)) 60))).put 3 _ (by decide) (fields_row w8 3 1 rfl) hm hg)
  clear hm hg hs HT
  rename Keep (TS _ _ _ _ w9) => HT
  go_wp2
  go_ret
  exact ⟨w.heap.size, rfl, ⟨_, HT.out.map, HT.out.has⟩, HT.out.lo, HT.out.below⟩
theorem flatF_at : ∀ (is : List Nat) (t i : Nat), is[t]? = some i → ∀ j, j < 3 → (flatF is)[t * 3 + j]? = (fldA i)[j]?
  | [], t, i, h, j, hj => by simp at h
  | a :: is, 0, i, h, j, hj => by
    simp at h; subst h
    unfold flatF
    rw [List.flatMap_cons, List.getElem?_toArray, Nat.zero_mul, Nat.zero_add, List.getElem?_append_left (by rw [Array.length_toList, fldA_size]; exact hj), Array.getElem?_toList]
  | a :: is, t + 1, i, h, j, hj => by
    have ih := flatF_at is t i (by simpa using h) j hj
    unfold flatF at ih ⊢
    rw [List.getElem?_toArray] at ih
    rw [List.flatMap_cons, List.getElem?_toArray, List.getElem?_append_right (by rw [Array.length_toList, fldA_size]; omega), Array.length_toList, fldA_size, ← ih]
    congr 1; omega
theorem fld_range {w : World} {g : Nat} {is : List Nat} (h : Blk w g 60 (flatF is)) (t i : Nat) (hi : is[t]? = some i) : w.rangeAt g (t * 3) (fldA i).toList := fun j v hv => by
  have hj : j < 3 := by
    have := (List.getElem?_eq_some_iff.1 hv).1
    rwa [Array.length_toList, fldA_size] at this
  rw [h.cell, flatF_at is t i hi j hj]
  simpa using hv
set_option maxRecDepth 8000 in
set_option maxHeartbeats 1000000 in
theorem rising_walk (n b o c : Nat) (L : List Hs) (w : World) (hL : L.length = n) (h1 : w.rangeAt b o (Sh.flatH L)) (hn : (n : Int) ≤ 9223372036854775806) (h0 : 0 < n) :
    Calls Try.prog 15 #[.slice (some ⟨b, o, none⟩) n c] w fun e w' => e = .returned (.bool (Sh.risesB L)) ∧ Below w.heap.size w w' := by
  obtain ⟨R, hR⟩ : ∃ R, Keep (R = Sh.risesB L) := ⟨_, ⟨rfl⟩⟩
  rw [← hR.out]
  have HL : Keep (L.length = n) := ⟨hL⟩
  have H1 : Keep (w.rangeAt b o (Sh.flatH L)) := ⟨h1⟩
  have hblt : b < w.heap.size := Sh.rangeAt_lt h1 (by omega)
  have hu := Try.underlying70
  clear hL h1
  go_enter Try.func15, Try.ntmps15
  go_wp2
  go_loopw [3] (fun i wr => ∃ t : Nat, t + 1 ≤ n ∧ i = .int .i64 ((t + 1 : Nat) : Int) ∧ (∀ k, k < t → Sh.cf (L.getD k default) (L.getD (k + 1) default) < 0) ∧ Below w.heap.size w wr) (fun i _ => n - (intOf i).toNat)
  case atStart => exact ⟨0, by omega, rfl, fun k hk => by omega, Below.refl _ _⟩
  case round =>
    obtain ⟨t, ht, rfl, hke, hB⟩ := hrel
    have HK : Keep (∀ k, k < t → Sh.cf (L.getD k default) (L.getD (k + 1) default) < 0) := ⟨hke⟩
    clear hke
    by_cases hlt : t + 1 < n
    · have l1 : t < L.length := by rw [HL.out]; omega
      have l2 : t + 1 < L.length := by rw [HL.out]; exact hlt
      have HC : Keep (∀ w, Calls Try.prog 31 #[.agg (Sh.encH L[t + 1]).toArray, .agg (Sh.encH L[t]).toArray] w fun e w' => e = .returned (.bool (decide (0 < Sh.cf L[t + 1] L[t]))) ∧ Below w.heap.size w w') := ⟨fun w => by
        rw [Sh.encH_arr, Sh.encH_arr]
        exact behind_any _ _ w⟩
      rw [Sh.cf_swap L[t] L[t + 1]] at HC
      have HS : Keep (∀ wx, Below wr.heap.size wr wx → wx.rangeAt b (o + t * 32) (Sh.encH L[t]) ∧ wx.rangeAt b (o + (t + 1) * 32) (Sh.encH L[t + 1])) := ⟨fun wx hx => by
        have hb2 := hB.trans (hx.mono hB.size)
        exact ⟨Sh.rangeAt_below (Sh.rangeAt_elem H1.out t l1) hb2 hblt, Sh.rangeAt_below (Sh.rangeAt_elem H1.out (t + 1) l2) hb2 hblt⟩⟩
      have hi1 := Sh.Try.size70L L[t]
      have hi2 := Sh.Try.size70L L[t + 1]
      obtain ⟨r, hr⟩ : ∃ r, Keep (r = Sh.cf L[t] L[t + 1]) := ⟨_, ⟨rfl⟩⟩
      rw [← hr.out] at HC
      have HE : Keep (r = Sh.cf (L.getD t default) (L.getD (t + 1) default)) := ⟨by
        rw [hr.out, List.getD_eq_getElem?_getD, List.getD_eq_getElem?_getD, List.getElem?_eq_getElem l1, List.getElem?_eq_getElem l2]; rfl⟩
      clear hr
      generalize Sh.encH L[t] = CA at *
      generalize Sh.encH L[t + 1] = CB at *
      clear l1 l2
      rename World => wn
      have hD0 : Below wn.heap.size wn wn.drew := (Below.refl _ _).drew
      have hlt' : ((t + 1 : Nat) : Int) < (n : Int) := by omega
      have hs1 : ((t + 1 : Nat) : Int) - 1 = (t : Int) := by omega
      have hlt2 : (t : Int) < (n : Int) := by omega
      have hwr : IntKind.i64.wrap (t : Int) = (t : Int) := by rw [IntKind.wrap_i64]; omega
      have hng : ¬ ((t : Int) + 1 < 0) := by omega
      go_wp2
      refine wp_region_held_drew (S := fun w' => w'.rangeAt b (o + t * 32) CA ∧ w'.rangeAt b (o + (t + 1) * 32) CB) (by kernel_rfl) (HS.out _ hD0) (fun hHeld => ?_)
      refine wpAnyH_take (i := 0) (oi := ⟨some 10, Op.move (Operand.tmp 0), 28, _, _, none⟩) (v := Value.slice (some ⟨b, o, none⟩) n c) rfl (by kernel_rfl) (by kernel_rfl) (by kernel_rfl) (fun _ _ _ h => h) (Or.inl ⟨by rfl, fun w hS => by go_simp⟩) hHeld ?_
      simp only [Act.put, List.setIfInBounds_toArray, List.set_cons_zero, List.set_cons_succ]
      refine wpAnyH_take (i := 1) (oi := ⟨some 11, Op.move (Operand.tmp 3), 3, _, _, none⟩) (v := .int .i64 ((t + 1 : Nat) : Int)) rfl (by kernel_rfl) (by kernel_rfl) (by kernel_rfl) (fun _ _ _ h => h) (Or.inl ⟨by rfl, fun w hS => by go_simp⟩) hHeld ?_
      simp only [Act.put, List.setIfInBounds_toArray, List.set_cons_zero, List.set_cons_succ]
      refine wpAnyH_take (i := 2) (oi := ⟨some 12, Op.indexAddr 28 (Operand.tmp 10) (Operand.tmp 11), 0, _, _, none⟩) (v := .pointer (some ⟨b, o + (t + 1) * 32, none⟩)) rfl (by kernel_rfl) (by kernel_rfl) (by kernel_rfl) (fun _ _ _ h => h) (Or.inl ⟨by rfl, fun w hS => by go_simp⟩) hHeld ?_
      simp only [Act.put, List.setIfInBounds_toArray, List.set_cons_zero, List.set_cons_succ]
      refine wpAnyH_take (i := 3) (oi := ⟨some 13, Op.load 70 (Operand.tmp 12), 70, _, _, none⟩) (v := .agg (CB).toArray) rfl (by kernel_rfl) (by kernel_rfl) (by kernel_rfl) (fun _ _ _ h => h) (yieldsIf_load_mid (by rfl) 70 (Operand.tmp 12) rfl b (o + (t + 1) * 32) rfl CB _ (fun w hS => hS.2) hu rfl hi2) hHeld ?_
      simp only [Act.put, List.setIfInBounds_toArray, List.set_cons_zero, List.set_cons_succ]
      refine wpAnyH_take (i := 4) (oi := ⟨some 14, Op.move (Operand.tmp 0), 28, _, _, none⟩) (v := Value.slice (some ⟨b, o, none⟩) n c) rfl (by kernel_rfl) (by kernel_rfl) (by kernel_rfl) (fun _ _ _ h => h) (Or.inl ⟨by rfl, fun w hS => by go_simp⟩) hHeld ?_
      simp only [Act.put, List.setIfInBounds_toArray, List.set_cons_zero, List.set_cons_succ]
      refine wpAnyH_take (i := 5) (oi := ⟨some 15, Op.move (Operand.tmp 3), 3, _, _, none⟩) (v := .int .i64 ((t + 1 : Nat) : Int)) rfl (by kernel_rfl) (by kernel_rfl) (by kernel_rfl) (fun _ _ _ h => h) (Or.inl ⟨by rfl, fun w hS => by go_simp⟩) hHeld ?_
      simp only [Act.put, List.setIfInBounds_toArray, List.set_cons_zero, List.set_cons_succ]
      refine wpAnyH_take (i := 6) (oi := ⟨some 16, Op.binOp BinOp.sub 3 (Operand.tmp 15) (Operand.const (Value.int IntKind.i64 1)) 3, 3, _, _, none⟩) (v := .int .i64 (t : Int)) rfl (by kernel_rfl) (by kernel_rfl) (by kernel_rfl) (fun _ _ _ h => h) (Or.inl ⟨by rfl, fun w hS => by go_simp⟩) hHeld ?_
      simp only [Act.put, List.setIfInBounds_toArray, List.set_cons_zero, List.set_cons_succ]
      refine wpAnyH_take (i := 7) (oi := ⟨some 17, Op.indexAddr 28 (Operand.tmp 14) (Operand.tmp 16), 0, _, _, none⟩) (v := .pointer (some ⟨b, o + t * 32, none⟩)) rfl (by kernel_rfl) (by kernel_rfl) (by kernel_rfl) (fun _ _ _ h => h) (Or.inl ⟨by rfl, fun w hS => by go_simp⟩) hHeld ?_
      simp only [Act.put, List.setIfInBounds_toArray, List.set_cons_zero, List.set_cons_succ]
      refine wpAnyH_take (i := 8) (oi := ⟨some 18, Op.load 70 (Operand.tmp 17), 70, _, _, none⟩) (v := .agg (CA).toArray) rfl (by kernel_rfl) (by kernel_rfl) (by kernel_rfl) (fun _ _ _ h => h) (yieldsIf_load_mid (by rfl) 70 (Operand.tmp 17) rfl b (o + t * 32) rfl CA _ (fun w hS => hS.1) hu rfl hi1) hHeld ?_
      simp only [Act.put, List.setIfInBounds_toArray, List.set_cons_zero, List.set_cons_succ]
      refine wpAnyH_ready (rs := [9]) (by kernel_rfl) (by simp) ?_
      refine AllReadyH.cons (o := ⟨some 19, Op.call { callee := Callee.value (Operand.func 31), args := #[Operand.tmp 13, Operand.tmp 18], argTypes := #[70, 70] }, 4, _, _, none⟩) rfl (fun K hK => ?_) AllReadyH.nil
      rw [if_pos (by rfl)]
      refine wp_callF 31 #[.tmp 13, .tmp 18] #[70, 70] rfl Try.in31 #[.agg CB.toArray, .agg CA.toArray] (by simp [Act.eval]) (fun v w' => v = .bool (decide (0 < -r)) ∧ Below wn.drew.heap.size wn.drew w') ((HC.out wn.drew).mono fun e w' h => ⟨_, h.1, rfl, h.2⟩) ?_
      rintro v w5 ⟨rfl, hb5⟩
      have hB5 : Below wn.heap.size wn w5 := hD0.trans (hb5.mono hD0.size)
      refine hK.out _ _ (HS.out _ hB5) fun hHeld5 => ?_
      clear hK
      simp only [Act.put, List.setIfInBounds_toArray, List.set_cons_zero, List.set_cons_succ]
      refine wpAnyH_take (i := 10) (oi := ⟨some 20, Op.unOp UnOp.not 4 (Operand.tmp 19), 4, _, _, none⟩) (v := .bool (!decide (0 < -r))) rfl (by kernel_rfl) (by kernel_rfl) (by kernel_rfl) (fun _ _ _ h => h) (Or.inl ⟨by rfl, fun w hS => by go_simp⟩) hHeld5 ?_
      simp only [Act.put, List.setIfInBounds_toArray, List.set_cons_zero, List.set_cons_succ]
      refine wpAnyH_done (by kernel_rfl) ?_ _
      have hBn : Below w.heap.size w w5 := hB.trans (hB5.mono hB.size)
      by_cases hr0 : 0 ≤ r
      · have hdd : (!decide (0 < -r)) = true := by simp; omega
        rw [hdd]
        clear hdd
        have HF : Keep (R = false) := ⟨by
          rw [hR.out, Bool.eq_false_iff]; intro h
          have := (Sh.risesB_iff L).1 h t (by rw [HL.out]; exact hlt)
          rw [← HE.out] at this; omega⟩
        go_wp2
        go_ret
        exact ⟨by rw [HF.out]; rfl, hBn⟩
      · have hdd : (!decide (0 < -r)) = false := by simp; omega
        rw [hdd]
        clear hdd
        have HE2 : Keep (Sh.cf (L.getD t default) (L.getD (t + 1) default) < 0) := ⟨by rw [← HE.out]; omega⟩
        go_wp2
        go_roundw
        case rel => exact ⟨t + 1, by omega, by go_num, fun k hk => by
            rcases Nat.lt_or_eq_of_le (Nat.le_of_lt_succ hk) with h | h
            · exact HK.out k h
            · subst h; exact HE2.out, hBn⟩
        case measure => simp [intOf]; omega
    · obtain rfl : t + 1 = n := by omega
      go_wp2
      go_ret
      refine ⟨?_, hB⟩
      rw [hR.out, (Sh.risesB_iff L).2 fun i hi => HK.out i (by have := HL.out; omega)]
      rfl
set_option maxRecDepth 8000 in
set_option maxHeartbeats 400000 in
theorem rising_none (a1 : Option Addr) (c1 : Nat) (w : World) : Calls Try.prog 15 #[.slice a1 0 c1] w fun e w' => e = .returned (.bool true) ∧ w' = w := by
  go_enter Try.func15, Try.ntmps15
  go_wp2
  refine wp_loop_rounds 1 ?_; rw [rounds_succ]
  go_wp2
  go_ret
  exact ⟨rfl, rfl⟩
theorem rising_any (v : Value) (L : List Hs) (w : World) (h : Sh.HRow w v L) (hn : (L.length : Int) ≤ 9223372036854775806) :
    Calls Try.prog 15 #[v] w fun e w' => e = .returned (.bool (Sh.risesB L)) ∧ Below w.heap.size w w' := by
  obtain ⟨a1, c1, rfl⟩ := h.form
  by_cases h0 : 0 < L.length
  · obtain ⟨b1, o1, rfl, _, _, r1⟩ := h.at h0
    exact rising_walk L.length b1 o1 c1 L w rfl r1 hn h0
  · have e1 : L = [] := List.eq_nil_of_length_eq_zero (by omega)
    subst e1
    exact (rising_none a1 c1 w).mono fun e w' h => ⟨by rw [h.1, (Sh.risesB_iff []).2 fun i hi => by simp at hi], by rw [h.2]; exact Below.refl _ _⟩

theorem pow_le10 {t : Nat} (ht : t ≤ 10) : (1 : Int) ≤ 2 ^ t ∧ (2 : Int) ^ t ≤ 1024 := by
  have h : ∀ t : Fin 11, (1 : Int) ≤ 2 ^ t.val ∧ (2 : Int) ^ t.val ≤ 1024 := by decide
  exact h ⟨t, by omega⟩
def isP (n : Int) : Bool := [8, 16, 32, 64, 128, 256, 512, 1024, 2048, 4096, 8192].contains n
theorem and_pow0 : ∀ a : Fin 65, ∀ b : Fin 128, 8 ≤ 128 * a.val + b.val → 128 * a.val + b.val ≤ 8192 → (bits .and .i64 ((128 * a.val + b.val : Nat) : Int) (((128 * a.val + b.val : Nat) : Int) - 1) == 0) = isP ((128 * a.val + b.val : Nat) : Int) := by decide +kernel
theorem and_pow (n : Nat) (h1 : 8 ≤ n) (h2 : n ≤ 8192) : (bits .and .i64 (n : Int) ((n : Int) - 1) == 0) = isP n := by
  have h := and_pow0 ⟨n / 128, by omega⟩ ⟨n % 128, by omega⟩
  simp only [show 128 * (n / 128) + n % 128 = n by omega] at h
  exact h h1 h2
theorem isP_iff (n : Int) : isP n = true ↔ ∃ t : Nat, t ≤ 10 ∧ n = 8 * 2 ^ t := by
  constructor
  · intro h
    simp [isP] at h
    rcases h with rfl | rfl | rfl | rfl | rfl | rfl | rfl | rfl | rfl | rfl | rfl
    · exact ⟨0, by omega, rfl⟩
    · exact ⟨1, by omega, rfl⟩
    · exact ⟨2, by omega, rfl⟩
    · exact ⟨3, by omega, rfl⟩
    · exact ⟨4, by omega, rfl⟩
    · exact ⟨5, by omega, rfl⟩
    · exact ⟨6, by omega, rfl⟩
    · exact ⟨7, by omega, rfl⟩
    · exact ⟨8, by omega, rfl⟩
    · exact ⟨9, by omega, rfl⟩
    · exact ⟨10, by omega, rfl⟩
  · rintro ⟨t, ht, rfl⟩
    have h : ∀ t : Fin 11, isP (8 * 2 ^ t.val) = true := by decide +kernel
    exact h ⟨t, by omega⟩
theorem isP_rng {n : Int} (h : isP n = true) : 8 ≤ n ∧ n ≤ 8192 := by
  obtain ⟨t, ht, rfl⟩ := (isP_iff n).1 h
  have := pow_le10 ht
  omega
theorem isSize_any (n : Int) (w : World) : Calls Try.prog 32 #[.int .i64 n] w fun e w' => e = .returned (.bool (isP n)) ∧ w' = w := by
  by_cases h1 : 8 ≤ n
  · by_cases h2 : n ≤ 8192
    · have hw : IntKind.i64.wrap (n - 1) = n - 1 := by rw [IntKind.wrap_i64]; omega
      have ha := and_pow n.toNat (by omega) (by omega)
      simp only [Int.toNat_of_nonneg (show 0 ≤ n by omega)] at ha
      generalize isP n = b at *
      go_enter Try.func32, Try.ntmps32
      go_wp2
      go_ret
      exact ⟨by simp_all, rfl⟩
    · have hb : isP n = false := by cases hq : isP n with
        | false => rfl
        | true => have := isP_rng hq; omega
      rw [hb]
      go_enter Try.func32, Try.ntmps32
      go_wp2
      go_ret
      exact ⟨rfl, rfl⟩
  · have hb : isP n = false := by cases hq : isP n with
        | false => rfl
        | true => have := isP_rng hq; omega
    rw [hb]
    go_enter Try.func32, Try.ntmps32
    go_wp2
    go_ret
    exact ⟨rfl, rfl⟩

theorem right_any (v : Value) (l : List Int) (w : World) (h : RowAt w v l) : Calls Try.prog 16 #[v] w fun e w' => e = .returned (.bool (isP (l.length : Int))) ∧ w' = w := by
  obtain ⟨a, c, rfl⟩ := row_form h
  have HC := Keep.mk (isSize_any (l.length : Int) w)
  clear h
  go_enter Try.func16, Try.ntmps16
  go_wp2_with fail
  refine HC.out.mono ?_
  rintro e w' ⟨rfl, rfl⟩
  go_wp2
  go_ret
  exact ⟨rfl, rfl⟩
structure MsgV where
  k : Int
  hd : List Hs
  sa : Int
  bl : List Int
  wt : List Hs
  bk : List (List Int)
def zeroM : MsgV := ⟨0, [], 0, [], [], []⟩
def noS : Value := .slice none 0 0
structure MC where
  k : Int
  h : Value
  s : Int
  b : Value
  w : Value
  x : Value
def msA (c : MC) : Array Value := #[.int .i64 c.k, c.h, .int .u64 c.s, c.b, c.w, c.x]
def zeroC : MC := ⟨0, noS, 0, noS, noS, noS⟩
theorem Try.new32M (w : World) : (Instr.alloc 32 true (.tuple #[])).run Try.prog w = .ok (.pointer (some ⟨w.heap.size, 0, none⟩)) (w.alloc (.cells (msA zeroC) 32)) := by kernel_rfl
theorem Try.size32 : (Try.prog.info? 32).map (·.size) = some 6 := by kernel_rfl
theorem Try.size32B (c : MC) : (Try.prog.info? 32).map (·.size) = some (msA c).size := Try.size32
theorem ms_built0 : Try.prog.built 32 [] = some (msA zeroC) := by kernel_rfl
theorem ms_built1 (a : Int) : Try.prog.built 32 [(0, .int .i64 a)] = some (msA ⟨a, noS, 0, noS, noS, noS⟩) := by kernel_rfl
structure SlC (c : MC) : Prop where
  h : ∃ a n k, c.h = .slice a n k
  b : ∃ a n k, c.b = .slice a n k
  w : ∃ a n k, c.w = .slice a n k
  x : ∃ a n k, c.x = .slice a n k
theorem SlC.zero : SlC zeroC := ⟨⟨_, _, _, rfl⟩, ⟨_, _, _, rfl⟩, ⟨_, _, _, rfl⟩, ⟨_, _, _, rfl⟩⟩
theorem SlC.one {c : MC} (h : SlC c) : (msA c).all (·.oneCell') = true := by
  obtain ⟨k, vh, s, vb, vw, vx⟩ := c
  obtain ⟨⟨_, _, _, h1⟩, ⟨_, _, _, h2⟩, ⟨_, _, _, h3⟩, ⟨_, _, _, h4⟩⟩ := h
  simp only at h1 h2 h3 h4
  subst h1 h2 h3 h4
  simp [msA, Value.oneCell']
theorem ms_0 (c : MC) : (msA c)[0]? = some (.int .i64 c.k) := rfl
theorem ms_1 (c : MC) : (msA c)[1]? = some c.h := rfl
theorem ms_2 (c : MC) : (msA c)[2]? = some (.int .u64 c.s) := rfl
theorem ms_3 (c : MC) : (msA c)[3]? = some c.b := rfl
theorem ms_4 (c : MC) : (msA c)[4]? = some c.w := rfl
theorem ms_5 (c : MC) : (msA c)[5]? = some c.x := rfl
def RwsAt (w : World) (v : Value) (ls : List (List Int)) : Prop :=
  ∃ V : Nat → Value, ((∃ a c, v = .slice a 0 c ∧ ls = []) ∨ ∃ q o cap, v = .slice (some ⟨q, o, none⟩) ls.length cap ∧ ls.length ≤ cap ∧ ∀ i, i < ls.length → w.cell? ⟨q, o + i, none⟩ = some (V i)) ∧ ∀ i, i < ls.length → RowAt w (V i) (ls.getD i [])
theorem RwsAt.form {w : World} {v : Value} {ls : List (List Int)} (h : RwsAt w v ls) : ∃ a c, v = .slice a ls.length c := by
  obtain ⟨V, ⟨a, c, rfl, rfl⟩ | ⟨q, o, cap, rfl, _⟩, _⟩ := h
  · exact ⟨_, _, rfl⟩
  · exact ⟨_, _, rfl⟩
theorem RwsAt.nil (w : World) : RwsAt w noS [] := ⟨fun _ => noS, .inl ⟨_, _, rfl, rfl⟩, fun i hi => by simp at hi⟩
theorem RwsAt.below {w w' : World} {v : Value} {ls : List (List Int)} (h : RwsAt w v ls) (hb : Below w.heap.size w w') : RwsAt w' v ls := by
  obtain ⟨V, h1, h2⟩ := h
  refine ⟨V, ?_, fun i hi => (h2 i hi).below hb⟩
  rcases h1 with h1 | ⟨q, o, cap, h1, h3, h4⟩
  · exact .inl h1
  · exact .inr ⟨q, o, cap, h1, h3, fun i hi => by rw [hb.cell (p := ⟨q, o + i, none⟩) (cell_lt (h4 i hi))]; exact h4 i hi⟩
theorem RwsAt.at {w : World} {a : Option Addr} {n c : Nat} {ls : List (List Int)} (h : RwsAt w (.slice a n c) ls) (t : Nat) (ht : t < ls.length) : ∃ q o pa pc, a = some ⟨q, o, none⟩ ∧ n = ls.length ∧ w.cell? ⟨q, o + t, none⟩ = some (.slice pa (ls.getD t []).length pc) ∧ RowAt w (.slice pa (ls.getD t []).length pc) (ls.getD t []) := by
  obtain ⟨V, ⟨a', c', h1, rfl⟩ | ⟨q, o, cap, h1, _, h4⟩, h2⟩ := h
  · simp at ht
  · injection h1 with h1 h3 h5
    subst h1 h3
    obtain ⟨pa, pc, hv⟩ := row_form (h2 t ht)
    exact ⟨q, o, pa, pc, rfl, rfl, by rw [h4 t ht, hv], by rw [← hv]; exact h2 t ht⟩
def okR (ls : List (List Int)) : Bool := ls.all fun r => decide (0 < r.length ∧ r.length ≤ 1048576)
theorem okR_iff (ls : List (List Int)) : okR ls = true ↔ ∀ i, i < ls.length → 0 < (ls.getD i []).length ∧ (ls.getD i []).length ≤ 1048576 := by
  unfold okR
  rw [List.all_eq_true]
  constructor
  · intro h i hi
    have := h (ls.getD i []) (by rw [List.getD_eq_getElem?_getD, List.getElem?_eq_getElem hi]; exact List.getElem_mem hi)
    simpa using this
  · intro h r hr
    obtain ⟨i, hi, rfl⟩ := List.getElem_of_mem hr
    have := h i hi
    rw [List.getD_eq_getElem?_getD, List.getElem?_eq_getElem hi] at this
    simpa using this
theorem Try.in8 (w : World) (vs : Array Value) : (callFunc 8 vs).run Try.prog w = .ok (.enter 8 vs) w := by kernel_rfl
theorem Try.in9 (w : World) (vs : Array Value) : (callFunc 9 vs).run Try.prog w = .ok (.enter 9 vs) w := by kernel_rfl
theorem Try.in14 (w : World) (vs : Array Value) : (callFunc 14 vs).run Try.prog w = .ok (.enter 14 vs) w := by kernel_rfl
set_option maxRecDepth 8000 in
set_option maxHeartbeats 1000000 in
theorem areBlocks_any (v : Value) (ls : List (List Int)) (w : World) (hr : RwsAt w v ls) (hm : (ls.length : Int) ≤ 9223372036854775807) (hrl : ∀ i, i < ls.length → ((ls.getD i []).length : Int) ≤ 9223372036854775807) :
    Calls Try.prog 8 #[v] w fun e w' => e = .returned (.bool (okR ls)) ∧ w' = w := by
  have HR := Keep.mk hr
  have HL := Keep.mk hrl
  obtain ⟨R, hR⟩ : ∃ R, Keep (R = okR ls) := ⟨_, ⟨rfl⟩⟩
  rw [← hR.out]
  obtain ⟨pa, pc, rfl⟩ := hr.form
  clear hr hrl
  obtain ⟨m, hmm⟩ : ∃ m, m = ls.length := ⟨_, rfl⟩
  rw [← hmm] at HR HL hm ⊢
  have Hm := Keep.mk hmm
  clear hmm
  go_enter Try.func8, Try.ntmps8
  go_wp2
  go_loopw [7] (fun i wr => ∃ t : Nat, t ≤ m ∧ i = .int .i64 (t : Int) ∧ Keep (∀ j, j < t → 0 < (ls.getD j []).length ∧ (ls.getD j []).length ≤ 1048576) ∧ wr = w) (fun i _ => m - (intOf i).toNat)
  case atStart => exact ⟨0, by omega, rfl, ⟨fun j hj => by omega⟩, rfl⟩
  case round =>
    obtain ⟨t, ht, rfl, HK, rfl⟩ := hrel
    by_cases hlt : t < m
    · obtain ⟨q, o, xa, xc, rfl, hmq, hc, _⟩ := HR.out.at t (by rw [← Hm.out]; exact hlt)
      clear hmq
      have hlt' : (t : Int) < (m : Int) := by omega
      have hll := HL.out t hlt
      have HF : Keep (¬ (0 < (ls.getD t []).length ∧ (ls.getD t []).length ≤ 1048576) → R = false) := ⟨fun h => by
        rw [hR.out, Bool.eq_false_iff]; intro h2
        exact h ((okR_iff ls).1 h2 t (by rw [← Hm.out]; exact hlt))⟩
      have HG : Keep ((0 < (ls.getD t []).length ∧ (ls.getD t []).length ≤ 1048576) → ∀ j, j < t + 1 → 0 < (ls.getD j []).length ∧ (ls.getD j []).length ≤ 1048576) := ⟨fun h j hj => by
        rcases Nat.lt_or_eq_of_le (Nat.le_of_lt_succ hj) with h2 | h2
        · exact HK.out j h2
        · subst h2; exact h⟩
      generalize (ls.getD t []).length = n at *
      by_cases h0 : n = 0
      · subst h0
        go_wp2
        go_ret
        exact ⟨by rw [HF.out (by omega)]; rfl, rfl⟩
      · have h0' : ¬ (n : Int) = 0 := by omega
        by_cases h1 : (1048576 : Int) < (n : Int)
        · go_wp2
          go_ret
          exact ⟨by rw [HF.out (by omega)]; rfl, rfl⟩
        · go_wp2
          go_roundw
          case rel => exact ⟨t + 1, by omega, by go_num, ⟨HG.out (by omega)⟩, trivial⟩
          case measure => simp [intOf]; omega
    · obtain rfl : t = m := by omega
      go_wp2
      go_ret
      exact ⟨by rw [hR.out, (okR_iff ls).2 fun i hi => HK.out i (by rw [Hm.out]; exact hi)]; rfl, rfl⟩
def fitG : List (List Int) → Nat → Nat → Nat
  | [], i, _ => i
  | r :: rs, i, a => if i = 256 ∨ 2097152 < 1 + (numL (i + 1)).length + (a + (bform r).length) then i else fitG rs (i + 1) (a + (bform r).length)
def fit (ls : List (List Int)) : Nat := fitG ls 0 0
theorem num_len (x : Nat) : (numL x).length ≤ 10 := numL_len x
set_option maxRecDepth 8000 in
set_option maxHeartbeats 2000000 in
theorem fitting_any (v : Value) (ls : List (List Int)) (w : World) (hr : RwsAt w v ls) (hm : (ls.length : Int) ≤ 9223372036854775807) (hrl : ∀ i, i < ls.length → (ls.getD i []).length ≤ 1048576) :
    Calls Try.prog 9 #[v] w fun e w' => e = .returned (.int .i64 (fit ls : Int)) ∧ w' = w := by
  have HR := Keep.mk hr
  have HL := Keep.mk hrl
  obtain ⟨R, hR⟩ : ∃ R, R = fit ls := ⟨_, rfl⟩
  rw [← hR]
  obtain ⟨pa, pc, rfl⟩ := hr.form
  clear hr hrl
  obtain ⟨m, hmm⟩ : ∃ m, m = ls.length := ⟨_, rfl⟩
  rw [← hmm] at HR HL hm ⊢
  have Hm := Keep.mk hmm
  have HSz := Keep.mk (fun (x : Nat) (hx : x < 18446744073709551616) => size_any x w hx)
  have H0 : Keep (R = fitG (ls.drop 0) 0 0) := ⟨by rw [hR]; rfl⟩
  clear hmm hR
  go_enter Try.func9, Try.ntmps9
  go_wp2
  go_loopw [3, 9] (fun l i wr => ∃ t a : Nat, t ≤ m ∧ t ≤ 256 ∧ i = .int .i64 (t : Int) ∧ l = .int .i64 (a : Int) ∧ a ≤ t * 1048586 ∧ Keep (R = fitG (ls.drop t) t a) ∧ wr = w) (fun _ i _ => m - (intOf i).toNat)
  case atStart => exact ⟨0, 0, by omega, by omega, rfl, rfl, by omega, H0, rfl⟩
  case round =>
    obtain ⟨t, a, ht, ht2, rfl, rfl, hal, HK, rfl⟩ := hrel
    by_cases hlt : t < m
    · obtain ⟨q, o, xa, xc, rfl, hmq, hc, _⟩ := HR.out.at t (by rw [← Hm.out]; exact hlt)
      have hlt' : (t : Int) < (m : Int) := by omega
      have hll := HL.out t hlt
      clear hmq
      have HS1 := Keep.mk (HSz.out (ls.getD t []).length (by omega))
      have HS2 := Keep.mk (HSz.out (t + 1) (by omega))
      have hn1 := num_len (ls.getD t []).length
      have hn2 := num_len (t + 1)
      have HD : Keep (R = if t = 256 ∨ 2097152 < 1 + (numL (t + 1)).length + (a + ((numL (ls.getD t []).length).length + (ls.getD t []).length)) then t else fitG (ls.drop (t + 1)) (t + 1) (a + ((numL (ls.getD t []).length).length + (ls.getD t []).length))) := ⟨by
        have hl : t < ls.length := by rw [← Hm.out]; exact hlt
        rw [HK.out, List.drop_eq_getElem_cons hl, fitG, List.getD_eq_getElem?_getD, List.getElem?_eq_getElem hl, Option.getD_some]
        simp only [bform, List.length_append]⟩
      generalize (ls.getD t []).length = n at *
      generalize (numL n).length = s1 at *
      generalize (numL (t + 1)).length = s2 at *
      go_wp2_with fail
      refine HS1.out.mono ?_
      rintro e w' ⟨rfl, rfl⟩
      go_wp2_with fail
      rw [show (t : Int) + 1 = ((t + 1 : Nat) : Int) by push_cast; rfl]
      refine HS2.out.mono ?_
      rintro e w' ⟨rfl, rfl⟩
      by_cases h1 : t = 256
      · have h1' : (t : Int) = 256 := by omega
        go_wp2
        go_ret
        exact ⟨by rw [HD.out, if_pos (.inl h1), h1]; rfl, rfl⟩
      · have h1' : ¬ (t : Int) = 256 := by omega
        by_cases h2 : (2097152 : Int) < 1 + (s2 : Int) + ((a : Int) + ((s1 : Int) + (n : Int)))
        · go_wp2
          go_ret
          exact ⟨by rw [HD.out, if_pos (.inr (by omega))]; rfl, rfl⟩
        · go_wp2
          case roundEnd => exact ⟨⟨t + 1, a + (s1 + n), by omega, by omega, by go_num, by go_num, by omega, ⟨by rw [HD.out, if_neg (by omega)]⟩, trivial⟩, by simp [intOf]; omega⟩
          all_goals (exfalso; rename_i hx; rcases hx with hx | hx; exact h1' (by simpa using hx); omega)
    · obtain rfl : t = m := by omega
      go_wp2
      go_ret
      exact ⟨by rw [HK.out, Hm.out, List.drop_length, fitG, ← Hm.out]; rfl, rfl⟩
def wipeC (i : Nat) (c : MC) : MC := if i = 0 then { c with h := noS } else if i = 1 then { c with s := 0 } else if i = 2 then { c with b := noS } else if i = 3 then { c with w := noS } else { c with x := noS }
def wfn (i : Nat) : Nat := if i = 0 then 40 else if i = 1 then 45 else if i = 2 then 50 else if i = 3 then 55 else 58
theorem wfn_in (i : Nat) (w : World) (vs : Array Value) : (callFunc (wfn i) vs).run Try.prog w = .ok (.enter (wfn i) vs) w := by
  unfold wfn
  repeat' split
  all_goals kernel_rfl
theorem fldA_w (i : Nat) : (fldA i)[0]? = some (.func (.func (wfn i)) #[] #[]) := by
  unfold fldA wfn
  repeat' split
  all_goals rfl
theorem SlC.wipe {c : MC} (h : SlC c) (i : Nat) : SlC (wipeC i c) := by
  unfold wipeC
  repeat' split
  · exact ⟨⟨_, _, _, rfl⟩, h.b, h.w, h.x⟩
  · exact ⟨h.h, h.b, h.w, h.x⟩
  · exact ⟨h.h, ⟨_, _, _, rfl⟩, h.w, h.x⟩
  · exact ⟨h.h, h.b, ⟨_, _, _, rfl⟩, h.x⟩
  · exact ⟨h.h, h.b, h.w, ⟨_, _, _, rfl⟩⟩
theorem wipe0_any (c : MC) (hc : SlC c) (g : Nat) (w : World) (h : Blk w g 32 (msA c)) : Calls Try.prog 40 #[ptr g] w fun e w' => e = .returned (.tuple #[]) ∧ Blk w' g 32 (msA (wipeC 0 c)) ∧ Grown w w' fun k => k = g := by
  obtain ⟨⟨_, _, _, e1⟩, ⟨_, _, _, e2⟩, ⟨_, _, _, e3⟩, ⟨_, _, _, e4⟩⟩ := hc
  obtain ⟨k, vh, s, vb, vw, vx⟩ := c
  simp only at e1 e2 e3 e4
  subst e1 e2 e3 e4
  have c0 := h.c 1 (ms_1 _)
  have f0 := h.frozen 1
  have HB := Keep.mk (h.set 1 (.slice none 0 0))
  have HG := Keep.mk (Grown.setCell w g 1 (.slice none 0 0) (S := fun k => k = g) fun _ => rfl)
  clear h
  go_enter Try.func40, Try.ntmps40
  go_wp2
  go_end0
  exact ⟨rfl, HB.out, HG.out⟩
theorem wipe1_any (c : MC) (hc : SlC c) (g : Nat) (w : World) (h : Blk w g 32 (msA c)) : Calls Try.prog 45 #[ptr g] w fun e w' => e = .returned (.tuple #[]) ∧ Blk w' g 32 (msA (wipeC 1 c)) ∧ Grown w w' fun k => k = g := by
  obtain ⟨⟨_, _, _, e1⟩, ⟨_, _, _, e2⟩, ⟨_, _, _, e3⟩, ⟨_, _, _, e4⟩⟩ := hc
  obtain ⟨k, vh, s, vb, vw, vx⟩ := c
  simp only at e1 e2 e3 e4
  subst e1 e2 e3 e4
  have c0 := h.c 2 (ms_2 _)
  have f0 := h.frozen 2
  have HB := Keep.mk (h.set 2 (.int .u64 0))
  have HG := Keep.mk (Grown.setCell w g 2 (.int .u64 0) (S := fun k => k = g) fun _ => rfl)
  clear h
  go_enter Try.func45, Try.ntmps45
  go_wp2
  go_end0
  exact ⟨rfl, HB.out, HG.out⟩
theorem wipe2_any (c : MC) (hc : SlC c) (g : Nat) (w : World) (h : Blk w g 32 (msA c)) : Calls Try.prog 50 #[ptr g] w fun e w' => e = .returned (.tuple #[]) ∧ Blk w' g 32 (msA (wipeC 2 c)) ∧ Grown w w' fun k => k = g := by
  obtain ⟨⟨_, _, _, e1⟩, ⟨_, _, _, e2⟩, ⟨_, _, _, e3⟩, ⟨_, _, _, e4⟩⟩ := hc
  obtain ⟨k, vh, s, vb, vw, vx⟩ := c
  simp only at e1 e2 e3 e4
  subst e1 e2 e3 e4
  have c0 := h.c 3 (ms_3 _)
  have f0 := h.frozen 3
  have HB := Keep.mk (h.set 3 (.slice none 0 0))
  have HG := Keep.mk (Grown.setCell w g 3 (.slice none 0 0) (S := fun k => k = g) fun _ => rfl)
  clear h
  go_enter Try.func50, Try.ntmps50
  go_wp2
  go_end0
  exact ⟨rfl, HB.out, HG.out⟩
theorem wipe3_any (c : MC) (hc : SlC c) (g : Nat) (w : World) (h : Blk w g 32 (msA c)) : Calls Try.prog 55 #[ptr g] w fun e w' => e = .returned (.tuple #[]) ∧ Blk w' g 32 (msA (wipeC 3 c)) ∧ Grown w w' fun k => k = g := by
  obtain ⟨⟨_, _, _, e1⟩, ⟨_, _, _, e2⟩, ⟨_, _, _, e3⟩, ⟨_, _, _, e4⟩⟩ := hc
  obtain ⟨k, vh, s, vb, vw, vx⟩ := c
  simp only at e1 e2 e3 e4
  subst e1 e2 e3 e4
  have c0 := h.c 4 (ms_4 _)
  have f0 := h.frozen 4
  have HB := Keep.mk (h.set 4 (.slice none 0 0))
  have HG := Keep.mk (Grown.setCell w g 4 (.slice none 0 0) (S := fun k => k = g) fun _ => rfl)
  clear h
  go_enter Try.func55, Try.ntmps55
  go_wp2
  go_end0
  exact ⟨rfl, HB.out, HG.out⟩
theorem wipe4_any (c : MC) (hc : SlC c) (g : Nat) (w : World) (h : Blk w g 32 (msA c)) : Calls Try.prog 58 #[ptr g] w fun e w' => e = .returned (.tuple #[]) ∧ Blk w' g 32 (msA (wipeC 4 c)) ∧ Grown w w' fun k => k = g := by
  obtain ⟨⟨_, _, _, e1⟩, ⟨_, _, _, e2⟩, ⟨_, _, _, e3⟩, ⟨_, _, _, e4⟩⟩ := hc
  obtain ⟨k, vh, s, vb, vw, vx⟩ := c
  simp only at e1 e2 e3 e4
  subst e1 e2 e3 e4
  have c0 := h.c 5 (ms_5 _)
  have f0 := h.frozen 5
  have HB := Keep.mk (h.set 5 (.slice none 0 0))
  have HG := Keep.mk (Grown.setCell w g 5 (.slice none 0 0) (S := fun k => k = g) fun _ => rfl)
  clear h
  go_enter Try.func58, Try.ntmps58
  go_wp2
  go_end0
  exact ⟨rfl, HB.out, HG.out⟩
theorem wipe_any (i : Nat) (c : MC) (hc : SlC c) (g : Nat) (w : World) (h : Blk w g 32 (msA c)) : Calls Try.prog (wfn i) #[ptr g] w fun e w' => e = .returned (.tuple #[]) ∧ Blk w' g 32 (msA (wipeC i c)) ∧ Grown w w' fun k => k = g := by
  unfold wfn
  by_cases h0 : i = 0
  · subst h0; exact wipe0_any c hc g w h
  rw [if_neg h0]
  by_cases h1 : i = 1
  · subst h1; exact wipe1_any c hc g w h
  rw [if_neg h1]
  by_cases h2 : i = 2
  · subst h2; exact wipe2_any c hc g w h
  rw [if_neg h2]
  by_cases h3 : i = 3
  · subst h3; exact wipe3_any c hc g w h
  rw [if_neg h3]
  have e : wipeC i c = wipeC 4 c := by unfold wipeC; simp [h0, h1, h2, h3]
  rw [e]
  exact wipe4_any c hc g w h
def wipesC (is : List Nat) (c : MC) : MC := is.foldl (fun c i => wipeC i c) c
theorem wipesC_step (is : List Nat) (t i : Nat) (c : MC) (h : is[t]? = some i) : wipesC (is.take (t + 1)) c = wipeC i (wipesC (is.take t) c) := by
  unfold wipesC
  rw [List.take_add_one, h]
  simp
theorem SlC.wipes {c : MC} (h : SlC c) : ∀ (is : List Nat), SlC (wipesC is c) := fun is => by
  unfold wipesC
  induction is generalizing c with
  | nil => exact h
  | cons i is ih => exact ih (h.wipe i)
def leftB (hn : Nat) (s : Int) (bn wn xn : Nat) : Bool := decide (0 < hn) || (!decide (s = 0)) || decide (0 < bn) || decide (0 < wn) || decide (0 < xn)
set_option maxRecDepth 8000 in
set_option maxHeartbeats 2000000 in
theorem hasMore_any (c : MC) (hc : SlC c) (gf : Nat) (is : List Nat) (w : World) (hf : Blk w gf 60 (flatF is)) (hl : is.length ≤ 4) (R : Bool)
    (hR : ∀ ha hn hk, (wipesC is c).h = .slice ha hn hk → ∀ ba bn bk, (wipesC is c).b = .slice ba bn bk → ∀ wa wn wk, (wipesC is c).w = .slice wa wn wk → ∀ xa xn xk, (wipesC is c).x = .slice xa xn xk → R = leftB hn (wipesC is c).s bn wn xn) :
    Calls Try.prog 14 #[.agg (msA c), .slice (some ⟨gf, 0, none⟩) is.length is.length] w fun e w' => e = .returned (.bool R) ∧ Below w.heap.size w w' := by
  unfold leftB at hR
  have HF := Keep.mk hf
  have Hc := Keep.mk hc
  have HRs := Keep.mk hR
  have HNn := Keep.mk hl
  have Hgne : Keep (gf ≠ w.heap.size) := ⟨by have := hf.lt; omega⟩
  clear hf hc hR
  go_enter Try.func14, Try.ntmps14
  refine wp_seq_k fun K1 hK1 => ?_
  refine wp_region_list (WL.out ?_)
  refine WL.box (by kernel_rfl) 32 (.tmp 0) rfl _ rfl ?_
  have HM := Keep.mk (Blk.new w 32 (msA c))
  have B1 := Keep.mk (below_new w (.cells (msA c) 32))
  have HF1 := Keep.mk (HF.out.alloc (.cells (msA c) 32))
  have Hgf := Keep.mk HF.out.lt
  generalize w.alloc (.cells (msA c) 32) = w1 at *
  obtain ⟨g, hg⟩ : ∃ g, g = w.heap.size := ⟨_, rfl⟩
  rw [← hg] at HM B1 Hgf Hgne ⊢
  have HgE := Keep.mk hg
  clear hg
  simp only [Act.put, List.setIfInBounds_toArray, List.set_cons_zero, List.set_cons_succ]
  refine WL.val (by kernel_rfl) (.bool false) (by go_simp) ?_
  simp only [Act.put, List.setIfInBounds_toArray, List.set_cons_zero, List.set_cons_succ]
  refine WL.nil ?_
  refine hK1 _ _ ?_
  refine wp_seq_k fun K2 hK2 => ?_
  refine wp_seq_k fun K3 hK3 => ?_
  refine wp_region_list (WL.out ?_)
  refine WL.val (by kernel_rfl) (.slice (some ⟨gf, 0, none⟩) is.length is.length) (by go_simp) ?_
  simp only [Act.put, List.setIfInBounds_toArray, List.set_cons_zero, List.set_cons_succ]
  refine WL.val (by kernel_rfl) (.int .i64 (is.length : Int)) (by go_simp) ?_
  simp only [Act.put, List.setIfInBounds_toArray, List.set_cons_zero, List.set_cons_succ]
  refine WL.val (by kernel_rfl) (.int .i64 0) (by go_simp) ?_
  simp only [Act.put, List.setIfInBounds_toArray, List.set_cons_zero, List.set_cons_succ]
  refine WL.nil ?_
  refine hK3 _ _ ?_
  refine wp_block ?_
  refine wp_loop (fun ac wr => ∃ (t : Nat) (u6 u10 u11 u12 u13 u14 u15 u16 : Value), ac = { tmps := #[.agg (msA c), .slice (some ⟨gf, 0, none⟩) is.length is.length, .pointer (some ⟨g, 0, none⟩), undef, .bool false, undef, u6, .slice (some ⟨gf, 0, none⟩) is.length is.length, .int .i64 (is.length : Int), .int .i64 (t : Int), u10, u11, u12, u13, u14, u15, u16, undef, undef, undef, undef, undef, undef, undef, undef, undef, undef, undef, undef, undef, undef, undef, undef, undef, undef, undef, undef, undef, undef, undef, undef, undef, undef, undef], defers := [] } ∧ t ≤ is.length ∧ Keep (Blk wr g 32 (msA (wipesC (is.take t) c))) ∧ Keep (Blk wr gf 60 (flatF is)) ∧ Keep (Below g w wr)) (fun a _ => is.length - (intOf (a.tmps.getD 9 undef)).toNat) ⟨0, undef, undef, undef, undef, undef, undef, undef, undef, rfl, by omega, HM, HF1, B1⟩ ?_
  rintro ac wr ⟨t, u6, u10, u11, u12, u13, u14, u15, u16, rfl, ht, HMr, HFr, Hgr⟩
  by_cases hlt : t < is.length
  · have hlt' : (t : Int) < (is.length : Int) := by omega
    obtain ⟨i, hi⟩ : ∃ i, is[t]? = some i := ⟨_, List.getElem?_eq_getElem hlt⟩
    have Hi := Keep.mk hi
    clear hi
    have hwt : IntKind.i64.wrap ((t : Int) + 1) = (t : Int) + 1 := by rw [IntKind.wrap_i64]; omega
    refine wp_seq_k fun K4 hK4 => ?_
    refine wp_region_list (WL.out ?_)
    refine WL.val (by kernel_rfl) (.bool true) (by go_simp) ?_
    simp only [Act.put, List.setIfInBounds_toArray, List.set_cons_zero, List.set_cons_succ]
    refine WL.nil ?_
    refine hK4 _ _ ?_
    refine wp_seq_k fun K5 hK5 => ?_
    refine wp_cond_true rfl ?_
    refine wp_skip ?_
    refine hK5 _ _ ?_
    refine wp_seq_k fun K6 hK6 => ?_
    refine wp_block ?_
    refine wp_seq_k fun K7 hK7 => ?_
    refine wp_region_list (WL.out ?_)
    refine WL.val (by kernel_rfl) (.pointer (some ⟨gf, t * 3, none⟩)) (by go_simp) ?_
    simp only [Act.put, List.setIfInBounds_toArray, List.set_cons_zero, List.set_cons_succ]
    refine WL.mid (by kernel_rfl) 60 (.tmp 11) rfl gf (t * 3) rfl (fldA i).toList _ (fld_range HFr.out t i Hi.out) Try.underlying60 rfl (Try.size60L i) ?_
    rw [Array.toArray_toList]
    simp only [Act.put, List.setIfInBounds_toArray, List.set_cons_zero, List.set_cons_succ]
    refine WL.new (by kernel_rfl) 60 rfl _ Try.new60 ?_
    have HN := Keep.mk (Blk.new wr 60 noF)
    have HMn := Keep.mk (HMr.out.alloc (.cells noF 60))
    have HFn := Keep.mk (HFr.out.alloc (.cells noF 60))
    have Gn : Keep (Below g w (wr.alloc (.cells noF 60))) := ⟨Hgr.out.trans ((below_new wr _).mono (by rw [HgE.out]; exact Hgr.out.size))⟩
    have Hne : Keep (wr.heap.size ≠ g ∧ wr.heap.size ≠ gf ∧ g ≤ wr.heap.size) := ⟨by have := HMr.out.lt; have := HFr.out.lt; omega⟩
    generalize wr.alloc (.cells noF 60) = wn at *
    generalize wr.heap.size = gn at *
    simp only [Act.put, List.setIfInBounds_toArray, List.set_cons_zero, List.set_cons_succ]
    refine WL.storeR (by kernel_rfl) 60 (.tmp 6) (.tmp 12) rfl gn (fldA i) rfl rfl 60 noF HN.out (Try.size60B i) (noF_sizes i) (fldA_one i) ?_
    have HN2 := Keep.mk (HN.out.setRow (fldA i))
    have HM2 := Keep.mk (HMn.out.setRow_ne (b' := gn) (fun e => Hne.out.1 e.symm) (fldA i))
    have HF2 := Keep.mk (HFn.out.setRow_ne (b' := gn) (fun e => Hne.out.2.1 e.symm) (fldA i))
    have G2 : Keep (Below g w (wn.setRow gn (fldA i))) := ⟨below_setRow Gn.out Hne.out.2.2 _⟩
    generalize wn.setRow gn (fldA i) = w2 at *
    have c0 := HN2.out.c 0 (fldA_w i)
    simp only [Act.put]
    refine WL.nil ?_
    refine hK7 _ _ ?_
    refine wp_region_list (WL.out ?_)
    refine WL.val (by kernel_rfl) (.pointer (some ⟨gn, 0, none⟩)) (by go_simp) ?_
    simp only [Act.put, List.setIfInBounds_toArray, List.set_cons_zero, List.set_cons_succ]
    refine WL.val (by kernel_rfl) (.func (.func (wfn i)) #[] #[]) (by go_simp) ?_
    simp only [Act.put, List.setIfInBounds_toArray, List.set_cons_zero, List.set_cons_succ]
    refine WL.callV (by kernel_rfl) (wfn i) (.tmp 14) _ _ rfl rfl (wfn_in i) #[ptr g] (by simp [Act.eval]) ?_
    refine (wipe_any i _ (Hc.out.wipes _) g w2 HM2.out).mono ?_
    rintro e w3 ⟨rfl, h1, h2⟩
    refine ⟨_, rfl, ?_⟩
    rw [← wipesC_step is t i c Hi.out] at h1
    have HM3 := Keep.mk h1
    have HF3 := Keep.mk (h2.blk HF2.out (fun e => Hgne.out e))
    have G3 : Keep (Below g w w3) := ⟨G2.out.trans (h2.to_below (B := g) (fun k hk e => by omega) (by rw [HgE.out]; exact G2.out.size))⟩
    clear h1 h2
    simp only [Act.put, List.setIfInBounds_toArray, List.set_cons_zero, List.set_cons_succ]
    refine WL.nil ?_
    refine hK6 _ _ ?_
    refine wp_region_list (WL.out ?_)
    refine WL.val (by kernel_rfl) (.int .i64 ((t : Int) + 1)) (by go_simp) ?_
    simp only [Act.put, List.setIfInBounds_toArray, List.set_cons_zero, List.set_cons_succ]
    refine WL.val (by kernel_rfl) (.int .i64 ((t : Int) + 1)) (by go_simp) ?_
    simp only [Act.put, List.setIfInBounds_toArray, List.set_cons_zero, List.set_cons_succ]
    refine WL.nil ?_
    refine ⟨⟨t + 1, .pointer (some ⟨gn, 0, none⟩), .bool true, .pointer (some ⟨gf, t * 3, none⟩), .agg (fldA i), .pointer (some ⟨gn, 0, none⟩), .func (.func (wfn i)) #[] #[], .tuple #[], .int .i64 ((t : Int) + 1), rfl, by omega, HM3, HF3, G3⟩, by simp [intOf]; omega⟩
  · obtain rfl : t = is.length := by omega
    have HMe := HMr.out
    rw [List.take_length] at HMe
    have Hce := Hc.out.wipes is
    obtain ⟨D, hD⟩ : ∃ D, D = wipesC is c := ⟨_, rfl⟩
    rw [← hD] at HMe Hce HRs
    obtain ⟨⟨ha, hn, hk, e1⟩, ⟨ba, bn, bk, e2⟩, ⟨wa, wn, wk, e3⟩, ⟨xa, xn, xk, e4⟩⟩ := Hce
    have HV := Keep.mk (HRs.out ha hn hk e1 ba bn bk e2 wa wn wk e3 xa xn xk e4)
    have d1 := HMe.c 1 (ms_1 D)
    have d2 := HMe.c 2 (ms_2 D)
    have d3 := HMe.c 3 (ms_3 D)
    have d4 := HMe.c 4 (ms_4 D)
    have d5 := HMe.c 5 (ms_5 D)
    rw [e1] at d1
    rw [e2] at d3
    rw [e3] at d4
    rw [e4] at d5
    obtain ⟨s0, hs0⟩ : ∃ s0, s0 = D.s := ⟨_, rfl⟩
    rw [← hs0] at d2 HV
    clear hD e1 e2 e3 e4 hs0 HMe
    have hxn := HNn.out
    refine wp_seq_k fun K8 hK8 => ?_
    refine wp_region_list (WL.out ?_)
    refine WL.val (by kernel_rfl) (.bool false) (by go_simp) ?_
    simp only [Act.put, List.setIfInBounds_toArray, List.set_cons_zero, List.set_cons_succ]
    refine WL.nil ?_
    refine hK8 _ _ ?_
    refine wp_seq_k fun K9 hK9 => ?_
    refine wp_cond_false rfl ?_
    refine wp_exit ?_
    refine hK2 _ _ ?_
    refine wp_seq_k fun K10 hK10 => ?_
    refine wp_region_list (WL.out ?_)
    refine WL.val (by kernel_rfl) (.pointer (some ⟨g, 1, none⟩)) (by go_simp) ?_
    simp only [Act.put, List.setIfInBounds_toArray, List.set_cons_zero, List.set_cons_succ]
    refine WL.val (by kernel_rfl) (.slice ha hn hk) (by go_simp) ?_
    simp only [Act.put, List.setIfInBounds_toArray, List.set_cons_zero, List.set_cons_succ]
    refine WL.val (by kernel_rfl) (.int .i64 (hn : Int)) (by go_simp) ?_
    simp only [Act.put, List.setIfInBounds_toArray, List.set_cons_zero, List.set_cons_succ]
    by_cases h6_3 : 0 < hn
    · have h6_3i : (0 : Int) < (hn : Int) := by omega
      refine WL.val (by kernel_rfl) (.bool true) (by go_simp) ?_
      simp only [Act.put, List.setIfInBounds_toArray, List.set_cons_zero, List.set_cons_succ]
      refine WL.val (by kernel_rfl) (.bool true) (by go_simp) ?_
      simp only [Act.put, List.setIfInBounds_toArray, List.set_cons_zero, List.set_cons_succ]
      refine WL.skip (by kernel_rfl) ?_
      simp only [Act.put, List.setIfInBounds_toArray, List.set_cons_zero, List.set_cons_succ]
      refine WL.skip (by kernel_rfl) ?_
      simp only [Act.put, List.setIfInBounds_toArray, List.set_cons_zero, List.set_cons_succ]
      refine WL.skip (by kernel_rfl) ?_
      simp only [Act.put, List.setIfInBounds_toArray, List.set_cons_zero, List.set_cons_succ]
      refine WL.val (by kernel_rfl) (.bool true) (by go_simp) ?_
      simp only [Act.put, List.setIfInBounds_toArray, List.set_cons_zero, List.set_cons_succ]
      refine WL.val (by kernel_rfl) (.bool true) (by go_simp) ?_
      simp only [Act.put, List.setIfInBounds_toArray, List.set_cons_zero, List.set_cons_succ]
      refine WL.skip (by kernel_rfl) ?_
      simp only [Act.put, List.setIfInBounds_toArray, List.set_cons_zero, List.set_cons_succ]
      refine WL.skip (by kernel_rfl) ?_
      simp only [Act.put, List.setIfInBounds_toArray, List.set_cons_zero, List.set_cons_succ]
      refine WL.skip (by kernel_rfl) ?_
      simp only [Act.put, List.setIfInBounds_toArray, List.set_cons_zero, List.set_cons_succ]
      refine WL.skip (by kernel_rfl) ?_
      simp only [Act.put, List.setIfInBounds_toArray, List.set_cons_zero, List.set_cons_succ]
      refine WL.val (by kernel_rfl) (.bool true) (by go_simp) ?_
      simp only [Act.put, List.setIfInBounds_toArray, List.set_cons_zero, List.set_cons_succ]
      refine WL.val (by kernel_rfl) (.bool true) (by go_simp) ?_
      simp only [Act.put, List.setIfInBounds_toArray, List.set_cons_zero, List.set_cons_succ]
      refine WL.skip (by kernel_rfl) ?_
      simp only [Act.put, List.setIfInBounds_toArray, List.set_cons_zero, List.set_cons_succ]
      refine WL.skip (by kernel_rfl) ?_
      simp only [Act.put, List.setIfInBounds_toArray, List.set_cons_zero, List.set_cons_succ]
      refine WL.skip (by kernel_rfl) ?_
      simp only [Act.put, List.setIfInBounds_toArray, List.set_cons_zero, List.set_cons_succ]
      refine WL.skip (by kernel_rfl) ?_
      simp only [Act.put, List.setIfInBounds_toArray, List.set_cons_zero, List.set_cons_succ]
      refine WL.val (by kernel_rfl) (.bool true) (by go_simp) ?_
      simp only [Act.put, List.setIfInBounds_toArray, List.set_cons_zero, List.set_cons_succ]
      refine WL.val (by kernel_rfl) (.bool true) (by go_simp) ?_
      simp only [Act.put, List.setIfInBounds_toArray, List.set_cons_zero, List.set_cons_succ]
      refine WL.skip (by kernel_rfl) ?_
      simp only [Act.put, List.setIfInBounds_toArray, List.set_cons_zero, List.set_cons_succ]
      refine WL.skip (by kernel_rfl) ?_
      simp only [Act.put, List.setIfInBounds_toArray, List.set_cons_zero, List.set_cons_succ]
      refine WL.skip (by kernel_rfl) ?_
      simp only [Act.put, List.setIfInBounds_toArray, List.set_cons_zero, List.set_cons_succ]
      refine WL.skip (by kernel_rfl) ?_
      simp only [Act.put, List.setIfInBounds_toArray, List.set_cons_zero, List.set_cons_succ]
      refine WL.val (by kernel_rfl) (.bool true) (by go_simp) ?_
      simp only [Act.put, List.setIfInBounds_toArray, List.set_cons_zero, List.set_cons_succ]
      refine WL.val (by kernel_rfl) (.bool true) (by go_simp) ?_
      simp only [Act.put, List.setIfInBounds_toArray, List.set_cons_zero, List.set_cons_succ]
      refine WL.nil ?_
      refine hK10 _ _ ?_
      refine wp_ret ?_
      go_ret
      exact ⟨by rw [HV.out]; simp [*], by rw [← HgE.out]; exact Hgr.out⟩
    · have h6_3i : ¬ (0 : Int) < (hn : Int) := by omega
      refine WL.val (by kernel_rfl) (.bool false) (by go_simp) ?_
      simp only [Act.put, List.setIfInBounds_toArray, List.set_cons_zero, List.set_cons_succ]
      refine WL.val (by kernel_rfl) (.bool false) (by go_simp) ?_
      simp only [Act.put, List.setIfInBounds_toArray, List.set_cons_zero, List.set_cons_succ]
      refine WL.val (by kernel_rfl) (.pointer (some ⟨g, 2, none⟩)) (by go_simp) ?_
      simp only [Act.put, List.setIfInBounds_toArray, List.set_cons_zero, List.set_cons_succ]
      refine WL.val (by kernel_rfl) (.int .u64 s0) (by go_simp) ?_
      simp only [Act.put, List.setIfInBounds_toArray, List.set_cons_zero, List.set_cons_succ]
      by_cases h6_7 : s0 = 0
      · skip
        refine WL.val (by kernel_rfl) (.bool false) (by go_simp) ?_
        simp only [Act.put, List.setIfInBounds_toArray, List.set_cons_zero, List.set_cons_succ]
        refine WL.val (by kernel_rfl) (.bool false) (by go_simp) ?_
        simp only [Act.put, List.setIfInBounds_toArray, List.set_cons_zero, List.set_cons_succ]
        refine WL.val (by kernel_rfl) (.bool false) (by go_simp) ?_
        simp only [Act.put, List.setIfInBounds_toArray, List.set_cons_zero, List.set_cons_succ]
        refine WL.val (by kernel_rfl) (.pointer (some ⟨g, 3, none⟩)) (by go_simp) ?_
        simp only [Act.put, List.setIfInBounds_toArray, List.set_cons_zero, List.set_cons_succ]
        refine WL.val (by kernel_rfl) (.slice ba bn bk) (by go_simp) ?_
        simp only [Act.put, List.setIfInBounds_toArray, List.set_cons_zero, List.set_cons_succ]
        refine WL.val (by kernel_rfl) (.int .i64 (bn : Int)) (by go_simp) ?_
        simp only [Act.put, List.setIfInBounds_toArray, List.set_cons_zero, List.set_cons_succ]
        by_cases h6_13 : 0 < bn
        · have h6_13i : (0 : Int) < (bn : Int) := by omega
          refine WL.val (by kernel_rfl) (.bool true) (by go_simp) ?_
          simp only [Act.put, List.setIfInBounds_toArray, List.set_cons_zero, List.set_cons_succ]
          refine WL.val (by kernel_rfl) (.bool true) (by go_simp) ?_
          simp only [Act.put, List.setIfInBounds_toArray, List.set_cons_zero, List.set_cons_succ]
          refine WL.val (by kernel_rfl) (.bool true) (by go_simp) ?_
          simp only [Act.put, List.setIfInBounds_toArray, List.set_cons_zero, List.set_cons_succ]
          refine WL.skip (by kernel_rfl) ?_
          simp only [Act.put, List.setIfInBounds_toArray, List.set_cons_zero, List.set_cons_succ]
          refine WL.skip (by kernel_rfl) ?_
          simp only [Act.put, List.setIfInBounds_toArray, List.set_cons_zero, List.set_cons_succ]
          refine WL.skip (by kernel_rfl) ?_
          simp only [Act.put, List.setIfInBounds_toArray, List.set_cons_zero, List.set_cons_succ]
          refine WL.skip (by kernel_rfl) ?_
          simp only [Act.put, List.setIfInBounds_toArray, List.set_cons_zero, List.set_cons_succ]
          refine WL.val (by kernel_rfl) (.bool true) (by go_simp) ?_
          simp only [Act.put, List.setIfInBounds_toArray, List.set_cons_zero, List.set_cons_succ]
          refine WL.val (by kernel_rfl) (.bool true) (by go_simp) ?_
          simp only [Act.put, List.setIfInBounds_toArray, List.set_cons_zero, List.set_cons_succ]
          refine WL.skip (by kernel_rfl) ?_
          simp only [Act.put, List.setIfInBounds_toArray, List.set_cons_zero, List.set_cons_succ]
          refine WL.skip (by kernel_rfl) ?_
          simp only [Act.put, List.setIfInBounds_toArray, List.set_cons_zero, List.set_cons_succ]
          refine WL.skip (by kernel_rfl) ?_
          simp only [Act.put, List.setIfInBounds_toArray, List.set_cons_zero, List.set_cons_succ]
          refine WL.skip (by kernel_rfl) ?_
          simp only [Act.put, List.setIfInBounds_toArray, List.set_cons_zero, List.set_cons_succ]
          refine WL.val (by kernel_rfl) (.bool true) (by go_simp) ?_
          simp only [Act.put, List.setIfInBounds_toArray, List.set_cons_zero, List.set_cons_succ]
          refine WL.val (by kernel_rfl) (.bool true) (by go_simp) ?_
          simp only [Act.put, List.setIfInBounds_toArray, List.set_cons_zero, List.set_cons_succ]
          refine WL.nil ?_
          refine hK10 _ _ ?_
          refine wp_ret ?_
          go_ret
          exact ⟨by rw [HV.out]; simp [*], by rw [← HgE.out]; exact Hgr.out⟩
        · have h6_13i : ¬ (0 : Int) < (bn : Int) := by omega
          refine WL.val (by kernel_rfl) (.bool false) (by go_simp) ?_
          simp only [Act.put, List.setIfInBounds_toArray, List.set_cons_zero, List.set_cons_succ]
          refine WL.val (by kernel_rfl) (.bool false) (by go_simp) ?_
          simp only [Act.put, List.setIfInBounds_toArray, List.set_cons_zero, List.set_cons_succ]
          refine WL.val (by kernel_rfl) (.bool false) (by go_simp) ?_
          simp only [Act.put, List.setIfInBounds_toArray, List.set_cons_zero, List.set_cons_succ]
          refine WL.val (by kernel_rfl) (.pointer (some ⟨g, 4, none⟩)) (by go_simp) ?_
          simp only [Act.put, List.setIfInBounds_toArray, List.set_cons_zero, List.set_cons_succ]
          refine WL.val (by kernel_rfl) (.slice wa wn wk) (by go_simp) ?_
          simp only [Act.put, List.setIfInBounds_toArray, List.set_cons_zero, List.set_cons_succ]
          refine WL.val (by kernel_rfl) (.int .i64 (wn : Int)) (by go_simp) ?_
          simp only [Act.put, List.setIfInBounds_toArray, List.set_cons_zero, List.set_cons_succ]
          by_cases h6_19 : 0 < wn
          · have h6_19i : (0 : Int) < (wn : Int) := by omega
            refine WL.val (by kernel_rfl) (.bool true) (by go_simp) ?_
            simp only [Act.put, List.setIfInBounds_toArray, List.set_cons_zero, List.set_cons_succ]
            refine WL.val (by kernel_rfl) (.bool true) (by go_simp) ?_
            simp only [Act.put, List.setIfInBounds_toArray, List.set_cons_zero, List.set_cons_succ]
            refine WL.val (by kernel_rfl) (.bool true) (by go_simp) ?_
            simp only [Act.put, List.setIfInBounds_toArray, List.set_cons_zero, List.set_cons_succ]
            refine WL.skip (by kernel_rfl) ?_
            simp only [Act.put, List.setIfInBounds_toArray, List.set_cons_zero, List.set_cons_succ]
            refine WL.skip (by kernel_rfl) ?_
            simp only [Act.put, List.setIfInBounds_toArray, List.set_cons_zero, List.set_cons_succ]
            refine WL.skip (by kernel_rfl) ?_
            simp only [Act.put, List.setIfInBounds_toArray, List.set_cons_zero, List.set_cons_succ]
            refine WL.skip (by kernel_rfl) ?_
            simp only [Act.put, List.setIfInBounds_toArray, List.set_cons_zero, List.set_cons_succ]
            refine WL.val (by kernel_rfl) (.bool true) (by go_simp) ?_
            simp only [Act.put, List.setIfInBounds_toArray, List.set_cons_zero, List.set_cons_succ]
            refine WL.val (by kernel_rfl) (.bool true) (by go_simp) ?_
            simp only [Act.put, List.setIfInBounds_toArray, List.set_cons_zero, List.set_cons_succ]
            refine WL.nil ?_
            refine hK10 _ _ ?_
            refine wp_ret ?_
            go_ret
            exact ⟨by rw [HV.out]; simp [*], by rw [← HgE.out]; exact Hgr.out⟩
          · have h6_19i : ¬ (0 : Int) < (wn : Int) := by omega
            refine WL.val (by kernel_rfl) (.bool false) (by go_simp) ?_
            simp only [Act.put, List.setIfInBounds_toArray, List.set_cons_zero, List.set_cons_succ]
            refine WL.val (by kernel_rfl) (.bool false) (by go_simp) ?_
            simp only [Act.put, List.setIfInBounds_toArray, List.set_cons_zero, List.set_cons_succ]
            refine WL.val (by kernel_rfl) (.bool false) (by go_simp) ?_
            simp only [Act.put, List.setIfInBounds_toArray, List.set_cons_zero, List.set_cons_succ]
            refine WL.val (by kernel_rfl) (.pointer (some ⟨g, 5, none⟩)) (by go_simp) ?_
            simp only [Act.put, List.setIfInBounds_toArray, List.set_cons_zero, List.set_cons_succ]
            refine WL.val (by kernel_rfl) (.slice xa xn xk) (by go_simp) ?_
            simp only [Act.put, List.setIfInBounds_toArray, List.set_cons_zero, List.set_cons_succ]
            refine WL.val (by kernel_rfl) (.int .i64 (xn : Int)) (by go_simp) ?_
            simp only [Act.put, List.setIfInBounds_toArray, List.set_cons_zero, List.set_cons_succ]
            by_cases h6_25 : 0 < xn
            · have h6_25i : (0 : Int) < (xn : Int) := by omega
              refine WL.val (by kernel_rfl) (.bool true) (by go_simp) ?_
              simp only [Act.put, List.setIfInBounds_toArray, List.set_cons_zero, List.set_cons_succ]
              refine WL.val (by kernel_rfl) (.bool true) (by go_simp) ?_
              simp only [Act.put, List.setIfInBounds_toArray, List.set_cons_zero, List.set_cons_succ]
              refine WL.val (by kernel_rfl) (.bool true) (by go_simp) ?_
              simp only [Act.put, List.setIfInBounds_toArray, List.set_cons_zero, List.set_cons_succ]
              refine WL.nil ?_
              refine hK10 _ _ ?_
              refine wp_ret ?_
              go_ret
              exact ⟨by rw [HV.out]; simp [*], by rw [← HgE.out]; exact Hgr.out⟩
            · have h6_25i : ¬ (0 : Int) < (xn : Int) := by omega
              refine WL.val (by kernel_rfl) (.bool false) (by go_simp) ?_
              simp only [Act.put, List.setIfInBounds_toArray, List.set_cons_zero, List.set_cons_succ]
              refine WL.val (by kernel_rfl) (.bool false) (by go_simp) ?_
              simp only [Act.put, List.setIfInBounds_toArray, List.set_cons_zero, List.set_cons_succ]
              refine WL.val (by kernel_rfl) (.bool false) (by go_simp) ?_
              simp only [Act.put, List.setIfInBounds_toArray, List.set_cons_zero, List.set_cons_succ]
              refine WL.nil ?_
              refine hK10 _ _ ?_
              refine wp_ret ?_
              go_ret
              exact ⟨by rw [HV.out]; simp [*], by rw [← HgE.out]; exact Hgr.out⟩
      · skip
        refine WL.val (by kernel_rfl) (.bool true) (by go_simp) ?_
        simp only [Act.put, List.setIfInBounds_toArray, List.set_cons_zero, List.set_cons_succ]
        refine WL.val (by kernel_rfl) (.bool true) (by go_simp) ?_
        simp only [Act.put, List.setIfInBounds_toArray, List.set_cons_zero, List.set_cons_succ]
        refine WL.val (by kernel_rfl) (.bool true) (by go_simp) ?_
        simp only [Act.put, List.setIfInBounds_toArray, List.set_cons_zero, List.set_cons_succ]
        refine WL.skip (by kernel_rfl) ?_
        simp only [Act.put, List.setIfInBounds_toArray, List.set_cons_zero, List.set_cons_succ]
        refine WL.skip (by kernel_rfl) ?_
        simp only [Act.put, List.setIfInBounds_toArray, List.set_cons_zero, List.set_cons_succ]
        refine WL.skip (by kernel_rfl) ?_
        simp only [Act.put, List.setIfInBounds_toArray, List.set_cons_zero, List.set_cons_succ]
        refine WL.skip (by kernel_rfl) ?_
        simp only [Act.put, List.setIfInBounds_toArray, List.set_cons_zero, List.set_cons_succ]
        refine WL.val (by kernel_rfl) (.bool true) (by go_simp) ?_
        simp only [Act.put, List.setIfInBounds_toArray, List.set_cons_zero, List.set_cons_succ]
        refine WL.val (by kernel_rfl) (.bool true) (by go_simp) ?_
        simp only [Act.put, List.setIfInBounds_toArray, List.set_cons_zero, List.set_cons_succ]
        refine WL.skip (by kernel_rfl) ?_
        simp only [Act.put, List.setIfInBounds_toArray, List.set_cons_zero, List.set_cons_succ]
        refine WL.skip (by kernel_rfl) ?_
        simp only [Act.put, List.setIfInBounds_toArray, List.set_cons_zero, List.set_cons_succ]
        refine WL.skip (by kernel_rfl) ?_
        simp only [Act.put, List.setIfInBounds_toArray, List.set_cons_zero, List.set_cons_succ]
        refine WL.skip (by kernel_rfl) ?_
        simp only [Act.put, List.setIfInBounds_toArray, List.set_cons_zero, List.set_cons_succ]
        refine WL.val (by kernel_rfl) (.bool true) (by go_simp) ?_
        simp only [Act.put, List.setIfInBounds_toArray, List.set_cons_zero, List.set_cons_succ]
        refine WL.val (by kernel_rfl) (.bool true) (by go_simp) ?_
        simp only [Act.put, List.setIfInBounds_toArray, List.set_cons_zero, List.set_cons_succ]
        refine WL.skip (by kernel_rfl) ?_
        simp only [Act.put, List.setIfInBounds_toArray, List.set_cons_zero, List.set_cons_succ]
        refine WL.skip (by kernel_rfl) ?_
        simp only [Act.put, List.setIfInBounds_toArray, List.set_cons_zero, List.set_cons_succ]
        refine WL.skip (by kernel_rfl) ?_
        simp only [Act.put, List.setIfInBounds_toArray, List.set_cons_zero, List.set_cons_succ]
        refine WL.skip (by kernel_rfl) ?_
        simp only [Act.put, List.setIfInBounds_toArray, List.set_cons_zero, List.set_cons_succ]
        refine WL.val (by kernel_rfl) (.bool true) (by go_simp) ?_
        simp only [Act.put, List.setIfInBounds_toArray, List.set_cons_zero, List.set_cons_succ]
        refine WL.val (by kernel_rfl) (.bool true) (by go_simp) ?_
        simp only [Act.put, List.setIfInBounds_toArray, List.set_cons_zero, List.set_cons_succ]
        refine WL.nil ?_
        refine hK10 _ _ ?_
        refine wp_ret ?_
        go_ret
        exact ⟨by rw [HV.out]; simp [*], by rw [← HgE.out]; exact Hgr.out⟩
end Go.Proofs.Ytkcdoamohiaiaaa
