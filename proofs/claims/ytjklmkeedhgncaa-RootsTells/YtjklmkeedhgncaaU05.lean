import Derived.Test.YtjklmkeedhgncaaU04
import Derived.Test.YtjklmkeedhgncaaU01
import Derived.Lib.Bytealg
import Derived.LoopN
import Derived.Deep.RegionHeld3
import Derived.ArgAppend
import Derived.Lib.ConvBytes
namespace Go.Proofs.Ytjklmkeedhgncaa
open Go.RowKit
set_option linter.unusedSimpArgs false
set_option linter.unusedVariables false
def HPa (B : Nat) (w : World) (v : Value) (ps : List Hs) : Prop :=
  (∃ a c, v = .slice a 0 c ∧ ps = []) ∨ ∃ b off cap, v = .slice (some ⟨b, off, none⟩) ps.length cap ∧ ps.length ≤ cap ∧ b < B ∧ w.rangeAt b off (flatH ps)
theorem HPa.below {B : Nat} {w w' : World} {v : Value} {ps : List Hs} (h : HPa B w v ps) (hb : Below B w w') : HPa B w' v ps := by
  rcases h with h | ⟨b, off, cap, h1, h2, h3, h4⟩
  · exact .inl h
  · exact .inr ⟨b, off, cap, h1, h2, h3, rangeAt_below h4 hb h3⟩
theorem Try.elemHs : Try.prog.elem 67 = 25 := by kernel_rfl
theorem Try.sizeOfHs (w : World) : (sizeOf 25).run Try.prog w = .ok 32 w := by kernel_rfl
theorem slH_u : Try.prog.underlying 67 = some (.slice (Try.prog.elem 67)) := by rw [Try.elemHs]; exact Try.underlying67
theorem slH_h (a : Option Addr) (n c i : Nat) (hi : i ≤ c) (w : World) : (Instr.sliceAt 67 (.slice a n c) none (some (.int .i64 (i : Int))) none).run Try.prog w = .ok (.slice a i c) w := by
  have h1 := run_slice_h (P := Try.prog) (w := w) 67 a n c slH_u .i64 (i : Int) (by omega) (by omega)
  have h2 := run_sliceAt_slice (P := Try.prog) (w := w) 67 (.slice a n c) none (some (.int .i64 (i : Int))) none slH_u
  rw [h2, h1, Try.elemHs, Try.sizeOfHs, Result.andThen_ok, Int.toNat_natCast]
  have h4 : (if c = 0 then a else a.map (·.add (0 * 32))) = a := by
    split
    · rfl
    · cases a <;> rfl
  simp only [sliced, Nat.sub_zero, h4]
def climbL (n i : Nat) (h : List Int) (ps : List Hs) : Option (List Int × List (List Int)) := RtP.climb shaL (ps.length + 1) n i h (ps.reverse.map hsL)
def CP (B x n i : Nat) (h : List Int) (ps : List Hs) (R : List (List Int)) (w : World) (e : Ending) (w' : World) : Prop :=
  ∃ (c : Nat → Int) (ok : Bool) (rs : List (List Int)), e = .returned (.tuple #[.agg (bytesA 32 c), .bool ok]) ∧ BkH B w' x (R ++ rs) ∧ rs.length ≤ ps.length ∧ Grown w w' (BkS B w) ∧
    (match climbL n i h ps with | some (t, rt) => ok = true ∧ bytesA 32 c = bytesA 32 (hof t) ∧ rs = rt | none => ok = false)
theorem climbL_end (i : Nat) (h : List Int) (ps : List Hs) : climbL 1 i h ps = if ps.length = 0 then some (h, []) else none := by
  unfold climbL RtP.climb
  rw [if_pos (Nat.le_refl _)]
  cases e : ps.reverse with
  | nil => have : ps = [] := by simpa using e
           subst this; rfl
  | cons y r => have hl : ps.length ≠ 0 := fun h0 => by have := List.eq_nil_of_length_eq_zero h0; subst this; simp at e
                rw [if_neg hl]; rfl
theorem climbL_short {n : Nat} (i : Nat) (h : List Int) (hn : ¬ n ≤ 1) : climbL n i h [] = none := by
  unfold climbL RtP.climb
  rw [if_neg hn]; rfl
theorem climbL_lo {n i : Nat} {h : List Int} {qs : List Hs} {y : Hs} (hn : ¬ n ≤ 1) (hi : i < RtP.half n) : climbL n i h (qs ++ [y]) = (match climbL (RtP.half n) i h qs with | some (x, rs) => some (shaL (RtP.innR x (hsL y)), rs ++ [RtP.innR x (hsL y)]) | none => none) := by
  unfold climbL
  have e : ((qs ++ [y]).reverse).map hsL = hsL y :: qs.reverse.map hsL := by simp
  rw [List.length_append, List.length_singleton, e, RtP.climb, if_neg hn]
  simp only [hi, if_true]
  generalize RtP.climb shaL (qs.length + 1) (RtP.half n) i h (List.map hsL qs.reverse) = z
  cases z <;> rfl
theorem climbL_hi {n i : Nat} {h : List Int} {qs : List Hs} {y : Hs} (hn : ¬ n ≤ 1) (hi : ¬ i < RtP.half n) : climbL n i h (qs ++ [y]) = (match climbL (n - RtP.half n) (i - RtP.half n) h qs with | some (x, rs) => some (shaL (RtP.innR (hsL y) x), rs ++ [RtP.innR (hsL y) x]) | none => none) := by
  unfold climbL
  have e : ((qs ++ [y]).reverse).map hsL = hsL y :: qs.reverse.map hsL := by simp
  rw [List.length_append, List.length_singleton, e, RtP.climb, if_neg hn]
  simp only [hi, if_false]
  generalize RtP.climb shaL (qs.length + 1) (n - RtP.half n) (i - RtP.half n) h (List.map hsL qs.reverse) = z
  cases z <;> rfl
theorem hl_of_arr {a b : Nat → Int} (h : bytesA 32 a = bytesA 32 b) : hl 32 a = hl 32 b := by
  simp only [hl]
  refine List.map_congr_left fun i hi => ?_
  have h1 := bytesA_get 32 a i (List.mem_range.1 hi)
  rw [h, bytesA_get 32 b i (List.mem_range.1 hi)] at h1
  simpa using h1.symm

theorem Try.in67 (w : World) (vs : Array Value) : (callFunc 67 vs).run Try.prog w = .ok (.enter 67 vs) w := by kernel_rfl
theorem Try.in68 (w : World) (vs : Array Value) : (callFunc 68 vs).run Try.prog w = .ok (.enter 68 vs) w := by kernel_rfl
theorem Try.in66 (w : World) (vs : Array Value) : (callFunc 66 vs).run Try.prog w = .ok (.enter 66 vs) w := by kernel_rfl
theorem Try.in46 (w : World) (vs : Array Value) : (callFunc 46 vs).run Try.prog w = .ok (.enter 46 vs) w := by kernel_rfl
theorem Try.in28 (w : World) (vs : Array Value) : (callFunc 28 vs).run Try.prog w = .ok (.enter 28 vs) w := by kernel_rfl
set_option maxRecDepth 8000 in
theorem isk_any (k : Int) (w : World) : Calls Try.prog 28 #[.int .i64 k] w fun e w' => e = .returned (.bool (kmay k)) ∧ w' = w := by
  by_cases h1 : 1 ≤ k
  · by_cases h2 : k ≤ 4
    · go_enter Try.func28, Try.ntmps28
      go_wp2
      go_ret
      simp [kmay, h1, h2]
    · go_enter Try.func28, Try.ntmps28
      go_wp2
      go_ret
      simp [kmay, h1, h2]
  · go_enter Try.func28, Try.ntmps28
    go_wp2
    go_ret
    have : decide (1 ≤ k) = false := by simp; omega
    simp [kmay, this]
def sI (a b : ByteArray) : Int := Lib.compareBytes a.data.toList b.data.toList
set_option maxRecDepth 8000 in
theorem bcmp_any (a b : ByteArray) (w : World) : Calls Try.prog 86 #[.string a, .string b] w fun e w' => e = .returned (.int .i64 (sI a b)) ∧ w' = w := by
  go_enter Try.func86, Try.ntmps86
  go_wp2
  rw [run_callFunc_extern Try.func96 (by kernel_rfl) (by kernel_rfl) (by kernel_rfl) (e := Extern.BytealgCompare.compare) (by kernel_rfl), Lib.run_compareString]
  simp only [Result.andThen]
  rw [Oper.upon_value]
  go_wp2
  go_ret
  exact ⟨rfl, rfl⟩
set_option maxRecDepth 8000 in
theorem scmp_any (a b : ByteArray) (w : World) : Calls Try.prog 68 #[.string a, .string b] w fun e w' => e = .returned (.int .i64 (sI a b)) ∧ w' = w := by
  go_enter Try.func68, Try.ntmps68
  go_wp2_with (go_at_call 86; refine (bcmp_any _ _ _).mono ?_; rintro e w' ⟨rfl, rfl⟩)
  go_ret
  exact ⟨rfl, rfl⟩
theorem nan_any (a : Int) (w : World) : Calls Try.prog 85 #[.int .i64 a] w fun e w' => e = .returned (.bool false) ∧ w' = w := by
  go_enter Try.func85, Try.ntmps85
  go_wp2
  go_ret
  simp
def cI (a b : Int) : Int := if a < b then -1 else if b < a then 1 else 0
set_option maxRecDepth 8000 in
theorem icmp_any (a b : Int) (w : World) : Calls Try.prog 67 #[.int .i64 a, .int .i64 b] w fun e w' => e = .returned (.int .i64 (cI a b)) ∧ w' = w := by
  by_cases h1 : a < b
  · go_enter Try.func67, Try.ntmps67
    go_wp2_with (go_at_call 85; refine (nan_any _ _).mono ?_; rintro e w' ⟨rfl, rfl⟩)
    go_ret
    simp [cI, h1]
  · by_cases h2 : b < a
    · go_enter Try.func67, Try.ntmps67
      go_wp2_with (go_at_call 85; refine (nan_any _ _).mono ?_; rintro e w' ⟨rfl, rfl⟩)
      go_ret
      simp [cI, h1, h2]
    · go_enter Try.func67, Try.ntmps67
      go_wp2_with (go_at_call 85; refine (nan_any _ _).mono ?_; rintro e w' ⟨rfl, rfl⟩)
      go_ret
      unfold cI
      rw [if_neg (by omega), if_neg (by omega)]
      exact ⟨rfl, rfl⟩
set_option maxRecDepth 8000 in
theorem or_any (g : Nat) (a b : Int) (w : World) (h : Blk w g 3 #[.int .i64 a, .int .i64 b]) : Calls Try.prog 66 #[.slice (some ⟨g, 0, none⟩) 2 2] w fun e w' => e = .returned (.int .i64 (if a = 0 then b else a)) ∧ w' = w := by
  have h0 := h.c 0 (v := .int .i64 a) rfl
  have h1 := h.c 1 (v := .int .i64 b) rfl
  clear h
  by_cases ha : a = 0
  · by_cases hb : b = 0
    · subst ha hb
      go_enter Try.func66, Try.ntmps66
      go_wp2
      refine wp_loop_rounds 3 ?_
      rw [rounds_succ]; go_wp2
      rw [rounds_succ]; go_wp2
      rw [rounds_succ]; go_wp2
      go_ret
      simp
    · subst ha
      have hb' : (b == 0) = false := by simpa using hb
      go_enter Try.func66, Try.ntmps66
      go_wp2
      refine wp_loop_rounds 3 ?_
      rw [rounds_succ]; go_wp2
      rw [rounds_succ]; go_wp2
      go_ret
      simp
  · have ha' : (a == 0) = false := by simpa using ha
    go_enter Try.func66, Try.ntmps66
    go_wp2
    refine wp_loop_rounds 3 ?_
    rw [rounds_succ]; go_wp2
    go_ret
    simp
theorem wp_bs {P : Program} {o : Oper} {a : Act} {w : World} {K : Act → World → Prop} {Q : Exit → Act → World → Prop} (t : TypeId) (n : Nat) (parts : Array (Nat × Operand)) (ho : o.op = .buildSlice t n parts) (vs : Array (Nat × Value)) (hv : (parts.map fun (i, x) => (i, a.eval x)) = vs) (v : Value) (w' : World)
    (hr : (Instr.buildSlice t n vs).run P w = .ok v w') (h : K (a.put o.dst v) w') : o.wp P a w K Q := by
  have hrun : (execOp a.eval o).run P w = .ok (.value v) w' := by
    unfold execOp
    simp only [ho, hv, Sem.run_bind, hr, Result.andThen_ok]
    rfl
  unfold Oper.wp
  rw [hrun, Oper.upon_value]
  exact h
def stI (k : Int) (s : ByteArray) (j : Int) (t : ByteArray) : Int := if cI k j = 0 then sI s t else cI k j
theorem bsI2 (a b : Int) (w : World) : (Instr.buildSlice 64 2 #[(0, .int .i64 a), (1, .int .i64 b)]).run Try.prog w = .ok (.slice (some ⟨w.heap.size, 0, none⟩) 2 2) (w.alloc (.cells #[.int .i64 a, .int .i64 b] 3)) := by kernel_rfl
set_option maxRecDepth 8000 in
theorem stands_any (k j : Int) (s t : ByteArray) (vv : Value) (w : World) :
    Calls Try.prog 46 #[.agg #[.int .i64 k, .string s, vv], .int .i64 j, .string t] w fun e w' => e = .returned (.int .i64 (stI k s j t)) ∧ Below w.heap.size w w' := by
  go_enter Try.func46, Try.ntmps46
  refine wp_seq_k fun K1 hK1 => ?_
  refine wp_region_list (WL.out ?_)
  refine WL.box (by kernel_rfl) 40 (.tmp 0) rfl #[.int .i64 k, .string s, vv] rfl ?_
  have C1 := Keep.mk (Blk.new w 40 #[.int .i64 k, .string s, vv])
  have b1 := Keep.mk (below_new w (.cells #[.int .i64 k, .string s, vv] 40))
  change WL _ _ _ _ _ (w.alloc (.cells #[.int .i64 k, .string s, vv] 40))
  generalize w.alloc (.cells #[.int .i64 k, .string s, vv] 40) = w1 at *
  obtain ⟨c, hc0⟩ : ∃ z, Keep (z = w.heap.size) := ⟨_, ⟨rfl⟩⟩
  rw [← hc0.out] at C1 ⊢
  have c0 := C1.out.c 0 (by rfl : (#[.int .i64 k, .string s, vv] : Array Value)[0]? = some (.int .i64 k))
  have c1 := C1.out.c 1 (by rfl : (#[.int .i64 k, .string s, vv] : Array Value)[1]? = some (.string s))
  simp only [Act.put, List.setIfInBounds_toArray, List.set_cons_zero, List.set_cons_succ]
  refine WL.val (by kernel_rfl) (.int .i64 0) (by go_simp) ?_
  simp only [Act.put, List.setIfInBounds_toArray, List.set_cons_zero, List.set_cons_succ]
  refine WL.nil ?_
  refine hK1 _ _ ?_
  refine wp_seq_k fun K2 hK2 => ?_
  have HL1 : Keep (c < w1.heap.size) := ⟨C1.out.lt⟩
  refine wp_region_held_drew (S := fun wx => wx.cell? ⟨c, 0, none⟩ = some (.int .i64 k) ∧ wx.cell? ⟨c, 1, none⟩ = some (.string s)) (by kernel_rfl) (⟨c0, c1⟩) (fun hHeld => ?_)
  refine wpAnyH_take (i := 0) (oi := ⟨some 7, Op.fieldAddr 40 (Operand.tmp 3) 0, 0, _, _, none⟩) (v := .pointer (some ⟨c, 0, none⟩)) rfl (by kernel_rfl) (by kernel_rfl) (by kernel_rfl) (fun _ _ _ h => h) (Or.inl ⟨by rfl, fun w hS => by obtain ⟨hS1, hS2⟩ := hS; go_simp⟩) hHeld ?_
  simp only [Act.put, List.setIfInBounds_toArray, List.set_cons_zero, List.set_cons_succ]
  refine wpAnyH_take (i := 2) (oi := ⟨some 9, Op.move (Operand.tmp 1), 3, _, _, none⟩) (v := .int .i64 j) rfl (by kernel_rfl) (by kernel_rfl) (by kernel_rfl) (fun _ _ _ h => h) (Or.inl ⟨by rfl, fun w hS => by obtain ⟨hS1, hS2⟩ := hS; go_simp⟩) hHeld ?_
  simp only [Act.put, List.setIfInBounds_toArray, List.set_cons_zero, List.set_cons_succ]
  refine wpAnyH_take (i := 4) (oi := ⟨some 11, Op.fieldAddr 40 (Operand.tmp 3) 1, 0, _, _, none⟩) (v := .pointer (some ⟨c, 1, none⟩)) rfl (by kernel_rfl) (by kernel_rfl) (by kernel_rfl) (fun _ _ _ h => h) (Or.inl ⟨by rfl, fun w hS => by obtain ⟨hS1, hS2⟩ := hS; go_simp⟩) hHeld ?_
  simp only [Act.put, List.setIfInBounds_toArray, List.set_cons_zero, List.set_cons_succ]
  refine wpAnyH_take (i := 6) (oi := ⟨some 13, Op.move (Operand.tmp 2), 9, _, _, none⟩) (v := .string t) rfl (by kernel_rfl) (by kernel_rfl) (by kernel_rfl) (fun _ _ _ h => h) (Or.inl ⟨by rfl, fun w hS => by obtain ⟨hS1, hS2⟩ := hS; go_simp⟩) hHeld ?_
  simp only [Act.put, List.setIfInBounds_toArray, List.set_cons_zero, List.set_cons_succ]
  refine wpAnyH_take (i := 1) (oi := ⟨some 8, Op.load 3 (Operand.tmp 7), 3, _, _, none⟩) (v := .int .i64 k) rfl (by kernel_rfl) (by kernel_rfl) (by kernel_rfl) (fun _ _ _ h => h) (Or.inl ⟨by rfl, fun w hS => by obtain ⟨hS1, hS2⟩ := hS; go_simp⟩) hHeld ?_
  simp only [Act.put, List.setIfInBounds_toArray, List.set_cons_zero, List.set_cons_succ]
  refine wpAnyH_take (i := 5) (oi := ⟨some 12, Op.load 9 (Operand.tmp 11), 9, _, _, none⟩) (v := .string s) rfl (by kernel_rfl) (by kernel_rfl) (by kernel_rfl) (fun _ _ _ h => h) (Or.inl ⟨by rfl, fun w hS => by obtain ⟨hS1, hS2⟩ := hS; go_simp⟩) hHeld ?_
  simp only [Act.put, List.setIfInBounds_toArray, List.set_cons_zero, List.set_cons_succ]
  refine wpAnyH_ready (rs := [3]) (by kernel_rfl) (by simp) ?_
  refine AllReadyH.cons (o := ⟨some 10, Op.call { callee := Callee.value (Operand.func 67), args := #[Operand.tmp 8, Operand.tmp 9], argTypes := #[3, 3] }, 3, _, _, none⟩) rfl (fun K hK => ?_) AllReadyH.nil
  rw [if_pos (by rfl)]
  refine wp_callF 67 _ _ rfl Try.in67 #[.int .i64 k, .int .i64 j] (by simp [Act.eval]) (fun vz wz => vz = .int .i64 (cI k j) ∧ wz = w1.drew) ?_ ?_
  · refine (icmp_any k j _).mono ?_
    rintro e wz ⟨rfl, rfl⟩
    exact ⟨_, rfl, rfl, rfl⟩
  rintro vz wz ⟨rfl, rfl⟩
  skip
  refine hK _ _ (⟨c0, c1⟩) fun hH1 => ?_
  clear hK
  simp only [Act.put, List.setIfInBounds_toArray, List.set_cons_zero, List.set_cons_succ]
  refine wpAnyH_ready (rs := [7]) (by kernel_rfl) (by simp) ?_
  refine AllReadyH.cons (o := ⟨some 14, Op.call { callee := Callee.value (Operand.func 68), args := #[Operand.tmp 12, Operand.tmp 13], argTypes := #[9, 9] }, 3, _, _, none⟩) rfl (fun K hK => ?_) AllReadyH.nil
  rw [if_pos (by rfl)]
  refine wp_callF 68 _ _ rfl Try.in68 #[.string s, .string t] (by simp [Act.eval]) (fun vz wz => vz = .int .i64 (sI s t) ∧ wz = w1.drew) ?_ ?_
  · refine (scmp_any s t _).mono ?_
    rintro e wz ⟨rfl, rfl⟩
    exact ⟨_, rfl, rfl, rfl⟩
  rintro vz wz ⟨rfl, rfl⟩
  skip
  refine hK _ _ (⟨c0, c1⟩) fun hH2 => ?_
  clear hK
  simp only [Act.put, List.setIfInBounds_toArray, List.set_cons_zero, List.set_cons_succ]
  refine wpAnyH_ready (rs := [8]) (by kernel_rfl) (by simp) ?_
  refine AllReadyH.cons (o := ⟨some 15, Op.buildSlice 64 2 #[(0, Operand.tmp 10), (1, Operand.tmp 14)], 64, _, _, none⟩) rfl (fun K hK => ?_) AllReadyH.nil
  rw [if_pos (by rfl)]
  refine wp_bs 64 2 _ rfl #[(0, .int .i64 (cI k j)), (1, .int .i64 (sI s t))] (by simp [Act.eval]) _ _ (bsI2 _ _ _) ?_
  have b2 : Below w1.heap.size w1 (w1.drew.alloc (.cells #[.int .i64 (cI k j), .int .i64 (sI s t)] 3)) := (Below.refl w1.heap.size w1).drew.trans (below_new w1.drew _)
  have Q2 := Keep.mk (Blk.new w1.drew 3 #[.int .i64 (cI k j), .int .i64 (sI s t)])
  generalize w1.drew.alloc (.cells #[.int .i64 (cI k j), .int .i64 (sI s t)] 3) = w2 at *
  obtain ⟨g, hg⟩ : ∃ z, Keep (z = w1.drew.heap.size) := ⟨_, ⟨rfl⟩⟩
  rw [← hg.out] at Q2 ⊢
  have C2 := Keep.mk (C1.out.below b2 HL1.out)
  have B2 : Keep (Below w.heap.size w w2) := ⟨b1.out.trans (b2.mono b1.out.size)⟩
  clear b2 c0 c1
  have c0 := C2.out.c 0 (by rfl : (#[.int .i64 k, .string s, vv] : Array Value)[0]? = some (.int .i64 k))
  have c1 := C2.out.c 1 (by rfl : (#[.int .i64 k, .string s, vv] : Array Value)[1]? = some (.string s))
  refine hK _ _ ⟨c0, c1⟩ fun hH3 => ?_
  clear hK
  simp only [Act.put, List.setIfInBounds_toArray, List.set_cons_zero, List.set_cons_succ]
  refine wpAnyH_ready (rs := [9]) (by kernel_rfl) (by simp) ?_
  refine AllReadyH.cons (o := ⟨some 16, Op.call { callee := Callee.value (Operand.func 66), args := #[Operand.tmp 15], argTypes := #[64] }, 3, _, _, none⟩) rfl (fun K hK => ?_) AllReadyH.nil
  rw [if_pos (by rfl)]
  refine wp_callF 66 _ _ rfl Try.in66 #[.slice (some ⟨g, 0, none⟩) 2 2] (by simp [Act.eval]) (fun vz wz => vz = .int .i64 (stI k s j t) ∧ wz = w2) ?_ ?_
  · refine (or_any g _ _ _ Q2.out).mono ?_
    rintro e wz ⟨rfl, rfl⟩
    exact ⟨_, rfl, rfl, rfl⟩
  rintro vz wz ⟨rfl, rfl⟩
  skip
  refine hK _ _ (⟨c0, c1⟩) fun hH4 => ?_
  clear hK
  simp only [Act.put, List.setIfInBounds_toArray, List.set_cons_zero, List.set_cons_succ]
  refine wpAnyH_take (i := 10) (oi := ⟨some 6, Op.assign (Operand.tmp 16), 3, _, _, none⟩) (v := .int .i64 (stI k s j t)) rfl (by kernel_rfl) (by kernel_rfl) (by kernel_rfl) (fun _ _ _ h => h) (Or.inl ⟨by rfl, fun w hS => by obtain ⟨hS1, hS2⟩ := hS; go_simp⟩) hH4 ?_
  simp only [Act.put, List.setIfInBounds_toArray, List.set_cons_zero, List.set_cons_succ]
  refine wpAnyH_done (by kernel_rfl) ?_ _
  refine hK2 _ _ ?_
  refine wp_ret ?_
  go_ret
  exact ⟨rfl, B2.out⟩
theorem cmpB_lt : ∀ a b : List UInt8, (Lib.compareBytes a b < 0) ↔ Op.bytesLess a b = true
  | [], [] => by simp [Lib.compareBytes, Op.bytesLess]
  | [], _ :: _ => by simp [Lib.compareBytes, Op.bytesLess]
  | _ :: _, [] => by simp [Lib.compareBytes, Op.bytesLess]
  | a :: x, b :: y => by
    have ih := cmpB_lt x y
    unfold Lib.compareBytes Op.bytesLess
    by_cases h1 : a < b
    · simp [h1]
    · by_cases h2 : b < a
      · have h3 : ¬ a = b := fun e => by subst e; exact UInt8.lt_irrefl _ h2
        simp [h1, h2, h3]
      · have h3 : a = b := UInt8.le_antisymm (UInt8.not_lt.1 h2) (UInt8.not_lt.1 h1)
        subst h3
        simp [UInt8.lt_irrefl, ih]
theorem cmpB_eq : ∀ a b : List UInt8, (Lib.compareBytes a b = 0) ↔ a = b
  | [], [] => by simp [Lib.compareBytes]
  | [], _ :: _ => by simp [Lib.compareBytes]
  | _ :: _, [] => by simp [Lib.compareBytes]
  | a :: x, b :: y => by
    have ih := cmpB_eq x y
    unfold Lib.compareBytes
    by_cases h1 : a < b
    · have h3 : ¬ a = b := fun e => by subst e; exact UInt8.lt_irrefl _ h1
      simp [h1, h3]
    · by_cases h2 : b < a
      · have h3 : ¬ a = b := fun e => by subst e; exact UInt8.lt_irrefl _ h2
        simp [h1, h2, h3]
      · have h3 : a = b := UInt8.le_antisymm (UInt8.not_lt.1 h2) (UInt8.not_lt.1 h1)
        subst h3
        simp [UInt8.lt_irrefl, ih]
theorem sI_lt (a b : ByteArray) : sI a b < 0 ↔ RtP.bl (lst a) (lst b) = true := by rw [sI, cmpB_lt, bytesLess_bl]; rfl
theorem sI_eq (a b : ByteArray) : sI a b = 0 ↔ a = b := by
  rw [sI, cmpB_eq]
  constructor
  · intro h
    rcases a with ⟨⟨a⟩⟩; rcases b with ⟨⟨b⟩⟩
    simp at h
    rw [h]
  · rintro rfl; rfl
theorem stI_lt (k : Int) (s : ByteArray) (j : Int) (t : ByteArray) : stI k s j t < 0 ↔ aheI k s j t = true := by
  unfold stI aheI cI
  by_cases h1 : k < j
  · simp [h1]
  · by_cases h2 : j < k
    · have : ¬ k = j := by omega
      simp [h1, h2, this]
    · have : k = j := by omega
      subst this
      simp [sI_lt]
theorem stI_eq (k : Int) (s : ByteArray) (j : Int) (t : ByteArray) : stI k s j t = 0 ↔ k = j ∧ s = t := by
  unfold stI cI
  by_cases h1 : k < j
  · have h3 : ¬ k = j := by omega
    simp [h1, h3]
  · by_cases h2 : j < k
    · have h3 : ¬ k = j := by omega
      simp [h1, h2, h3]
    · have : k = j := by omega
      subst this
      simp [sI_eq]

theorem Try.in41 (w : World) (vs : Array Value) : (callFunc 41 vs).run Try.prog w = .ok (.enter 41 vs) w := by kernel_rfl
theorem Try.in47 (w : World) (vs : Array Value) : (callFunc 47 vs).run Try.prog w = .ok (.enter 47 vs) w := by kernel_rfl
theorem Try.in51 (w : World) (vs : Array Value) : (callFunc 51 vs).run Try.prog w = .ok (.enter 51 vs) w := by kernel_rfl
theorem Try.in49 (w : World) (vs : Array Value) : (callFunc 49 vs).run Try.prog w = .ok (.enter 49 vs) w := by kernel_rfl
theorem Try.in69 (w : World) (vs : Array Value) : (callFunc 69 vs).run Try.prog w = .ok (.enter 69 vs) w := by kernel_rfl
theorem Try.in70 (w : World) (vs : Array Value) : (callFunc 70 vs).run Try.prog w = .ok (.enter 70 vs) w := by kernel_rfl
theorem Try.in71 (w : World) (vs : Array Value) : (callFunc 71 vs).run Try.prog w = .ok (.enter 71 vs) w := by kernel_rfl
theorem Try.in72 (w : World) (vs : Array Value) : (callFunc 72 vs).run Try.prog w = .ok (.enter 72 vs) w := by kernel_rfl
def RsV (w : World) (v : Value) (us : List Value) (rs : List (List Int)) : Prop :=
  us.length = rs.length ∧ (∀ (j : Nat) (u : Value) (l : List Int), us[j]? = some u → rs[j]? = some l → RowAt w u l) ∧
  ((v = .slice none 0 0 ∧ us = []) ∨ ∃ g cap, v = .slice (some ⟨g, 0, none⟩) us.length cap ∧ ∀ (j : Nat) (u : Value), us[j]? = some u → w.cell? ⟨g, j, none⟩ = some u)
theorem RsV.below {w w' : World} {v : Value} {us : List Value} {rs : List (List Int)} (h : RsV w v us rs) (hb : Below w.heap.size w w') : RsV w' v us rs := by
  obtain ⟨h1, h2, h3⟩ := h
  refine ⟨h1, fun j u l hu hl => (h2 j u l hu hl).below hb, ?_⟩
  rcases h3 with h3 | ⟨g, cap, e, hc⟩
  · exact .inl h3
  · refine .inr ⟨g, cap, e, fun j u hu => ?_⟩
    have hx := hc j u hu
    exact (Grown.below (S := fun _ => False) hb).cell hx (fun h => h)
theorem concat_flat (rs : List (List Int)) : ∀ n, n ≤ rs.length → concat (fun i => rs.getD i []) n = (rs.take n).flatten
  | 0, _ => by simp [concat]
  | n + 1, h => by
    rw [concat, concat_flat rs n (by omega), List.take_add_one, List.flatten_append]
    congr 1
    rw [List.getD_eq_getElem?_getD]
    cases e : rs[n]? with
    | none => rw [List.getElem?_eq_none_iff] at e; omega
    | some x => simp
theorem all_any (B : Nat) (v : Value) (us : List Value) (rs : List (List Int)) (w : World) (ho : w.ownsRow B 38 1 v us.length us) (hp : 0 < us.length) (he : us.length = rs.length) (hr : ∀ (j : Nat) (u : Value) (l : List Int), us[j]? = some u → rs[j]? = some l → RowAt w u l) (hn : us.length ≤ 1000) (hl : rs.flatten.length ≤ 1125899906842624) :
    Calls Try.prog 41 #[v] w fun e w' => e = .returned (.agg (bytesA 32 (shaP rs.flatten))) ∧ Below w.heap.size w w' := by
  obtain ⟨a, c, rfl⟩ := owns_sl ho
  obtain ⟨g, rfl, _, _⟩ := owns_at ho hp (List.getElem?_eq_getElem hp)
  have hc := concat_flat rs rs.length (Nat.le_refl _)
  rw [List.take_of_length_le (Nat.le_refl _)] at hc
  have h := ofAll_any g 0 us.length c (fun i => us.getD i undef) (fun i => rs.getD i []) w (fun i hi => by
    obtain ⟨g', e', h1, _⟩ := owns_at ho hi (List.getElem?_eq_getElem hi)
    injection e' with e'
    injection e' with e'
    subst e'
    rw [Nat.zero_add, h1, List.getD_eq_getElem?_getD, List.getElem?_eq_getElem hi]; rfl) (fun i hi => by
    refine hr i _ _ (?_ : us[i]? = some (us.getD i undef)) (?_ : rs[i]? = some (rs.getD i []))
    · rw [List.getD_eq_getElem?_getD, List.getElem?_eq_getElem hi]; rfl
    · rw [List.getD_eq_getElem?_getD, List.getElem?_eq_getElem (by omega : i < rs.length)]; rfl) (by omega) (by rw [he, hc]; omega)
  rw [he, hc, ← he] at h
  exact h
theorem run_appRs (w : World) (ty : TypeId) (B : Nat) (v vx : Value) (n : Nat) (xs us : List Value) (rs : List (List Int)) (hown : w.ownsRow B 38 1 v n xs) (hx : RsV w vx us rs) (hb : n + us.length ≤ 4398046511104) (hB : B ≤ w.heap.size) :
    ∃ v' w', (Builtin.append_ #[59, 59] ty #[v, vx]).run Try.prog w = .ok v' w' ∧ w'.ownsRow B 38 1 v' (n + us.length) (xs ++ us) ∧ (Grown w w' fun k => v.ownBlock = some k) ∧ (v'.ownBlock = v.ownBlock ∨ v'.ownBlock = some w.heap.size) := by
  obtain ⟨i, hi, hzz⟩ := Option.map_eq_some_iff.1 infoBy
  simp only [Prod.mk.injEq] at hzz
  obtain ⟨hz, hsz, hby⟩ := hzz
  obtain ⟨he, hr, ⟨rfl, rfl⟩ | ⟨g, cap, rfl, hc⟩⟩ := hx
  · have hrun := run_append_owned_none (P := Try.prog) (w := w) B 59 ty 38 i 1 Try.underlying59 hi v n xs hown
    exact ⟨v, w, hrun, by simpa using hown, Grown.refl _ _, .inl rfl⟩
  · obtain ⟨v', w', hr', h1, h2, _, h3⟩ := run_append_own_at (P := Try.prog) w B 59 ty 38 i (.slice none 0 0) 1 24 Try.underlying59 hi hz hsz hby rfl (by omega) v n xs hown ⟨g, 0, none⟩ us.length cap us (by omega) (fun j u hu => by
      have := hc j u hu
      rw [Addr.add_mid, Nat.zero_add]; exact this) (fun u hu => by
      obtain ⟨j, hj, e⟩ := List.getElem_of_mem hu
      obtain ⟨a, c, e'⟩ := row_form (hr j u (rs[j]'(by omega)) (by rw [List.getElem?_eq_getElem hj, e]) (List.getElem?_eq_getElem _))
      rw [e']; rfl) (by unfold maxLen; omega) (by omega) hB
    exact ⟨v', w', hr', h1, Grown.of h2 fun k _ e => e, h3⟩
theorem row_off {w : World} {u : Value} {l : List Int} {g : Nat} {T : TypeId} {a : Option Addr} {n c : Nat} (hg : Blk w g T #[.slice a n c]) (hu : RowAt w u l) (hl : l ≠ []) : u.ownBlock ≠ some g := by
  intro e
  rcases hu with ⟨rfl, rfl⟩ | ⟨a, c, rfl, rfl⟩ | ⟨q, off, cap, rfl, h1, h2⟩
  · exact hl rfl
  · exact hl rfl
  · have h3 := h2 0 (List.length_pos_iff.2 hl)
    have e' : q = g := by simpa [Value.ownBlock] using e
    rw [e', hg.cell] at h3
    have h4 := (Array.getElem?_eq_some_iff.1 h3).1
    simp at h4
    subst h4
    simp at h3
theorem WL.appRs {ops : Array Oper} {rest : List Oper} {o : Oper} {a : Act} {w : World} {Q : Exit → Act → World → Prop} (hw : Region.wanted o (yielded ops a.tmps) = true) (s x : Operand)
    (ho : o.op = .call { callee := .builtin .append, args := #[s, x], argTypes := #[59, 59] }) (v vx : Value) (B n : Nat) (xs us : List Value) (rs : List (List Int))
    (hs : a.eval s = v) (hx : a.eval x = vx) (hown : w.ownsRow B 38 1 v n xs) (hc : RsV w vx us rs) (hb : n + us.length ≤ 4398046511104) (hB : B ≤ w.heap.size)
    (h : ∀ v' w', w'.ownsRow B 38 1 v' (n + us.length) (xs ++ us) → (Grown w w' fun k => v.ownBlock = some k) → (v'.ownBlock = v.ownBlock ∨ v'.ownBlock = some w.heap.size) → WL Try.prog ops Q rest (a.put o.dst v') w') : WL Try.prog ops Q (o :: rest) a w :=
  ⟨wpList_wanted hw fun K hK => by
    obtain ⟨v', w', hr, h1, h2, h3⟩ := run_appRs w o.type B v vx n xs us rs hown hc hb hB
    unfold Oper.wp execOp
    simp only [ho, resolve, invoke, builtin, Sem.run_bind, Sem.run_pure, Result.andThen_ok, List.map_toArray, List.map_cons, List.map_nil, hs, hx, hr]
    exact hK _ _ (h v' w' h1 h2 h3).out⟩
set_option maxRecDepth 8000 in
theorem phash_any (m : Int) (vx : Value) (us : List Value) (rs : List (List Int)) (w : World) (hx : RsV w vx us rs) (hn : us.length ≤ 100) (hl : rs.flatten.length + 1 ≤ 1125899906842624) :
    Calls Try.prog 47 #[.int .u8 m, vx] w fun e w' => e = .returned (.agg (bytesA 32 (shaP (m :: rs.flatten)))) ∧ Below w.heap.size w w' := by
  have HX := Keep.mk hx
  have HN := Keep.mk hn
  have HL := Keep.mk hl
  clear hx hn hl
  go_enter Try.func47, Try.ntmps47
  refine wp_seq_k fun K1 hK1 => ?_
  refine wp_region_list (WL.out ?_)
  refine WL.new (by kernel_rfl) 25 rfl _ Try.new25 ?_
  have R1 := Keep.mk (Blk.new w 25 (bytesA 32 fun _ => 0))
  have b1 := Keep.mk (below_new w (.cells (bytesA 32 fun _ => 0) 25))
  change WL _ _ _ _ _ (w.alloc (.cells (bytesA 32 fun _ => 0) 25))
  generalize w.alloc (.cells (bytesA 32 fun _ => 0) 25) = w1 at *
  obtain ⟨r, hr0⟩ : ∃ z, Keep (z = w.heap.size) := ⟨_, ⟨rfl⟩⟩
  rw [← hr0.out] at R1 ⊢
  have hrw : Keep (w.heap.size ≤ r) := ⟨by rw [hr0.out]; exact Nat.le_refl _⟩
  have X1 := Keep.mk (HX.out.below b1.out)
  simp only [Act.put, List.setIfInBounds_toArray, List.set_cons_zero, List.set_cons_succ]
  refine WL.nil ?_
  refine hK1 _ _ ?_
  refine wp_seq_k fun K2 hK2 => ?_
  refine wp_region_list (WL.out ?_)
  refine WL.val (by kernel_rfl) (.int .u8 m) (by go_simp) ?_
  simp only [Act.put, List.setIfInBounds_toArray, List.set_cons_zero, List.set_cons_succ]
  refine WL.bs (by kernel_rfl) 38 1 _ rfl #[(0, .int .u8 m)] (by simp [Act.eval]) _ _ (bsK m w1) ?_
  have Y2 : Keep (RowAt (w1.alloc (.cells (bv [m]).toArray 5)) (.slice (some ⟨w1.heap.size, 0, none⟩) 1 1) [m]) := ⟨row_one w1 m⟩
  have b2 := Keep.mk (below_new w1 (.cells (bv [m]).toArray 5))
  generalize w1.alloc (.cells (bv [m]).toArray 5) = w2 at *
  obtain ⟨g1, hg1⟩ : ∃ z, Keep (z = w1.heap.size) := ⟨_, ⟨rfl⟩⟩
  rw [← hg1.out] at Y2 ⊢
  have R2 := Keep.mk (R1.out.below b2.out R1.out.lt)
  have B2 : Keep (Below w.heap.size w w2) := ⟨b1.out.trans (b2.out.mono b1.out.size)⟩
  have X2 := Keep.mk (X1.out.below b2.out)
  clear R1 b1 X1
  simp only [Act.put, List.setIfInBounds_toArray, List.set_cons_zero, List.set_cons_succ]
  refine WL.bs (by kernel_rfl) 59 1 _ rfl #[(0, .slice (some ⟨g1, 0, none⟩) 1 1)] (by simp [Act.eval]) _ _ (bsRw1 _ _ _ w2) ?_
  have O3 : Keep ((w2.alloc (.cells #[.slice (some ⟨g1, 0, none⟩) 1 1] 38)).ownsRow w2.heap.size 38 1 (.slice (some ⟨w2.heap.size, 0, none⟩) 1 1) 1 [.slice (some ⟨g1, 0, none⟩) 1 1]) := ⟨rfl, .inr ⟨w2.heap.size, 1, _, rfl, Nat.le_refl _, Blk.new w2 38 _, Nat.le_refl _, by decide, rfl, rfl⟩⟩
  have b3 := Keep.mk (below_new w2 (.cells #[.slice (some ⟨g1, 0, none⟩) 1 1] 38))
  have Q3 := Keep.mk (Blk.new w2 38 #[.slice (some ⟨g1, 0, none⟩) 1 1])
  generalize w2.alloc (.cells #[.slice (some ⟨g1, 0, none⟩) 1 1] 38) = w3 at *
  obtain ⟨g2, hg2⟩ : ∃ z, Keep (z = w2.heap.size) := ⟨_, ⟨rfl⟩⟩
  rw [← hg2.out] at O3 Q3 ⊢
  have R3 := Keep.mk (R2.out.below b3.out R2.out.lt)
  have Y3 := Keep.mk (Y2.out.below b3.out)
  have X3 := Keep.mk (X2.out.below b3.out)
  have B3 : Keep (Below w.heap.size w w3) := ⟨B2.out.trans (b3.out.mono B2.out.size)⟩
  have hrg : Keep (r ≠ g2) := ⟨by have := R2.out.lt; have := hg2.out; omega⟩
  have hgw : Keep (w.heap.size ≤ g2) := ⟨by have := B2.out.size; have := hg2.out; omega⟩
  have hgs : Keep (g2 ≤ w3.heap.size) := ⟨by rw [hg2.out]; exact b3.out.size⟩
  have NX3 : Keep (∀ (u : Value) (l : List Int), RowAt w3 u l → l ≠ [] → u.ownBlock ≠ some g2) := ⟨fun u l hu hl => row_off Q3.out hu hl⟩
  clear Q3
  clear R2 Y2 X2 b3 B2 b2
  simp only [Act.put, List.setIfInBounds_toArray, List.set_cons_zero, List.set_cons_succ]
  refine WL.val (by kernel_rfl) (vx) (by go_simp) ?_
  simp only [Act.put, List.setIfInBounds_toArray, List.set_cons_zero, List.set_cons_succ]
  refine WL.appRs (by kernel_rfl) (.tmp 7) (.tmp 8) rfl (.slice (some ⟨g2, 0, none⟩) 1 1) vx g2 1 _ us rs rfl rfl O3.out X3.out (by have := HN.out; omega) hgs.out ?_
  intro v4 w4 k1 k2 k3
  have O4 := Keep.mk k1
  have R4 := Keep.mk (k2.blk R3.out fun e => by simp [Value.ownBlock] at e; exact hrg.out e.symm)
  have B4 : Keep (Below w.heap.size w w4) := ⟨B3.out.trans (k2.to_below (fun k hk e => by simp [Value.ownBlock] at e; have := hgw.out; omega) B3.out.size)⟩
  have T4 : Keep (∀ (u : Value) (l : List Int), RowAt w3 u l → RowAt w4 u l) := ⟨fun u l hu => by
    by_cases hl : l = []
    · subst hl
      rcases hu with h | h | ⟨q, off, cap, h1, h2, h3⟩
      · exact .inl h
      · exact .inr (.inl h)
      · exact .inr (.inr ⟨q, off, cap, h1, h2, fun i hi => by simp at hi⟩)
    · exact hu.grown k2 fun k hk _ e => by simp [Value.ownBlock] at e; rw [← e] at hk; exact NX3.out u l hu hl hk⟩
  clear k1 k2 k3
  simp only [Act.put, List.setIfInBounds_toArray, List.set_cons_zero, List.set_cons_succ]
  have hall := all_any g2 v4 ([.slice (some ⟨g1, 0, none⟩) 1 1] ++ us) ([m] :: rs) w4 (by have h := O4.out; rw [List.length_append]; exact h) (by simp) (by simp [X3.out.1]) (fun j u l hu hl => by
    cases j with
    | zero => simp at hu hl; subst hu hl; exact T4.out _ _ Y3.out
    | succ j => simp at hu hl; exact T4.out _ _ (X3.out.2.1 j u l hu hl)) (by simp; have := HN.out; omega) (by simpa using HL.out)
  rw [show ([m] :: rs).flatten = m :: rs.flatten from by simp] at hall
  refine WL.callF (by kernel_rfl) 41 _ _ rfl Try.in41 #[v4] (by simp [Act.eval]) ?_
  refine hall.mono ?_
  rintro e w8 ⟨rfl, k1⟩
  refine ⟨_, rfl, ?_⟩
  have R8 := Keep.mk (R4.out.below k1 R4.out.lt)
  have B8 : Keep (Below w.heap.size w w8) := ⟨B4.out.trans (k1.mono B4.out.size)⟩
  clear hall k1
  simp only [Act.put, List.setIfInBounds_toArray, List.set_cons_zero, List.set_cons_succ]
  refine WL.storeR (by kernel_rfl) 25 (.tmp 4) (.tmp 10) rfl r (bytesA 32 (shaP (m :: rs.flatten))) rfl rfl 25 (bytesA 32 fun _ => 0) R8.out (Try.size25B _) (bytesA_sizes _ _ _) (bytesA_one _ _) ?_
  have R9 := Keep.mk (R8.out.setRow (bytesA 32 (shaP (m :: rs.flatten))))
  have B9 : Keep (Below w.heap.size w (w8.setRow r (bytesA 32 (shaP (m :: rs.flatten))))) := ⟨below_setRow B8.out hrw.out _⟩
  generalize w8.setRow r (bytesA 32 (shaP (m :: rs.flatten))) = w9 at *
  simp only [Act.put]
  refine WL.nil ?_
  refine hK2 _ _ ?_
  refine wp_ret ?_
  try simp only [Exit.inBlock, Exit.then]
  refine bodyPost_ret (v := .agg (bytesA 32 (shaP (m :: rs.flatten)))) (results_cell_row Try.results47 _ _ r 25 _ (0, 0) _ rfl R9.out Try.underlying25 rfl (Try.size25B _)) rfl ⟨rfl, B9.out⟩

end Go.Proofs.Ytjklmkeedhgncaa
namespace Go.Proofs.Ytjklmkeedhgncaa
open Go.RowKit
structure OutAt (w : World) (p : Nat) (v : Value) (l : List Int) : Prop where
  blk : Blk w p 130 #[v]
  own : Own w v l
def OF (p : Nat) (v : Value) : Nat → Prop := fun k => k = p ∨ v.ownBlock = some k
def OutPost (p : Nat) (v : Value) (l : List Int) (w : World) (e : Ending) (w' : World) : Prop :=
  e = .returned (.tuple #[]) ∧ ∃ v', OutAt w' p v' l ∧ Moved w v v' ∧ Grown w w' (OF p v)
theorem OutAt.grown {w w' : World} {p : Nat} {v : Value} {l : List Int} {S : Nat → Prop} (h : OutAt w p v l) (hg : Grown w w' S) (hs : ∀ k, OF p v k → ¬ S k) : OutAt w' p v l :=
  ⟨hg.blk h.blk (hs p (.inl rfl)), h.own.grown hg fun k hk => hs k (.inr hk)⟩
theorem OutPost.trans {p : Nat} {v v1 : Value} {l : List Int} {w w1 w2 : World} {e : Ending} (hm : Moved w v v1) (hg : Grown w w1 (OF p v)) (h : OutPost p v1 l w1 e w2) : OutPost p v l w e w2 := by
  obtain ⟨he, v2, h1, h2, h3⟩ := h
  refine ⟨he, v2, h1, hm.trans hg.size h2, hg.next h3 ?_⟩
  rintro i hi (rfl | h)
  · exact .inl rfl
  · exact .inr (hm.old hi h)

theorem OutAt.stored {w w1 : World} {p : Nat} {v v' : Value} {l m : List Int} (h : OutAt w p v l) (ha : AppPost w v m v' w1) : OutPost p v m w (.returned (.tuple #[])) (w1.setCell ⟨p, 0, none⟩ v') := by
  have hne := h.own.ne h.blk (by decide)
  have hp1 : Blk w1 p 130 #[v] := ha.grown.blk h.blk hne
  have hne1 : v'.ownBlock ≠ some p := ha.1.ne hp1 (by decide)
  refine ⟨rfl, v', ⟨hp1.set 0 v', ha.1.grown (Grown.setCell w1 p 0 v' (S := fun k => k = p) fun _ => rfl) fun k hk e => hne1 (by rw [hk, e])⟩, ha.moved, ?_⟩
  exact (ha.grown.mono fun i _ h => Or.inr h).next (Grown.setCell w1 p 0 v' (S := fun k => k = p) fun _ => rfl) fun i _ e => .inl e

theorem OutAt.box {w : World} {p : Nat} {v : Value} {l : List Int} (h : OutAt w p v l) (o : Obj) : OutAt (w.alloc o) p v l := h.grown (Grown.alloc w o fun _ => False) fun _ _ h => h
theorem OutPost.box {p : Nat} {v : Value} {l : List Int} {w w2 : World} {e : Ending} {o : Obj} (h : OutPost p v l (w.alloc o) e w2) : OutPost p v l w e w2 :=
  h.trans (Moved.refl _ _) (Grown.alloc w o _)

set_option maxRecDepth 8000 in
set_option maxHeartbeats 400000 in
theorem obyte_any (p : Nat) (v : Value) (l : List Int) (c : Int) (w : World) (h : OutAt w p v l) (hb : (l ++ [c]).length ≤ 140737488355328) :
    Calls Try.prog 87 #[ptr p, .int .u8 c] w (OutPost p v (l ++ [c]) w) := by
  have hO1 := h.box (.cells #[.int .u8 c] 5)
  have HO : Keep (OutAt (w.alloc (.cells #[.int .u8 c] 5)) p v l) := ⟨hO1⟩
  have c0 : w.cell? ⟨p, 0, none⟩ = some v := by rw [h.blk.cell]; rfl
  have HB : Keep (l.length + [c].length ≤ 140737488355328) := ⟨by simpa using hb⟩
  clear h hO1 hb
  go_enter Try.func87, Try.ntmps87
  go_wp2_with (first | (at_builtin; refine wpList_app rfl (.tmp 8) (.tmp 10) rfl v (.slice (some ⟨w.heap.size, 0, none⟩) 1 1) l [c] rfl rfl HO.out.own (row_one w c) HB.out ?_; intro v' w' hp; refine Hid.out ?_))
  refine hid_in ?_
  obtain ⟨a1, n1, k1, rfl⟩ := hp.1.sl
  have HP : Keep (AppPost (w.alloc (.cells #[.int .u8 c] 5)) v (l ++ [c]) (.slice a1 n1 k1) w') := ⟨hp⟩
  have hp1 : Blk w' p 130 #[v] := hp.grown.blk HO.out.blk (HO.out.own.ne HO.out.blk (by decide))
  have c1 : w'.cell? ⟨p, 0, none⟩ = some v := by rw [hp1.cell]; rfl
  have f1 : w'.frozen? ⟨p, 0, none⟩ = false := hp1.frozen 0
  clear hp hp1 c0
  go_wp2
  go_end0
  exact (HO.out.stored HP.out).box
set_option maxRecDepth 8000 in
set_option maxHeartbeats 1000000 in
theorem onum_any (p : Nat) (v : Value) (l : List Int) (x : Nat) (w : World) (h : OutAt w p v l) (hx : x < 18446744073709551616) (hb : (l ++ numL x).length ≤ 140737488355328) :
    Calls Try.prog 70 #[ptr p, .int .u64 (x : Int)] w (OutPost p v (l ++ numL x) w) := by
  have HO : Keep (OutAt w p v l) := ⟨h⟩
  have HB : Keep ((l ++ numL x).length ≤ 140737488355328) := ⟨hb⟩
  have HX : Keep (x < 18446744073709551616) := ⟨hx⟩
  clear h hx hb
  go_enter Try.func70, Try.ntmps70
  go_wp2
  go_loopw [1] (fun i wr => ∃ (y : Nat) (v1 : Value) (l1 : List Int), i = .int .u64 (y : Int) ∧ Keep (y < 18446744073709551616) ∧ OutAt wr p v1 l1 ∧ Keep (l1 ++ numL y = l ++ numL x) ∧ Moved w v v1 ∧ Grown w wr (OF p v)) (fun i _ => (intOf i).toNat)
  case atStart => exact ⟨x, v, l, rfl, HX, HO.out, ⟨rfl⟩, Moved.refl _ _, Grown.refl _ _⟩
  case round =>
    obtain ⟨y, v1, l1, rfl, hy, hO1, hl1, hm1, hg1⟩ := hrel
    by_cases h128 : 128 ≤ y
    · have h128' : (128 : Int) ≤ (y : Int) := by omega
      have hs := numL_step y h128 hy.out
      have HS : Keep (numL y = ((y % 128 + 128 : Nat) : Int) :: numL (y / 128)) := ⟨hs⟩
      have hlen : Keep ((l1 ++ [(y : Int) % 128 + 128]).length ≤ 140737488355328) := ⟨by
        have e := congrArg List.length hl1.out
        have := HB.out
        rw [HS.out] at e
        simp only [List.length_append, List.length_cons, List.length_nil] at e this ⊢
        omega⟩
      clear hs
      go_wp2_with fail
      refine (obyte_any p v1 l1 _ wr hO1 hlen.out).mono ?_
      rintro e w2 ⟨rfl, v2, hO2, hm2, hg2⟩
      obtain ⟨z, hz⟩ : ∃ z, Keep (y / 128 = z) := ⟨_, ⟨rfl⟩⟩
      have hz1 : (y : Int) / 128 = (z : Int) := by have := hz.out; omega
      clear hO1
      go_wp2
      go_roundw
      case rel =>
        refine ⟨z, v2, l1 ++ [(y : Int) % 128 + 128], rfl, ⟨by have := hy.out; have := hz.out; omega⟩, hO2, ⟨?_⟩, hm1.trans hg1.size hm2, hg1.next hg2 ?_⟩
        · rw [← hl1.out, HS.out, hz.out, List.append_assoc]
          simp
        · rintro i hi (rfl | h)
          · exact .inl rfl
          · exact .inr (hm1.old hi h)
      case measure => simp only [intOf]; have := hz.out; omega
    · have h128' : ¬ (128 : Int) ≤ (y : Int) := by omega
      have hs := numL_small y (by omega)
      have HL : Keep (l1 ++ [(y : Int)] = l ++ numL x) := ⟨by rw [← hl1.out, hs]⟩
      have hlen : Keep ((l1 ++ [(y : Int)]).length ≤ 140737488355328) := ⟨by rw [HL.out]; exact HB.out⟩
      clear hs
      go_wp2_with fail
      refine (obyte_any p v1 l1 _ wr hO1 hlen.out).mono ?_
      intro e w2 hpost
      rw [HL.out] at hpost
      have hpost2 := hpost.trans hm1 hg1
      obtain ⟨rfl, hrest⟩ := hpost2
      have HR : Keep (∃ v', OutAt w2 p v' (l ++ numL x) ∧ Moved w v v' ∧ Grown w w2 (OF p v)) := ⟨hrest⟩
      clear hrest hpost hO1
      go_wp2
      go_end0
      exact ⟨rfl, HR.out⟩

set_option maxRecDepth 8000 in
set_option maxHeartbeats 1000000 in
theorem olayS_any (p : Nat) (v : Value) (l : List Int) (t : ByteArray) (w : World) (h : OutAt w p v l) (hb : l.length + (bform (lst t)).length ≤ 140737488355328) :
    Calls Try.prog 88 #[ptr p, .string t] w (OutPost p v (l ++ bform (lst t)) w) := by
  have HO : Keep (OutAt w p v l) := ⟨h⟩
  have HB : Keep (l.length + (numL t.size).length + t.size ≤ 140737488355328) := ⟨by simpa [bform, Nat.add_assoc, lst_len] using hb⟩
  have hw := wrap64_len t.size (by have := HB.out; omega)
  clear h hb
  go_enter Try.func88, Try.ntmps88
  go_wp2_with fail
  refine (onum_any p v l t.size w HO.out (by have := HB.out; omega) (by have := HB.out; simp only [List.length_append]; omega)).mono ?_
  rintro e w1 ⟨rfl, v1, hO1, hm1, hg1⟩
  have HO1 : Keep (OutAt w1 p v1 (l ++ numL t.size)) := ⟨hO1⟩
  have c0 : w1.cell? ⟨p, 0, none⟩ = some v1 := by rw [hO1.blk.cell]; rfl
  have HB1 : Keep ((l ++ numL t.size).length + t.size ≤ 140737488355328) := ⟨by simpa using HB.out⟩
  clear hO1
  go_wp2_with (first | (at_builtin; refine wpList_appS rfl (.tmp 13) (.tmp 14) rfl v1 (l ++ numL t.size) t rfl rfl HO1.out.own HB1.out ?_; intro v' w' hp; refine Hid.out ?_))
  refine hid_in ?_
  obtain ⟨a1, n1, k1, rfl⟩ := hp.1.sl
  have HP : Keep (AppPost w1 v1 (l ++ bform (lst t)) (.slice a1 n1 k1) w') := ⟨by rw [List.append_assoc, ← lst_len] at hp; exact hp⟩
  have hp1 : Blk w' p 130 #[v1] := hp.grown.blk HO1.out.blk (HO1.out.own.ne HO1.out.blk (by decide))
  have c1 : w'.cell? ⟨p, 0, none⟩ = some v1 := by rw [hp1.cell]; rfl
  have f1 : w'.frozen? ⟨p, 0, none⟩ = false := hp1.frozen 0
  clear hp hp1 c0
  go_wp2
  go_end0
  exact (HO1.out.stored HP.out).trans hm1 hg1

set_option maxRecDepth 8000 in
set_option maxHeartbeats 400000 in
theorem otext_any (p : Nat) (v : Value) (l : List Int) (t : ByteArray) (w : World) (h : OutAt w p v l) (hb : l.length + (bform (lst t)).length ≤ 140737488355328) :
    Calls Try.prog 71 #[ptr p, .string t] w (OutPost p v (l ++ bform (lst t)) w) := by
  have HC := Keep.mk (olayS_any p v l t w h hb)
  clear h hb
  go_enter Try.func71, Try.ntmps71
  go_wp2_with fail
  refine HC.out.mono ?_
  rintro e w1 ⟨rfl, hrest⟩
  have HR := Keep.mk hrest
  clear hrest
  go_wp2
  go_end0
  exact ⟨rfl, HR.out⟩

set_option maxRecDepth 8000 in
set_option maxHeartbeats 400000 in
theorem newOut_any (w : World) : Calls Try.prog 69 #[] w fun e w' => e = .returned (ptr w.heap.size) ∧ w' = w.alloc (.cells #[.slice none 0 0] 130) := by
  go_enter Try.func69, Try.ntmps69
  go_wp2
  go_ret
  exact ⟨rfl, rfl⟩
theorem outAt_new (w : World) : OutAt (w.alloc (.cells #[.slice none 0 0] 130)) w.heap.size (.slice none 0 0) [] := ⟨Blk.new _ _ _, own_nil _⟩
set_option maxRecDepth 8000 in
set_option maxHeartbeats 400000 in
theorem odone_any (p : Nat) (v : Value) (l : List Int) (w : World) (h : OutAt w p v l) (hb : l.length ≤ 140737488355328) :
    Calls Try.prog 72 #[ptr p] w fun e w' => e = .returned (.slice (some ⟨w.heap.size, 0, none⟩) l.length l.length) ∧ w' = w.alloc (.cells (bv l).toArray 5) := by
  have HO : Keep (OutAt (w.alloc (.cells (bytesA l.length fun _ => 0) 5)) p v l) := ⟨h.box _⟩
  have HB : Keep (l.length ≤ 281474976710656) := ⟨by omega⟩
  obtain ⟨a, c, rfl⟩ := row_form h.own.row
  have c0 : w.cell? ⟨p, 0, none⟩ = some (.slice a l.length c) := by rw [h.blk.cell]; rfl
  clear h hb
  go_enter Try.func72, Try.ntmps72
  go_wp2_with (first | (refine wpList_makeB rfl (.tmp 8) (.tmp 8) rfl l.length l.length (Nat.le_refl _) HB.out rfl rfl ?_; refine Hid.out ?_))
  refine hid_in ?_
  have hg := Keep.mk (Blk.new w 5 (bytesA l.length fun _ => 0))
  obtain ⟨w1, hw1⟩ : ∃ w1, Keep (w1 = w.alloc (.cells (bytesA l.length fun _ => 0) 5)) := ⟨_, ⟨rfl⟩⟩
  rw [← hw1.out] at hg HO ⊢
  have c1 : w1.cell? ⟨p, 0, none⟩ = some (.slice a l.length c) := by rw [HO.out.blk.cell]; rfl
  clear c0
  have hcp := run_copyB w1 w.heap.size l.length (.slice a l.length c) l 3 5 (bytesA l.length fun _ => 0) hg.out (bytesA_size _ _) HO.out.own.row
  go_wp2
  go_ret
  refine ⟨rfl, ?_⟩
  rw [hw1.out]
  exact World.setRow_alloc_new _ _ _ _
end Go.Proofs.Ytjklmkeedhgncaa
