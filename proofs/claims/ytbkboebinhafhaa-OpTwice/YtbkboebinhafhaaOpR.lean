import Derived.Test.YtbkboebinhafhaaOpQ
namespace Go.Proofs.Ytbkboebinhafhaa
open Go.RowKit
set_option linter.unusedSimpArgs false

/-! ### Lists of operations that grow. -/
/-- The slice v owns the operations l: they stand at the head of a block. -/
def OwnO (w : World) (v : Value) (l : List OpV) : Prop := w.ownsRow 0 33 37 v l.length (flatO l)
theorem OwnO.form {w : World} {v : Value} {l : List OpV} (h : OwnO w v l) : (v = .slice none 0 0 ∧ l = []) ∨ ∃ g cap cur, v = .slice (some ⟨g, 0, none⟩) l.length cap ∧ Blk w g 33 cur ∧ l.length ≤ cap ∧ cur.toList.take (l.length * 37) = flatO l := by
  rcases h.2 with ⟨rfl, h0⟩ | ⟨g, cap, cur, rfl, _, h3, h4, h5, h6, h7⟩
  · exact .inl ⟨rfl, List.eq_nil_of_length_eq_zero h0⟩
  · exact .inr ⟨g, cap, cur, rfl, h3, h4, h7⟩
theorem OwnO.ops {w : World} {v : Value} {l : List OpV} (h : OwnO w v l) : OpsAt w v l := by
  rcases h.form with ⟨rfl, rfl⟩ | ⟨g, cap, cur, rfl, h1, h2, h3⟩
  · exact .inl ⟨_, _, rfl, rfl⟩
  · exact ops_block h1 h3 h2
theorem OwnO.sl {w : World} {v : Value} {l : List OpV} (h : OwnO w v l) : ∃ a c, v = .slice a l.length c := h.ops.form
theorem OwnO.lt {w : World} {v : Value} {l : List OpV} (h : OwnO w v l) : ∀ k, v.ownBlock = some k → k < w.heap.size := fun k hk => (World.ownsRow.lt h k hk).2
theorem OwnO.grown {w w' : World} {v : Value} {l : List OpV} {S : Nat → Prop} (h : OwnO w v l) (hg : Grown w w' S) (hs : ∀ k, v.ownBlock = some k → ¬ S k) : OwnO w' v l := by
  refine ⟨h.1, ?_⟩
  rcases h.2 with h1 | ⟨g, cap, cur, rfl, h2, h3, h4⟩
  · exact .inl h1
  · exact .inr ⟨g, cap, cur, rfl, h2, hg.blk h3 (hs g rfl), h4⟩
theorem OwnO.below {w w' : World} {v : Value} {l : List OpV} (h : OwnO w v l) (hb : Below w.heap.size w w') : OwnO w' v l := h.grown (Grown.below (S := fun _ => False) hb) fun _ _ h => h
theorem OwnO.ne {w : World} {v : Value} {l : List OpV} {p : Nat} {T : TypeId} {cs : Array Value} (h : OwnO w v l) (hp : Blk w p T cs) (hT : T ≠ 33) : v.ownBlock ≠ some p := by
  intro e
  rcases h.form with ⟨rfl, _⟩ | ⟨g, cap, cur, rfl, h3, _⟩
  · simp [Value.ownBlock] at e
  · simp [Value.ownBlock] at e
    subst e
    exact hT (blk_type hp h3)
theorem ownO_empty (w : World) : OwnO (w.alloc (.cells #[] 33)) (.slice (some ⟨w.heap.size, 0, none⟩) 0 0) [] :=
  ⟨rfl, .inr ⟨w.heap.size, 0, #[], rfl, Nat.zero_le _, Blk.new w 33 #[], Nat.le_refl _, by decide, rfl, rfl⟩⟩
theorem Try.info33 : (Try.prog.info? 33).map (fun i => (i.zero, i.size, i.bytes)) = some (some (.agg (opA zeroOp)), 37, 88) := by kernel_rfl
theorem run_appO (w : World) (ty : TypeId) (v : Value) (l : List OpV) (hown : OwnO w v l) (g : Nat) (x : OpV) (hg : Blk w g 33 (opA x)) (hb : l.length ≤ 1000000000000) :
    ∃ v' w', (Builtin.append_ #[23, 23] ty #[v, .slice (some ⟨g, 0, none⟩) 1 1]).run Try.prog w = .ok v' w' ∧ OwnO w' v' (l ++ [x]) ∧ (Grown w w' fun k => v.ownBlock = some k) ∧ Moved w v v' := by
  obtain ⟨i, hi, hzz⟩ := Option.map_eq_some_iff.1 Try.info33
  simp only [Prod.mk.injEq] at hzz
  obtain ⟨hz, hsz, hby⟩ := hzz
  obtain ⟨v', w', hr, h1, h2, _, h3⟩ := run_append_own_at (P := Try.prog) w 0 23 ty 33 i (.agg (opA zeroOp)) 37 88 Try.underlying23 hi hz hsz hby (opA_size _) (by omega) v l.length (flatO l) hown ⟨g, 0, none⟩ 1 1 (opL x) (by rw [opL_len]) (fun j u hu => by
      rw [Addr.add_mid, Nat.zero_add, hg.cell]
      unfold opA
      rw [List.getElem?_toArray]; exact hu)
    (fun u hu => (Array.all_eq_true_iff_forall_mem.1 (opA_one x)) u (by unfold opA; simpa using hu)) (by unfold maxLen; omega) (by omega) (Nat.zero_le _)
  refine ⟨v', w', hr, ?_, Grown.of h2 fun k _ e => e, ?_⟩
  · unfold OwnO
    rw [List.length_append, show flatO (l ++ [x]) = flatO l ++ opL x by simp [flatO]]
    exact h1
  · rcases h3 with h3 | h3
    · exact .inl h3
    · exact .inr ⟨_, h3, Nat.le_refl _⟩
theorem WL.appO {ops : Array Oper} {rest : List Oper} {o : Oper} {a : Act} {w : World} {Q : Exit → Act → World → Prop} (hw : Region.wanted o (yielded ops a.tmps) = true) (s x : Operand)
    (ho : o.op = .call { callee := .builtin .append, args := #[s, x], argTypes := #[23, 23] }) (v : Value) (l : List OpV) (g : Nat) (y : OpV)
    (hs : a.eval s = v) (hx : a.eval x = .slice (some ⟨g, 0, none⟩) 1 1) (hown : OwnO w v l) (hg : Blk w g 33 (opA y)) (hb : l.length ≤ 1000000000000)
    (h : ∀ v' w', OwnO w' v' (l ++ [y]) → (Grown w w' fun k => v.ownBlock = some k) → Moved w v v' → WL Try.prog ops Q rest (a.put o.dst v') w') : WL Try.prog ops Q (o :: rest) a w :=
  ⟨wpList_wanted hw fun K hK => by
    obtain ⟨v', w', hr, h1, h2, h3⟩ := run_appO w o.type v l hown g y hg hb
    unfold Oper.wp execOp
    simp only [ho, resolve, invoke, builtin, Sem.run_bind, Sem.run_pure, Result.andThen_ok, List.map_toArray, List.map_cons, List.map_nil, hs, hx, hr]
    exact hK _ _ (h v' w' h1 h2 h3).out⟩
theorem bsO (x : OpV) (w : World) : (Instr.buildSlice 23 1 #[(0, .agg (opA x))]).run Try.prog w = .ok (.slice (some ⟨w.heap.size, 0, none⟩) 1 1) (w.alloc (.cells (opA x) 33)) := by kernel_rfl
theorem bsE (w : World) : (Instr.buildSlice 23 0 #[]).run Try.prog w = .ok (.slice (some ⟨w.heap.size, 0, none⟩) 0 0) (w.alloc (.cells #[] 33)) := by kernel_rfl
/-- Operations, so many, behind others, read from byte a on. -/
def getN (L : List Int) : Nat → List OpV → Nat → Int × Nat × List OpV
  | 0, l, a => (0, a, l)
  | n + 1, l, a => if (getO L l a).1 = 0 then getN L n (l ++ [(getO L l a).2.2]) (getO L l a).2.1 else ((getO L l a).1, (getO L l a).2.1, [])
def getL (L : List Int) (a : Nat) : Int × Nat × List OpV :=
  if (fstM (L.drop a) 1024).2.2 ≠ 0 then ((fstM (L.drop a) 1024).2.2, a + (fstM (L.drop a) 1024).2.1.toNat, []) else getN L (fstM (L.drop a) 1024).1.toNat [] (a + (fstM (L.drop a) 1024).2.1.toNat)
def ListPost (p : Nat) (s : ByteArray) (R : Int × Nat × List OpV) (w : World) (e : Ending) (w' : World) : Prop :=
  ∃ v er, e = .returned (.tuple #[v, er]) ∧ (Grown w w' fun k => k = p) ∧
    ((R.1 = 0 ∧ er = .nilIface ∧ OwnO w' v R.2.2 ∧ (∀ k, v.ownBlock = some k → w.heap.size ≤ k) ∧ InAt w' p s R.2.1 none ∧ (∀ x ∈ R.2.2, OpOk x) ∧ R.2.2.length ≤ 1024) ∨ (R.1 ≠ 0 ∧ v = .slice none 0 0 ∧ ∃ q, w.heap.size ≤ q ∧ er = err q ∧ BadAt w' q R.1 R.2.1))
set_option maxRecDepth 8000 in
set_option maxHeartbeats 4000000 in
theorem get_any (p : Nat) (s : ByteArray) (a : Nat) (w : World) (hI : InAt w p s a none) (hb : s.size ≤ 140737488355328) :
    Calls Try.prog 25 #[ptr p] w (ListPost p s (getL (lst s) a) w) := by
  have HI := Keep.mk hI
  have Hb := Keep.mk hb
  have hrg := fst_rng ((lst s).drop a) ((lst_byts s).drop a) 1024 (by decide)
  have hc := inum_good p s a 1024 w hI hb
  obtain ⟨G, hG⟩ : ∃ G, G = getL (lst s) a := ⟨_, rfl⟩
  rw [← hG]
  unfold getL at hG
  have hc' : Calls Try.prog 46 #[ptr p, .int .u64 1024] w (RdPost p s (fstM ((lst s).drop a) 1024).2.2 (a + (fstM ((lst s).drop a) 1024).2.1.toNat) (.int .u64 (fstM ((lst s).drop a) 1024).1) w) := hc
  clear hc
  generalize fstM ((lst s).drop a) 1024 = R at *
  obtain ⟨rv, rn, re⟩ := R
  simp only at hG hc' hrg
  obtain ⟨a1, ha1⟩ : ∃ a1, a1 = a + rn.toNat := ⟨_, rfl⟩
  rw [← ha1] at hG hc'
  have HC := Keep.mk hc'
  have Hrg := Keep.mk hrg
  have HG1 : Keep (¬ re = 0 → G = (re, a1, [])) := ⟨fun h => by rw [hG, if_pos h]⟩
  have HG0 : Keep (re = 0 → G = getN (lst s) rv.toNat [] a1) := ⟨fun h => by rw [hG, if_neg (by simp [h])]⟩
  clear hI hb hrg hc' hG ha1
  go_enter Try.func25, Try.ntmps25
  refine wp_seq_k fun K1 hK1 => ?_
  refine wp_region_list (WL.out ?_)
  refine WL.val (by kernel_rfl) (.slice none 0 0) (by go_simp) ?_
  simp only [Act.put, List.setIfInBounds_toArray, List.set_cons_zero, List.set_cons_succ]
  refine WL.val (by kernel_rfl) (.nilIface) (by go_simp) ?_
  simp only [Act.put, List.setIfInBounds_toArray, List.set_cons_zero, List.set_cons_succ]
  refine WL.nil ?_
  refine hK1 _ _ ?_
  refine wp_seq_k fun K2 hK2 => ?_
  refine wp_region_list (WL.out ?_)
  refine WL.val (by kernel_rfl) (.pointer (some ⟨p, 0, none⟩)) (by go_simp) ?_
  simp only [Act.put, List.setIfInBounds_toArray, List.set_cons_zero, List.set_cons_succ]
  refine WL.callF (by kernel_rfl) 46 _ _ rfl Try.in46 #[ptr p, .int .u64 1024] (by simp [Act.eval]) ?_
  refine (HC.out).mono ?_
  rintro e w1 ⟨bad, er, rfl, h1, h2, h3⟩
  refine ⟨_, rfl, ?_⟩
  have H1 := Keep.mk h1
  have H2 := Keep.mk h2
  have H3 := Keep.mk h3
  clear h1 h2 h3
  simp only [Act.put, List.setIfInBounds_toArray, List.set_cons_zero, List.set_cons_succ]
  refine WL.val (by kernel_rfl) (.tuple #[.int .u64 rv, er]) (by go_simp) ?_
  simp only [Act.put, List.setIfInBounds_toArray, List.set_cons_zero, List.set_cons_succ]
  refine WL.val (by kernel_rfl) (.int .u64 rv) (by go_simp) ?_
  simp only [Act.put, List.setIfInBounds_toArray, List.set_cons_zero, List.set_cons_succ]
  refine WL.val (by kernel_rfl) (er) (by go_simp) ?_
  simp only [Act.put, List.setIfInBounds_toArray, List.set_cons_zero, List.set_cons_succ]
  refine WL.val (by kernel_rfl) (.int .u64 rv) (by go_simp) ?_
  simp only [Act.put, List.setIfInBounds_toArray, List.set_cons_zero, List.set_cons_succ]
  refine WL.val (by kernel_rfl) (er) (by go_simp) ?_
  simp only [Act.put, List.setIfInBounds_toArray, List.set_cons_zero, List.set_cons_succ]
  refine WL.nil ?_
  refine hK2 _ _ ?_
  refine wp_seq_k fun K3 hK3 => ?_
  refine wp_seq_k fun K4 hK4 => ?_
  by_cases hE : re = 0
  · rcases H3.out with ⟨e1, rfl, rfl⟩ | ⟨e1, _⟩
    rotate_left
    · exact absurd hE e1
    obtain ⟨n, hn⟩ : ∃ n : Nat, rv = (n : Int) := ⟨rv.toNat, by have := Hrg.out; omega⟩
    have Hn : Keep (n ≤ 1024) := ⟨by have := Hrg.out; omega⟩
    have HR : Keep (G = getN (lst s) n [] a1) := ⟨by rw [HG0.out hE, hn, Int.toNat_natCast]⟩
    subst hn
    refine wp_region_list (WL.out ?_)
    refine WL.val (by kernel_rfl) (.nilIface) (by go_simp) ?_
    simp only [Act.put, List.setIfInBounds_toArray, List.set_cons_zero, List.set_cons_succ]
    refine WL.val (by kernel_rfl) (.bool false) (by go_simp) ?_
    simp only [Act.put, List.setIfInBounds_toArray, List.set_cons_zero, List.set_cons_succ]
    refine WL.nil ?_
    refine hK4 _ _ ?_
    refine wp_cond_false rfl ?_
    refine wp_skip ?_
    refine hK3 _ _ ?_
    refine wp_seq_k fun K5 hK5 => ?_
    refine wp_region_list (WL.out ?_)
    refine WL.callF (by kernel_rfl) 34 _ _ rfl Try.in34 #[] (by simp) ?_
    refine (tab_any w1).mono ?_
    rintro e w2 ⟨m, rfl, hT2, hm2, hB2⟩
    refine ⟨_, rfl, ?_⟩
    have HT2 := Keep.mk hT2
    have HI2 : Keep (InAt w2 p s a1 none) := ⟨H1.out.blk.below hB2 H1.out.blk.lt, H1.out.le⟩
    have HG2 : Keep (Grown w w2 fun k => k = p) := ⟨H2.out.trans (Grown.below hB2)⟩
    clear hT2 hm2 hB2
    simp only [Act.put, List.setIfInBounds_toArray, List.set_cons_zero, List.set_cons_succ]
    refine WL.val (by kernel_rfl) (.map (some m)) (by go_simp) ?_
    simp only [Act.put, List.setIfInBounds_toArray, List.set_cons_zero, List.set_cons_succ]
    refine WL.nil ?_
    refine hK5 _ _ ?_
    refine wp_seq_k fun K6 hK6 => ?_
    refine wp_region_list (WL.out ?_)
    refine WL.bs (by kernel_rfl) 23 0 _ rfl #[] (by simp) _ _ (bsE w2) ?_
    have HO3 := Keep.mk (ownO_empty w2)
    have B3 : Keep (Below w2.heap.size w2 (w2.alloc (.cells #[] 33))) := ⟨below_new w2 _⟩
    generalize w2.alloc (.cells #[] 33) = w3 at *
    have HOn3 : Keep (∀ k, (Value.slice (some ⟨w2.heap.size, 0, none⟩) 0 0).ownBlock = some k → w.heap.size ≤ k) := ⟨fun k hk => by simp [Value.ownBlock] at hk; have := HG2.out.size; omega⟩
    have HI3 : Keep (InAt w3 p s a1 none) := ⟨HI2.out.blk.below B3.out HI2.out.blk.lt, HI2.out.le⟩
    have HT3 := Keep.mk (HT2.out.below B3.out)
    have HG3 : Keep (Grown w w3 fun k => k = p) := ⟨HG2.out.trans (Grown.below B3.out)⟩
    simp only [Act.put, List.setIfInBounds_toArray, List.set_cons_zero, List.set_cons_succ]
    refine WL.val (by kernel_rfl) (.slice (some ⟨w2.heap.size, 0, none⟩) 0 0) (by go_simp) ?_
    simp only [Act.put, List.setIfInBounds_toArray, List.set_cons_zero, List.set_cons_succ]
    refine WL.nil ?_
    refine hK6 _ _ ?_
    refine wp_seq_k fun K7 hK7 => ?_
    refine wp_seq_k fun K8 hK8 => ?_
    refine wp_region_list (WL.out ?_)
    refine WL.val (by kernel_rfl) (.int .u64 (n : Int)) (by go_simp) ?_
    simp only [Act.put, List.setIfInBounds_toArray, List.set_cons_zero, List.set_cons_succ]
    refine WL.val (by kernel_rfl) (.int .u64 0) (by go_simp) ?_
    simp only [Act.put, List.setIfInBounds_toArray, List.set_cons_zero, List.set_cons_succ]
    refine WL.nil ?_
    refine hK8 _ _ ?_
    refine wp_block ?_
    refine wp_loop (fun ac wr => ∃ (t : Nat) (u2 u3 u7 u8 u9 u22 u23 u24 u25 u26 u27 u28 u29 u30 u31 u32 u33 u34 u35 u36 u37 : Value), ac = { tmps := #[.pointer (some ⟨p, 0, none⟩), undef, u2, u3, .int .u64 (n : Int), .nilIface, .map (some m), u7, u8, u9, .tuple #[.int .u64 (n : Int), .nilIface], .pointer (some ⟨p, 0, none⟩), .tuple #[.int .u64 (n : Int), .nilIface], .int .u64 (n : Int), .nilIface, .nilIface, .bool false, undef, .map (some m), .slice (some ⟨w2.heap.size, 0, none⟩) 0 0, .int .u64 (n : Int), .int .u64 (t : Int), u22, u23, u24, u25, u26, u27, u28, u29, u30, u31, u32, u33, u34, u35, u36, u37, undef], defers := [] } ∧ t ≤ n ∧ ∃ l at_, getN (lst s) n [] a1 = getN (lst s) (n - t) l at_ ∧ InAt wr p s at_ none ∧ OwnO wr u7 l ∧ (∀ k, u7.ownBlock = some k → w.heap.size ≤ k) ∧ TabAt wr m ∧ (Grown w wr fun k => k = p) ∧ (∀ x ∈ l, OpOk x) ∧ l.length = t) (fun a _ => n - (intOf (a.tmps.getD 21 undef)).toNat) ⟨0, .slice none 0 0, .nilIface, .slice (some ⟨w2.heap.size, 0, none⟩) 0 0, undef, undef, undef, undef, undef, undef, undef, undef, undef, undef, undef, undef, undef, undef, undef, undef, undef, undef, rfl, by omega, [], a1, rfl, HI3.out, HO3.out, HOn3.out, HT3.out, HG3.out, by simp, rfl⟩ ?_
    rintro ac wr ⟨t, u2, u3, u7, u8, u9, u22, u23, u24, u25, u26, u27, u28, u29, u30, u31, u32, u33, u34, u35, u36, u37, rfl, ht, l, at_, hC, hI, hO, hOn, hT, hG, hOk, hLn⟩
    by_cases htl : t < n
    · have htl' : (t : Int) < (n : Int) := by omega
      obtain ⟨k1, hk1⟩ : ∃ k1, n - t = k1 + 1 := ⟨n - t - 1, by omega⟩
      rw [hk1, getN] at hC
      have hk2 : k1 = n - (t + 1) := by omega
      rw [hk2] at hC
      have hwr1 : IntKind.u64.wrap ((t : Int) + 1) = (t : Int) + 1 := by rw [IntKind.wrap_u64]; have := Hn.out; omega
      obtain ⟨oa, oc, rfl⟩ := hO.sl
      obtain ⟨G, hGG⟩ : ∃ G, Keep (G = getO (lst s) l at_) := ⟨_, ⟨rfl⟩⟩
      rw [← hGG.out] at hC
      have JC := Keep.mk hC
      have JI := Keep.mk hI
      have JO := Keep.mk hO
      have JOn := Keep.mk hOn
      have JT := Keep.mk hT
      have JG := Keep.mk hG
      have JOk := Keep.mk hOk
      have JLn := Keep.mk hLn
      clear hC hI hO hOn hT hG hOk hLn hk1 hk2
      refine wp_seq_k fun K9 hK9 => ?_
      refine wp_region_list (WL.out ?_)
      refine WL.val (by kernel_rfl) (.bool true) (by go_simp) ?_
      simp only [Act.put, List.setIfInBounds_toArray, List.set_cons_zero, List.set_cons_succ]
      refine WL.nil ?_
      refine hK9 _ _ ?_
      refine wp_seq_k fun K10 hK10 => ?_
      refine wp_cond_true rfl ?_
      refine wp_skip ?_
      refine hK10 _ _ ?_
      refine wp_seq_k fun K11 hK11 => ?_
      refine wp_block ?_
      refine wp_seq_k fun K12 hK12 => ?_
      refine wp_region_list (WL.out ?_)
      refine WL.val (by kernel_rfl) (.pointer (some ⟨p, 0, none⟩)) (by go_simp) ?_
      simp only [Act.put, List.setIfInBounds_toArray, List.set_cons_zero, List.set_cons_succ]
      refine WL.val (by kernel_rfl) (.map (some m)) (by go_simp) ?_
      simp only [Act.put, List.setIfInBounds_toArray, List.set_cons_zero, List.set_cons_succ]
      refine WL.val (by kernel_rfl) (.slice oa l.length oc) (by go_simp) ?_
      simp only [Act.put, List.setIfInBounds_toArray, List.set_cons_zero, List.set_cons_succ]
      refine WL.callF (by kernel_rfl) 47 _ _ rfl Try.in47 #[ptr p, .map (some m), .slice oa l.length oc] (by simp [Act.eval]) ?_
      refine (getOne_any p m s at_ _ l wr JI.out Hb.out JT.out (fun wx hx => (JO.out.grown hx (fun k hk e => JO.out.ne JI.out.blk (by decide) (e ▸ hk))).ops) (by have := JLn.out; have := Hn.out; omega)).mono ?_
      rintro e w1 ⟨y, er, rfl, hg1, hc1⟩
      refine ⟨_, rfl, ?_⟩
      rw [← hGG.out] at hc1
      have HG1 := Keep.mk hg1
      have HGw : Keep (Grown w w1 fun k => k = p) := ⟨JG.out.trans hg1⟩
      have HC1 := Keep.mk hc1
      have HO1 := Keep.mk (JO.out.grown hg1 (fun k hk e => JO.out.ne JI.out.blk (by decide) (e ▸ hk)))
      have HT1 := Keep.mk (JT.out.grown hg1 (fun e => JT.out.ne JI.out.blk e) (fun g cs hg e => blk_ne hg JI.out.blk (by decide) e))
      clear hg1 hc1
      simp only [Act.put, List.setIfInBounds_toArray, List.set_cons_zero, List.set_cons_succ]
      refine WL.val (by kernel_rfl) (.tuple #[.agg (opA y), er]) (by go_simp) ?_
      simp only [Act.put, List.setIfInBounds_toArray, List.set_cons_zero, List.set_cons_succ]
      refine WL.val (by kernel_rfl) (.agg (opA y)) (by go_simp) ?_
      simp only [Act.put, List.setIfInBounds_toArray, List.set_cons_zero, List.set_cons_succ]
      refine WL.val (by kernel_rfl) (er) (by go_simp) ?_
      simp only [Act.put, List.setIfInBounds_toArray, List.set_cons_zero, List.set_cons_succ]
      refine WL.new (by kernel_rfl) 33 rfl _ Try.new33 ?_
      simp only [Act.put, List.setIfInBounds_toArray, List.set_cons_zero, List.set_cons_succ]
      refine WL.storeR (by kernel_rfl) 33 (.tmp 8) (.tmp 28) rfl w1.heap.size (opA y) rfl rfl 33 (opA zeroOp) (Blk.new w1 33 _) (Try.size33B y) (opA_sizes _ _) (opA_one y) ?_
      have HY2 := Keep.mk ((Blk.new w1 33 (opA zeroOp)).setRow (opA y))
      have B2 : Keep (Below w1.heap.size w1 ((w1.alloc (.cells (opA zeroOp) 33)).setRow w1.heap.size (opA y))) := ⟨below_setRow (below_new w1 _) (Nat.le_refl _) _⟩
      generalize (w1.alloc (.cells (opA zeroOp) 33)).setRow w1.heap.size (opA y) = w2 at *
      have HG2 : Keep (Grown w w2 fun k => k = p) := ⟨HGw.out.trans (Grown.below B2.out)⟩
      have HO2 := Keep.mk (HO1.out.below B2.out)
      have HT2 := Keep.mk (HT1.out.below B2.out)
      simp only [Act.put]
      refine WL.val (by kernel_rfl) (er) (by go_simp) ?_
      simp only [Act.put, List.setIfInBounds_toArray, List.set_cons_zero, List.set_cons_succ]
      refine WL.nil ?_
      refine hK12 _ _ ?_
      refine wp_seq_k fun K13 hK13 => ?_
      refine wp_seq_k fun K14 hK14 => ?_
      by_cases hE : G.1 = 0
      · rcases HC1.out with ⟨e1, rfl, rfl, e3, e4⟩ | ⟨e1, _⟩
        rotate_left
        · exact absurd hE e1
        have HI2 : Keep (InAt w2 p s G.2.1 none) := ⟨e3.blk.below B2.out e3.blk.lt, e3.le⟩
        have K3 := Keep.mk e4
        clear e3 e4
        rw [if_pos hE] at JC
        refine wp_region_list (WL.out ?_)
        refine WL.val (by kernel_rfl) (.nilIface) (by go_simp) ?_
        simp only [Act.put, List.setIfInBounds_toArray, List.set_cons_zero, List.set_cons_succ]
        refine WL.val (by kernel_rfl) (.bool false) (by go_simp) ?_
        simp only [Act.put, List.setIfInBounds_toArray, List.set_cons_zero, List.set_cons_succ]
        refine WL.nil ?_
        refine hK14 _ _ ?_
        refine wp_cond_false rfl ?_
        refine wp_skip ?_
        refine hK13 _ _ ?_
        refine wp_region_list (WL.out ?_)
        refine WL.val (by kernel_rfl) (.slice oa l.length oc) (by go_simp) ?_
        simp only [Act.put, List.setIfInBounds_toArray, List.set_cons_zero, List.set_cons_succ]
        refine WL.row (by kernel_rfl) 33 (.tmp 8) rfl w1.heap.size rfl 33 (opA G.2.2) _ HY2.out Try.underlying33 rfl (Try.size33B _) ?_
        simp only [Act.put, List.setIfInBounds_toArray, List.set_cons_zero, List.set_cons_succ]
        refine WL.bs (by kernel_rfl) 23 1 _ rfl #[(0, .agg (opA G.2.2))] (by simp [Act.eval]) _ _ (bsO G.2.2 w2) ?_
        have HB3 := Keep.mk (Blk.new w2 33 (opA G.2.2))
        have B3 : Keep (Below w2.heap.size w2 (w2.alloc (.cells (opA G.2.2) 33))) := ⟨below_new w2 _⟩
        generalize w2.alloc (.cells (opA G.2.2) 33) = w3 at *
        simp only [Act.put, List.setIfInBounds_toArray, List.set_cons_zero, List.set_cons_succ]
        refine WL.appO (by kernel_rfl) (.tmp 33) (.tmp 35) rfl (.slice oa l.length oc) l w2.heap.size G.2.2 rfl rfl (HO2.out.below B3.out) HB3.out (by have := JLn.out; have := Hn.out; omega) ?_
        intro v4 w4 h1 h2 h3
        have HO4 := Keep.mk h1
        have Hg4 : Keep (Grown w w4 fun k => k = p) := ⟨(HG2.out.trans (Grown.below B3.out)).next h2 (fun k hk e => absurd (JOn.out k e) (by omega))⟩
        have HT4 := Keep.mk ((HT2.out.below B3.out).grown h2 (fun e => by
          rcases (HO2.out.below B3.out).form with ⟨e1, _⟩ | ⟨g, cap, cur, e1, hgb, _⟩
          · rw [e1] at e; simp [Value.ownBlock] at e
          · rw [e1] at e; simp [Value.ownBlock] at e; subst e; exact (HT2.out.below B3.out).ne hgb rfl) (fun g cs hg e => (HO2.out.below B3.out).ne hg (by decide) e))
        have HI4 : Keep (InAt w4 p s G.2.1 none) := ⟨h2.blk (HI2.out.blk.below B3.out HI2.out.blk.lt) (fun e => (HO2.out.below B3.out).ne (HI2.out.blk.below B3.out HI2.out.blk.lt) (by decide) e), HI2.out.le⟩
        have HOn4 : Keep (∀ k, v4.ownBlock = some k → w.heap.size ≤ k) := ⟨fun k hk => by
          rcases h3 with e | ⟨j, e, hj⟩
          · rw [e] at hk; exact JOn.out k hk
          · rw [e] at hk; injection hk with hk; have := HG2.out.size; have := B3.out.size; omega⟩
        clear h1 h2 h3
        simp only [Act.put, List.setIfInBounds_toArray, List.set_cons_zero, List.set_cons_succ]
        refine WL.val (by kernel_rfl) (v4) (by go_simp) ?_
        simp only [Act.put, List.setIfInBounds_toArray, List.set_cons_zero, List.set_cons_succ]
        refine WL.nil ?_
        refine hK11 _ _ ?_
        refine wp_region_list (WL.out ?_)
        refine WL.val (by kernel_rfl) (.int .u64 ((t : Int) + 1)) (by go_simp) ?_
        simp only [Act.put, List.setIfInBounds_toArray, List.set_cons_zero, List.set_cons_succ]
        refine WL.val (by kernel_rfl) (.int .u64 ((t : Int) + 1)) (by go_simp) ?_
        simp only [Act.put, List.setIfInBounds_toArray, List.set_cons_zero, List.set_cons_succ]
        refine WL.nil ?_
        refine ⟨⟨t + 1, u2, u3, v4, .pointer (some ⟨w1.heap.size, 0, none⟩), .nilIface, .bool true, .tuple #[.agg (opA G.2.2), .nilIface], .pointer (some ⟨p, 0, none⟩), .map (some m), .slice oa l.length oc, .tuple #[.agg (opA G.2.2), .nilIface], .agg (opA G.2.2), .nilIface, .nilIface, .bool false, u32, .slice oa l.length oc, .agg (opA G.2.2), .slice (some ⟨w2.heap.size, 0, none⟩) 1 1, v4, .int .u64 ((t : Int) + 1), rfl, by omega, l ++ [G.2.2], G.2.1, JC.out, HI4.out, HO4.out, HOn4.out, HT4.out, Hg4.out, ?_, by rw [List.length_append]; simp [JLn.out]⟩, ?_⟩
        · intro z hz; rcases List.mem_append.1 hz with hz | hz; exact JOk.out z hz; simp at hz; subst hz; exact K3.out
        · simp only [intOf]; show n - ((t : Int) + 1).toNat < n - ((t : Int)).toNat; omega
      · rcases HC1.out with ⟨e1, _⟩ | ⟨_, q, hq, rfl, hbad⟩
        · exact absurd e1 hE
        have Hbad := Keep.mk (hbad.below B2.out hbad.lt)
        have Hq := Keep.mk (Nat.le_trans JG.out.size hq)
        clear hbad hq
        unfold err
        rw [if_neg hE] at JC
        refine wp_region_list (WL.out ?_)
        refine WL.val (by kernel_rfl) (.iface 88 (ptr q)) (by go_simp) ?_
        simp only [Act.put, List.setIfInBounds_toArray, List.set_cons_zero, List.set_cons_succ]
        refine WL.val (by kernel_rfl) (.bool true) (by go_simp) ?_
        simp only [Act.put, List.setIfInBounds_toArray, List.set_cons_zero, List.set_cons_succ]
        refine WL.nil ?_
        refine hK14 _ _ ?_
        refine wp_cond_true rfl ?_
        refine wp_seq_k fun K15 hK15 => ?_
        refine wp_region_list (WL.out ?_)
        refine WL.val (by kernel_rfl) (.iface 88 (ptr q)) (by go_simp) ?_
        simp only [Act.put, List.setIfInBounds_toArray, List.set_cons_zero, List.set_cons_succ]
        refine WL.val (by kernel_rfl) (.slice none 0 0) (by go_simp) ?_
        simp only [Act.put, List.setIfInBounds_toArray, List.set_cons_zero, List.set_cons_succ]
        refine WL.val (by kernel_rfl) (.iface 88 (ptr q)) (by go_simp) ?_
        simp only [Act.put, List.setIfInBounds_toArray, List.set_cons_zero, List.set_cons_succ]
        refine WL.nil ?_
        refine hK15 _ _ ?_
        refine wp_ret ?_
        go_ret2
        refine ⟨.slice none 0 0, err q, rfl, HG2.out, ?_⟩
        rw [HR.out, JC.out]
        exact .inr ⟨hE, rfl, q, Hq.out, rfl, Hbad.out⟩
    · have hte : Keep (t = n) := ⟨by omega⟩
      have htl' : ¬ (t : Int) < (n : Int) := by omega
      refine wp_seq_k fun K16 hK16 => ?_
      refine wp_region_list (WL.out ?_)
      refine WL.val (by kernel_rfl) (.bool false) (by go_simp) ?_
      simp only [Act.put, List.setIfInBounds_toArray, List.set_cons_zero, List.set_cons_succ]
      refine WL.nil ?_
      refine hK16 _ _ ?_
      refine wp_seq_k fun K17 hK17 => ?_
      refine wp_cond_false rfl ?_
      refine wp_exit ?_
      refine hK7 _ _ ?_
      refine wp_seq_k fun K18 hK18 => ?_
      refine wp_region_list (WL.out ?_)
      refine WL.val (by kernel_rfl) (u7) (by go_simp) ?_
      simp only [Act.put, List.setIfInBounds_toArray, List.set_cons_zero, List.set_cons_succ]
      refine WL.val (by kernel_rfl) (u7) (by go_simp) ?_
      simp only [Act.put, List.setIfInBounds_toArray, List.set_cons_zero, List.set_cons_succ]
      refine WL.val (by kernel_rfl) (.nilIface) (by go_simp) ?_
      simp only [Act.put, List.setIfInBounds_toArray, List.set_cons_zero, List.set_cons_succ]
      refine WL.nil ?_
      refine hK18 _ _ ?_
      refine wp_ret ?_
      go_ret2
      rw [hte.out, Nat.sub_self, getN] at hC
      refine ⟨u7, .nilIface, rfl, hG, ?_⟩
      rw [HR.out, hC]
      exact .inl ⟨rfl, rfl, hO, hOn, hI, hOk, by rw [hLn]; have := Hn.out; omega⟩
  · rcases H3.out with ⟨e1, _, _⟩ | ⟨_, q, hq, rfl, rfl, hbad⟩
    · exact absurd e1 hE
    have Hbad := Keep.mk hbad
    clear hbad
    unfold err
    refine wp_region_list (WL.out ?_)
    refine WL.val (by kernel_rfl) (.iface 88 (ptr q)) (by go_simp) ?_
    simp only [Act.put, List.setIfInBounds_toArray, List.set_cons_zero, List.set_cons_succ]
    refine WL.val (by kernel_rfl) (.bool true) (by go_simp) ?_
    simp only [Act.put, List.setIfInBounds_toArray, List.set_cons_zero, List.set_cons_succ]
    refine WL.nil ?_
    refine hK4 _ _ ?_
    refine wp_cond_true rfl ?_
    refine wp_seq_k fun K19 hK19 => ?_
    refine wp_region_list (WL.out ?_)
    refine WL.val (by kernel_rfl) (.iface 88 (ptr q)) (by go_simp) ?_
    simp only [Act.put, List.setIfInBounds_toArray, List.set_cons_zero, List.set_cons_succ]
    refine WL.val (by kernel_rfl) (.slice none 0 0) (by go_simp) ?_
    simp only [Act.put, List.setIfInBounds_toArray, List.set_cons_zero, List.set_cons_succ]
    refine WL.val (by kernel_rfl) (.iface 88 (ptr q)) (by go_simp) ?_
    simp only [Act.put, List.setIfInBounds_toArray, List.set_cons_zero, List.set_cons_succ]
    refine WL.nil ?_
    refine hK19 _ _ ?_
    refine wp_ret ?_
    go_ret2
    exact ⟨.slice none 0 0, err q, rfl, H2.out, by rw [HG1.out hE]; exact .inr ⟨hE, rfl, q, hq, rfl, Hbad.out⟩⟩
theorem get_bad (p q : Nat) (s : ByteArray) (a : Nat) (w : World) (hI : InAt w p s a (some q)) :
    Calls Try.prog 25 #[ptr p] w fun e w' => e = .returned (.tuple #[.slice none 0 0, err q]) ∧ Below w.heap.size w w' := by
  have HI := Keep.mk hI
  clear hI
  go_enter Try.func25, Try.ntmps25
  refine wp_seq_k fun K1 hK1 => ?_
  refine wp_region_list (WL.out ?_)
  refine WL.val (by kernel_rfl) (.slice none 0 0) (by go_simp) ?_
  simp only [Act.put, List.setIfInBounds_toArray, List.set_cons_zero, List.set_cons_succ]
  refine WL.val (by kernel_rfl) (.nilIface) (by go_simp) ?_
  simp only [Act.put, List.setIfInBounds_toArray, List.set_cons_zero, List.set_cons_succ]
  refine WL.nil ?_
  refine hK1 _ _ ?_
  refine wp_seq_k fun K2 hK2 => ?_
  refine wp_region_list (WL.out ?_)
  refine WL.val (by kernel_rfl) (.pointer (some ⟨p, 0, none⟩)) (by go_simp) ?_
  simp only [Act.put, List.setIfInBounds_toArray, List.set_cons_zero, List.set_cons_succ]
  refine WL.callF (by kernel_rfl) 46 _ _ rfl Try.in46 #[ptr p, .int .u64 1024] (by simp [Act.eval]) ?_
  refine (inum_bad p s a q (.int .u64 1024) w HI.out).mono ?_
  rintro e w1 ⟨rfl, h1⟩
  refine ⟨_, rfl, ?_⟩
  unfold err
  simp only [Act.put, List.setIfInBounds_toArray, List.set_cons_zero, List.set_cons_succ]
  refine WL.val (by kernel_rfl) (.tuple #[.int .u64 0, .iface 88 (ptr q)]) (by go_simp) ?_
  simp only [Act.put, List.setIfInBounds_toArray, List.set_cons_zero, List.set_cons_succ]
  refine WL.val (by kernel_rfl) (.int .u64 0) (by go_simp) ?_
  simp only [Act.put, List.setIfInBounds_toArray, List.set_cons_zero, List.set_cons_succ]
  refine WL.val (by kernel_rfl) (.iface 88 (ptr q)) (by go_simp) ?_
  simp only [Act.put, List.setIfInBounds_toArray, List.set_cons_zero, List.set_cons_succ]
  refine WL.val (by kernel_rfl) (.int .u64 0) (by go_simp) ?_
  simp only [Act.put, List.setIfInBounds_toArray, List.set_cons_zero, List.set_cons_succ]
  refine WL.val (by kernel_rfl) (.iface 88 (ptr q)) (by go_simp) ?_
  simp only [Act.put, List.setIfInBounds_toArray, List.set_cons_zero, List.set_cons_succ]
  refine WL.nil ?_
  refine hK2 _ _ ?_
  refine wp_seq_k fun K3 hK3 => ?_
  refine wp_seq_k fun K4 hK4 => ?_
  refine wp_region_list (WL.out ?_)
  refine WL.val (by kernel_rfl) (.iface 88 (ptr q)) (by go_simp) ?_
  simp only [Act.put, List.setIfInBounds_toArray, List.set_cons_zero, List.set_cons_succ]
  refine WL.val (by kernel_rfl) (.bool true) (by go_simp) ?_
  simp only [Act.put, List.setIfInBounds_toArray, List.set_cons_zero, List.set_cons_succ]
  refine WL.nil ?_
  refine hK4 _ _ ?_
  refine wp_cond_true rfl ?_
  refine wp_seq_k fun K5 hK5 => ?_
  refine wp_region_list (WL.out ?_)
  refine WL.val (by kernel_rfl) (.iface 88 (ptr q)) (by go_simp) ?_
  simp only [Act.put, List.setIfInBounds_toArray, List.set_cons_zero, List.set_cons_succ]
  refine WL.val (by kernel_rfl) (.slice none 0 0) (by go_simp) ?_
  simp only [Act.put, List.setIfInBounds_toArray, List.set_cons_zero, List.set_cons_succ]
  refine WL.val (by kernel_rfl) (.iface 88 (ptr q)) (by go_simp) ?_
  simp only [Act.put, List.setIfInBounds_toArray, List.set_cons_zero, List.set_cons_succ]
  refine WL.nil ?_
  refine hK5 _ _ ?_
  refine wp_ret ?_
  go_ret2
  exact ⟨rfl, h1⟩
end Go.Proofs.Ytbkboebinhafhaa
