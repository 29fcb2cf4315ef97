import Derived.Test.YtibaindbnemlcaaGreatDoorB02
import Derived.Test.YtibaindbnemlcaaGreatDoorB01
import Derived.Defers
import Derived.Recover
import Derived.Test.YtibaindbnemlcaaGreatDoorChecked
import Derived.WalkKit
import Derived.WalkSpells
import Derived.WalkLawsBesides
import Derived.BigQuiet
import Derived.BigRegion
import Derived.Deep.WholeRow
import Derived.Deep.MidRow
import Derived.Deep.RegionWith
import Derived.Deep.DeepCutAuto
import Derived.Deep.RegionHeld3
import Derived.ChangeKeysEq
import Derived.Sort.Grow
import Derived.Deep.Draws
import Derived.Deep.QuietTactic
namespace Go.Proofs.YtibaindbnemlcaaGreatDoor.Nd
open Go.RowKit
set_option linter.unusedSimpArgs false

def OwnO (w : World) (v : Value) (l : List OpV) : Prop := w.ownsRow 0 164 37 v l.length (flatO l)
theorem OwnO.form {w : World} {v : Value} {l : List OpV} (h : OwnO w v l) : (v = .slice none 0 0 ∧ l = []) ∨ ∃ g cap cur, v = .slice (some ⟨g, 0, none⟩) l.length cap ∧ Blk w g 164 cur ∧ l.length ≤ cap ∧ cur.toList.take (l.length * 37) = flatO l := by
  rcases h.2 with ⟨rfl, h0⟩ | ⟨g, cap, cur, rfl, _, h3, h4, h5, h6, h7⟩
  · exact .inl ⟨rfl, List.eq_nil_of_length_eq_zero h0⟩
  · exact .inr ⟨g, cap, cur, rfl, h3, h4, h7⟩
theorem OwnO.ops {w : World} {v : Value} {l : List OpV} (h : OwnO w v l) : OpsAt w v l := by
  rcases h.form with ⟨rfl, rfl⟩ | ⟨g, cap, cur, rfl, h1, h2, h3⟩
  · exact .inl ⟨_, _, rfl, rfl⟩
  · exact ops_block h1 h3 h2
theorem OwnO.sl {w : World} {v : Value} {l : List OpV} (h : OwnO w v l) : ∃ a c, v = .slice a l.length c := h.ops.form
theorem OwnO.lt {w : World} {v : Value} {l : List OpV} (h : OwnO w v l) : ∀ k, v.ownBlock = some k → k < w.heap.size := fun k hk => (World.ownsRow.lt h k hk).2
theorem OwnO.grown {w w' : World} {v : Value} {l : List OpV} {S : Nat → Prop} (h : OwnO w v l) (hg : Grown w w' S) (hs : ∀ k, v.ownBlock = some k → ¬ S k) : OwnO w' v l := by
  refine ⟨h.1, ?_⟩
  rcases h.2 with h1 | ⟨g, cap, cur, rfl, h2, h3, h4⟩
  · exact .inl h1
  · exact .inr ⟨g, cap, cur, rfl, h2, hg.blk h3 (hs g rfl), h4⟩
theorem OwnO.below {w w' : World} {v : Value} {l : List OpV} (h : OwnO w v l) (hb : Below w.heap.size w w') : OwnO w' v l := h.grown (Grown.below (S := fun _ => False) hb) fun _ _ h => h
theorem OwnO.ne {w : World} {v : Value} {l : List OpV} {p : Nat} {T : TypeId} {cs : Array Value} (h : OwnO w v l) (hp : Blk w p T cs) (hT : T ≠ 164) : v.ownBlock ≠ some p := by
  intro e
  rcases h.form with ⟨rfl, _⟩ | ⟨g, cap, cur, rfl, h3, _⟩
  · simp [Value.ownBlock] at e
  · simp [Value.ownBlock] at e
    subst e
    exact hT (blk_type hp h3)
theorem ownO_empty (w : World) : OwnO (w.alloc (.cells #[] 164)) (.slice (some ⟨w.heap.size, 0, none⟩) 0 0) [] :=
  ⟨rfl, .inr ⟨w.heap.size, 0, #[], rfl, Nat.zero_le _, Blk.new w 164 #[], Nat.le_refl _, by decide, rfl, rfl⟩⟩
theorem Tryz.info164 : (Tryz.prog.info? 164).map (fun i => (i.zero, i.size, i.bytes)) = some (some (.agg (opA zeroOp)), 37, 88) := by kernel_rfl
theorem run_appO (w : World) (ty : TypeId) (v : Value) (l : List OpV) (hown : OwnO w v l) (g : Nat) (x : OpV) (hg : Blk w g 164 (opA x)) (hb : l.length ≤ 1000000000000) :
    ∃ v' w', (Builtin.append_ #[52, 52] ty #[v, .slice (some ⟨g, 0, none⟩) 1 1]).run Tryz.prog w = .ok v' w' ∧ OwnO w' v' (l ++ [x]) ∧ (Grown w w' fun k => v.ownBlock = some k) ∧ Moved w v v' := by
  obtain ⟨i, hi, hzz⟩ := Option.map_eq_some_iff.1 Tryz.info164
  simp only [Prod.mk.injEq] at hzz
  obtain ⟨hz, hsz, hby⟩ := hzz
  obtain ⟨v', w', hr, h1, h2, _, h3⟩ := run_append_own_at (P := Tryz.prog) w 0 52 ty 164 i (.agg (opA zeroOp)) 37 88 Tryz.underlying52 hi hz hsz hby (opA_size _) (by omega) v l.length (flatO l) hown ⟨g, 0, none⟩ 1 1 (opL x) (by rw [opL_len]) (fun j u hu => by
      rw [Addr.add_mid, Nat.zero_add, hg.cell]
      unfold opA
      rw [List.getElem?_toArray]; exact hu)
    (fun u hu => (Array.all_eq_true_iff_forall_mem.1 (opA_one x)) u (by unfold opA; simpa using hu)) (by unfold maxLen; omega) (by omega) (Nat.zero_le _)
  refine ⟨v', w', hr, ?_, Grown.of h2 fun k _ e => e, ?_⟩
  · unfold OwnO
    rw [List.length_append, show flatO (l ++ [x]) = flatO l ++ opL x by simp [flatO]]
    exact h1
  · rcases h3 with h3 | h3
    · exact .inl h3
    · exact .inr ⟨_, h3, Nat.le_refl _⟩
theorem WL.appO {ops : Array Oper} {rest : List Oper} {o : Oper} {a : Act} {w : World} {Q : Exit → Act → World → Prop} (hw : Region.wanted o (yielded ops a.tmps) = true) (s x : Operand)
    (ho : o.op = .call { callee := .builtin .append, args := #[s, x], argTypes := #[52, 52] }) (v : Value) (l : List OpV) (g : Nat) (y : OpV)
    (hs : a.eval s = v) (hx : a.eval x = .slice (some ⟨g, 0, none⟩) 1 1) (hown : OwnO w v l) (hg : Blk w g 164 (opA y)) (hb : l.length ≤ 1000000000000)
    (h : ∀ v' w', OwnO w' v' (l ++ [y]) → (Grown w w' fun k => v.ownBlock = some k) → Moved w v v' → WL Tryz.prog ops Q rest (a.put o.dst v') w') : WL Tryz.prog ops Q (o :: rest) a w :=
  ⟨wpList_wanted hw fun K hK => by
    obtain ⟨v', w', hr, h1, h2, h3⟩ := run_appO w o.type v l hown g y hg hb
    unfold Oper.wp execOp
    simp only [ho, resolve, invoke, builtin, Sem.run_bind, Sem.run_pure, Result.andThen_ok, List.map_toArray, List.map_cons, List.map_nil, hs, hx, hr]
    exact hK _ _ (h v' w' h1 h2 h3).out⟩
theorem bsO (x : OpV) (w : World) : (Instr.buildSlice 52 1 #[(0, .agg (opA x))]).run Tryz.prog w = .ok (.slice (some ⟨w.heap.size, 0, none⟩) 1 1) (w.alloc (.cells (opA x) 164)) := by kernel_rfl
theorem bsE (w : World) : (Instr.buildSlice 52 0 #[]).run Tryz.prog w = .ok (.slice (some ⟨w.heap.size, 0, none⟩) 0 0) (w.alloc (.cells #[] 164)) := by kernel_rfl
def getN (L : List Int) : Nat → List OpV → Nat → Int × Nat × List OpV
  | 0, l, a => (0, a, l)
  | n + 1, l, a => if (getO L l a).1 = 0 then getN L n (l ++ [(getO L l a).2.2]) (getO L l a).2.1 else ((getO L l a).1, (getO L l a).2.1, [])
def getL (L : List Int) (a : Nat) : Int × Nat × List OpV :=
  if (fstM (L.drop a) 1024).2.2 ≠ 0 then ((fstM (L.drop a) 1024).2.2, a + (fstM (L.drop a) 1024).2.1.toNat, []) else getN L (fstM (L.drop a) 1024).1.toNat [] (a + (fstM (L.drop a) 1024).2.1.toNat)
def ListPost (p : Nat) (s : ByteArray) (R : Int × Nat × List OpV) (w : World) (e : Ending) (w' : World) : Prop :=
  ∃ v er, e = .returned (.tuple #[v, er]) ∧ (Grown w w' fun k => k = p) ∧
    ((R.1 = 0 ∧ er = .nilIface ∧ OwnO w' v R.2.2 ∧ (∀ k, v.ownBlock = some k → w.heap.size ≤ k) ∧ InAt w' p s R.2.1 none ∧ (∀ x ∈ R.2.2, OpOk x) ∧ R.2.2.length ≤ 1024) ∨ (R.1 ≠ 0 ∧ v = .slice none 0 0 ∧ ∃ q, w.heap.size ≤ q ∧ er = err q ∧ BadAt w' q R.1 R.2.1))
set_option maxRecDepth 8000 in
set_option maxHeartbeats 4000000 in
theorem get_any (p : Nat) (s : ByteArray) (a : Nat) (w : World) (hI : InAt w p s a none) (hb : s.size ≤ 140737488355328) :
    Calls Tryz.prog 55 #[ptr p] w (ListPost p s (getL (lst s) a) w) := by
  have HI := Keep.mk hI
  have Hb := Keep.mk hb
  have hrg := fst_rng ((lst s).drop a) ((lst_byts s).drop a) 1024 (by decide)
  have hc := inum_good p s a 1024 w hI hb
  obtain ⟨G, hG⟩ : ∃ G, G = getL (lst s) a := ⟨_, rfl⟩
  rw [← hG]
  unfold getL at hG
  have hc' : Calls Tryz.prog 50 #[ptr p, .int .u64 1024] w (RdPost p s (fstM ((lst s).drop a) 1024).2.2 (a + (fstM ((lst s).drop a) 1024).2.1.toNat) (.int .u64 (fstM ((lst s).drop a) 1024).1) w) := hc
  clear hc
  generalize fstM ((lst s).drop a) 1024 = R at *
  obtain ⟨rv, rn, re⟩ := R
  simp only at hG hc' hrg
  obtain ⟨a1, ha1⟩ : ∃ a1, a1 = a + rn.toNat := ⟨_, rfl⟩
  rw [← ha1] at hG hc'
  have HC := Keep.mk hc'
  have Hrg := Keep.mk hrg
  have HG1 : Keep (¬ re = 0 → G = (re, a1, [])) := ⟨fun h => by rw [hG, if_pos h]⟩
  have HG0 : Keep (re = 0 → G = getN (lst s) rv.toNat [] a1) := ⟨fun h => by rw [hG, if_neg (by simp [h])]⟩
  clear hI hb hrg hc' hG ha1
  go_enter Tryz.func55, Tryz.ntmps55
  refine wp_seq_k fun K1 hK1 => ?_
  refine wp_region_list (WL.out ?_)
  refine WL.val (by kernel_rfl) (.slice none 0 0) (by go_simp) ?_
  simp only [Act.put, List.setIfInBounds_toArray, List.set_cons_zero, List.set_cons_succ]
  refine WL.val (by kernel_rfl) (.nilIface) (by go_simp) ?_
  simp only [Act.put, List.setIfInBounds_toArray, List.set_cons_zero, List.set_cons_succ]
  refine WL.nil ?_
  refine hK1 _ _ ?_
  refine wp_seq_k fun K2 hK2 => ?_
  refine wp_region_list (WL.out ?_)
  refine WL.val (by kernel_rfl) (.pointer (some ⟨p, 0, none⟩)) (by go_simp) ?_
  simp only [Act.put, List.setIfInBounds_toArray, List.set_cons_zero, List.set_cons_succ]
  refine WL.callF (by kernel_rfl) 50 _ _ rfl Tryz.in50 #[ptr p, .int .u64 1024] (by simp [Act.eval]) ?_
  refine (HC.out).mono ?_
  rintro e w1 ⟨bad, er, rfl, h1, h2, h3⟩
  refine ⟨_, rfl, ?_⟩
  have H1 := Keep.mk h1
  have H2 := Keep.mk h2
  have H3 := Keep.mk h3
  clear h1 h2 h3
  simp only [Act.put, List.setIfInBounds_toArray, List.set_cons_zero, List.set_cons_succ]
  refine WL.val (by kernel_rfl) (.tuple #[.int .u64 rv, er]) (by go_simp) ?_
  simp only [Act.put, List.setIfInBounds_toArray, List.set_cons_zero, List.set_cons_succ]
  refine WL.val (by kernel_rfl) (.int .u64 rv) (by go_simp) ?_
  simp only [Act.put, List.setIfInBounds_toArray, List.set_cons_zero, List.set_cons_succ]
  refine WL.val (by kernel_rfl) (er) (by go_simp) ?_
  simp only [Act.put, List.setIfInBounds_toArray, List.set_cons_zero, List.set_cons_succ]
  refine WL.val (by kernel_rfl) (.int .u64 rv) (by go_simp) ?_
  simp only [Act.put, List.setIfInBounds_toArray, List.set_cons_zero, List.set_cons_succ]
  refine WL.val (by kernel_rfl) (er) (by go_simp) ?_
  simp only [Act.put, List.setIfInBounds_toArray, List.set_cons_zero, List.set_cons_succ]
  refine WL.nil ?_
  refine hK2 _ _ ?_
  refine wp_seq_k fun K3 hK3 => ?_
  refine wp_seq_k fun K4 hK4 => ?_
  by_cases hE : re = 0
  · rcases H3.out with ⟨e1, rfl, rfl⟩ | ⟨e1, _⟩
    rotate_left
    · exact absurd hE e1
    obtain ⟨n, hn⟩ : ∃ n : Nat, rv = (n : Int) := ⟨rv.toNat, by have := Hrg.out; omega⟩
    have Hn : Keep (n ≤ 1024) := ⟨by have := Hrg.out; omega⟩
    have HR : Keep (G = getN (lst s) n [] a1) := ⟨by rw [HG0.out hE, hn, Int.toNat_natCast]⟩
    subst hn
    refine wp_region_list (WL.out ?_)
    refine WL.val (by kernel_rfl) (.nilIface) (by go_simp) ?_
    simp only [Act.put, List.setIfInBounds_toArray, List.set_cons_zero, List.set_cons_succ]
    refine WL.val (by kernel_rfl) (.bool false) (by go_simp) ?_
    simp only [Act.put, List.setIfInBounds_toArray, List.set_cons_zero, List.set_cons_succ]
    refine WL.nil ?_
    refine hK4 _ _ ?_
    refine wp_cond_false rfl ?_
    refine wp_skip ?_
    refine hK3 _ _ ?_
    refine wp_seq_k fun K5 hK5 => ?_
    refine wp_region_list (WL.out ?_)
    refine WL.callF (by kernel_rfl) 76 _ _ rfl Tryz.in76 #[] (by simp) ?_
    refine (tab_any w1).mono ?_
    rintro e w2 ⟨m, rfl, hT2, hm2, hB2⟩
    refine ⟨_, rfl, ?_⟩
    have HT2 := Keep.mk hT2
    have HI2 : Keep (InAt w2 p s a1 none) := ⟨H1.out.blk.below hB2 H1.out.blk.lt, H1.out.le⟩
    have HG2 : Keep (Grown w w2 fun k => k = p) := ⟨H2.out.trans (Grown.below hB2)⟩
    clear hT2 hm2 hB2
    simp only [Act.put, List.setIfInBounds_toArray, List.set_cons_zero, List.set_cons_succ]
    refine WL.val (by kernel_rfl) (.map (some m)) (by go_simp) ?_
    simp only [Act.put, List.setIfInBounds_toArray, List.set_cons_zero, List.set_cons_succ]
    refine WL.nil ?_
    refine hK5 _ _ ?_
    refine wp_seq_k fun K6 hK6 => ?_
    refine wp_region_list (WL.out ?_)
    refine WL.bs (by kernel_rfl) 52 0 _ rfl #[] (by simp) _ _ (bsE w2) ?_
    have HO3 := Keep.mk (ownO_empty w2)
    have B3 : Keep (Below w2.heap.size w2 (w2.alloc (.cells #[] 164))) := ⟨below_new w2 _⟩
    generalize w2.alloc (.cells #[] 164) = w3 at *
    have HOn3 : Keep (∀ k, (Value.slice (some ⟨w2.heap.size, 0, none⟩) 0 0).ownBlock = some k → w.heap.size ≤ k) := ⟨fun k hk => by simp [Value.ownBlock] at hk; have := HG2.out.size; omega⟩
    have HI3 : Keep (InAt w3 p s a1 none) := ⟨HI2.out.blk.below B3.out HI2.out.blk.lt, HI2.out.le⟩
    have HT3 := Keep.mk (HT2.out.below B3.out)
    have HG3 : Keep (Grown w w3 fun k => k = p) := ⟨HG2.out.trans (Grown.below B3.out)⟩
    simp only [Act.put, List.setIfInBounds_toArray, List.set_cons_zero, List.set_cons_succ]
    refine WL.val (by kernel_rfl) (.slice (some ⟨w2.heap.size, 0, none⟩) 0 0) (by go_simp) ?_
    simp only [Act.put, List.setIfInBounds_toArray, List.set_cons_zero, List.set_cons_succ]
    refine WL.nil ?_
    refine hK6 _ _ ?_
    refine wp_seq_k fun K7 hK7 => ?_
    refine wp_seq_k fun K8 hK8 => ?_
    refine wp_region_list (WL.out ?_)
    refine WL.val (by kernel_rfl) (.int .u64 (n : Int)) (by go_simp) ?_
    simp only [Act.put, List.setIfInBounds_toArray, List.set_cons_zero, List.set_cons_succ]
    refine WL.val (by kernel_rfl) (.int .u64 0) (by go_simp) ?_
    simp only [Act.put, List.setIfInBounds_toArray, List.set_cons_zero, List.set_cons_succ]
    refine WL.nil ?_
    refine hK8 _ _ ?_
    refine wp_block ?_
    refine wp_loop (fun ac wr => ∃ (t : Nat) (u2 u3 u7 u8 u9 u22 u23 u24 u25 u26 u27 u28 u29 u30 u31 u32 u33 u34 u35 u36 u37 : Value), ac = { tmps := #[.pointer (some ⟨p, 0, none⟩), undef, u2, u3, .int .u64 (n : Int), .nilIface, .map (some m), u7, u8, u9, .tuple #[.int .u64 (n : Int), .nilIface], .pointer (some ⟨p, 0, none⟩), .tuple #[.int .u64 (n : Int), .nilIface], .int .u64 (n : Int), .nilIface, .nilIface, .bool false, undef, .map (some m), .slice (some ⟨w2.heap.size, 0, none⟩) 0 0, .int .u64 (n : Int), .int .u64 (t : Int), u22, u23, u24, u25, u26, u27, u28, u29, u30, u31, u32, u33, u34, u35, u36, u37, undef], defers := [] } ∧ t ≤ n ∧ ∃ l at_, getN (lst s) n [] a1 = getN (lst s) (n - t) l at_ ∧ InAt wr p s at_ none ∧ OwnO wr u7 l ∧ (∀ k, u7.ownBlock = some k → w.heap.size ≤ k) ∧ TabAt wr m ∧ (Grown w wr fun k => k = p) ∧ (∀ x ∈ l, OpOk x) ∧ l.length = t) (fun a _ => n - (intOf (a.tmps.getD 21 undef)).toNat) ⟨0, .slice none 0 0, .nilIface, .slice (some ⟨w2.heap.size, 0, none⟩) 0 0, undef, undef, undef, undef, undef, undef, undef, undef, undef, undef, undef, undef, undef, undef, undef, undef, undef, undef, rfl, by omega, [], a1, rfl, HI3.out, HO3.out, HOn3.out, HT3.out, HG3.out, by simp, rfl⟩ ?_
    rintro ac wr ⟨t, u2, u3, u7, u8, u9, u22, u23, u24, u25, u26, u27, u28, u29, u30, u31, u32, u33, u34, u35, u36, u37, rfl, ht, l, at_, hC, hI, hO, hOn, hT, hG, hOk, hLn⟩
    by_cases htl : t < n
    · have htl' : (t : Int) < (n : Int) := by omega
      obtain ⟨k1, hk1⟩ : ∃ k1, n - t = k1 + 1 := ⟨n - t - 1, by omega⟩
      rw [hk1, getN] at hC
      have hk2 : k1 = n - (t + 1) := by omega
      rw [hk2] at hC
      have hwr1 : IntKind.u64.wrap ((t : Int) + 1) = (t : Int) + 1 := by rw [IntKind.wrap_u64]; have := Hn.out; omega
      obtain ⟨oa, oc, rfl⟩ := hO.sl
      obtain ⟨G, hGG⟩ : ∃ G, Keep (G = getO (lst s) l at_) := ⟨_, ⟨rfl⟩⟩
      rw [← hGG.out] at hC
      have JC := Keep.mk hC
      have JI := Keep.mk hI
      have JO := Keep.mk hO
      have JOn := Keep.mk hOn
      have JT := Keep.mk hT
      have JG := Keep.mk hG
      have JOk := Keep.mk hOk
      have JLn := Keep.mk hLn
      clear hC hI hO hOn hT hG hOk hLn hk1 hk2
      refine wp_seq_k fun K9 hK9 => ?_
      refine wp_region_list (WL.out ?_)
      refine WL.val (by kernel_rfl) (.bool true) (by go_simp) ?_
      simp only [Act.put, List.setIfInBounds_toArray, List.set_cons_zero, List.set_cons_succ]
      refine WL.nil ?_
      refine hK9 _ _ ?_
      refine wp_seq_k fun K10 hK10 => ?_
      refine wp_cond_true rfl ?_
      refine wp_skip ?_
      refine hK10 _ _ ?_
      refine wp_seq_k fun K11 hK11 => ?_
      refine wp_block ?_
      refine wp_seq_k fun K12 hK12 => ?_
      refine wp_region_list (WL.out ?_)
      refine WL.val (by kernel_rfl) (.pointer (some ⟨p, 0, none⟩)) (by go_simp) ?_
      simp only [Act.put, List.setIfInBounds_toArray, List.set_cons_zero, List.set_cons_succ]
      refine WL.val (by kernel_rfl) (.map (some m)) (by go_simp) ?_
      simp only [Act.put, List.setIfInBounds_toArray, List.set_cons_zero, List.set_cons_succ]
      refine WL.val (by kernel_rfl) (.slice oa l.length oc) (by go_simp) ?_
      simp only [Act.put, List.setIfInBounds_toArray, List.set_cons_zero, List.set_cons_succ]
      refine WL.callF (by kernel_rfl) 77 _ _ rfl Tryz.in77 #[ptr p, .map (some m), .slice oa l.length oc] (by simp [Act.eval]) ?_
      refine (getOne_any p m s at_ _ l wr JI.out Hb.out JT.out (fun wx hx => (JO.out.grown hx (fun k hk e => JO.out.ne JI.out.blk (by decide) (e ▸ hk))).ops) (by have := JLn.out; have := Hn.out; omega)).mono ?_
      rintro e w1 ⟨y, er, rfl, hg1, hc1⟩
      refine ⟨_, rfl, ?_⟩
      rw [← hGG.out] at hc1
      have HG1 := Keep.mk hg1
      have HGw : Keep (Grown w w1 fun k => k = p) := ⟨JG.out.trans hg1⟩
      have HC1 := Keep.mk hc1
      have HO1 := Keep.mk (JO.out.grown hg1 (fun k hk e => JO.out.ne JI.out.blk (by decide) (e ▸ hk)))
      have HT1 := Keep.mk (JT.out.grown hg1 (fun e => JT.out.ne JI.out.blk e) (fun g cs hg e => blk_ne hg JI.out.blk (by decide) e))
      clear hg1 hc1
      simp only [Act.put, List.setIfInBounds_toArray, List.set_cons_zero, List.set_cons_succ]
      refine WL.val (by kernel_rfl) (.tuple #[.agg (opA y), er]) (by go_simp) ?_
      simp only [Act.put, List.setIfInBounds_toArray, List.set_cons_zero, List.set_cons_succ]
      refine WL.val (by kernel_rfl) (.agg (opA y)) (by go_simp) ?_
      simp only [Act.put, List.setIfInBounds_toArray, List.set_cons_zero, List.set_cons_succ]
      refine WL.val (by kernel_rfl) (er) (by go_simp) ?_
      simp only [Act.put, List.setIfInBounds_toArray, List.set_cons_zero, List.set_cons_succ]
      refine WL.new (by kernel_rfl) 164 rfl _ Tryz.new164 ?_
      simp only [Act.put, List.setIfInBounds_toArray, List.set_cons_zero, List.set_cons_succ]
      refine WL.storeR (by kernel_rfl) 164 (.tmp 8) (.tmp 28) rfl w1.heap.size (opA y) rfl rfl 164 (opA zeroOp) (Blk.new w1 164 _) (Tryz.size164B y) (opA_sizes _ _) (opA_one y) ?_
      have HY2 := Keep.mk ((Blk.new w1 164 (opA zeroOp)).setRow (opA y))
      have B2 : Keep (Below w1.heap.size w1 ((w1.alloc (.cells (opA zeroOp) 164)).setRow w1.heap.size (opA y))) := ⟨below_setRow (below_new w1 _) (Nat.le_refl _) _⟩
      generalize (w1.alloc (.cells (opA zeroOp) 164)).setRow w1.heap.size (opA y) = w2 at *
      have HG2 : Keep (Grown w w2 fun k => k = p) := ⟨HGw.out.trans (Grown.below B2.out)⟩
      have HO2 := Keep.mk (HO1.out.below B2.out)
      have HT2 := Keep.mk (HT1.out.below B2.out)
      simp only [Act.put]
      refine WL.val (by kernel_rfl) (er) (by go_simp) ?_
      simp only [Act.put, List.setIfInBounds_toArray, List.set_cons_zero, List.set_cons_succ]
      refine WL.nil ?_
      refine hK12 _ _ ?_
      refine wp_seq_k fun K13 hK13 => ?_
      refine wp_seq_k fun K14 hK14 => ?_
      by_cases hE : G.1 = 0
      · rcases HC1.out with ⟨e1, rfl, rfl, e3, e4⟩ | ⟨e1, _⟩
        rotate_left
        · exact absurd hE e1
        have HI2 : Keep (InAt w2 p s G.2.1 none) := ⟨e3.blk.below B2.out e3.blk.lt, e3.le⟩
        have K3 := Keep.mk e4
        clear e3 e4
        rw [if_pos hE] at JC
        refine wp_region_list (WL.out ?_)
        refine WL.val (by kernel_rfl) (.nilIface) (by go_simp) ?_
        simp only [Act.put, List.setIfInBounds_toArray, List.set_cons_zero, List.set_cons_succ]
        refine WL.val (by kernel_rfl) (.bool false) (by go_simp) ?_
        simp only [Act.put, List.setIfInBounds_toArray, List.set_cons_zero, List.set_cons_succ]
        refine WL.nil ?_
        refine hK14 _ _ ?_
        refine wp_cond_false rfl ?_
        refine wp_skip ?_
        refine hK13 _ _ ?_
        refine wp_region_list (WL.out ?_)
        refine WL.val (by kernel_rfl) (.slice oa l.length oc) (by go_simp) ?_
        simp only [Act.put, List.setIfInBounds_toArray, List.set_cons_zero, List.set_cons_succ]
        refine WL.row (by kernel_rfl) 164 (.tmp 8) rfl w1.heap.size rfl 164 (opA G.2.2) _ HY2.out Tryz.underlying164 rfl (Tryz.size164B _) ?_
        simp only [Act.put, List.setIfInBounds_toArray, List.set_cons_zero, List.set_cons_succ]
        refine WL.bs (by kernel_rfl) 52 1 _ rfl #[(0, .agg (opA G.2.2))] (by simp [Act.eval]) _ _ (bsO G.2.2 w2) ?_
        have HB3 := Keep.mk (Blk.new w2 164 (opA G.2.2))
        have B3 : Keep (Below w2.heap.size w2 (w2.alloc (.cells (opA G.2.2) 164))) := ⟨below_new w2 _⟩
        generalize w2.alloc (.cells (opA G.2.2) 164) = w3 at *
        simp only [Act.put, List.setIfInBounds_toArray, List.set_cons_zero, List.set_cons_succ]
        refine WL.appO (by kernel_rfl) (.tmp 33) (.tmp 35) rfl (.slice oa l.length oc) l w2.heap.size G.2.2 rfl rfl (HO2.out.below B3.out) HB3.out (by have := JLn.out; have := Hn.out; omega) ?_
        intro v4 w4 h1 h2 h3
        have HO4 := Keep.mk h1
        have Hg4 : Keep (Grown w w4 fun k => k = p) := ⟨(HG2.out.trans (Grown.below B3.out)).next h2 (fun k hk e => absurd (JOn.out k e) (by omega))⟩
        have HT4 := Keep.mk ((HT2.out.below B3.out).grown h2 (fun e => by
          rcases (HO2.out.below B3.out).form with ⟨e1, _⟩ | ⟨g, cap, cur, e1, hgb, _⟩
          · rw [e1] at e; simp [Value.ownBlock] at e
          · rw [e1] at e; simp [Value.ownBlock] at e; subst e; exact (HT2.out.below B3.out).ne hgb rfl) (fun g cs hg e => (HO2.out.below B3.out).ne hg (by decide) e))
        have HI4 : Keep (InAt w4 p s G.2.1 none) := ⟨h2.blk (HI2.out.blk.below B3.out HI2.out.blk.lt) (fun e => (HO2.out.below B3.out).ne (HI2.out.blk.below B3.out HI2.out.blk.lt) (by decide) e), HI2.out.le⟩
        have HOn4 : Keep (∀ k, v4.ownBlock = some k → w.heap.size ≤ k) := ⟨fun k hk => by
          rcases h3 with e | ⟨j, e, hj⟩
          · rw [e] at hk; exact JOn.out k hk
          · rw [e] at hk; injection hk with hk; have := HG2.out.size; have := B3.out.size; omega⟩
        clear h1 h2 h3
        simp only [Act.put, List.setIfInBounds_toArray, List.set_cons_zero, List.set_cons_succ]
        refine WL.val (by kernel_rfl) (v4) (by go_simp) ?_
        simp only [Act.put, List.setIfInBounds_toArray, List.set_cons_zero, List.set_cons_succ]
        refine WL.nil ?_
        refine hK11 _ _ ?_
        refine wp_region_list (WL.out ?_)
        refine WL.val (by kernel_rfl) (.int .u64 ((t : Int) + 1)) (by go_simp) ?_
        simp only [Act.put, List.setIfInBounds_toArray, List.set_cons_zero, List.set_cons_succ]
        refine WL.val (by kernel_rfl) (.int .u64 ((t : Int) + 1)) (by go_simp) ?_
        simp only [Act.put, List.setIfInBounds_toArray, List.set_cons_zero, List.set_cons_succ]
        refine WL.nil ?_
        refine ⟨⟨t + 1, u2, u3, v4, .pointer (some ⟨w1.heap.size, 0, none⟩), .nilIface, .bool true, .tuple #[.agg (opA G.2.2), .nilIface], .pointer (some ⟨p, 0, none⟩), .map (some m), .slice oa l.length oc, .tuple #[.agg (opA G.2.2), .nilIface], .agg (opA G.2.2), .nilIface, .nilIface, .bool false, u32, .slice oa l.length oc, .agg (opA G.2.2), .slice (some ⟨w2.heap.size, 0, none⟩) 1 1, v4, .int .u64 ((t : Int) + 1), rfl, by omega, l ++ [G.2.2], G.2.1, JC.out, HI4.out, HO4.out, HOn4.out, HT4.out, Hg4.out, ?_, by rw [List.length_append]; simp [JLn.out]⟩, ?_⟩
        · intro z hz; rcases List.mem_append.1 hz with hz | hz; exact JOk.out z hz; simp at hz; subst hz; exact K3.out
        · simp only [intOf]; show n - ((t : Int) + 1).toNat < n - ((t : Int)).toNat; omega
      · rcases HC1.out with ⟨e1, _⟩ | ⟨_, q, hq, rfl, hbad⟩
        · exact absurd e1 hE
        have Hbad := Keep.mk (hbad.below B2.out hbad.lt)
        have Hq := Keep.mk (Nat.le_trans JG.out.size hq)
        clear hbad hq
        unfold err
        rw [if_neg hE] at JC
        refine wp_region_list (WL.out ?_)
        refine WL.val (by kernel_rfl) (.iface 64 (ptr q)) (by go_simp) ?_
        simp only [Act.put, List.setIfInBounds_toArray, List.set_cons_zero, List.set_cons_succ]
        refine WL.val (by kernel_rfl) (.bool true) (by go_simp) ?_
        simp only [Act.put, List.setIfInBounds_toArray, List.set_cons_zero, List.set_cons_succ]
        refine WL.nil ?_
        refine hK14 _ _ ?_
        refine wp_cond_true rfl ?_
        refine wp_seq_k fun K15 hK15 => ?_
        refine wp_region_list (WL.out ?_)
        refine WL.val (by kernel_rfl) (.iface 64 (ptr q)) (by go_simp) ?_
        simp only [Act.put, List.setIfInBounds_toArray, List.set_cons_zero, List.set_cons_succ]
        refine WL.val (by kernel_rfl) (.slice none 0 0) (by go_simp) ?_
        simp only [Act.put, List.setIfInBounds_toArray, List.set_cons_zero, List.set_cons_succ]
        refine WL.val (by kernel_rfl) (.iface 64 (ptr q)) (by go_simp) ?_
        simp only [Act.put, List.setIfInBounds_toArray, List.set_cons_zero, List.set_cons_succ]
        refine WL.nil ?_
        refine hK15 _ _ ?_
        refine wp_ret ?_
        go_ret2
        refine ⟨.slice none 0 0, err q, rfl, HG2.out, ?_⟩
        rw [HR.out, JC.out]
        exact .inr ⟨hE, rfl, q, Hq.out, rfl, Hbad.out⟩
    · have hte : Keep (t = n) := ⟨by omega⟩
      have htl' : ¬ (t : Int) < (n : Int) := by omega
      refine wp_seq_k fun K16 hK16 => ?_
      refine wp_region_list (WL.out ?_)
      refine WL.val (by kernel_rfl) (.bool false) (by go_simp) ?_
      simp only [Act.put, List.setIfInBounds_toArray, List.set_cons_zero, List.set_cons_succ]
      refine WL.nil ?_
      refine hK16 _ _ ?_
      refine wp_seq_k fun K17 hK17 => ?_
      refine wp_cond_false rfl ?_
      refine wp_exit ?_
      refine hK7 _ _ ?_
      refine wp_seq_k fun K18 hK18 => ?_
      refine wp_region_list (WL.out ?_)
      refine WL.val (by kernel_rfl) (u7) (by go_simp) ?_
      simp only [Act.put, List.setIfInBounds_toArray, List.set_cons_zero, List.set_cons_succ]
      refine WL.val (by kernel_rfl) (u7) (by go_simp) ?_
      simp only [Act.put, List.setIfInBounds_toArray, List.set_cons_zero, List.set_cons_succ]
      refine WL.val (by kernel_rfl) (.nilIface) (by go_simp) ?_
      simp only [Act.put, List.setIfInBounds_toArray, List.set_cons_zero, List.set_cons_succ]
      refine WL.nil ?_
      refine hK18 _ _ ?_
      refine wp_ret ?_
      go_ret2
      rw [hte.out, Nat.sub_self, getN] at hC
      refine ⟨u7, .nilIface, rfl, hG, ?_⟩
      rw [HR.out, hC]
      exact .inl ⟨rfl, rfl, hO, hOn, hI, hOk, by rw [hLn]; have := Hn.out; omega⟩
  · rcases H3.out with ⟨e1, _, _⟩ | ⟨_, q, hq, rfl, rfl, hbad⟩
    · exact absurd e1 hE
    have Hbad := Keep.mk hbad
    clear hbad
    unfold err
    refine wp_region_list (WL.out ?_)
    refine WL.val (by kernel_rfl) (.iface 64 (ptr q)) (by go_simp) ?_
    simp only [Act.put, List.setIfInBounds_toArray, List.set_cons_zero, List.set_cons_succ]
    refine WL.val (by kernel_rfl) (.bool true) (by go_simp) ?_
    simp only [Act.put, List.setIfInBounds_toArray, List.set_cons_zero, List.set_cons_succ]
    refine WL.nil ?_
    refine hK4 _ _ ?_
    refine wp_cond_true rfl ?_
    refine wp_seq_k fun K19 hK19 => ?_
    refine wp_region_list (WL.out ?_)
    refine WL.val (by kernel_rfl) (.iface 64 (ptr q)) (by go_simp) ?_
    simp only [Act.put, List.setIfInBounds_toArray, List.set_cons_zero, List.set_cons_succ]
    refine WL.val (by kernel_rfl) (.slice none 0 0) (by go_simp) ?_
    simp only [Act.put, List.setIfInBounds_toArray, List.set_cons_zero, List.set_cons_succ]
    refine WL.val (by kernel_rfl) (.iface 64 (ptr q)) (by go_simp) ?_
    simp only [Act.put, List.setIfInBounds_toArray, List.set_cons_zero, List.set_cons_succ]
    refine WL.nil ?_
    refine hK19 _ _ ?_
    refine wp_ret ?_
    go_ret2
    exact ⟨.slice none 0 0, err q, rfl, H2.out, by rw [HG1.out hE]; exact .inr ⟨hE, rfl, q, hq, rfl, Hbad.out⟩⟩
end Go.Proofs.YtibaindbnemlcaaGreatDoor.Nd
namespace Go.Proofs.YtibaindbnemlcaaGreatDoor.Nd
open Go.RowKit
set_option linter.unusedSimpArgs false
set_option linter.unusedVariables false

section
variable {P : Program} {ops : Array Oper} {rest : List Oper} {o : Oper} {a : Act} {w : World} {Q : Exit → Act → World → Prop}
theorem WL.callP (hw : Region.wanted o (yielded ops a.tmps) = true) (f : FuncId) (args : Array Operand) (ts : Array TypeId) (ho : o.op = .call { callee := .value (.func f), args := args, argTypes := ts })
    (hf : ∀ (w : World) (vs : Array Value), (callFunc f vs).run P w = .ok (.enter f vs) w) (vs : Array Value) (hvs : args.map a.eval = vs)
    (hc : Calls P f vs w fun e w' => (∃ v, e = .returned v ∧ WL P ops Q rest (a.put o.dst v) w') ∨ (∃ ch, e = .panicked ch ∧ Q (.panic ch) a w')) : WL P ops Q (o :: rest) a w :=
  ⟨wpList_wanted hw fun K hK => by
    unfold Oper.wp
    rw [run_callF a o f args ts ho hf w, Oper.upon_enter, hvs]
    refine hc.mono ?_
    rintro e w' (⟨v, rfl, hr⟩ | ⟨ch, rfl, hr⟩)
    · exact hK _ _ hr.out
    · exact hr⟩
theorem WL.panic (hw : Region.wanted o (yielded ops a.tmps) = true) (x : Operand) (ho : o.op = .panic x) (t : TypeId) (v : Value) (hx : a.eval x = .iface t v)
    (h : Q (.panic [{ v := .iface t v, recovered := false }]) a w) : WL P ops Q (o :: rest) a w :=
  ⟨wpList_wanted hw fun K hK => by
    unfold Oper.wp execOp
    simp only [ho, hx, Sem.run_bind, run_panic_iface]
    exact h⟩
end
def wr (q : Nat) : PanicEntry := { v := .iface 73 (.agg #[err q]), recovered := false }
theorem Tryz.in18 (w : World) (vs : Array Value) : (callFunc 18 vs).run Tryz.prog w = .ok (.enter 18 vs) w := by kernel_rfl
theorem Tryz.in52 (w : World) (vs : Array Value) : (callFunc 52 vs).run Tryz.prog w = .ok (.enter 52 vs) w := by kernel_rfl
theorem Tryz.in49 (w : World) (vs : Array Value) : (callFunc 49 vs).run Tryz.prog w = .ok (.enter 49 vs) w := by kernel_rfl
theorem Tryz.in54 (w : World) (vs : Array Value) : (callFunc 54 vs).run Tryz.prog w = .ok (.enter 54 vs) w := by kernel_rfl
theorem Tryz.in68 (w : World) (vs : Array Value) : (callFunc 68 vs).run Tryz.prog w = .ok (.enter 68 vs) w := by kernel_rfl
theorem Tryz.in73 (w : World) (vs : Array Value) : (callFunc 73 vs).run Tryz.prog w = .ok (.enter 73 vs) w := by kernel_rfl
theorem Tryz.in70 (w : World) (vs : Array Value) : (callFunc 70 vs).run Tryz.prog w = .ok (.enter 70 vs) w := by kernel_rfl
theorem Tryz.in51 (w : World) (vs : Array Value) : (callFunc 51 vs).run Tryz.prog w = .ok (.enter 51 vs) w := by kernel_rfl
theorem wr_built (q : Nat) : Tryz.prog.built 73 [(0, .iface 64 (ptr q))] = some #[.iface 64 (ptr q)] := by kernel_rfl
theorem giveUp_any (q : Nat) (w : World) : Calls Tryz.prog 18 #[err q] w fun e w' => e = .panicked [wr q] ∧ w' = w := by
  unfold wr err
  go_enter Tryz.func18, Tryz.ntmps18
  refine wp_region_list (WL.out ?_)
  refine WL.val (by kernel_rfl) (.iface 64 (ptr q)) (by go_simp) ?_
  simp only [Act.put, List.setIfInBounds_toArray, List.set_cons_zero, List.set_cons_succ]
  refine WL.bld (by kernel_rfl) 73 _ rfl [(0, .iface 64 (ptr q))] (by simp [Act.eval]) _ (wr_built _) ?_
  simp only [Act.put, List.setIfInBounds_toArray, List.set_cons_zero, List.set_cons_succ]
  refine WL.val (by kernel_rfl) (.iface 73 (.agg #[.iface 64 (ptr q)])) (by go_simp) ?_
  simp only [Act.put, List.setIfInBounds_toArray, List.set_cons_zero, List.set_cons_succ]
  refine WL.panic (by kernel_rfl) (.tmp 4) rfl 73 _ rfl ?_
  exact ⟨rfl, rfl, rfl⟩
theorem bad_built (why : Int) (a : Nat) : Tryz.prog.built 68 [(0, .int .i64 why), (1, .int .i64 (a : Int))] = some #[.int .i64 why, .int .i64 (a : Int)] := by kernel_rfl
theorem at_any (why : Int) (a : Nat) (w : World) : Calls Tryz.prog 52 #[.int .i64 why, .int .i64 (a : Int)] w fun e w' => e = .panicked [wr w.heap.size] ∧ BadAt w' w.heap.size why a ∧ Below w.heap.size w w' := by
  go_enter Tryz.func52, Tryz.ntmps52
  refine wp_region_list (WL.out ?_)
  refine WL.val (by kernel_rfl) (.int .i64 why) (by go_simp) ?_
  simp only [Act.put, List.setIfInBounds_toArray, List.set_cons_zero, List.set_cons_succ]
  refine WL.val (by kernel_rfl) (.int .i64 (a : Int)) (by go_simp) ?_
  simp only [Act.put, List.setIfInBounds_toArray, List.set_cons_zero, List.set_cons_succ]
  refine WL.bld (by kernel_rfl) 68 _ rfl [(0, .int .i64 why), (1, .int .i64 (a : Int))] (by simp [Act.eval]) _ (bad_built why a) ?_
  simp only [Act.put, List.setIfInBounds_toArray, List.set_cons_zero, List.set_cons_succ]
  refine WL.box (by kernel_rfl) 68 (.tmp 6) rfl _ rfl ?_
  have HBd : Keep (BadAt (w.alloc (.cells #[.int .i64 why, .int .i64 (a : Int)] 68)) w.heap.size why a) := ⟨Blk.new w 68 _⟩
  have HB : Keep (Below w.heap.size w (w.alloc (.cells #[.int .i64 why, .int .i64 (a : Int)] 68))) := ⟨below_new w _⟩
  generalize w.alloc (.cells #[.int .i64 why, .int .i64 (a : Int)] 68) = w1 at *
  simp only [Act.put, List.setIfInBounds_toArray, List.set_cons_zero, List.set_cons_succ]
  refine WL.val (by kernel_rfl) (.iface 64 (.pointer (some ⟨w.heap.size, 0, none⟩))) (by go_simp) ?_
  simp only [Act.put, List.setIfInBounds_toArray, List.set_cons_zero, List.set_cons_succ]
  refine WL.callP (by kernel_rfl) 18 _ _ rfl Tryz.in18 #[err w.heap.size] (by simp [Act.eval, err, ptr]) ?_
  refine (giveUp_any w.heap.size w1).mono ?_
  rintro e w' ⟨rfl, rfl⟩
  refine .inr ⟨_, rfl, ?_⟩
  exact ⟨rfl, rfl, HBd.out, HB.out⟩
theorem must47_ok (x : Value) (w : World) : Calls Tryz.prog 49 #[x, .nilIface] w fun e w' => e = .returned x ∧ w' = w := by
  go_enter Tryz.func49, Tryz.ntmps49
  go_wp2
  go_ret
  exact ⟨rfl, rfl⟩
theorem must47_bad (x : Value) (q : Nat) (w : World) : Calls Tryz.prog 49 #[x, err q] w fun e w' => e = .panicked [wr q] ∧ w' = w := by
  have HG := Keep.mk (giveUp_any q w)
  unfold err at HG ⊢
  go_enter Tryz.func49, Tryz.ntmps49
  go_wp2_with fail
  refine HG.out.mono ?_
  rintro e w' ⟨rfl, rfl⟩
  exact ⟨rfl, rfl, rfl⟩
theorem must52_ok (x : Value) (w : World) : Calls Tryz.prog 54 #[x, .nilIface] w fun e w' => e = .returned x ∧ w' = w := by
  go_enter Tryz.func54, Tryz.ntmps54
  go_wp2
  go_ret
  exact ⟨rfl, rfl⟩
theorem must52_bad (x : Value) (q : Nat) (w : World) : Calls Tryz.prog 54 #[x, err q] w fun e w' => e = .panicked [wr q] ∧ w' = w := by
  have HG := Keep.mk (giveUp_any q w)
  unfold err at HG ⊢
  go_enter Tryz.func54, Tryz.ntmps54
  go_wp2_with fail
  refine HG.out.mono ?_
  rintro e w' ⟨rfl, rfl⟩
  exact ⟨rfl, rfl, rfl⟩
theorem must81_ok (x : Value) (w : World) : Calls Tryz.prog 68 #[x, .nilIface] w fun e w' => e = .returned x ∧ w' = w := by
  go_enter Tryz.func68, Tryz.ntmps68
  go_wp2
  go_ret
  exact ⟨rfl, rfl⟩
theorem must81_bad (x : Value) (q : Nat) (w : World) : Calls Tryz.prog 68 #[x, err q] w fun e w' => e = .panicked [wr q] ∧ w' = w := by
  have HG := Keep.mk (giveUp_any q w)
  unfold err at HG ⊢
  go_enter Tryz.func68, Tryz.ntmps68
  go_wp2_with fail
  refine HG.out.mono ?_
  rintro e w' ⟨rfl, rfl⟩
  exact ⟨rfl, rfl, rfl⟩
theorem mustH_ok (c : Nat → Int) (w : World) : Calls Tryz.prog 73 #[.agg (bytesA 32 c), .nilIface] w fun e w' => e = .returned (.agg (bytesA 32 c)) ∧ Below w.heap.size w w' := by
  go_enter Tryz.func73, Tryz.ntmps73
  refine wp_seq_k fun K1 hK1 => ?_
  refine wp_region_list (WL.out ?_)
  refine WL.box (by kernel_rfl) 51 (.tmp 0) rfl _ rfl ?_
  have HX1 := Keep.mk (Blk.new w 51 (bytesA 32 c))
  have B1 := Keep.mk (below_new w (.cells (bytesA 32 c) 51))
  generalize w.alloc (.cells (bytesA 32 c) 51) = w1 at *
  simp only [Act.put, List.setIfInBounds_toArray, List.set_cons_zero, List.set_cons_succ]
  refine WL.new (by kernel_rfl) 51 rfl _ Tryz.new51 ?_
  have HX2 := Keep.mk (HX1.out.alloc (.cells (bytesA 32 fun _ => 0) 51))
  have HY2 := Keep.mk (Blk.new w1 51 (bytesA 32 fun _ => 0))
  have B2 : Keep (Below w.heap.size w (w1.alloc (.cells (bytesA 32 fun _ => 0) 51))) := ⟨B1.out.trans ((below_new w1 _).mono B1.out.size)⟩
  have hs : Keep (w.heap.size < w1.heap.size) := ⟨HX1.out.lt⟩
  have hne : Keep (w.heap.size ≠ w1.heap.size) := ⟨by have := hs.out; omega⟩
  generalize w1.alloc (.cells (bytesA 32 fun _ => 0) 51) = w2 at *
  simp only [Act.put, List.setIfInBounds_toArray, List.set_cons_zero, List.set_cons_succ]
  refine WL.nil ?_
  refine hK1 _ _ ?_
  refine wp_seq_k fun K2 hK2 => ?_
  refine wp_seq_k fun K3 hK3 => ?_
  refine wp_region_list (WL.out ?_)
  refine WL.val (by kernel_rfl) (.nilIface) (by go_simp) ?_
  simp only [Act.put, List.setIfInBounds_toArray, List.set_cons_zero, List.set_cons_succ]
  refine WL.val (by kernel_rfl) (.bool false) (by go_simp) ?_
  simp only [Act.put, List.setIfInBounds_toArray, List.set_cons_zero, List.set_cons_succ]
  refine WL.nil ?_
  refine hK3 _ _ ?_
  refine wp_cond_false rfl ?_
  refine wp_skip ?_
  refine hK2 _ _ ?_
  refine wp_seq_k fun K4 hK4 => ?_
  refine wp_region_list (WL.out ?_)
  refine WL.row (by kernel_rfl) 51 (.tmp 2) rfl w.heap.size rfl 51 (bytesA 32 c) _ HX2.out Tryz.underlying51 rfl (Tryz.size51B _) ?_
  simp only [Act.put, List.setIfInBounds_toArray, List.set_cons_zero, List.set_cons_succ]
  refine WL.storeR (by kernel_rfl) 51 (.tmp 4) (.tmp 9) rfl w1.heap.size (bytesA 32 c) rfl rfl 51 (bytesA 32 fun _ => 0) HY2.out (Tryz.size51B _) (bytesA_sizes _ _ _) (bytesA_one _ _) ?_
  have HY3 := Keep.mk (HY2.out.setRow (bytesA 32 c))
  have B3 : Keep (Below w.heap.size w (w2.setRow w1.heap.size (bytesA 32 c))) := ⟨below_setRow B2.out (by have := hs.out; omega) _⟩
  generalize w2.setRow w1.heap.size (bytesA 32 c) = w3 at *
  simp only [Act.put]
  refine WL.nil ?_
  refine hK4 _ _ ?_
  refine wp_ret ?_
  refine bodyPost_ret (v := .agg (bytesA 32 c)) (results_cell_row Tryz.results73 _ _ w1.heap.size 51 _ (0, 0) _ rfl HY3.out Tryz.underlying51 rfl (Tryz.size51B _)) rfl ?_
  exact ⟨rfl, B3.out⟩
theorem mustH_bad (c : Nat → Int) (q : Nat) (w : World) : Calls Tryz.prog 73 #[.agg (bytesA 32 c), err q] w fun e w' => e = .panicked [wr q] ∧ Below w.heap.size w w' := by
  unfold err
  go_enter Tryz.func73, Tryz.ntmps73
  refine wp_seq_k fun K1 hK1 => ?_
  refine wp_region_list (WL.out ?_)
  refine WL.box (by kernel_rfl) 51 (.tmp 0) rfl _ rfl ?_
  have HX1 := Keep.mk (Blk.new w 51 (bytesA 32 c))
  have B1 := Keep.mk (below_new w (.cells (bytesA 32 c) 51))
  generalize w.alloc (.cells (bytesA 32 c) 51) = w1 at *
  simp only [Act.put, List.setIfInBounds_toArray, List.set_cons_zero, List.set_cons_succ]
  refine WL.new (by kernel_rfl) 51 rfl _ Tryz.new51 ?_
  have HX2 := Keep.mk (HX1.out.alloc (.cells (bytesA 32 fun _ => 0) 51))
  have HY2 := Keep.mk (Blk.new w1 51 (bytesA 32 fun _ => 0))
  have B2 : Keep (Below w.heap.size w (w1.alloc (.cells (bytesA 32 fun _ => 0) 51))) := ⟨B1.out.trans ((below_new w1 _).mono B1.out.size)⟩
  have hs : Keep (w.heap.size < w1.heap.size) := ⟨HX1.out.lt⟩
  have hne : Keep (w.heap.size ≠ w1.heap.size) := ⟨by have := hs.out; omega⟩
  generalize w1.alloc (.cells (bytesA 32 fun _ => 0) 51) = w2 at *
  simp only [Act.put, List.setIfInBounds_toArray, List.set_cons_zero, List.set_cons_succ]
  refine WL.nil ?_
  refine hK1 _ _ ?_
  refine wp_seq_k fun K2 hK2 => ?_
  refine wp_seq_k fun K3 hK3 => ?_
  refine wp_region_list (WL.out ?_)
  refine WL.val (by kernel_rfl) (.iface 64 (ptr q)) (by go_simp) ?_
  simp only [Act.put, List.setIfInBounds_toArray, List.set_cons_zero, List.set_cons_succ]
  refine WL.val (by kernel_rfl) (.bool true) (by go_simp) ?_
  simp only [Act.put, List.setIfInBounds_toArray, List.set_cons_zero, List.set_cons_succ]
  refine WL.nil ?_
  refine hK3 _ _ ?_
  refine wp_cond_true rfl ?_
  refine wp_region_list (WL.out ?_)
  refine WL.val (by kernel_rfl) (.iface 64 (ptr q)) (by go_simp) ?_
  simp only [Act.put, List.setIfInBounds_toArray, List.set_cons_zero, List.set_cons_succ]
  refine WL.callP (by kernel_rfl) 18 _ _ rfl Tryz.in18 #[err q] (by simp [Act.eval, err]) ?_
  refine (giveUp_any q w2).mono ?_
  rintro e w' ⟨rfl, rfl⟩
  refine .inr ⟨_, rfl, ?_⟩
  try simp only [Exit.inBlock, Exit.then]
  refine ⟨rfl, ?_⟩
  exact ⟨rfl, B2.out⟩
theorem isAuthor_any (x : Int) (w : World) : Calls Tryz.prog 70 #[.int .i64 x] w fun e w' => e = .returned (.bool (decide (1 ≤ x ∧ x ≤ 8))) ∧ w' = w := by
  go_enter Tryz.func70, Tryz.ntmps70
  refine wp_seq_k fun K1 hK1 => ?_
  refine wp_region_list (WL.out ?_)
  refine WL.val (by kernel_rfl) (.bool false) (by go_simp) ?_
  simp only [Act.put, List.setIfInBounds_toArray, List.set_cons_zero, List.set_cons_succ]
  refine WL.nil ?_
  refine hK1 _ _ ?_
  refine wp_seq_k fun K2 hK2 => ?_
  refine wp_region_list (WL.out ?_)
  refine WL.val (by kernel_rfl) (.int .i64 x) (by go_simp) ?_
  simp only [Act.put, List.setIfInBounds_toArray, List.set_cons_zero, List.set_cons_succ]
  by_cases h1_1 : 1 ≤ x
  · skip
    refine WL.val (by kernel_rfl) (.bool true) (by go_simp) ?_
    simp only [Act.put, List.setIfInBounds_toArray, List.set_cons_zero, List.set_cons_succ]
    refine WL.val (by kernel_rfl) (.bool true) (by go_simp) ?_
    simp only [Act.put, List.setIfInBounds_toArray, List.set_cons_zero, List.set_cons_succ]
    refine WL.val (by kernel_rfl) (.int .i64 x) (by go_simp) ?_
    simp only [Act.put, List.setIfInBounds_toArray, List.set_cons_zero, List.set_cons_succ]
    by_cases h1_4 : x ≤ 8
    · skip
      refine WL.val (by kernel_rfl) (.bool true) (by go_simp) ?_
      simp only [Act.put, List.setIfInBounds_toArray, List.set_cons_zero, List.set_cons_succ]
      refine WL.val (by kernel_rfl) (.bool true) (by go_simp) ?_
      simp only [Act.put, List.setIfInBounds_toArray, List.set_cons_zero, List.set_cons_succ]
      refine WL.val (by kernel_rfl) (.bool true) (by go_simp) ?_
      simp only [Act.put, List.setIfInBounds_toArray, List.set_cons_zero, List.set_cons_succ]
      refine WL.nil ?_
      refine hK2 _ _ ?_
      refine wp_ret ?_
      go_ret
      exact ⟨by simp [*], rfl⟩
    · skip
      refine WL.val (by kernel_rfl) (.bool false) (by go_simp) ?_
      simp only [Act.put, List.setIfInBounds_toArray, List.set_cons_zero, List.set_cons_succ]
      refine WL.val (by kernel_rfl) (.bool false) (by go_simp) ?_
      simp only [Act.put, List.setIfInBounds_toArray, List.set_cons_zero, List.set_cons_succ]
      refine WL.val (by kernel_rfl) (.bool false) (by go_simp) ?_
      simp only [Act.put, List.setIfInBounds_toArray, List.set_cons_zero, List.set_cons_succ]
      refine WL.nil ?_
      refine hK2 _ _ ?_
      refine wp_ret ?_
      go_ret
      exact ⟨by simp [*], rfl⟩
  · skip
    refine WL.val (by kernel_rfl) (.bool false) (by go_simp) ?_
    simp only [Act.put, List.setIfInBounds_toArray, List.set_cons_zero, List.set_cons_succ]
    refine WL.val (by kernel_rfl) (.bool false) (by go_simp) ?_
    simp only [Act.put, List.setIfInBounds_toArray, List.set_cons_zero, List.set_cons_succ]
    refine WL.skip (by kernel_rfl) ?_
    simp only [Act.put, List.setIfInBounds_toArray, List.set_cons_zero, List.set_cons_succ]
    refine WL.skip (by kernel_rfl) ?_
    simp only [Act.put, List.setIfInBounds_toArray, List.set_cons_zero, List.set_cons_succ]
    refine WL.val (by kernel_rfl) (.bool false) (by go_simp) ?_
    simp only [Act.put, List.setIfInBounds_toArray, List.set_cons_zero, List.set_cons_succ]
    refine WL.val (by kernel_rfl) (.bool false) (by go_simp) ?_
    simp only [Act.put, List.setIfInBounds_toArray, List.set_cons_zero, List.set_cons_succ]
    refine WL.nil ?_
    refine hK2 _ _ ?_
    refine wp_ret ?_
    go_ret
    exact ⟨by simp [*], rfl⟩
theorem isAuthor_yes (x : Int) (w : World) (h : 1 ≤ x ∧ x ≤ 8) : Calls Tryz.prog 70 #[.int .i64 x] w fun e w' => e = .returned (.bool true) ∧ w' = w := by
  have := isAuthor_any x w
  rw [decide_eq_true h] at this
  exact this
theorem isAuthor_no (x : Int) (w : World) (h : ¬ (1 ≤ x ∧ x ≤ 8)) : Calls Tryz.prog 70 #[.int .i64 x] w fun e w' => e = .returned (.bool false) ∧ w' = w := by
  have := isAuthor_any x w
  rw [decide_eq_false h] at this
  exact this
theorem clockFits_any (x y : Int) (w : World) : Calls Tryz.prog 51 #[.int .i64 x, .int .i64 y] w fun e w' => e = .returned (.bool ((x == 1) == (y == 0))) ∧ w' = w := by
  go_enter Tryz.func51, Tryz.ntmps51
  refine wp_seq_k fun K1 hK1 => ?_
  refine wp_region_list (WL.out ?_)
  refine WL.val (by kernel_rfl) (.bool false) (by go_simp) ?_
  simp only [Act.put, List.setIfInBounds_toArray, List.set_cons_zero, List.set_cons_succ]
  refine WL.nil ?_
  refine hK1 _ _ ?_
  refine wp_seq_k fun K2 hK2 => ?_
  refine wp_region_list (WL.out ?_)
  refine WL.val (by kernel_rfl) (.int .i64 x) (by go_simp) ?_
  simp only [Act.put, List.setIfInBounds_toArray, List.set_cons_zero, List.set_cons_succ]
  refine WL.val (by kernel_rfl) (.bool (x == 1)) (by go_simp) ?_
  simp only [Act.put, List.setIfInBounds_toArray, List.set_cons_zero, List.set_cons_succ]
  refine WL.val (by kernel_rfl) (.int .i64 y) (by go_simp) ?_
  simp only [Act.put, List.setIfInBounds_toArray, List.set_cons_zero, List.set_cons_succ]
  refine WL.val (by kernel_rfl) (.bool (y == 0)) (by go_simp) ?_
  simp only [Act.put, List.setIfInBounds_toArray, List.set_cons_zero, List.set_cons_succ]
  refine WL.val (by kernel_rfl) (.bool ((x == 1) == (y == 0))) (by go_simp) ?_
  simp only [Act.put, List.setIfInBounds_toArray, List.set_cons_zero, List.set_cons_succ]
  refine WL.val (by kernel_rfl) (.bool ((x == 1) == (y == 0))) (by go_simp) ?_
  simp only [Act.put, List.setIfInBounds_toArray, List.set_cons_zero, List.set_cons_succ]
  refine WL.nil ?_
  refine hK2 _ _ ?_
  refine wp_ret ?_
  go_ret
  exact ⟨rfl, rfl⟩
theorem clockFits_is (x y : Int) (w : World) (b : Bool) (h : ((x == 1) == (y == 0)) = b) : Calls Tryz.prog 51 #[.int .i64 x, .int .i64 y] w fun e w' => e = .returned (.bool b) ∧ w' = w := by
  have := clockFits_any x y w
  rw [h] at this
  exact this
end Go.Proofs.YtibaindbnemlcaaGreatDoor.Nd
namespace Go.Proofs.YtibaindbnemlcaaGreatDoor.Nd.Sh
open Go.RowKit

def Blk (w : World) (b : Nat) (T : TypeId) (cs : Array Value) : Prop := w.heap[b]? = some (.cells cs T (0, 0))

theorem Blk.lt {w : World} {b : Nat} {T : TypeId} {cs : Array Value} (h : Blk w b T cs) : b < w.heap.size := (Array.getElem?_eq_some_iff.1 h).1
theorem Blk.cell {w : World} {b : Nat} {T : TypeId} {cs : Array Value} (h : Blk w b T cs) (j : Nat) : w.cell? ⟨b, j, none⟩ = cs[j]? := cell_of_row w b j cs T (0, 0) h
theorem Blk.frozen {w : World} {b : Nat} {T : TypeId} {cs : Array Value} (h : Blk w b T cs) (j : Nat) : w.frozen? ⟨b, j, none⟩ = false := by
  unfold Blk at h; simp [World.frozen?, h]
theorem Blk.new (w : World) (T : TypeId) (cs : Array Value) : Blk (w.alloc (.cells cs T)) w.heap.size T cs := heap_alloc_new w _
theorem Blk.alloc {w : World} {b : Nat} {T : TypeId} {cs : Array Value} (h : Blk w b T cs) (o : Obj) : Blk (w.alloc o) b T cs := by
  unfold Blk; rw [Below.heap_alloc w o b h.lt]; exact h
theorem Blk.drew {w : World} {b : Nat} {T : TypeId} {cs : Array Value} (h : Blk w b T cs) : Blk w.drew b T cs := h
theorem Blk.below {w w' : World} {B b : Nat} {T : TypeId} {cs : Array Value} (h : Blk w b T cs) (hb : Below B w w') (hlt : b < B) : Blk w' b T cs := by
  unfold Blk; rw [hb.block b hlt]; exact h
theorem Blk.set {w : World} {b : Nat} {T : TypeId} {cs : Array Value} (h : Blk w b T cs) (j : Nat) (v : Value) : Blk (w.setCell ⟨b, j, none⟩ v) b T (cs.setIfInBounds j v) := by
  unfold Blk; rw [setCell_eq_setRow w b j cs T (0, 0) v h]; exact setRow_heap w b cs _ T (0, 0) h
theorem Blk.set_ne {w : World} {b b' j : Nat} {T : TypeId} {cs : Array Value} (h : Blk w b T cs) (hne : b ≠ b') (v : Value) : Blk (w.setCell ⟨b', j, none⟩ v) b T cs := by
  unfold Blk; rw [Below.heap_setCell w _ v b hne]; exact h
theorem Blk.setRow {w : World} {b : Nat} {T : TypeId} {cs : Array Value} (h : Blk w b T cs) (cs' : Array Value) : Blk (w.setRow b cs') b T cs' := setRow_heap w b cs cs' T (0, 0) h
theorem Blk.setRow_ne {w : World} {b b' : Nat} {T : TypeId} {cs : Array Value} (h : Blk w b T cs) (hne : b ≠ b') (cs' : Array Value) : Blk (w.setRow b' cs') b T cs := by
  unfold Blk; rw [setRow_other w b' b cs' hne]; exact h
theorem below_setRow {B : Nat} {a w : World} (h : Below B a w) {b : Nat} (hb : B ≤ b) (cs : Array Value) : Below B a (w.setRow b cs) :=
  h.trans ⟨rfl, rfl, rfl, by simp, fun k hk => setRow_other w b k cs (by omega)⟩

def wordsA (n : Nat) (c : Nat → Int) : Array Value := Array.ofFn (n := n) fun i => .int .u32 (c i.val)
def bytesA (n : Nat) (c : Nat → Int) : Array Value := Array.ofFn (n := n) fun i => .int .u8 (c i.val)
def upd (c : Nat → Int) (t : Nat) (v : Int) : Nat → Int := fun i => if i = t then v else c i

theorem wordsA_size (n : Nat) (c : Nat → Int) : (wordsA n c).size = n := by simp [wordsA]
theorem bytesA_size (n : Nat) (c : Nat → Int) : (bytesA n c).size = n := by simp [bytesA]
theorem wordsA_get (n : Nat) (c : Nat → Int) (j : Nat) (h : j < n) : (wordsA n c)[j]? = some (.int .u32 (c j)) := by simp [wordsA, h]
theorem bytesA_get (n : Nat) (c : Nat → Int) (j : Nat) (h : j < n) : (bytesA n c)[j]? = some (.int .u8 (c j)) := by simp [bytesA, h]
theorem wordsA_set (n : Nat) (c : Nat → Int) (j : Nat) (v : Int) : (wordsA n c).setIfInBounds j (.int .u32 v) = wordsA n (upd c j v) := by
  apply Array.ext_getElem?
  intro i
  rw [Array.getElem?_setIfInBounds]
  by_cases e : j = i
  · subst e
    by_cases hj : j < n <;> simp [wordsA, upd, hj]
  · by_cases hi : i < n <;> simp [wordsA, upd, hi, e, Ne.symm e]
theorem bytesA_set (n : Nat) (c : Nat → Int) (j : Nat) (v : Int) : (bytesA n c).setIfInBounds j (.int .u8 v) = bytesA n (upd c j v) := by
  apply Array.ext_getElem?
  intro i
  rw [Array.getElem?_setIfInBounds]
  by_cases e : j = i
  · subst e
    by_cases hj : j < n <;> simp [bytesA, upd, hj]
  · by_cases hi : i < n <;> simp [bytesA, upd, hi, e, Ne.symm e]
theorem wordsA_one (n : Nat) (c : Nat → Int) : (wordsA n c).all (·.oneCell') = true := by
  rw [Array.all_eq_true_iff_forall_mem]; intro v hv; simp [wordsA] at hv; obtain ⟨i, rfl⟩ := hv; rfl
theorem bytesA_one (n : Nat) (c : Nat → Int) : (bytesA n c).all (·.oneCell') = true := by
  rw [Array.all_eq_true_iff_forall_mem]; intro v hv; simp [bytesA] at hv; obtain ⟨i, rfl⟩ := hv; rfl

theorem Tryz.size168 : (Tryz.prog.info? 168).map (·.size) = some 8 := by kernel_rfl
theorem Tryz.size197 : (Tryz.prog.info? 197).map (·.size) = some 64 := by kernel_rfl
theorem Tryz.size170 : (Tryz.prog.info? 170).map (·.size) = some 64 := by kernel_rfl
theorem Tryz.size51 : (Tryz.prog.info? 51).map (·.size) = some 32 := by kernel_rfl

theorem Tryz.size168W (c : Nat → Int) : (Tryz.prog.info? 168).map (·.size) = some (wordsA 8 c).size := by rw [wordsA_size]; exact Tryz.size168
theorem Tryz.size197W (c : Nat → Int) : (Tryz.prog.info? 197).map (·.size) = some (wordsA 64 c).size := by rw [wordsA_size]; exact Tryz.size197
theorem Tryz.size170B (c : Nat → Int) : (Tryz.prog.info? 170).map (·.size) = some (bytesA 64 c).size := by rw [bytesA_size]; exact Tryz.size170
theorem Tryz.size51B (c : Nat → Int) : (Tryz.prog.info? 51).map (·.size) = some (bytesA 32 c).size := by rw [bytesA_size]; exact Tryz.size51
theorem wordsA_sizes (n : Nat) (c d : Nat → Int) : (wordsA n c).size = (wordsA n d).size := by rw [wordsA_size, wordsA_size]
theorem bytesA_sizes (n : Nat) (c d : Nat → Int) : (bytesA n c).size = (bytesA n d).size := by rw [bytesA_size, bytesA_size]

section
variable {P : Program}
theorem wpList_bld {ops : Array Oper} {rest : List Oper} {o : Oper} {a : Act} {w : World} {Q : Exit → Act → World → Prop} (hg : o.guard = none) (t : TypeId) (parts : Array (Nat × Operand)) (ho : o.op = .build t parts)
    (cells : Array Value) (hf : P.built t (parts.map fun (i, x) => (i, a.eval x)).toList = some cells)
    (h : wpList P ops Q rest (a.put o.dst (.agg cells)) w) : wpList P ops Q (o :: rest) a w :=
  wpList_build hg t parts ho (by rw [hf]; rfl) (by rw [hf]; exact h)
theorem wpList_new {ops : Array Oper} {rest : List Oper} {o : Oper} {a : Act} {w : World} {Q : Exit → Act → World → Prop} (hg : o.guard = none) (t : TypeId) (ho : o.op = .alloc t)
    (cells : Array Value) (hf : ∀ w : World, (Instr.alloc t true (.tuple #[])).run P w = .ok (.pointer (some ⟨w.heap.size, 0, none⟩)) (w.alloc (.cells cells t)))
    (h : wpList P ops Q rest (a.put o.dst (.pointer (some ⟨w.heap.size, 0, none⟩))) (w.alloc (.cells cells t))) : wpList P ops Q (o :: rest) a w := by
  refine wpList_plain hg fun K hK => ?_
  unfold Oper.wp execOp
  simp only [ho, Sem.run_bind, hf w, Result.andThen_ok]
  exact hK _ _ h
end
theorem Tryz.new197 (w : World) : (Instr.alloc 197 true (.tuple #[])).run Tryz.prog w = .ok (.pointer (some ⟨w.heap.size, 0, none⟩)) (w.alloc (.cells (wordsA 64 fun _ => 0) 197)) := by kernel_rfl
theorem Tryz.new168 (w : World) : (Instr.alloc 168 true (.tuple #[])).run Tryz.prog w = .ok (.pointer (some ⟨w.heap.size, 0, none⟩)) (w.alloc (.cells (wordsA 8 fun _ => 0) 168)) := by kernel_rfl
theorem Tryz.new51 (w : World) : (Instr.alloc 51 true (.tuple #[])).run Tryz.prog w = .ok (.pointer (some ⟨w.heap.size, 0, none⟩)) (w.alloc (.cells (bytesA 32 fun _ => 0) 51)) := by kernel_rfl
end Go.Proofs.YtibaindbnemlcaaGreatDoor.Nd.Sh
namespace Go.Proofs.YtibaindbnemlcaaGreatDoor.Nd.Sh

abbrev Hs := Vector UInt8 32

namespace Hs
def f (h : Hs) (i : Nat) : Int := ((h.toArray.getD i 0).toNat : Int)
theorem f_get (h : Hs) (i : Nat) (hi : i < 32) : h.f i = ((h[i]'hi).toNat : Int) := by
  unfold f
  rw [Array.getD_eq_getD_getElem?, Array.getElem?_eq_getElem (by rw [h.size_toArray]; exact hi)]
  rfl
theorem ext' {a b : Hs} (h : ∀ i, i < 32 → a.f i = b.f i) : a = b := by
  apply Vector.ext
  intro i hi
  have h1 := h i hi
  rw [f_get a i hi, f_get b i hi] at h1
  exact UInt8.toNat_inj.1 (by omega)
end Hs

def cmpG (a b : Nat → Int) : Nat → Nat → Int
  | 0, _ => 0
  | n + 1, i => if a i < b i then -1 else if b i < a i then 1 else cmpG a b n (i + 1)

theorem cmpG_neg (a b : Nat → Int) : ∀ n i, cmpG a b n i < 0 ↔ ∃ j, i ≤ j ∧ j < i + n ∧ (∀ k, i ≤ k → k < j → a k = b k) ∧ a j < b j
  | 0, i => by simp [cmpG]; omega
  | n + 1, i => by
    unfold cmpG
    by_cases h1 : a i < b i
    · simp only [h1, if_true]
      exact ⟨fun _ => ⟨i, by omega, by omega, fun k _ _ => by omega, h1⟩, fun _ => by omega⟩
    · by_cases h2 : b i < a i
      · simp only [h1, h2, if_false, if_true]
        refine ⟨fun h => by omega, ?_⟩
        rintro ⟨j, hj, _, he, hl⟩
        rcases Nat.lt_or_eq_of_le hj with h | h
        · have := he i (by omega) h; omega
        · subst h; omega
      · simp only [h1, h2, if_false]
        rw [cmpG_neg a b n (i + 1)]
        constructor
        · rintro ⟨j, hj, hn, he, hl⟩
          refine ⟨j, by omega, by omega, fun k hk hkj => ?_, hl⟩
          rcases Nat.lt_or_eq_of_le hk with h | h
          · exact he k (by omega) hkj
          · subst h; omega
        · rintro ⟨j, hj, hn, he, hl⟩
          rcases Nat.lt_or_eq_of_le hj with h | h
          · exact ⟨j, by omega, by omega, fun k hk hkj => he k (by omega) hkj, hl⟩
          · subst h; omega
theorem cmpG_zero (a b : Nat → Int) : ∀ n i, cmpG a b n i = 0 ↔ ∀ k, i ≤ k → k < i + n → a k = b k
  | 0, i => by simp [cmpG]; omega
  | n + 1, i => by
    unfold cmpG
    by_cases h1 : a i < b i
    · simp only [h1, if_true]
      exact ⟨fun h => by omega, fun h => by have := h i (by omega) (by omega); omega⟩
    · by_cases h2 : b i < a i
      · simp only [h1, h2, if_false, if_true]
        exact ⟨fun h => by omega, fun h => by have := h i (by omega) (by omega); omega⟩
      · simp only [h1, h2, if_false]
        rw [cmpG_zero a b n (i + 1)]
        constructor
        · intro h k hk hn
          rcases Nat.lt_or_eq_of_le hk with h' | h'
          · exact h k (by omega) (by omega)
          · subst h'; omega
        · intro h k hk hn
          exact h k (by omega) (by omega)
theorem cmpG_eq_skip (a b : Nat → Int) : ∀ i n, (∀ k, k < i → a k = b k) → i ≤ n → cmpG a b n 0 = cmpG a b (n - i) i := by
  intro i
  induction i with
  | zero => intro n _ _; rfl
  | succ i ih =>
    intro n h hn
    rw [ih n (fun k hk => h k (by omega)) (by omega)]
    obtain ⟨m, hm⟩ : ∃ m, n - i = m + 1 := ⟨n - i - 1, by omega⟩
    rw [hm, show n - (i + 1) = m by omega]
    have := h i (by omega)
    rw [cmpG, if_neg (by omega), if_neg (by omega)]
theorem cmpG_at (a b : Nat → Int) (i n : Nat) (h : ∀ k, k < i → a k = b k) (hi : i < n) (hne : a i ≠ b i) : cmpG a b n 0 = if a i < b i then -1 else 1 := by
  rw [cmpG_eq_skip a b i n h (by omega)]
  obtain ⟨m, hm⟩ : ∃ m, n - i = m + 1 := ⟨n - i - 1, by omega⟩
  rw [hm, cmpG]
  by_cases h1 : a i < b i
  · rw [if_pos h1, if_pos h1]
  · rw [if_neg h1, if_neg h1, if_pos (by omega)]

def cf (x y : Hs) : Int := cmpG x.f y.f 32 0
def Lt (x y : Hs) : Prop := cf x y < 0
theorem cf_zero (x y : Hs) : cf x y = 0 ↔ x = y := by
  unfold cf
  rw [cmpG_zero]
  constructor
  · intro h; exact Hs.ext' fun i hi => h i (by omega) (by omega)
  · rintro rfl; intros; rfl
theorem Lt.trans {x y z : Hs} (h1 : Lt x y) (h2 : Lt y z) : Lt x z := by
  unfold Lt cf at *
  rw [cmpG_neg] at *
  obtain ⟨i, _, hi, hie, hil⟩ := h1
  obtain ⟨j, _, hj, hje, hjl⟩ := h2
  rcases Nat.lt_trichotomy i j with h | h | h
  · exact ⟨i, by omega, hi, fun k hk hki => (hie k hk hki).trans (hje k hk (by omega)), by rw [← hje i (by omega) h]; exact hil⟩
  · subst h; exact ⟨i, by omega, hi, fun k hk hki => (hie k hk hki).trans (hje k hk hki), by omega⟩
  · exact ⟨j, by omega, hj, fun k hk hkj => (hie k hk (by omega)).trans (hje k hk hkj), by rw [hie j (by omega) h]; exact hjl⟩
theorem Lt.irrefl (x : Hs) : ¬ Lt x x := by
  have := (cf_zero x x).2 rfl
  unfold Lt; omega
theorem Lt.ne {x y : Hs} (h : Lt x y) : x ≠ y := fun e => Lt.irrefl x (e ▸ h)


def once : List Hs → List Hs
  | [] => []
  | [x] => [x]
  | x :: y :: r => if x = y then once (y :: r) else x :: once (y :: r)

end Go.Proofs.YtibaindbnemlcaaGreatDoor.Nd.Sh
namespace Go.Proofs.YtibaindbnemlcaaGreatDoor.Nd.Sh
open Go.RowKit Go.Sort

theorem Tryz.cells5q : Tryz.prog.cellsOf 5 = 1 := by kernel_rfl
theorem Tryz.isAgg5q (w : World) : (isAgg 5).run Tryz.prog w = .ok false w := by kernel_rfl
theorem Tryz.size5q : (Tryz.prog.info? 5).map (·.size) = some 1 := by kernel_rfl
theorem run_part5q (c : Nat → Int) (i : Nat) (hi : i < 32) (w : World) : (part 5 (bytesA 32 c) i).run Tryz.prog w = .ok (.int .u8 (c i)) w := by
  unfold part
  rw [Sem.run_bind, Tryz.isAgg5q]
  simp [Result.andThen, bytesA_get 32 c i hi]
theorem run_items2 (c e : Nat → Int) (d : Nat) (w : World) : ∀ is : List Nat, (∀ i ∈ is, i < 32) → (Op.eqItems (d + 1) 5 1 (bytesA 32 c) (bytesA 32 e) is).run Tryz.prog w = .ok (is.all fun i => c i == e i) w
  | [], _ => by simp [Op.eqItems]
  | i :: is, h => by
    have hi := h i (by simp)
    have ih := run_items2 c e d w is (fun j hj => h j (by simp [hj]))
    simp only [Op.eqItems, Sem.run_bind, Nat.mul_one, run_part5q c i hi, run_part5q e i hi, Result.andThen_ok]
    rw [run_equalIn_int (P := Tryz.prog) (w := w) d 5 .u8 .u8 (c i) (e i) Tryz.underlying5]
    by_cases hh : c i = e i
    · simp [Result.andThen_ok, ih, hh]
    · simp [Result.andThen_ok, hh]
theorem run_equal_arr2 (c e : Nat → Int) (w : World) : (Op.equalIn 10000 51 (.agg (bytesA 32 c)) (.agg (bytesA 32 e))).run Tryz.prog w = .ok ((List.range 32).all fun i => c i == e i) w := by
  obtain ⟨i, hi, _⟩ := Option.map_eq_some_iff.1 Tryz.size5q
  rw [run_equalIn_array (P := Tryz.prog) w 9999 _ _ Tryz.underlying51 hi, Tryz.cells5q]
  exact run_items2 c e 9998 w _ (fun j hj => List.mem_range.1 hj)
theorem all_eq_iff (x y : Hs) : ((List.range 32).all fun i => x.f i == y.f i) = decide (x = y) := by
  by_cases h : x = y
  · subst h; simp
  · rw [decide_eq_false h, Bool.eq_false_iff]
    intro h2
    refine h (Hs.ext' fun i hi => ?_)
    have := List.all_eq_true.1 h2 i (List.mem_range.2 hi)
    simpa using this
theorem run_eqlH (x y : Hs) (w : World) : (binOp .eql 51 (.agg (bytesA 32 x.f)) (.agg (bytesA 32 y.f))).run Tryz.prog w = .ok (.bool (decide (x = y))) w := by
  rw [run_eql_struct, run_equal_arr2, all_eq_iff]; rfl
theorem run_neqH (x y : Hs) (w : World) : (binOp .neq 51 (.agg (bytesA 32 x.f)) (.agg (bytesA 32 y.f))).run Tryz.prog w = .ok (.bool (!decide (x = y))) w := by
  rw [run_neq_struct, run_equal_arr2, all_eq_iff]; rfl

theorem grown_below (w : World) (q : Nat) (os : Array Obj) : Below w.heap.size w (grow (w.drewN q) os) where
  os := rfl
  tape := rfl
  output := rfl
  size := by simp [grow]
  block i hi := by simp [grow, Array.getElem?_append, hi]

theorem drewN_grown {w w0 : World} (h : ∃ os, w0 = grow w os) (k : Nat) : ∃ q os, w0.drewN k = grow (w.drewN q) os := by
  obtain ⟨os, rfl⟩ := h
  exact ⟨k, os, rfl⟩

set_option maxRecDepth 8000 in
set_option maxHeartbeats 400000 in
theorem cmpByte_any (a b : Int) (w : World) : Calls Tryz.prog 93 #[.int .u8 a, .int .u8 b] w fun e w' => e = .returned (.int .i64 (if a < b then -1 else if b < a then 1 else 0)) ∧ ∃ q, w' = w.drewN q := by
  have h52 : ∀ (z : Int) (w : World), Calls Tryz.prog 104 #[.int .u8 z] w fun e w' => e = .returned (.bool false) ∧ ∃ q, w' = w.drewN q := by
    intro z w
    go_enter Tryz.func104, Tryz.ntmps104
    go_wp2
    first
      | (go_quiet (fail); go_wp2; go_ret; exact ⟨rfl, nq, rfl⟩)
      | (go_ret; exact ⟨rfl, 0, rfl⟩)
  have walk : ∀ r : Int, (a < b ∧ r = -1) ∨ (¬ a < b ∧ b < a ∧ r = 1) ∨ (¬ a < b ∧ ¬ b < a ∧ r = 0) → Calls Tryz.prog 93 #[.int .u8 a, .int .u8 b] w fun e w' => e = .returned (.int .i64 r) ∧ ∃ q, w' = w.drewN q := by
    intro r hr
    have HR : Keep ((a < b ∧ r = -1) ∨ (¬ a < b ∧ b < a ∧ r = 1) ∨ (¬ a < b ∧ ¬ b < a ∧ r = 0)) := ⟨hr⟩
    clear hr
    go_enter Tryz.func93, Tryz.ntmps93
    go_wp2_with fail
    refine (h52 a w).mono ?_
    rintro e w1 ⟨rfl, q1, rfl⟩
    go_wp2_with fail
    refine (h52 b _).mono ?_
    rintro e w2 ⟨rfl, q2, rfl⟩
    rw [World.drewN_drewN]
    rcases HR.out with ⟨h1, rfl⟩ | ⟨h1, h2, rfl⟩ | ⟨h1, h2, rfl⟩
    · go_wp2
      go_ret
      exact ⟨rfl, _, rfl⟩
    · go_wp2
      go_ret
      exact ⟨rfl, _, rfl⟩
    · go_wp2
      go_ret
      exact ⟨rfl, _, rfl⟩
  refine walk _ ?_
  by_cases h1 : a < b
  · exact .inl ⟨h1, if_pos h1⟩
  · by_cases h2 : b < a
    · exact .inr (.inl ⟨h1, h2, by rw [if_neg h1, if_pos h2]⟩)
    · exact .inr (.inr ⟨h1, h2, by rw [if_neg h1, if_neg h2]⟩)


set_option maxRecDepth 8000 in
set_option maxHeartbeats 400000 in
set_option maxRecDepth 20000 in
theorem compare_walk (A B : Array Value) (x y : Nat → Int) (E : Bool) (w : World) (hA : ∀ t, t < 32 → A[t]? = some (.int .u8 (x t))) (hB : ∀ t, t < 32 → B[t]? = some (.int .u8 (y t))) (hAs : A.size = 32) (hBs : B.size = 32)
    (heq : ∀ w, (binOp .eql 51 (.agg A) (.agg B)).run Tryz.prog w = .ok (.bool E) w) (hE1 : E = true → cmpG x y 32 0 = 0) (hE2 : E = false → ∃ t, t < 32 ∧ x t ≠ y t) :
    Calls Tryz.prog 75 #[.agg A, .agg B] w fun e w' => e = .returned (.int .i64 (cmpG x y 32 0)) ∧ ∃ q os, w' = grow (w.drewN q) os := by
  have HA : Keep (∀ t, t < 32 → A[t]? = some (.int .u8 (x t))) := ⟨hA⟩
  have HB : Keep (∀ t, t < 32 → B[t]? = some (.int .u8 (y t))) := ⟨hB⟩
  obtain ⟨r, hr⟩ : ∃ r, Keep (r = cmpG x y 32 0) := ⟨_, ⟨rfl⟩⟩
  rw [← hr.out] at hE1 ⊢
  have H1 : Keep (E = true → r = 0) := ⟨hE1⟩
  have H2 : Keep (E = false → ∃ t, t < 32 ∧ x t ≠ y t) := ⟨hE2⟩
  have hi1 : (Tryz.prog.info? 51).map (·.size) = some A.size := by rw [hAs]; exact Tryz.size51
  have hi2 : (Tryz.prog.info? 51).map (·.size) = some B.size := by rw [hBs]; exact Tryz.size51
  clear hE1 hE2 hA hB
  have hA1 : (w.alloc (.cells A 51)).heap.size = w.heap.size + 1 := by simp
  have hX : Blk ((w.alloc (.cells A 51)).alloc (.cells B 51)) w.heap.size 51 A := (Blk.new w 51 _).alloc _
  have hY : Blk ((w.alloc (.cells A 51)).alloc (.cells B 51)) (w.heap.size + 1) 51 B := by rw [← hA1]; exact Blk.new _ 51 _
  have hG : (w.alloc (.cells A 51)).alloc (.cells B 51) = grow (w.drewN 0) #[.cells A 51, .cells B 51] := by
    rw [alloc_eq_grow, alloc_eq_grow, grow_grow]; rfl
  have HG : Keep (∃ os, (w.alloc (.cells A 51)).alloc (.cells B 51) = grow w os) := ⟨_, hG⟩
  clear hA1 hG
  go_enter Tryz.func75, Tryz.ntmps75
  go_wp2_with (first | (refine wpList_boxA rfl 51 (.tmp 0) rfl A rfl ?_; refine wpList_boxA rfl 51 (.tmp 1) rfl B rfl ?_) | (refine wpList_load_row rfl 51 (.tmp 2) rfl w.heap.size rfl 51 A (0, 0) (.array 32 5) hX Tryz.underlying51 rfl hi1 ?_; refine wpList_load_row rfl 51 (.tmp 3) rfl (w.heap.size + 1) rfl 51 B (0, 0) (.array 32 5) hY Tryz.underlying51 rfl hi2 ?_))
  · go_ret
    have := H1.out (by assumption)
    obtain ⟨os, hos⟩ := HG.out
    exact ⟨by rw [this]; rfl, 0, os, by rw [hos]; rfl⟩
  · have hE : E = false := by first | assumption | (cases E <;> simp_all)
    obtain ⟨d, hd, hne⟩ := H2.out hE
    have HN : Keep (x d ≠ y d) := ⟨hne⟩
    clear hne
    generalize (w.alloc (.cells A 51)).alloc (.cells B 51) = w0 at *
    generalize w.heap.size = p at *
    go_loopw [5] (fun i wr => ∃ t n : Nat, t ≤ d ∧ i = .int .i64 (t : Int) ∧ (∀ k, k < t → x k = y k) ∧ wr = w0.drewN n) (fun i _ => d - (intOf i).toNat)
    case atStart => exact ⟨0, 0, by omega, rfl, fun k hk => by omega, by rw [World.drewN_zero]⟩
    case round =>
      obtain ⟨t, n, ht, rfl, hke, rfl⟩ := hrel
      have HK : Keep (∀ k, k < t → x k = y k) := ⟨hke⟩
      clear hke
      have c1 : (w0.drewN n).cell? ⟨p, t, none⟩ = some (.int .u8 (x t)) := by rw [World.cell?_drewN, hX.cell]; exact HA.out t (by omega)
      have c2 : (w0.drewN n).cell? ⟨p + 1, t, none⟩ = some (.int .u8 (y t)) := by rw [World.cell?_drewN, hY.cell]; exact HB.out t (by omega)
      obtain ⟨a, ha⟩ : ∃ a, Keep (x t = a) := ⟨_, ⟨rfl⟩⟩
      obtain ⟨b, hb⟩ : ∃ b, Keep (y t = b) := ⟨_, ⟨rfl⟩⟩
      rw [ha.out] at c1
      rw [hb.out] at c2
      obtain ⟨wn, hwn⟩ : ∃ wn, Keep (w0.drewN n = wn) := ⟨_, ⟨rfl⟩⟩
      rw [hwn.out] at c1 c2 ⊢
      have ht32 : (t : Int) < 32 := by omega
      go_wp2
      go_quiet (fail)
      by_cases hab : a = b
      · have htd : t ≠ d := fun e => by subst e; exact HN.out (by rw [ha.out, hb.out, hab])
        go_wp2
        go_roundw
        case rel => exact ⟨t + 1, n + nq, by omega, by go_num, fun k hk => by
          rcases Nat.lt_or_eq_of_le (Nat.le_of_lt_succ hk) with h | h
          · exact HK.out k h
          · subst h; rw [ha.out, hb.out, hab], by rw [← hwn.out, World.drewN_drewN]⟩
        case measure => simp [intOf]; omega
      · have hra : Keep (r = (if a < b then -1 else if b < a then 1 else 0)) := ⟨by
          rw [hr.out, cmpG_at x y t 32 HK.out (by omega) (by rw [ha.out, hb.out]; exact hab), ha.out, hb.out]
          by_cases h1 : a < b
          · rw [if_pos h1, if_pos h1]
          · rw [if_neg h1, if_neg h1, if_pos (by omega)]⟩
        have hcb : ∀ w, Calls Tryz.prog 93 #[.int .u8 a, .int .u8 b] w fun e w' => e = .returned (.int .i64 r) ∧ ∃ q, w' = w.drewN q := fun w => by rw [hra.out]; exact cmpByte_any a b w
        have d1 : (wn.drewN nq).cell? ⟨p, t, none⟩ = some (.int .u8 a) := by rw [World.cell?_drewN]; exact c1
        have d2 : (wn.drewN nq).cell? ⟨p + 1, t, none⟩ = some (.int .u8 b) := by rw [World.cell?_drewN]; exact c2
        obtain ⟨wm, hwm⟩ : ∃ wm, Keep (wn.drewN nq = wm) := ⟨_, ⟨rfl⟩⟩
        go_wp2
        rw [hwm.out] at d1 d2 ⊢
        go_quiet (first | (go_at_call 93; refine Calls.quiet_of (hcb _)))
        go_wp2
        go_ret
        refine ⟨rfl, ?_⟩
        rw [← hwm.out, ← hwn.out, World.drewN_drewN, World.drewN_drewN]
        exact drewN_grown HG.out _

theorem compare_any (x y : Hs) (w : World) : Calls Tryz.prog 75 #[.agg (bytesA 32 x.f), .agg (bytesA 32 y.f)] w fun e w' => e = .returned (.int .i64 (cf x y)) ∧ ∃ q os, w' = grow (w.drewN q) os :=
  compare_walk (bytesA 32 x.f) (bytesA 32 y.f) x.f y.f (decide (x = y)) w (fun _ ht => bytesA_get _ _ _ ht) (fun _ ht => bytesA_get _ _ _ ht) (bytesA_size _ _) (bytesA_size _ _) (run_eqlH x y)
    (fun h => (cf_zero x y).2 (of_decide_eq_true h)) (fun h => Classical.byContradiction fun hc => of_decide_eq_false h (Hs.ext' fun i hi => Classical.byContradiction fun hn => hc ⟨i, hi, hn⟩))


end Go.Proofs.YtibaindbnemlcaaGreatDoor.Nd.Sh
namespace Go.Proofs.YtibaindbnemlcaaGreatDoor.Nd.Sh
open Go.RowKit Go.Sort

def encH (h : Hs) : List Value := (bytesA 32 h.f).toList
theorem encH_len (h : Hs) : (encH h).length = 32 := by rw [encH, Array.length_toList, bytesA_size]
theorem encH_get (h : Hs) (j : Nat) (hj : j < 32) : (encH h)[j]? = some (.int .u8 (h.f j)) := by rw [encH, Array.getElem?_toList, bytesA_get _ _ _ hj]
theorem encH_one (h : Hs) (v : Value) (hv : v ∈ encH h) : v.oneCell' = true := by
  have := Array.all_eq_true'.1 (bytesA_one 32 h.f) v (by unfold encH at hv; exact Array.mem_toList_iff.1 hv)
  simpa using this
theorem encH_arr (h : Hs) : (encH h).toArray = bytesA 32 h.f := by rw [encH, Array.toArray_toList]
def flatH (L : List Hs) : List Value := L.flatMap encH
theorem flatH_cons (x : Hs) (L : List Hs) : flatH (x :: L) = encH x ++ flatH L := rfl
theorem flatH_app (L M : List Hs) : flatH (L ++ M) = flatH L ++ flatH M := by simp [flatH]
theorem flatH_len : ∀ L : List Hs, (flatH L).length = L.length * 32
  | [] => rfl
  | x :: L => by rw [flatH_cons, List.length_append, encH_len, flatH_len L, List.length_cons]; omega
theorem flatH_get : ∀ (L : List Hs) (i : Nat) (hi : i < L.length) (j : Nat), j < 32 → (flatH L)[i * 32 + j]? = (encH L[i])[j]?
  | x :: L, 0, _, j, hj => by rw [flatH_cons, List.getElem?_append_left (by rw [encH_len]; omega)]; simp
  | x :: L, i + 1, hi, j, hj => by
    rw [flatH_cons, List.getElem?_append_right (by rw [encH_len]; omega), encH_len, show (i + 1) * 32 + j - 32 = i * 32 + j by omega]
    simpa using flatH_get L i (by simpa using hi) j hj

def HRow (w : World) (v : Value) (L : List Hs) : Prop :=
  (∃ a c, v = .slice a 0 c ∧ L = [] ∧ (a = none → c = 0)) ∨ ∃ b off cap, v = .slice (some ⟨b, off, none⟩) L.length cap ∧ L.length ≤ cap ∧ w.rangeAt b off (flatH L)
theorem rangeAt_elem {w : World} {b off : Nat} {L : List Hs} (h : w.rangeAt b off (flatH L)) (i : Nat) (hi : i < L.length) : w.rangeAt b (off + i * 32) (encH L[i]) := by
  intro j v hv
  have hj : j < 32 := by
    have := (List.getElem?_eq_some_iff.1 hv).1
    rwa [encH_len] at this
  rw [Nat.add_assoc]
  exact h _ v (by rw [flatH_get L i hi j hj]; exact hv)
theorem HRow.form {w : World} {v : Value} {L : List Hs} (h : HRow w v L) : ∃ a c, v = .slice a L.length c := by
  rcases h with ⟨a, c, rfl, rfl, _⟩ | ⟨b, off, cap, rfl, _⟩
  · exact ⟨a, c, rfl⟩
  · exact ⟨_, cap, rfl⟩
theorem HRow.at {w : World} {a : Option Addr} {n c : Nat} {L : List Hs} (h : HRow w (.slice a n c) L) (hL : 0 < L.length) : ∃ b off, a = some ⟨b, off, none⟩ ∧ n = L.length ∧ L.length ≤ c ∧ w.rangeAt b off (flatH L) := by
  rcases h with ⟨_, _, _, rfl, _⟩ | ⟨b, off, cap, h1, h2, h3⟩
  · simp at hL
  · injection h1 with h1 h4 h5
    subst h1 h4 h5
    exact ⟨b, off, rfl, rfl, h2, h3⟩
theorem rangeAt_lt {w : World} {b off : Nat} {L : List Hs} (h : w.rangeAt b off (flatH L)) (hL : 0 < L.length) : b < w.heap.size := by
  have := h 0 (.int .u8 (L[0].f 0)) ((flatH_get L 0 hL 0 (by omega)).trans (encH_get _ _ (by omega)))
  exact cell_lt this
theorem rangeAt_below {w w' : World} {B b off : Nat} {cs : List Value} (h : w.rangeAt b off cs) (hb : Below B w w') (hlt : b < B) : w'.rangeAt b off cs := fun j v hv => by
  rw [hb.cell (p := ⟨b, off + j, none⟩) hlt]; exact h j v hv
theorem HRow.below {w w' : World} {v : Value} {L : List Hs} (h : HRow w v L) (hb : Below w.heap.size w w') : HRow w' v L := by
  rcases h with h | ⟨b, off, cap, h1, h2, h3⟩
  · exact .inl h
  · by_cases hL : 0 < L.length
    · exact .inr ⟨b, off, cap, h1, h2, rangeAt_below h3 hb (rangeAt_lt h3 hL)⟩
    · have : L = [] := List.eq_nil_of_length_eq_zero (by omega)
      subst this
      exact .inl ⟨_, _, h1, rfl, fun h => by cases h⟩
theorem HRow.of_owns {w : World} {base n : Nat} {v : Value} {L : List Hs} (h : w.ownsRow base 51 32 v n (flatH L)) : HRow w v L := by
  have hn : n = L.length := by have := h.1; rw [flatH_len] at this; omega
  subst hn
  rcases h.2 with ⟨rfl, h0⟩ | ⟨g, cap, cur, rfl, _, hg, hc, _, _, ht⟩
  · exact .inl ⟨none, 0, rfl, List.eq_nil_of_length_eq_zero h0, fun _ => rfl⟩
  · refine .inr ⟨g, 0, cap, rfl, hc, fun j v hv => ?_⟩
    rw [Nat.zero_add, cell_of_row w g j cur 51 (0, 0) hg]
    rw [← ht, List.getElem?_take] at hv
    split at hv
    · rwa [Array.getElem?_toList] at hv
    · cases hv

end Go.Proofs.YtibaindbnemlcaaGreatDoor.Nd.Sh
namespace Go.Proofs.YtibaindbnemlcaaGreatDoor.Nd
open Go.RowKit
set_option linter.unusedSimpArgs false
set_option linter.unusedVariables false

abbrev Hs := Sh.Hs
def hB (h : Hs) : List Int := hl 32 h.f
def hs (c : List Int) : Hs := Vector.ofFn fun i : Fin 32 => UInt8.ofNat (c.getD i.val 0).toNat
theorem hs_f (c : List Int) (hc : Byts c) (i : Nat) (hi : i < 32) : (hs c).f i = c.getD i 0 := by
  have := hc.getD i
  rw [Sh.Hs.f_get _ _ hi]
  simp only [hs, Vector.getElem_ofFn]
  rw [UInt8.toNat_ofNat_of_lt' (by show (c.getD i 0).toNat < 256; omega)]
  omega
theorem cmp_any (x y : Hs) (w : World) : Calls Tryz.prog 75 #[.agg (bytesA 32 x.f), .agg (bytesA 32 y.f)] w fun e w' => e = .returned (.int .i64 (Sh.cf x y)) ∧ Below w.heap.size w w' := by
  refine (Sh.compare_any x y w).mono ?_
  rintro e w' ⟨h1, q, os, rfl⟩
  exact ⟨h1, Sh.grown_below w q os⟩

def OwnH (w : World) (v : Value) (l : List Hs) : Prop := w.ownsRow 0 51 32 v l.length (Sh.flatH l)
theorem OwnH.form {w : World} {v : Value} {l : List Hs} (h : OwnH w v l) : (v = .slice none 0 0 ∧ l = []) ∨ ∃ g cap cur, v = .slice (some ⟨g, 0, none⟩) l.length cap ∧ Blk w g 51 cur ∧ l.length ≤ cap ∧ cur.toList.take (l.length * 32) = Sh.flatH l := by
  rcases h.2 with ⟨rfl, h0⟩ | ⟨g, cap, cur, rfl, _, h3, h4, h5, h6, h7⟩
  · exact .inl ⟨rfl, List.eq_nil_of_length_eq_zero h0⟩
  · exact .inr ⟨g, cap, cur, rfl, h3, h4, h7⟩
theorem OwnH.row {w : World} {v : Value} {l : List Hs} (h : OwnH w v l) : Sh.HRow w v l := Sh.HRow.of_owns h
theorem OwnH.sl {w : World} {v : Value} {l : List Hs} (h : OwnH w v l) : ∃ a c, v = .slice a l.length c := h.row.form
theorem OwnH.lt {w : World} {v : Value} {l : List Hs} (h : OwnH w v l) : ∀ k, v.ownBlock = some k → k < w.heap.size := fun k hk => (World.ownsRow.lt h k hk).2
theorem OwnH.grown {w w' : World} {v : Value} {l : List Hs} {S : Nat → Prop} (h : OwnH w v l) (hg : Grown w w' S) (hs : ∀ k, v.ownBlock = some k → ¬ S k) : OwnH w' v l := by
  refine ⟨h.1, ?_⟩
  rcases h.2 with h1 | ⟨g, cap, cur, rfl, h2, h3, h4⟩
  · exact .inl h1
  · exact .inr ⟨g, cap, cur, rfl, h2, hg.blk h3 (hs g rfl), h4⟩
theorem OwnH.below {w w' : World} {v : Value} {l : List Hs} (h : OwnH w v l) (hb : Below w.heap.size w w') : OwnH w' v l := h.grown (Grown.below (S := fun _ => False) hb) fun _ _ h => h
theorem OwnH.ne {w : World} {v : Value} {l : List Hs} {p : Nat} {T : TypeId} {cs : Array Value} (h : OwnH w v l) (hp : Blk w p T cs) (hT : T ≠ 51) : v.ownBlock ≠ some p := by
  intro e
  rcases h.form with ⟨rfl, _⟩ | ⟨g, cap, cur, rfl, h3, _⟩
  · simp [Value.ownBlock] at e
  · simp [Value.ownBlock] at e
    subst e
    exact hT (blk_type hp h3)
theorem ownH_empty (w : World) : OwnH (w.alloc (.cells #[] 51)) (.slice (some ⟨w.heap.size, 0, none⟩) 0 0) [] :=
  ⟨rfl, .inr ⟨w.heap.size, 0, #[], rfl, Nat.zero_le _, Blk.new w 51 #[], Nat.le_refl _, by decide, rfl, rfl⟩⟩
theorem Tryz.infoH : (Tryz.prog.info? 51).map (fun i => (i.zero, i.size, i.bytes)) = some (some (.agg (bytesA 32 fun _ => 0)), 32, 32) := by kernel_rfl
theorem run_appH (w : World) (ty : TypeId) (v : Value) (l : List Hs) (hown : OwnH w v l) (g : Nat) (x : Hs) (hg : Blk w g 51 (bytesA 32 x.f)) (hb : l.length ≤ 1000000000000) :
    ∃ v' w', (Builtin.append_ #[25, 25] ty #[v, .slice (some ⟨g, 0, none⟩) 1 1]).run Tryz.prog w = .ok v' w' ∧ OwnH w' v' (l ++ [x]) ∧ (Grown w w' fun k => v.ownBlock = some k) ∧ Moved w v v' := by
  obtain ⟨i, hi, hzz⟩ := Option.map_eq_some_iff.1 Tryz.infoH
  simp only [Prod.mk.injEq] at hzz
  obtain ⟨hz, hsz, hby⟩ := hzz
  have hzs : (Value.agg (bytesA 32 fun _ => 0)).cells.size = 32 := by show (bytesA 32 fun _ => 0).size = 32; exact bytesA_size _ _
  obtain ⟨v', w', hr, h1, h2, _, h3⟩ := run_append_own_at (P := Tryz.prog) w 0 25 ty 51 i (.agg (bytesA 32 fun _ => 0)) 32 32 Tryz.underlying25 hi hz hsz hby hzs (by omega) v l.length (Sh.flatH l) hown ⟨g, 0, none⟩ 1 1 (Sh.encH x) (by rw [Sh.encH_len]) (fun j u hu => by
      rw [Addr.add_mid, Nat.zero_add, hg.cell, ← Array.getElem?_toList]
      exact hu)
    (fun u hu => Sh.encH_one x u hu) (by unfold maxLen; omega) (by omega) (Nat.zero_le _)
  refine ⟨v', w', hr, ?_, Grown.of h2 fun k _ e => e, ?_⟩
  · unfold OwnH
    rw [List.length_append, Sh.flatH_app, show Sh.flatH [x] = Sh.encH x by simp [Sh.flatH]]
    exact h1
  · rcases h3 with h3 | h3
    · exact .inl h3
    · exact .inr ⟨_, h3, Nat.le_refl _⟩
theorem WL.appH {ops : Array Oper} {rest : List Oper} {o : Oper} {a : Act} {w : World} {Q : Exit → Act → World → Prop} (hw : Region.wanted o (yielded ops a.tmps) = true) (s x : Operand)
    (ho : o.op = .call { callee := .builtin .append, args := #[s, x], argTypes := #[25, 25] }) (v : Value) (l : List Hs) (g : Nat) (y : Hs)
    (hs : a.eval s = v) (hx : a.eval x = .slice (some ⟨g, 0, none⟩) 1 1) (hown : OwnH w v l) (hg : Blk w g 51 (bytesA 32 y.f)) (hb : l.length ≤ 1000000000000)
    (h : ∀ v' w', OwnH w' v' (l ++ [y]) → (Grown w w' fun k => v.ownBlock = some k) → Moved w v v' → WL Tryz.prog ops Q rest (a.put o.dst v') w') : WL Tryz.prog ops Q (o :: rest) a w :=
  ⟨wpList_wanted hw fun K hK => by
    obtain ⟨v', w', hr, h1, h2, h3⟩ := run_appH w o.type v l hown g y hg hb
    unfold Oper.wp execOp
    simp only [ho, resolve, invoke, builtin, Sem.run_bind, Sem.run_pure, Result.andThen_ok, List.map_toArray, List.map_cons, List.map_nil, hs, hx, hr]
    exact hK _ _ (h v' w' h1 h2 h3).out⟩
theorem bsH (x : Hs) (w : World) : (Instr.buildSlice 25 1 #[(0, .agg (bytesA 32 x.f))]).run Tryz.prog w = .ok (.slice (some ⟨w.heap.size, 0, none⟩) 1 1) (w.alloc (.cells (bytesA 32 x.f) 51)) := by kernel_rfl
theorem bsHE (w : World) : (Instr.buildSlice 25 0 #[]).run Tryz.prog w = .ok (.slice (some ⟨w.heap.size, 0, none⟩) 0 0) (w.alloc (.cells #[] 51)) := by kernel_rfl
def getH (L : List Int) : Nat → List Hs → Nat → Int × Nat × List Hs
  | 0, P, a => (0, a, P)
  | n + 1, P, a => if nextW (L.drop a) 32 ≠ 0 then (nextW (L.drop a) 32, a + nextN (L.drop a) 32, [])
    else if 0 < P.length ∧ 0 ≤ Sh.cf (P.getD (P.length - 1) default) (hs ((L.drop a).take 32)) then (52, a, [])
    else getH L n (P ++ [hs ((L.drop a).take 32)]) (a + 32)
theorem hrd_hs (D : List Int) (h : nextW D 32 = 0) (hD : Byts D) : bytesA 32 (hrd D 0) = bytesA 32 (hs (D.take 32)).f := bytesA_congr fun i hi => by
  have := nextN_0 _ _ h
  rw [hs_f _ (hD.take 32) i hi]
  unfold hrd
  rw [if_pos rfl, List.getD_eq_getElem?_getD, List.getD_eq_getElem?_getD, List.getElem?_take, if_pos hi]
end Go.Proofs.YtibaindbnemlcaaGreatDoor.Nd
namespace Go.Proofs.YtibaindbnemlcaaGreatDoor.Nd
open Go.RowKit
set_option linter.unusedSimpArgs false
set_option linter.unusedVariables false

def Gives (p : Nat) (R : Int × Nat) (w : World) (e : Ending) (w' : World) : Prop := R.1 ≠ 0 ∧ ∃ q, w.heap.size ≤ q ∧ e = .panicked [wr q] ∧ BadAt w' q R.1 R.2 ∧ Grown w w' fun k => k = p
def Reads (p : Nat) (s : ByteArray) (R : Int × Nat) (v : Value) (w : World) (e : Ending) (w' : World) : Prop :=
  (R.1 = 0 ∧ e = .returned v ∧ InAt w' p s R.2 none ∧ Grown w w' fun k => k = p) ∨ Gives p R w e w'
def formR (L : List Int) (a : Nat) : Int × Nat := if nextW (L.drop a) 1 ≠ 0 then (nextW (L.drop a) 1, a + nextN (L.drop a) 1) else if (L.drop a).getD 0 0 = 1 then (0, a + 1) else (5, a)
def auR (L : List Int) (a : Nat) : Int × Nat := if nextW (L.drop a) 1 ≠ 0 then (nextW (L.drop a) 1, a + nextN (L.drop a) 1) else if 1 ≤ (L.drop a).getD 0 0 ∧ (L.drop a).getD 0 0 ≤ 8 then (0, a + 1) else (50, a)
def ckR (L : List Int) (a : Nat) : Int × Nat := if (fstM (L.drop a) 4096).2.2 ≠ 0 then ((fstM (L.drop a) 4096).2.2, a + (fstM (L.drop a) 4096).2.1.toNat) else if (fstM (L.drop a) 4096).1 = 0 then (51, a) else (0, a + (fstM (L.drop a) 4096).2.1.toNat)
theorem readForm_any (p : Nat) (s : ByteArray) (a : Nat) (w : World) (hI : InAt w p s a none) (hb : s.size ≤ 140737488355328) :
    Calls Tryz.prog 45 #[ptr p] w (Reads p s (formR (lst s) a) (.tuple #[]) w) := by
  have HI := Keep.mk hI
  obtain ⟨D, hD⟩ : ∃ D, D = (lst s).drop a := ⟨_, rfl⟩
  obtain ⟨W, hW⟩ : ∃ W, W = nextW D 1 := ⟨_, rfl⟩
  obtain ⟨N, hN⟩ : ∃ N, N = nextN D 1 := ⟨_, rfl⟩
  obtain ⟨c, hc⟩ : ∃ c, c = if W = 0 then D.getD 0 0 else 0 := ⟨_, rfl⟩
  have HC := Keep.mk (ibyte_good p s a w hI hb D hD W hW N hN c hc)
  obtain ⟨R, hR⟩ : ∃ R, R = formR (lst s) a := ⟨_, rfl⟩
  have HR1 : Keep (¬ W = 0 → R = (W, a + N)) := ⟨fun h => by rw [hR]; unfold formR; rw [← hD, ← hW, ← hN, if_pos h]⟩
  have HN1 : Keep (W = 0 → N = 1) := ⟨fun h => by rw [hN, (nextN_0 D 1 (by rw [← hW]; exact h)).1]; rfl⟩
  have HR2 : Keep (W = 0 → c = 1 → R = (0, a + 1)) := ⟨fun h1 h2 => by rw [hR]; unfold formR; rw [← hD, ← hW, if_neg (by simp [h1])]; rw [hc, if_pos h1] at h2; rw [if_pos h2]⟩
  have HR3 : Keep (W = 0 → ¬ c = 1 → R = (5, a)) := ⟨fun h1 h2 => by rw [hR]; unfold formR; rw [← hD, ← hW, if_neg (by simp [h1])]; rw [hc, if_pos h1] at h2; rw [if_neg h2]⟩
  rw [← hR]
  clear hI hb hD hW hN hc hR
  go_enter Tryz.func45, Tryz.ntmps45
  refine wp_seq_k fun K1 hK1 => ?_
  refine wp_region_list (WL.out ?_)
  refine WL.val (by kernel_rfl) (.pointer (some ⟨p, 0, none⟩)) (by go_simp) ?_
  simp only [Act.put, List.setIfInBounds_toArray, List.set_cons_zero, List.set_cons_succ]
  refine WL.callF (by kernel_rfl) 47 _ _ rfl Tryz.in47 #[ptr p] (by simp [Act.eval]) ?_
  refine (iat_any p s a none w HI.out).mono ?_
  rintro e w0 ⟨rfl, hw0⟩
  rw [hw0]
  clear hw0 w0
  refine ⟨_, rfl, ?_⟩
  simp only [Act.put, List.setIfInBounds_toArray, List.set_cons_zero, List.set_cons_succ]
  refine WL.val (by kernel_rfl) (.int .i64 (a : Int)) (by go_simp) ?_
  simp only [Act.put, List.setIfInBounds_toArray, List.set_cons_zero, List.set_cons_succ]
  refine WL.nil ?_
  refine hK1 _ _ ?_
  refine wp_seq_k fun K2 hK2 => ?_
  refine wp_region_list (WL.out ?_)
  refine WL.val (by kernel_rfl) (.pointer (some ⟨p, 0, none⟩)) (by go_simp) ?_
  simp only [Act.put, List.setIfInBounds_toArray, List.set_cons_zero, List.set_cons_succ]
  refine WL.callF (by kernel_rfl) 69 _ _ rfl Tryz.in69 #[ptr p] (by simp [Act.eval]) ?_
  refine (HC.out).mono ?_
  rintro e w1 ⟨bad, er, rfl, h1, h2, h3⟩
  refine ⟨_, rfl, ?_⟩
  have H1 := Keep.mk h1
  have H2 := Keep.mk h2
  have H3 := Keep.mk h3
  clear h1 h2 h3
  simp only [Act.put, List.setIfInBounds_toArray, List.set_cons_zero, List.set_cons_succ]
  by_cases hE : W = 0
  · rcases H3.out with ⟨e1, rfl, rfl⟩ | ⟨e1, _⟩
    rotate_left
    · exact absurd hE e1
    refine WL.val (by kernel_rfl) (.int .u8 c) (by go_simp) ?_
    simp only [Act.put, List.setIfInBounds_toArray, List.set_cons_zero, List.set_cons_succ]
    refine WL.val (by kernel_rfl) (.nilIface) (by go_simp) ?_
    simp only [Act.put, List.setIfInBounds_toArray, List.set_cons_zero, List.set_cons_succ]
    refine WL.callF (by kernel_rfl) 68 _ _ rfl Tryz.in68 #[.int .u8 c, .nilIface] (by simp [Act.eval]) ?_
    refine (must81_ok (.int .u8 c) w1).mono ?_
    rintro e w0 ⟨rfl, hw0⟩
    rw [hw0]
    clear hw0 w0
    refine ⟨_, rfl, ?_⟩
    simp only [Act.put, List.setIfInBounds_toArray, List.set_cons_zero, List.set_cons_succ]
    by_cases h1_5 : c = 1
    · skip
      refine WL.val (by kernel_rfl) (.bool false) (by go_simp) ?_
      simp only [Act.put, List.setIfInBounds_toArray, List.set_cons_zero, List.set_cons_succ]
      refine WL.nil ?_
      refine hK2 _ _ ?_
      refine wp_cond_false rfl ?_
      refine wp_skip ?_
      go_end0
      exact .inl ⟨by rw [HR2.out hE h1_5], rfl, by rw [HR2.out hE h1_5, ← HN1.out hE]; exact H1.out, H2.out⟩
    · skip
      refine WL.val (by kernel_rfl) (.bool true) (by go_simp) ?_
      simp only [Act.put, List.setIfInBounds_toArray, List.set_cons_zero, List.set_cons_succ]
      refine WL.nil ?_
      refine hK2 _ _ ?_
      refine wp_cond_true rfl ?_
      refine wp_region_list (WL.out ?_)
      refine WL.val (by kernel_rfl) (.int .i64 (a : Int)) (by go_simp) ?_
      simp only [Act.put, List.setIfInBounds_toArray, List.set_cons_zero, List.set_cons_succ]
      refine WL.callP (by kernel_rfl) 52 _ _ rfl Tryz.in52 #[.int .i64 5, .int .i64 (a : Int)] (by simp [Act.eval]) ?_
      refine (at_any 5 a w1).mono ?_
      rintro e wz ⟨rfl, hbz, hwz⟩
      have HBd : Keep (BadAt wz w1.heap.size 5 a) := ⟨hbz⟩
      have HGd : Keep (Grown w wz fun k => k = p) := ⟨H2.out.trans (Grown.below hwz)⟩
      clear hbz hwz
      refine .inr ⟨_, rfl, ?_⟩
      try simp only [Exit.inBlock, Exit.then]
      refine ⟨rfl, ?_⟩
      exact .inr ⟨by rw [HR3.out hE h1_5]; exact (by decide : (5 : Int) ≠ 0), w1.heap.size, H2.out.size, rfl, by rw [HR3.out hE h1_5]; exact HBd.out, HGd.out⟩
  · rcases H3.out with ⟨e1, _, _⟩ | ⟨_, q, hq, rfl, rfl, hbad⟩
    · exact absurd e1 hE
    have Hbad := Keep.mk hbad
    clear hbad
    unfold err
    refine WL.val (by kernel_rfl) (.int .u8 c) (by go_simp) ?_
    simp only [Act.put, List.setIfInBounds_toArray, List.set_cons_zero, List.set_cons_succ]
    refine WL.val (by kernel_rfl) (.iface 64 (ptr q)) (by go_simp) ?_
    simp only [Act.put, List.setIfInBounds_toArray, List.set_cons_zero, List.set_cons_succ]
    refine WL.callP (by kernel_rfl) 68 _ _ rfl Tryz.in68 #[.int .u8 c, err q] (by simp [Act.eval, err]) ?_
    refine (must81_bad _ q w1).mono ?_
    rintro e w' ⟨rfl, rfl⟩
    refine .inr ⟨_, rfl, ?_⟩
    try simp only [Exit.inBlock, Exit.then]
    refine ⟨rfl, ?_⟩
    exact .inr ⟨by rw [HR1.out hE]; exact hE, q, hq, rfl, by rw [HR1.out hE]; exact Hbad.out, H2.out⟩
theorem readAuthor_any (p : Nat) (s : ByteArray) (a : Nat) (w : World) (hI : InAt w p s a none) (hb : s.size ≤ 140737488355328) :
    Calls Tryz.prog 46 #[ptr p] w (Reads p s (auR (lst s) a) (.int .i64 (((lst s).drop a).getD 0 0)) w) := by
  have HI := Keep.mk hI
  obtain ⟨D, hD⟩ : ∃ D, D = (lst s).drop a := ⟨_, rfl⟩
  obtain ⟨W, hW⟩ : ∃ W, W = nextW D 1 := ⟨_, rfl⟩
  obtain ⟨N, hN⟩ : ∃ N, N = nextN D 1 := ⟨_, rfl⟩
  obtain ⟨c, hc⟩ : ∃ c, c = if W = 0 then D.getD 0 0 else 0 := ⟨_, rfl⟩
  have HC := Keep.mk (ibyte_good p s a w hI hb D hD W hW N hN c hc)
  obtain ⟨R, hR⟩ : ∃ R, R = auR (lst s) a := ⟨_, rfl⟩
  have HR1 : Keep (¬ W = 0 → R = (W, a + N)) := ⟨fun h => by rw [hR]; unfold auR; rw [← hD, ← hW, ← hN, if_pos h]⟩
  have HN1 : Keep (W = 0 → N = 1) := ⟨fun h => by rw [hN, (nextN_0 D 1 (by rw [← hW]; exact h)).1]; rfl⟩
  have HR2 : Keep (W = 0 → (1 ≤ c ∧ c ≤ 8) → R = (0, a + 1)) := ⟨fun h1 h2 => by rw [hR]; unfold auR; rw [← hD, ← hW, if_neg (by simp [h1])]; rw [hc, if_pos h1] at h2; rw [if_pos h2]⟩
  have HR3 : Keep (W = 0 → ¬ (1 ≤ c ∧ c ≤ 8) → R = (50, a)) := ⟨fun h1 h2 => by rw [hR]; unfold auR; rw [← hD, ← hW, if_neg (by simp [h1])]; rw [hc, if_pos h1] at h2; rw [if_neg h2]⟩
  have Hcv : Keep (W = 0 → c = ((lst s).drop a).getD 0 0) := ⟨fun h => by rw [hc, if_pos h, hD]⟩
  have Hcr : Keep (0 ≤ c ∧ c < 256) := ⟨by
    have := ((lst_byts s).drop a).getD 0
    rw [← hD] at this
    rw [hc]; split <;> omega⟩
  rw [← hR]
  clear hI hb hD hW hN hc hR
  go_enter Tryz.func46, Tryz.ntmps46
  refine wp_seq_k fun K1 hK1 => ?_
  refine wp_region_list (WL.out ?_)
  refine WL.val (by kernel_rfl) (.int .i64 0) (by go_simp) ?_
  simp only [Act.put, List.setIfInBounds_toArray, List.set_cons_zero, List.set_cons_succ]
  refine WL.nil ?_
  refine hK1 _ _ ?_
  refine wp_seq_k fun K2 hK2 => ?_
  refine wp_region_list (WL.out ?_)
  refine WL.val (by kernel_rfl) (.pointer (some ⟨p, 0, none⟩)) (by go_simp) ?_
  simp only [Act.put, List.setIfInBounds_toArray, List.set_cons_zero, List.set_cons_succ]
  refine WL.callF (by kernel_rfl) 47 _ _ rfl Tryz.in47 #[ptr p] (by simp [Act.eval]) ?_
  refine (iat_any p s a none w HI.out).mono ?_
  rintro e w0 ⟨rfl, hw0⟩
  rw [hw0]
  clear hw0 w0
  refine ⟨_, rfl, ?_⟩
  simp only [Act.put, List.setIfInBounds_toArray, List.set_cons_zero, List.set_cons_succ]
  refine WL.val (by kernel_rfl) (.int .i64 (a : Int)) (by go_simp) ?_
  simp only [Act.put, List.setIfInBounds_toArray, List.set_cons_zero, List.set_cons_succ]
  refine WL.nil ?_
  refine hK2 _ _ ?_
  refine wp_seq_k fun K3 hK3 => ?_
  refine wp_region_list (WL.out ?_)
  refine WL.val (by kernel_rfl) (.pointer (some ⟨p, 0, none⟩)) (by go_simp) ?_
  simp only [Act.put, List.setIfInBounds_toArray, List.set_cons_zero, List.set_cons_succ]
  refine WL.callF (by kernel_rfl) 69 _ _ rfl Tryz.in69 #[ptr p] (by simp [Act.eval]) ?_
  refine (HC.out).mono ?_
  rintro e w1 ⟨bad, er, rfl, h1, h2, h3⟩
  refine ⟨_, rfl, ?_⟩
  have H1 := Keep.mk h1
  have H2 := Keep.mk h2
  have H3 := Keep.mk h3
  clear h1 h2 h3
  simp only [Act.put, List.setIfInBounds_toArray, List.set_cons_zero, List.set_cons_succ]
  by_cases hE : W = 0
  · rcases H3.out with ⟨e1, rfl, rfl⟩ | ⟨e1, _⟩
    rotate_left
    · exact absurd hE e1
    have hwc : IntKind.i64.wrap c = c := by rw [IntKind.wrap_i64]; have := Hcr.out; omega
    refine WL.val (by kernel_rfl) (.int .u8 c) (by go_simp) ?_
    simp only [Act.put, List.setIfInBounds_toArray, List.set_cons_zero, List.set_cons_succ]
    refine WL.val (by kernel_rfl) (.nilIface) (by go_simp) ?_
    simp only [Act.put, List.setIfInBounds_toArray, List.set_cons_zero, List.set_cons_succ]
    refine WL.callF (by kernel_rfl) 68 _ _ rfl Tryz.in68 #[.int .u8 c, .nilIface] (by simp [Act.eval]) ?_
    refine (must81_ok (.int .u8 c) w1).mono ?_
    rintro e w0 ⟨rfl, hw0⟩
    rw [hw0]
    clear hw0 w0
    refine ⟨_, rfl, ?_⟩
    simp only [Act.put, List.setIfInBounds_toArray, List.set_cons_zero, List.set_cons_succ]
    refine WL.val (by kernel_rfl) (.int .i64 c) (by go_simp) ?_
    simp only [Act.put, List.setIfInBounds_toArray, List.set_cons_zero, List.set_cons_succ]
    refine WL.val (by kernel_rfl) (.int .i64 c) (by go_simp) ?_
    simp only [Act.put, List.setIfInBounds_toArray, List.set_cons_zero, List.set_cons_succ]
    refine WL.nil ?_
    refine hK3 _ _ ?_
    refine wp_seq_k fun K4 hK4 => ?_
    refine wp_seq_k fun K5 hK5 => ?_
    by_cases hA : 1 ≤ c ∧ c ≤ 8
    · skip
      refine wp_region_list (WL.out ?_)
      refine WL.val (by kernel_rfl) (.int .i64 c) (by go_simp) ?_
      simp only [Act.put, List.setIfInBounds_toArray, List.set_cons_zero, List.set_cons_succ]
      refine WL.callF (by kernel_rfl) 70 _ _ rfl Tryz.in70 #[.int .i64 c] (by simp [Act.eval]) ?_
      refine (isAuthor_yes c w1 hA).mono ?_
      rintro e w0 ⟨rfl, hw0⟩
      rw [hw0]
      clear hw0 w0
      refine ⟨_, rfl, ?_⟩
      simp only [Act.put, List.setIfInBounds_toArray, List.set_cons_zero, List.set_cons_succ]
      refine WL.val (by kernel_rfl) (.bool false) (by go_simp) ?_
      simp only [Act.put, List.setIfInBounds_toArray, List.set_cons_zero, List.set_cons_succ]
      refine WL.nil ?_
      refine hK5 _ _ ?_
      refine wp_cond_false rfl ?_
      refine wp_skip ?_
      refine hK4 _ _ ?_
      refine wp_seq_k fun K6 hK6 => ?_
      refine wp_region_list (WL.out ?_)
      refine WL.val (by kernel_rfl) (.int .i64 c) (by go_simp) ?_
      simp only [Act.put, List.setIfInBounds_toArray, List.set_cons_zero, List.set_cons_succ]
      refine WL.val (by kernel_rfl) (.int .i64 c) (by go_simp) ?_
      simp only [Act.put, List.setIfInBounds_toArray, List.set_cons_zero, List.set_cons_succ]
      refine WL.nil ?_
      refine hK6 _ _ ?_
      refine wp_ret ?_
      go_ret
      exact .inl ⟨by rw [HR2.out hE hA], by rw [← Hcv.out hE]; rfl, by rw [HR2.out hE hA, ← HN1.out hE]; exact H1.out, H2.out⟩
    · skip
      refine wp_region_list (WL.out ?_)
      refine WL.val (by kernel_rfl) (.int .i64 c) (by go_simp) ?_
      simp only [Act.put, List.setIfInBounds_toArray, List.set_cons_zero, List.set_cons_succ]
      refine WL.callF (by kernel_rfl) 70 _ _ rfl Tryz.in70 #[.int .i64 c] (by simp [Act.eval]) ?_
      refine (isAuthor_no c w1 hA).mono ?_
      rintro e w0 ⟨rfl, hw0⟩
      rw [hw0]
      clear hw0 w0
      refine ⟨_, rfl, ?_⟩
      simp only [Act.put, List.setIfInBounds_toArray, List.set_cons_zero, List.set_cons_succ]
      refine WL.val (by kernel_rfl) (.bool true) (by go_simp) ?_
      simp only [Act.put, List.setIfInBounds_toArray, List.set_cons_zero, List.set_cons_succ]
      refine WL.nil ?_
      refine hK5 _ _ ?_
      refine wp_cond_true rfl ?_
      refine wp_region_list (WL.out ?_)
      refine WL.val (by kernel_rfl) (.int .i64 (a : Int)) (by go_simp) ?_
      simp only [Act.put, List.setIfInBounds_toArray, List.set_cons_zero, List.set_cons_succ]
      refine WL.callP (by kernel_rfl) 52 _ _ rfl Tryz.in52 #[.int .i64 50, .int .i64 (a : Int)] (by simp [Act.eval]) ?_
      refine (at_any 50 a w1).mono ?_
      rintro e wz ⟨rfl, hbz, hwz⟩
      have HBd : Keep (BadAt wz w1.heap.size 50 a) := ⟨hbz⟩
      have HGd : Keep (Grown w wz fun k => k = p) := ⟨H2.out.trans (Grown.below hwz)⟩
      clear hbz hwz
      refine .inr ⟨_, rfl, ?_⟩
      try simp only [Exit.inBlock, Exit.then]
      refine ⟨rfl, ?_⟩
      exact .inr ⟨by rw [HR3.out hE hA]; exact (by decide : (50 : Int) ≠ 0), w1.heap.size, H2.out.size, rfl, by rw [HR3.out hE hA]; exact HBd.out, HGd.out⟩
  · rcases H3.out with ⟨e1, _, _⟩ | ⟨_, q, hq, rfl, rfl, hbad⟩
    · exact absurd e1 hE
    have Hbad := Keep.mk hbad
    clear hbad
    unfold err
    refine WL.val (by kernel_rfl) (.int .u8 c) (by go_simp) ?_
    simp only [Act.put, List.setIfInBounds_toArray, List.set_cons_zero, List.set_cons_succ]
    refine WL.val (by kernel_rfl) (.iface 64 (ptr q)) (by go_simp) ?_
    simp only [Act.put, List.setIfInBounds_toArray, List.set_cons_zero, List.set_cons_succ]
    refine WL.callP (by kernel_rfl) 68 _ _ rfl Tryz.in68 #[.int .u8 c, err q] (by simp [Act.eval, err]) ?_
    refine (must81_bad _ q w1).mono ?_
    rintro e w' ⟨rfl, rfl⟩
    refine .inr ⟨_, rfl, ?_⟩
    try simp only [Exit.inBlock, Exit.then]
    refine ⟨rfl, ?_⟩
    exact .inr ⟨by rw [HR1.out hE]; exact hE, q, hq, rfl, by rw [HR1.out hE]; exact Hbad.out, H2.out⟩
theorem readClock_any (p : Nat) (s : ByteArray) (a : Nat) (w : World) (hI : InAt w p s a none) (hb : s.size ≤ 140737488355328) :
    Calls Tryz.prog 48 #[ptr p] w (Reads p s (ckR (lst s) a) (.int .i64 (fstM ((lst s).drop a) 4096).1) w) := by
  have HI := Keep.mk hI
  have hrg := fst_rng ((lst s).drop a) ((lst_byts s).drop a) 4096 (by decide)
  have hc0 : Calls Tryz.prog 50 #[ptr p, .int .u64 4096] w (RdPost p s (fstM ((lst s).drop a) 4096).2.2 (a + (fstM ((lst s).drop a) 4096).2.1.toNat) (.int .u64 (fstM ((lst s).drop a) 4096).1) w) := inum_good p s a 4096 w hI hb
  obtain ⟨R, hR⟩ : ∃ R, R = ckR (lst s) a := ⟨_, rfl⟩
  rw [← hR]
  unfold ckR at hR
  generalize fstM ((lst s).drop a) 4096 = M at *
  obtain ⟨c, n, W⟩ := M
  simp only at hR hc0 hrg ⊢
  obtain ⟨N, hN⟩ : ∃ N, N = n.toNat := ⟨_, rfl⟩
  rw [← hN] at hR hc0
  have HC := Keep.mk hc0
  have Hcr := Keep.mk hrg
  have HR1 : Keep (¬ W = 0 → R = (W, a + N)) := ⟨fun h => by rw [hR, if_pos h]⟩
  have HR2 : Keep (W = 0 → ¬ c = 0 → R = (0, a + N)) := ⟨fun h1 h2 => by rw [hR, if_neg (by simp [h1]), if_neg h2]⟩
  have HR3 : Keep (W = 0 → c = 0 → R = (51, a)) := ⟨fun h1 h2 => by rw [hR, if_neg (by simp [h1]), if_pos h2]⟩
  clear hI hb hR hN hrg hc0
  go_enter Tryz.func48, Tryz.ntmps48
  refine wp_seq_k fun K1 hK1 => ?_
  refine wp_region_list (WL.out ?_)
  refine WL.val (by kernel_rfl) (.int .i64 0) (by go_simp) ?_
  simp only [Act.put, List.setIfInBounds_toArray, List.set_cons_zero, List.set_cons_succ]
  refine WL.nil ?_
  refine hK1 _ _ ?_
  refine wp_seq_k fun K2 hK2 => ?_
  refine wp_region_list (WL.out ?_)
  refine WL.val (by kernel_rfl) (.pointer (some ⟨p, 0, none⟩)) (by go_simp) ?_
  simp only [Act.put, List.setIfInBounds_toArray, List.set_cons_zero, List.set_cons_succ]
  refine WL.callF (by kernel_rfl) 47 _ _ rfl Tryz.in47 #[ptr p] (by simp [Act.eval]) ?_
  refine (iat_any p s a none w HI.out).mono ?_
  rintro e w0 ⟨rfl, hw0⟩
  rw [hw0]
  clear hw0 w0
  refine ⟨_, rfl, ?_⟩
  simp only [Act.put, List.setIfInBounds_toArray, List.set_cons_zero, List.set_cons_succ]
  refine WL.val (by kernel_rfl) (.int .i64 (a : Int)) (by go_simp) ?_
  simp only [Act.put, List.setIfInBounds_toArray, List.set_cons_zero, List.set_cons_succ]
  refine WL.nil ?_
  refine hK2 _ _ ?_
  refine wp_seq_k fun K3 hK3 => ?_
  refine wp_region_list (WL.out ?_)
  refine WL.val (by kernel_rfl) (.pointer (some ⟨p, 0, none⟩)) (by go_simp) ?_
  simp only [Act.put, List.setIfInBounds_toArray, List.set_cons_zero, List.set_cons_succ]
  refine WL.callF (by kernel_rfl) 50 _ _ rfl Tryz.in50 #[ptr p, .int .u64 4096] (by simp [Act.eval]) ?_
  refine (HC.out).mono ?_
  rintro e w1 ⟨bad, er, rfl, h1, h2, h3⟩
  refine ⟨_, rfl, ?_⟩
  have H1 := Keep.mk h1
  have H2 := Keep.mk h2
  have H3 := Keep.mk h3
  clear h1 h2 h3
  simp only [Act.put, List.setIfInBounds_toArray, List.set_cons_zero, List.set_cons_succ]
  by_cases hE : W = 0
  · rcases H3.out with ⟨e1, rfl, rfl⟩ | ⟨e1, _⟩
    rotate_left
    · exact absurd hE e1
    have hwc : IntKind.i64.wrap c = c := by rw [IntKind.wrap_i64]; have := Hcr.out; omega
    refine WL.val (by kernel_rfl) (.int .u64 c) (by go_simp) ?_
    simp only [Act.put, List.setIfInBounds_toArray, List.set_cons_zero, List.set_cons_succ]
    refine WL.val (by kernel_rfl) (.nilIface) (by go_simp) ?_
    simp only [Act.put, List.setIfInBounds_toArray, List.set_cons_zero, List.set_cons_succ]
    refine WL.callF (by kernel_rfl) 49 _ _ rfl Tryz.in49 #[.int .u64 c, .nilIface] (by simp [Act.eval]) ?_
    refine (must47_ok (.int .u64 c) w1).mono ?_
    rintro e w0 ⟨rfl, hw0⟩
    rw [hw0]
    clear hw0 w0
    refine ⟨_, rfl, ?_⟩
    simp only [Act.put, List.setIfInBounds_toArray, List.set_cons_zero, List.set_cons_succ]
    refine WL.val (by kernel_rfl) (.int .i64 c) (by go_simp) ?_
    simp only [Act.put, List.setIfInBounds_toArray, List.set_cons_zero, List.set_cons_succ]
    refine WL.val (by kernel_rfl) (.int .i64 c) (by go_simp) ?_
    simp only [Act.put, List.setIfInBounds_toArray, List.set_cons_zero, List.set_cons_succ]
    refine WL.nil ?_
    refine hK3 _ _ ?_
    refine wp_seq_k fun K4 hK4 => ?_
    refine wp_seq_k fun K5 hK5 => ?_
    refine wp_region_list (WL.out ?_)
    refine WL.val (by kernel_rfl) (.int .i64 c) (by go_simp) ?_
    simp only [Act.put, List.setIfInBounds_toArray, List.set_cons_zero, List.set_cons_succ]
    by_cases h3_1 : c = 0
    · skip
      refine WL.val (by kernel_rfl) (.bool true) (by go_simp) ?_
      simp only [Act.put, List.setIfInBounds_toArray, List.set_cons_zero, List.set_cons_succ]
      refine WL.nil ?_
      refine hK5 _ _ ?_
      refine wp_cond_true rfl ?_
      refine wp_region_list (WL.out ?_)
      refine WL.val (by kernel_rfl) (.int .i64 (a : Int)) (by go_simp) ?_
      simp only [Act.put, List.setIfInBounds_toArray, List.set_cons_zero, List.set_cons_succ]
      refine WL.callP (by kernel_rfl) 52 _ _ rfl Tryz.in52 #[.int .i64 51, .int .i64 (a : Int)] (by simp [Act.eval]) ?_
      refine (at_any 51 a w1).mono ?_
      rintro e wz ⟨rfl, hbz, hwz⟩
      have HBd : Keep (BadAt wz w1.heap.size 51 a) := ⟨hbz⟩
      have HGd : Keep (Grown w wz fun k => k = p) := ⟨H2.out.trans (Grown.below hwz)⟩
      clear hbz hwz
      refine .inr ⟨_, rfl, ?_⟩
      try simp only [Exit.inBlock, Exit.then]
      refine ⟨rfl, ?_⟩
      exact .inr ⟨by rw [HR3.out hE h3_1]; exact (by decide : (51 : Int) ≠ 0), w1.heap.size, H2.out.size, rfl, by rw [HR3.out hE h3_1]; exact HBd.out, HGd.out⟩
    · skip
      refine WL.val (by kernel_rfl) (.bool false) (by go_simp) ?_
      simp only [Act.put, List.setIfInBounds_toArray, List.set_cons_zero, List.set_cons_succ]
      refine WL.nil ?_
      refine hK5 _ _ ?_
      refine wp_cond_false rfl ?_
      refine wp_skip ?_
      refine hK4 _ _ ?_
      refine wp_seq_k fun K6 hK6 => ?_
      refine wp_region_list (WL.out ?_)
      refine WL.val (by kernel_rfl) (.int .i64 c) (by go_simp) ?_
      simp only [Act.put, List.setIfInBounds_toArray, List.set_cons_zero, List.set_cons_succ]
      refine WL.val (by kernel_rfl) (.int .i64 c) (by go_simp) ?_
      simp only [Act.put, List.setIfInBounds_toArray, List.set_cons_zero, List.set_cons_succ]
      refine WL.nil ?_
      refine hK6 _ _ ?_
      refine wp_ret ?_
      go_ret
      exact .inl ⟨by rw [HR2.out hE h3_1], rfl, by rw [HR2.out hE h3_1]; exact H1.out, H2.out⟩
  · rcases H3.out with ⟨e1, _, _⟩ | ⟨_, q, hq, rfl, rfl, hbad⟩
    · exact absurd e1 hE
    have Hbad := Keep.mk hbad
    clear hbad
    unfold err
    refine WL.val (by kernel_rfl) (.int .u64 c) (by go_simp) ?_
    simp only [Act.put, List.setIfInBounds_toArray, List.set_cons_zero, List.set_cons_succ]
    refine WL.val (by kernel_rfl) (.iface 64 (ptr q)) (by go_simp) ?_
    simp only [Act.put, List.setIfInBounds_toArray, List.set_cons_zero, List.set_cons_succ]
    refine WL.callP (by kernel_rfl) 49 _ _ rfl Tryz.in49 #[.int .u64 c, err q] (by simp [Act.eval, err]) ?_
    refine (must47_bad _ q w1).mono ?_
    rintro e w' ⟨rfl, rfl⟩
    refine .inr ⟨_, rfl, ?_⟩
    try simp only [Exit.inBlock, Exit.then]
    refine ⟨rfl, ?_⟩
    exact .inr ⟨by rw [HR1.out hE]; exact hE, q, hq, rfl, by rw [HR1.out hE]; exact Hbad.out, H2.out⟩
end Go.Proofs.YtibaindbnemlcaaGreatDoor.Nd
namespace Go.Proofs.YtibaindbnemlcaaGreatDoor.Nd
open Go.RowKit
set_option linter.unusedSimpArgs false
set_option linter.unusedVariables false

def HsPost (p : Nat) (s : ByteArray) (R : Int × Nat × List Hs) (w : World) (e : Ending) (w' : World) : Prop :=
  (R.1 = 0 ∧ ∃ v, e = .returned v ∧ OwnH w' v R.2.2 ∧ (∀ k, v.ownBlock = some k → w.heap.size ≤ k) ∧ InAt w' p s R.2.1 none ∧ Grown w w' fun k => k = p) ∨ Gives p (R.1, R.2.1) w e w'
theorem Tryz.sizeHL (h : Hs) : (Tryz.prog.info? 51).map (·.size) = some (Sh.encH h).length := by rw [Sh.encH_len]; exact Tryz.size51
theorem enc_load (h : Hs) : (Sh.encH h).toArray = bytesA 32 h.f := Sh.encH_arr h
theorem OwnH.elem {w : World} {v : Value} {l : List Hs} (h : OwnH w v l) (i : Nat) (hi : i < l.length) : ∃ g cap, v = .slice (some ⟨g, 0, none⟩) l.length cap ∧ ∀ wx, (∀ cs, Blk w g 51 cs → Blk wx g 51 cs) → wx.rangeAt g (i * 32) (Sh.encH (l.getD i default)) := by
  rcases h.form with ⟨_, h0⟩ | ⟨g, cap, cur, rfl, h1, h2, h3⟩
  · rw [h0] at hi; exact absurd hi (Nat.not_lt_zero _)
  · refine ⟨g, cap, rfl, fun wx hx => ?_⟩
    have hr : wx.rangeAt g 0 (Sh.flatH l) := fun j u hu => by
      rw [Nat.zero_add, (hx _ h1).cell]
      rw [← h3, List.getElem?_take] at hu
      split at hu
      · rwa [Array.getElem?_toList] at hu
      · cases hu
    have := Sh.rangeAt_elem hr i hi
    rw [Nat.zero_add] at this
    rwa [show l.getD i default = l[i] by simp [List.getD_eq_getElem?_getD, hi]]
theorem Tryz.in75 (w : World) (vs : Array Value) : (callFunc 75 vs).run Tryz.prog w = .ok (.enter 75 vs) w := by kernel_rfl
set_option maxRecDepth 8000 in
set_option maxHeartbeats 4000000 in
theorem readParents_any (p : Nat) (s : ByteArray) (a n : Nat) (w : World) (hI : InAt w p s a none) (hb : s.size ≤ 140737488355328) (hn : n ≤ 64) :
    Calls Tryz.prog 53 #[ptr p, .int .i64 (n : Int)] w (HsPost p s (getH (lst s) n [] a) w) := by
  have HI := Keep.mk hI
  have Hb := Keep.mk hb
  have Hn := Keep.mk hn
  obtain ⟨R, hR⟩ : ∃ R, R = getH (lst s) n [] a := ⟨_, rfl⟩
  rw [← hR]
  have HR := Keep.mk hR
  clear hI hb hn hR
  go_enter Tryz.func53, Tryz.ntmps53
  refine wp_seq_k fun K1 hK1 => ?_
  refine wp_region_list (WL.out ?_)
  refine WL.val (by kernel_rfl) (.slice none 0 0) (by go_simp) ?_
  simp only [Act.put, List.setIfInBounds_toArray, List.set_cons_zero, List.set_cons_succ]
  refine WL.nil ?_
  refine hK1 _ _ ?_
  refine wp_seq_k fun K2 hK2 => ?_
  refine wp_region_list (WL.out ?_)
  refine WL.bs (by kernel_rfl) 25 0 _ rfl #[] (by simp) _ _ (bsHE w) ?_
  have HO3 := Keep.mk (ownH_empty w)
  have B3 : Keep (Below w.heap.size w (w.alloc (.cells #[] 51))) := ⟨below_new w _⟩
  generalize w.alloc (.cells #[] 51) = w3 at *
  have HOn3 : Keep (∀ k, (Value.slice (some ⟨w.heap.size, 0, none⟩) 0 0).ownBlock = some k → w.heap.size ≤ k) := ⟨fun k hk => by simp [Value.ownBlock] at hk; omega⟩
  have HI3 : Keep (InAt w3 p s a none) := ⟨HI.out.blk.below B3.out HI.out.blk.lt, HI.out.le⟩
  have HG3 : Keep (Grown w w3 fun k => k = p) := ⟨Grown.below B3.out⟩
  simp only [Act.put, List.setIfInBounds_toArray, List.set_cons_zero, List.set_cons_succ]
  refine WL.val (by kernel_rfl) (.slice (some ⟨w.heap.size, 0, none⟩) 0 0) (by go_simp) ?_
  simp only [Act.put, List.setIfInBounds_toArray, List.set_cons_zero, List.set_cons_succ]
  refine WL.nil ?_
  refine hK2 _ _ ?_
  refine wp_seq_k fun K3 hK3 => ?_
  refine wp_seq_k fun K4 hK4 => ?_
  refine wp_region_list (WL.out ?_)
  refine WL.val (by kernel_rfl) (.int .i64 (n : Int)) (by go_simp) ?_
  simp only [Act.put, List.setIfInBounds_toArray, List.set_cons_zero, List.set_cons_succ]
  refine WL.val (by kernel_rfl) (.int .i64 0) (by go_simp) ?_
  simp only [Act.put, List.setIfInBounds_toArray, List.set_cons_zero, List.set_cons_succ]
  refine WL.nil ?_
  refine hK4 _ _ ?_
  refine wp_block ?_
  refine wp_loop (fun ac wr => ∃ (t : Nat) (u5 u6 u7 u8 u12 u13 u14 u15 u16 u17 u18 u19 u20 u21 u22 u23 u24 u25 u26 u27 u28 u29 u30 u31 u32 u33 u34 u35 u36 u37 u38 u39 : Value), ac = { tmps := #[.pointer (some ⟨p, 0, none⟩), .int .i64 (n : Int), undef, undef, .slice none 0 0, u5, u6, u7, u8, .slice (some ⟨w.heap.size, 0, none⟩) 0 0, .int .i64 (n : Int), .int .i64 (t : Int), u12, u13, u14, u15, u16, u17, u18, u19, u20, u21, u22, u23, u24, u25, u26, u27, u28, u29, u30, u31, u32, u33, u34, u35, u36, u37, u38, u39, undef], defers := [] } ∧ t ≤ n ∧ ∃ l at_, getH (lst s) n [] a = getH (lst s) (n - t) l at_ ∧ InAt wr p s at_ none ∧ OwnH wr u5 l ∧ (∀ k, u5.ownBlock = some k → w.heap.size ≤ k) ∧ (Grown w wr fun k => k = p) ∧ l.length = t) (fun a _ => n - (intOf (a.tmps.getD 11 undef)).toNat) ⟨0, .slice (some ⟨w.heap.size, 0, none⟩) 0 0, undef, undef, undef, undef, undef, undef, undef, undef, undef, undef, undef, undef, undef, undef, undef, undef, undef, undef, undef, undef, undef, undef, undef, undef, undef, undef, undef, undef, undef, undef, undef, rfl, by omega, [], a, rfl, HI3.out, HO3.out, HOn3.out, HG3.out, rfl⟩ ?_
  rintro ac wr ⟨t, u5, u6, u7, u8, u12, u13, u14, u15, u16, u17, u18, u19, u20, u21, u22, u23, u24, u25, u26, u27, u28, u29, u30, u31, u32, u33, u34, u35, u36, u37, u38, u39, rfl, ht, l, at_, hC, hI, hO, hOn, hG, hLn⟩
  by_cases htl : t < n
  · have htl' : (t : Int) < (n : Int) := by omega
    obtain ⟨k1, hk1⟩ : ∃ k1, n - t = k1 + 1 := ⟨n - t - 1, by omega⟩
    rw [hk1, getH] at hC
    have hk2 : k1 = n - (t + 1) := by omega
    rw [hk2] at hC
    have hwr1 : IntKind.i64.wrap ((t : Int) + 1) = (t : Int) + 1 := by rw [IntKind.wrap_i64]; have := Hn.out; omega
    obtain ⟨oa, oc, rfl⟩ := hO.sl
    obtain ⟨D, hD⟩ : ∃ D, D = (lst s).drop at_ := ⟨_, rfl⟩
    obtain ⟨W, hW⟩ : ∃ W, W = nextW D 32 := ⟨_, rfl⟩
    obtain ⟨N, hN⟩ : ∃ N, N = nextN D 32 := ⟨_, rfl⟩
    obtain ⟨hh, hhh⟩ : ∃ hh, hh = hs (D.take 32) := ⟨_, rfl⟩
    have HC0 := Keep.mk (ihash_good p s at_ wr hI Hb.out D hD W hW N hN)
    rw [← hD, ← hW, ← hN, ← hhh] at hC
    have heq : Keep (W = 0 → bytesA 32 (hrd D W) = bytesA 32 hh.f) := ⟨fun h => by rw [h, hhh]; exact hrd_hs D (by rw [← hW]; exact h) (by rw [hD]; exact (lst_byts s).drop at_)⟩
    have HN32 : Keep (W = 0 → N = 32) := ⟨fun h => by rw [hN, (nextN_0 D 32 (by rw [← hW]; exact h)).1]; rfl⟩
    have JC := Keep.mk hC
    have JI := Keep.mk hI
    have JO := Keep.mk hO
    have JOn := Keep.mk hOn
    have JG := Keep.mk hG
    have JLn := Keep.mk hLn
    clear hC hI hO hOn hG hLn hk1 hk2 hD hW hN hhh
    refine wp_seq_k fun K5 hK5 => ?_
    refine wp_region_list (WL.out ?_)
    refine WL.val (by kernel_rfl) (.bool true) (by go_simp) ?_
    simp only [Act.put, List.setIfInBounds_toArray, List.set_cons_zero, List.set_cons_succ]
    refine WL.nil ?_
    refine hK5 _ _ ?_
    refine wp_seq_k fun K6 hK6 => ?_
    refine wp_cond_true rfl ?_
    refine wp_skip ?_
    refine hK6 _ _ ?_
    refine wp_seq_k fun K7 hK7 => ?_
    refine wp_block ?_
    refine wp_seq_k fun K8 hK8 => ?_
    refine wp_region_list (WL.out ?_)
    refine WL.val (by kernel_rfl) (.int .i64 (t : Int)) (by go_simp) ?_
    simp only [Act.put, List.setIfInBounds_toArray, List.set_cons_zero, List.set_cons_succ]
    refine WL.val (by kernel_rfl) (.int .i64 (t : Int)) (by go_simp) ?_
    simp only [Act.put, List.setIfInBounds_toArray, List.set_cons_zero, List.set_cons_succ]
    refine WL.nil ?_
    refine hK8 _ _ ?_
    refine wp_seq_k fun K9 hK9 => ?_
    refine wp_region_list (WL.out ?_)
    refine WL.val (by kernel_rfl) (.pointer (some ⟨p, 0, none⟩)) (by go_simp) ?_
    simp only [Act.put, List.setIfInBounds_toArray, List.set_cons_zero, List.set_cons_succ]
    refine WL.callF (by kernel_rfl) 47 _ _ rfl Tryz.in47 #[ptr p] (by simp [Act.eval]) ?_
    refine (iat_any p s at_ none wr JI.out).mono ?_
    rintro e w0 ⟨rfl, hw0⟩
    rw [hw0]
    clear hw0 w0
    refine ⟨_, rfl, ?_⟩
    simp only [Act.put, List.setIfInBounds_toArray, List.set_cons_zero, List.set_cons_succ]
    refine WL.val (by kernel_rfl) (.int .i64 (at_ : Int)) (by go_simp) ?_
    simp only [Act.put, List.setIfInBounds_toArray, List.set_cons_zero, List.set_cons_succ]
    refine WL.nil ?_
    refine hK9 _ _ ?_
    refine wp_seq_k fun K10 hK10 => ?_
    refine wp_region_list (WL.out ?_)
    refine WL.val (by kernel_rfl) (.pointer (some ⟨p, 0, none⟩)) (by go_simp) ?_
    simp only [Act.put, List.setIfInBounds_toArray, List.set_cons_zero, List.set_cons_succ]
    refine WL.callF (by kernel_rfl) 74 _ _ rfl Tryz.in74 #[ptr p] (by simp [Act.eval]) ?_
    refine (HC0.out).mono ?_
    rintro e w1 ⟨bad, er, rfl, h1, h2, h3⟩
    refine ⟨_, rfl, ?_⟩
    have H1 := Keep.mk h1
    have H2 := Keep.mk (JG.out.trans h2)
    have HO1 := Keep.mk (JO.out.grown h2 (fun k hk e => JO.out.ne JI.out.blk (by decide) (e ▸ hk)))
    have H3 := Keep.mk h3
    clear h1 h2 h3
    simp only [Act.put, List.setIfInBounds_toArray, List.set_cons_zero, List.set_cons_succ]
    by_cases hE : W = 0
    · rcases H3.out with ⟨e1, rfl, rfl⟩ | ⟨e1, _⟩
      rotate_left
      · exact absurd hE e1
      rw [heq.out hE]
      refine WL.val (by kernel_rfl) (.agg (bytesA 32 hh.f)) (by go_simp) ?_
      simp only [Act.put, List.setIfInBounds_toArray, List.set_cons_zero, List.set_cons_succ]
      refine WL.val (by kernel_rfl) (.nilIface) (by go_simp) ?_
      simp only [Act.put, List.setIfInBounds_toArray, List.set_cons_zero, List.set_cons_succ]
      refine WL.callF (by kernel_rfl) 73 _ _ rfl Tryz.in73 #[.agg (bytesA 32 hh.f), .nilIface] (by simp [Act.eval]) ?_
      refine (mustH_ok hh.f w1).mono ?_
      rintro e w2 ⟨rfl, hb2⟩
      refine ⟨_, rfl, ?_⟩
      have B2 := Keep.mk hb2
      clear hb2
      simp only [Act.put, List.setIfInBounds_toArray, List.set_cons_zero, List.set_cons_succ]
      refine WL.new (by kernel_rfl) 51 rfl _ Tryz.new51 ?_
      simp only [Act.put, List.setIfInBounds_toArray, List.set_cons_zero, List.set_cons_succ]
      refine WL.storeR (by kernel_rfl) 51 (.tmp 8) (.tmp 20) rfl w2.heap.size (bytesA 32 hh.f) rfl rfl 51 (bytesA 32 fun _ => 0) (Blk.new w2 51 _) (Tryz.size51B _) (bytesA_sizes _ _ _) (bytesA_one _ _) ?_
      have HX3 := Keep.mk ((Blk.new w2 51 (bytesA 32 fun _ => 0)).setRow (bytesA 32 hh.f))
      have B3 : Keep (Below w2.heap.size w2 ((w2.alloc (.cells (bytesA 32 fun _ => 0) 51)).setRow w2.heap.size (bytesA 32 hh.f))) := ⟨below_setRow (below_new w2 _) (Nat.le_refl _) _⟩
      generalize (w2.alloc (.cells (bytesA 32 fun _ => 0) 51)).setRow w2.heap.size (bytesA 32 hh.f) = w3 at *
      have B13 : Keep (Below w1.heap.size w1 w3) := ⟨B2.out.trans (B3.out.mono B2.out.size)⟩
      have HI3 : Keep (InAt w3 p s (at_ + N) none) := ⟨H1.out.blk.below B13.out H1.out.blk.lt, H1.out.le⟩
      have HO3 := Keep.mk (HO1.out.below B13.out)
      have HG3 : Keep (Grown w w3 fun k => k = p) := ⟨H2.out.trans (Grown.below B13.out)⟩
      have HI3b := Keep.mk HI3.out.blk
      simp only [Act.put]
      refine WL.nil ?_
      refine hK10 _ _ ?_
      refine wp_seq_k fun K11 hK11 => ?_
      refine wp_seq_k fun K12 hK12 => ?_
      have hD0 : Below w3.heap.size w3 w3.drew := (Below.refl _ _).drew
      by_cases ht0 : 0 < t
      · have ht0' : (0 : Int) < (t : Int) := by omega
        have hlt : t - 1 < l.length := by have := JLn.out; omega
        obtain ⟨gL, cL, hsl, hel⟩ := HO3.out.elem (t - 1) hlt
        injection hsl with hs1 hs2 hs3
        subst hs1 hs3
        obtain ⟨hp, hhp⟩ : ∃ hp, hp = l.getD (t - 1) default := ⟨_, rfl⟩
        rw [← hhp] at hel
        have Hcc : Keep (l.getD (l.length - 1) default = hp) := ⟨by rw [JLn.out, hhp]⟩
        have hsub : IntKind.i64.wrap ((t : Int) - 1) = ((t - 1 : Nat) : Int) := by rw [IntKind.wrap_i64]; have := Hn.out; omega
        have hll := JLn.out
        have HS0 : Keep (∀ wx, Below w3.heap.size w3 wx → wx.rangeAt gL ((t - 1) * 32) (Sh.encH hp) ∧ wx.rangeAt w2.heap.size 0 (bytesA 32 hh.f).toList) := ⟨fun wx hb => ⟨hel wx (fun cs h => h.below hb h.lt), blk_range (HX3.out.below hb HX3.out.lt)⟩⟩
        clear hel hhp
        by_cases hcf : 0 ≤ Sh.cf hp hh
        · skip
          have JC2 := Keep.mk (JC.out.trans ((if_neg (by simp [hE])).trans (if_pos ⟨by have := JLn.out; omega, by rw [Hcc.out]; exact hcf⟩)))
          refine wp_region_held_drew (S := fun wx => wx.rangeAt gL ((t - 1) * 32) (Sh.encH hp) ∧ wx.rangeAt w2.heap.size 0 (bytesA 32 hh.f).toList) (by kernel_rfl) (HS0.out _ hD0) (fun hHeld => ?_)
          refine wpAnyH_take (i := 0) (oi := ⟨some 21, Op.move (Operand.tmp 6), 3, _, _, none⟩) (v := .int .i64 (t : Int)) rfl (by kernel_rfl) (by kernel_rfl) (by kernel_rfl) (fun _ _ _ h => h) (Or.inl ⟨by rfl, fun w hS => by go_simp⟩) hHeld ?_
          simp only [Act.put, List.setIfInBounds_toArray, List.set_cons_zero, List.set_cons_succ]
          refine wpAnyH_take (i := 1) (oi := ⟨some 22, Op.binOp BinOp.gtr 3 (Operand.tmp 21) (Operand.const (Value.int IntKind.i64 0)) 3, 4, _, _, none⟩) (v := .bool true) rfl (by kernel_rfl) (by kernel_rfl) (by kernel_rfl) (fun _ _ _ h => h) (Or.inl ⟨by rfl, fun w hS => by go_simp⟩) hHeld ?_
          simp only [Act.put, List.setIfInBounds_toArray, List.set_cons_zero, List.set_cons_succ]
          refine wpAnyH_take (i := 2) (oi := ⟨some 23, Op.move (Operand.tmp 22), 4, _, _, none⟩) (v := .bool true) rfl (by kernel_rfl) (by kernel_rfl) (by kernel_rfl) (fun _ _ _ h => h) (Or.inl ⟨by rfl, fun w hS => by go_simp⟩) hHeld ?_
          simp only [Act.put, List.setIfInBounds_toArray, List.set_cons_zero, List.set_cons_succ]
          refine wpAnyH_take (i := 3) (oi := ⟨some 24, Op.move (Operand.tmp 5), 25, _, _, some (2, true)⟩) (v := .slice (some ⟨gL, 0, none⟩) l.length oc) rfl (by kernel_rfl) (by kernel_rfl) (by kernel_rfl) (fun _ _ _ h => h) (Or.inl ⟨by rfl, fun w hS => by go_simp⟩) hHeld ?_
          simp only [Act.put, List.setIfInBounds_toArray, List.set_cons_zero, List.set_cons_succ]
          refine wpAnyH_take (i := 4) (oi := ⟨some 25, Op.move (Operand.tmp 6), 3, _, _, some (2, true)⟩) (v := .int .i64 (t : Int)) rfl (by kernel_rfl) (by kernel_rfl) (by kernel_rfl) (fun _ _ _ h => h) (Or.inl ⟨by rfl, fun w hS => by go_simp⟩) hHeld ?_
          simp only [Act.put, List.setIfInBounds_toArray, List.set_cons_zero, List.set_cons_succ]
          refine wpAnyH_take (i := 5) (oi := ⟨some 26, Op.binOp BinOp.sub 3 (Operand.tmp 25) (Operand.const (Value.int IntKind.i64 1)) 3, 3, _, _, some (2, true)⟩) (v := .int .i64 ((t - 1 : Nat) : Int)) rfl (by kernel_rfl) (by kernel_rfl) (by kernel_rfl) (fun _ _ _ h => h) (Or.inl ⟨by rfl, fun w hS => by go_simp⟩) hHeld ?_
          simp only [Act.put, List.setIfInBounds_toArray, List.set_cons_zero, List.set_cons_succ]
          refine wpAnyH_take (i := 6) (oi := ⟨some 27, Op.indexAddr 25 (Operand.tmp 24) (Operand.tmp 26), 0, _, _, some (2, true)⟩) (v := .pointer (some ⟨gL, (t - 1) * 32, none⟩)) rfl (by kernel_rfl) (by kernel_rfl) (by kernel_rfl) (fun _ _ _ h => h) (Or.inl ⟨by rfl, fun w hS => by go_simp; intro h; omega⟩) hHeld ?_
          simp only [Act.put, List.setIfInBounds_toArray, List.set_cons_zero, List.set_cons_succ]
          refine wpAnyH_take (i := 7) (oi := ⟨some 28, Op.load 51 (Operand.tmp 27), 51, _, _, some (2, true)⟩) (v := .agg (Sh.encH hp).toArray) rfl (by kernel_rfl) (by kernel_rfl) (by kernel_rfl) (fun _ _ _ h => h) (yieldsIf_load_mid (by rfl) 51 (Operand.tmp 27) rfl gL ((t - 1) * 32) rfl (Sh.encH hp) _ (fun w hS => hS.1) Tryz.underlying51 rfl (Tryz.sizeHL hp)) hHeld ?_
          simp only [Act.put, List.setIfInBounds_toArray, List.set_cons_zero, List.set_cons_succ]
          refine wpAnyH_take (i := 8) (oi := ⟨some 29, Op.load 51 (Operand.tmp 8), 51, _, _, some (2, true)⟩) (v := .agg (bytesA 32 hh.f).toList.toArray) rfl (by kernel_rfl) (by kernel_rfl) (by kernel_rfl) (fun _ _ _ h => h) (yieldsIf_load_mid (by rfl) 51 (Operand.tmp 8) rfl w2.heap.size 0 rfl (bytesA 32 hh.f).toList _ (fun w hS => hS.2) Tryz.underlying51 rfl (by rw [Array.length_toList]; exact Tryz.size51B _)) hHeld ?_
          simp only [Act.put, List.setIfInBounds_toArray, List.set_cons_zero, List.set_cons_succ]
          refine wpAnyH_ready (rs := [9]) (by kernel_rfl) (by simp) ?_
          refine AllReadyH.cons (o := ⟨some 30, Op.call { callee := Callee.value (Operand.func 75), args := #[Operand.tmp 28, Operand.tmp 29], argTypes := #[51, 51] }, 3, _, _, some (2, true)⟩) rfl (fun K hK => ?_) AllReadyH.nil
          rw [if_pos (by rfl)]
          refine wp_callF 75 _ _ rfl Tryz.in75 #[.agg (bytesA 32 hp.f), .agg (bytesA 32 hh.f)] (by simp [Act.eval, enc_load]) (fun vz wz => vz = .int .i64 (Sh.cf hp hh) ∧ Below w3.heap.size w3 wz) ?_ ?_
          · refine (cmp_any hp hh w3.drew).mono ?_
            rintro e wz ⟨rfl, h⟩
            exact ⟨_, rfl, rfl, hD0.trans (h.mono hD0.size)⟩
          rintro vz w7 ⟨rfl, h7⟩
          have HB7 := Keep.mk h7
          clear h7
          refine hK.out _ _ (HS0.out _ HB7.out) fun hHeld2 => ?_
          clear hK
          simp only [Act.put, List.setIfInBounds_toArray, List.set_cons_zero, List.set_cons_succ]
          refine wpAnyH_take (i := 10) (oi := ⟨some 31, Op.binOp BinOp.geq 3 (Operand.tmp 30) (Operand.const (Value.int IntKind.i64 0)) 3, 4, _, _, some (2, true)⟩) (v := .bool true) rfl (by kernel_rfl) (by kernel_rfl) (by kernel_rfl) (fun _ _ _ h => h) (Or.inl ⟨by rfl, fun w hS => by go_simp⟩) hHeld2 ?_
          simp only [Act.put, List.setIfInBounds_toArray, List.set_cons_zero, List.set_cons_succ]
          refine wpAnyH_take (i := 11) (oi := ⟨some 32, Op.pick (Operand.tmp 23) (Operand.tmp 31) (Operand.const (Value.bool false)), 4, _, _, none⟩) (v := .bool true) rfl (by kernel_rfl) (by kernel_rfl) (by kernel_rfl) (fun _ _ _ h => h) (Or.inl ⟨by rfl, fun w hS => by go_simp⟩) hHeld2 ?_
          simp only [Act.put, List.setIfInBounds_toArray, List.set_cons_zero, List.set_cons_succ]
          refine wpAnyH_done (by kernel_rfl) ?_ _
          refine hK12 _ _ ?_
          refine wp_cond_true rfl ?_
          have HG7 : Keep (Grown w w7 fun k => k = p) := ⟨HG3.out.trans (Grown.below HB7.out)⟩
          refine wp_region_list (WL.out ?_)
          refine WL.val (by kernel_rfl) (.int .i64 (at_ : Int)) (by go_simp) ?_
          simp only [Act.put, List.setIfInBounds_toArray, List.set_cons_zero, List.set_cons_succ]
          refine WL.callP (by kernel_rfl) 52 _ _ rfl Tryz.in52 #[.int .i64 52, .int .i64 (at_ : Int)] (by simp [Act.eval]) ?_
          refine (at_any 52 at_ w7).mono ?_
          rintro e wz ⟨rfl, hbz, hwz⟩
          have HBd : Keep (BadAt wz w7.heap.size 52 at_) := ⟨hbz⟩
          have HGd : Keep (Grown w wz fun k => k = p) := ⟨HG7.out.trans (Grown.below hwz)⟩
          clear hbz hwz
          refine .inr ⟨_, rfl, ?_⟩
          try simp only [Exit.inBlock, Exit.then]
          refine ⟨rfl, ?_⟩
          exact .inr ⟨by rw [HR.out, JC2.out]; exact (by decide : (52 : Int) ≠ 0), w7.heap.size, HG7.out.size, rfl, by rw [HR.out, JC2.out]; exact HBd.out, HGd.out⟩
        · skip
          have JC2 := Keep.mk (JC.out.trans ((if_neg (by simp [hE])).trans (if_neg (fun h => hcf (by rw [← Hcc.out]; exact h.2)))))
          refine wp_region_held_drew (S := fun wx => wx.rangeAt gL ((t - 1) * 32) (Sh.encH hp) ∧ wx.rangeAt w2.heap.size 0 (bytesA 32 hh.f).toList) (by kernel_rfl) (HS0.out _ hD0) (fun hHeld => ?_)
          refine wpAnyH_take (i := 0) (oi := ⟨some 21, Op.move (Operand.tmp 6), 3, _, _, none⟩) (v := .int .i64 (t : Int)) rfl (by kernel_rfl) (by kernel_rfl) (by kernel_rfl) (fun _ _ _ h => h) (Or.inl ⟨by rfl, fun w hS => by go_simp⟩) hHeld ?_
          simp only [Act.put, List.setIfInBounds_toArray, List.set_cons_zero, List.set_cons_succ]
          refine wpAnyH_take (i := 1) (oi := ⟨some 22, Op.binOp BinOp.gtr 3 (Operand.tmp 21) (Operand.const (Value.int IntKind.i64 0)) 3, 4, _, _, none⟩) (v := .bool true) rfl (by kernel_rfl) (by kernel_rfl) (by kernel_rfl) (fun _ _ _ h => h) (Or.inl ⟨by rfl, fun w hS => by go_simp⟩) hHeld ?_
          simp only [Act.put, List.setIfInBounds_toArray, List.set_cons_zero, List.set_cons_succ]
          refine wpAnyH_take (i := 2) (oi := ⟨some 23, Op.move (Operand.tmp 22), 4, _, _, none⟩) (v := .bool true) rfl (by kernel_rfl) (by kernel_rfl) (by kernel_rfl) (fun _ _ _ h => h) (Or.inl ⟨by rfl, fun w hS => by go_simp⟩) hHeld ?_
          simp only [Act.put, List.setIfInBounds_toArray, List.set_cons_zero, List.set_cons_succ]
          refine wpAnyH_take (i := 3) (oi := ⟨some 24, Op.move (Operand.tmp 5), 25, _, _, some (2, true)⟩) (v := .slice (some ⟨gL, 0, none⟩) l.length oc) rfl (by kernel_rfl) (by kernel_rfl) (by kernel_rfl) (fun _ _ _ h => h) (Or.inl ⟨by rfl, fun w hS => by go_simp⟩) hHeld ?_
          simp only [Act.put, List.setIfInBounds_toArray, List.set_cons_zero, List.set_cons_succ]
          refine wpAnyH_take (i := 4) (oi := ⟨some 25, Op.move (Operand.tmp 6), 3, _, _, some (2, true)⟩) (v := .int .i64 (t : Int)) rfl (by kernel_rfl) (by kernel_rfl) (by kernel_rfl) (fun _ _ _ h => h) (Or.inl ⟨by rfl, fun w hS => by go_simp⟩) hHeld ?_
          simp only [Act.put, List.setIfInBounds_toArray, List.set_cons_zero, List.set_cons_succ]
          refine wpAnyH_take (i := 5) (oi := ⟨some 26, Op.binOp BinOp.sub 3 (Operand.tmp 25) (Operand.const (Value.int IntKind.i64 1)) 3, 3, _, _, some (2, true)⟩) (v := .int .i64 ((t - 1 : Nat) : Int)) rfl (by kernel_rfl) (by kernel_rfl) (by kernel_rfl) (fun _ _ _ h => h) (Or.inl ⟨by rfl, fun w hS => by go_simp⟩) hHeld ?_
          simp only [Act.put, List.setIfInBounds_toArray, List.set_cons_zero, List.set_cons_succ]
          refine wpAnyH_take (i := 6) (oi := ⟨some 27, Op.indexAddr 25 (Operand.tmp 24) (Operand.tmp 26), 0, _, _, some (2, true)⟩) (v := .pointer (some ⟨gL, (t - 1) * 32, none⟩)) rfl (by kernel_rfl) (by kernel_rfl) (by kernel_rfl) (fun _ _ _ h => h) (Or.inl ⟨by rfl, fun w hS => by go_simp; intro h; omega⟩) hHeld ?_
          simp only [Act.put, List.setIfInBounds_toArray, List.set_cons_zero, List.set_cons_succ]
          refine wpAnyH_take (i := 7) (oi := ⟨some 28, Op.load 51 (Operand.tmp 27), 51, _, _, some (2, true)⟩) (v := .agg (Sh.encH hp).toArray) rfl (by kernel_rfl) (by kernel_rfl) (by kernel_rfl) (fun _ _ _ h => h) (yieldsIf_load_mid (by rfl) 51 (Operand.tmp 27) rfl gL ((t - 1) * 32) rfl (Sh.encH hp) _ (fun w hS => hS.1) Tryz.underlying51 rfl (Tryz.sizeHL hp)) hHeld ?_
          simp only [Act.put, List.setIfInBounds_toArray, List.set_cons_zero, List.set_cons_succ]
          refine wpAnyH_take (i := 8) (oi := ⟨some 29, Op.load 51 (Operand.tmp 8), 51, _, _, some (2, true)⟩) (v := .agg (bytesA 32 hh.f).toList.toArray) rfl (by kernel_rfl) (by kernel_rfl) (by kernel_rfl) (fun _ _ _ h => h) (yieldsIf_load_mid (by rfl) 51 (Operand.tmp 8) rfl w2.heap.size 0 rfl (bytesA 32 hh.f).toList _ (fun w hS => hS.2) Tryz.underlying51 rfl (by rw [Array.length_toList]; exact Tryz.size51B _)) hHeld ?_
          simp only [Act.put, List.setIfInBounds_toArray, List.set_cons_zero, List.set_cons_succ]
          refine wpAnyH_ready (rs := [9]) (by kernel_rfl) (by simp) ?_
          refine AllReadyH.cons (o := ⟨some 30, Op.call { callee := Callee.value (Operand.func 75), args := #[Operand.tmp 28, Operand.tmp 29], argTypes := #[51, 51] }, 3, _, _, some (2, true)⟩) rfl (fun K hK => ?_) AllReadyH.nil
          rw [if_pos (by rfl)]
          refine wp_callF 75 _ _ rfl Tryz.in75 #[.agg (bytesA 32 hp.f), .agg (bytesA 32 hh.f)] (by simp [Act.eval, enc_load]) (fun vz wz => vz = .int .i64 (Sh.cf hp hh) ∧ Below w3.heap.size w3 wz) ?_ ?_
          · refine (cmp_any hp hh w3.drew).mono ?_
            rintro e wz ⟨rfl, h⟩
            exact ⟨_, rfl, rfl, hD0.trans (h.mono hD0.size)⟩
          rintro vz w7 ⟨rfl, h7⟩
          have HB7 := Keep.mk h7
          clear h7
          refine hK.out _ _ (HS0.out _ HB7.out) fun hHeld2 => ?_
          clear hK
          simp only [Act.put, List.setIfInBounds_toArray, List.set_cons_zero, List.set_cons_succ]
          refine wpAnyH_take (i := 10) (oi := ⟨some 31, Op.binOp BinOp.geq 3 (Operand.tmp 30) (Operand.const (Value.int IntKind.i64 0)) 3, 4, _, _, some (2, true)⟩) (v := .bool false) rfl (by kernel_rfl) (by kernel_rfl) (by kernel_rfl) (fun _ _ _ h => h) (Or.inl ⟨by rfl, fun w hS => by go_simp⟩) hHeld2 ?_
          simp only [Act.put, List.setIfInBounds_toArray, List.set_cons_zero, List.set_cons_succ]
          refine wpAnyH_take (i := 11) (oi := ⟨some 32, Op.pick (Operand.tmp 23) (Operand.tmp 31) (Operand.const (Value.bool false)), 4, _, _, none⟩) (v := .bool false) rfl (by kernel_rfl) (by kernel_rfl) (by kernel_rfl) (fun _ _ _ h => h) (Or.inl ⟨by rfl, fun w hS => by go_simp⟩) hHeld2 ?_
          simp only [Act.put, List.setIfInBounds_toArray, List.set_cons_zero, List.set_cons_succ]
          refine wpAnyH_done (by kernel_rfl) ?_ _
          refine hK12 _ _ ?_
          refine wp_cond_false rfl ?_
          refine wp_skip ?_
          refine hK11 _ _ ?_
          refine wp_region_list (WL.out ?_)
          refine WL.val (by kernel_rfl) (.slice (some ⟨gL, 0, none⟩) l.length oc) (by go_simp) ?_
          simp only [Act.put, List.setIfInBounds_toArray, List.set_cons_zero, List.set_cons_succ]
          refine WL.row (by kernel_rfl) 51 (.tmp 8) rfl w2.heap.size rfl 51 (bytesA 32 hh.f) _ (HX3.out.below HB7.out HX3.out.lt) Tryz.underlying51 rfl (Tryz.size51B _) ?_
          simp only [Act.put, List.setIfInBounds_toArray, List.set_cons_zero, List.set_cons_succ]
          refine WL.bs (by kernel_rfl) 25 1 _ rfl #[(0, .agg (bytesA 32 hh.f))] (by simp [Act.eval]) _ _ (bsH hh w7) ?_
          have HB8 := Keep.mk (Blk.new w7 51 (bytesA 32 hh.f))
          have B8 : Keep (Below w3.heap.size w3 (w7.alloc (.cells (bytesA 32 hh.f) 51))) := ⟨HB7.out.trans ((below_new w7 _).mono HB7.out.size)⟩
          generalize w7.alloc (.cells (bytesA 32 hh.f) 51) = w8 at *
          simp only [Act.put, List.setIfInBounds_toArray, List.set_cons_zero, List.set_cons_succ]
          refine WL.appH (by kernel_rfl) (.tmp 35) (.tmp 37) rfl (.slice (some ⟨gL, 0, none⟩) l.length oc) l w7.heap.size hh rfl rfl (HO3.out.below B8.out) HB8.out (by have := JLn.out; have := Hn.out; omega) ?_
          intro v4 w4 h1 h2 h3
          have HO4 := Keep.mk h1
          have Hg4 : Keep (Grown w w4 fun k => k = p) := ⟨(HG3.out.trans (Grown.below B8.out)).next h2 (fun k hk e => absurd (JOn.out k e) (by omega))⟩
          have HI4 : Keep (InAt w4 p s (at_ + N) none) := ⟨h2.blk (HI3.out.blk.below B8.out HI3.out.blk.lt) (fun e => (HO3.out.below B8.out).ne (HI3.out.blk.below B8.out HI3.out.blk.lt) (by decide) e), HI3.out.le⟩
          have HOn4 : Keep (∀ k, v4.ownBlock = some k → w.heap.size ≤ k) := ⟨fun k hk => by
            rcases h3 with e | ⟨j, e, hj⟩
            · rw [e] at hk; exact JOn.out k hk
            · rw [e] at hk; injection hk with hk; have := HG3.out.size; have := B8.out.size; omega⟩
          clear h1 h2 h3
          simp only [Act.put, List.setIfInBounds_toArray, List.set_cons_zero, List.set_cons_succ]
          refine WL.val (by kernel_rfl) (v4) (by go_simp) ?_
          simp only [Act.put, List.setIfInBounds_toArray, List.set_cons_zero, List.set_cons_succ]
          refine WL.nil ?_
          refine hK7 _ _ ?_
          refine wp_region_list (WL.out ?_)
          refine WL.val (by kernel_rfl) (.int .i64 ((t : Int) + 1)) (by go_simp) ?_
          simp only [Act.put, List.setIfInBounds_toArray, List.set_cons_zero, List.set_cons_succ]
          refine WL.val (by kernel_rfl) (.int .i64 ((t : Int) + 1)) (by go_simp) ?_
          simp only [Act.put, List.setIfInBounds_toArray, List.set_cons_zero, List.set_cons_succ]
          refine WL.nil ?_
          rw [HN32.out hE] at HI4
          refine ⟨⟨t + 1, v4, .int .i64 (t : Int), .int .i64 (at_ : Int), .pointer (some ⟨w2.heap.size, 0, none⟩), .bool true, .int .i64 (t : Int), .pointer (some ⟨p, 0, none⟩), .int .i64 (at_ : Int), .pointer (some ⟨p, 0, none⟩), .tuple #[.agg (bytesA 32 hh.f), .nilIface], .agg (bytesA 32 hh.f), .nilIface, .agg (bytesA 32 hh.f), .int .i64 (t : Int), .bool true, .bool true, .slice (some ⟨gL, 0, none⟩) l.length oc, .int .i64 (t : Int), .int .i64 ((t - 1 : Nat) : Int), .pointer (some ⟨gL, (t - 1) * 32, none⟩), .agg (Sh.encH hp).toArray, .agg (bytesA 32 hh.f).toList.toArray, .int .i64 (Sh.cf hp hh), .bool false, .bool false, u33, u34, .slice (some ⟨gL, 0, none⟩) l.length oc, .agg (bytesA 32 hh.f), .slice (some ⟨w7.heap.size, 0, none⟩) 1 1, v4, .int .i64 ((t : Int) + 1), rfl, by omega, l ++ [hh], at_ + 32, JC2.out, HI4.out, HO4.out, HOn4.out, Hg4.out, by rw [List.length_append]; simp [JLn.out]⟩, ?_⟩
          simp only [intOf]; show n - ((t : Int) + 1).toNat < n - ((t : Int)).toNat; omega
      · have ht0' : ¬ (0 : Int) < (t : Int) := by omega
        have HB7 : Keep (Below w3.heap.size w3 w3.drew) := ⟨hD0⟩
        have JC2 := Keep.mk (JC.out.trans ((if_neg (by simp [hE])).trans (if_neg (fun h => ht0 (by have := JLn.out; have := h.1; omega)))))
        refine wp_region_held_drew (S := fun _ => True) (by kernel_rfl) (trivial) (fun hHeld => ?_)
        refine wpAnyH_take (i := 0) (oi := ⟨some 21, Op.move (Operand.tmp 6), 3, _, _, none⟩) (v := .int .i64 (t : Int)) rfl (by kernel_rfl) (by kernel_rfl) (by kernel_rfl) (fun _ _ _ h => h) (Or.inl ⟨by rfl, fun w hS => by go_simp⟩) hHeld ?_
        simp only [Act.put, List.setIfInBounds_toArray, List.set_cons_zero, List.set_cons_succ]
        refine wpAnyH_take (i := 1) (oi := ⟨some 22, Op.binOp BinOp.gtr 3 (Operand.tmp 21) (Operand.const (Value.int IntKind.i64 0)) 3, 4, _, _, none⟩) (v := .bool false) rfl (by kernel_rfl) (by kernel_rfl) (by kernel_rfl) (fun _ _ _ h => h) (Or.inl ⟨by rfl, fun w hS => by go_simp⟩) hHeld ?_
        simp only [Act.put, List.setIfInBounds_toArray, List.set_cons_zero, List.set_cons_succ]
        refine wpAnyH_take (i := 2) (oi := ⟨some 23, Op.move (Operand.tmp 22), 4, _, _, none⟩) (v := .bool false) rfl (by kernel_rfl) (by kernel_rfl) (by kernel_rfl) (fun _ _ _ h => h) (Or.inl ⟨by rfl, fun w hS => by go_simp⟩) hHeld ?_
        simp only [Act.put, List.setIfInBounds_toArray, List.set_cons_zero, List.set_cons_succ]
        refine wpAnyH_take (i := 3) (oi := ⟨some 24, Op.move (Operand.tmp 5), 25, _, _, some (2, true)⟩) (v := undef) rfl (by kernel_rfl) (by kernel_rfl) (by kernel_rfl) (fun _ _ _ h => h) (Or.inr ⟨by rfl, rfl⟩) hHeld ?_
        simp only [Act.put, List.setIfInBounds_toArray, List.set_cons_zero, List.set_cons_succ]
        refine wpAnyH_take (i := 4) (oi := ⟨some 25, Op.move (Operand.tmp 6), 3, _, _, some (2, true)⟩) (v := undef) rfl (by kernel_rfl) (by kernel_rfl) (by kernel_rfl) (fun _ _ _ h => h) (Or.inr ⟨by rfl, rfl⟩) hHeld ?_
        simp only [Act.put, List.setIfInBounds_toArray, List.set_cons_zero, List.set_cons_succ]
        refine wpAnyH_take (i := 5) (oi := ⟨some 26, Op.binOp BinOp.sub 3 (Operand.tmp 25) (Operand.const (Value.int IntKind.i64 1)) 3, 3, _, _, some (2, true)⟩) (v := undef) rfl (by kernel_rfl) (by kernel_rfl) (by kernel_rfl) (fun _ _ _ h => h) (Or.inr ⟨by rfl, rfl⟩) hHeld ?_
        simp only [Act.put, List.setIfInBounds_toArray, List.set_cons_zero, List.set_cons_succ]
        refine wpAnyH_take (i := 6) (oi := ⟨some 27, Op.indexAddr 25 (Operand.tmp 24) (Operand.tmp 26), 0, _, _, some (2, true)⟩) (v := undef) rfl (by kernel_rfl) (by kernel_rfl) (by kernel_rfl) (fun _ _ _ h => h) (Or.inr ⟨by rfl, rfl⟩) hHeld ?_
        simp only [Act.put, List.setIfInBounds_toArray, List.set_cons_zero, List.set_cons_succ]
        refine wpAnyH_take (i := 7) (oi := ⟨some 28, Op.load 51 (Operand.tmp 27), 51, _, _, some (2, true)⟩) (v := undef) rfl (by kernel_rfl) (by kernel_rfl) (by kernel_rfl) (fun _ _ _ h => h) (Or.inr ⟨by rfl, rfl⟩) hHeld ?_
        simp only [Act.put, List.setIfInBounds_toArray, List.set_cons_zero, List.set_cons_succ]
        refine wpAnyH_take (i := 8) (oi := ⟨some 29, Op.load 51 (Operand.tmp 8), 51, _, _, some (2, true)⟩) (v := undef) rfl (by kernel_rfl) (by kernel_rfl) (by kernel_rfl) (fun _ _ _ h => h) (Or.inr ⟨by rfl, rfl⟩) hHeld ?_
        simp only [Act.put, List.setIfInBounds_toArray, List.set_cons_zero, List.set_cons_succ]
        refine wpAnyH_take (i := 9) (oi := ⟨some 30, Op.call { callee := Callee.value (Operand.func 75), args := #[Operand.tmp 28, Operand.tmp 29], argTypes := #[51, 51] }, 3, _, _, some (2, true)⟩) (v := undef) rfl (by kernel_rfl) (by kernel_rfl) (by kernel_rfl) (fun _ _ _ h => h) (Or.inr ⟨by rfl, rfl⟩) hHeld ?_
        simp only [Act.put, List.setIfInBounds_toArray, List.set_cons_zero, List.set_cons_succ]
        refine wpAnyH_take (i := 10) (oi := ⟨some 31, Op.binOp BinOp.geq 3 (Operand.tmp 30) (Operand.const (Value.int IntKind.i64 0)) 3, 4, _, _, some (2, true)⟩) (v := undef) rfl (by kernel_rfl) (by kernel_rfl) (by kernel_rfl) (fun _ _ _ h => h) (Or.inr ⟨by rfl, rfl⟩) hHeld ?_
        simp only [Act.put, List.setIfInBounds_toArray, List.set_cons_zero, List.set_cons_succ]
        refine wpAnyH_take (i := 11) (oi := ⟨some 32, Op.pick (Operand.tmp 23) (Operand.tmp 31) (Operand.const (Value.bool false)), 4, _, _, none⟩) (v := .bool false) rfl (by kernel_rfl) (by kernel_rfl) (by kernel_rfl) (fun _ _ _ h => h) (Or.inl ⟨by rfl, fun w hS => by go_simp⟩) hHeld ?_
        simp only [Act.put, List.setIfInBounds_toArray, List.set_cons_zero, List.set_cons_succ]
        refine wpAnyH_done (by kernel_rfl) ?_ _
        refine hK12 _ _ ?_
        refine wp_cond_false rfl ?_
        refine wp_skip ?_
        refine hK11 _ _ ?_
        refine wp_region_list (WL.out ?_)
        refine WL.val (by kernel_rfl) (.slice oa l.length oc) (by go_simp) ?_
        simp only [Act.put, List.setIfInBounds_toArray, List.set_cons_zero, List.set_cons_succ]
        refine WL.row (by kernel_rfl) 51 (.tmp 8) rfl w2.heap.size rfl 51 (bytesA 32 hh.f) _ (HX3.out.below HB7.out HX3.out.lt) Tryz.underlying51 rfl (Tryz.size51B _) ?_
        simp only [Act.put, List.setIfInBounds_toArray, List.set_cons_zero, List.set_cons_succ]
        refine WL.bs (by kernel_rfl) 25 1 _ rfl #[(0, .agg (bytesA 32 hh.f))] (by simp [Act.eval]) _ _ (bsH hh w3.drew) ?_
        have HB8 := Keep.mk (Blk.new w3.drew 51 (bytesA 32 hh.f))
        have B8 : Keep (Below w3.heap.size w3 (w3.drew.alloc (.cells (bytesA 32 hh.f) 51))) := ⟨HB7.out.trans ((below_new w3.drew _).mono HB7.out.size)⟩
        generalize w3.drew.alloc (.cells (bytesA 32 hh.f) 51) = w8 at *
        simp only [Act.put, List.setIfInBounds_toArray, List.set_cons_zero, List.set_cons_succ]
        refine WL.appH (by kernel_rfl) (.tmp 35) (.tmp 37) rfl (.slice oa l.length oc) l w3.drew.heap.size hh rfl rfl (HO3.out.below B8.out) HB8.out (by have := JLn.out; have := Hn.out; omega) ?_
        intro v4 w4 h1 h2 h3
        have HO4 := Keep.mk h1
        have Hg4 : Keep (Grown w w4 fun k => k = p) := ⟨(HG3.out.trans (Grown.below B8.out)).next h2 (fun k hk e => absurd (JOn.out k e) (by omega))⟩
        have HI4 : Keep (InAt w4 p s (at_ + N) none) := ⟨h2.blk (HI3.out.blk.below B8.out HI3.out.blk.lt) (fun e => (HO3.out.below B8.out).ne (HI3.out.blk.below B8.out HI3.out.blk.lt) (by decide) e), HI3.out.le⟩
        have HOn4 : Keep (∀ k, v4.ownBlock = some k → w.heap.size ≤ k) := ⟨fun k hk => by
          rcases h3 with e | ⟨j, e, hj⟩
          · rw [e] at hk; exact JOn.out k hk
          · rw [e] at hk; injection hk with hk; have := HG3.out.size; have := B8.out.size; omega⟩
        clear h1 h2 h3
        simp only [Act.put, List.setIfInBounds_toArray, List.set_cons_zero, List.set_cons_succ]
        refine WL.val (by kernel_rfl) (v4) (by go_simp) ?_
        simp only [Act.put, List.setIfInBounds_toArray, List.set_cons_zero, List.set_cons_succ]
        refine WL.nil ?_
        refine hK7 _ _ ?_
        refine wp_region_list (WL.out ?_)
        refine WL.val (by kernel_rfl) (.int .i64 ((t : Int) + 1)) (by go_simp) ?_
        simp only [Act.put, List.setIfInBounds_toArray, List.set_cons_zero, List.set_cons_succ]
        refine WL.val (by kernel_rfl) (.int .i64 ((t : Int) + 1)) (by go_simp) ?_
        simp only [Act.put, List.setIfInBounds_toArray, List.set_cons_zero, List.set_cons_succ]
        refine WL.nil ?_
        rw [HN32.out hE] at HI4
        refine ⟨⟨t + 1, v4, .int .i64 (t : Int), .int .i64 (at_ : Int), .pointer (some ⟨w2.heap.size, 0, none⟩), .bool true, .int .i64 (t : Int), .pointer (some ⟨p, 0, none⟩), .int .i64 (at_ : Int), .pointer (some ⟨p, 0, none⟩), .tuple #[.agg (bytesA 32 hh.f), .nilIface], .agg (bytesA 32 hh.f), .nilIface, .agg (bytesA 32 hh.f), .int .i64 (t : Int), .bool false, .bool false, undef, undef, undef, undef, undef, undef, undef, undef, .bool false, u33, u34, .slice oa l.length oc, .agg (bytesA 32 hh.f), .slice (some ⟨w3.drew.heap.size, 0, none⟩) 1 1, v4, .int .i64 ((t : Int) + 1), rfl, by omega, l ++ [hh], at_ + 32, JC2.out, HI4.out, HO4.out, HOn4.out, Hg4.out, by rw [List.length_append]; simp [JLn.out]⟩, ?_⟩
        simp only [intOf]; show n - ((t : Int) + 1).toNat < n - ((t : Int)).toNat; omega
    · rcases H3.out with ⟨e1, _, _⟩ | ⟨_, q, hq, rfl, rfl, hbad⟩
      · exact absurd e1 hE
      have Hbad := Keep.mk hbad
      clear hbad
      unfold err
      refine WL.val (by kernel_rfl) (.agg (bytesA 32 (hrd D W))) (by go_simp) ?_
      simp only [Act.put, List.setIfInBounds_toArray, List.set_cons_zero, List.set_cons_succ]
      refine WL.val (by kernel_rfl) (.iface 64 (ptr q)) (by go_simp) ?_
      simp only [Act.put, List.setIfInBounds_toArray, List.set_cons_zero, List.set_cons_succ]
      refine WL.callP (by kernel_rfl) 73 _ _ rfl Tryz.in73 #[.agg (bytesA 32 (hrd D W)), err q] (by simp [Act.eval, err]) ?_
      refine (mustH_bad _ q w1).mono ?_
      rintro e w' ⟨rfl, hbz⟩
      refine .inr ⟨_, rfl, ?_⟩
      try simp only [Exit.inBlock, Exit.then]
      refine ⟨rfl, ?_⟩
      exact .inr ⟨by rw [HR.out, JC.out, if_pos hE]; exact hE, q, Nat.le_trans JG.out.size hq, rfl, by rw [HR.out, JC.out, if_pos hE]; exact Hbad.out.below hbz Hbad.out.lt, H2.out.trans (Grown.below hbz)⟩
  · have hte : Keep (t = n) := ⟨by omega⟩
    have htl' : ¬ (t : Int) < (n : Int) := by omega
    refine wp_seq_k fun K13 hK13 => ?_
    refine wp_region_list (WL.out ?_)
    refine WL.val (by kernel_rfl) (.bool false) (by go_simp) ?_
    simp only [Act.put, List.setIfInBounds_toArray, List.set_cons_zero, List.set_cons_succ]
    refine WL.nil ?_
    refine hK13 _ _ ?_
    refine wp_seq_k fun K14 hK14 => ?_
    refine wp_cond_false rfl ?_
    refine wp_exit ?_
    refine hK3 _ _ ?_
    refine wp_seq_k fun K15 hK15 => ?_
    refine wp_region_list (WL.out ?_)
    refine WL.val (by kernel_rfl) (u5) (by go_simp) ?_
    simp only [Act.put, List.setIfInBounds_toArray, List.set_cons_zero, List.set_cons_succ]
    refine WL.val (by kernel_rfl) (u5) (by go_simp) ?_
    simp only [Act.put, List.setIfInBounds_toArray, List.set_cons_zero, List.set_cons_succ]
    refine WL.nil ?_
    refine hK15 _ _ ?_
    refine wp_ret ?_
    go_ret
    rw [hte.out, Nat.sub_self, getH] at hC
    rw [HR.out, hC]
    exact .inl ⟨rfl, u5, rfl, hO, hOn, hI, hG⟩
end Go.Proofs.YtibaindbnemlcaaGreatDoor.Nd
