import Derived.Test.YtibaindbnemlcaaGreatDoorB03
import Derived.Test.YtibaindbnemlcaaGreatDoorB02
import Derived.Test.YtibaindbnemlcaaGreatDoorB01
import Derived.Deep.RegionHeld3
import Derived.Deep.MidRow
import Derived.Laws.CopyRow
import Derived.Laws.CopyOwn
namespace Go.Proofs.YtibaindbnemlcaaGreatDoor.Nd
open Go.RowKit
set_option linter.unusedSimpArgs false
set_option linter.unusedVariables false

structure NodeV where
  au : Int
  ck : Int
  ps : List Hs
  ops : List OpV
def zeroN : NodeV := ⟨0, 0, [], []⟩
def ndA (au ck : Int) (vp vo : Value) : Array Value := #[.int .i64 au, .int .i64 ck, vp, vo]
def noS : Value := .slice none 0 0
theorem Tryz.new54N (w : World) : (Instr.alloc 54 true (.tuple #[])).run Tryz.prog w = .ok (.pointer (some ⟨w.heap.size, 0, none⟩)) (w.alloc (.cells (ndA 0 0 noS noS) 54)) := by kernel_rfl
theorem Tryz.size54 : (Tryz.prog.info? 54).map (·.size) = some 4 := by kernel_rfl
theorem Tryz.size54B (a c : Int) (x y : Value) : (Tryz.prog.info? 54).map (·.size) = some (ndA a c x y).size := Tryz.size54
theorem nd_built0 : Tryz.prog.built 54 [] = some (ndA 0 0 noS noS) := by kernel_rfl
theorem nd_built1 (a : Int) : Tryz.prog.built 54 [(0, .int .i64 a)] = some (ndA a 0 noS noS) := by kernel_rfl
theorem nd_one (a c : Int) (pa : Option Addr) (pn pc : Nat) (oa : Option Addr) (on oc : Nat) : (ndA a c (.slice pa pn pc) (.slice oa on oc)).all (·.oneCell') = true := by simp [ndA, Value.oneCell']
theorem nd_1 (a c : Int) (x y : Value) : (ndA a c x y)[1]? = some (.int .i64 c) := rfl
theorem nd_2 (a c : Int) (x y : Value) : (ndA a c x y)[2]? = some x := rfl
theorem nd_3 (a c : Int) (x y : Value) : (ndA a c x y)[3]? = some y := rfl
theorem nd_set1 (a c : Int) (x y : Value) (k : Int) : (ndA a c x y).setIfInBounds 1 (.int .i64 k) = ndA a k x y := rfl
theorem nd_set2 (a c : Int) (x y z : Value) : (ndA a c x y).setIfInBounds 2 z = ndA a c z y := rfl
theorem nd_set3 (a c : Int) (x y z : Value) : (ndA a c x y).setIfInBounds 3 z = ndA a c x z := rfl
def decR (L : List Int) : Int × Nat × NodeV :=
  if (formR L 0).1 ≠ 0 then ((formR L 0).1, (formR L 0).2, zeroN)
  else if (auR L 1).1 ≠ 0 then ((auR L 1).1, (auR L 1).2, zeroN)
  else if (ckR L 2).1 ≠ 0 then ((ckR L 2).1, (ckR L 2).2, zeroN)
  else if (fstM (L.drop (ckR L 2).2) 64).2.2 ≠ 0 then ((fstM (L.drop (ckR L 2).2) 64).2.2, (ckR L 2).2 + (fstM (L.drop (ckR L 2).2) 64).2.1.toNat, zeroN)
  else if (((fstM (L.drop 2) 4096).1 == 1) == ((fstM (L.drop (ckR L 2).2) 64).1 == 0)) = false then (51, 2, zeroN)
  else if (getH L (fstM (L.drop (ckR L 2).2) 64).1.toNat [] ((ckR L 2).2 + (fstM (L.drop (ckR L 2).2) 64).2.1.toNat)).1 ≠ 0 then
    ((getH L (fstM (L.drop (ckR L 2).2) 64).1.toNat [] ((ckR L 2).2 + (fstM (L.drop (ckR L 2).2) 64).2.1.toNat)).1, (getH L (fstM (L.drop (ckR L 2).2) 64).1.toNat [] ((ckR L 2).2 + (fstM (L.drop (ckR L 2).2) 64).2.1.toNat)).2.1, zeroN)
  else if (getL L (getH L (fstM (L.drop (ckR L 2).2) 64).1.toNat [] ((ckR L 2).2 + (fstM (L.drop (ckR L 2).2) 64).2.1.toNat)).2.1).1 ≠ 0 then
    ((getL L (getH L (fstM (L.drop (ckR L 2).2) 64).1.toNat [] ((ckR L 2).2 + (fstM (L.drop (ckR L 2).2) 64).2.1.toNat)).2.1).1, (getL L (getH L (fstM (L.drop (ckR L 2).2) 64).1.toNat [] ((ckR L 2).2 + (fstM (L.drop (ckR L 2).2) 64).2.1.toNat)).2.1).2.1, zeroN)
  else if (getL L (getH L (fstM (L.drop (ckR L 2).2) 64).1.toNat [] ((ckR L 2).2 + (fstM (L.drop (ckR L 2).2) 64).2.1.toNat)).2.1).2.1 < L.length then (23, (getL L (getH L (fstM (L.drop (ckR L 2).2) 64).1.toNat [] ((ckR L 2).2 + (fstM (L.drop (ckR L 2).2) 64).2.1.toNat)).2.1).2.1, zeroN)
  else (0, (getL L (getH L (fstM (L.drop (ckR L 2).2) 64).1.toNat [] ((ckR L 2).2 + (fstM (L.drop (ckR L 2).2) 64).2.1.toNat)).2.1).2.1, ⟨(L.drop 1).getD 0 0, (fstM (L.drop 2) 4096).1, (getH L (fstM (L.drop (ckR L 2).2) 64).1.toNat [] ((ckR L 2).2 + (fstM (L.drop (ckR L 2).2) 64).2.1.toNat)).2.2, (getL L (getH L (fstM (L.drop (ckR L 2).2) 64).1.toNat [] ((ckR L 2).2 + (fstM (L.drop (ckR L 2).2) 64).2.1.toNat)).2.1).2.2⟩)
theorem Gives.of {p : Nat} {R : Int × Nat} {w w1 w' : World} {e : Ending} (hg : Grown w w1 fun k => k = p) (h : Gives p R w1 e w') : Gives p R w e w' :=
  ⟨h.1, h.2.choose, Nat.le_trans hg.size h.2.choose_spec.1, h.2.choose_spec.2.1, h.2.choose_spec.2.2.1, hg.trans h.2.choose_spec.2.2.2⟩
def BlkPost (p : Nat) (R : Int × Nat × NodeV) (w : World) (e : Ending) (w' : World) : Prop :=
  (R.1 = 0 ∧ ∃ vp vo, e = .returned (.agg (ndA R.2.2.au R.2.2.ck vp vo)) ∧ OwnH w' vp R.2.2.ps ∧ OwnO w' vo R.2.2.ops ∧ (∀ k, vp.ownBlock = some k → w.heap.size ≤ k) ∧ (∀ k, vo.ownBlock = some k → w.heap.size ≤ k) ∧ (∀ x ∈ R.2.2.ops, OpOk x) ∧ R.2.2.ops.length ≤ 1024 ∧ Grown w w' fun k => k = p) ∨ Gives p (R.1, R.2.1) w e w'
theorem Tryz.in72 (w : World) (vs : Array Value) : (callFunc 72 vs).run Tryz.prog w = .ok (.enter 72 vs) w := by kernel_rfl
theorem Tryz.in45 (w : World) (vs : Array Value) : (callFunc 45 vs).run Tryz.prog w = .ok (.enter 45 vs) w := by kernel_rfl
theorem Tryz.in46 (w : World) (vs : Array Value) : (callFunc 46 vs).run Tryz.prog w = .ok (.enter 46 vs) w := by kernel_rfl
theorem Tryz.in48 (w : World) (vs : Array Value) : (callFunc 48 vs).run Tryz.prog w = .ok (.enter 48 vs) w := by kernel_rfl
theorem Tryz.in53 (w : World) (vs : Array Value) : (callFunc 53 vs).run Tryz.prog w = .ok (.enter 53 vs) w := by kernel_rfl
theorem Tryz.in56 (w : World) (vs : Array Value) : (callFunc 56 vs).run Tryz.prog w = .ok (.enter 56 vs) w := by kernel_rfl
theorem iend_good (p : Nat) (s : ByteArray) (a : Nat) (w : World) (hI : InAt w p s a none) (hb : s.size ≤ 140737488355328) :
    Calls Tryz.prog 56 #[ptr p] w fun e w' => (a = s.size ∧ e = .returned .nilIface ∧ Below w.heap.size w w') ∨ (a < s.size ∧ ∃ q, w.heap.size ≤ q ∧ e = .returned (err q) ∧ BadAt w' q 23 a ∧ Grown w w' fun k => k = p) := by
  have c2 : w.cell? ⟨p, 2, none⟩ = some (.pointer none) := by rw [hI.blk.cell]; rfl
  have HI := Keep.mk hI
  have Hb := Keep.mk hb
  clear hI hb
  go_enter Tryz.func56, Tryz.ntmps56
  refine wp_seq_k fun K1 hK1 => ?_
  refine wp_region_list (WL.out ?_)
  refine WL.val (by kernel_rfl) (.nilIface) (by go_simp) ?_
  simp only [Act.put, List.setIfInBounds_toArray, List.set_cons_zero, List.set_cons_succ]
  refine WL.nil ?_
  refine hK1 _ _ ?_
  refine wp_seq_k fun K2 hK2 => ?_
  refine wp_seq_k fun K3 hK3 => ?_
  refine wp_region_list (WL.out ?_)
  refine WL.val (by kernel_rfl) (.pointer (some ⟨p, 0, none⟩)) (by go_simp) ?_
  simp only [Act.put, List.setIfInBounds_toArray, List.set_cons_zero, List.set_cons_succ]
  refine WL.val (by kernel_rfl) (.pointer (some ⟨p, 0, none⟩)) (by go_simp) ?_
  simp only [Act.put, List.setIfInBounds_toArray, List.set_cons_zero, List.set_cons_succ]
  refine WL.val (by kernel_rfl) (.pointer (some ⟨p, 2, none⟩)) (by go_simp) ?_
  simp only [Act.put, List.setIfInBounds_toArray, List.set_cons_zero, List.set_cons_succ]
  refine WL.val (by kernel_rfl) (.pointer none) (by go_simp) ?_
  simp only [Act.put, List.setIfInBounds_toArray, List.set_cons_zero, List.set_cons_succ]
  refine WL.val (by kernel_rfl) (.bool false) (by go_simp) ?_
  simp only [Act.put, List.setIfInBounds_toArray, List.set_cons_zero, List.set_cons_succ]
  refine WL.nil ?_
  refine hK3 _ _ ?_
  refine wp_cond_false rfl ?_
  refine wp_skip ?_
  refine hK2 _ _ ?_
  refine wp_seq_k fun K4 hK4 => ?_
  refine wp_seq_k fun K5 hK5 => ?_
  refine wp_region_list (WL.out ?_)
  refine WL.val (by kernel_rfl) (.pointer (some ⟨p, 0, none⟩)) (by go_simp) ?_
  simp only [Act.put, List.setIfInBounds_toArray, List.set_cons_zero, List.set_cons_succ]
  refine WL.callF (by kernel_rfl) 78 _ _ rfl Tryz.in78 #[ptr p] (by simp [Act.eval]) ?_
  refine (ileft_any p s a none w HI.out Hb.out).mono ?_
  rintro e w1 ⟨rfl, q1, rfl⟩
  refine ⟨_, rfl, ?_⟩
  simp only [Act.put, List.setIfInBounds_toArray, List.set_cons_zero, List.set_cons_succ]
  by_cases h3_2 : a < s.size
  · skip
    refine WL.val (by kernel_rfl) (.bool true) (by go_simp) ?_
    simp only [Act.put, List.setIfInBounds_toArray, List.set_cons_zero, List.set_cons_succ]
    refine WL.nil ?_
    refine hK5 _ _ ?_
    refine wp_cond_true rfl ?_
    refine wp_seq_k fun K6 hK6 => ?_
    have HI1 : Keep (InAt (w.drewN q1) p s a none) := ⟨HI.out.blk, HI.out.le⟩
    refine wp_region_list (WL.out ?_)
    refine WL.val (by kernel_rfl) (.pointer (some ⟨p, 0, none⟩)) (by go_simp) ?_
    simp only [Act.put, List.setIfInBounds_toArray, List.set_cons_zero, List.set_cons_succ]
    refine WL.callF (by kernel_rfl) 72 _ _ rfl Tryz.in72 #[ptr p, .int .i64 23] (by simp [Act.eval]) ?_
    refine (ifail_any p s a 23 (w.drewN q1) HI1.out).mono ?_
    rintro e w2 ⟨rfl, h1, h2, h3⟩
    refine ⟨_, rfl, ?_⟩
    unfold err
    have HX := Keep.mk h2
    have HY := Keep.mk h3
    clear h1 h2 h3
    simp only [Act.put, List.setIfInBounds_toArray, List.set_cons_zero, List.set_cons_succ]
    refine WL.val (by kernel_rfl) (.iface 64 (ptr (w.drewN q1).heap.size)) (by go_simp) ?_
    simp only [Act.put, List.setIfInBounds_toArray, List.set_cons_zero, List.set_cons_succ]
    refine WL.nil ?_
    refine hK6 _ _ ?_
    refine wp_ret ?_
    go_ret
    exact .inr ⟨by omega, _, Nat.le_refl _, rfl, HX.out, (Grown.below (below_drewN w q1)).trans HY.out⟩
  · skip
    refine WL.val (by kernel_rfl) (.bool false) (by go_simp) ?_
    simp only [Act.put, List.setIfInBounds_toArray, List.set_cons_zero, List.set_cons_succ]
    refine WL.nil ?_
    refine hK5 _ _ ?_
    refine wp_cond_false rfl ?_
    refine wp_skip ?_
    refine hK4 _ _ ?_
    refine wp_seq_k fun K7 hK7 => ?_
    refine wp_region_list (WL.out ?_)
    refine WL.val (by kernel_rfl) (.nilIface) (by go_simp) ?_
    simp only [Act.put, List.setIfInBounds_toArray, List.set_cons_zero, List.set_cons_succ]
    refine WL.nil ?_
    refine hK7 _ _ ?_
    refine wp_ret ?_
    go_ret
    exact .inl ⟨by have := HI.out.le; omega, rfl, below_drewN w q1⟩
theorem form_at {L : List Int} {a : Nat} (h : (formR L a).1 = 0) : (formR L a).2 = a + 1 := by
  unfold formR at h ⊢
  by_cases h0 : nextW (L.drop a) 1 = 0
  · rw [if_neg (by simp [h0])] at h ⊢
    by_cases h1 : (L.drop a).getD 0 0 = 1
    · rw [if_pos h1]
    · rw [if_neg h1] at h; cases h
  · rw [if_pos h0] at h; exact absurd h h0
theorem au_at {L : List Int} {a : Nat} (h : (auR L a).1 = 0) : (auR L a).2 = a + 1 := by
  unfold auR at h ⊢
  by_cases h0 : nextW (L.drop a) 1 = 0
  · rw [if_neg (by simp [h0])] at h ⊢
    by_cases h1 : 1 ≤ (L.drop a).getD 0 0 ∧ (L.drop a).getD 0 0 ≤ 8
    · rw [if_pos h1]
    · rw [if_neg h1] at h; cases h
  · rw [if_pos h0] at h; exact absurd h h0
set_option maxRecDepth 8000 in
set_option maxHeartbeats 4000000 in
theorem readBlock_any (p : Nat) (s : ByteArray) (w : World) (hI : InAt w p s 0 none) (hb : s.size ≤ 140737488355328) :
    Calls Tryz.prog 30 #[ptr p] w (BlkPost p (decR (lst s)) w) := by
  have HI := Keep.mk hI
  have Hb := Keep.mk hb
  have hc64 : ∀ (a : Nat) (w : World), InAt w p s a none → Calls Tryz.prog 50 #[ptr p, .int .u64 64] w (RdPost p s (fstM ((lst s).drop a) 64).2.2 (a + (fstM ((lst s).drop a) 64).2.1.toNat) (.int .u64 (fstM ((lst s).drop a) 64).1) w) := fun a w h => inum_good p s a 64 w h Hb.out
  obtain ⟨R, hR⟩ : ∃ R, R = decR (lst s) := ⟨_, rfl⟩
  have D1 : Keep ((formR (lst s) 0).1 ≠ 0 → R = ((formR (lst s) 0).1, (formR (lst s) 0).2, zeroN)) := ⟨fun x0 => by rw [hR]; unfold decR; rw [if_pos x0]⟩
  have D2 : Keep ((formR (lst s) 0).1 = 0 → (auR (lst s) 1).1 ≠ 0 → R = ((auR (lst s) 1).1, (auR (lst s) 1).2, zeroN)) := ⟨fun x0 x1 => by rw [hR]; unfold decR; rw [if_neg (by simp [x0]), if_pos x1]⟩
  have D3 : Keep ((formR (lst s) 0).1 = 0 → (auR (lst s) 1).1 = 0 → (ckR (lst s) 2).1 ≠ 0 → R = ((ckR (lst s) 2).1, (ckR (lst s) 2).2, zeroN)) := ⟨fun x0 x1 x2 => by rw [hR]; unfold decR; rw [if_neg (by simp [x0]), if_neg (by simp [x1]), if_pos x2]⟩
  have D4 : Keep ((formR (lst s) 0).1 = 0 → (auR (lst s) 1).1 = 0 → (ckR (lst s) 2).1 = 0 → ¬ (fstM ((lst s).drop (ckR (lst s) 2).2) 64).2.2 = 0 → R = ((fstM ((lst s).drop (ckR (lst s) 2).2) 64).2.2, (ckR (lst s) 2).2 + (fstM ((lst s).drop (ckR (lst s) 2).2) 64).2.1.toNat, zeroN)) := ⟨fun x0 x1 x2 x3 => by rw [hR]; unfold decR; rw [if_neg (by simp [x0]), if_neg (by simp [x1]), if_neg (by simp [x2]), if_pos x3]⟩
  have D5 : Keep ((formR (lst s) 0).1 = 0 → (auR (lst s) 1).1 = 0 → (ckR (lst s) 2).1 = 0 → (fstM ((lst s).drop (ckR (lst s) 2).2) 64).2.2 = 0 → ((((fstM ((lst s).drop 2) 4096).1 == 1) == ((fstM ((lst s).drop (ckR (lst s) 2).2) 64).1 == 0))) = false → R = (51, 2, zeroN)) := ⟨fun x0 x1 x2 x3 x4 => by rw [hR]; unfold decR; rw [if_neg (by simp [x0]), if_neg (by simp [x1]), if_neg (by simp [x2]), if_neg (by simp [x3]), if_pos x4]⟩
  have D6 : Keep ((formR (lst s) 0).1 = 0 → (auR (lst s) 1).1 = 0 → (ckR (lst s) 2).1 = 0 → (fstM ((lst s).drop (ckR (lst s) 2).2) 64).2.2 = 0 → ((((fstM ((lst s).drop 2) 4096).1 == 1) == ((fstM ((lst s).drop (ckR (lst s) 2).2) 64).1 == 0))) = true → (getH (lst s) (fstM ((lst s).drop (ckR (lst s) 2).2) 64).1.toNat [] ((ckR (lst s) 2).2 + (fstM ((lst s).drop (ckR (lst s) 2).2) 64).2.1.toNat)).1 ≠ 0 → R = ((getH (lst s) (fstM ((lst s).drop (ckR (lst s) 2).2) 64).1.toNat [] ((ckR (lst s) 2).2 + (fstM ((lst s).drop (ckR (lst s) 2).2) 64).2.1.toNat)).1, (getH (lst s) (fstM ((lst s).drop (ckR (lst s) 2).2) 64).1.toNat [] ((ckR (lst s) 2).2 + (fstM ((lst s).drop (ckR (lst s) 2).2) 64).2.1.toNat)).2.1, zeroN)) := ⟨fun x0 x1 x2 x3 x4 x5 => by rw [hR]; unfold decR; rw [if_neg (by simp [x0]), if_neg (by simp [x1]), if_neg (by simp [x2]), if_neg (by simp [x3]), if_neg (by rw [x4]; decide), if_pos x5]⟩
  have D7 : Keep ((formR (lst s) 0).1 = 0 → (auR (lst s) 1).1 = 0 → (ckR (lst s) 2).1 = 0 → (fstM ((lst s).drop (ckR (lst s) 2).2) 64).2.2 = 0 → ((((fstM ((lst s).drop 2) 4096).1 == 1) == ((fstM ((lst s).drop (ckR (lst s) 2).2) 64).1 == 0))) = true → (getH (lst s) (fstM ((lst s).drop (ckR (lst s) 2).2) 64).1.toNat [] ((ckR (lst s) 2).2 + (fstM ((lst s).drop (ckR (lst s) 2).2) 64).2.1.toNat)).1 = 0 → ¬ (getL (lst s) (getH (lst s) (fstM ((lst s).drop (ckR (lst s) 2).2) 64).1.toNat [] ((ckR (lst s) 2).2 + (fstM ((lst s).drop (ckR (lst s) 2).2) 64).2.1.toNat)).2.1).1 = 0 → R = ((getL (lst s) (getH (lst s) (fstM ((lst s).drop (ckR (lst s) 2).2) 64).1.toNat [] ((ckR (lst s) 2).2 + (fstM ((lst s).drop (ckR (lst s) 2).2) 64).2.1.toNat)).2.1).1, (getL (lst s) (getH (lst s) (fstM ((lst s).drop (ckR (lst s) 2).2) 64).1.toNat [] ((ckR (lst s) 2).2 + (fstM ((lst s).drop (ckR (lst s) 2).2) 64).2.1.toNat)).2.1).2.1, zeroN)) := ⟨fun x0 x1 x2 x3 x4 x5 x6 => by rw [hR]; unfold decR; rw [if_neg (by simp [x0]), if_neg (by simp [x1]), if_neg (by simp [x2]), if_neg (by simp [x3]), if_neg (by rw [x4]; decide), if_neg (by simp [x5]), if_pos x6]⟩
  have D8 : Keep ((formR (lst s) 0).1 = 0 → (auR (lst s) 1).1 = 0 → (ckR (lst s) 2).1 = 0 → (fstM ((lst s).drop (ckR (lst s) 2).2) 64).2.2 = 0 → ((((fstM ((lst s).drop 2) 4096).1 == 1) == ((fstM ((lst s).drop (ckR (lst s) 2).2) 64).1 == 0))) = true → (getH (lst s) (fstM ((lst s).drop (ckR (lst s) 2).2) 64).1.toNat [] ((ckR (lst s) 2).2 + (fstM ((lst s).drop (ckR (lst s) 2).2) 64).2.1.toNat)).1 = 0 → (getL (lst s) (getH (lst s) (fstM ((lst s).drop (ckR (lst s) 2).2) 64).1.toNat [] ((ckR (lst s) 2).2 + (fstM ((lst s).drop (ckR (lst s) 2).2) 64).2.1.toNat)).2.1).1 = 0 → (getL (lst s) (getH (lst s) (fstM ((lst s).drop (ckR (lst s) 2).2) 64).1.toNat [] ((ckR (lst s) 2).2 + (fstM ((lst s).drop (ckR (lst s) 2).2) 64).2.1.toNat)).2.1).2.1 < (lst s).length → R = (23, (getL (lst s) (getH (lst s) (fstM ((lst s).drop (ckR (lst s) 2).2) 64).1.toNat [] ((ckR (lst s) 2).2 + (fstM ((lst s).drop (ckR (lst s) 2).2) 64).2.1.toNat)).2.1).2.1, zeroN)) := ⟨fun x0 x1 x2 x3 x4 x5 x6 x7 => by rw [hR]; unfold decR; rw [if_neg (by simp [x0]), if_neg (by simp [x1]), if_neg (by simp [x2]), if_neg (by simp [x3]), if_neg (by rw [x4]; decide), if_neg (by simp [x5]), if_neg (by simp [x6]), if_pos x7]⟩
  have D9 : Keep ((formR (lst s) 0).1 = 0 → (auR (lst s) 1).1 = 0 → (ckR (lst s) 2).1 = 0 → (fstM ((lst s).drop (ckR (lst s) 2).2) 64).2.2 = 0 → ((((fstM ((lst s).drop 2) 4096).1 == 1) == ((fstM ((lst s).drop (ckR (lst s) 2).2) 64).1 == 0))) = true → (getH (lst s) (fstM ((lst s).drop (ckR (lst s) 2).2) 64).1.toNat [] ((ckR (lst s) 2).2 + (fstM ((lst s).drop (ckR (lst s) 2).2) 64).2.1.toNat)).1 = 0 → (getL (lst s) (getH (lst s) (fstM ((lst s).drop (ckR (lst s) 2).2) 64).1.toNat [] ((ckR (lst s) 2).2 + (fstM ((lst s).drop (ckR (lst s) 2).2) 64).2.1.toNat)).2.1).1 = 0 → ¬ (getL (lst s) (getH (lst s) (fstM ((lst s).drop (ckR (lst s) 2).2) 64).1.toNat [] ((ckR (lst s) 2).2 + (fstM ((lst s).drop (ckR (lst s) 2).2) 64).2.1.toNat)).2.1).2.1 < (lst s).length → R = (0, (getL (lst s) (getH (lst s) (fstM ((lst s).drop (ckR (lst s) 2).2) 64).1.toNat [] ((ckR (lst s) 2).2 + (fstM ((lst s).drop (ckR (lst s) 2).2) 64).2.1.toNat)).2.1).2.1, ⟨((lst s).drop 1).getD 0 0, (fstM ((lst s).drop 2) 4096).1, (getH (lst s) (fstM ((lst s).drop (ckR (lst s) 2).2) 64).1.toNat [] ((ckR (lst s) 2).2 + (fstM ((lst s).drop (ckR (lst s) 2).2) 64).2.1.toNat)).2.2, (getL (lst s) (getH (lst s) (fstM ((lst s).drop (ckR (lst s) 2).2) 64).1.toNat [] ((ckR (lst s) 2).2 + (fstM ((lst s).drop (ckR (lst s) 2).2) 64).2.1.toNat)).2.1).2.2⟩)) := ⟨fun x0 x1 x2 x3 x4 x5 x6 x7 => by rw [hR]; unfold decR; rw [if_neg (by simp [x0]), if_neg (by simp [x1]), if_neg (by simp [x2]), if_neg (by simp [x3]), if_neg (by rw [x4]; decide), if_neg (by simp [x5]), if_neg (by simp [x6]), if_neg x7]⟩
  rw [← hR]
  clear hI hb hR
  go_enter Tryz.func30, Tryz.ntmps30
  refine wp_seq_k fun K1 hK1 => ?_
  refine wp_region_list (WL.out ?_)
  refine WL.new (by kernel_rfl) 54 rfl _ Tryz.new54N ?_
  have HZ0 := Keep.mk (Blk.new w 54 (ndA 0 0 noS noS))
  have HG0 : Keep (Grown w (w.alloc (.cells (ndA 0 0 noS noS) 54)) fun k => k = p) := ⟨Grown.below (below_new w _)⟩
  have HI0 : Keep (InAt (w.alloc (.cells (ndA 0 0 noS noS) 54)) p s 0 none) := ⟨HI.out.blk.below (below_new w _) HI.out.blk.lt, HI.out.le⟩
  generalize w.alloc (.cells (ndA 0 0 noS noS) 54) = w0 at *
  simp only [Act.put, List.setIfInBounds_toArray, List.set_cons_zero, List.set_cons_succ]
  refine WL.nil ?_
  refine hK1 _ _ ?_
  refine wp_seq_k fun K2 hK2 => ?_
  refine wp_region_list (WL.out ?_)
  refine WL.val (by kernel_rfl) (.pointer (some ⟨p, 0, none⟩)) (by go_simp) ?_
  simp only [Act.put, List.setIfInBounds_toArray, List.set_cons_zero, List.set_cons_succ]
  refine WL.callP (by kernel_rfl) 45 _ _ rfl Tryz.in45 #[ptr p] (by simp [Act.eval]) ?_
  refine (readForm_any p s 0 w0 HI0.out Hb.out).mono ?_
  rintro e w1 (⟨e1, rfl, h2, h3⟩ | hgv)
  rotate_left
  · have hne := hgv.1
    obtain ⟨q, hq, rfl, hbg⟩ := hgv.2
    refine .inr ⟨_, rfl, ?_⟩
    try simp only [Exit.inBlock, Exit.then]
    refine ⟨rfl, ?_⟩
    exact .inr (Gives.of HG0.out (by rw [D1.out hne]; exact ⟨hne, q, hq, rfl, hbg⟩))
  refine .inl ⟨_, rfl, ?_⟩
  have HE1 := Keep.mk e1
  rw [form_at e1] at h2
  have HI1 : Keep (InAt w1 p s 1 none) := ⟨h2⟩
  have HZ1 := Keep.mk (h3.blk HZ0.out (blk_ne HZ0.out HI0.out.blk (by decide)))
  have HG1 := Keep.mk (HG0.out.trans h3)
  clear h2 h3 e1
  simp only [Act.put, List.setIfInBounds_toArray, List.set_cons_zero, List.set_cons_succ]
  refine WL.nil ?_
  refine hK2 _ _ ?_
  refine wp_seq_k fun K3 hK3 => ?_
  refine wp_region_list (WL.out ?_)
  refine WL.val (by kernel_rfl) (.pointer (some ⟨p, 0, none⟩)) (by go_simp) ?_
  simp only [Act.put, List.setIfInBounds_toArray, List.set_cons_zero, List.set_cons_succ]
  refine WL.callP (by kernel_rfl) 46 _ _ rfl Tryz.in46 #[ptr p] (by simp [Act.eval]) ?_
  refine (readAuthor_any p s 1 w1 HI1.out Hb.out).mono ?_
  rintro e w2 (⟨e1, rfl, h2, h3⟩ | hgv)
  rotate_left
  · have hne := hgv.1
    obtain ⟨q, hq, rfl, hbg⟩ := hgv.2
    refine .inr ⟨_, rfl, ?_⟩
    try simp only [Exit.inBlock, Exit.then]
    refine ⟨rfl, ?_⟩
    exact .inr (Gives.of HG1.out (by rw [D2.out HE1.out hne]; exact ⟨hne, q, hq, rfl, hbg⟩))
  refine .inl ⟨_, rfl, ?_⟩
  have HE2 := Keep.mk e1
  rw [au_at e1] at h2
  have HI2 : Keep (InAt w2 p s 2 none) := ⟨h2⟩
  have HZ2 := Keep.mk (h3.blk HZ1.out (blk_ne HZ1.out HI1.out.blk (by decide)))
  have HG2 := Keep.mk (HG1.out.trans h3)
  clear h2 h3 e1
  obtain ⟨au, hau⟩ : ∃ au, au = ((lst s).drop 1).getD 0 0 := ⟨_, rfl⟩
  rw [← hau]
  have HAu := Keep.mk hau
  clear hau
  simp only [Act.put, List.setIfInBounds_toArray, List.set_cons_zero, List.set_cons_succ]
  refine WL.bld (by kernel_rfl) 54 _ rfl [(0, .int .i64 au)] (by simp [Act.eval]) _ (nd_built1 au) ?_
  simp only [Act.put, List.setIfInBounds_toArray, List.set_cons_zero, List.set_cons_succ]
  refine WL.new (by kernel_rfl) 54 rfl _ Tryz.new54N ?_
  simp only [Act.put, List.setIfInBounds_toArray, List.set_cons_zero, List.set_cons_succ]
  refine WL.storeR (by kernel_rfl) 54 (.tmp 3) (.tmp 11) rfl w2.heap.size (ndA au 0 noS noS) rfl rfl 54 (ndA 0 0 noS noS) (Blk.new w2 54 _) (Tryz.size54B _ _ _ _) rfl (nd_one au 0 none 0 0 none 0 0) ?_
  have HX3 := Keep.mk ((Blk.new w2 54 (ndA 0 0 noS noS)).setRow (ndA au 0 noS noS))
  have B3 : Keep (Below w2.heap.size w2 ((w2.alloc (.cells (ndA 0 0 noS noS) 54)).setRow w2.heap.size (ndA au 0 noS noS))) := ⟨below_setRow (below_new w2 _) (Nat.le_refl _) _⟩
  generalize (w2.alloc (.cells (ndA 0 0 noS noS) 54)).setRow w2.heap.size (ndA au 0 noS noS) = w3 at *
  have HZ3 := Keep.mk (HZ2.out.below B3.out HZ2.out.lt)
  have HI3 : Keep (InAt w3 p s 2 none) := ⟨HI2.out.blk.below B3.out HI2.out.blk.lt, HI2.out.le⟩
  have HG3 : Keep (Grown w w3 fun k => k = p) := ⟨HG2.out.trans (Grown.below B3.out)⟩
  have Hgn : Keep (w.heap.size < w2.heap.size) := ⟨HZ2.out.lt⟩
  clear B3 HZ2 HI2 HG2
  generalize w2.heap.size = g at *
  simp only [Act.put]
  refine WL.nil ?_
  refine hK3 _ _ ?_
  refine wp_seq_k fun K4 hK4 => ?_
  refine wp_region_list (WL.out ?_)
  refine WL.val (by kernel_rfl) (.pointer (some ⟨p, 0, none⟩)) (by go_simp) ?_
  simp only [Act.put, List.setIfInBounds_toArray, List.set_cons_zero, List.set_cons_succ]
  refine WL.callF (by kernel_rfl) 47 _ _ rfl Tryz.in47 #[ptr p] (by simp [Act.eval]) ?_
  refine (iat_any p s 2 none w3 HI3.out).mono ?_
  rintro e wz ⟨rfl, hw0⟩
  rw [hw0]
  clear hw0 wz
  refine ⟨_, rfl, ?_⟩
  simp only [Act.put, List.setIfInBounds_toArray, List.set_cons_zero, List.set_cons_succ]
  refine WL.val (by kernel_rfl) (.int .i64 ((2 : Nat) : Int)) (by go_simp) ?_
  simp only [Act.put, List.setIfInBounds_toArray, List.set_cons_zero, List.set_cons_succ]
  refine WL.nil ?_
  refine hK4 _ _ ?_
  refine wp_seq_k fun K5 hK5 => ?_
  refine wp_region_list (WL.out ?_)
  refine WL.val (by kernel_rfl) (.pointer (some ⟨p, 0, none⟩)) (by go_simp) ?_
  simp only [Act.put, List.setIfInBounds_toArray, List.set_cons_zero, List.set_cons_succ]
  refine WL.callP (by kernel_rfl) 48 _ _ rfl Tryz.in48 #[ptr p] (by simp [Act.eval]) ?_
  refine (readClock_any p s 2 w3 HI3.out Hb.out).mono ?_
  rintro e w4 (⟨e1, rfl, h2, h3⟩ | hgv)
  rotate_left
  · have hne := hgv.1
    obtain ⟨q, hq, rfl, hbg⟩ := hgv.2
    refine .inr ⟨_, rfl, ?_⟩
    try simp only [Exit.inBlock, Exit.then]
    refine ⟨rfl, ?_⟩
    exact .inr (Gives.of HG3.out (by rw [D3.out HE1.out HE2.out hne]; exact ⟨hne, q, hq, rfl, hbg⟩))
  refine .inl ⟨_, rfl, ?_⟩
  have HE3 := Keep.mk e1
  obtain ⟨a1, ha1⟩ : ∃ a1, a1 = (ckR (lst s) 2).2 := ⟨_, rfl⟩
  rw [← ha1] at h2
  have Ha1 := Keep.mk ha1
  clear ha1
  have HI4 : Keep (InAt w4 p s a1 none) := ⟨h2⟩
  have HZ4 := Keep.mk (h3.blk HZ3.out (blk_ne HZ3.out HI3.out.blk (by decide)))
  have HG4 := Keep.mk (HG3.out.trans h3)
  have HX4 := Keep.mk (h3.blk HX3.out (blk_ne HX3.out HI3.out.blk (by decide)))
  clear h2 h3 e1
  obtain ⟨ck, hck⟩ : ∃ ck, ck = (fstM ((lst s).drop 2) 4096).1 := ⟨_, rfl⟩
  rw [← hck]
  have HCk := Keep.mk hck
  clear hck
  have c1 := HX4.out.c 1 (nd_1 _ _ _ _)
  have f1 := HX4.out.frozen 1
  simp only [Act.put, List.setIfInBounds_toArray, List.set_cons_zero, List.set_cons_succ]
  refine WL.val (by kernel_rfl) (.pointer (some ⟨g, 1, none⟩)) (by go_simp) ?_
  simp only [Act.put, List.setIfInBounds_toArray, List.set_cons_zero, List.set_cons_succ]
  refine WL.cell (by kernel_rfl) (w4.setCell ⟨g, 1, none⟩ (.int .i64 ck)) (by go_simp) ?_
  have HX5 := Keep.mk (HX4.out.set 1 (.int .i64 ck))
  rw [nd_set1] at HX5
  have HI5 : Keep (InAt (w4.setCell ⟨g, 1, none⟩ (.int .i64 ck)) p s a1 none) := ⟨HI4.out.blk.set_ne (blk_ne HI4.out.blk HX4.out (by decide)) _, HI4.out.le⟩
  have HZ5 := Keep.mk (HZ4.out.set_ne (b' := g) (j := 1) (by have := Hgn.out; omega) (.int .i64 ck))
  have Gs : Grown w4 (w4.setCell ⟨g, 1, none⟩ (.int .i64 ck)) fun k => k = g := Grown.setCell w4 g 1 _ fun _ => rfl
  have HG5 : Keep (Grown w (w4.setCell ⟨g, 1, none⟩ (.int .i64 ck)) fun k => k = p) := ⟨HG4.out.next Gs (fun k hk e => by have := Hgn.out; omega)⟩
  generalize w4.setCell ⟨g, 1, none⟩ (.int .i64 ck) = w5 at *
  clear c1 f1 Gs
  simp only [Act.put]
  refine WL.nil ?_
  refine hK5 _ _ ?_
  refine wp_seq_k fun K6 hK6 => ?_
  refine wp_region_list (WL.out ?_)
  refine WL.val (by kernel_rfl) (.pointer (some ⟨p, 0, none⟩)) (by go_simp) ?_
  simp only [Act.put, List.setIfInBounds_toArray, List.set_cons_zero, List.set_cons_succ]
  refine WL.callF (by kernel_rfl) 50 _ _ rfl Tryz.in50 #[ptr p, .int .u64 64] (by simp [Act.eval]) ?_
  refine (hc64 a1 w5 HI5.out).mono ?_
  rintro e w6 ⟨bad, er, rfl, h2, h3, h4⟩
  refine ⟨_, rfl, ?_⟩
  have HZ6 := Keep.mk (h3.blk HZ5.out (blk_ne HZ5.out HI5.out.blk (by decide)))
  have HX6 := Keep.mk (h3.blk HX5.out (blk_ne HX5.out HI5.out.blk (by decide)))
  have HG6 := Keep.mk (HG5.out.trans h3)
  have Hq := Keep.mk h3
  have H3 := Keep.mk h4
  have H1 := Keep.mk h2
  clear h2 h3 h4
  have D4' := D4
  have D5' := D5
  have D6' := D6
  have D7' := D7
  have D8' := D8
  have D9' := D9
  rw [← Ha1.out] at D4' D5' D6' D7' D8' D9'
  have hrg := fst_rng ((lst s).drop a1) ((lst_byts s).drop a1) 64 (by decide)
  generalize fstM ((lst s).drop a1) 64 = M at *
  obtain ⟨cn, nn, W⟩ := M
  simp only at D4' D5' D6' D7' D8' D9' hrg H3 H1 ⊢
  obtain ⟨a2, ha2⟩ : ∃ a2, a2 = a1 + nn.toNat := ⟨_, rfl⟩
  rw [← ha2] at D4' D6' D7' D8' D9' H3 H1
  clear ha2
  simp only [Act.put, List.setIfInBounds_toArray, List.set_cons_zero, List.set_cons_succ]
  by_cases hE : W = 0
  · rcases H3.out with ⟨e1, rfl, rfl⟩ | ⟨e1, _⟩
    rotate_left
    · exact absurd hE e1
    obtain ⟨n, hn⟩ : ∃ n : Nat, cn = (n : Int) := ⟨cn.toNat, by omega⟩
    have Hn : Keep (n ≤ 64) := ⟨by omega⟩
    subst hn
    rw [Int.toNat_natCast] at D6' D7' D8' D9'
    have hwn : IntKind.i64.wrap (n : Int) = (n : Int) := by rw [IntKind.wrap_i64]; omega
    clear hrg
    have HI6 : Keep (InAt w6 p s a2 none) := ⟨H1.out⟩
    have c1 := HX6.out.c 1 (nd_1 _ _ _ _)
    refine WL.val (by kernel_rfl) (.int .u64 (n : Int)) (by go_simp) ?_
    simp only [Act.put, List.setIfInBounds_toArray, List.set_cons_zero, List.set_cons_succ]
    refine WL.val (by kernel_rfl) (.nilIface) (by go_simp) ?_
    simp only [Act.put, List.setIfInBounds_toArray, List.set_cons_zero, List.set_cons_succ]
    refine WL.callF (by kernel_rfl) 49 _ _ rfl Tryz.in49 #[.int .u64 (n : Int), .nilIface] (by simp [Act.eval]) ?_
    refine (must47_ok (.int .u64 (n : Int)) w6).mono ?_
    rintro e wz ⟨rfl, hw0⟩
    rw [hw0]
    clear hw0 wz
    refine ⟨_, rfl, ?_⟩
    simp only [Act.put, List.setIfInBounds_toArray, List.set_cons_zero, List.set_cons_succ]
    refine WL.val (by kernel_rfl) (.int .i64 (n : Int)) (by go_simp) ?_
    simp only [Act.put, List.setIfInBounds_toArray, List.set_cons_zero, List.set_cons_succ]
    refine WL.val (by kernel_rfl) (.int .i64 (n : Int)) (by go_simp) ?_
    simp only [Act.put, List.setIfInBounds_toArray, List.set_cons_zero, List.set_cons_succ]
    refine WL.nil ?_
    refine hK6 _ _ ?_
    refine wp_seq_k fun K7 hK7 => ?_
    refine wp_seq_k fun K8 hK8 => ?_
    rcases Bool.eq_false_or_eq_true ((ck == 1) == ((n : Int) == 0)) with hF | hF
    · have hcf := clockFits_is ck (n : Int) w6 _ hF
      refine wp_region_list (WL.out ?_)
      refine WL.val (by kernel_rfl) (.pointer (some ⟨g, 1, none⟩)) (by go_simp) ?_
      simp only [Act.put, List.setIfInBounds_toArray, List.set_cons_zero, List.set_cons_succ]
      refine WL.val (by kernel_rfl) (.int .i64 ck) (by go_simp) ?_
      simp only [Act.put, List.setIfInBounds_toArray, List.set_cons_zero, List.set_cons_succ]
      refine WL.val (by kernel_rfl) (.int .i64 (n : Int)) (by go_simp) ?_
      simp only [Act.put, List.setIfInBounds_toArray, List.set_cons_zero, List.set_cons_succ]
      refine WL.callF (by kernel_rfl) 51 _ _ rfl Tryz.in51 #[.int .i64 ck, .int .i64 (n : Int)] (by simp [Act.eval]) ?_
      refine (hcf).mono ?_
      rintro e wz ⟨rfl, hw0⟩
      rw [hw0]
      clear hw0 wz
      refine ⟨_, rfl, ?_⟩
      simp only [Act.put, List.setIfInBounds_toArray, List.set_cons_zero, List.set_cons_succ]
      refine WL.val (by kernel_rfl) (.bool false) (by go_simp) ?_
      simp only [Act.put, List.setIfInBounds_toArray, List.set_cons_zero, List.set_cons_succ]
      refine WL.nil ?_
      refine hK8 _ _ ?_
      refine wp_cond_false rfl ?_
      refine wp_skip ?_
      refine hK7 _ _ ?_
      refine wp_seq_k fun K9 hK9 => ?_
      refine wp_region_list (WL.out ?_)
      refine WL.val (by kernel_rfl) (.pointer (some ⟨p, 0, none⟩)) (by go_simp) ?_
      simp only [Act.put, List.setIfInBounds_toArray, List.set_cons_zero, List.set_cons_succ]
      refine WL.val (by kernel_rfl) (.int .i64 (n : Int)) (by go_simp) ?_
      simp only [Act.put, List.setIfInBounds_toArray, List.set_cons_zero, List.set_cons_succ]
      refine WL.callP (by kernel_rfl) 53 _ _ rfl Tryz.in53 #[ptr p, .int .i64 (n : Int)] (by simp [Act.eval]) ?_
      refine (readParents_any p s a2 n w6 HI6.out Hb.out Hn.out).mono ?_
      generalize getH (lst s) n [] a2 = H at *
      rintro e w7 (⟨e1, vp, rfl, h4, h5, h2, h3⟩ | hgv)
      rotate_left
      · have hne := hgv.1
        obtain ⟨q, hq, rfl, hbg⟩ := hgv.2
        refine .inr ⟨_, rfl, ?_⟩
        try simp only [Exit.inBlock, Exit.then]
        refine ⟨rfl, ?_⟩
        exact .inr (Gives.of HG6.out (by rw [D6'.out HE1.out HE2.out HE3.out hE (by rw [← HCk.out]; exact hF) hne]; exact ⟨hne, q, hq, rfl, hbg⟩))
      refine .inl ⟨_, rfl, ?_⟩
      have HE4 := Keep.mk e1
      have HI7 : Keep (InAt w7 p s H.2.1 none) := ⟨h2⟩
      have HZ7 := Keep.mk (h3.blk HZ6.out (blk_ne HZ6.out HI6.out.blk (by decide)))
      have HG7 := Keep.mk (HG6.out.trans h3)
      have HX7 := Keep.mk (h3.blk HX6.out (blk_ne HX6.out HI6.out.blk (by decide)))
      have HO7 := Keep.mk h4
      have HOn7 : Keep (∀ k, vp.ownBlock = some k → w.heap.size ≤ k) := ⟨fun k hk => Nat.le_trans HG6.out.size (h5 k hk)⟩
      clear h2 h3 h4 h5 e1 c1
      obtain ⟨pa, pc, rfl⟩ := HO7.out.sl
      have c2 := HX7.out.c 2 (nd_2 _ _ _ _)
      have f2 := HX7.out.frozen 2
      simp only [Act.put, List.setIfInBounds_toArray, List.set_cons_zero, List.set_cons_succ]
      refine WL.val (by kernel_rfl) (.pointer (some ⟨g, 2, none⟩)) (by go_simp) ?_
      simp only [Act.put, List.setIfInBounds_toArray, List.set_cons_zero, List.set_cons_succ]
      refine WL.cell (by kernel_rfl) (w7.setCell ⟨g, 2, none⟩ (.slice pa H.2.2.length pc)) (by go_simp) ?_
      have HX8 := Keep.mk (HX7.out.set 2 (.slice pa H.2.2.length pc))
      rw [nd_set2] at HX8
      have HI8 : Keep (InAt (w7.setCell ⟨g, 2, none⟩ (.slice pa H.2.2.length pc)) p s H.2.1 none) := ⟨HI7.out.blk.set_ne (blk_ne HI7.out.blk HX7.out (by decide)) _, HI7.out.le⟩
      have HZ8 := Keep.mk (HZ7.out.set_ne (b' := g) (j := 2) (by have := Hgn.out; omega) (.slice pa H.2.2.length pc))
      have Gs : Grown w7 (w7.setCell ⟨g, 2, none⟩ (.slice pa H.2.2.length pc)) fun k => k = g := Grown.setCell w7 g 2 _ fun _ => rfl
      have HG8 : Keep (Grown w (w7.setCell ⟨g, 2, none⟩ (.slice pa H.2.2.length pc)) fun k => k = p) := ⟨HG7.out.next Gs (fun k hk e => by have := Hgn.out; omega)⟩
      have HO8 := Keep.mk (HO7.out.grown Gs (fun k hk e => HO7.out.ne HX7.out (by decide) (e ▸ hk)))
      generalize w7.setCell ⟨g, 2, none⟩ (.slice pa H.2.2.length pc) = w8 at *
      clear c2 f2 Gs
      simp only [Act.put]
      refine WL.nil ?_
      refine hK9 _ _ ?_
      refine wp_seq_k fun K10 hK10 => ?_
      refine wp_region_list (WL.out ?_)
      refine WL.val (by kernel_rfl) (.pointer (some ⟨p, 0, none⟩)) (by go_simp) ?_
      simp only [Act.put, List.setIfInBounds_toArray, List.set_cons_zero, List.set_cons_succ]
      refine WL.callF (by kernel_rfl) 55 _ _ rfl Tryz.in55 #[ptr p] (by simp [Act.eval]) ?_
      refine (get_any p s H.2.1 w8 HI8.out Hb.out).mono ?_
      rintro e w9 ⟨vo, er, rfl, h3, h4⟩
      refine ⟨_, rfl, ?_⟩
      have HZ9 := Keep.mk (h3.blk HZ8.out (blk_ne HZ8.out HI8.out.blk (by decide)))
      have HX9 := Keep.mk (h3.blk HX8.out (blk_ne HX8.out HI8.out.blk (by decide)))
      have HG9 := Keep.mk (HG8.out.trans h3)
      have HO9 := Keep.mk (HO8.out.grown h3 (fun k hk e => HO8.out.ne HI8.out.blk (by decide) (e ▸ hk)))
      have H4 := Keep.mk h4
      clear h3 h4
      generalize getL (lst s) H.2.1 = G at *
      simp only [Act.put, List.setIfInBounds_toArray, List.set_cons_zero, List.set_cons_succ]
      by_cases hGe : G.1 = 0
      · rcases H4.out with ⟨e1, rfl, h5, h6, h7, h8, h9⟩ | ⟨e1, _⟩
        rotate_left
        · exact absurd hGe e1
        have HI9 : Keep (InAt w9 p s G.2.1 none) := ⟨h7⟩
        have HQ9 := Keep.mk h5
        have HQn : Keep (∀ k, vo.ownBlock = some k → w.heap.size ≤ k) := ⟨fun k hk => Nat.le_trans HG8.out.size (h6 k hk)⟩
        have Hok := Keep.mk h8
        have Hol := Keep.mk h9
        clear h5 h6 h7 h8 h9 e1
        obtain ⟨qa, qc, rfl⟩ := HQ9.out.sl
        have c3 := HX9.out.c 3 (nd_3 _ _ _ _)
        have f3 := HX9.out.frozen 3
        refine WL.val (by kernel_rfl) (.slice qa G.2.2.length qc) (by go_simp) ?_
        simp only [Act.put, List.setIfInBounds_toArray, List.set_cons_zero, List.set_cons_succ]
        refine WL.val (by kernel_rfl) (.nilIface) (by go_simp) ?_
        simp only [Act.put, List.setIfInBounds_toArray, List.set_cons_zero, List.set_cons_succ]
        refine WL.callF (by kernel_rfl) 54 _ _ rfl Tryz.in54 #[.slice qa G.2.2.length qc, .nilIface] (by simp [Act.eval]) ?_
        refine (must52_ok _ w9).mono ?_
        rintro e wz ⟨rfl, hw0⟩
        rw [hw0]
        clear hw0 wz
        refine ⟨_, rfl, ?_⟩
        simp only [Act.put, List.setIfInBounds_toArray, List.set_cons_zero, List.set_cons_succ]
        refine WL.val (by kernel_rfl) (.pointer (some ⟨g, 3, none⟩)) (by go_simp) ?_
        simp only [Act.put, List.setIfInBounds_toArray, List.set_cons_zero, List.set_cons_succ]
        refine WL.cell (by kernel_rfl) (w9.setCell ⟨g, 3, none⟩ (.slice qa G.2.2.length qc)) (by go_simp) ?_
        have HX10 := Keep.mk (HX9.out.set 3 (.slice qa G.2.2.length qc))
        rw [nd_set3] at HX10
        have HI10 : Keep (InAt (w9.setCell ⟨g, 3, none⟩ (.slice qa G.2.2.length qc)) p s G.2.1 none) := ⟨HI9.out.blk.set_ne (blk_ne HI9.out.blk HX9.out (by decide)) _, HI9.out.le⟩
        have HZ10 := Keep.mk (HZ9.out.set_ne (b' := g) (j := 3) (by have := Hgn.out; omega) (.slice qa G.2.2.length qc))
        have Gs : Grown w9 (w9.setCell ⟨g, 3, none⟩ (.slice qa G.2.2.length qc)) fun k => k = g := Grown.setCell w9 g 3 _ fun _ => rfl
        have HG10 : Keep (Grown w (w9.setCell ⟨g, 3, none⟩ (.slice qa G.2.2.length qc)) fun k => k = p) := ⟨HG9.out.next Gs (fun k hk e => by have := Hgn.out; omega)⟩
        have HO10 := Keep.mk (HO9.out.grown Gs (fun k hk e => HO9.out.ne HX9.out (by decide) (e ▸ hk)))
        have HQ10 := Keep.mk (HQ9.out.grown Gs (fun k hk e => HQ9.out.ne HX9.out (by decide) (e ▸ hk)))
        generalize w9.setCell ⟨g, 3, none⟩ (.slice qa G.2.2.length qc) = w10 at *
        clear c3 f3 Gs
        simp only [Act.put]
        refine WL.nil ?_
        refine hK10 _ _ ?_
        refine wp_seq_k fun K11 hK11 => ?_
        refine wp_seq_k fun K12 hK12 => ?_
        refine wp_region_list (WL.out ?_)
        refine WL.val (by kernel_rfl) (.pointer (some ⟨p, 0, none⟩)) (by go_simp) ?_
        simp only [Act.put, List.setIfInBounds_toArray, List.set_cons_zero, List.set_cons_succ]
        refine WL.callF (by kernel_rfl) 56 _ _ rfl Tryz.in56 #[ptr p] (by simp [Act.eval]) ?_
        refine (iend_good p s G.2.1 w10 HI10.out Hb.out).mono ?_
        rintro e w11 (⟨e1, rfl, hb11⟩ | ⟨e1, q, hq, rfl, hbad, hgr⟩)
        · refine ⟨_, rfl, ?_⟩
          simp only [Act.put, List.setIfInBounds_toArray, List.set_cons_zero, List.set_cons_succ]
          have B11 := Keep.mk hb11
          have He := Keep.mk e1
          clear hb11 e1
          have HX11 := Keep.mk (HX10.out.below B11.out HX10.out.lt)
          have HZ11 := Keep.mk (HZ10.out.below B11.out HZ10.out.lt)
          refine WL.val (by kernel_rfl) (.nilIface) (by go_simp) ?_
          simp only [Act.put, List.setIfInBounds_toArray, List.set_cons_zero, List.set_cons_succ]
          refine WL.nil ?_
          refine hK12 _ _ ?_
          refine wp_seq_k fun K13 hK13 => ?_
          refine wp_region_list (WL.out ?_)
          refine WL.val (by kernel_rfl) (.nilIface) (by go_simp) ?_
          simp only [Act.put, List.setIfInBounds_toArray, List.set_cons_zero, List.set_cons_succ]
          refine WL.val (by kernel_rfl) (.bool false) (by go_simp) ?_
          simp only [Act.put, List.setIfInBounds_toArray, List.set_cons_zero, List.set_cons_succ]
          refine WL.nil ?_
          refine hK13 _ _ ?_
          refine wp_cond_false rfl ?_
          refine wp_skip ?_
          refine hK11 _ _ ?_
          refine wp_seq_k fun K14 hK14 => ?_
          refine wp_region_list (WL.out ?_)
          refine WL.row (by kernel_rfl) 54 (.tmp 3) rfl g rfl 54 (ndA au ck (.slice pa H.2.2.length pc) (.slice qa G.2.2.length qc)) _ HX11.out Tryz.underlying54 rfl (Tryz.size54B _ _ _ _) ?_
          simp only [Act.put, List.setIfInBounds_toArray, List.set_cons_zero, List.set_cons_succ]
          refine WL.storeR (by kernel_rfl) 54 (.tmp 2) (.tmp 46) rfl w.heap.size (ndA au ck (.slice pa H.2.2.length pc) (.slice qa G.2.2.length qc)) rfl rfl 54 (ndA 0 0 noS noS) HZ11.out (Tryz.size54B _ _ _ _) rfl (nd_one _ _ _ _ _ _ _ _) ?_
          have HZ12 := Keep.mk (HZ11.out.setRow (ndA au ck (.slice pa H.2.2.length pc) (.slice qa G.2.2.length qc)))
          have Gs : Grown w11 (w11.setRow w.heap.size (ndA au ck (.slice pa H.2.2.length pc) (.slice qa G.2.2.length qc))) fun k => k = w.heap.size := Grown.setRow w11 w.heap.size _ fun _ => rfl
          have HG12 : Keep (Grown w (w11.setRow w.heap.size (ndA au ck (.slice pa H.2.2.length pc) (.slice qa G.2.2.length qc))) fun k => k = p) := ⟨(HG10.out.trans (Grown.below B11.out)).next Gs (fun k hk e => by omega)⟩
          have HO12 := Keep.mk ((HO10.out.below B11.out).grown Gs (fun k hk e => (HO10.out.below B11.out).ne HZ11.out (by decide) (e ▸ hk)))
          have HQ12 := Keep.mk ((HQ10.out.below B11.out).grown Gs (fun k hk e => (HQ10.out.below B11.out).ne HZ11.out (by decide) (e ▸ hk)))
          generalize w11.setRow w.heap.size (ndA au ck (.slice pa H.2.2.length pc) (.slice qa G.2.2.length qc)) = w12 at *
          clear Gs
          simp only [Act.put]
          refine WL.nil ?_
          refine hK14 _ _ ?_
          refine wp_ret ?_
          try simp only [Exit.then]
          refine bodyPost_ret (v := .agg (ndA au ck (.slice pa H.2.2.length pc) (.slice qa G.2.2.length qc))) (results_cell_row Tryz.results30 _ _ w.heap.size 54 _ (0, 0) _ rfl HZ12.out Tryz.underlying54 rfl (Tryz.size54B _ _ _ _)) rfl ?_
          have hR9 := D9'.out HE1.out HE2.out HE3.out hE (by rw [← HCk.out]; exact hF) HE4.out hGe (by rw [lst_len, He.out]; exact Nat.lt_irrefl _)
          rw [← HAu.out, ← HCk.out] at hR9
          rw [hR9]
          exact .inl ⟨rfl, _, _, rfl, HO12.out, HQ12.out, HOn7.out, HQn.out, Hok.out, Hol.out, HG12.out⟩
        · refine ⟨_, rfl, ?_⟩
          unfold err
          simp only [Act.put, List.setIfInBounds_toArray, List.set_cons_zero, List.set_cons_succ]
          have Hbad := Keep.mk hbad
          have Hgr := Keep.mk (HG10.out.trans hgr)
          have Hq := Keep.mk (Nat.le_trans HG10.out.size hq)
          have He := Keep.mk e1
          clear hbad hgr hq e1
          refine WL.val (by kernel_rfl) (.iface 64 (ptr q)) (by go_simp) ?_
          simp only [Act.put, List.setIfInBounds_toArray, List.set_cons_zero, List.set_cons_succ]
          refine WL.nil ?_
          refine hK12 _ _ ?_
          refine wp_seq_k fun K15 hK15 => ?_
          refine wp_region_list (WL.out ?_)
          refine WL.val (by kernel_rfl) (.iface 64 (ptr q)) (by go_simp) ?_
          simp only [Act.put, List.setIfInBounds_toArray, List.set_cons_zero, List.set_cons_succ]
          refine WL.val (by kernel_rfl) (.bool true) (by go_simp) ?_
          simp only [Act.put, List.setIfInBounds_toArray, List.set_cons_zero, List.set_cons_succ]
          refine WL.nil ?_
          refine hK15 _ _ ?_
          refine wp_cond_true rfl ?_
          refine wp_region_list (WL.out ?_)
          refine WL.val (by kernel_rfl) (.iface 64 (ptr q)) (by go_simp) ?_
          simp only [Act.put, List.setIfInBounds_toArray, List.set_cons_zero, List.set_cons_succ]
          refine WL.callP (by kernel_rfl) 18 _ _ rfl Tryz.in18 #[err q] (by simp [Act.eval, err]) ?_
          refine (giveUp_any q w11).mono ?_
          rintro e w' ⟨rfl, rfl⟩
          refine .inr ⟨_, rfl, ?_⟩
          try simp only [Exit.inBlock, Exit.then]
          refine ⟨rfl, ?_⟩
          have hR8 := D8'.out HE1.out HE2.out HE3.out hE (by rw [← HCk.out]; exact hF) HE4.out hGe (by rw [lst_len]; exact He.out)
          rw [hR8]
          exact .inr ⟨(by decide : (23 : Int) ≠ 0), q, Hq.out, rfl, Hbad.out, Hgr.out⟩
      · rcases H4.out with ⟨e1, _⟩ | ⟨_, rfl, q, hq, rfl, hbad⟩
        · exact absurd e1 hGe
        have Hbad := Keep.mk hbad
        clear hbad
        unfold err
        refine WL.val (by kernel_rfl) (.slice none 0 0) (by go_simp) ?_
        simp only [Act.put, List.setIfInBounds_toArray, List.set_cons_zero, List.set_cons_succ]
        refine WL.val (by kernel_rfl) (.iface 64 (ptr q)) (by go_simp) ?_
        simp only [Act.put, List.setIfInBounds_toArray, List.set_cons_zero, List.set_cons_succ]
        refine WL.callP (by kernel_rfl) 54 _ _ rfl Tryz.in54 #[.slice none 0 0, err q] (by simp [Act.eval, err]) ?_
        refine (must52_bad _ q w9).mono ?_
        rintro e w' ⟨rfl, rfl⟩
        refine .inr ⟨_, rfl, ?_⟩
        try simp only [Exit.inBlock, Exit.then]
        refine ⟨rfl, ?_⟩
        exact .inr ⟨by rw [D7'.out HE1.out HE2.out HE3.out hE (by rw [← HCk.out]; exact hF) HE4.out hGe]; exact hGe, q, Nat.le_trans HG8.out.size hq, rfl, by rw [D7'.out HE1.out HE2.out HE3.out hE (by rw [← HCk.out]; exact hF) HE4.out hGe]; exact Hbad.out, HG9.out⟩
    · have hcf := clockFits_is ck (n : Int) w6 _ hF
      refine wp_region_list (WL.out ?_)
      refine WL.val (by kernel_rfl) (.pointer (some ⟨g, 1, none⟩)) (by go_simp) ?_
      simp only [Act.put, List.setIfInBounds_toArray, List.set_cons_zero, List.set_cons_succ]
      refine WL.val (by kernel_rfl) (.int .i64 ck) (by go_simp) ?_
      simp only [Act.put, List.setIfInBounds_toArray, List.set_cons_zero, List.set_cons_succ]
      refine WL.val (by kernel_rfl) (.int .i64 (n : Int)) (by go_simp) ?_
      simp only [Act.put, List.setIfInBounds_toArray, List.set_cons_zero, List.set_cons_succ]
      refine WL.callF (by kernel_rfl) 51 _ _ rfl Tryz.in51 #[.int .i64 ck, .int .i64 (n : Int)] (by simp [Act.eval]) ?_
      refine (hcf).mono ?_
      rintro e wz ⟨rfl, hw0⟩
      rw [hw0]
      clear hw0 wz
      refine ⟨_, rfl, ?_⟩
      simp only [Act.put, List.setIfInBounds_toArray, List.set_cons_zero, List.set_cons_succ]
      refine WL.val (by kernel_rfl) (.bool true) (by go_simp) ?_
      simp only [Act.put, List.setIfInBounds_toArray, List.set_cons_zero, List.set_cons_succ]
      refine WL.nil ?_
      refine hK8 _ _ ?_
      refine wp_cond_true rfl ?_
      refine wp_region_list (WL.out ?_)
      refine WL.val (by kernel_rfl) (.int .i64 ((2 : Nat) : Int)) (by go_simp) ?_
      simp only [Act.put, List.setIfInBounds_toArray, List.set_cons_zero, List.set_cons_succ]
      refine WL.callP (by kernel_rfl) 52 _ _ rfl Tryz.in52 #[.int .i64 51, .int .i64 ((2 : Nat) : Int)] (by simp [Act.eval]) ?_
      refine (at_any 51 (2 : Nat) w6).mono ?_
      rintro e wz ⟨rfl, hbz, hwz⟩
      have HBd : Keep (BadAt wz w6.heap.size 51 (2 : Nat)) := ⟨hbz⟩
      have HGd : Keep (Grown w wz fun k => k = p) := ⟨HG6.out.trans (Grown.below hwz)⟩
      clear hbz hwz
      refine .inr ⟨_, rfl, ?_⟩
      try simp only [Exit.inBlock, Exit.then]
      refine ⟨rfl, ?_⟩
      exact .inr ⟨by rw [D5'.out HE1.out HE2.out HE3.out hE (by rw [← HCk.out]; exact hF)]; exact (by decide : (51 : Int) ≠ 0), w6.heap.size, HG6.out.size, rfl, by rw [D5'.out HE1.out HE2.out HE3.out hE (by rw [← HCk.out]; exact hF)]; exact HBd.out, HGd.out⟩
  · rcases H3.out with ⟨e1, _, _⟩ | ⟨_, q, hq, rfl, rfl, hbad⟩
    · exact absurd e1 hE
    have Hbad := Keep.mk hbad
    clear hbad
    unfold err
    refine WL.val (by kernel_rfl) (.int .u64 cn) (by go_simp) ?_
    simp only [Act.put, List.setIfInBounds_toArray, List.set_cons_zero, List.set_cons_succ]
    refine WL.val (by kernel_rfl) (.iface 64 (ptr q)) (by go_simp) ?_
    simp only [Act.put, List.setIfInBounds_toArray, List.set_cons_zero, List.set_cons_succ]
    refine WL.callP (by kernel_rfl) 49 _ _ rfl Tryz.in49 #[.int .u64 cn, err q] (by simp [Act.eval, err]) ?_
    refine (must47_bad _ q w6).mono ?_
    rintro e w' ⟨rfl, rfl⟩
    refine .inr ⟨_, rfl, ?_⟩
    try simp only [Exit.inBlock, Exit.then]
    refine ⟨rfl, ?_⟩
    exact .inr ⟨by rw [D4'.out HE1.out HE2.out HE3.out hE]; exact hE, q, Nat.le_trans HG5.out.size hq, rfl, by rw [D4'.out HE1.out HE2.out HE3.out hE]; exact Hbad.out, HG6.out⟩
end Go.Proofs.YtibaindbnemlcaaGreatDoor.Nd
namespace Go.Proofs.YtibaindbnemlcaaGreatDoor.Nd
open Go.RowKit
set_option linter.unusedSimpArgs false
set_option linter.unusedVariables false

section
variable {P : Program} {ops : Array Oper} {rest : List Oper} {o : Oper} {a : Act} {w : World} {Q : Exit → Act → World → Prop}
theorem WL.defer (hw : Region.wanted o (yielded ops a.tmps) = true) (d : Deferred) (hrun : (execOp a.eval o).run P w = .ok (.defer d) w)
    (h : WL P ops Q rest ({ a with defers := d :: a.defers }.put o.dst undef) w) : WL P ops Q (o :: rest) a w :=
  ⟨wpList_wanted hw fun _ hK => by unfold Oper.wp; rw [hrun, Oper.upon_defer]; exact hK _ _ h.out⟩
end
theorem assertW (v : Value) (W : World) : (Instr.typeAssert (.iface 73 v) 20 73 true).run Tryz.prog W = .ok (.tuple #[v, .bool true]) W := by kernel_rfl
theorem Tryz.new73 (w : World) : (Instr.alloc 73 true (.tuple #[])).run Tryz.prog w = .ok (.pointer (some ⟨w.heap.size, 0, none⟩)) (w.alloc (.cells #[.nilIface] 73)) := by kernel_rfl
theorem Tryz.new29 (w : World) : (Instr.alloc 29 true (.tuple #[])).run Tryz.prog w = .ok (.pointer (some ⟨w.heap.size, 0, none⟩)) (w.alloc (.cells #[.nilIface] 29)) := by kernel_rfl
theorem Tryz.size73 : (Tryz.prog.info? 73).map (·.size) = some 1 := by kernel_rfl
theorem Tryz.in11 (w : World) (vs : Array Value) : (callFunc 11 vs).run Tryz.prog w = .ok (.enter 11 vs) w := by kernel_rfl
theorem Tryz.in30 (w : World) (vs : Array Value) : (callFunc 30 vs).run Tryz.prog w = .ok (.enter 30 vs) w := by kernel_rfl
theorem caught_any (q : Nat) (w : World) : Calls Tryz.prog 11 #[.iface 73 (.agg #[err q])] w fun e w' => e = .returned (err q) ∧ Below w.heap.size w w' := by
  have has := assertW (.agg #[err q])
  unfold err at has ⊢
  go_enter Tryz.func11, Tryz.ntmps11
  refine wp_seq_k fun K1 hK1 => ?_
  refine wp_region_list (WL.out ?_)
  refine WL.val (by kernel_rfl) (.nilIface) (by go_simp) ?_
  simp only [Act.put, List.setIfInBounds_toArray, List.set_cons_zero, List.set_cons_succ]
  refine WL.nil ?_
  refine hK1 _ _ ?_
  refine wp_seq_k fun K2 hK2 => ?_
  refine wp_seq_k fun K3 hK3 => ?_
  refine wp_region_list (WL.out ?_)
  refine WL.val (by kernel_rfl) (.iface 73 (.agg #[.iface 64 (ptr q)])) (by go_simp) ?_
  simp only [Act.put, List.setIfInBounds_toArray, List.set_cons_zero, List.set_cons_succ]
  refine WL.val (by kernel_rfl) (.tuple #[.agg #[.iface 64 (ptr q)], .bool true]) (by go_simp) ?_
  simp only [Act.put, List.setIfInBounds_toArray, List.set_cons_zero, List.set_cons_succ]
  refine WL.val (by kernel_rfl) (.tuple #[.agg #[.iface 64 (ptr q)], .bool true]) (by go_simp) ?_
  simp only [Act.put, List.setIfInBounds_toArray, List.set_cons_zero, List.set_cons_succ]
  refine WL.val (by kernel_rfl) (.agg #[.iface 64 (ptr q)]) (by go_simp) ?_
  simp only [Act.put, List.setIfInBounds_toArray, List.set_cons_zero, List.set_cons_succ]
  refine WL.val (by kernel_rfl) (.bool true) (by go_simp) ?_
  simp only [Act.put, List.setIfInBounds_toArray, List.set_cons_zero, List.set_cons_succ]
  refine WL.new (by kernel_rfl) 73 rfl _ Tryz.new73 ?_
  have HX1 := Keep.mk (Blk.new w 73 #[.nilIface])
  have B1 := Keep.mk (below_new w (.cells #[.nilIface] 73))
  generalize w.alloc (.cells #[.nilIface] 73) = w1 at *
  simp only [Act.put, List.setIfInBounds_toArray, List.set_cons_zero, List.set_cons_succ]
  refine WL.storeR (by kernel_rfl) 73 (.tmp 3) (.tmp 8) rfl w.heap.size #[.iface 64 (ptr q)] rfl rfl 73 #[.nilIface] HX1.out Tryz.size73 rfl (by simp [Value.oneCell', ptr]) ?_
  have HX2 := Keep.mk (HX1.out.setRow #[.iface 64 (ptr q)])
  have B2 := Keep.mk (below_setRow B1.out (Nat.le_refl _) #[.iface 64 (ptr q)])
  generalize w1.setRow w.heap.size #[.iface 64 (ptr q)] = w2 at *
  have c0 := HX2.out.c 0 rfl
  simp only [Act.put]
  refine WL.val (by kernel_rfl) (.bool true) (by go_simp) ?_
  simp only [Act.put, List.setIfInBounds_toArray, List.set_cons_zero, List.set_cons_succ]
  refine WL.nil ?_
  refine hK3 _ _ ?_
  refine wp_seq_k fun K4 hK4 => ?_
  refine wp_region_list (WL.out ?_)
  refine WL.val (by kernel_rfl) (.bool true) (by go_simp) ?_
  simp only [Act.put, List.setIfInBounds_toArray, List.set_cons_zero, List.set_cons_succ]
  refine WL.nil ?_
  refine hK4 _ _ ?_
  refine wp_cond_true rfl ?_
  refine wp_seq_k fun K5 hK5 => ?_
  refine wp_region_list (WL.out ?_)
  refine WL.val (by kernel_rfl) (.pointer (some ⟨w.heap.size, 0, none⟩)) (by go_simp) ?_
  simp only [Act.put, List.setIfInBounds_toArray, List.set_cons_zero, List.set_cons_succ]
  refine WL.val (by kernel_rfl) (.iface 64 (ptr q)) (by go_simp) ?_
  simp only [Act.put, List.setIfInBounds_toArray, List.set_cons_zero, List.set_cons_succ]
  refine WL.val (by kernel_rfl) (.iface 64 (ptr q)) (by go_simp) ?_
  simp only [Act.put, List.setIfInBounds_toArray, List.set_cons_zero, List.set_cons_succ]
  refine WL.nil ?_
  refine hK5 _ _ ?_
  refine wp_ret ?_
  go_ret
  exact ⟨rfl, B2.out⟩
set_option maxRecDepth 8000 in
theorem catch_panicking (g2 g3 q : Nat) (old : Array Value) (w : World) (h2 : Blk w g2 54 old) (ho : old.size = 4) (h3 : Blk w g3 29 #[.nilIface]) :
    CallsD Tryz.prog 29 #[ptr g2, ptr g3] (.panicking [wr q]) w fun e u' w' => e = .returned (.tuple #[]) ∧ u' = .panicking [{ v := .iface 73 (.agg #[err q]), recovered := true }] ∧ Blk w' g2 54 (ndA 0 0 noS noS) ∧ Blk w' g3 29 #[err q] ∧ Grown w w' fun k => k = g2 ∨ k = g3 := by
  have H2 := Keep.mk h2
  have H3 := Keep.mk h3
  have Ho := Keep.mk ho
  have Hne : Keep (g2 ≠ g3) := ⟨blk_ne h2 h3 (by decide)⟩
  clear h2 h3 ho
  refine callsD_of_wpS Tryz.func29 rfl fun c₀ cs hu => ?_
  apply wpS_seq
  apply wpS_region
  unfold wr at hu
  simp [wpOpsS, go_sem, recoverD, hu, Tryz.ntmps29, Exit.thenS]
  apply wpS_seq
  apply wpS_region
  simp [wpOpsS, go_sem, Exit.thenS]
  refine wpS_cond (t := true) (by simp [Act.eval, Array.replicate]) ?_
  simp only [if_true]
  refine wpS_of_wp ?_
  refine wp_region_list (WL.out ?_)
  simp only [Array.replicate_succ, Array.replicate_zero, List.push_toArray, List.append_toArray, List.nil_append, List.cons_append, List.setIfInBounds_toArray, List.set_cons_zero, List.set_cons_succ]
  refine WL.bld (by kernel_rfl) 54 _ rfl [] (by simp) _ nd_built0 ?_
  simp only [Act.put, List.setIfInBounds_toArray, List.set_cons_zero, List.set_cons_succ]
  refine WL.val (by kernel_rfl) (.iface 73 (.agg #[err q])) (by go_simp) ?_
  simp only [Act.put, List.setIfInBounds_toArray, List.set_cons_zero, List.set_cons_succ]
  refine WL.callF (by kernel_rfl) 11 _ _ rfl Tryz.in11 #[.iface 73 (.agg #[err q])] (by simp [Act.eval]) ?_
  refine (caught_any q w).mono ?_
  rintro e w1 ⟨rfl, hb1⟩
  refine ⟨_, rfl, ?_⟩
  have B1 := Keep.mk hb1
  have H21 := Keep.mk (H2.out.below hb1 H2.out.lt)
  have H31 := Keep.mk (H3.out.below hb1 H3.out.lt)
  clear hb1
  simp only [Act.put, List.setIfInBounds_toArray, List.set_cons_zero, List.set_cons_succ]
  refine WL.storeR (by kernel_rfl) 54 (.tmp 0) (.tmp 6) rfl g2 (ndA 0 0 noS noS) rfl rfl 54 old H21.out (Tryz.size54B _ _ _ _) (by rw [Ho.out]; rfl) (nd_one 0 0 none 0 0 none 0 0) ?_
  have H22 := Keep.mk (H21.out.setRow (ndA 0 0 noS noS))
  have H32 := Keep.mk (H31.out.setRow_ne (b' := g2) (fun e => Hne.out e.symm) (ndA 0 0 noS noS))
  have G2 : Keep (Grown w (w1.setRow g2 (ndA 0 0 noS noS)) fun k => k = g2 ∨ k = g3) := ⟨(Grown.below B1.out).trans (Grown.setRow w1 g2 _ fun _ => .inl rfl)⟩
  generalize w1.setRow g2 (ndA 0 0 noS noS) = w2 at *
  simp only [Act.put]
  have c0 := H32.out.c 0 rfl
  have f0 := H32.out.frozen 0
  refine WL.cell (by kernel_rfl) (w2.setCell ⟨g3, 0, none⟩ (err q)) (by unfold err; go_simp) ?_
  have H33 := Keep.mk (H32.out.set 0 (err q))
  have H23 := Keep.mk (H22.out.set_ne (b' := g3) (j := 0) Hne.out (err q))
  have G3 : Keep (Grown w (w2.setCell ⟨g3, 0, none⟩ (err q)) fun k => k = g2 ∨ k = g3) := ⟨G2.out.trans (Grown.setCell w2 g3 0 _ fun _ => .inr rfl)⟩
  generalize w2.setCell ⟨g3, 0, none⟩ (err q) = w3 at *
  simp only [Act.put]
  refine WL.nil ?_
  exact ⟨rfl, _, rfl, _, results_none rfl _ _ _, rfl, rfl, H23.out, H33.out, G3.out⟩
set_option maxRecDepth 8000 in
theorem catch_idle (g2 g3 : Nat) (w : World) :
    CallsD Tryz.prog 29 #[ptr g2, ptr g3] .returning w fun e u' w' => e = .returned (.tuple #[]) ∧ u' = .returning ∧ w' = w := by
  refine callsD_of_wpS Tryz.func29 rfl fun c₀ cs hu => ?_
  apply wpS_seq
  apply wpS_region
  simp [wpOpsS, go_sem, recoverD, hu, Tryz.ntmps29, Exit.thenS]
  apply wpS_seq
  apply wpS_region
  simp [wpOpsS, go_sem, Exit.thenS]
  refine wpS_cond (t := false) (by simp [Act.eval, Array.replicate]) ?_
  simp only [Bool.false_eq_true, if_false]
  refine wpS_of_wp (wp_skip ?_)
  cases c₀
  simp_all [bodyPostS, results, Tryz.results29]
theorem load_err (w : World) (g : Nat) (x : Value) (h : Blk w g 29 #[x]) : (loadVar 29 ⟨g, 0, none⟩).run Tryz.prog w = .ok x w := by
  have c0 := h.c 0 rfl
  go_simp
theorem results_cells (tmps : Array Value) (w : World) (g g' : Nat) (cs : Array Value) (x : Value)
    (hp : tmps.getD 2 undef = .pointer (some ⟨g, 0, none⟩)) (hq : tmps.getD 3 undef = .pointer (some ⟨g', 0, none⟩)) (hg : Blk w g 54 cs) (hg' : Blk w g' 29 #[x]) (hi : cs.size = 4) :
    (results Tryz.f19 tmps).run Tryz.prog w = .ok (.tuple #[.agg cs, x]) w := by
  have hr := run_loadVar_row (P := Tryz.prog) w g 54 54 cs (0, 0) _ hg Tryz.underlying54 rfl (by rw [hi]; exact Tryz.size54)
  have hx := load_err w g' x hg'
  simp only [results, Tryz.results19]
  simp only [Array.getD_eq_getD_getElem?] at hp hq
  simp [Result.andThen, asAddr, hp, hq, hr, hx]
theorem below_of_grown {w w3 w4 w5 : World} {p g g3 : Nat} (h1 : Below w.heap.size w w3) (h2 : Grown w3 w4 fun k => k = p) (h3 : Grown w4 w5 fun k => k = g ∨ k = g3) (hp : w.heap.size ≤ p) (hg : w.heap.size ≤ g ∧ w.heap.size ≤ g3) : Below w.heap.size w w5 :=
  ⟨h3.os.trans (h2.os.trans h1.os), h3.tape.trans (h2.tape.trans h1.tape), h3.output.trans (h2.output.trans h1.output), Nat.le_trans h1.size (Nat.le_trans h2.size h3.size), fun k hk =>
    (h3.block k (Nat.lt_of_lt_of_le hk (Nat.le_trans h1.size h2.size)) (fun e => by rcases e with rfl | rfl <;> omega)).trans ((h2.block k (Nat.lt_of_lt_of_le hk h1.size) (fun e => by omega)).trans (h1.block k hk))⟩
def badR (l : List Int) : Int × Nat := if 1048576 < l.length then (4, 1048576) else ((decR l).1, (decR l).2.1)
def DecPost (l : List Int) (w : World) (e : Ending) (w' : World) : Prop :=
  (l.length ≤ 1048576 ∧ (decR l).1 = 0 ∧ ∃ vp vo, e = .returned (.tuple #[.agg (ndA (decR l).2.2.au (decR l).2.2.ck vp vo), .nilIface]) ∧ OwnH w' vp (decR l).2.2.ps ∧ OwnO w' vo (decR l).2.2.ops ∧ (∀ k, vp.ownBlock = some k → w.heap.size ≤ k) ∧ (∀ k, vo.ownBlock = some k → w.heap.size ≤ k) ∧ (∀ x ∈ (decR l).2.2.ops, OpOk x) ∧ (decR l).2.2.ops.length ≤ 1024 ∧ Below w.heap.size w w')
  ∨ ((1048576 < l.length ∨ (¬ 1048576 < l.length ∧ (decR l).1 ≠ 0)) ∧ ∃ q, w.heap.size ≤ q ∧ e = .returned (.tuple #[.agg (ndA 0 0 noS noS), err q]) ∧ BadAt w' q (badR l).1 (badR l).2 ∧ Below w.heap.size w w')
set_option maxRecDepth 8000 in
set_option maxHeartbeats 4000000 in
theorem decode_any (v : Value) (l : List Int) (w : World) (hr : RowAt w v l) (hB : Byts l) : Calls Tryz.prog 19 #[v] w (DecPost l w) := by
  obtain ⟨va, vc, rfl⟩ := row_form hr
  have HR := Keep.mk hr
  have hmf : ∀ (fn : Fn) (first cap : Array Value) (w : World), (Instr.makeFunc fn first cap).run Tryz.prog w = .ok (.func fn first cap) w := fun _ _ _ _ => rfl
  have Hlst : Keep (lst (strOfNums l) = l) := ⟨lst_nums hB⟩
  have HRl : Keep (1048576 < l.length → badR l = (4, 1048576)) := ⟨fun h => if_pos h⟩
  have HRs : Keep (¬ 1048576 < l.length → badR l = ((decR l).1, (decR l).2.1)) := ⟨fun h => if_neg h⟩
  have HSz : Keep ((strOfNums l).size = l.length) := ⟨str_size hB⟩
  clear hr hB
  go_enter_defers Tryz.func19, Tryz.ntmps19
  refine wp_seq_k fun K1 hK1 => ?_
  refine wp_region_list (WL.out ?_)
  refine WL.new (by kernel_rfl) 54 rfl _ Tryz.new54N ?_
  have HN1 := Keep.mk (Blk.new w 54 (ndA 0 0 noS noS))
  have B1 := Keep.mk (below_new w (.cells (ndA 0 0 noS noS) 54))
  generalize w.alloc (.cells (ndA 0 0 noS noS) 54) = w1 at *
  simp only [Act.put, List.setIfInBounds_toArray, List.set_cons_zero, List.set_cons_succ]
  refine WL.new (by kernel_rfl) 29 rfl _ Tryz.new29 ?_
  have HN2 := Keep.mk (HN1.out.alloc (.cells #[.nilIface] 29))
  have HE2 := Keep.mk (Blk.new w1 29 #[.nilIface])
  have B2 : Keep (Below w.heap.size w (w1.alloc (.cells #[.nilIface] 29))) := ⟨B1.out.trans ((below_new w1 _).mono B1.out.size)⟩
  have Hg : Keep (w.heap.size < w1.heap.size) := ⟨HN1.out.lt⟩
  generalize w1.alloc (.cells #[.nilIface] 29) = w2 at *
  generalize w1.heap.size = g3 at *
  simp only [Act.put, List.setIfInBounds_toArray, List.set_cons_zero, List.set_cons_succ]
  refine WL.nil ?_
  refine hK1 _ _ ?_
  refine wp_seq_k fun K2 hK2 => ?_
  refine wp_seq_k fun K3 hK3 => ?_
  refine wp_region_list (WL.out ?_)
  refine WL.val (by kernel_rfl) (.slice va l.length vc) (by go_simp) ?_
  simp only [Act.put, List.setIfInBounds_toArray, List.set_cons_zero, List.set_cons_succ]
  refine WL.val (by kernel_rfl) (.int .i64 (l.length : Int)) (by go_simp) ?_
  simp only [Act.put, List.setIfInBounds_toArray, List.set_cons_zero, List.set_cons_succ]
  by_cases h1_2 : 1048576 < l.length
  · have h1_2i : (1048576 : Int) < (l.length : Int) := by omega
    refine WL.val (by kernel_rfl) (.bool true) (by go_simp) ?_
    simp only [Act.put, List.setIfInBounds_toArray, List.set_cons_zero, List.set_cons_succ]
    refine WL.nil ?_
    refine hK3 _ _ ?_
    refine wp_cond_true rfl ?_
    refine wp_seq_k fun K4 hK4 => ?_
    refine wp_region_list (WL.out ?_)
    refine WL.bld (by kernel_rfl) 54 _ rfl [] (by simp) _ nd_built0 ?_
    simp only [Act.put, List.setIfInBounds_toArray, List.set_cons_zero, List.set_cons_succ]
    refine WL.bld (by kernel_rfl) 68 _ rfl [(0, .int .i64 4), (1, .int .i64 1048576)] (by simp [Act.eval]) _ (bad_built 4 1048576) ?_
    simp only [Act.put, List.setIfInBounds_toArray, List.set_cons_zero, List.set_cons_succ]
    refine WL.box (by kernel_rfl) 68 (.tmp 8) rfl _ rfl ?_
    have HBd : Keep (BadAt (w2.alloc (.cells #[.int .i64 4, .int .i64 1048576] 68)) w2.heap.size 4 1048576) := ⟨Blk.new w2 68 _⟩
    have HN3 := Keep.mk (HN2.out.alloc (.cells #[.int .i64 4, .int .i64 1048576] 68))
    have HE3 := Keep.mk (HE2.out.alloc (.cells #[.int .i64 4, .int .i64 1048576] 68))
    have B3 : Keep (Below w.heap.size w (w2.alloc (.cells #[.int .i64 4, .int .i64 1048576] 68))) := ⟨B2.out.trans ((below_new w2 _).mono B2.out.size)⟩
    have Hq : Keep (w.heap.size ≤ w2.heap.size) := ⟨B2.out.size⟩
    generalize w2.alloc (.cells #[.int .i64 4, .int .i64 1048576] 68) = w3 at *
    generalize w2.heap.size = q at *
    simp only [Act.put, List.setIfInBounds_toArray, List.set_cons_zero, List.set_cons_succ]
    refine WL.val (by kernel_rfl) (.iface 64 (ptr q)) (by go_simp) ?_
    simp only [Act.put, List.setIfInBounds_toArray, List.set_cons_zero, List.set_cons_succ]
    refine WL.storeR (by kernel_rfl) 54 (.tmp 2) (.tmp 7) rfl w.heap.size (ndA 0 0 noS noS) rfl rfl 54 (ndA 0 0 noS noS) HN3.out (Tryz.size54B _ _ _ _) rfl (nd_one 0 0 none 0 0 none 0 0) ?_
    have HN4 := Keep.mk (HN3.out.setRow (ndA 0 0 noS noS))
    have HE4 := Keep.mk (HE3.out.setRow_ne (b' := w.heap.size) (by have := Hg.out; omega) (ndA 0 0 noS noS))
    have HB4 : Keep (BadAt (w3.setRow w.heap.size (ndA 0 0 noS noS)) q 4 1048576) := ⟨HBd.out.setRow_ne (blk_ne HBd.out HN3.out (by decide)) _⟩
    have B4 : Keep (Below w.heap.size w (w3.setRow w.heap.size (ndA 0 0 noS noS))) := ⟨below_setRow B3.out (Nat.le_refl _) _⟩
    generalize w3.setRow w.heap.size (ndA 0 0 noS noS) = w4 at *
    have c0 := HE4.out.c 0 rfl
    have f0 := HE4.out.frozen 0
    simp only [Act.put]
    refine WL.cell (by kernel_rfl) (w4.setCell ⟨g3, 0, none⟩ (.iface 64 (ptr q))) (by go_simp) ?_
    have HE5 := Keep.mk (HE4.out.set 0 (.iface 64 (ptr q)))
    have HN5 := Keep.mk (HN4.out.set_ne (b' := g3) (j := 0) (by have := Hg.out; omega) (.iface 64 (ptr q)))
    have HB5 : Keep (BadAt (w4.setCell ⟨g3, 0, none⟩ (.iface 64 (ptr q))) q 4 1048576) := ⟨HB4.out.set_ne (blk_ne HB4.out HE4.out (by decide)) _⟩
    have B5 : Keep (Below w.heap.size w (w4.setCell ⟨g3, 0, none⟩ (.iface 64 (ptr q)))) := ⟨B4.out.setCell (by show w.heap.size ≤ g3; have := Hg.out; omega) _⟩
    generalize w4.setCell ⟨g3, 0, none⟩ (.iface 64 (ptr q)) = w5 at *
    simp only [Act.put]
    refine WL.nil ?_
    refine hK4 _ _ ?_
    refine wp_ret ?_
    try simp only [Exit.inBlock, Exit.then]
    refine ⟨.tuple #[.agg (ndA 0 0 noS noS), .iface 64 (ptr q)], results_cells _ _ w.heap.size g3 _ _ rfl rfl HN5.out HE5.out rfl, ?_⟩
    exact .inr ⟨.inl h1_2, q, Hq.out, rfl, by rw [HRl.out h1_2]; exact HB5.out, B5.out⟩
  · have h1_2i : ¬ (1048576 : Int) < (l.length : Int) := by omega
    refine WL.val (by kernel_rfl) (.bool false) (by go_simp) ?_
    simp only [Act.put, List.setIfInBounds_toArray, List.set_cons_zero, List.set_cons_succ]
    refine WL.nil ?_
    refine hK3 _ _ ?_
    refine wp_cond_false rfl ?_
    refine wp_skip ?_
    refine hK2 _ _ ?_
    refine wp_seq_k fun K5 hK5 => ?_
    have HNl : Keep (¬ 1048576 < l.length) := ⟨h1_2⟩
    have HRn := Keep.mk (HRs.out h1_2)
    have HS : Keep ((strOfNums l).size ≤ 140737488355328) := ⟨by rw [HSz.out]; omega⟩
    refine wp_region_list (WL.out ?_)
    refine WL.val (by kernel_rfl) (.func (.func 29) #[] #[.pointer (some ⟨w.heap.size, 0, none⟩), .pointer (some ⟨g3, 0, none⟩)]) (by go_simp) ?_
    simp only [Act.put, List.setIfInBounds_toArray, List.set_cons_zero, List.set_cons_succ]
    refine WL.defer (by kernel_rfl) { target := .fn (.func 29) #[.pointer (some ⟨w.heap.size, 0, none⟩), .pointer (some ⟨g3, 0, none⟩)], args := #[] } (by go_simp) ?_
    simp only [Act.put]
    refine WL.nil ?_
    refine hK5 _ _ ?_
    refine wp_seq_k fun K6 hK6 => ?_
    refine wp_region_list (WL.out ?_)
    refine WL.val (by kernel_rfl) (.slice va l.length vc) (by go_simp) ?_
    simp only [Act.put, List.setIfInBounds_toArray, List.set_cons_zero, List.set_cons_succ]
    refine WL.callF (by kernel_rfl) 31 _ _ rfl Tryz.in31 #[.slice va l.length vc] (by simp [Act.eval]) ?_
    refine (newIn_any _ l w2 (HR.out.below B2.out)).mono ?_
    rintro e w4 ⟨rfl, hw4⟩
    refine ⟨_, rfl, ?_⟩
    rw [hw4]
    clear hw4 w4
    have HI3 : Keep (InAt (w2.alloc (.cells #[.string (strOfNums l), .int .i64 0, .pointer none] 136)) w2.heap.size (strOfNums l) 0 none) := ⟨Blk.new w2 136 _, Nat.zero_le _⟩
    have HN3 := Keep.mk (HN2.out.alloc (.cells #[.string (strOfNums l), .int .i64 0, .pointer none] 136))
    have HE3 := Keep.mk (HE2.out.alloc (.cells #[.string (strOfNums l), .int .i64 0, .pointer none] 136))
    have B3 : Keep (Below w.heap.size w (w2.alloc (.cells #[.string (strOfNums l), .int .i64 0, .pointer none] 136))) := ⟨B2.out.trans ((below_new w2 _).mono B2.out.size)⟩
    have Hp : Keep (g3 < w2.heap.size) := ⟨HE2.out.lt⟩
    generalize w2.alloc (.cells #[.string (strOfNums l), .int .i64 0, .pointer none] 136) = w3 at *
    generalize w2.heap.size = p at *
    simp only [Act.put, List.setIfInBounds_toArray, List.set_cons_zero, List.set_cons_succ]
    refine WL.callP (by kernel_rfl) 30 _ _ rfl Tryz.in30 #[ptr p] (by simp [Act.eval]) ?_
    refine (readBlock_any p (strOfNums l) w3 HI3.out HS.out).mono ?_
    rw [Hlst.out]
    rintro e w4 (⟨e1, vp, vo, rfl, h2, h3, h4, h5, h6, h7, h8⟩ | hgv)
    rotate_left
    · have hne := hgv.1
      obtain ⟨q, hq, rfl, hbad, hgr⟩ := hgv.2
      refine .inr ⟨_, rfl, ?_⟩
      try simp only [Exit.inBlock, Exit.then]
      refine leaves_cons (f := 29) (args := #[ptr w.heap.size, ptr g3]) (by simp) (by simp [go_sem, ptr]) ?_
      refine (catch_panicking w.heap.size g3 q (ndA 0 0 noS noS) w4 (hgr.blk HN3.out (blk_ne HN3.out HI3.out.blk (by decide))) rfl (hgr.blk HE3.out (blk_ne HE3.out HI3.out.blk (by decide)))).mono ?_
      rintro e u' w5 ⟨rfl, rfl, i2, i3, i4⟩
      simp only [settle, List.dropWhile]
      refine ⟨.tuple #[.agg (ndA 0 0 noS noS), err q], results_cells _ _ w.heap.size g3 _ _ rfl rfl i2 i3 rfl, ?_⟩
      have hbl : Below w.heap.size w w5 := below_of_grown B3.out hgr i4 (by have := B3.out.size; have := Hp.out; have := Hg.out; omega) (by have := Hg.out; omega)
      refine .inr ⟨.inr ⟨HNl.out, hne⟩, q, Nat.le_trans B3.out.size hq, rfl, ?_, hbl⟩
      rw [HRn.out]
      exact i4.blk hbad (fun e => by rcases e with rfl | rfl; exact (blk_ne hbad (hgr.blk HN3.out (blk_ne HN3.out HI3.out.blk (by decide))) (by decide)) rfl; exact (blk_ne hbad (hgr.blk HE3.out (blk_ne HE3.out HI3.out.blk (by decide))) (by decide)) rfl)
    refine .inl ⟨_, rfl, ?_⟩
    have HE1 := Keep.mk e1
    have HN4 := Keep.mk (h8.blk HN3.out (blk_ne HN3.out HI3.out.blk (by decide)))
    have HE4 := Keep.mk (h8.blk HE3.out (blk_ne HE3.out HI3.out.blk (by decide)))
    have HO4 := Keep.mk h2
    have HQ4 := Keep.mk h3
    have HOn := Keep.mk h4
    have HQn := Keep.mk h5
    have Hok := Keep.mk h6
    have Hol := Keep.mk h7
    have HG4 := Keep.mk h8
    clear h2 h3 h4 h5 h6 h7 h8 e1
    obtain ⟨pa, pc, rfl⟩ := HO4.out.sl
    obtain ⟨qa, qc, rfl⟩ := HQ4.out.sl
    obtain ⟨N, hN⟩ : ∃ N, N = (decR l).2.2 := ⟨_, rfl⟩
    rw [← hN] at HO4 HQ4 Hok Hol ⊢
    have HNN := Keep.mk hN
    clear hN
    simp only [Act.put, List.setIfInBounds_toArray, List.set_cons_zero, List.set_cons_succ]
    refine WL.storeR (by kernel_rfl) 54 (.tmp 2) (.tmp 14) rfl w.heap.size (ndA N.au N.ck (.slice pa N.ps.length pc) (.slice qa N.ops.length qc)) rfl rfl 54 (ndA 0 0 noS noS) HN4.out (Tryz.size54B _ _ _ _) rfl (nd_one _ _ _ _ _ _ _ _) ?_
    have HN5 := Keep.mk (HN4.out.setRow (ndA N.au N.ck (.slice pa N.ps.length pc) (.slice qa N.ops.length qc)))
    have HE5 := Keep.mk (HE4.out.setRow_ne (b' := w.heap.size) (by have := Hg.out; omega) (ndA N.au N.ck (.slice pa N.ps.length pc) (.slice qa N.ops.length qc)))
    have Gs : Grown w4 (w4.setRow w.heap.size (ndA N.au N.ck (.slice pa N.ps.length pc) (.slice qa N.ops.length qc))) fun k => k = w.heap.size ∨ k = g3 := Grown.setRow w4 w.heap.size _ fun _ => .inl rfl
    have HO5 := Keep.mk (HO4.out.grown Gs (fun k hk e => by rcases e with rfl | rfl; exact HO4.out.ne HN4.out (by decide) hk; exact HO4.out.ne HE4.out (by decide) hk))
    have HQ5 := Keep.mk (HQ4.out.grown Gs (fun k hk e => by rcases e with rfl | rfl; exact HQ4.out.ne HN4.out (by decide) hk; exact HQ4.out.ne HE4.out (by decide) hk))
    have GG := Keep.mk Gs
    generalize w4.setRow w.heap.size (ndA N.au N.ck (.slice pa N.ps.length pc) (.slice qa N.ops.length qc)) = w5 at *
    have c0 := HE5.out.c 0 rfl
    have f0 := HE5.out.frozen 0
    clear Gs
    simp only [Act.put]
    refine WL.cell (by kernel_rfl) (w5.setCell ⟨g3, 0, none⟩ .nilIface) (by go_simp) ?_
    have HE6 := Keep.mk (HE5.out.set 0 .nilIface)
    have HN6 := Keep.mk (HN5.out.set_ne (b' := g3) (j := 0) (by have := Hg.out; omega) .nilIface)
    have Gs : Grown w5 (w5.setCell ⟨g3, 0, none⟩ .nilIface) fun k => k = w.heap.size ∨ k = g3 := Grown.setCell w5 g3 0 _ fun _ => .inr rfl
    have HO6 := Keep.mk (HO5.out.grown Gs (fun k hk e => by rcases e with rfl | rfl; exact HO5.out.ne HN5.out (by decide) hk; exact HO5.out.ne HE5.out (by decide) hk))
    have HQ6 := Keep.mk (HQ5.out.grown Gs (fun k hk e => by rcases e with rfl | rfl; exact HQ5.out.ne HN5.out (by decide) hk; exact HQ5.out.ne HE5.out (by decide) hk))
    have GG2 := Keep.mk (GG.out.trans Gs)
    generalize w5.setCell ⟨g3, 0, none⟩ .nilIface = w6 at *
    simp only [Act.put]
    refine WL.nil ?_
    refine hK6 _ _ ?_
    refine wp_ret ?_
    try simp only [Exit.inBlock, Exit.then]
    refine leaves_cons (f := 29) (args := #[ptr w.heap.size, ptr g3]) (by simp) (by simp [go_sem, ptr]) ?_
    refine (catch_idle w.heap.size g3 _).mono ?_
    rintro e u' w7 ⟨rfl, rfl, rfl⟩
    simp only [settle]
    refine ⟨.tuple #[.agg (ndA N.au N.ck (.slice pa N.ps.length pc) (.slice qa N.ops.length qc)), .nilIface], results_cells _ _ w.heap.size g3 _ _ rfl rfl HN6.out HE6.out rfl, ?_⟩
    have hbl : Below w.heap.size w w7 := below_of_grown B3.out HG4.out GG2.out (by have := B3.out.size; have := Hp.out; have := Hg.out; omega) (by have := Hg.out; omega)
    exact .inl ⟨by omega, HE1.out, _, _, by rw [← HNN.out], by rw [← HNN.out]; exact HO6.out, by rw [← HNN.out]; exact HQ6.out, fun k hk => Nat.le_trans B3.out.size (HOn.out k hk), fun k hk => Nat.le_trans B3.out.size (HQn.out k hk), by rw [← HNN.out]; exact Hok.out, by rw [← HNN.out]; exact Hol.out, hbl⟩
end Go.Proofs.YtibaindbnemlcaaGreatDoor.Nd
namespace Go.Proofs.YtibaindbnemlcaaGreatDoor.Nd
open Go.RowKit
set_option linter.unusedSimpArgs false
set_option linter.unusedVariables false

structure NdAt (w : World) (N : NodeV) (vp vo : Value) : Prop where
  ps : Sh.HRow w vp N.ps
  ops : OpsAt w vo N.ops
  ok : ∀ x ∈ N.ops, OpOk x
  lp : N.ps.length ≤ 4398046511104
  lo : N.ops.length ≤ 4398046511104
  bo : N.ops ≠ [] → ∀ k, vo.ownBlock = some k → k < w.heap.size
  a1 : -9223372036854775808 ≤ N.au
  a2 : N.au ≤ 9223372036854775807
  c1 : -9223372036854775808 ≤ N.ck
  c2 : N.ck ≤ 9223372036854775807
theorem NdAt.below {w w' : World} {N : NodeV} {vp vo : Value} (h : NdAt w N vp vo) (hb : Below w.heap.size w w') : NdAt w' N vp vo :=
  { h with ps := h.ps.below hb, ops := h.ops.below hb, bo := fun hne k hk => Nat.lt_of_lt_of_le (h.bo hne k hk) hb.size }
structure OL (w0 : World) (p : Nat) (v : Value) (l : List Int) (w : World) : Prop where
  out : OutAt w p v l
  new : w0.heap.size ≤ p
  own : ∀ k, v.ownBlock = some k → w0.heap.size ≤ k
  bel : Below w0.heap.size w0 w
theorem OL.step {w0 w w' : World} {p : Nat} {v v' : Value} {l l' : List Int} (h : OL w0 p v l w) (h1 : OutAt w' p v' l') (h2 : Moved w v v') (h3 : Grown w w' (OF p v)) : OL w0 p v' l' w' where
  out := h1
  new := h.new
  own := fun k hk => by
    rcases h2 with e | ⟨j, e, hj⟩
    · rw [e] at hk; exact h.own k hk
    · rw [e] at hk; injection hk with hk; have := h.bel.size; omega
  bel := h.bel.trans (h3.to_below (fun k hk e => by rcases e with rfl | e; have := h.new; omega; have := h.own k e; omega) h.bel.size)
theorem OL.below {w0 w w' : World} {p : Nat} {v : Value} {l : List Int} (h : OL w0 p v l w) (hb : Below w.heap.size w w') : OL w0 p v l w' := ⟨h.out.below hb, h.new, h.own, h.bel.trans (hb.mono h.bel.size)⟩
theorem OL.off {w0 w : World} {p : Nat} {v : Value} {l : List Int} (h : OL w0 p v l w) {k : Nat} (hk : k < w0.heap.size) : ¬ OF p v k := fun e => by
  rcases e with rfl | e
  · have := h.new; omega
  · have := h.own k e; omega
end Go.Proofs.YtibaindbnemlcaaGreatDoor.Nd
namespace Go.Proofs.YtibaindbnemlcaaGreatDoor.Nd
open Go.RowKit
set_option linter.unusedSimpArgs false
set_option linter.unusedVariables false

theorem Tryz.in19 (w : World) (vs : Array Value) : (callFunc 19 vs).run Tryz.prog w = .ok (.enter 19 vs) w := by kernel_rfl
end Go.Proofs.YtibaindbnemlcaaGreatDoor.Nd
namespace Go.Proofs.YtibaindbnemlcaaGreatDoor.Nd
open Go.RowKit
set_option linter.unusedSimpArgs false
set_option linter.unusedVariables false

theorem HRow.elem {w : World} {a : Option Addr} {n c : Nat} {l : List Hs} (h : Sh.HRow w (.slice a n c) l) {t : Nat} (ht : t < l.length) : ∃ b off, a = some ⟨b, off, none⟩ ∧ ∀ wx, Below w.heap.size w wx → wx.rangeAt b (off + t * 32) (Sh.encH (l.getD t default)) := by
  obtain ⟨b, off, h1, h2, h3, h4⟩ := h.at (by omega)
  refine ⟨b, off, h1, fun wx hb => ?_⟩
  have h5 := Sh.rangeAt_elem (Sh.rangeAt_below h4 hb (Sh.rangeAt_lt h4 (by omega))) t ht
  rwa [show l.getD t default = l[t] by simp [List.getD_eq_getElem?_getD, ht]]
end Go.Proofs.YtibaindbnemlcaaGreatDoor.Nd
namespace Go.Proofs.YtibaindbnemlcaaGreatDoor.Nd
open Go.RowKit
set_option linter.unusedSimpArgs false
set_option linter.unusedVariables false

def enL (c : Nat → Int) (N : Array Value) : List Value := (bytesA 32 c).toList ++ N.toList
def enA (c : Nat → Int) (N : Array Value) : Array Value := (enL c N).toArray
theorem enA_size (c : Nat → Int) (a k : Int) (x y : Value) : (enA c (ndA a k x y)).size = 36 := by simp [enA, enL, bytesA_size, ndA]
theorem Tryz.size56 : (Tryz.prog.info? 56).map (·.size) = some 36 := by kernel_rfl
theorem Tryz.size56B (c : Nat → Int) (a k : Int) (x y : Value) : (Tryz.prog.info? 56).map (·.size) = some (enA c (ndA a k x y)).size := by rw [enA_size]; exact Tryz.size56
def zEn : Array Value := enA (fun _ => 0) (ndA 0 0 noS noS)
theorem Tryz.new56 (w : World) : (Instr.alloc 56 true (.tuple #[])).run Tryz.prog w = .ok (.pointer (some ⟨w.heap.size, 0, none⟩)) (w.alloc (.cells zEn 56)) := by kernel_rfl
theorem en_built0 : Tryz.prog.built 56 [] = some zEn := by kernel_rfl
theorem enA_one (c : Nat → Int) (a k : Int) (pa : Option Addr) (pn pc : Nat) (oa : Option Addr) (on oc : Nat) : (enA c (ndA a k (.slice pa pn pc) (.slice oa on oc))).all (·.oneCell') = true := by
  rw [Array.all_eq_true_iff_forall_mem]
  intro v hv
  simp only [enA, enL, List.mem_toArray, List.mem_append] at hv
  rcases hv with h | h
  · rw [hl_bytesA] at h; exact bv_one _ v h
  · exact Array.all_eq_true_iff_forall_mem.1 (nd_one a k pa pn pc oa on oc) v (by simpa using h)
theorem run_bldEn (c : Nat → Int) (a k : Int) (x y : Value) (w : World) : (Next.value <$> Instr.build 56 #[(0, .agg (bytesA 32 c)), (1, .agg (ndA a k x y))]).run Tryz.prog w = .ok (.value (.agg (enA c (ndA a k x y)))) w := by kernel_rfl
theorem zEn_size : zEn.size = 36 := enA_size _ _ _ _ _
theorem yieldsIf_bld {P : Program} {ops : Array Oper} {S : World → Prop} {op : Oper} {a : Act} (hw : Region.wanted op (yielded ops a.tmps) = true) (t : TypeId) (parts : Array (Nat × Operand)) (ho : op.op = .build t parts)
    (vs : Array (Nat × Value)) (hv : (parts.map fun (i, x) => (i, a.eval x)) = vs) (v : Value) (hr : ∀ w : World, (Next.value <$> Instr.build t vs).run P w = .ok (.value v) w) : YieldsIf P ops S op v a :=
  .inl ⟨hw, fun w _ => by unfold execOp; simp only [ho, hv]; exact hr w⟩
end Go.Proofs.YtibaindbnemlcaaGreatDoor.Nd
namespace Go.Proofs.YtibaindbnemlcaaGreatDoor.Nd.Sh
open Go.RowKit

section
variable {P : Program} {ops : Array Oper} {Q : Exit → Act → World → Prop} {md : Region.Mode}

theorem getD_lt {l : Array Bool} {i : Nat} (h : l.getD i true = false) : ∃ hi : i < l.size, l[i] = false := by
  by_cases hi : i < l.size
  · exact ⟨hi, by simpa [Array.getD, hi] using h⟩
  · simp [Array.getD, hi] at h

theorem wpAny_inv (I : Array Bool → Act → World → Prop)
    (hs : ∀ l a w, I l a w → l.size = ops.size)
    (hstep : ∀ l a w i o, I l a w → l.getD i true = false → ops[i]? = some o → (∀ e ∈ o.after, Region.binds md e = true → l.getD e.on false = true) →
      o.guard = none ∧ o.wp P a w (I (l.setIfInBounds i true)) Q)
    (hback : ∀ i o, ops[i]? = some o → ∀ e ∈ o.after, Region.binds md e = true → e.on < i)
    (hdone : ∀ l a w, I l a w → (∀ i, i < ops.size → l.getD i false = true) → Q .normal a w) :
    ∀ fuel l a w, l.toList.countP (fun b => !b) ≤ fuel → I l a w → wpAny P md ops Q fuel l a w := by
  have hall : ∀ l a w, I l a w → Region.ready md ops l = [] → ∀ i, i < ops.size → l.getD i false = true := by
    intro l a w hI hr i
    induction i using Nat.strongRecOn with
    | ind i ih =>
      intro hi
      by_cases hc : l.getD i true = false
      · have : i ∈ Region.ready md ops l := mem_ready.2 ⟨hc, ops[i], Array.getElem?_eq_getElem hi, fun e he hb => ih _ (hback i _ (Array.getElem?_eq_getElem hi) e he hb) (Nat.lt_trans (hback i _ (Array.getElem?_eq_getElem hi) e he hb) hi)⟩
        rw [hr] at this; simp at this
      · have hl : i < l.size := by rw [hs l a w hI]; exact hi
        simpa [Array.getD, hl] using hc
  intro fuel
  induction fuel with
  | zero =>
    intro l a w hf hI
    have hnil : Region.ready md ops l = [] := by
      rw [List.eq_nil_iff_forall_not_mem]
      intro j hj
      obtain ⟨hj0, _⟩ := mem_ready.1 hj
      obtain ⟨hlt, hv⟩ := getD_lt hj0
      have : 0 < l.toList.countP (fun b => !b) := List.countP_pos_iff.2 ⟨l[j], by simp, by simp [hv]⟩
      omega
    exact ⟨hnil, hdone l a w hI (hall l a w hI hnil)⟩
  | succ fuel ih =>
    intro l a w hf hI
    refine ⟨fun hnil => hdone l a w hI (hall l a w hI hnil), fun i hi => ?_⟩
    obtain ⟨hj0, o, ho, he⟩ := mem_ready.1 hi
    obtain ⟨hlt, hv⟩ := getD_lt hj0
    obtain ⟨hg, hw⟩ := hstep l a w i o hI hj0 ho he
    unfold wpOp
    simp only [ho, Region.wanted, hg, if_true]
    refine .inl (Oper.wp_mono (fun a' w' h' => ih _ a' w' ?_ h') hw)
    have hc := List.countP_set (p := fun b => !b) (l := l.toList) (i := i) (a := true) (by simpa using hlt)
    have hp : 0 < l.toList.countP (fun b => !b) := List.countP_pos_iff.2 ⟨l[i], by simp, by simp [hv]⟩
    have e1 : l.toList[i]'(by simpa using hlt) = false := by simpa using hv
    rw [Array.toList_setIfInBounds, hc, e1]
    generalize List.countP (fun b => !b) l.toList = n at *
    simp
    omega

theorem wp_region_inv {id : Nat} {a : Act} {w : World} (hm : P.follows .mixedOrders = true) (I : Array Bool → Act → World → Prop)
    (hs : ∀ l a w, I l a w → l.size = ops.size)
    (hstep : ∀ l a w i o, I l a w → l.getD i true = false → ops[i]? = some o → (∀ e ∈ o.after, Region.binds .any e = true → l.getD e.on false = true) →
      o.guard = none ∧ o.wp P a w (I (l.setIfInBounds i true)) Q)
    (hback : ∀ i o, ops[i]? = some o → ∀ e ∈ o.after, Region.binds .any e = true → e.on < i)
    (hdone : ∀ l a w, I l a w → (∀ i, i < ops.size → l.getD i false = true) → Q .normal a w)
    (h0 : I (Array.replicate ops.size false) a w.drew) : (Code.region id ops true).wp P Q a w :=
  wp_region_any hm (wpAny_inv I hs hstep hback hdone _ _ _ _ (by simp [List.countP_replicate]) h0)

theorem wp_new {o : Oper} {a : Act} {w : World} {K : Act → World → Prop} (t : TypeId) (ho : o.op = .alloc t)
    (cells : Array Value) (hf : ∀ w : World, (Instr.alloc t true (.tuple #[])).run P w = .ok (.pointer (some ⟨w.heap.size, 0, none⟩)) (w.alloc (.cells cells t)))
    (h : K (a.put o.dst (.pointer (some ⟨w.heap.size, 0, none⟩))) (w.alloc (.cells cells t))) : o.wp P a w K Q := by
  unfold Oper.wp execOp
  simp only [ho, Sem.run_bind, hf w, Result.andThen_ok]
  exact h

theorem run_callF (a : Act) (o : Oper) (f : FuncId) (args : Array Operand) (ts : Array TypeId) (ho : o.op = .call { callee := .value (.func f), args := args, argTypes := ts })
    (hf : ∀ (w : World) (vs : Array Value), (callFunc f vs).run P w = .ok (.enter f vs) w) (w : World) :
    (execOp a.eval o).run P w = .ok (.enter f (args.map a.eval)) w := by
  unfold execOp
  simp only [ho]
  simp [resolve, Act.eval, go_sem]
  exact hf w _

theorem wp_callF {o : Oper} {a : Act} {w : World} {K : Act → World → Prop} (f : FuncId) (args : Array Operand) (ts : Array TypeId) (ho : o.op = .call { callee := .value (.func f), args := args, argTypes := ts })
    (hf : ∀ (w : World) (vs : Array Value), (callFunc f vs).run P w = .ok (.enter f vs) w)
    (vs : Array Value) (hvs : args.map a.eval = vs)
    (R : Value → World → Prop) (hc : Calls P f vs w fun e w' => ∃ v, e = .returned v ∧ R v w')
    (h : ∀ v w', R v w' → K (a.put o.dst v) w') : o.wp P a w K Q := by
  unfold Oper.wp
  rw [run_callF a o f args ts ho hf w, Oper.upon_enter, hvs]
  refine hc.mono ?_
  rintro e w' ⟨v, rfl, hr⟩
  exact h v w' hr
end
theorem Tryz.enter98 (w : World) (vs : Array Value) : (callFunc 98 vs).run Tryz.prog w = .ok (.enter 98 vs) w := by kernel_rfl
theorem Tryz.enter99 (w : World) (vs : Array Value) : (callFunc 99 vs).run Tryz.prog w = .ok (.enter 99 vs) w := by kernel_rfl
end Go.Proofs.YtibaindbnemlcaaGreatDoor.Nd.Sh
namespace Go.Proofs.YtibaindbnemlcaaGreatDoor.Nd.Sh
open Go.RowKit

section
variable {P : Program} {ops : Array Oper} {Q : Exit → Act → World → Prop}

def backB (ops : Array Oper) : Bool := (List.range ops.size).all fun i => match ops[i]? with
  | some o => o.after.all fun e => !Region.binds .any e || decide (e.on < i)
  | none => true
theorem back_of (h : backB ops = true) : ∀ i o, ops[i]? = some o → ∀ e ∈ o.after, Region.binds .any e = true → e.on < i := by
  intro i o ho e he hb
  have hi : i < ops.size := (Array.getElem?_eq_some_iff.1 ho).1
  have h1 := List.all_eq_true.1 h i (List.mem_range.2 hi)
  simp only [ho] at h1
  have h2 := Array.all_eq_true_iff_forall_mem.1 h1 e he
  simpa [hb] using h2

def dstsB (ops : Array Oper) (n : Nat) : Bool := (List.range ops.size).all fun i => match ops[i]? with
  | some o => (match o.dst with
    | some d => decide (d < n) && (List.range ops.size).all fun j => match ops[j]? with
      | some o' => (o'.dst != some d) || i == j
      | none => true
    | none => true)
  | none => true
theorem dsts_lt {n : Nat} (h : dstsB ops n = true) (i : Nat) (o : Oper) (d : Nat) (ho : ops[i]? = some o) (hd : o.dst = some d) : d < n := by
  have hi : i < ops.size := (Array.getElem?_eq_some_iff.1 ho).1
  have h1 := List.all_eq_true.1 h i (List.mem_range.2 hi)
  simp only [ho, hd, Bool.and_eq_true, decide_eq_true_eq] at h1
  exact h1.1
theorem dsts_inj {n : Nat} (h : dstsB ops n = true) (i j : Nat) (o o' : Oper) (d : Nat) (ho : ops[i]? = some o) (ho' : ops[j]? = some o') (hd : o.dst = some d) (hd' : o'.dst = some d) : i = j := by
  have hi : i < ops.size := (Array.getElem?_eq_some_iff.1 ho).1
  have hj : j < ops.size := (Array.getElem?_eq_some_iff.1 ho').1
  have h1 := List.all_eq_true.1 h i (List.mem_range.2 hi)
  simp only [ho, hd, Bool.and_eq_true, decide_eq_true_eq] at h1
  have h2 := List.all_eq_true.1 h1.2 j (List.mem_range.2 hj)
  simpa [ho', hd'] using h2

def putsTo (ops : Array Oper) (V : Nat → Value) (a0 : Act) : Nat → Act
  | 0 => a0
  | n + 1 => match ops[n]? with
    | some o => (putsTo ops V a0 n).put o.dst (V n)
    | none => putsTo ops V a0 n

theorem putsTo_facts (V : Nat → Value) (a0 : Act) (hd : dstsB ops a0.tmps.size = true) (n : Nat) :
    (putsTo ops V a0 n).defers = a0.defers ∧ (putsTo ops V a0 n).tmps.size = a0.tmps.size ∧
    (∀ t : Nat, (∀ j o, j < n → ops[j]? = some o → o.dst ≠ some t) → (putsTo ops V a0 n).tmps[t]? = a0.tmps[t]?) ∧
    (∀ j o d, j < n → ops[j]? = some o → o.dst = some d → (putsTo ops V a0 n).tmps[d]? = some (V j)) := by
  induction n with
  | zero => exact ⟨rfl, rfl, fun _ _ => rfl, fun j _ _ h => absurd h (by omega)⟩
  | succ n ih =>
    obtain ⟨i1, i2, i3, i4⟩ := ih
    cases hn : ops[n]? with
    | none =>
      have e : putsTo ops V a0 (n + 1) = putsTo ops V a0 n := by simp only [putsTo, hn]
      rw [e]
      refine ⟨i1, i2, fun t ht => i3 t (fun j o hj ho => ht j o (by omega) ho), fun j o d hj ho hdd => ?_⟩
      have : j ≠ n := fun e => by subst e; rw [hn] at ho; cases ho
      exact i4 j o d (by omega) ho hdd
    | some o =>
      have e : putsTo ops V a0 (n + 1) = (putsTo ops V a0 n).put o.dst (V n) := by simp only [putsTo, hn]
      rw [e]
      cases hod : o.dst with
      | none =>
        have e2 : (putsTo ops V a0 n).put none (V n) = putsTo ops V a0 n := rfl
        rw [e2]
        refine ⟨i1, i2, fun t ht => i3 t (fun j o hj ho => ht j o (by omega) ho), fun j o' d hj ho hdd => ?_⟩
        have : j ≠ n := fun e => by subst e; rw [hn] at ho; cases ho; rw [hod] at hdd; cases hdd
        exact i4 j o' d (by omega) ho hdd
      | some dn =>
        have hlt : dn < a0.tmps.size := dsts_lt hd n o dn hn hod
        refine ⟨by simpa [Act.put] using i1, by simpa [Act.put] using i2, fun t ht => ?_, fun j o' d hj ho hdd => ?_⟩
        · have hne : dn ≠ t := fun e => ht n o (by omega) hn (by rw [hod, e])
          simp only [Act.put]
          rw [Array.getElem?_setIfInBounds_ne hne]
          exact i3 t (fun j o hj ho => ht j o (by omega) ho)
        · by_cases hjn : j = n
          · subst hjn
            rw [hn] at ho; cases ho
            rw [hod] at hdd; cases hdd
            simp [Act.put, i2, hlt]
          · have hne : dn ≠ d := fun e => hjn (dsts_inj hd j n o' o d ho hn hdd (by rw [hod, e]))
            simp only [Act.put]
            rw [Array.getElem?_setIfInBounds_ne hne]
            exact i4 j o' d (by omega) ho hdd

theorem act_ext {a b : Act} (h1 : a.tmps = b.tmps) (h2 : a.defers = b.defers) : a = b := by
  cases a; cases b; simp_all

theorem eval_of_get {a : Act} {t : Nat} {v : Value} (h : a.tmps[t]? = some v) : a.eval (.tmp t) = v := by
  simp [Act.eval, h]

theorem wp_region_vals {id : Nat} {a0 : Act} {w : World} (hm : P.follows .mixedOrders = true) (V : Nat → Value) (W : Array Bool → World → Prop)
    (hd : dstsB ops a0.tmps.size = true) (hb : backB ops = true)
    (hstep : ∀ (l : Array Bool) (a : Act) (w : World) (i : Nat) (o : Oper),
      (∀ t : Nat, (∀ (j : Nat) (o' : Oper), ops[j]? = some o' → o'.dst ≠ some t) → a.eval (.tmp t) = a0.eval (.tmp t)) →
      (∀ (j : Nat) (o' : Oper) (d : Nat), ops[j]? = some o' → o'.dst = some d → l.getD j false = true → a.eval (.tmp d) = V j) →
      W l w → l.size = ops.size → l.getD i true = false → ops[i]? = some o → (∀ e ∈ o.after, Region.binds .any e = true → l.getD e.on false = true) →
      o.guard = none ∧ o.wp P a w (fun a' w' => a' = a.put o.dst (V i) ∧ W (l.setIfInBounds i true) w') Q)
    (hdone : ∀ l w, W l w → (∀ i, i < ops.size → l.getD i false = true) → Q .normal (putsTo ops V a0 ops.size) w)
    (h0 : W (Array.replicate ops.size false) w.drew) : (Code.region id ops true).wp P Q a0 w := by
  refine wp_region_inv hm (fun l a w => l.size = ops.size ∧ a.defers = a0.defers ∧ a.tmps.size = a0.tmps.size ∧
    (∀ t : Nat, (∀ (j : Nat) (o' : Oper), ops[j]? = some o' → o'.dst ≠ some t) → a.tmps[t]? = a0.tmps[t]?) ∧
    (∀ (j : Nat) (o' : Oper) (d : Nat), ops[j]? = some o' → o'.dst = some d → l.getD j false = true → a.tmps[d]? = some (V j)) ∧ W l w) ?_ ?_ (back_of hb) ?_ ?_
  · intro l a w h; exact h.1
  · rintro l a w i o ⟨h1, h2, h3, h4, h5, h6⟩ hi ho he
    obtain ⟨hg, hw⟩ := hstep l a w i o (fun t ht => by simp only [Act.eval, Array.getD_eq_getD_getElem?]; rw [h4 t ht]) (fun j o' d hj hdd hl => eval_of_get (h5 j o' d hj hdd hl)) h6 h1 hi ho he
    refine ⟨hg, Oper.wp_mono ?_ hw⟩
    rintro a' w' ⟨rfl, hW⟩
    refine ⟨by simpa using h1, ?_, ?_, ?_, ?_, hW⟩
    · cases hod : o.dst <;> simpa [Act.put] using h2
    · cases hod : o.dst <;> simpa [Act.put] using h3
    · intro t ht
      cases hod : o.dst with
      | none => exact h4 t ht
      | some dn =>
        have hne : dn ≠ t := fun e => ht i o ho (by rw [hod, e])
        simp only [Act.put]
        rw [Array.getElem?_setIfInBounds_ne hne]
        exact h4 t ht
    · intro j o' d hj hdd hl
      cases hod : o.dst with
      | none =>
        have hji : i ≠ j := fun e => by subst e; rw [ho] at hj; cases hj; rw [hod] at hdd; cases hdd
        rw [getD_set_ne false hji] at hl
        exact h5 j o' d hj hdd hl
      | some dn =>
        have hlt : dn < a0.tmps.size := dsts_lt hd i o dn ho hod
        by_cases hji : i = j
        · subst hji
          rw [ho] at hj; cases hj
          rw [hod] at hdd; cases hdd
          simp [Act.put, h3, hlt]
        · have hne : dn ≠ d := fun e => hji (dsts_inj hd i j o o' d ho hj (by rw [hod, e]) hdd)
          rw [getD_set_ne false hji] at hl
          simp only [Act.put]
          rw [Array.getElem?_setIfInBounds_ne hne]
          exact h5 j o' d hj hdd hl
  · rintro l a w ⟨h1, h2, h3, h4, h5, h6⟩ hall
    obtain ⟨p1, p2, p3, p4⟩ := putsTo_facts V a0 hd ops.size
    have e : a = putsTo ops V a0 ops.size := by
      refine act_ext (Array.ext_getElem? fun t => ?_) (h2.trans p1.symm)
      by_cases hx : ∃ (j : Nat) (o' : Oper), ops[j]? = some o' ∧ o'.dst = some t
      · obtain ⟨j, o', hj, hdd⟩ := hx
        have hlt : j < ops.size := (Array.getElem?_eq_some_iff.1 hj).1
        rw [h5 j o' t hj hdd (hall j hlt), p4 j o' t hlt hj hdd]
      · have hn : ∀ (j : Nat) (o' : Oper), ops[j]? = some o' → o'.dst ≠ some t := fun j o' hj hdd => hx ⟨j, o', hj, hdd⟩
        rw [h4 t hn, p3 t (fun j o' _ hj => hn j o' hj)]
    rw [e]
    exact hdone l w h6 hall
  · refine ⟨by simp, rfl, rfl, fun _ _ => rfl, fun j o' d _ _ hl => ?_, h0⟩
    simp [Array.getD] at hl

theorem wp_val {o : Oper} {a : Act} {w : World} {K : Act → World → Prop} (v : Value) (hrun : (execOp a.eval o).run P w = .ok (.value v) w) (h : K (a.put o.dst v) w) : o.wp P a w K Q := by
  unfold Oper.wp; rw [hrun, Oper.upon_value]; exact h
theorem wp_move {o : Oper} {a : Act} {w : World} {K : Act → World → Prop} (x : Operand) (ho : o.op = .move x) (v : Value) (hv : a.eval x = v) (h : K (a.put o.dst v) w) : o.wp P a w K Q :=
  wp_val v (by unfold execOp; simp only [ho, hv]; rfl) h
theorem wp_nilCheck {o : Oper} {a : Act} {w : World} {K : Act → World → Prop} (x : Operand) (ho : o.op = .nilCheck x) (b : Addr) (hv : a.eval x = .pointer (some b)) (h : K (a.put o.dst (.pointer (some b))) w) : o.wp P a w K Q :=
  wp_val _ (by unfold execOp; simp only [ho, hv]; rfl) h
theorem wp_fieldAddr {o : Oper} {a : Act} {w : World} {K : Act → World → Prop} (t : TypeId) (x : Operand) (k : Nat) (ho : o.op = .fieldAddr t x k) (v u : Value) (hv : a.eval x = v)
    (hf : ∀ w : World, (Instr.fieldAt t v k).run P w = .ok u w) (h : K (a.put o.dst u) w) : o.wp P a w K Q := by
  refine wp_val u ?_ h
  unfold execOp
  simp only [ho, hv, Sem.run_bind, hf w, Result.andThen_ok]
  rfl
theorem wp_store_part {o : Oper} {a : Act} {w : World} {K : Act → World → Prop} (ty : TypeId) (x y : Operand) (ho : o.op = .store ty x y)
    (g off : Nat) (cells : Array Value) (hx : a.eval x = .pointer (some ⟨g, off, none⟩)) (hy : a.eval y = .agg cells)
    (t : TypeId) (cur : Array Value) (hg : w.heap[g]? = some (.cells cur t (0, 0))) (hi : (P.info? ty).map (·.size) = some cells.size) (hfit : off + cells.size ≤ cur.size)
    (h1 : cells.all (·.oneCell') = true)
    (h : K (a.put o.dst undef) (w.setRow g (cur.toList.take off ++ cells.toList ++ cur.toList.drop (off + cells.size)).toArray)) : o.wp P a w K Q := by
  have hst := run_storeCells_at P g off t cells.toList 0 cur w hg (by simpa using hfit) (fun v hv => (Array.all_eq_true_iff_forall_mem.1 h1) v (by simpa using hv))
  have hrun : (storeVar ty ⟨g, off, none⟩ (.agg cells)).run P w = .ok () (w.setRow g (cur.toList.take off ++ cells.toList ++ cur.toList.drop (off + cells.size)).toArray) := by
    cases hq : P.info? ty with
    | none => simp [hq] at hi
    | some i =>
      have hs : cells.size = i.size := by simp [hq] at hi; omega
      simp only [Nat.add_zero, Array.length_toList] at hst
      simp [storeVar, sizeOf, typeInfo, hq, Value.cells, hs, hst]
  unfold Oper.wp execOp
  simp only [ho, hx, hy, Instr.storeAt, Instr.sureAddr, Sem.run_bind, Sem.run_pure, Result.andThen_ok, hrun]
  exact h
end
end Go.Proofs.YtibaindbnemlcaaGreatDoor.Nd.Sh
namespace Go.Proofs.YtibaindbnemlcaaGreatDoor.Nd.Sh
open Go.RowKit

def rot (x n : Int) : Int := bits .or .u32 (x * 2 ^ (32 - n).toNat % 4294967296) (x / 2 ^ n.toNat)

theorem and31 (n : Int) (h1 : 1 ≤ n) (h2 : n ≤ 31) : bits .and .u64 (IntKind.u64.wrap (-n)) 31 = 32 - n := by
  obtain ⟨k, rfl⟩ := Int.eq_ofNat_of_zero_le (show 0 ≤ n by omega)
  have hk : k < 32 := by omega
  have hk1 : 1 ≤ k := by omega
  have : ∀ k : Fin 32, 1 ≤ k.val → bits .and .u64 (IntKind.u64.wrap (-((k.val : Nat) : Int))) 31 = 32 - ((k.val : Nat) : Int) := by decide +kernel
  exact this ⟨k, hk⟩ hk1

set_option maxRecDepth 8000 in
set_option maxHeartbeats 400000 in
theorem rotl_any (x n : Int) (w : World) (h1 : 1 ≤ n) (h2 : n ≤ 31) :
    Calls Tryz.prog 121 #[.int .u32 x, .int .i64 (-n)] w fun e w' => e = .returned (.int .u32 (rot x n)) ∧ w' = w := by
  have ha := and31 n h1 h2
  have hs : 32 - n ≤ 32 := by omega
  have hs0 : 0 ≤ 32 - n := by omega
  have hw : IntKind.u64.wrap (32 - (32 - n)) = n := by rw [IntKind.wrap_u64]; omega
  go_enter Tryz.func121, Tryz.ntmps121
  go_wp2
  go_ret
  exact ⟨rfl, rfl⟩

set_option maxRecDepth 8000 in
set_option maxHeartbeats 400000 in
theorem turn_any (x n : Int) (w : World) (h1 : 1 ≤ n) (h2 : n ≤ 31) :
    Calls Tryz.prog 100 #[.int .u32 x, .int .i64 n] w fun e w' => e = .returned (.int .u32 (rot x n)) ∧ w' = w := by
  go_enter Tryz.func100, Tryz.ntmps100
  go_wp2_with fail
  refine (rotl_any x n _ h1 h2).mono ?_
  rintro e w' ⟨rfl, rfl⟩
  go_wp2
  go_ret
  exact ⟨rfl, rfl⟩

def beginL : List Int := [0x6a09e667, 0xbb67ae85, 0x3c6ef372, 0xa54ff53a, 0x510e527f, 0x9b05688c, 0x1f83d9ab, 0x5be0cd19]
def beginF (i : Nat) : Int := beginL.getD i 0
def roundsL : List Int := [0x428a2f98, 0x71374491, 0xb5c0fbcf, 0xe9b5dba5, 0x3956c25b, 0x59f111f1, 0x923f82a4, 0xab1c5ed5, 0xd807aa98, 0x12835b01, 0x243185be, 0x550c7dc3, 0x72be5d74, 0x80deb1fe, 0x9bdc06a7, 0xc19bf174, 0xe49b69c1, 0xefbe4786, 0x0fc19dc6, 0x240ca1cc, 0x2de92c6f, 0x4a7484aa, 0x5cb0a9dc, 0x76f988da, 0x983e5152, 0xa831c66d, 0xb00327c8, 0xbf597fc7, 0xc6e00bf3, 0xd5a79147, 0x06ca6351, 0x14292967, 0x27b70a85, 0x2e1b2138, 0x4d2c6dfc, 0x53380d13, 0x650a7354, 0x766a0abb, 0x81c2c92e, 0x92722c85, 0xa2bfe8a1, 0xa81a664b, 0xc24b8b70, 0xc76c51a3, 0xd192e819, 0xd6990624, 0xf40e3585, 0x106aa070, 0x19a4c116, 0x1e376c08, 0x2748774c, 0x34b0bcb5, 0x391c0cb3, 0x4ed8aa4a, 0x5b9cca4f, 0x682e6ff3, 0x748f82ee, 0x78a5636f, 0x84c87814, 0x8cc70208, 0x90befffa, 0xa4506ceb, 0xbef9a3f7, 0xc67178f2]
def roundsF (i : Nat) : Int := roundsL.getD i 0

set_option maxRecDepth 10000 in
theorem begin_any (w : World) :
    Calls Tryz.prog 79 #[] w fun e w' => e = .returned (.agg (wordsA 8 beginF)) ∧ w' = w.alloc (.cells (wordsA 8 beginF) 168) := by
  go_enter Tryz.func79, Tryz.ntmps79
  go_step; go_step; go_step
  refine wpList_new rfl 168 rfl _ Tryz.new168 ?_
  go_step; go_step; go_step; go_step; go_step
  refine wpList_bld rfl 168 _ rfl (wordsA 8 beginF) (by kernel_rfl) ?_
  refine wpList_plain rfl fun _ hK => ?_
  refine wp_store_row 168 _ _ rfl w.heap.size (wordsA 8 beginF) rfl rfl 168 (wordsA 8 fun _ => 0) (Blk.new w 168 _) (by simpa [wordsA_size] using Tryz.size168) (by simp [wordsA_size]) (wordsA_one _ _) (hK _ _ ?_)
  rw [World.setRow_alloc_new]
  go_step; go_step; go_step; go_step
  exact bodyPost_ret (v := .agg (wordsA 8 beginF)) (results_cell_row Tryz.results79 _ _ w.heap.size 168 _ (0, 0) _ rfl (heap_alloc_new _ _) Tryz.underlying168 rfl (by simpa [wordsA_size] using Tryz.size168)) rfl ⟨rfl, rfl⟩

set_option maxRecDepth 10000 in
theorem rounds_any (w : World) :
    Calls Tryz.prog 98 #[] w fun e w' => e = .returned (.agg (wordsA 64 roundsF)) ∧ w' = w.alloc (.cells (wordsA 64 roundsF) 197) := by
  go_enter Tryz.func98, Tryz.ntmps98
  go_step; go_step; go_step
  refine wpList_new rfl 197 rfl _ Tryz.new197 ?_
  go_step; go_step; go_step; go_step; go_step
  refine wpList_bld rfl 197 _ rfl (wordsA 64 roundsF) (by kernel_rfl) ?_
  refine wpList_plain rfl fun _ hK => ?_
  refine wp_store_row 197 _ _ rfl w.heap.size (wordsA 64 roundsF) rfl rfl 197 (wordsA 64 fun _ => 0) (Blk.new w 197 _) (by simpa [wordsA_size] using Tryz.size197) (by simp [wordsA_size]) (wordsA_one _ _) (hK _ _ ?_)
  rw [World.setRow_alloc_new]
  go_step; go_step; go_step; go_step
  exact bodyPost_ret (v := .agg (wordsA 64 roundsF)) (results_cell_row Tryz.results98 _ _ w.heap.size 197 _ (0, 0) _ rfl (heap_alloc_new _ _) Tryz.underlying197 rfl (by simpa [wordsA_size] using Tryz.size197)) rfl ⟨rfl, rfl⟩

end Go.Proofs.YtibaindbnemlcaaGreatDoor.Nd.Sh
namespace Go.Proofs.YtibaindbnemlcaaGreatDoor.Nd.Sh
open Go.RowKit

theorem run_box_agg {P : Program} (w : World) (t : TypeId) (cs : Array Value) : (Instr.box t (.agg cs)).run P w = .ok (.pointer (some ⟨w.heap.size, 0, none⟩)) (w.alloc (.cells cs t)) := rfl

theorem wpList_boxA {P : Program} {ops : Array Oper} {rest : List Oper} {o : Oper} {a : Act} {w : World} {Q : Exit → Act → World → Prop} (hg : o.guard = none) (t : TypeId) (x : Operand) (ho : o.op = .box t x)
    (cs : Array Value) (hx : a.eval x = .agg cs)
    (h : wpList P ops Q rest (a.put o.dst (.pointer (some ⟨w.heap.size, 0, none⟩))) (w.alloc (.cells cs t))) : wpList P ops Q (o :: rest) a w := by
  refine wpList_plain hg fun K hK => ?_
  unfold Oper.wp execOp
  simp only [ho, hx, Sem.run_bind, run_box_agg, Result.andThen_ok]
  exact hK _ _ h

def be32 (b : Nat → Int) (t : Nat) : Int :=
  bits .or .u32 (bits .or .u32 (bits .or .u32 (b (4 * t) % 4294967296 * 16777216 % 4294967296) (b (4 * t + 1) % 4294967296 * 65536 % 4294967296)) (b (4 * t + 2) % 4294967296 * 256 % 4294967296)) (b (4 * t + 3) % 4294967296)
def sig0 (x : Int) : Int := bits .xor .u32 (bits .xor .u32 (rot x 7) (rot x 18)) (x / 8)
def sig1 (x : Int) : Int := bits .xor .u32 (bits .xor .u32 (rot x 17) (rot x 19)) (x / 1024)
def nextW (c : Nat → Int) (t : Nat) : Int := (((c (t - 16) + sig0 (c (t - 15))) % 4294967296 + c (t - 7)) % 4294967296 + sig1 (c (t - 2))) % 4294967296
def sched (b : Nat → Int) : Nat → (Nat → Int)
  | 0 => fun _ => 0
  | t + 1 => upd (sched b t) t (if t < 16 then be32 b t else nextW (sched b t) t)

set_option maxRecDepth 8000 in
set_option maxHeartbeats 2000000 in
theorem spread_any (b : Nat → Int) (w : World) :
    Calls Tryz.prog 99 #[.agg (bytesA 64 b)] w fun e w' => e = .returned (.agg (wordsA 64 (sched b 64))) ∧ Below w.heap.size w w' := by
  go_enter Tryz.func99, Tryz.ntmps99
  go_wp2_with (first | (refine wpList_boxA rfl 170 _ rfl (bytesA 64 b) rfl ?_) | (refine wpList_new rfl 197 rfl _ Tryz.new197 ?_))
  have hP := ((Blk.new w 170 (bytesA 64 b)).alloc (.cells (wordsA 64 fun _ => 0) 197)).alloc (.cells (wordsA 64 fun _ => 0) 197)
  have hR := (Blk.new (w.alloc (.cells (bytesA 64 b) 170)) 197 (wordsA 64 fun _ => 0)).alloc (.cells (wordsA 64 fun _ => 0) 197)
  have hW := (Blk.new ((w.alloc (.cells (bytesA 64 b) 170)).alloc (.cells (wordsA 64 fun _ => 0) 197)) 197 (wordsA 64 fun _ => 0))
  have hB : Below w.heap.size w (((w.alloc (.cells (bytesA 64 b) 170)).alloc (.cells (wordsA 64 fun _ => 0) 197)).alloc (.cells (wordsA 64 fun _ => 0) 197)) :=
    (((Below.refl _ _).alloc (Nat.le_refl _) _).alloc (by simp) _).alloc (by simp; omega) _
  simp only [World.size_alloc] at hR hW ⊢
  generalize (((w.alloc (.cells (bytesA 64 b) 170)).alloc (.cells (wordsA 64 fun _ => 0) 197)).alloc (.cells (wordsA 64 fun _ => 0) 197)) = w0 at *
  go_loopw [8] (fun i wr => ∃ t : Nat, t ≤ 16 ∧ i = .int .i64 t ∧ Blk wr w.heap.size 170 (bytesA 64 b) ∧ Blk wr (w.heap.size + 1) 197 (wordsA 64 fun _ => 0) ∧ Blk wr (w.heap.size + 1 + 1) 197 (wordsA 64 (sched b t)) ∧ Below w.heap.size w wr) (fun i _ => 16 - (intOf i).toNat)
  case atStart => exact ⟨0, by omega, rfl, hP, hR, hW, hB⟩
  case round =>
    clear hP hR hW hB
    obtain ⟨t, ht, rfl, hP, hR, hW, hB⟩ := hrel
    by_cases hlt : t < 16
    · have e0 : wr.cell? ⟨w.heap.size, 4 * t, none⟩ = some (.int .u8 (b (4 * t))) := by rw [hP.cell, bytesA_get _ _ _ (by omega)]
      have e1 : wr.cell? ⟨w.heap.size, 4 * t + 1, none⟩ = some (.int .u8 (b (4 * t + 1))) := by rw [hP.cell, bytesA_get _ _ _ (by omega)]
      have e2 : wr.cell? ⟨w.heap.size, 4 * t + 2, none⟩ = some (.int .u8 (b (4 * t + 2))) := by rw [hP.cell, bytesA_get _ _ _ (by omega)]
      have e3 : wr.cell? ⟨w.heap.size, 4 * t + 3, none⟩ = some (.int .u8 (b (4 * t + 3))) := by rw [hP.cell, bytesA_get _ _ _ (by omega)]
      have e4 : wr.cell? ⟨w.heap.size + 1 + 1, t, none⟩ = some (.int .u32 (sched b t t)) := by rw [hW.cell, wordsA_get _ _ _ (by omega)]
      have e5 : wr.frozen? ⟨w.heap.size + 1 + 1, t, none⟩ = false := hW.frozen t
      go_wp2
      go_region
      go_wp2
      go_roundw
      case rel => exact ⟨t + 1, by omega, by go_num, (hP.set_ne (by omega) _).drew, (hR.set_ne (by omega) _).drew, by
        have h := (hW.set t (.int .u32 (be32 b t))).drew
        rw [wordsA_set] at h
        simp only [sched, if_pos hlt]; exact h, (hB.setCell (by show w.heap.size ≤ w.heap.size + 1 + 1; omega) _).drew⟩
      case measure => simp [intOf]; omega
    · obtain rfl : t = 16 := by omega
      clear hlt ht
      go_wp2
      go_loopw [5] (fun i wr => ∃ t : Nat, 16 ≤ t ∧ t ≤ 64 ∧ i = .int .i64 t ∧ Blk wr (w.heap.size + 1) 197 (wordsA 64 fun _ => 0) ∧ Blk wr (w.heap.size + 1 + 1) 197 (wordsA 64 (sched b t)) ∧ Below w.heap.size w wr) (fun i _ => 64 - (intOf i).toNat)
      case atStart => exact ⟨16, by omega, by omega, rfl, hR, hW, hB⟩
      case round =>
        clear hP hR hW hB
        obtain ⟨t, ht0, ht, rfl, hR, hW, hB⟩ := hrel
        by_cases hlt : t < 64
        · have e16 : wr.cell? ⟨w.heap.size + 1 + 1, t - 16, none⟩ = some (.int .u32 (sched b t (t - 16))) := by rw [hW.cell, wordsA_get _ _ _ (by omega)]
          have e15 : wr.cell? ⟨w.heap.size + 1 + 1, t - 15, none⟩ = some (.int .u32 (sched b t (t - 15))) := by rw [hW.cell, wordsA_get _ _ _ (by omega)]
          have e7 : wr.cell? ⟨w.heap.size + 1 + 1, t - 7, none⟩ = some (.int .u32 (sched b t (t - 7))) := by rw [hW.cell, wordsA_get _ _ _ (by omega)]
          have e2 : wr.cell? ⟨w.heap.size + 1 + 1, t - 2, none⟩ = some (.int .u32 (sched b t (t - 2))) := by rw [hW.cell, wordsA_get _ _ _ (by omega)]
          have e0 : wr.cell? ⟨w.heap.size + 1 + 1, t, none⟩ = some (.int .u32 (sched b t t)) := by rw [hW.cell, wordsA_get _ _ _ (by omega)]
          have ef : wr.frozen? ⟨w.heap.size + 1 + 1, t, none⟩ = false := hW.frozen t
          have hlt' : (t : Int) < 64 := by omega
          have ht0' : (16 : Int) ≤ (t : Int) := by omega
          have w16 : IntKind.i64.wrap ((t : Int) - 16) = (t : Int) - 16 := by rw [IntKind.wrap_i64]; omega
          have w7 : IntKind.i64.wrap ((t : Int) - 7) = (t : Int) - 7 := by rw [IntKind.wrap_i64]; omega
          have n16 : ((t : Int) - 16).toNat = t - 16 := by omega
          have n7 : ((t : Int) - 7).toNat = t - 7 := by omega
          have g16 : 0 ≤ (t : Int) - 16 := by omega
          have g7 : 0 ≤ (t : Int) - 7 := by omega
          have l16 : (t : Int) - 16 < 64 := by omega
          have l7 : (t : Int) - 7 < 64 := by omega
          have h7 : (7 : Int) ≤ (t : Int) := by omega
          have k16 : ∀ v, (wr.setCell ⟨w.heap.size + 1 + 1, t, none⟩ v).cell? ⟨w.heap.size + 1 + 1, t - 16, none⟩ = some (.int .u32 (sched b t (t - 16))) := fun v => by rw [World.cell?_setCell_other _ _ _ _ (by intro e; injection e; omega)]; exact e16
          have k7 : ∀ v, (wr.setCell ⟨w.heap.size + 1 + 1, t, none⟩ v).cell? ⟨w.heap.size + 1 + 1, t - 7, none⟩ = some (.int .u32 (sched b t (t - 7))) := fun v => by rw [World.cell?_setCell_other _ _ _ _ (by intro e; injection e; omega)]; exact e7
          go_wp2
          go_region
          go_wp2
          go_region_held3 (fun w' => w'.cell? ⟨w.heap.size + 1 + 1, t - 16, none⟩ = some (.int .u32 (sched b t (t - 16))) ∧ w'.cell? ⟨w.heap.size + 1 + 1, t - 7, none⟩ = some (.int .u32 (sched b t (t - 7)))) (go_keep) (first | (go_at_call 100; refine (turn_any _ _ _ (by omega) (by omega)).mono ?_; rintro e w' ⟨rfl, rfl⟩))
          go_wp2
          go_roundw
          case rel =>
            go_tidy
            simp only [IntKind.wrap_u32']
            repeat apply Exists.intro
            refine ⟨?_, rfl⟩
            exact ⟨t + 1, by omega, by omega, by go_num, (hR.set_ne (by omega) _).drew.drew, by
              have h := (hW.set t (.int .u32 (nextW (sched b t) t))).drew.drew
              rw [wordsA_set] at h
              simp only [sched, if_neg (show ¬ t < 16 by omega)]; exact h, (hB.setCell (by show w.heap.size ≤ w.heap.size + 1 + 1; omega) _).drew.drew⟩
          case measure => simp [intOf]; omega
        · obtain rfl : t = 64 := by omega
          clear hlt ht ht0
          obtain ⟨c, hc⟩ : ∃ c, Hid (c = sched b 64) := ⟨_, rfl⟩
          rw [← hc.out] at hW
          go_wp2_with (refine wpList_load_row rfl 197 (.tmp 3) rfl (w.heap.size + 1 + 1) rfl 197 (wordsA 64 c) (0, 0) (.array 64 167) hW Tryz.underlying197 rfl (Tryz.size197W _) ?_; refine wpList_store_row rfl 197 (.tmp 2) (.tmp 84) rfl (w.heap.size + 1) (wordsA 64 c) rfl rfl 197 (wordsA 64 fun _ => 0) hR (Tryz.size197W _) (wordsA_sizes _ _ _) (wordsA_one _ _) ?_)
          exact bodyPost_ret (v := .agg (wordsA 64 c)) (results_cell_row Tryz.results99 _ _ (w.heap.size + 1) 197 _ (0, 0) _ rfl (hR.setRow _) Tryz.underlying197 rfl (Tryz.size197W _)) rfl ⟨by rw [hc.out], below_setRow hB (by omega) _⟩
end Go.Proofs.YtibaindbnemlcaaGreatDoor.Nd.Sh
namespace Go.Proofs.YtibaindbnemlcaaGreatDoor.Nd.Sh
open Go.RowKit

abbrev ptr (g : Nat) : Value := .pointer (some ⟨g, 0, none⟩)

structure MixJ (N : Nat) (w0 : World) (s b : Nat → Int) (w : World) (b0 b1 b2 b3 b4 b5 b6 : Bool) (v5 v6 v18 v19 v20 : Value) : Prop where
  below : Below N w0 w
  hN : N + 3 ≤ w.heap.size
  k0 : Blk w N 168 (wordsA 8 s)
  k1 : Blk w (N + 1) 170 (bytesA 64 b)
  k2 : Blk w (N + 1 + 1) 168 (wordsA 8 fun _ => 0)
  e18 : b0 = true → v18 = .agg (wordsA 64 roundsF)
  e19 : b1 = true → v19 = .agg (bytesA 64 b)
  e20 : b2 = true → v20 = .agg (wordsA 64 (sched b 64))
  e5 : b3 = true → ∃ g c, v5 = ptr g ∧ N + 3 ≤ g ∧ Blk w g 197 (wordsA 64 c) ∧ (b5 = true → c = roundsF)
  e6 : b4 = true → ∃ g c, v6 = ptr g ∧ N + 3 ≤ g ∧ Blk w g 197 (wordsA 64 c) ∧ (b6 = true → c = sched b 64)
  ne : b3 = true → b4 = true → v5 ≠ v6
  w5 : b5 = true → b3 = true
  w6 : b6 = true → b4 = true

theorem MixJ.later {N : Nat} {w0 : World} {s b : Nat → Int} {w w' : World} {b0 b1 b2 b3 b4 b5 b6 : Bool} {v5 v6 v18 v19 v20 : Value}
    (h : MixJ N w0 s b w b0 b1 b2 b3 b4 b5 b6 v5 v6 v18 v19 v20) (hb : Below w.heap.size w w') : MixJ N w0 s b w' b0 b1 b2 b3 b4 b5 b6 v5 v6 v18 v19 v20 where
  below := h.below.trans (hb.mono (by have := h.hN; omega))
  hN := Nat.le_trans h.hN hb.size
  k0 := h.k0.below hb h.k0.lt
  k1 := h.k1.below hb h.k1.lt
  k2 := h.k2.below hb h.k2.lt
  e18 := h.e18
  e19 := h.e19
  e20 := h.e20
  e5 h3 := by obtain ⟨g, c, h1, h2, h3, h4⟩ := h.e5 h3; exact ⟨g, c, h1, h2, h3.below hb h3.lt, h4⟩
  e6 h3 := by obtain ⟨g, c, h1, h2, h3, h4⟩ := h.e6 h3; exact ⟨g, c, h1, h2, h3.below hb h3.lt, h4⟩
  ne := h.ne
  w5 := h.w5
  w6 := h.w6

theorem below_new (w : World) (o : Obj) : Below w.heap.size w (w.alloc o) := (Below.refl _ _).alloc (Nat.le_refl _) o

theorem MixJ.new3 {N : Nat} {w0 : World} {s b : Nat → Int} {w : World} {b0 b1 b2 b4 b5 b6 : Bool} {v5 v6 v18 v19 v20 : Value}
    (h : MixJ N w0 s b w b0 b1 b2 false b4 b5 b6 v5 v6 v18 v19 v20) :
    MixJ N w0 s b (w.alloc (.cells (wordsA 64 fun _ => 0) 197)) b0 b1 b2 true b4 b5 b6 (ptr w.heap.size) v6 v18 v19 v20 :=
  { h.later (below_new w _) with
    e5 := fun _ => ⟨w.heap.size, _, rfl, h.hN, Blk.new _ _ _, fun e => by have := h.w5 e; simp at this⟩
    w5 := fun _ => rfl
    ne := fun _ h4 => by
      obtain ⟨g, c, h1, h2, h3, h4⟩ := h.e6 h4
      have := h3.lt
      rw [h1]; intro e; simp at e; try omega }
theorem MixJ.new4 {N : Nat} {w0 : World} {s b : Nat → Int} {w : World} {b0 b1 b2 b3 b5 b6 : Bool} {v5 v6 v18 v19 v20 : Value}
    (h : MixJ N w0 s b w b0 b1 b2 b3 false b5 b6 v5 v6 v18 v19 v20) :
    MixJ N w0 s b (w.alloc (.cells (wordsA 64 fun _ => 0) 197)) b0 b1 b2 b3 true b5 b6 v5 (ptr w.heap.size) v18 v19 v20 :=
  { h.later (below_new w _) with
    e6 := fun _ => ⟨w.heap.size, _, rfl, h.hN, Blk.new _ _ _, fun e => by have := h.w6 e; simp at this⟩
    w6 := fun _ => rfl
    ne := fun h3 _ => by
      obtain ⟨g, c, h1, h2, h3, h4⟩ := h.e5 h3
      have := h3.lt
      rw [h1]; intro e; simp at e; try omega }
theorem MixJ.store5 {N : Nat} {w0 : World} {s b : Nat → Int} {w : World} {b0 b1 b2 b4 b5 b6 : Bool} {g : Nat} {c : Nat → Int} {v6 v18 v19 v20 : Value}
    (h : MixJ N w0 s b w b0 b1 b2 true b4 b5 b6 (ptr g) v6 v18 v19 v20) (hg : N + 3 ≤ g) (hb : Blk w g 197 (wordsA 64 c)) :
    MixJ N w0 s b (w.setRow g (wordsA 64 roundsF)) b0 b1 b2 true b4 true b6 (ptr g) v6 v18 v19 v20 :=
  { h with
    below := below_setRow h.below (by omega) _
    hN := by rw [setRow_size]; exact h.hN
    k0 := h.k0.setRow_ne (by omega) _
    k1 := h.k1.setRow_ne (by omega) _
    k2 := h.k2.setRow_ne (by omega) _
    e5 := fun _ => ⟨g, roundsF, rfl, hg, hb.setRow _, fun _ => rfl⟩
    w5 := fun _ => rfl
    e6 := fun h4 => by
      obtain ⟨g', c', h1, h2, h3, h5⟩ := h.e6 h4
      exact ⟨g', c', h1, h2, h3.setRow_ne (fun e => h.ne rfl h4 (by rw [h1, e])) _, h5⟩ }
theorem MixJ.store6 {N : Nat} {w0 : World} {s b : Nat → Int} {w : World} {b0 b1 b2 b3 b5 b6 : Bool} {g : Nat} {c : Nat → Int} {v5 v18 v19 v20 : Value}
    (h : MixJ N w0 s b w b0 b1 b2 b3 true b5 b6 v5 (ptr g) v18 v19 v20) (hg : N + 3 ≤ g) (hb : Blk w g 197 (wordsA 64 c)) :
    MixJ N w0 s b (w.setRow g (wordsA 64 (sched b 64))) b0 b1 b2 b3 true b5 true v5 (ptr g) v18 v19 v20 :=
  { h with
    below := below_setRow h.below (by omega) _
    hN := by rw [setRow_size]; exact h.hN
    k0 := h.k0.setRow_ne (by omega) _
    k1 := h.k1.setRow_ne (by omega) _
    k2 := h.k2.setRow_ne (by omega) _
    e6 := fun _ => ⟨g, sched b 64, rfl, hg, hb.setRow _, fun _ => rfl⟩
    w6 := fun _ => rfl
    e5 := fun h4 => by
      obtain ⟨g', c', h1, h2, h3, h5⟩ := h.e5 h4
      exact ⟨g', c', h1, h2, h3.setRow_ne (fun e => h.ne h4 rfl (by rw [h1, e])) _, h5⟩ }

def fr5 (a0 : Act) (v5 v6 v18 v19 v20 : Value) : Act := ((((a0.put (some 5) v5).put (some 6) v6).put (some 18) v18).put (some 19) v19).put (some 20) v20

theorem put_none (a : Act) (v : Value) : a.put none v = a := rfl
theorem put_put (a : Act) (d : Nat) (v u : Value) : (a.put (some d) v).put (some d) u = a.put (some d) u := by
  simp [Act.put]
theorem put_swap (a : Act) (d e : Nat) (v u : Value) (h : d ≠ e) : (a.put (some d) v).put (some e) u = (a.put (some e) u).put (some d) v :=
  Act.put_comm a v u (fun x hx => by injection hx with hx; subst hx; simpa using Ne.symm h)
theorem eval_same (a : Act) (d : Nat) (v : Value) (h : d < a.tmps.size) : (a.put (some d) v).eval (.tmp d) = v := by
  simp [Act.put, Act.eval, Array.getD, h]
theorem eval_other (a : Act) (d j : Nat) (v : Value) (h : d ≠ j) : (a.put (some d) v).eval (.tmp j) = a.eval (.tmp j) :=
  Act.eval_put (fun x hx => by injection hx with hx; subst hx; simpa using Ne.symm h)
theorem size_put (a : Act) (d : Option Tmp) (v : Value) : (a.put d v).tmps.size = a.tmps.size := by cases d <;> simp [Act.put]

theorem fr5_p5 (a0 : Act) (v5 v6 v18 v19 v20 u : Value) : (fr5 a0 v5 v6 v18 v19 v20).put (some 5) u = fr5 a0 u v6 v18 v19 v20 := by
  unfold fr5
  rw [put_swap _ 20 5 _ _ (by decide), put_swap _ 19 5 _ _ (by decide), put_swap _ 18 5 _ _ (by decide), put_swap _ 6 5 _ _ (by decide), put_put]
theorem fr5_p6 (a0 : Act) (v5 v6 v18 v19 v20 u : Value) : (fr5 a0 v5 v6 v18 v19 v20).put (some 6) u = fr5 a0 v5 u v18 v19 v20 := by
  unfold fr5
  rw [put_swap _ 20 6 _ _ (by decide), put_swap _ 19 6 _ _ (by decide), put_swap _ 18 6 _ _ (by decide), put_put]
theorem fr5_p18 (a0 : Act) (v5 v6 v18 v19 v20 u : Value) : (fr5 a0 v5 v6 v18 v19 v20).put (some 18) u = fr5 a0 v5 v6 u v19 v20 := by
  unfold fr5
  rw [put_swap _ 20 18 _ _ (by decide), put_swap _ 19 18 _ _ (by decide), put_put]
theorem fr5_p19 (a0 : Act) (v5 v6 v18 v19 v20 u : Value) : (fr5 a0 v5 v6 v18 v19 v20).put (some 19) u = fr5 a0 v5 v6 v18 u v20 := by
  unfold fr5
  rw [put_swap _ 20 19 _ _ (by decide), put_put]
theorem fr5_p20 (a0 : Act) (v5 v6 v18 v19 v20 u : Value) : (fr5 a0 v5 v6 v18 v19 v20).put (some 20) u = fr5 a0 v5 v6 v18 v19 u := by
  unfold fr5
  rw [put_put]
theorem fr5_e3 (a0 : Act) (v5 v6 v18 v19 v20 : Value) : (fr5 a0 v5 v6 v18 v19 v20).eval (.tmp 3) = a0.eval (.tmp 3) := by
  unfold fr5
  rw [eval_other _ 20 3 _ (by decide), eval_other _ 19 3 _ (by decide), eval_other _ 18 3 _ (by decide), eval_other _ 6 3 _ (by decide), eval_other _ 5 3 _ (by decide)]
theorem fr5_e5 (a0 : Act) (v5 v6 v18 v19 v20 : Value) (h : 20 < a0.tmps.size) : (fr5 a0 v5 v6 v18 v19 v20).eval (.tmp 5) = v5 := by
  unfold fr5
  rw [eval_other _ 20 5 _ (by decide), eval_other _ 19 5 _ (by decide), eval_other _ 18 5 _ (by decide), eval_other _ 6 5 _ (by decide), eval_same _ _ _ (by omega)]
theorem fr5_e6 (a0 : Act) (v5 v6 v18 v19 v20 : Value) (h : 20 < a0.tmps.size) : (fr5 a0 v5 v6 v18 v19 v20).eval (.tmp 6) = v6 := by
  unfold fr5
  rw [eval_other _ 20 6 _ (by decide), eval_other _ 19 6 _ (by decide), eval_other _ 18 6 _ (by decide), eval_same _ _ _ (by rw [size_put]; omega)]
theorem fr5_e18 (a0 : Act) (v5 v6 v18 v19 v20 : Value) (h : 20 < a0.tmps.size) : (fr5 a0 v5 v6 v18 v19 v20).eval (.tmp 18) = v18 := by
  unfold fr5
  rw [eval_other _ 20 18 _ (by decide), eval_other _ 19 18 _ (by decide), eval_same _ _ _ (by rw [size_put, size_put]; omega)]
theorem fr5_e19 (a0 : Act) (v5 v6 v18 v19 v20 : Value) (h : 20 < a0.tmps.size) : (fr5 a0 v5 v6 v18 v19 v20).eval (.tmp 19) = v19 := by
  unfold fr5
  rw [eval_other _ 20 19 _ (by decide), eval_same _ _ _ (by rw [size_put, size_put, size_put]; omega)]
theorem fr5_e20 (a0 : Act) (v5 v6 v18 v19 v20 : Value) (h : 20 < a0.tmps.size) : (fr5 a0 v5 v6 v18 v19 v20).eval (.tmp 20) = v20 := by
  unfold fr5
  rw [eval_same _ _ _ (by rw [size_put, size_put, size_put, size_put]; omega)]

def mo0 (q : String) : Oper := { dst := some 18, op := Op.call { callee := Callee.value (Operand.func 98), args := #[], argTypes := #[] }, type := 197, pos := q, after := #[], guard := none }
def mo1 (q : String) : Oper := { dst := some 19, op := Op.load 170 (Operand.tmp 3), type := 170, pos := q, after := #[], guard := none }
def mo2 (q : String) : Oper := { dst := some 20, op := Op.call { callee := Callee.value (Operand.func 99), args := #[Operand.tmp 19], argTypes := #[170] }, type := 197, pos := q, after := #[{ on := 1, ground := Ground.data }, { on := 0, ground := Ground.chain }], guard := none }
def mo3 (q : String) : Oper := { dst := some 5, op := Op.alloc 197, type := 0, pos := q, after := #[], guard := none }
def mo4 (q : String) : Oper := { dst := some 6, op := Op.alloc 197, type := 0, pos := q, after := #[], guard := none }
def mo5 (q : String) : Oper := { dst := none, op := Op.store 197 (Operand.tmp 5) (Operand.tmp 18), type := 0, pos := q, after := #[{ on := 3, ground := Ground.data }, { on := 0, ground := Ground.data }, { on := 2, ground := Ground.chain }, { on := 0, ground := Ground.phase }, { on := 1, ground := Ground.textOnly Departure.lateStores }, { on := 2, ground := Ground.textOnly Departure.lateStoresUnsure }, { on := 3, ground := Ground.phase }, { on := 4, ground := Ground.phase }], guard := none }
def mo6 (q : String) : Oper := { dst := none, op := Op.store 197 (Operand.tmp 6) (Operand.tmp 20), type := 0, pos := q, after := #[{ on := 4, ground := Ground.data }, { on := 2, ground := Ground.data }, { on := 5, ground := Ground.chain }, { on := 0, ground := Ground.phase }, { on := 1, ground := Ground.phase }, { on := 2, ground := Ground.phase }, { on := 3, ground := Ground.phase }, { on := 4, ground := Ground.phase }, { on := 5, ground := Ground.phase }], guard := none }

def MixI (N : Nat) (w : World) (s b : Nat → Int) (a0 : Act) (l : Array Bool) (a : Act) (wc : World) : Prop :=
  ∃ b0 b1 b2 b3 b4 b5 b6 : Bool, l = #[b0, b1, b2, b3, b4, b5, b6] ∧ ∃ v5 v6 v18 v19 v20, a = fr5 a0 v5 v6 v18 v19 v20 ∧ MixJ N w s b wc b0 b1 b2 b3 b4 b5 b6 v5 v6 v18 v19 v20

section
variable {N : Nat} {w wc : World} {s b : Nat → Int} {a0 : Act} {b0 b1 b2 b3 b4 b5 b6 : Bool} {v5 v6 v18 v19 v20 : Value} {Q : Exit → Act → World → Prop}
theorem mix_s0 {o : Oper} (ho : o.op = .call { callee := .value (.func 98), args := #[], argTypes := #[] }) (hd : o.dst = some 18) (hJ : MixJ N w s b wc b0 b1 b2 b3 b4 b5 b6 v5 v6 v18 v19 v20) :
    o.wp Tryz.prog (fr5 a0 v5 v6 v18 v19 v20) wc (MixI N w s b a0 #[true, b1, b2, b3, b4, b5, b6]) Q :=
  wp_callF 98 #[] #[] ho Tryz.enter98 #[] (by simp) (fun v w' => v = .agg (wordsA 64 roundsF) ∧ w' = wc.alloc (.cells (wordsA 64 roundsF) 197))
    ((rounds_any wc).mono (by rintro e w' ⟨rfl, rfl⟩; exact ⟨_, rfl, rfl, rfl⟩))
    (by rintro v w' ⟨rfl, rfl⟩; rw [hd]; exact ⟨true, b1, b2, b3, b4, b5, b6, rfl, v5, v6, _, v19, v20, fr5_p18 _ _ _ _ _ _ _, { hJ.later (below_new wc _) with e18 := fun _ => rfl }⟩)
theorem mix_s1 {o : Oper} (ho : o.op = .load 170 (.tmp 3)) (hd : o.dst = some 19) (h3 : a0.eval (.tmp 3) = ptr (N + 1)) (hJ : MixJ N w s b wc b0 b1 b2 b3 b4 b5 b6 v5 v6 v18 v19 v20) :
    o.wp Tryz.prog (fr5 a0 v5 v6 v18 v19 v20) wc (MixI N w s b a0 #[b0, true, b2, b3, b4, b5, b6]) Q :=
  wp_load_row 170 (.tmp 3) ho (N + 1) (by rw [fr5_e3]; exact h3) 170 (bytesA 64 b) (0, 0) (.array 64 5) hJ.k1 Tryz.underlying170 rfl (Tryz.size170B _)
    (by rw [hd]; exact ⟨b0, true, b2, b3, b4, b5, b6, rfl, v5, v6, v18, _, v20, fr5_p19 _ _ _ _ _ _ _, { hJ with e19 := fun _ => rfl }⟩)
theorem mix_s2 {o : Oper} (ho : o.op = .call { callee := .value (.func 99), args := #[.tmp 19], argTypes := #[170] }) (hd : o.dst = some 20) (hsz : 20 < a0.tmps.size) (hJ : MixJ N w s b wc b0 true b2 b3 b4 b5 b6 v5 v6 v18 v19 v20) :
    o.wp Tryz.prog (fr5 a0 v5 v6 v18 v19 v20) wc (MixI N w s b a0 #[b0, true, true, b3, b4, b5, b6]) Q :=
  wp_callF 99 #[.tmp 19] #[170] ho Tryz.enter99 #[.agg (bytesA 64 b)] (by rw [hJ.e19 rfl]; simp only [List.map_toArray, List.map_cons, List.map_nil, fr5_e19 _ _ _ _ _ _ hsz])
    (fun v w' => v = .agg (wordsA 64 (sched b 64)) ∧ Below wc.heap.size wc w') ((spread_any b wc).mono (by rintro e w' ⟨rfl, hb⟩; exact ⟨_, rfl, rfl, hb⟩))
    (by rintro v w' ⟨rfl, hb⟩; rw [hd]; exact ⟨b0, true, true, b3, b4, b5, b6, rfl, v5, v6, v18, _, _, fr5_p20 _ _ _ _ _ _ _, { hJ.later hb with e20 := fun _ => rfl }⟩)
theorem mix_s3 {o : Oper} (ho : o.op = .alloc 197) (hd : o.dst = some 5) (hJ : MixJ N w s b wc b0 b1 b2 false b4 b5 b6 v5 v6 v18 v19 v20) :
    o.wp Tryz.prog (fr5 a0 v5 v6 v18 v19 v20) wc (MixI N w s b a0 #[b0, b1, b2, true, b4, b5, b6]) Q :=
  wp_new 197 ho _ Tryz.new197 (by rw [hd]; exact ⟨b0, b1, b2, true, b4, b5, b6, rfl, _, v6, v18, v19, v20, fr5_p5 _ _ _ _ _ _ _, hJ.new3⟩)
theorem mix_s4 {o : Oper} (ho : o.op = .alloc 197) (hd : o.dst = some 6) (hJ : MixJ N w s b wc b0 b1 b2 b3 false b5 b6 v5 v6 v18 v19 v20) :
    o.wp Tryz.prog (fr5 a0 v5 v6 v18 v19 v20) wc (MixI N w s b a0 #[b0, b1, b2, b3, true, b5, b6]) Q :=
  wp_new 197 ho _ Tryz.new197 (by rw [hd]; exact ⟨b0, b1, b2, b3, true, b5, b6, rfl, v5, _, v18, v19, v20, fr5_p6 _ _ _ _ _ _ _, hJ.new4⟩)
theorem mix_s5 {o : Oper} (ho : o.op = .store 197 (.tmp 5) (.tmp 18)) (hd : o.dst = none) (hsz : 20 < a0.tmps.size) (hJ : MixJ N w s b wc true b1 b2 true b4 b5 b6 v5 v6 v18 v19 v20) :
    o.wp Tryz.prog (fr5 a0 v5 v6 v18 v19 v20) wc (MixI N w s b a0 #[true, b1, b2, true, b4, true, b6]) Q := by
  obtain rfl := hJ.e18 rfl
  obtain ⟨g, c, rfl, hg, hb, _⟩ := hJ.e5 rfl
  exact wp_store_row 197 (.tmp 5) (.tmp 18) ho g (wordsA 64 roundsF) (fr5_e5 _ _ _ _ _ _ hsz) (fr5_e18 _ _ _ _ _ _ hsz) 197 (wordsA 64 c) hb (Tryz.size197W _) (wordsA_sizes _ _ _) (wordsA_one _ _)
    (by rw [hd]; exact ⟨true, b1, b2, true, b4, true, b6, rfl, ptr g, v6, .agg (wordsA 64 roundsF), v19, v20, put_none _ _, hJ.store5 hg hb⟩)
theorem mix_s6 {o : Oper} (ho : o.op = .store 197 (.tmp 6) (.tmp 20)) (hd : o.dst = none) (hsz : 20 < a0.tmps.size) (hJ : MixJ N w s b wc b0 b1 true b3 true b5 b6 v5 v6 v18 v19 v20) :
    o.wp Tryz.prog (fr5 a0 v5 v6 v18 v19 v20) wc (MixI N w s b a0 #[b0, b1, true, b3, true, b5, true]) Q := by
  obtain rfl := hJ.e20 rfl
  obtain ⟨g, c, rfl, hg, hb, _⟩ := hJ.e6 rfl
  exact wp_store_row 197 (.tmp 6) (.tmp 20) ho g (wordsA 64 (sched b 64)) (fr5_e6 _ _ _ _ _ _ hsz) (fr5_e20 _ _ _ _ _ _ hsz) 197 (wordsA 64 c) hb (Tryz.size197W _) (wordsA_sizes _ _ _) (wordsA_one _ _)
    (by rw [hd]; exact ⟨b0, b1, true, b3, true, b5, true, rfl, v5, ptr g, v18, v19, .agg (wordsA 64 (sched b 64)), put_none _ _, hJ.store6 hg hb⟩)
end

theorem mix_step (q : String) {N : Nat} {w : World} {s b : Nat → Int} {a0 : Act} {Q : Exit → Act → World → Prop} (hsz : 20 < a0.tmps.size) (h3 : a0.eval (.tmp 3) = ptr (N + 1))
    (l : Array Bool) (a : Act) (wc : World) (i : Nat) (o : Oper) (hI : MixI N w s b a0 l a wc) (hi : l.getD i true = false) (ho : (#[mo0 q, mo1 q, mo2 q, mo3 q, mo4 q, mo5 q, mo6 q] : Array Oper)[i]? = some o)
    (he : ∀ e ∈ o.after, Region.binds .any e = true → l.getD e.on false = true) :
    o.guard = none ∧ o.wp Tryz.prog a wc (MixI N w s b a0 (l.setIfInBounds i true)) Q := by
  obtain ⟨b0, b1, b2, b3, b4, b5, b6, rfl, v5, v6, v18, v19, v20, rfl, hJ⟩ := hI
  match i, hi, ho with
  | 0, hi, ho =>
    have e : mo0 q = o := Option.some.inj ho
    exact ⟨by rw [← e]; rfl, mix_s0 (by rw [← e]; rfl) (by rw [← e]; rfl) hJ⟩
  | 1, hi, ho =>
    have e : mo1 q = o := Option.some.inj ho
    exact ⟨by rw [← e]; rfl, mix_s1 (by rw [← e]; rfl) (by rw [← e]; rfl) h3 hJ⟩
  | 2, hi, ho =>
    have e : mo2 q = o := Option.some.inj ho
    obtain rfl : b1 = true := he ⟨1, .data⟩ (by rw [← e]; simp [mo2]) rfl
    exact ⟨by rw [← e]; rfl, mix_s2 (by rw [← e]; rfl) (by rw [← e]; rfl) hsz hJ⟩
  | 3, hi, ho =>
    have e : mo3 q = o := Option.some.inj ho
    obtain rfl : b3 = false := hi
    exact ⟨by rw [← e]; rfl, mix_s3 (by rw [← e]; rfl) (by rw [← e]; rfl) hJ⟩
  | 4, hi, ho =>
    have e : mo4 q = o := Option.some.inj ho
    obtain rfl : b4 = false := hi
    exact ⟨by rw [← e]; rfl, mix_s4 (by rw [← e]; rfl) (by rw [← e]; rfl) hJ⟩
  | 5, hi, ho =>
    have e : mo5 q = o := Option.some.inj ho
    obtain rfl : b0 = true := he ⟨0, .data⟩ (by rw [← e]; simp [mo5]) rfl
    obtain rfl : b3 = true := he ⟨3, .data⟩ (by rw [← e]; simp [mo5]) rfl
    exact ⟨by rw [← e]; rfl, mix_s5 (by rw [← e]; rfl) (by rw [← e]; rfl) hsz hJ⟩
  | 6, hi, ho =>
    have e : mo6 q = o := Option.some.inj ho
    obtain rfl : b2 = true := he ⟨2, .data⟩ (by rw [← e]; simp [mo6]) rfl
    obtain rfl : b4 = true := he ⟨4, .data⟩ (by rw [← e]; simp [mo6]) rfl
    exact ⟨by rw [← e]; rfl, mix_s6 (by rw [← e]; rfl) (by rw [← e]; rfl) hsz hJ⟩
  | n + 7, hi, ho => simp at ho

theorem mix_back (q : String) (i : Nat) (o : Oper) (ho : (#[mo0 q, mo1 q, mo2 q, mo3 q, mo4 q, mo5 q, mo6 q] : Array Oper)[i]? = some o) (e : Edge) (he : e ∈ o.after) (_ : Region.binds .any e = true) : e.on < i := by
  match i, ho with
  | 0, ho => obtain rfl : mo0 q = o := Option.some.inj ho; simp [mo0] at he
  | 1, ho => obtain rfl : mo1 q = o := Option.some.inj ho; simp [mo1] at he
  | 2, ho => obtain rfl : mo2 q = o := Option.some.inj ho; simp [mo2] at he; rcases he with rfl | rfl <;> decide
  | 3, ho => obtain rfl : mo3 q = o := Option.some.inj ho; simp [mo3] at he
  | 4, ho => obtain rfl : mo4 q = o := Option.some.inj ho; simp [mo4] at he
  | 5, ho => obtain rfl : mo5 q = o := Option.some.inj ho; simp [mo5] at he; rcases he with rfl | rfl | rfl | rfl | rfl | rfl | rfl | rfl <;> decide
  | 6, ho => obtain rfl : mo6 q = o := Option.some.inj ho; simp [mo6] at he; rcases he with rfl | rfl | rfl | rfl | rfl | rfl | rfl | rfl | rfl <;> decide
  | n + 7, ho => simp at ho

theorem mix_region1 (q : String) (N : Nat) (w w0 : World) (s b : Nat → Int) (a0 : Act) (hsz : 20 < a0.tmps.size) (h3 : a0.eval (.tmp 3) = ptr (N + 1))
    (hu : a0 = fr5 a0 undef undef undef undef undef) (hJ0 : MixJ N w s b w0.drew false false false false false false false undef undef undef undef undef)
    (Q : Exit → Act → World → Prop)
    (hQ : ∀ (g k : Nat) (v18 v19 v20 : Value) (wc : World), N + 3 ≤ g → N + 3 ≤ k → g ≠ k → Blk wc g 197 (wordsA 64 roundsF) → Blk wc k 197 (wordsA 64 (sched b 64)) →
      Blk wc N 168 (wordsA 8 s) → Blk wc (N + 1 + 1) 168 (wordsA 8 fun _ => 0) → Below N w wc → Q .normal (fr5 a0 (ptr g) (ptr k) v18 v19 v20) wc) :
    (Code.region 1 #[mo0 q, mo1 q, mo2 q, mo3 q, mo4 q, mo5 q, mo6 q] true).wp Tryz.prog Q a0 w0 := by
  refine wp_region_inv (by kernel_rfl) (MixI N w s b a0) ?_ (mix_step q hsz h3) (mix_back q) ?_ ?_
  · rintro _ _ _ ⟨b0, b1, b2, b3, b4, b5, b6, rfl, _⟩; rfl
  · rintro _ _ wc ⟨b0, b1, b2, b3, b4, b5, b6, rfl, v5, v6, v18, v19, v20, rfl, hJ⟩ hall
    have q3 : b3 = true := hall 3 (by simp)
    have q4 : b4 = true := hall 4 (by simp)
    have q5 : b5 = true := hall 5 (by simp)
    have q6 : b6 = true := hall 6 (by simp)
    obtain ⟨g, c, rfl, hg, hb, hc⟩ := hJ.e5 q3
    obtain ⟨k, d, rfl, hk, hd, hdd⟩ := hJ.e6 q4
    obtain rfl := hc q5
    obtain rfl := hdd q6
    exact hQ g k v18 v19 v20 wc hg hk (fun e => hJ.ne q3 q4 (by rw [e])) hb hd hJ.k0 hJ.k2 hJ.below
  · exact ⟨false, false, false, false, false, false, false, rfl, _, _, _, _, _, hu, hJ0⟩

end Go.Proofs.YtibaindbnemlcaaGreatDoor.Nd.Sh
namespace Go.Proofs.YtibaindbnemlcaaGreatDoor.Nd.Sh
open Go.RowKit

structure R8 where
  a : Int
  b : Int
  c : Int
  d : Int
  e : Int
  f : Int
  g : Int
  h : Int

def big1 (x : Int) : Int := bits .xor .u32 (bits .xor .u32 (rot x 6) (rot x 11)) (rot x 25)
def big0 (x : Int) : Int := bits .xor .u32 (bits .xor .u32 (rot x 2) (rot x 13)) (rot x 22)
def chF (e f g : Int) : Int := bits .xor .u32 (bits .and .u32 e f) (bits .and .u32 (bits .xor .u32 4294967295 e) g)
def majF (a b c : Int) : Int := bits .xor .u32 (bits .xor .u32 (bits .and .u32 a b) (bits .and .u32 a c)) (bits .and .u32 b c)
def uF (k w : Int) (r : R8) : Int := (r.h + big1 r.e + chF r.e r.f r.g + k + w) % 4294967296
def vF (r : R8) : Int := (big0 r.a + majF r.a r.b r.c) % 4294967296
def stepF (k w : Int) (r : R8) : R8 := ⟨(uF k w r + vF r) % 4294967296, r.a, r.b, r.c, (r.d + uF k w r) % 4294967296, r.e, r.f, r.g⟩
def runF (kk ww : Nat → Int) (r : R8) : Nat → R8
  | 0 => r
  | t + 1 => stepF (kk t) (ww t) (runF kk ww r t)
def r8 (s : Nat → Int) : R8 := ⟨s 0, s 1, s 2, s 3, s 4, s 5, s 6, s 7⟩
def outF (s : Nat → Int) (r : R8) (i : Nat) : Int :=
  [(s 0 + r.a) % 4294967296, (s 1 + r.b) % 4294967296, (s 2 + r.c) % 4294967296, (s 3 + r.d) % 4294967296, (s 4 + r.e) % 4294967296, (s 5 + r.f) % 4294967296, (s 6 + r.g) % 4294967296, (s 7 + r.h) % 4294967296].getD i 0
def mixF (s b : Nat → Int) : Nat → Int := outF s (runF roundsF (sched b 64) (r8 s) 64)
theorem u32_all : (if IntKind.u32.signed = true then -1 else IntKind.u32.max) = 4294967295 := by decide

theorem blk_drewN {w : World} {b : Nat} {T : TypeId} {cs : Array Value} (h : Blk w b T cs) (n : Nat) : Blk (w.drewN n) b T cs := by
  induction n with
  | zero => exact h
  | succ n ih => exact ih

set_option maxRecDepth 8000 in
set_option maxHeartbeats 1000000 in
theorem mix_any (s b : Nat → Int) (w : World) :
    Calls Tryz.prog 80 #[.agg (wordsA 8 s), .agg (bytesA 64 b)] w fun e w' => e = .returned (.agg (wordsA 8 (mixF s b))) ∧ Below w.heap.size w w' := by
  go_enter Tryz.func80, Tryz.ntmps80
  go_wp2_with (first | (refine wpList_boxA rfl 168 (.tmp 0) rfl (wordsA 8 s) rfl ?_; refine wpList_boxA rfl 170 (.tmp 1) rfl (bytesA 64 b) rfl ?_) | (refine wpList_new rfl 168 rfl _ Tryz.new168 ?_))
  have hB : Below w.heap.size w (((w.alloc (.cells (wordsA 8 s) 168)).alloc (.cells (bytesA 64 b) 170)).alloc (.cells (wordsA 8 fun _ => 0) 168)) :=
    (((Below.refl _ _).alloc (Nat.le_refl _) _).alloc (by simp) _).alloc (by simp; omega) _
  have hJ : MixJ w.heap.size w s b (((w.alloc (.cells (wordsA 8 s) 168)).alloc (.cells (bytesA 64 b) 170)).alloc (.cells (wordsA 8 fun _ => 0) 168)).drew false false false false false false false undef undef undef undef undef :=
    { below := hB.drew, hN := by simp [World.drew],
      k0 := (((Blk.new w 168 (wordsA 8 s)).alloc _).alloc _).drew
      k1 := by simpa using ((Blk.new (w.alloc (.cells (wordsA 8 s) 168)) 170 (bytesA 64 b)).alloc (.cells (wordsA 8 fun _ => 0) 168)).drew
      k2 := by simpa using (Blk.new ((w.alloc (.cells (wordsA 8 s) 168)).alloc (.cells (bytesA 64 b) 170)) 168 (wordsA 8 fun _ => 0)).drew
      e18 := fun h => by simp at h, e19 := fun h => by simp at h, e20 := fun h => by simp at h, e5 := fun h => by simp at h, e6 := fun h => by simp at h, ne := fun h => by simp at h, w5 := fun h => by simp at h, w6 := fun h => by simp at h }
  clear hB
  generalize (((w.alloc (.cells (wordsA 8 s) 168)).alloc (.cells (bytesA 64 b) 170)).alloc (.cells (wordsA 8 fun _ => 0) 168)) = w0 at *
  simp only [Act.put, List.setIfInBounds_toArray, List.set_cons_succ, List.set_cons_zero, World.size_alloc]
  refine mix_region1 _ w.heap.size w w0 s b _ (by simp) rfl rfl hJ _ ?_
  intro g k v18 v19 v20 wc hg hk hgk hG hK hS hR hB
  simp only [fr5, Act.put, List.setIfInBounds_toArray, List.set_cons_succ, List.set_cons_zero]
  clear hJ
  have s0 : wc.cell? ⟨w.heap.size, 0, none⟩ = some (.int .u32 (s 0)) := by rw [hS.cell, wordsA_get _ _ _ (by omega)]
  have s1 : wc.cell? ⟨w.heap.size, 1, none⟩ = some (.int .u32 (s 1)) := by rw [hS.cell, wordsA_get _ _ _ (by omega)]
  have s2 : wc.cell? ⟨w.heap.size, 2, none⟩ = some (.int .u32 (s 2)) := by rw [hS.cell, wordsA_get _ _ _ (by omega)]
  have s3 : wc.cell? ⟨w.heap.size, 3, none⟩ = some (.int .u32 (s 3)) := by rw [hS.cell, wordsA_get _ _ _ (by omega)]
  have s4 : wc.cell? ⟨w.heap.size, 4, none⟩ = some (.int .u32 (s 4)) := by rw [hS.cell, wordsA_get _ _ _ (by omega)]
  have s5 : wc.cell? ⟨w.heap.size, 5, none⟩ = some (.int .u32 (s 5)) := by rw [hS.cell, wordsA_get _ _ _ (by omega)]
  have s6 : wc.cell? ⟨w.heap.size, 6, none⟩ = some (.int .u32 (s 6)) := by rw [hS.cell, wordsA_get _ _ _ (by omega)]
  have s7 : wc.cell? ⟨w.heap.size, 7, none⟩ = some (.int .u32 (s 7)) := by rw [hS.cell, wordsA_get _ _ _ (by omega)]
  go_wp2
  go_quiet (fail)
  go_wp2
  clear s0 s1 s2 s3 s4 s5 s6 s7
  have hG0 := blk_drewN hG nq
  have hK0 := blk_drewN hK nq
  have hS0 := blk_drewN hS nq
  have hR0 := blk_drewN hR nq
  have hB0 : Below w.heap.size w (wc.drewN nq) := below_drewN hB nq
  go_loopw [7, 8, 9, 10, 11, 12, 13, 14, 37] (fun xa xb xc xd xe xf xg xh i wr => ∃ t : Nat, t ≤ 64 ∧ i = .int .i64 t ∧
      xa = .int .u32 (runF roundsF (sched b 64) (r8 s) t).a ∧ xb = .int .u32 (runF roundsF (sched b 64) (r8 s) t).b ∧ xc = .int .u32 (runF roundsF (sched b 64) (r8 s) t).c ∧ xd = .int .u32 (runF roundsF (sched b 64) (r8 s) t).d ∧
      xe = .int .u32 (runF roundsF (sched b 64) (r8 s) t).e ∧ xf = .int .u32 (runF roundsF (sched b 64) (r8 s) t).f ∧ xg = .int .u32 (runF roundsF (sched b 64) (r8 s) t).g ∧ xh = .int .u32 (runF roundsF (sched b 64) (r8 s) t).h ∧
      Blk wr g 197 (wordsA 64 roundsF) ∧ Blk wr k 197 (wordsA 64 (sched b 64)) ∧ Blk wr w.heap.size 168 (wordsA 8 s) ∧ Blk wr (w.heap.size + 1 + 1) 168 (wordsA 8 fun _ => 0) ∧ Below w.heap.size w wr) (fun _ _ _ _ _ _ _ _ i _ => 64 - (intOf i).toNat)
  case atStart => exact ⟨0, by omega, rfl, rfl, rfl, rfl, rfl, rfl, rfl, rfl, rfl, hG0, hK0, hS0, hR0, hB0⟩
  case round =>
    clear hG0 hK0 hS0 hR0 hB0 hG hK hS hR hB
    obtain ⟨t, ht, rfl, rfl, rfl, rfl, rfl, rfl, rfl, rfl, rfl, hG, hK, hS, hR, hB⟩ := hrel
    obtain ⟨r, hr⟩ : ∃ r, Hid (r = runF roundsF (sched b 64) (r8 s) t) := ⟨_, rfl⟩
    rw [← hr.out]
    obtain ⟨ra, rb, rc, rd, re, rf, rg, rh⟩ := r
    dsimp only
    by_cases hlt : t < 64
    · have eg : wr.cell? ⟨g, t, none⟩ = some (.int .u32 (roundsF t)) := by rw [hG.cell, wordsA_get _ _ _ (by omega)]
      have ek : wr.cell? ⟨k, t, none⟩ = some (.int .u32 (sched b 64 t)) := by rw [hK.cell, wordsA_get _ _ _ (by omega)]
      obtain ⟨kt, hkt⟩ : ∃ kt, Hid (kt = roundsF t) := ⟨_, rfl⟩
      obtain ⟨wt, hwt⟩ : ∃ wt, Hid (wt = sched b 64 t) := ⟨_, rfl⟩
      rw [← hkt.out] at eg
      rw [← hwt.out] at ek
      go_wp2
      go_quiet ((go_at_call 100; exact Calls.quiet_of_same (turn_any _ _ _ (by omega) (by omega))))
      go_wp2_with (go_at_call 100; refine (turn_any _ _ _ (by omega) (by omega)).mono ?_; rintro e w' ⟨rfl, rfl⟩)
      go_roundw
      case rel =>
        have hn : runF roundsF (sched b 64) (r8 s) (t + 1) = stepF kt wt ⟨ra, rb, rc, rd, re, rf, rg, rh⟩ := by rw [hkt.out, hwt.out, hr.out]; rfl
        simp only [u32_all]
        exact ⟨t + 1, by omega, by go_num, by rw [hn]; rfl, by rw [hn]; rfl, by rw [hn]; rfl, by rw [hn]; rfl, by rw [hn]; rfl, by rw [hn]; rfl, by rw [hn]; rfl, by rw [hn]; rfl, blk_drewN hG _, blk_drewN hK _, blk_drewN hS _, blk_drewN hR _, below_drewN hB _⟩
      case measure => simp [intOf]; omega
    · obtain rfl : t = 64 := by omega
      clear hlt ht
      have s0 : wr.cell? ⟨w.heap.size, 0, none⟩ = some (.int .u32 (s 0)) := by rw [hS.cell, wordsA_get _ _ _ (by omega)]
      have s1 : wr.cell? ⟨w.heap.size, 1, none⟩ = some (.int .u32 (s 1)) := by rw [hS.cell, wordsA_get _ _ _ (by omega)]
      have s2 : wr.cell? ⟨w.heap.size, 2, none⟩ = some (.int .u32 (s 2)) := by rw [hS.cell, wordsA_get _ _ _ (by omega)]
      have s3 : wr.cell? ⟨w.heap.size, 3, none⟩ = some (.int .u32 (s 3)) := by rw [hS.cell, wordsA_get _ _ _ (by omega)]
      have s4 : wr.cell? ⟨w.heap.size, 4, none⟩ = some (.int .u32 (s 4)) := by rw [hS.cell, wordsA_get _ _ _ (by omega)]
      have s5 : wr.cell? ⟨w.heap.size, 5, none⟩ = some (.int .u32 (s 5)) := by rw [hS.cell, wordsA_get _ _ _ (by omega)]
      have s6 : wr.cell? ⟨w.heap.size, 6, none⟩ = some (.int .u32 (s 6)) := by rw [hS.cell, wordsA_get _ _ _ (by omega)]
      have s7 : wr.cell? ⟨w.heap.size, 7, none⟩ = some (.int .u32 (s 7)) := by rw [hS.cell, wordsA_get _ _ _ (by omega)]
      have hfin : Hid (mixF s b = outF s ⟨ra, rb, rc, rd, re, rf, rg, rh⟩) := by show mixF s b = _; rw [hr.out]; rfl
      clear hr
      go_wp2_with (refine wpList_bld rfl 168 _ rfl (wordsA 8 (outF s ⟨ra, rb, rc, rd, re, rf, rg, rh⟩)) (by kernel_rfl) ?_; refine wpList_store_row rfl 168 (.tmp 4) (.tmp 132) rfl (w.heap.size + 1 + 1) (wordsA 8 (outF s ⟨ra, rb, rc, rd, re, rf, rg, rh⟩)) rfl rfl 168 (wordsA 8 fun _ => 0) hR (Tryz.size168W _) (wordsA_sizes _ _ _) (wordsA_one _ _) ?_)
      exact bodyPost_ret (v := .agg (wordsA 8 (outF s ⟨ra, rb, rc, rd, re, rf, rg, rh⟩))) (results_cell_row Tryz.results80 _ _ (w.heap.size + 1 + 1) 168 _ (0, 0) _ rfl (hR.setRow _) Tryz.underlying168 rfl (Tryz.size168W _)) rfl ⟨by rw [hfin.out], below_setRow hB (by omega) _⟩
end Go.Proofs.YtibaindbnemlcaaGreatDoor.Nd.Sh
namespace Go.Proofs.YtibaindbnemlcaaGreatDoor.Nd.Sh
open Go.RowKit

def digA (s r : Nat → Int) (n : Int) : Array Value := Array.ofFn (n := 73) fun i => if i.val < 8 then .int .u32 (s i.val) else if i.val < 72 then .int .u8 (r (i.val - 8)) else .int .i64 n

theorem digA_size (s r : Nat → Int) (n : Int) : (digA s r n).size = 73 := by simp [digA]
theorem digA_w (s r : Nat → Int) (n : Int) (j : Nat) (h : j < 8) : (digA s r n)[j]? = some (.int .u32 (s j)) := by
  have h' : j < 73 := by omega
  simp [digA, h, h']
theorem digA_r (s r : Nat → Int) (n : Int) (j : Nat) (h : j < 64) : (digA s r n)[8 + j]? = some (.int .u8 (r j)) := by
  have h1 : ¬ 8 + j < 8 := by omega
  have h2 : 8 + j < 72 := by omega
  have h' : 8 + j < 73 := by omega
  simp [digA, h2, h']
theorem digA_n (s r : Nat → Int) (n : Int) : (digA s r n)[72]? = some (.int .i64 n) := by simp [digA]
theorem digA_setn (s r : Nat → Int) (n m : Int) : (digA s r n).setIfInBounds 72 (.int .i64 m) = digA s r m := by
  apply Array.ext_getElem?
  intro i
  rw [Array.getElem?_setIfInBounds]
  by_cases e : 72 = i
  · subst e; simp [digA]
  · by_cases hi : i < 73
    · have : i < 72 := by omega
      simp [digA, e, hi, this]
    · simp [digA, e, hi]
theorem digA_one (s r : Nat → Int) (n : Int) : (digA s r n).all (·.oneCell') = true := by
  rw [Array.all_eq_true_iff_forall_mem]; intro v hv; simp [digA] at hv; obtain ⟨i, rfl⟩ := hv; split <;> (try split) <;> rfl

def putN (r : Nat → Int) (u k : Nat) (y : Nat → Int) : Nat → Int := fun j => if u ≤ j ∧ j < u + k then y (j - u) else r j
theorem digA_splice (s r : Nat → Int) (n : Int) (u k : Nat) (y : Nat → Int) (h : u + k ≤ 64) :
    ((digA s r n).toList.take (8 + u) ++ ((List.range k).map (fun j => Value.int .u8 (y j)) ++ (digA s r n).toList.drop (8 + u + k))).toArray = digA s (putN r u k y) n := by
  have hl : (digA s r n).toList.length = 73 := by simp [digA_size]
  apply Array.ext_getElem?
  intro i
  rw [List.getElem?_toArray, List.getElem?_append, List.length_take, hl, show min (8 + u) 73 = 8 + u by omega]
  by_cases h1 : i < 8 + u
  · rw [if_pos h1, List.getElem?_take, if_pos h1, Array.getElem?_toList]
    have hi : i < 73 := by omega
    by_cases h8 : i < 8
    · rw [digA_w _ _ _ _ h8, digA_w _ _ _ _ h8]
    · obtain ⟨j, rfl⟩ : ∃ j, i = 8 + j := ⟨i - 8, by omega⟩
      rw [digA_r _ _ _ _ (by omega), digA_r _ _ _ _ (by omega)]
      simp only [putN]; rw [if_neg (by omega)]
  · rw [if_neg h1, List.getElem?_append, List.length_map, List.length_range]
    by_cases h2 : i - (8 + u) < k
    · rw [if_pos h2, List.getElem?_map, List.getElem?_range h2]
      obtain ⟨j, rfl⟩ : ∃ j, i = 8 + j := ⟨i - 8, by omega⟩
      rw [digA_r _ _ _ _ (by omega)]
      simp only [putN, Option.map_some]; rw [if_pos (by omega), show 8 + j - (8 + u) = j - u by omega]
    · rw [if_neg h2, List.getElem?_drop, Array.getElem?_toList, show 8 + u + k + (i - (8 + u) - k) = i by omega]
      by_cases h72 : i < 72
      · obtain ⟨j, rfl⟩ : ∃ j, i = 8 + j := ⟨i - 8, by omega⟩
        rw [digA_r _ _ _ _ (by omega), digA_r _ _ _ _ (by omega)]
        simp only [putN]; rw [if_neg (by omega)]
      · by_cases h73 : i = 72
        · subst h73; rw [digA_n, digA_n]
        · rw [Array.getElem?_eq_none (by rw [digA_size]; omega), Array.getElem?_eq_none (by rw [digA_size]; omega)]

theorem Tryz.size172 : (Tryz.prog.info? 172).map (·.size) = some 73 := by kernel_rfl
theorem Tryz.size172D (s r : Nat → Int) (n : Int) : (Tryz.prog.info? 172).map (·.size) = some (digA s r n).size := by rw [digA_size]; exact Tryz.size172

set_option maxRecDepth 10000 in
theorem new_any (w : World) :
    Calls Tryz.prog 57 #[] w fun e w' => e = .returned (ptr (w.heap.size + 1)) ∧ w' = (w.alloc (.cells (wordsA 8 beginF) 168)).alloc (.cells (digA beginF (fun _ => 0) 0) 172) := by
  go_enter Tryz.func57, Tryz.ntmps57
  go_wp2_with fail
  refine (begin_any _).mono ?_
  rintro e w' ⟨rfl, rfl⟩
  go_wp2_with (refine wpList_bld rfl 172 _ rfl (digA beginF (fun _ => 0) 0) (by kernel_rfl) ?_; refine wpList_boxA rfl 172 (.tmp 2) rfl (digA beginF (fun _ => 0) 0) rfl ?_)
  go_ret
  exact ⟨by simp, rfl⟩

end Go.Proofs.YtibaindbnemlcaaGreatDoor.Nd.Sh
