import Derived.Test.YteecdcocgflklaaDoorA01
import Derived.Test.YteecdcocgflklaaDoorProg
import Derived.Conc.RwLib
import Derived.Conc.MuData
import Derived.Conc.MuLone
import Derived.KernelRfl
import Derived.Defers
namespace Go.Proofs.YteecdcocgflklaaDoor
open Go.RowKit
set_option linter.unusedSimpArgs false
set_option linter.unusedVariables false
theorem Tryd.in45 (w : World) (vs : Array Value) : (callFunc 45 vs).run Tryd.prog w = .ok (.enter 45 vs) w := by kernel_rfl
theorem Tryd.in34 (w : World) (vs : Array Value) : (callFunc 34 vs).run Tryd.prog w = .ok (.enter 34 vs) w := by kernel_rfl
theorem Tryd.in32 (w : World) (vs : Array Value) : (callFunc 32 vs).run Tryd.prog w = .ok (.enter 32 vs) w := by kernel_rfl
theorem Tryd.in9 (w : World) (vs : Array Value) : (callFunc 9 vs).run Tryd.prog w = .ok (.enter 9 vs) w := by kernel_rfl
def lkOf (K : List Lk) (f t : Int) : Lk := (K[ix f t]?).getD ⟨.slice none 0 0, []⟩
theorem RmAt.link {w : World} {x g N : Nat} {K : List Lk} {f t : Int} (h : RmAt w x g N K) (ht : thr N f t = true) : K[ix f t]? = some (lkOf K f t) ∧ LkAt w (lkOf K f t) ∧ w.cell? ⟨g, ix f t, none⟩ = some (lkOf K f t).v := by
  have hi := (thr_ix h.nb.2 ht).2.2
  have e : K[ix f t]? = some (lkOf K f t) := by unfold lkOf; rw [List.getElem?_eq_getElem (by rw [h.len]; exact hi)]; rfl
  exact ⟨e, h.lk _ (List.mem_of_getElem? e), h.bg.c _ (by simp [e])⟩
theorem LkAt.sl {w : World} {k : Lk} (h : LkAt w k) : ∃ a c, k.v = .slice a k.R.length c := owns_sl h.own
def nmE (N : Nat) (K : List Lk) (f t i : Int) : Int := if thr N f t then (if i < 0 ∨ ((lkOf K f t).R.length : Int) ≤ i then 2 else 0) else 1
set_option maxRecDepth 8000 in
theorem nm_no (w : World) (x g N : Nat) (K : List Lk) (f t i : Int) (HM : Keep (RmAt w x g N K)) (hth : thr N f t = false) : Calls Tryd.prog 45 #[.pointer (some ⟨x, 0, none⟩), .int .i64 f, .int .i64 t, .int .i64 i] w fun e w' => e = .returned (.tuple #[.pointer none, .int .i64 1]) ∧ w' = w := by
  go_enter Tryd.func45, Tryd.ntmps45
  refine wp_seq_k fun K1 hK1 => ?_
  refine wp_region_list (WL.out ?_)
  refine WL.val (by kernel_rfl) (.pointer none) (by go_simp) ?_
  simp only [Act.put, List.setIfInBounds_toArray, List.set_cons_zero, List.set_cons_succ]
  refine WL.val (by kernel_rfl) (.int .i64 0) (by go_simp) ?_
  simp only [Act.put, List.setIfInBounds_toArray, List.set_cons_zero, List.set_cons_succ]
  refine WL.nil ?_
  refine hK1 _ _ ?_
  refine wp_seq_k fun K2 hK2 => ?_
  refine wp_region_list (WL.out ?_)
  refine WL.val (by kernel_rfl) (.pointer (some ⟨x, 0, none⟩)) (by go_simp) ?_
  simp only [Act.put, List.setIfInBounds_toArray, List.set_cons_zero, List.set_cons_succ]
  refine WL.val (by kernel_rfl) (.int .i64 f) (by go_simp) ?_
  simp only [Act.put, List.setIfInBounds_toArray, List.set_cons_zero, List.set_cons_succ]
  refine WL.val (by kernel_rfl) (.int .i64 t) (by go_simp) ?_
  simp only [Act.put, List.setIfInBounds_toArray, List.set_cons_zero, List.set_cons_succ]
  refine WL.callF (by kernel_rfl) 48 _ _ rfl Tryd.in48 #[.pointer (some ⟨x, 0, none⟩), .int .i64 f, .int .i64 t] (by simp [Act.eval]) ?_
  refine (there_any w x g N K f t HM.out).mono ?_
  rintro e w1_ ⟨rfl, hw_⟩
  refine ⟨_, rfl, ?_⟩
  have hw_ := hw_.symm
  subst hw_
  rw [hth]
  simp only [Act.put, List.setIfInBounds_toArray, List.set_cons_zero, List.set_cons_succ]
  refine WL.val (by kernel_rfl) (.bool false) (by go_simp) ?_
  simp only [Act.put, List.setIfInBounds_toArray, List.set_cons_zero, List.set_cons_succ]
  refine WL.nil ?_
  refine hK2 _ _ ?_
  refine wp_seq_k fun K3 hK3 => ?_
  refine wp_seq_k fun K4 hK4 => ?_
  refine wp_region_list (WL.out ?_)
  refine WL.val (by kernel_rfl) (.bool false) (by go_simp) ?_
  simp only [Act.put, List.setIfInBounds_toArray, List.set_cons_zero, List.set_cons_succ]
  refine WL.val (by kernel_rfl) (.bool true) (by go_simp) ?_
  simp only [Act.put, List.setIfInBounds_toArray, List.set_cons_zero, List.set_cons_succ]
  refine WL.nil ?_
  refine hK4 _ _ ?_
  refine wp_cond_true rfl ?_
  refine wp_seq_k fun K5 hK5 => ?_
  refine wp_region_list (WL.out ?_)
  refine WL.val (by kernel_rfl) (.pointer none) (by go_simp) ?_
  simp only [Act.put, List.setIfInBounds_toArray, List.set_cons_zero, List.set_cons_succ]
  refine WL.val (by kernel_rfl) (.int .i64 1) (by go_simp) ?_
  simp only [Act.put, List.setIfInBounds_toArray, List.set_cons_zero, List.set_cons_succ]
  refine WL.nil ?_
  refine hK5 _ _ ?_
  refine wp_ret ?_
  try simp only [Exit.inBlock, Exit.then]
  exact bodyPost_ret (results_tmp2 (fn := Tryd.f45) rfl _ _ _) rfl ⟨rfl, rfl⟩
set_option maxRecDepth 8000 in
theorem nm_neg (w : World) (x g N : Nat) (K : List Lk) (f t i : Int) (HM : Keep (RmAt w x g N K)) (i_ n cap : Nat) (la : Option Addr) (HI : Keep ((1 ≤ f ∧ f ≤ 8 ∧ 1 ≤ t ∧ t ≤ 8) ∧ (i_ : Int) = 9 * f + t ∧ i_ < 81)) (c_ : w.cell? ⟨g, i_, none⟩ = some (.slice la n cap)) (hth : thr N f t = true) (hi : i < 0) : Calls Tryd.prog 45 #[.pointer (some ⟨x, 0, none⟩), .int .i64 f, .int .i64 t, .int .i64 i] w fun e w' => e = .returned (.tuple #[.pointer none, .int .i64 2]) ∧ w' = w := by
  go_enter Tryd.func45, Tryd.ntmps45
  refine wp_seq_k fun K1 hK1 => ?_
  refine wp_region_list (WL.out ?_)
  refine WL.val (by kernel_rfl) (.pointer none) (by go_simp) ?_
  simp only [Act.put, List.setIfInBounds_toArray, List.set_cons_zero, List.set_cons_succ]
  refine WL.val (by kernel_rfl) (.int .i64 0) (by go_simp) ?_
  simp only [Act.put, List.setIfInBounds_toArray, List.set_cons_zero, List.set_cons_succ]
  refine WL.nil ?_
  refine hK1 _ _ ?_
  refine wp_seq_k fun K2 hK2 => ?_
  refine wp_region_list (WL.out ?_)
  refine WL.val (by kernel_rfl) (.pointer (some ⟨x, 0, none⟩)) (by go_simp) ?_
  simp only [Act.put, List.setIfInBounds_toArray, List.set_cons_zero, List.set_cons_succ]
  refine WL.val (by kernel_rfl) (.int .i64 f) (by go_simp) ?_
  simp only [Act.put, List.setIfInBounds_toArray, List.set_cons_zero, List.set_cons_succ]
  refine WL.val (by kernel_rfl) (.int .i64 t) (by go_simp) ?_
  simp only [Act.put, List.setIfInBounds_toArray, List.set_cons_zero, List.set_cons_succ]
  refine WL.callF (by kernel_rfl) 48 _ _ rfl Tryd.in48 #[.pointer (some ⟨x, 0, none⟩), .int .i64 f, .int .i64 t] (by simp [Act.eval]) ?_
  refine (there_any w x g N K f t HM.out).mono ?_
  rintro e w1_ ⟨rfl, hw_⟩
  refine ⟨_, rfl, ?_⟩
  have hw_ := hw_.symm
  subst hw_
  rw [hth]
  simp only [Act.put, List.setIfInBounds_toArray, List.set_cons_zero, List.set_cons_succ]
  refine WL.val (by kernel_rfl) (.bool true) (by go_simp) ?_
  simp only [Act.put, List.setIfInBounds_toArray, List.set_cons_zero, List.set_cons_succ]
  refine WL.nil ?_
  refine hK2 _ _ ?_
  refine wp_seq_k fun K3 hK3 => ?_
  refine wp_seq_k fun K4 hK4 => ?_
  refine wp_region_list (WL.out ?_)
  refine WL.val (by kernel_rfl) (.bool true) (by go_simp) ?_
  simp only [Act.put, List.setIfInBounds_toArray, List.set_cons_zero, List.set_cons_succ]
  refine WL.val (by kernel_rfl) (.bool false) (by go_simp) ?_
  simp only [Act.put, List.setIfInBounds_toArray, List.set_cons_zero, List.set_cons_succ]
  refine WL.nil ?_
  refine hK4 _ _ ?_
  refine wp_cond_false rfl ?_
  refine wp_skip ?_
  refine hK3 _ _ ?_
  refine wp_seq_k fun K5 hK5 => ?_
  refine wp_region_list (WL.out ?_)
  refine WL.val (by kernel_rfl) (.pointer (some ⟨x, 0, none⟩)) (by go_simp) ?_
  simp only [Act.put, List.setIfInBounds_toArray, List.set_cons_zero, List.set_cons_succ]
  refine WL.val (by kernel_rfl) (.int .i64 f) (by go_simp) ?_
  simp only [Act.put, List.setIfInBounds_toArray, List.set_cons_zero, List.set_cons_succ]
  refine WL.val (by kernel_rfl) (.int .i64 t) (by go_simp) ?_
  simp only [Act.put, List.setIfInBounds_toArray, List.set_cons_zero, List.set_cons_succ]
  refine WL.callF (by kernel_rfl) 49 _ _ rfl Tryd.in49 #[.pointer (some ⟨x, 0, none⟩), .int .i64 f, .int .i64 t] (by simp [Act.eval]) ?_
  refine (row_any w x g N i_ K f t HM.out HI.out.1 HI.out.2.1 HI.out.2.2).mono ?_
  rintro e w1_ ⟨rfl, hw_⟩
  refine ⟨_, rfl, ?_⟩
  have hw_ := hw_.symm
  subst hw_
  simp only [Act.put, List.setIfInBounds_toArray, List.set_cons_zero, List.set_cons_succ]
  refine WL.val (by kernel_rfl) (.pointer (some ⟨g, i_, none⟩)) (by go_simp) ?_
  simp only [Act.put, List.setIfInBounds_toArray, List.set_cons_zero, List.set_cons_succ]
  refine WL.nil ?_
  refine hK5 _ _ ?_
  refine wp_seq_k fun K6 hK6 => ?_
  refine wp_seq_k fun K7 hK7 => ?_
  refine wp_region_list (WL.out ?_)
  refine WL.val (by kernel_rfl) (.int .i64 i) (by go_simp) ?_
  simp only [Act.put, List.setIfInBounds_toArray, List.set_cons_zero, List.set_cons_succ]
  refine WL.val (by kernel_rfl) (.bool true) (by go_simp) ?_
  simp only [Act.put, List.setIfInBounds_toArray, List.set_cons_zero, List.set_cons_succ]
  refine WL.val (by kernel_rfl) (.bool true) (by go_simp) ?_
  simp only [Act.put, List.setIfInBounds_toArray, List.set_cons_zero, List.set_cons_succ]
  refine WL.skip (by kernel_rfl) ?_
  simp only [Act.put, List.setIfInBounds_toArray, List.set_cons_zero, List.set_cons_succ]
  refine WL.skip (by kernel_rfl) ?_
  simp only [Act.put, List.setIfInBounds_toArray, List.set_cons_zero, List.set_cons_succ]
  refine WL.skip (by kernel_rfl) ?_
  simp only [Act.put, List.setIfInBounds_toArray, List.set_cons_zero, List.set_cons_succ]
  refine WL.skip (by kernel_rfl) ?_
  simp only [Act.put, List.setIfInBounds_toArray, List.set_cons_zero, List.set_cons_succ]
  refine WL.skip (by kernel_rfl) ?_
  simp only [Act.put, List.setIfInBounds_toArray, List.set_cons_zero, List.set_cons_succ]
  refine WL.skip (by kernel_rfl) ?_
  simp only [Act.put, List.setIfInBounds_toArray, List.set_cons_zero, List.set_cons_succ]
  refine WL.skip (by kernel_rfl) ?_
  simp only [Act.put, List.setIfInBounds_toArray, List.set_cons_zero, List.set_cons_succ]
  refine WL.val (by kernel_rfl) (.bool true) (by go_simp) ?_
  simp only [Act.put, List.setIfInBounds_toArray, List.set_cons_zero, List.set_cons_succ]
  refine WL.nil ?_
  refine hK7 _ _ ?_
  refine wp_cond_true rfl ?_
  refine wp_seq_k fun K8 hK8 => ?_
  refine wp_region_list (WL.out ?_)
  refine WL.val (by kernel_rfl) (.pointer none) (by go_simp) ?_
  simp only [Act.put, List.setIfInBounds_toArray, List.set_cons_zero, List.set_cons_succ]
  refine WL.val (by kernel_rfl) (.int .i64 2) (by go_simp) ?_
  simp only [Act.put, List.setIfInBounds_toArray, List.set_cons_zero, List.set_cons_succ]
  refine WL.nil ?_
  refine hK8 _ _ ?_
  refine wp_ret ?_
  try simp only [Exit.inBlock, Exit.then]
  exact bodyPost_ret (results_tmp2 (fn := Tryd.f45) rfl _ _ _) rfl ⟨rfl, rfl⟩
set_option maxRecDepth 8000 in
theorem nm_big (w : World) (x g N : Nat) (K : List Lk) (f t i : Int) (HM : Keep (RmAt w x g N K)) (i_ n cap : Nat) (la : Option Addr) (HI : Keep ((1 ≤ f ∧ f ≤ 8 ∧ 1 ≤ t ∧ t ≤ 8) ∧ (i_ : Int) = 9 * f + t ∧ i_ < 81)) (c_ : w.cell? ⟨g, i_, none⟩ = some (.slice la n cap)) (hth : thr N f t = true) (hi : ¬ i < 0) (hn : (n : Int) ≤ i) : Calls Tryd.prog 45 #[.pointer (some ⟨x, 0, none⟩), .int .i64 f, .int .i64 t, .int .i64 i] w fun e w' => e = .returned (.tuple #[.pointer none, .int .i64 2]) ∧ w' = w := by
  go_enter Tryd.func45, Tryd.ntmps45
  refine wp_seq_k fun K1 hK1 => ?_
  refine wp_region_list (WL.out ?_)
  refine WL.val (by kernel_rfl) (.pointer none) (by go_simp) ?_
  simp only [Act.put, List.setIfInBounds_toArray, List.set_cons_zero, List.set_cons_succ]
  refine WL.val (by kernel_rfl) (.int .i64 0) (by go_simp) ?_
  simp only [Act.put, List.setIfInBounds_toArray, List.set_cons_zero, List.set_cons_succ]
  refine WL.nil ?_
  refine hK1 _ _ ?_
  refine wp_seq_k fun K2 hK2 => ?_
  refine wp_region_list (WL.out ?_)
  refine WL.val (by kernel_rfl) (.pointer (some ⟨x, 0, none⟩)) (by go_simp) ?_
  simp only [Act.put, List.setIfInBounds_toArray, List.set_cons_zero, List.set_cons_succ]
  refine WL.val (by kernel_rfl) (.int .i64 f) (by go_simp) ?_
  simp only [Act.put, List.setIfInBounds_toArray, List.set_cons_zero, List.set_cons_succ]
  refine WL.val (by kernel_rfl) (.int .i64 t) (by go_simp) ?_
  simp only [Act.put, List.setIfInBounds_toArray, List.set_cons_zero, List.set_cons_succ]
  refine WL.callF (by kernel_rfl) 48 _ _ rfl Tryd.in48 #[.pointer (some ⟨x, 0, none⟩), .int .i64 f, .int .i64 t] (by simp [Act.eval]) ?_
  refine (there_any w x g N K f t HM.out).mono ?_
  rintro e w1_ ⟨rfl, hw_⟩
  refine ⟨_, rfl, ?_⟩
  have hw_ := hw_.symm
  subst hw_
  rw [hth]
  simp only [Act.put, List.setIfInBounds_toArray, List.set_cons_zero, List.set_cons_succ]
  refine WL.val (by kernel_rfl) (.bool true) (by go_simp) ?_
  simp only [Act.put, List.setIfInBounds_toArray, List.set_cons_zero, List.set_cons_succ]
  refine WL.nil ?_
  refine hK2 _ _ ?_
  refine wp_seq_k fun K3 hK3 => ?_
  refine wp_seq_k fun K4 hK4 => ?_
  refine wp_region_list (WL.out ?_)
  refine WL.val (by kernel_rfl) (.bool true) (by go_simp) ?_
  simp only [Act.put, List.setIfInBounds_toArray, List.set_cons_zero, List.set_cons_succ]
  refine WL.val (by kernel_rfl) (.bool false) (by go_simp) ?_
  simp only [Act.put, List.setIfInBounds_toArray, List.set_cons_zero, List.set_cons_succ]
  refine WL.nil ?_
  refine hK4 _ _ ?_
  refine wp_cond_false rfl ?_
  refine wp_skip ?_
  refine hK3 _ _ ?_
  refine wp_seq_k fun K5 hK5 => ?_
  refine wp_region_list (WL.out ?_)
  refine WL.val (by kernel_rfl) (.pointer (some ⟨x, 0, none⟩)) (by go_simp) ?_
  simp only [Act.put, List.setIfInBounds_toArray, List.set_cons_zero, List.set_cons_succ]
  refine WL.val (by kernel_rfl) (.int .i64 f) (by go_simp) ?_
  simp only [Act.put, List.setIfInBounds_toArray, List.set_cons_zero, List.set_cons_succ]
  refine WL.val (by kernel_rfl) (.int .i64 t) (by go_simp) ?_
  simp only [Act.put, List.setIfInBounds_toArray, List.set_cons_zero, List.set_cons_succ]
  refine WL.callF (by kernel_rfl) 49 _ _ rfl Tryd.in49 #[.pointer (some ⟨x, 0, none⟩), .int .i64 f, .int .i64 t] (by simp [Act.eval]) ?_
  refine (row_any w x g N i_ K f t HM.out HI.out.1 HI.out.2.1 HI.out.2.2).mono ?_
  rintro e w1_ ⟨rfl, hw_⟩
  refine ⟨_, rfl, ?_⟩
  have hw_ := hw_.symm
  subst hw_
  simp only [Act.put, List.setIfInBounds_toArray, List.set_cons_zero, List.set_cons_succ]
  refine WL.val (by kernel_rfl) (.pointer (some ⟨g, i_, none⟩)) (by go_simp) ?_
  simp only [Act.put, List.setIfInBounds_toArray, List.set_cons_zero, List.set_cons_succ]
  refine WL.nil ?_
  refine hK5 _ _ ?_
  refine wp_seq_k fun K6 hK6 => ?_
  refine wp_seq_k fun K7 hK7 => ?_
  refine wp_region_list (WL.out ?_)
  refine WL.val (by kernel_rfl) (.int .i64 i) (by go_simp) ?_
  simp only [Act.put, List.setIfInBounds_toArray, List.set_cons_zero, List.set_cons_succ]
  refine WL.val (by kernel_rfl) (.bool false) (by go_simp) ?_
  simp only [Act.put, List.setIfInBounds_toArray, List.set_cons_zero, List.set_cons_succ]
  refine WL.val (by kernel_rfl) (.bool false) (by go_simp) ?_
  simp only [Act.put, List.setIfInBounds_toArray, List.set_cons_zero, List.set_cons_succ]
  refine WL.val (by kernel_rfl) (.int .i64 i) (by go_simp) ?_
  simp only [Act.put, List.setIfInBounds_toArray, List.set_cons_zero, List.set_cons_succ]
  refine WL.val (by kernel_rfl) (.pointer (some ⟨g, i_, none⟩)) (by go_simp) ?_
  simp only [Act.put, List.setIfInBounds_toArray, List.set_cons_zero, List.set_cons_succ]
  refine WL.val (by kernel_rfl) (.pointer (some ⟨g, i_, none⟩)) (by go_simp) ?_
  simp only [Act.put, List.setIfInBounds_toArray, List.set_cons_zero, List.set_cons_succ]
  refine WL.val (by kernel_rfl) (.pointer (some ⟨g, i_, none⟩)) (by go_simp) ?_
  simp only [Act.put, List.setIfInBounds_toArray, List.set_cons_zero, List.set_cons_succ]
  refine WL.val (by kernel_rfl) (.slice la n cap) (by go_simp) ?_
  simp only [Act.put, List.setIfInBounds_toArray, List.set_cons_zero, List.set_cons_succ]
  refine WL.val (by kernel_rfl) (.int .i64 (n : Int)) (by go_simp) ?_
  simp only [Act.put, List.setIfInBounds_toArray, List.set_cons_zero, List.set_cons_succ]
  refine WL.val (by kernel_rfl) (.bool true) (by go_simp) ?_
  simp only [Act.put, List.setIfInBounds_toArray, List.set_cons_zero, List.set_cons_succ]
  refine WL.val (by kernel_rfl) (.bool true) (by go_simp) ?_
  simp only [Act.put, List.setIfInBounds_toArray, List.set_cons_zero, List.set_cons_succ]
  refine WL.nil ?_
  refine hK7 _ _ ?_
  refine wp_cond_true rfl ?_
  refine wp_seq_k fun K8 hK8 => ?_
  refine wp_region_list (WL.out ?_)
  refine WL.val (by kernel_rfl) (.pointer none) (by go_simp) ?_
  simp only [Act.put, List.setIfInBounds_toArray, List.set_cons_zero, List.set_cons_succ]
  refine WL.val (by kernel_rfl) (.int .i64 2) (by go_simp) ?_
  simp only [Act.put, List.setIfInBounds_toArray, List.set_cons_zero, List.set_cons_succ]
  refine WL.nil ?_
  refine hK8 _ _ ?_
  refine wp_ret ?_
  try simp only [Exit.inBlock, Exit.then]
  exact bodyPost_ret (results_tmp2 (fn := Tryd.f45) rfl _ _ _) rfl ⟨rfl, rfl⟩
set_option maxRecDepth 8000 in
theorem nm_ok (w : World) (x g N : Nat) (K : List Lk) (f t i : Int) (HM : Keep (RmAt w x g N K)) (i_ n cap : Nat) (la : Option Addr) (HI : Keep ((1 ≤ f ∧ f ≤ 8 ∧ 1 ≤ t ∧ t ≤ 8) ∧ (i_ : Int) = 9 * f + t ∧ i_ < 81)) (c_ : w.cell? ⟨g, i_, none⟩ = some (.slice la n cap)) (hth : thr N f t = true) (hi : ¬ i < 0) (hn : ¬ (n : Int) ≤ i) : Calls Tryd.prog 45 #[.pointer (some ⟨x, 0, none⟩), .int .i64 f, .int .i64 t, .int .i64 i] w fun e w' => e = .returned (.tuple #[.pointer (some ⟨g, i_, none⟩), .int .i64 0]) ∧ w' = w := by
  go_enter Tryd.func45, Tryd.ntmps45
  refine wp_seq_k fun K1 hK1 => ?_
  refine wp_region_list (WL.out ?_)
  refine WL.val (by kernel_rfl) (.pointer none) (by go_simp) ?_
  simp only [Act.put, List.setIfInBounds_toArray, List.set_cons_zero, List.set_cons_succ]
  refine WL.val (by kernel_rfl) (.int .i64 0) (by go_simp) ?_
  simp only [Act.put, List.setIfInBounds_toArray, List.set_cons_zero, List.set_cons_succ]
  refine WL.nil ?_
  refine hK1 _ _ ?_
  refine wp_seq_k fun K2 hK2 => ?_
  refine wp_region_list (WL.out ?_)
  refine WL.val (by kernel_rfl) (.pointer (some ⟨x, 0, none⟩)) (by go_simp) ?_
  simp only [Act.put, List.setIfInBounds_toArray, List.set_cons_zero, List.set_cons_succ]
  refine WL.val (by kernel_rfl) (.int .i64 f) (by go_simp) ?_
  simp only [Act.put, List.setIfInBounds_toArray, List.set_cons_zero, List.set_cons_succ]
  refine WL.val (by kernel_rfl) (.int .i64 t) (by go_simp) ?_
  simp only [Act.put, List.setIfInBounds_toArray, List.set_cons_zero, List.set_cons_succ]
  refine WL.callF (by kernel_rfl) 48 _ _ rfl Tryd.in48 #[.pointer (some ⟨x, 0, none⟩), .int .i64 f, .int .i64 t] (by simp [Act.eval]) ?_
  refine (there_any w x g N K f t HM.out).mono ?_
  rintro e w1_ ⟨rfl, hw_⟩
  refine ⟨_, rfl, ?_⟩
  have hw_ := hw_.symm
  subst hw_
  rw [hth]
  simp only [Act.put, List.setIfInBounds_toArray, List.set_cons_zero, List.set_cons_succ]
  refine WL.val (by kernel_rfl) (.bool true) (by go_simp) ?_
  simp only [Act.put, List.setIfInBounds_toArray, List.set_cons_zero, List.set_cons_succ]
  refine WL.nil ?_
  refine hK2 _ _ ?_
  refine wp_seq_k fun K3 hK3 => ?_
  refine wp_seq_k fun K4 hK4 => ?_
  refine wp_region_list (WL.out ?_)
  refine WL.val (by kernel_rfl) (.bool true) (by go_simp) ?_
  simp only [Act.put, List.setIfInBounds_toArray, List.set_cons_zero, List.set_cons_succ]
  refine WL.val (by kernel_rfl) (.bool false) (by go_simp) ?_
  simp only [Act.put, List.setIfInBounds_toArray, List.set_cons_zero, List.set_cons_succ]
  refine WL.nil ?_
  refine hK4 _ _ ?_
  refine wp_cond_false rfl ?_
  refine wp_skip ?_
  refine hK3 _ _ ?_
  refine wp_seq_k fun K5 hK5 => ?_
  refine wp_region_list (WL.out ?_)
  refine WL.val (by kernel_rfl) (.pointer (some ⟨x, 0, none⟩)) (by go_simp) ?_
  simp only [Act.put, List.setIfInBounds_toArray, List.set_cons_zero, List.set_cons_succ]
  refine WL.val (by kernel_rfl) (.int .i64 f) (by go_simp) ?_
  simp only [Act.put, List.setIfInBounds_toArray, List.set_cons_zero, List.set_cons_succ]
  refine WL.val (by kernel_rfl) (.int .i64 t) (by go_simp) ?_
  simp only [Act.put, List.setIfInBounds_toArray, List.set_cons_zero, List.set_cons_succ]
  refine WL.callF (by kernel_rfl) 49 _ _ rfl Tryd.in49 #[.pointer (some ⟨x, 0, none⟩), .int .i64 f, .int .i64 t] (by simp [Act.eval]) ?_
  refine (row_any w x g N i_ K f t HM.out HI.out.1 HI.out.2.1 HI.out.2.2).mono ?_
  rintro e w1_ ⟨rfl, hw_⟩
  refine ⟨_, rfl, ?_⟩
  have hw_ := hw_.symm
  subst hw_
  simp only [Act.put, List.setIfInBounds_toArray, List.set_cons_zero, List.set_cons_succ]
  refine WL.val (by kernel_rfl) (.pointer (some ⟨g, i_, none⟩)) (by go_simp) ?_
  simp only [Act.put, List.setIfInBounds_toArray, List.set_cons_zero, List.set_cons_succ]
  refine WL.nil ?_
  refine hK5 _ _ ?_
  refine wp_seq_k fun K6 hK6 => ?_
  refine wp_seq_k fun K7 hK7 => ?_
  refine wp_region_list (WL.out ?_)
  refine WL.val (by kernel_rfl) (.int .i64 i) (by go_simp) ?_
  simp only [Act.put, List.setIfInBounds_toArray, List.set_cons_zero, List.set_cons_succ]
  refine WL.val (by kernel_rfl) (.bool false) (by go_simp) ?_
  simp only [Act.put, List.setIfInBounds_toArray, List.set_cons_zero, List.set_cons_succ]
  refine WL.val (by kernel_rfl) (.bool false) (by go_simp) ?_
  simp only [Act.put, List.setIfInBounds_toArray, List.set_cons_zero, List.set_cons_succ]
  refine WL.val (by kernel_rfl) (.int .i64 i) (by go_simp) ?_
  simp only [Act.put, List.setIfInBounds_toArray, List.set_cons_zero, List.set_cons_succ]
  refine WL.val (by kernel_rfl) (.pointer (some ⟨g, i_, none⟩)) (by go_simp) ?_
  simp only [Act.put, List.setIfInBounds_toArray, List.set_cons_zero, List.set_cons_succ]
  refine WL.val (by kernel_rfl) (.pointer (some ⟨g, i_, none⟩)) (by go_simp) ?_
  simp only [Act.put, List.setIfInBounds_toArray, List.set_cons_zero, List.set_cons_succ]
  refine WL.val (by kernel_rfl) (.pointer (some ⟨g, i_, none⟩)) (by go_simp) ?_
  simp only [Act.put, List.setIfInBounds_toArray, List.set_cons_zero, List.set_cons_succ]
  refine WL.val (by kernel_rfl) (.slice la n cap) (by go_simp) ?_
  simp only [Act.put, List.setIfInBounds_toArray, List.set_cons_zero, List.set_cons_succ]
  refine WL.val (by kernel_rfl) (.int .i64 (n : Int)) (by go_simp) ?_
  simp only [Act.put, List.setIfInBounds_toArray, List.set_cons_zero, List.set_cons_succ]
  refine WL.val (by kernel_rfl) (.bool false) (by go_simp) ?_
  simp only [Act.put, List.setIfInBounds_toArray, List.set_cons_zero, List.set_cons_succ]
  refine WL.val (by kernel_rfl) (.bool false) (by go_simp) ?_
  simp only [Act.put, List.setIfInBounds_toArray, List.set_cons_zero, List.set_cons_succ]
  refine WL.nil ?_
  refine hK7 _ _ ?_
  refine wp_cond_false rfl ?_
  refine wp_skip ?_
  refine hK6 _ _ ?_
  refine wp_seq_k fun K8 hK8 => ?_
  refine wp_region_list (WL.out ?_)
  refine WL.val (by kernel_rfl) (.pointer (some ⟨g, i_, none⟩)) (by go_simp) ?_
  simp only [Act.put, List.setIfInBounds_toArray, List.set_cons_zero, List.set_cons_succ]
  refine WL.val (by kernel_rfl) (.pointer (some ⟨g, i_, none⟩)) (by go_simp) ?_
  simp only [Act.put, List.setIfInBounds_toArray, List.set_cons_zero, List.set_cons_succ]
  refine WL.val (by kernel_rfl) (.int .i64 0) (by go_simp) ?_
  simp only [Act.put, List.setIfInBounds_toArray, List.set_cons_zero, List.set_cons_succ]
  refine WL.nil ?_
  refine hK8 _ _ ?_
  refine wp_ret ?_
  try simp only [Exit.inBlock, Exit.then]
  exact bodyPost_ret (results_tmp2 (fn := Tryd.f45) rfl _ _ _) rfl ⟨rfl, rfl⟩
theorem named_any (w : World) (x g N : Nat) (K : List Lk) (f t i : Int) (h : RmAt w x g N K) : Calls Tryd.prog 45 #[.pointer (some ⟨x, 0, none⟩), .int .i64 f, .int .i64 t, .int .i64 i] w fun e w' => ∃ q, e = .returned (.tuple #[q, .int .i64 (nmE N K f t i)]) ∧ (nmE N K f t i = 0 → q = .pointer (some ⟨g, (ix f t), none⟩)) ∧ w' = w := by
  unfold nmE
  cases ht : thr N f t
  · exact (nm_no w x g N K f t i ⟨h⟩ ht).mono fun e w' ⟨h1, h2⟩ => ⟨_, h1, fun e => by simp at e, h2⟩
  · have hI := thr_ix h.nb.2 ht
    obtain ⟨_, h2, h3⟩ := h.link ht
    obtain ⟨a, c, e⟩ := h2.sl
    rw [e] at h3
    by_cases h4 : i < 0
    · rw [if_pos rfl, if_pos (.inl h4)]
      exact (nm_neg w x g N K f t i ⟨h⟩ _ _ _ _ ⟨hI⟩ h3 ht h4).mono fun e w' ⟨h1, h2⟩ => ⟨_, h1, fun e => by simp at e, h2⟩
    · by_cases h5 : ((lkOf K f t).R.length : Int) ≤ i
      · rw [if_pos rfl, if_pos (.inr h5)]
        exact (nm_big w x g N K f t i ⟨h⟩ _ _ _ _ ⟨hI⟩ h3 ht h4 h5).mono fun e w' ⟨h1, h2⟩ => ⟨_, h1, fun e => by simp at e, h2⟩
      · rw [if_pos rfl, if_neg (by omega)]
        exact (nm_ok w x g N K f t i ⟨h⟩ _ _ _ _ ⟨hI⟩ h3 ht h4 h5).mono fun e w' ⟨h1, h2⟩ => ⟨_, h1, fun _ => rfl, h2⟩
theorem nmE_ok {N : Nat} {K : List Lk} {f t i : Int} (h : nmE N K f t i = 0) : thr N f t = true ∧ 0 ≤ i ∧ i < ((lkOf K f t).R.length : Int) := by
  unfold nmE at h
  cases ht : thr N f t
  · rw [ht] at h; simp at h
  · rw [ht, if_pos rfl] at h
    by_cases h2 : i < 0 ∨ ((lkOf K f t).R.length : Int) ≤ i
    · rw [if_pos h2] at h; cases h
    · exact ⟨rfl, by omega, by omega⟩
set_option maxRecDepth 8000 in
theorem ln_no (w : World) (x g N : Nat) (K : List Lk) (f t : Int) (HM : Keep (RmAt w x g N K)) (hth : thr N f t = false) : Calls Tryd.prog 34 #[.pointer (some ⟨x, 0, none⟩), .int .i64 f, .int .i64 t] w fun e w' => e = .returned (.int .i64 0) ∧ w' = w := by
  go_enter Tryd.func34, Tryd.ntmps34
  refine wp_seq_k fun K1 hK1 => ?_
  refine wp_region_list (WL.out ?_)
  refine WL.val (by kernel_rfl) (.int .i64 0) (by go_simp) ?_
  simp only [Act.put, List.setIfInBounds_toArray, List.set_cons_zero, List.set_cons_succ]
  refine WL.nil ?_
  refine hK1 _ _ ?_
  refine wp_seq_k fun K2 hK2 => ?_
  refine wp_region_list (WL.out ?_)
  refine WL.val (by kernel_rfl) (.pointer (some ⟨x, 0, none⟩)) (by go_simp) ?_
  simp only [Act.put, List.setIfInBounds_toArray, List.set_cons_zero, List.set_cons_succ]
  refine WL.val (by kernel_rfl) (.int .i64 f) (by go_simp) ?_
  simp only [Act.put, List.setIfInBounds_toArray, List.set_cons_zero, List.set_cons_succ]
  refine WL.val (by kernel_rfl) (.int .i64 t) (by go_simp) ?_
  simp only [Act.put, List.setIfInBounds_toArray, List.set_cons_zero, List.set_cons_succ]
  refine WL.callF (by kernel_rfl) 48 _ _ rfl Tryd.in48 #[.pointer (some ⟨x, 0, none⟩), .int .i64 f, .int .i64 t] (by simp [Act.eval]) ?_
  refine (there_any w x g N K f t HM.out).mono ?_
  rintro e w1_ ⟨rfl, hw_⟩
  refine ⟨_, rfl, ?_⟩
  have hw_ := hw_.symm
  subst hw_
  rw [hth]
  simp only [Act.put, List.setIfInBounds_toArray, List.set_cons_zero, List.set_cons_succ]
  refine WL.val (by kernel_rfl) (.bool false) (by go_simp) ?_
  simp only [Act.put, List.setIfInBounds_toArray, List.set_cons_zero, List.set_cons_succ]
  refine WL.nil ?_
  refine hK2 _ _ ?_
  refine wp_seq_k fun K3 hK3 => ?_
  refine wp_seq_k fun K4 hK4 => ?_
  refine wp_region_list (WL.out ?_)
  refine WL.val (by kernel_rfl) (.bool false) (by go_simp) ?_
  simp only [Act.put, List.setIfInBounds_toArray, List.set_cons_zero, List.set_cons_succ]
  refine WL.val (by kernel_rfl) (.bool true) (by go_simp) ?_
  simp only [Act.put, List.setIfInBounds_toArray, List.set_cons_zero, List.set_cons_succ]
  refine WL.nil ?_
  refine hK4 _ _ ?_
  refine wp_cond_true rfl ?_
  refine wp_seq_k fun K5 hK5 => ?_
  refine wp_region_list (WL.out ?_)
  refine WL.val (by kernel_rfl) (.int .i64 0) (by go_simp) ?_
  simp only [Act.put, List.setIfInBounds_toArray, List.set_cons_zero, List.set_cons_succ]
  refine WL.nil ?_
  refine hK5 _ _ ?_
  refine wp_ret ?_
  go_ret
  exact ⟨rfl, rfl⟩
set_option maxRecDepth 8000 in
theorem ln_ok (w : World) (x g N : Nat) (K : List Lk) (f t : Int) (HM : Keep (RmAt w x g N K)) (i_ n cap : Nat) (la : Option Addr) (HI : Keep ((1 ≤ f ∧ f ≤ 8 ∧ 1 ≤ t ∧ t ≤ 8) ∧ (i_ : Int) = 9 * f + t ∧ i_ < 81)) (c_ : w.cell? ⟨g, i_, none⟩ = some (.slice la n cap)) (hth : thr N f t = true) : Calls Tryd.prog 34 #[.pointer (some ⟨x, 0, none⟩), .int .i64 f, .int .i64 t] w fun e w' => e = .returned (.int .i64 (n : Int)) ∧ w' = w := by
  go_enter Tryd.func34, Tryd.ntmps34
  refine wp_seq_k fun K1 hK1 => ?_
  refine wp_region_list (WL.out ?_)
  refine WL.val (by kernel_rfl) (.int .i64 0) (by go_simp) ?_
  simp only [Act.put, List.setIfInBounds_toArray, List.set_cons_zero, List.set_cons_succ]
  refine WL.nil ?_
  refine hK1 _ _ ?_
  refine wp_seq_k fun K2 hK2 => ?_
  refine wp_region_list (WL.out ?_)
  refine WL.val (by kernel_rfl) (.pointer (some ⟨x, 0, none⟩)) (by go_simp) ?_
  simp only [Act.put, List.setIfInBounds_toArray, List.set_cons_zero, List.set_cons_succ]
  refine WL.val (by kernel_rfl) (.int .i64 f) (by go_simp) ?_
  simp only [Act.put, List.setIfInBounds_toArray, List.set_cons_zero, List.set_cons_succ]
  refine WL.val (by kernel_rfl) (.int .i64 t) (by go_simp) ?_
  simp only [Act.put, List.setIfInBounds_toArray, List.set_cons_zero, List.set_cons_succ]
  refine WL.callF (by kernel_rfl) 48 _ _ rfl Tryd.in48 #[.pointer (some ⟨x, 0, none⟩), .int .i64 f, .int .i64 t] (by simp [Act.eval]) ?_
  refine (there_any w x g N K f t HM.out).mono ?_
  rintro e w1_ ⟨rfl, hw_⟩
  refine ⟨_, rfl, ?_⟩
  have hw_ := hw_.symm
  subst hw_
  rw [hth]
  simp only [Act.put, List.setIfInBounds_toArray, List.set_cons_zero, List.set_cons_succ]
  refine WL.val (by kernel_rfl) (.bool true) (by go_simp) ?_
  simp only [Act.put, List.setIfInBounds_toArray, List.set_cons_zero, List.set_cons_succ]
  refine WL.nil ?_
  refine hK2 _ _ ?_
  refine wp_seq_k fun K3 hK3 => ?_
  refine wp_seq_k fun K4 hK4 => ?_
  refine wp_region_list (WL.out ?_)
  refine WL.val (by kernel_rfl) (.bool true) (by go_simp) ?_
  simp only [Act.put, List.setIfInBounds_toArray, List.set_cons_zero, List.set_cons_succ]
  refine WL.val (by kernel_rfl) (.bool false) (by go_simp) ?_
  simp only [Act.put, List.setIfInBounds_toArray, List.set_cons_zero, List.set_cons_succ]
  refine WL.nil ?_
  refine hK4 _ _ ?_
  refine wp_cond_false rfl ?_
  refine wp_skip ?_
  refine hK3 _ _ ?_
  refine wp_seq_k fun K5 hK5 => ?_
  refine wp_region_list (WL.out ?_)
  refine WL.val (by kernel_rfl) (.pointer (some ⟨x, 0, none⟩)) (by go_simp) ?_
  simp only [Act.put, List.setIfInBounds_toArray, List.set_cons_zero, List.set_cons_succ]
  refine WL.val (by kernel_rfl) (.int .i64 f) (by go_simp) ?_
  simp only [Act.put, List.setIfInBounds_toArray, List.set_cons_zero, List.set_cons_succ]
  refine WL.val (by kernel_rfl) (.int .i64 t) (by go_simp) ?_
  simp only [Act.put, List.setIfInBounds_toArray, List.set_cons_zero, List.set_cons_succ]
  refine WL.callF (by kernel_rfl) 49 _ _ rfl Tryd.in49 #[.pointer (some ⟨x, 0, none⟩), .int .i64 f, .int .i64 t] (by simp [Act.eval]) ?_
  refine (row_any w x g N i_ K f t HM.out HI.out.1 HI.out.2.1 HI.out.2.2).mono ?_
  rintro e w1_ ⟨rfl, hw_⟩
  refine ⟨_, rfl, ?_⟩
  have hw_ := hw_.symm
  subst hw_
  simp only [Act.put, List.setIfInBounds_toArray, List.set_cons_zero, List.set_cons_succ]
  refine WL.val (by kernel_rfl) (.pointer (some ⟨g, i_, none⟩)) (by go_simp) ?_
  simp only [Act.put, List.setIfInBounds_toArray, List.set_cons_zero, List.set_cons_succ]
  refine WL.val (by kernel_rfl) (.pointer (some ⟨g, i_, none⟩)) (by go_simp) ?_
  simp only [Act.put, List.setIfInBounds_toArray, List.set_cons_zero, List.set_cons_succ]
  refine WL.val (by kernel_rfl) (.slice la n cap) (by go_simp) ?_
  simp only [Act.put, List.setIfInBounds_toArray, List.set_cons_zero, List.set_cons_succ]
  refine WL.val (by kernel_rfl) (.int .i64 (n : Int)) (by go_simp) ?_
  simp only [Act.put, List.setIfInBounds_toArray, List.set_cons_zero, List.set_cons_succ]
  refine WL.val (by kernel_rfl) (.int .i64 (n : Int)) (by go_simp) ?_
  simp only [Act.put, List.setIfInBounds_toArray, List.set_cons_zero, List.set_cons_succ]
  refine WL.nil ?_
  refine hK5 _ _ ?_
  refine wp_ret ?_
  go_ret
  exact ⟨rfl, rfl⟩
def lenI (N : Nat) (K : List Lk) (f t : Int) : Int := if thr N f t then ((lkOf K f t).R.length : Int) else 0
theorem rlen_any (w : World) (x g N : Nat) (K : List Lk) (f t : Int) (h : RmAt w x g N K) : Calls Tryd.prog 34 #[.pointer (some ⟨x, 0, none⟩), .int .i64 f, .int .i64 t] w fun e w' => e = .returned (.int .i64 (lenI N K f t)) ∧ w' = w := by
  unfold lenI
  cases ht : thr N f t
  · exact ln_no w x g N K f t ⟨h⟩ ht
  · obtain ⟨_, h2, h3⟩ := h.link ht
    obtain ⟨a, c, e⟩ := h2.sl
    rw [e] at h3
    exact ln_ok w x g N K f t ⟨h⟩ _ _ _ _ ⟨thr_ix h.nb.2 ht⟩ h3 ht
structure RmN (w : World) (x g N : Nat) (K K' : List Lk) (w' : World) : Prop where
  at_ : RmAt w' x g N K'
  gr : Grown w w' (RmW g K)
  new : ∀ k, RmS x g K' k → RmS x g K k ∨ w.heap.size ≤ k
theorem RmN.refl {w : World} {x g N : Nat} {K : List Lk} (h : RmAt w x g N K) : RmN w x g N K K w := ⟨h, Grown.refl _ _, fun _ h => .inl h⟩
theorem RmAt.next {w w' : World} {x g N i : Nat} {K : List Lk} {a b : Lk} (h : RmAt w x g N K) (hi : K[i]? = some a) (hg : Grown w w' (fun k => k = g ∨ a.v.ownBlock = some k)) (hb : Blk w' g 85 ((K.set i b).map (·.v)).toArray) (hl : LkAt w' b) (hn : ∀ m, b.v.ownBlock = some m → a.v.ownBlock = some m ∨ w.heap.size ≤ m) (hr : ∀ p ∈ b.R, ∀ m, p.1.ownBlock = some m → (∃ q ∈ a.R, q.1.ownBlock = some m) ∨ w.heap.size ≤ m) : RmN w x g N K (K.set i b) w' := by
  have ham := List.mem_of_getElem? hi
  refine ⟨h.set hi hg hb hl hn, hg.mono fun k _ e => ?_, fun k hk => ?_⟩
  · rcases e with e | e
    · exact .inl e
    · exact .inr ⟨a, ham, e⟩
  · rcases hk with e | (e | ⟨c, hc, e⟩) | ⟨c, hc, p, hp, e⟩
    · exact .inl (.inl e)
    · exact .inl (.inr (.inl (.inl e)))
    · rcases List.mem_or_eq_of_mem_set hc with hc | rfl
      · exact .inl (.inr (.inl (.inr ⟨c, hc, e⟩)))
      · rcases hn k e with e | e
        · exact .inl (.inr (.inl (.inr ⟨a, ham, e⟩)))
        · exact .inr e
    · rcases List.mem_or_eq_of_mem_set hc with hc | rfl
      · exact .inl (.inr (.inr ⟨c, hc, p, hp, e⟩))
      · rcases hr p hp k e with ⟨q, hq, e⟩ | e
        · exact .inl (.inr (.inr ⟨a, ham, q, hq, e⟩))
        · exact .inr e
theorem RmAt.bgset {w : World} {x g N i : Nat} {K : List Lk} {b : Lk} {v : Value} (h : Blk w g 85 (K.map (·.v)).toArray) (hv : b.v = v) : Blk (w.setCell ⟨g, i, none⟩ v) g 85 ((K.set i b).map (·.v)).toArray := by
  have e := h.set i v
  have e2 : ((K.map (·.v)).toArray.setIfInBounds i v) = ((K.set i b).map (·.v)).toArray := by
    rw [List.setIfInBounds_toArray, List.map_set, hv]
  rw [e2] at e
  exact e
set_option maxRecDepth 8000 in
theorem cr_no (w : World) (x g N : Nat) (K : List Lk) (f t : Int) (HM : Keep (RmAt w x g N K)) (hth : thr N f t = false) : Calls Tryd.prog 32 #[.pointer (some ⟨x, 0, none⟩), .int .i64 f, .int .i64 t] w fun e w' => e = .returned (.int .i64 1) ∧ w' = w := by
  go_enter Tryd.func32, Tryd.ntmps32
  refine wp_seq_k fun K1 hK1 => ?_
  refine wp_region_list (WL.out ?_)
  refine WL.val (by kernel_rfl) (.int .i64 0) (by go_simp) ?_
  simp only [Act.put, List.setIfInBounds_toArray, List.set_cons_zero, List.set_cons_succ]
  refine WL.nil ?_
  refine hK1 _ _ ?_
  refine wp_seq_k fun K2 hK2 => ?_
  refine wp_region_list (WL.out ?_)
  refine WL.val (by kernel_rfl) (.pointer (some ⟨x, 0, none⟩)) (by go_simp) ?_
  simp only [Act.put, List.setIfInBounds_toArray, List.set_cons_zero, List.set_cons_succ]
  refine WL.val (by kernel_rfl) (.int .i64 f) (by go_simp) ?_
  simp only [Act.put, List.setIfInBounds_toArray, List.set_cons_zero, List.set_cons_succ]
  refine WL.val (by kernel_rfl) (.int .i64 t) (by go_simp) ?_
  simp only [Act.put, List.setIfInBounds_toArray, List.set_cons_zero, List.set_cons_succ]
  refine WL.callF (by kernel_rfl) 48 _ _ rfl Tryd.in48 #[.pointer (some ⟨x, 0, none⟩), .int .i64 f, .int .i64 t] (by simp [Act.eval]) ?_
  refine (there_any w x g N K f t HM.out).mono ?_
  rintro e w1_ ⟨rfl, hw_⟩
  refine ⟨_, rfl, ?_⟩
  have hw_ := hw_.symm
  subst hw_
  rw [hth]
  simp only [Act.put, List.setIfInBounds_toArray, List.set_cons_zero, List.set_cons_succ]
  refine WL.val (by kernel_rfl) (.bool false) (by go_simp) ?_
  simp only [Act.put, List.setIfInBounds_toArray, List.set_cons_zero, List.set_cons_succ]
  refine WL.nil ?_
  refine hK2 _ _ ?_
  refine wp_seq_k fun K3 hK3 => ?_
  refine wp_seq_k fun K4 hK4 => ?_
  refine wp_region_list (WL.out ?_)
  refine WL.val (by kernel_rfl) (.bool false) (by go_simp) ?_
  simp only [Act.put, List.setIfInBounds_toArray, List.set_cons_zero, List.set_cons_succ]
  refine WL.val (by kernel_rfl) (.bool true) (by go_simp) ?_
  simp only [Act.put, List.setIfInBounds_toArray, List.set_cons_zero, List.set_cons_succ]
  refine WL.nil ?_
  refine hK4 _ _ ?_
  refine wp_cond_true rfl ?_
  refine wp_seq_k fun K5 hK5 => ?_
  refine wp_region_list (WL.out ?_)
  refine WL.val (by kernel_rfl) (.int .i64 1) (by go_simp) ?_
  simp only [Act.put, List.setIfInBounds_toArray, List.set_cons_zero, List.set_cons_succ]
  refine WL.nil ?_
  refine hK5 _ _ ?_
  refine wp_ret ?_
  go_ret
  exact ⟨rfl, rfl⟩
set_option maxRecDepth 8000 in
theorem cr_ok (w : World) (x g N : Nat) (K : List Lk) (f t : Int) (HM : Keep (RmAt w x g N K)) (i_ : Nat) (a : Lk) (HI : Keep ((1 ≤ f ∧ f ≤ 8 ∧ 1 ≤ t ∧ t ≤ 8) ∧ (i_ : Int) = 9 * f + t ∧ i_ < 81)) (Ha : Keep (K[i_]? = some a)) (hth : thr N f t = true) : Calls Tryd.prog 32 #[.pointer (some ⟨x, 0, none⟩), .int .i64 f, .int .i64 t] w fun e w' => e = .returned (.int .i64 0) ∧ RmN w x g N K (K.set i_ ⟨.slice none 0 0, []⟩) w' := by
  have f_o := HM.out.bg.frozen i_
  have c_o := HM.out.bg.c i_ (by simp [Ha.out] : (K.map (·.v)).toArray[i_]? = some a.v)
  go_enter Tryd.func32, Tryd.ntmps32
  refine wp_seq_k fun K1 hK1 => ?_
  refine wp_region_list (WL.out ?_)
  refine WL.val (by kernel_rfl) (.int .i64 0) (by go_simp) ?_
  simp only [Act.put, List.setIfInBounds_toArray, List.set_cons_zero, List.set_cons_succ]
  refine WL.nil ?_
  refine hK1 _ _ ?_
  refine wp_seq_k fun K2 hK2 => ?_
  refine wp_region_list (WL.out ?_)
  refine WL.val (by kernel_rfl) (.pointer (some ⟨x, 0, none⟩)) (by go_simp) ?_
  simp only [Act.put, List.setIfInBounds_toArray, List.set_cons_zero, List.set_cons_succ]
  refine WL.val (by kernel_rfl) (.int .i64 f) (by go_simp) ?_
  simp only [Act.put, List.setIfInBounds_toArray, List.set_cons_zero, List.set_cons_succ]
  refine WL.val (by kernel_rfl) (.int .i64 t) (by go_simp) ?_
  simp only [Act.put, List.setIfInBounds_toArray, List.set_cons_zero, List.set_cons_succ]
  refine WL.callF (by kernel_rfl) 48 _ _ rfl Tryd.in48 #[.pointer (some ⟨x, 0, none⟩), .int .i64 f, .int .i64 t] (by simp [Act.eval]) ?_
  refine (there_any w x g N K f t HM.out).mono ?_
  rintro e w1_ ⟨rfl, hw_⟩
  refine ⟨_, rfl, ?_⟩
  have hw_ := hw_.symm
  subst hw_
  rw [hth]
  simp only [Act.put, List.setIfInBounds_toArray, List.set_cons_zero, List.set_cons_succ]
  refine WL.val (by kernel_rfl) (.bool true) (by go_simp) ?_
  simp only [Act.put, List.setIfInBounds_toArray, List.set_cons_zero, List.set_cons_succ]
  refine WL.nil ?_
  refine hK2 _ _ ?_
  refine wp_seq_k fun K3 hK3 => ?_
  refine wp_seq_k fun K4 hK4 => ?_
  refine wp_region_list (WL.out ?_)
  refine WL.val (by kernel_rfl) (.bool true) (by go_simp) ?_
  simp only [Act.put, List.setIfInBounds_toArray, List.set_cons_zero, List.set_cons_succ]
  refine WL.val (by kernel_rfl) (.bool false) (by go_simp) ?_
  simp only [Act.put, List.setIfInBounds_toArray, List.set_cons_zero, List.set_cons_succ]
  refine WL.nil ?_
  refine hK4 _ _ ?_
  refine wp_cond_false rfl ?_
  refine wp_skip ?_
  refine hK3 _ _ ?_
  refine wp_seq_k fun K5 hK5 => ?_
  refine wp_region_list (WL.out ?_)
  refine WL.val (by kernel_rfl) (.pointer (some ⟨x, 0, none⟩)) (by go_simp) ?_
  simp only [Act.put, List.setIfInBounds_toArray, List.set_cons_zero, List.set_cons_succ]
  refine WL.val (by kernel_rfl) (.int .i64 f) (by go_simp) ?_
  simp only [Act.put, List.setIfInBounds_toArray, List.set_cons_zero, List.set_cons_succ]
  refine WL.val (by kernel_rfl) (.int .i64 t) (by go_simp) ?_
  simp only [Act.put, List.setIfInBounds_toArray, List.set_cons_zero, List.set_cons_succ]
  refine WL.callF (by kernel_rfl) 49 _ _ rfl Tryd.in49 #[.pointer (some ⟨x, 0, none⟩), .int .i64 f, .int .i64 t] (by simp [Act.eval]) ?_
  refine (row_any w x g N i_ K f t HM.out HI.out.1 HI.out.2.1 HI.out.2.2).mono ?_
  rintro e w1_ ⟨rfl, hw_⟩
  refine ⟨_, rfl, ?_⟩
  have hw_ := hw_.symm
  subst hw_
  simp only [Act.put, List.setIfInBounds_toArray, List.set_cons_zero, List.set_cons_succ]
  refine WL.val (by kernel_rfl) (.pointer (some ⟨g, i_, none⟩)) (by go_simp) ?_
  simp only [Act.put, List.setIfInBounds_toArray, List.set_cons_zero, List.set_cons_succ]
  refine WL.val (by kernel_rfl) (.pointer (some ⟨g, i_, none⟩)) (by go_simp) ?_
  simp only [Act.put, List.setIfInBounds_toArray, List.set_cons_zero, List.set_cons_succ]
  refine WL.cell (by kernel_rfl) (w.setCell ⟨g, i_, none⟩ (.slice none 0 0)) (by go_simp) ?_
  clear f_o c_o
  have N1 : Keep (RmN w x g N K (K.set i_ ⟨.slice none 0 0, []⟩) (w.setCell ⟨g, i_, none⟩ (.slice none 0 0))) := ⟨HM.out.next Ha.out (Grown.setCell w g i_ _ fun _ => .inl rfl) (RmAt.bgset (x := x) (N := N) HM.out.bg rfl) ⟨⟨rfl, .inl ⟨rfl, rfl⟩⟩, fun p hp => by simp at hp, by simp⟩ (fun m e => by simp [Value.ownBlock] at e) fun p hp => by simp at hp⟩
  generalize w.setCell ⟨g, i_, none⟩ (.slice none 0 0) = w1 at *
  simp only [Act.put]
  refine WL.nil ?_
  refine hK5 _ _ ?_
  refine wp_seq_k fun K6 hK6 => ?_
  refine wp_region_list (WL.out ?_)
  refine WL.val (by kernel_rfl) (.int .i64 0) (by go_simp) ?_
  simp only [Act.put, List.setIfInBounds_toArray, List.set_cons_zero, List.set_cons_succ]
  refine WL.nil ?_
  refine hK6 _ _ ?_
  refine wp_ret ?_
  go_ret
  exact ⟨rfl, N1.out⟩

end Go.Proofs.YteecdcocgflklaaDoor
namespace Go.Proofs
abbrev Tryd.muLink : Go.Conc.Locks.MuLink := { lock := 36, unlock := 37, ilock := 50, iunlock := 51, lockSlow := 57, unlockSlow := 60, disable := 53, enable := 55, acquire := 56, relMerge := 58, cas32 := 54, add32 := 59, tMutex := 65, tIMutex := 63, tPMutex := 88, tPIMutex := 92, tPI32 := 94, tUP := 96, tNoCopy := 60, tU32 := 61 }
theorem Tryd.muLib : Go.Conc.Locks.MuLib Tryd.prog Tryd.muLink :=
  ⟨Tryd.func36, Tryd.func37, Tryd.func50, Tryd.func51, Tryd.func53, Tryd.func55, Tryd.func56, Tryd.func58, Tryd.func54, Tryd.func59, Tryd.underlying63, Tryd.runUnderlying63, Tryd.sizeOf63, Tryd.isAgg63, Tryd.zeroValue63, Tryd.underlying65, Tryd.runUnderlying65, Tryd.sizeOf65, Tryd.isAgg65, Tryd.zeroValue65, Tryd.underlying88, Tryd.runUnderlying88, Tryd.sizeOf88, Tryd.isAgg88, Tryd.zeroValue88, Tryd.underlying92, Tryd.runUnderlying92, Tryd.sizeOf92, Tryd.isAgg92, Tryd.zeroValue92, Tryd.underlying94, Tryd.runUnderlying94, Tryd.sizeOf94, Tryd.isAgg94, Tryd.zeroValue94, Tryd.underlying96, Tryd.runUnderlying96, Tryd.sizeOf96, Tryd.isAgg96, Tryd.zeroValue96, Tryd.underlying60, Tryd.runUnderlying60, Tryd.sizeOf60, Tryd.isAgg60, Tryd.zeroValue60, Tryd.underlying21, Tryd.runUnderlying21, Tryd.sizeOf21, Tryd.isAgg21, Tryd.zeroValue21, (by kernel_rfl)⟩
end Go.Proofs
namespace Go.Proofs.YteecdcocgflklaaDoor
open Go.RowKit
set_option linter.unusedSimpArgs false
set_option linter.unusedVariables false
theorem WL.defer {P : Program} {ops : Array Oper} {rest : List Oper} {o : Oper} {a : Act} {w : World} {Q : Exit → Act → World → Prop} (hw : Region.wanted o (yielded ops a.tmps) = true) (d : Deferred) (hrun : (execOp a.eval o).run P w = .ok (.defer d) w) (h : WL P ops Q rest ({ a with defers := d :: a.defers }.put o.dst undef) w) : WL P ops Q (o :: rest) a w :=
  ⟨wpList_wanted hw fun K hK => by
    unfold Oper.wp
    rw [hrun, Oper.upon_defer]
    exact hK _ _ h.out⟩
theorem eraseIdx_mapX {α β : Type} (f : α → β) : ∀ (l : List α) (j : Nat), (l.eraseIdx j).map f = (l.map f).eraseIdx j
  | [], _ => rfl
  | _ :: _, 0 => rfl
  | a :: l, j + 1 => by simp [List.eraseIdx, eraseIdx_mapX f l j]
def kV (p : Int × Int) : Value := .agg #[.int .i64 p.1, .int .i64 p.2]
def MpIs (w : World) (b : Nat) (l : List ((Int × Int) × Value)) : Prop := ∃ es ck, w.heap[b]? = some (.map es ck) ∧ es.toList.map (fun e => (e.key, e.val)) = l.map fun p => (kV p.1, p.2)
def kI (k : Int × Int) (p : (Int × Int) × Value) : Bool := decide (k = p.1)
theorem MpIs.grown {w w' : World} {S : Nat → Prop} {b : Nat} {l : List ((Int × Int) × Value)} (h : MpIs w b l) (hg : Grown w w' S) (hb : ¬ S b) : MpIs w' b l := by
  obtain ⟨es, ck, h1, h2⟩ := h
  exact ⟨es, ck, by rw [hg.block b (Array.getElem?_eq_some_iff.1 h1).1 hb]; exact h1, h2⟩
theorem MpIs.lt {w : World} {b : Nat} {l : List ((Int × Int) × Value)} (h : MpIs w b l) : b < w.heap.size := by
  obtain ⟨es, ck, h1, _⟩ := h
  exact (Array.getElem?_eq_some_iff.1 h1).1
theorem kV_chk (em : Bool) (k : Int × Int) (w : World) : (Instr.checkKey em 10000 58 (kV k)).run Tryd.prog w = .ok () w := by cases em <;> kernel_rfl
theorem kV_eq (x y : Int × Int) (w : World) : (Op.equal 58 (kV x) (kV y)).run Tryd.prog w = .ok (decide (x = y)) w := by
  have h : (Op.equal 58 (kV x) (kV y)).run Tryd.prog w = .ok (x.1 == y.1 && x.2 == y.2) w := by
    obtain ⟨a, b⟩ := x
    obtain ⟨c, d⟩ := y
    unfold kV Op.equal
    rw [show Op.maxDepth = 9999 + 1 from rfl, run_equalIn_struct w 9999 58 _ _ (by kernel_rfl) (by kernel_rfl)]
    unfold Program.fieldsOf
    rw [Tryd.underlying58]
    simp only
    cases hac : (a == c)
    · simp [Op.eqFields, hac, run_equalIn_int _ 9998 3 _ _ _ _ Tryd.underlying3, go_sem]
    · simp [Op.eqFields, hac, run_equalIn_int _ 9998 3 _ _ _ _ Tryd.underlying3, go_sem]
      by_cases hbd : b = d <;> simp [hbd]
  rw [h, show (x.1 == y.1 && x.2 == y.2) = decide (x = y) from ?_]
  obtain ⟨a, b⟩ := x
  obtain ⟨c, d⟩ := y
  rw [Bool.eq_iff_iff]
  simp
theorem kfind (k : Int × Int) : ∀ {l : List ((Int × Int) × Value)} {es : List MapEntry}, es.map (fun e => (e.key, e.val)) = l.map (fun p => (kV p.1, p.2)) →
    (l.find? (kI k) = none ∧ ∀ (wx : World) i, (Instr.findAsking 58 (kV k) es i).run Tryd.prog wx = .ok none wx) ∨
    ∃ (j : Nat) (e : MapEntry) (v : Value), l.find? (kI k) = some (k, v) ∧ es[j]? = some e ∧ l[j]? = some (k, v) ∧ e.val = v ∧ l.eraseP (kI k) = l.eraseIdx j ∧ ∀ (wx : World) i, (Instr.findAsking 58 (kV k) es i).run Tryd.prog wx = .ok (some (i + j, v)) wx
  | [], [], _ => .inl ⟨rfl, fun wx i => rfl⟩
  | p :: l, e :: es, h => by
    simp only [List.map_cons, List.cons.injEq, Prod.mk.injEq] at h
    have hk : ∀ (wx : World) i, (Instr.findAsking 58 (kV k) (e :: es) i).run Tryd.prog wx = if kI k p = true then .ok (some (i, p.2)) wx else (Instr.findAsking 58 (kV k) es (i + 1)).run Tryd.prog wx := fun wx i => by
      rw [Instr.findAsking, h.1.1, Sem.run_bind, kV_eq, Result.andThen_ok, h.1.2]
      show (if kI k p = true then _ else _ : Sem _).run Tryd.prog wx = _
      split <;> rfl
    by_cases hv : kI k p = true
    · have e1 : p = (k, p.2) := by unfold kI at hv; rw [decide_eq_true_iff] at hv; rw [hv]
      refine .inr ⟨0, e, p.2, by rw [List.find?_cons, hv]; exact congrArg some e1, rfl, by rw [List.getElem?_cons_zero]; exact congrArg some e1, h.1.2, by simp [List.eraseP, hv], fun wx i => ?_⟩
      rw [hk, if_pos hv]; rfl
    · rcases kfind k h.2 with ⟨h1, h2⟩ | ⟨j, e', v', h1, h2, h3, h4, h5, h6⟩
      · refine .inl ⟨by simp [List.find?, hv, h1], fun wx i => ?_⟩
        rw [hk, if_neg hv, h2]
      · refine .inr ⟨j + 1, e', v', by simp [List.find?, hv, h1], h2, h3, h4, by simp [List.eraseP, hv, h5], fun wx i => ?_⟩
        rw [hk, if_neg hv, h6, Nat.add_assoc, Nat.add_comm 1 j]
  | [], _ :: _, h => by simp at h
  | _ :: _, [], h => by simp at h
theorem kfindKey (k : Int × Int) (es : List MapEntry) (w : World) : (Instr.findKey 58 (kV k) es).run Tryd.prog w = (Instr.findAsking 58 (kV k) es 0).run Tryd.prog w := by
  unfold Instr.findKey
  rw [Sem.run_bind, run_underlying Tryd.underlying58, Result.andThen_ok]
  cases es <;> rfl
def atK (l : List ((Int × Int) × Value)) (k : Int × Int) : Value := ((l.find? (kI k)).map (·.2)).getD (.slice none 0 0)
theorem look_any {w : World} {b : Nat} {l : List ((Int × Int) × Value)} (h : MpIs w b l) (k : Int × Int) : (Instr.lookup 56 (.map (some b)) (kV k) false).run Tryd.prog w = .ok (atK l k) w := by
  obtain ⟨es, ck, h1, h2⟩ := h
  unfold atK
  rcases kfind k h2 with ⟨e1, e2⟩ | ⟨j, e, v, e1, _, _, _, _, e5⟩
  · simp [Instr.lookup, run_underlying Tryd.underlying56, MapKept.run_getObj_map h1, kV_chk, kfindKey, e2 _ 0, Result.andThen, e1]
  · simp [Instr.lookup, run_underlying Tryd.underlying56, MapKept.run_getObj_map h1, kV_chk, kfindKey, e5 _ 0, Result.andThen, e1]
theorem kgrown_block {w : World} {b : Nat} {es : Array MapEntry} {ck : Nat} (h1 : w.heap[b]? = some (.map es ck)) (o : Obj) : Grown w { w with heap := w.heap.setIfInBounds b o } fun k => k = b :=
  ⟨rfl, rfl, rfl, by simp, fun k hk hb => by simp [Array.getElem?_setIfInBounds, Ne.symm hb]⟩
theorem kupd_new {w : World} {b : Nat} {l : List ((Int × Int) × Value)} (h : MpIs w b l) (k : Int × Int) (v : Value) (hn : l.find? (kI k) = none) :
    ∃ w', (Instr.mapUpdate 56 (.map (some b)) (kV k) v).run Tryd.prog w = .ok () w' ∧ MpIs w' b (l ++ [(k, v)]) ∧ Grown w w' fun k => k = b := by
  obtain ⟨es, ck, h1, h2⟩ := h
  have hlt := (Array.getElem?_eq_some_iff.1 h1).1
  rcases kfind k h2 with ⟨e1, e2⟩ | ⟨j, e, v', e1, _⟩
  · have hg := kgrown_block h1 (.map (es.push ⟨kV k, v, ck⟩) (ck + 1))
    refine ⟨{ w with heap := w.heap.setIfInBounds b (.map (es.push ⟨kV k, v, ck⟩) (ck + 1)) }, ?_, ⟨_, _, by simp [hlt]; exact ⟨rfl, rfl⟩, ?_⟩, hg⟩
    · simp [Instr.mapUpdate, run_underlying Tryd.underlying56, MapKept.run_getObj_map h1, kV_chk, kfindKey, e2 _ 0, MapKept.run_setObj_map _ h1, Result.andThen]
    · rw [Array.toList_push, List.map_append, h2, List.map_append]; rfl
  · rw [hn] at e1; cases e1
theorem kupd_old {w : World} {b : Nat} {l : List ((Int × Int) × Value)} (h : MpIs w b l) (k : Int × Int) (v u : Value) (hn : l.find? (kI k) = some (k, u)) :
    ∃ w' j, (Instr.mapUpdate 56 (.map (some b)) (kV k) v).run Tryd.prog w = .ok () w' ∧ l[j]? = some (k, u) ∧ MpIs w' b (l.set j (k, v)) ∧ Grown w w' fun k => k = b := by
  obtain ⟨es, ck, h1, h2⟩ := h
  have hlt := (Array.getElem?_eq_some_iff.1 h1).1
  rcases kfind k h2 with ⟨e1, e2⟩ | ⟨j, e, v', e1, e2, e3, e4, e5, e6⟩
  · rw [hn] at e1; cases e1
  · obtain rfl : u = v' := by rw [hn] at e1; injection e1 with e1; injection e1
    have hjs : j < es.size := by simpa using (List.getElem?_eq_some_iff.1 e2).1
    have hke : e.key = kV k := by
      have h3 := congrArg (fun x => x[j]?) h2
      simp only [List.getElem?_map, e2, e3, Option.map_some, Option.some.injEq, Prod.mk.injEq] at h3
      exact h3.1
    have hei : es[j]? = some e := by rw [← Array.getElem?_toList]; exact e2
    have hg := kgrown_block h1 (.map (es.modify j fun e => { e with key := kV k, val := v }) ck)
    refine ⟨{ w with heap := w.heap.setIfInBounds b (.map (es.modify j fun e => { e with key := kV k, val := v }) ck) }, j, ?_, e3, ⟨_, _, by simp [hlt]; exact ⟨rfl, rfl⟩, ?_⟩, hg⟩
    · have hsb : Instr.sameBits 10000 (kV k) (kV k) = true := by
        unfold kV
        rw [show (10000 : Nat) = 9998 + 1 + 1 from rfl]
        simp [Instr.sameBits]
      have hks : (Instr.keyThatStays (kV k) (kV k)).run Tryd.prog w = .ok (kV k) w := by
        unfold Instr.keyThatStays
        rw [if_pos hsb]
        rfl
      simp [Instr.mapUpdate, run_underlying Tryd.underlying56, MapKept.run_getObj_map h1, kV_chk, kfindKey, e6 _ 0, MapKept.run_setObj_map _ h1, Result.andThen, hei, hke, hks]
    · apply List.ext_getElem?
      intro i
      have h3 := congrArg (fun x => x[i]?) h2
      simp only [List.getElem?_map] at h3 ⊢
      rw [Array.getElem?_toList, Array.getElem?_modify]
      by_cases hij : j = i
      · subst hij
        rw [if_pos rfl, hei, List.getElem?_set_self (List.getElem?_eq_some_iff.1 e3).1]
        rfl
      · rw [if_neg hij, List.getElem?_set_ne hij, ← h3, Array.getElem?_toList]

theorem kfind_set : ∀ (L : List ((Int × Int) × Value)) (j : Nat) (k : Int × Int) (u v : Value), (L.map (·.1)).Nodup → L[j]? = some (k, u) → ∀ k', (L.set j (k, v)).find? (kI k') = if k' = k then some (k, v) else L.find? (kI k')
  | [], j, k, u, v, _, h, _ => by simp at h
  | x :: L, 0, k, u, v, hn, h, k' => by
    simp only [List.getElem?_cons_zero, Option.some.injEq] at h
    subst h
    rw [List.set_cons_zero]
    by_cases e : k' = k
    · subst e; simp [kI]
    · simp [kI, e]
  | x :: L, j + 1, k, u, v, hn, h, k' => by
    simp only [List.getElem?_cons_succ] at h
    simp only [List.map_cons, List.nodup_cons] at hn
    have hne : ¬ x.1 = k := fun e => hn.1 (by rw [e]; exact List.mem_map.2 ⟨(k, u), List.mem_of_getElem? h, rfl⟩)
    rw [List.set_cons_succ]
    by_cases e : k' = x.1
    · have e2 : ¬ k' = k := fun e3 => hne (e ▸ e3)
      simp [List.find?, kI, e, hne]
    · have ih := kfind_set L j k u v hn.2 h k'
      simp only [List.find?, kI, decide_eq_false e]
      exact ih
theorem keys_set (L : List ((Int × Int) × Value)) (j : Nat) (k : Int × Int) (u v : Value) (h : L[j]? = some (k, u)) : (L.set j (k, v)).map (·.1) = L.map (·.1) := by
  rw [List.map_set]
  apply List.ext_getElem?
  intro i
  by_cases e : j = i
  · subst e
    rw [List.getElem?_set_self (by rw [List.length_map]; exact (List.getElem?_eq_some_iff.1 h).1), List.getElem?_map, h]
    rfl
  · rw [List.getElem?_set_ne e]
def LnAt (w : World) (mb N : Nat) (K : List Lk) : Prop := ∃ L, MpIs w mb L ∧ (L.map (·.1)).Nodup ∧ ∀ k : Int × Int, L.find? (kI k) = if thr N k.1 k.2 = true then some (k, (lkOf K k.1 k.2).v) else none
structure PmAt (w : World) (p mb N : Nat) (l : Int) (K : List Lk) : Prop where
  bx : Blk w p 67 #[.int .i32 l, .int .u32 0, .map (some mb)]
  mp : LnAt w mb N K
  len : K.length = 81
  nb : 1 ≤ N ∧ N ≤ 8
  lk : ∀ k ∈ K, LkAt w k
  ne : ∀ (i j : Nat) (a b : Lk) (m : Nat), K[i]? = some a → K[j]? = some b → a.v.ownBlock = some m → b.v.ownBlock = some m → i = j
  nr : ∀ (i j s t : Nat) (a b : Lk) (q r : Value × List Int) (m : Nat), K[i]? = some a → K[j]? = some b → a.R[s]? = some q → b.R[t]? = some r → q.1.ownBlock = some m → r.1.ownBlock = some m → i = j ∧ s = t
def LkS (a : Lk) (k : Nat) : Prop := a.v.ownBlock = some k ∨ ∃ q ∈ a.R, q.1.ownBlock = some k
def PmS (p mb : Nat) (K : List Lk) (k : Nat) : Prop := k = p ∨ k = mb ∨ ∃ a ∈ K, LkS a k
theorem LnAt.lt {w : World} {mb N : Nat} {K : List Lk} (h : LnAt w mb N K) : mb < w.heap.size := by
  obtain ⟨L, h1, _⟩ := h
  exact h1.lt
theorem LnAt.ne {w : World} {mb N k : Nat} {K : List Lk} {T : TypeId} (h : LnAt w mb N K) (hb : Typ w k T) : k ≠ mb := by
  obtain ⟨L, ⟨es, ck, h1, _⟩, _⟩ := h
  obtain ⟨cs, fz, hc⟩ := hb
  rintro rfl
  rw [h1] at hc
  cases hc
theorem LnAt.grown {w w' : World} {mb N : Nat} {K : List Lk} {S : Nat → Prop} (h : LnAt w mb N K) (hg : Grown w w' S) (hs : ¬ S mb) : LnAt w' mb N K := by
  obtain ⟨L, h1, h2⟩ := h
  exact ⟨L, h1.grown hg hs, h2⟩
theorem PmAt.grown {w w' : World} {p mb N : Nat} {l : Int} {K : List Lk} {S : Nat → Prop} (h : PmAt w p mb N l K) (hg : Grown w w' S) (hs : ∀ m, S m → ¬ PmS p mb K m) : PmAt w' p mb N l K :=
  ⟨hg.blk h.bx fun e => hs _ e (.inl rfl), h.mp.grown hg fun e => hs _ e (.inr (.inl rfl)), h.len, h.nb, fun k hk => (h.lk k hk).grown hg fun m e => ⟨fun e2 => hs m e (.inr (.inr ⟨k, hk, .inl e2⟩)), fun q hq e2 => hs m e (.inr (.inr ⟨k, hk, .inr ⟨q, hq, e2⟩⟩))⟩, h.ne, h.nr⟩
theorem PmAt.below {w w' : World} {p mb N : Nat} {l : Int} {K : List Lk} (h : PmAt w p mb N l K) (hb : Below w.heap.size w w') : PmAt w' p mb N l K := h.grown (Grown.below (S := fun _ => False) hb) fun _ e => e.elim
theorem PmAt.lt {w : World} {p mb N : Nat} {l : Int} {K : List Lk} (h : PmAt w p mb N l K) : ∀ k, PmS p mb K k → k < w.heap.size := fun k hk => by
  rcases hk with rfl | rfl | ⟨a, ha, e | ⟨q, hq, e⟩⟩
  · exact h.bx.lt
  · exact h.mp.lt
  · exact (owns_lt (h.lk a ha).own k e).2
  · exact ((h.lk a ha).rows q hq).1.lt k e
theorem thr_inj {N : Nat} {f t f' t' : Int} (hN : N ≤ 8) (h : thr N f t = true) (h' : thr N f' t' = true) (e : ix f t = ix f' t') : f = f' ∧ t = t' := by
  have h1 := thr_ix hN h
  have h2 := thr_ix hN h'
  rw [e] at h1
  omega
theorem lkOf_set {N : Nat} {K : List Lk} {f t f' t' : Int} {b : Lk} (hN : N ≤ 8) (hl : K.length = 81) (h : thr N f t = true) (h' : thr N f' t' = true) : lkOf (K.set (ix f t) b) f' t' = if (f', t') = (f, t) then b else lkOf K f' t' := by
  unfold lkOf
  have h1 := (thr_ix hN h).2.2
  by_cases e : ix f t = ix f' t'
  · obtain ⟨rfl, rfl⟩ := thr_inj hN h h' e
    rw [List.getElem?_set_self (by omega), if_pos rfl]; rfl
  · rw [List.getElem?_set_ne e, if_neg (fun e2 => e (by injection e2 with e3 e4; rw [e3, e4]))]
theorem PmAt.link {w : World} {p mb N : Nat} {l : Int} {K : List Lk} {f t : Int} (h : PmAt w p mb N l K) (ht : thr N f t = true) : K[ix f t]? = some (lkOf K f t) ∧ LkAt w (lkOf K f t) := by
  have h1 := (thr_ix h.nb.2 ht).2.2
  have h2 : K[ix f t]? = some (lkOf K f t) := by unfold lkOf; rw [List.getElem?_eq_getElem (by rw [h.len]; exact h1)]; rfl
  exact ⟨h2, h.lk _ (List.mem_of_getElem? h2)⟩
structure PmN (w : World) (p mb N : Nat) (K K' : List Lk) (l : Int) (w' : World) : Prop where
  at_ : PmAt w' p mb N l K'
  gr : Grown w w' (PmS p mb K)
  new : ∀ k, PmS p mb K' k → PmS p mb K k ∨ w.heap.size ≤ k
theorem PmN.below {w w' : World} {p mb N : Nat} {l : Int} {K : List Lk} (h : PmAt w p mb N l K) (hb : Below w.heap.size w w') : PmN w p mb N K K l w' := ⟨h.below hb, Grown.below hb, fun _ h => .inl h⟩
theorem PmN.trans {w w1 w2 : World} {p mb N : Nat} {l m : Int} {K K1 K2 : List Lk} (h : PmN w p mb N K K1 l w1) (k : PmN w1 p mb N K1 K2 m w2) : PmN w p mb N K K2 m w2 :=
  ⟨k.at_, h.gr.next k.gr fun i hi e => (h.new i e).resolve_right (by omega), fun i e => by
    rcases k.new i e with e | e
    · exact h.new i e
    · exact .inr (Nat.le_trans h.gr.size e)⟩
theorem PmAt.relock {w : World} {p mb N : Nat} {l : Int} {K : List Lk} (h : PmAt w p mb N l K) (m : Int) : PmN w p mb N K K m (w.setCell ⟨p, 0, none⟩ (.int .i32 m)) := by
  have hg : Grown w (w.setCell ⟨p, 0, none⟩ (.int .i32 m)) (fun k => k = p) := Grown.setCell w p 0 _ fun _ => rfl
  have ht := h.bx.typ
  refine ⟨⟨by simpa using h.bx.set 0 (.int .i32 m), h.mp.grown hg fun e => h.mp.ne ht e.symm, h.len, h.nb, fun k hk => (h.lk k hk).grown hg fun j e => ⟨fun e2 => ?_, fun q hq e2 => ?_⟩, h.ne, h.nr⟩, hg.mono fun i _ e => .inl e, fun _ e => .inl e⟩
  · subst e; exact absurd ((owns_typ (h.lk k hk).own e2).one ht) (by decide)
  · subst e; exact absurd ((owns_typ ((h.lk k hk).rows q hq).1 e2).one ht) (by decide)
theorem PmAt.set {w w' : World} {p mb N : Nat} {l : Int} {f t : Int} {K : List Lk} {b : Lk} (h : PmAt w p mb N l K) (ht : thr N f t = true) (hg : Grown w w' (fun k => k = mb ∨ LkS (lkOf K f t) k)) (hm : LnAt w' mb N (K.set (ix f t) b)) (hl : LkAt w' b)
    (hn : ∀ m, b.v.ownBlock = some m → (lkOf K f t).v.ownBlock = some m ∨ w.heap.size ≤ m) (hr : ∀ q ∈ b.R, ∀ m, q.1.ownBlock = some m → (∃ r ∈ (lkOf K f t).R, r.1.ownBlock = some m) ∨ w.heap.size ≤ m)
    (hd : ∀ (s u : Nat) (q r : Value × List Int) (m : Nat), b.R[s]? = some q → b.R[u]? = some r → q.1.ownBlock = some m → r.1.ownBlock = some m → s = u) : PmN w p mb N K (K.set (ix f t) b) l w' := by
  obtain ⟨hi, ha⟩ := h.link ht
  generalize lkOf K f t = a at *
  generalize ix f t = i at *
  have hil := (List.getElem?_eq_some_iff.mp hi).1
  have ham := List.mem_of_getElem? hi
  have hpt := h.bx.typ
  have typ : ∀ m, LkS a m → Typ w m 39 ∨ Typ w m 5 := fun m e => by
    rcases e with e | ⟨q, hq, e⟩
    · exact .inl (owns_typ ha.own e)
    · exact .inr (owns_typ (ha.rows q hq).1 e)
  have hel : ∀ j c, j ≠ i → K[j]? = some c → LkAt w' c := fun j c hj hc => by
    have hcl := h.lk c (List.mem_of_getElem? hc)
    refine hcl.grown hg fun m e => ⟨fun e2 => ?_, fun q hq e2 => ?_⟩
    · rcases e with rfl | e | ⟨r, hr, e⟩
      · exact h.mp.ne (owns_typ hcl.own e2) rfl
      · exact hj (h.ne j i c a m hc hi e2 e)
      · exact absurd ((owns_typ hcl.own e2).one (owns_typ (ha.rows r hr).1 e)) (by decide)
    · rcases e with rfl | e | ⟨r, hr, e⟩
      · exact h.mp.ne (owns_typ (hcl.rows q hq).1 e2) rfl
      · exact absurd ((owns_typ (hcl.rows q hq).1 e2).one (owns_typ ha.own e)) (by decide)
      · obtain ⟨s, hs, rfl⟩ := List.getElem_of_mem hq
        obtain ⟨u, hu, rfl⟩ := List.getElem_of_mem hr
        exact hj (h.nr j i s u c a _ _ m hc hi (List.getElem?_eq_getElem hs) (List.getElem?_eq_getElem hu) e2 e).1
  have get : ∀ (y : Nat) (z : Lk), (K.set i b)[y]? = some z → (y = i ∧ z = b) ∨ (y ≠ i ∧ K[y]? = some z) := fun y z hz => by
    by_cases e : y = i
    · subst e
      rw [List.getElem?_set_self hil] at hz
      exact .inl ⟨rfl, (Option.some.inj hz).symm⟩
    · rw [List.getElem?_set_ne (fun h => e h.symm)] at hz
      exact .inr ⟨e, hz⟩
  have old : ∀ (y : Nat) (z : Lk) m, K[y]? = some z → LkS z m → m < w.heap.size := fun y z m hz hm => h.lt m (.inr (.inr ⟨z, List.mem_of_getElem? hz, hm⟩))
  refine ⟨⟨hg.blk h.bx fun e => ?_, hm, by rw [List.length_set]; exact h.len, h.nb, fun c hc => ?_, fun j l c d m hj hl' hc hd' => ?_, fun j y s u c d q r m hj hy hq hr' hqm hrm => ?_⟩, hg.mono fun k _ e => ?_, fun k e => ?_⟩
  · rcases e with e | e
    · exact h.mp.ne hpt e
    · rcases typ _ e with e | e <;> exact absurd (e.one hpt) (by decide)
  · obtain ⟨j, hj, rfl⟩ := List.getElem_of_mem hc
    rcases get j _ (List.getElem?_eq_getElem hj) with ⟨_, e⟩ | ⟨e1, e2⟩
    · rw [e]; exact hl
    · exact hel j _ e1 e2
  · rcases get j c hj with ⟨rfl, rfl⟩ | ⟨e1, k1⟩
    · rcases get l d hl' with ⟨rfl, rfl⟩ | ⟨e2, k2⟩
      · rfl
      · rcases hn m hc with e | e
        · exact (h.ne l j d a m k2 hi hd' e).symm
        · have := old l d m k2 (.inl hd'); omega
    · rcases get l d hl' with ⟨rfl, rfl⟩ | ⟨e2, k2⟩
      · rcases hn m hd' with e | e
        · exact h.ne j l c a m k1 hi hc e
        · have := old j c m k1 (.inl hc); omega
      · exact h.ne j l c d m k1 k2 hc hd'
  · rcases get j c hj with ⟨rfl, rfl⟩ | ⟨e1, k1⟩
    · rcases get y d hy with ⟨rfl, rfl⟩ | ⟨e2, k2⟩
      · exact ⟨rfl, hd s u q r m hq hr' hqm hrm⟩
      · rcases hr q (List.mem_of_getElem? hq) m hqm with ⟨x, hx, e⟩ | e
        · obtain ⟨z, hz, rfl⟩ := List.getElem_of_mem hx
          exact absurd (h.nr y j u z d a _ _ m k2 hi hr' (List.getElem?_eq_getElem hz) hrm e).1 e2
        · have := old y d m k2 (.inr ⟨r, List.mem_of_getElem? hr', hrm⟩); omega
    · rcases get y d hy with ⟨rfl, rfl⟩ | ⟨e2, k2⟩
      · rcases hr r (List.mem_of_getElem? hr') m hrm with ⟨x, hx, e⟩ | e
        · obtain ⟨z, hz, rfl⟩ := List.getElem_of_mem hx
          exact absurd (h.nr j y s z c a _ _ m k1 hi hq (List.getElem?_eq_getElem hz) hqm e).1 e1
        · have := old j c m k1 (.inr ⟨q, List.mem_of_getElem? hq, hqm⟩); omega
      · exact h.nr j y s u c d q r m k1 k2 hq hr' hqm hrm
  · rcases e with e | e
    · exact .inr (.inl e)
    · exact .inr (.inr ⟨a, ham, e⟩)
  · rcases e with e | e | ⟨c, hc, e⟩
    · exact .inl (.inl e)
    · exact .inl (.inr (.inl e))
    · obtain ⟨j, hj, rfl⟩ := List.getElem_of_mem hc
      rcases get j _ (List.getElem?_eq_getElem hj) with ⟨_, e1⟩ | ⟨e1, e2⟩
      · rw [e1] at e
        rcases e with e | ⟨q, hq, e⟩
        · rcases hn k e with e | e
          · exact .inl (.inr (.inr ⟨a, ham, .inl e⟩))
          · exact .inr e
        · rcases hr q hq k e with e | e
          · exact .inl (.inr (.inr ⟨a, ham, .inr e⟩))
          · exact .inr e
      · exact .inl (.inr (.inr ⟨_, List.mem_of_getElem? e2, e⟩))
theorem LnAt.upd {w : World} {mb N : Nat} {K : List Lk} {f t : Int} (h : LnAt w mb N K) (hN : N ≤ 8) (hl : K.length = 81) (ht : thr N f t = true) (b : Lk) : ∃ w', (Instr.mapUpdate 56 (.map (some mb)) (kV (f, t)) b.v).run Tryd.prog w = .ok () w' ∧ LnAt w' mb N (K.set (ix f t) b) ∧ Grown w w' fun k => k = mb := by
  obtain ⟨L, h1, h2, h3⟩ := h
  have hf := h3 (f, t)
  rw [if_pos ht] at hf
  obtain ⟨w', j, hr, hj, hm, hg⟩ := kupd_old h1 (f, t) b.v _ hf
  refine ⟨w', hr, ⟨L.set j ((f, t), b.v), hm, by rw [keys_set _ _ _ _ _ hj]; exact h2, fun k => ?_⟩, hg⟩
  rw [kfind_set L j _ _ _ h2 hj, h3 k]
  by_cases e : k = (f, t)
  · subst e
    rw [if_pos rfl, if_pos ht, lkOf_set hN hl ht ht, if_pos rfl]
  · rw [if_neg e]
    by_cases e2 : thr N k.1 k.2 = true
    · rw [if_pos e2, if_pos e2, lkOf_set hN hl ht e2, if_neg (fun e3 => e (by rw [← e3]))]
    · rw [if_neg e2, if_neg e2]
theorem LnAt.same {w : World} {mb N : Nat} {K : List Lk} {f t : Int} (h : LnAt w mb N K) (hN : N ≤ 8) (hl : K.length = 81) (ht : thr N f t = true) (b : Lk) (hv : b.v = (lkOf K f t).v) : LnAt w mb N (K.set (ix f t) b) := by
  obtain ⟨L, h1, h2, h3⟩ := h
  refine ⟨L, h1, h2, fun k => ?_⟩
  rw [h3 k]
  by_cases e2 : thr N k.1 k.2 = true
  · rw [if_pos e2, if_pos e2, lkOf_set hN hl ht e2]
    by_cases e : k = (f, t)
    · subst e; rw [if_pos rfl, hv]
    · rw [if_neg (fun e3 => e (by rw [← e3]))]
  · rw [if_neg e2, if_neg e2]
theorem LnAt.look {w : World} {mb N : Nat} {K : List Lk} (h : LnAt w mb N K) (f t : Int) : (Instr.lookup 56 (.map (some mb)) (kV (f, t)) false).run Tryd.prog w = .ok (if thr N f t = true then (lkOf K f t).v else .slice none 0 0) w := by
  obtain ⟨L, h1, h2, h3⟩ := h
  rw [look_any h1, atK, h3]
  by_cases e : thr N f t = true
  · rw [if_pos e, if_pos e]; rfl
  · rw [if_neg e, if_neg e]; rfl
theorem LnAt.look2 {w : World} {mb N : Nat} {K : List Lk} (h : LnAt w mb N K) (f t : Int) : (Instr.lookup 56 (.map (some mb)) (kV (f, t)) true).run Tryd.prog w = .ok (.tuple #[if thr N f t = true then (lkOf K f t).v else .slice none 0 0, .bool (thr N f t)]) w := by
  obtain ⟨L, ⟨es, ck, h1, h4⟩, h2, h3⟩ := h
  have h3 := h3 (f, t)
  rcases kfind (f, t) h4 with ⟨e1, e2⟩ | ⟨j, e, v, e1, _, _, _, _, e5⟩
  · rw [e1] at h3
    have hth : thr N f t = false := by
      cases hh : thr N f t
      · rfl
      · simp only [hh, if_true] at h3; cases h3
    rw [hth]
    simp [Instr.lookup, run_underlying Tryd.underlying56, MapKept.run_getObj_map h1, kV_chk, kfindKey, e2 _ 0, Result.andThen]
  · rw [e1] at h3
    have hth : thr N f t = true := by
      cases hh : thr N f t
      · simp [hh] at h3
      · rfl
    simp only [hth, if_true, Option.some.injEq, Prod.mk.injEq, true_and] at h3
    rw [hth, if_pos rfl, ← h3]
    simp [Instr.lookup, run_underlying Tryd.underlying56, MapKept.run_getObj_map h1, kV_chk, kfindKey, e5 _ 0, Result.andThen]

theorem Tryd.in43 (w : World) (vs : Array Value) : (callFunc 43 vs).run Tryd.prog w = .ok (.enter 43 vs) w := by kernel_rfl
theorem wp_appRw {Q : Exit → Act → World → Prop} {o : Oper} {a : Act} {w : World} {K : Act → World → Prop} (s x : Operand)
    (ho : o.op = .call { callee := .builtin .append, args := #[s, x], argTypes := #[36, 36] }) (B : Nat) (v : Value) (n : Nat) (xs : List Value) (gx : Nat) (aa : Option Addr) (m c : Nat)
    (hs : a.eval s = v) (hx : a.eval x = .slice (some ⟨gx, 0, none⟩) 1 1) (hown : w.ownsRow B 39 1 v n xs) (hc : w.cell? ⟨gx, 0, none⟩ = some (.slice aa m c)) (hb : n + 1 ≤ 4398046511104) (hB : B ≤ w.heap.size)
    (h : ∀ v' w', w'.ownsRow B 39 1 v' (n + 1) (xs ++ [.slice aa m c]) → (Grown w w' fun k => v.ownBlock = some k) → (v'.ownBlock = v.ownBlock ∨ v'.ownBlock = some w.heap.size) → K (a.put o.dst v') w') : o.wp Tryd.prog a w K Q := by
  obtain ⟨v', w', hr, h1, h2, h3⟩ := run_appRw w o.type B v n xs hown gx aa m c hc hb hB
  unfold Oper.wp execOp
  simp only [ho, resolve, invoke, builtin, Sem.run_bind, Sem.run_pure, Result.andThen_ok, List.map_toArray, List.map_cons, List.map_nil, hs, hx, hr]
  exact h v' w' h1 h2 h3
theorem wp_valS {P : Program} {Q : Exit → Act → World → Prop} {o : Oper} {a : Act} {w : World} {K : Act → World → Prop} (w' : World) (hrun : (execOp a.eval o).run P w = .ok .skip w') (h : K (a.put o.dst undef) w') : o.wp P a w K Q := by
  unfold Oper.wp
  rw [hrun]
  exact h
theorem wp_bs {P : Program} {o : Oper} {a : Act} {w : World} {K : Act → World → Prop} {Q : Exit → Act → World → Prop} (t : TypeId) (n : Nat) (parts : Array (Nat × Operand)) (ho : o.op = .buildSlice t n parts) (vs : Array (Nat × Value)) (hv : (parts.map fun (i, x) => (i, a.eval x)) = vs) (v : Value) (w' : World)
    (hr : (Instr.buildSlice t n vs).run P w = .ok v w') (h : K (a.put o.dst v) w') : o.wp P a w K Q := by
  have hrun : (execOp a.eval o).run P w = .ok (.value v) w' := by
    unfold execOp
    simp only [ho, Sem.run_bind, Sem.run_pure, Result.andThen_ok, hv, hr]
  unfold Oper.wp
  rw [hrun]
  exact h
theorem RmAt.push {w w1 w2 : World} {x g N i : Nat} {K : List Lk} {a : Lk} {u v : Value} {b : List Int} (h : RmAt w x g N K) (hi : K[i]? = some a) (hb1 : Below w.heap.size w w1) (ho : Own w1 u b) (hf : ∀ k, u.ownBlock = some k → w.heap.size ≤ k)
    (hv : w2.ownsRow 0 39 1 v (a.R.length + 1) (a.R.map (·.1) ++ [u])) (hg : Grown w1 w2 fun k => a.v.ownBlock = some k) (hm : v.ownBlock = a.v.ownBlock ∨ v.ownBlock = some w1.heap.size) (hn : a.R.length + 1 ≤ 1024) (hl : b.length ≤ 2097194) (hB : Byts b) :
    RmN w x g N K (K.set i ⟨v, a.R ++ [(u, b)]⟩) (w2.setCell ⟨g, i, none⟩ v) := by
  have ham := List.mem_of_getElem? hi
  have h1 : RmAt w1 x g N K := h.below hb1
  have ha1 := h1.lk a ham
  have hgb : Blk w2 g 85 (K.map (·.v)).toArray := hg.blk h1.bg fun e => absurd ((owns_typ ha1.own e).one h1.bg.typ) (by decide)
  have gs : Grown w2 (w2.setCell ⟨g, i, none⟩ v) (fun k => k = g) := Grown.setCell w2 g i v fun _ => rfl
  have hG : Grown w (w2.setCell ⟨g, i, none⟩ v) (fun k => k = g ∨ a.v.ownBlock = some k) := ((Grown.below hb1).trans (hg.mono fun _ _ e => .inr e)).trans (gs.mono fun _ _ e => .inl e)
  refine h.next hi hG (RmAt.bgset (x := x) (N := N) hgb rfl) ⟨?_, fun p hp => ?_, by simp; omega⟩ (fun m e => ?_) fun p hp m e => ?_
  · have e : ((a.R ++ [(u, b)]).map (·.1)) = a.R.map (·.1) ++ [u] := by simp
    rw [e, List.length_append]
    exact owns_grown hv gs fun k hk e => by
      subst e
      exact absurd ((owns_typ hv hk).one hgb.typ) (by decide)
  · have hal : ∀ {u' : Value} {l : List Int}, Own w1 u' l → Own (w2.setCell ⟨g, i, none⟩ v) u' l := fun ho' => owns_grown (owns_grown ho' hg fun k hk e => absurd ((owns_typ ho' hk).one (owns_typ ha1.own e)) (by decide)) gs fun k hk e => by
      subst e
      exact absurd ((owns_typ ho' hk).one h1.bg.typ) (by decide)
    rcases List.mem_append.1 hp with hp | hp
    · exact ⟨hal (ha1.rows p hp).1, (ha1.rows p hp).2⟩
    · rw [List.mem_singleton.1 hp]
      exact ⟨hal ho, hl, hB⟩
  · rcases hm with hm | hm
    · exact .inl (hm.symm.trans e)
    · right
      have e2 : some w1.heap.size = some m := hm.symm.trans e
      injection e2 with e2
      have := hb1.size
      omega
  · rcases List.mem_append.1 hp with hp | hp
    · exact .inl ⟨p, hp, e⟩
    · rw [List.mem_singleton.1 hp] at e
      exact .inr (hf m e)
def sndE (N : Nat) (K : List Lk) (f t : Int) (b : List Int) : Int := if thr N f t then (if 2097194 < b.length then 4 else if 1024 ≤ (lkOf K f t).R.length then 3 else 0) else 1
set_option maxRecDepth 8000 in
theorem sn_no (w : World) (x g N : Nat) (Ks : List Lk) (f t : Int) (ba : Option Addr) (bn bc : Nat) (HM : Keep (RmAt w x g N Ks)) (hth : thr N f t = false) : Calls Tryd.prog 43 #[.pointer (some ⟨x, 0, none⟩), .int .i64 f, .int .i64 t, .slice ba bn bc] w fun e w' => e = .returned (.int .i64 1) ∧ w' = w := by
  go_enter Tryd.func43, Tryd.ntmps43
  refine wp_seq_k fun K1 hK1 => ?_
  refine wp_region_list (WL.out ?_)
  refine WL.val (by kernel_rfl) (.int .i64 0) (by go_simp) ?_
  simp only [Act.put, List.setIfInBounds_toArray, List.set_cons_zero, List.set_cons_succ]
  refine WL.nil ?_
  refine hK1 _ _ ?_
  refine wp_seq_k fun K2 hK2 => ?_
  refine wp_region_list (WL.out ?_)
  refine WL.val (by kernel_rfl) (.pointer (some ⟨x, 0, none⟩)) (by go_simp) ?_
  simp only [Act.put, List.setIfInBounds_toArray, List.set_cons_zero, List.set_cons_succ]
  refine WL.val (by kernel_rfl) (.int .i64 f) (by go_simp) ?_
  simp only [Act.put, List.setIfInBounds_toArray, List.set_cons_zero, List.set_cons_succ]
  refine WL.val (by kernel_rfl) (.int .i64 t) (by go_simp) ?_
  simp only [Act.put, List.setIfInBounds_toArray, List.set_cons_zero, List.set_cons_succ]
  refine WL.callF (by kernel_rfl) 48 _ _ rfl Tryd.in48 #[.pointer (some ⟨x, 0, none⟩), .int .i64 f, .int .i64 t] (by simp [Act.eval]) ?_
  refine (there_any w x g N Ks f t HM.out).mono ?_
  rintro e w1_ ⟨rfl, hw_⟩
  refine ⟨_, rfl, ?_⟩
  have hw_ := hw_.symm
  subst hw_
  rw [hth]
  simp only [Act.put, List.setIfInBounds_toArray, List.set_cons_zero, List.set_cons_succ]
  refine WL.val (by kernel_rfl) (.bool false) (by go_simp) ?_
  simp only [Act.put, List.setIfInBounds_toArray, List.set_cons_zero, List.set_cons_succ]
  refine WL.nil ?_
  refine hK2 _ _ ?_
  refine wp_seq_k fun K3 hK3 => ?_
  refine wp_seq_k fun K4 hK4 => ?_
  refine wp_region_list (WL.out ?_)
  refine WL.val (by kernel_rfl) (.bool false) (by go_simp) ?_
  simp only [Act.put, List.setIfInBounds_toArray, List.set_cons_zero, List.set_cons_succ]
  refine WL.val (by kernel_rfl) (.bool true) (by go_simp) ?_
  simp only [Act.put, List.setIfInBounds_toArray, List.set_cons_zero, List.set_cons_succ]
  refine WL.nil ?_
  refine hK4 _ _ ?_
  refine wp_cond_true rfl ?_
  refine wp_seq_k fun K5 hK5 => ?_
  refine wp_region_list (WL.out ?_)
  refine WL.val (by kernel_rfl) (.int .i64 1) (by go_simp) ?_
  simp only [Act.put, List.setIfInBounds_toArray, List.set_cons_zero, List.set_cons_succ]
  refine WL.nil ?_
  refine hK5 _ _ ?_
  refine wp_ret ?_
  go_ret
  exact ⟨rfl, rfl⟩
set_option maxRecDepth 8000 in
theorem sn_big (w : World) (x g N : Nat) (Ks : List Lk) (f t : Int) (ba : Option Addr) (bn bc : Nat) (HM : Keep (RmAt w x g N Ks)) (hth : thr N f t = true) (hb9 : 2097194 < bn) : Calls Tryd.prog 43 #[.pointer (some ⟨x, 0, none⟩), .int .i64 f, .int .i64 t, .slice ba bn bc] w fun e w' => e = .returned (.int .i64 4) ∧ w' = w := by
  have hb' : (bn : Int) > 2097194 := by omega
  go_enter Tryd.func43, Tryd.ntmps43
  refine wp_seq_k fun K1 hK1 => ?_
  refine wp_region_list (WL.out ?_)
  refine WL.val (by kernel_rfl) (.int .i64 0) (by go_simp) ?_
  simp only [Act.put, List.setIfInBounds_toArray, List.set_cons_zero, List.set_cons_succ]
  refine WL.nil ?_
  refine hK1 _ _ ?_
  refine wp_seq_k fun K2 hK2 => ?_
  refine wp_region_list (WL.out ?_)
  refine WL.val (by kernel_rfl) (.pointer (some ⟨x, 0, none⟩)) (by go_simp) ?_
  simp only [Act.put, List.setIfInBounds_toArray, List.set_cons_zero, List.set_cons_succ]
  refine WL.val (by kernel_rfl) (.int .i64 f) (by go_simp) ?_
  simp only [Act.put, List.setIfInBounds_toArray, List.set_cons_zero, List.set_cons_succ]
  refine WL.val (by kernel_rfl) (.int .i64 t) (by go_simp) ?_
  simp only [Act.put, List.setIfInBounds_toArray, List.set_cons_zero, List.set_cons_succ]
  refine WL.callF (by kernel_rfl) 48 _ _ rfl Tryd.in48 #[.pointer (some ⟨x, 0, none⟩), .int .i64 f, .int .i64 t] (by simp [Act.eval]) ?_
  refine (there_any w x g N Ks f t HM.out).mono ?_
  rintro e w1_ ⟨rfl, hw_⟩
  refine ⟨_, rfl, ?_⟩
  have hw_ := hw_.symm
  subst hw_
  rw [hth]
  simp only [Act.put, List.setIfInBounds_toArray, List.set_cons_zero, List.set_cons_succ]
  refine WL.val (by kernel_rfl) (.bool true) (by go_simp) ?_
  simp only [Act.put, List.setIfInBounds_toArray, List.set_cons_zero, List.set_cons_succ]
  refine WL.nil ?_
  refine hK2 _ _ ?_
  refine wp_seq_k fun K3 hK3 => ?_
  refine wp_seq_k fun K4 hK4 => ?_
  refine wp_region_list (WL.out ?_)
  refine WL.val (by kernel_rfl) (.bool true) (by go_simp) ?_
  simp only [Act.put, List.setIfInBounds_toArray, List.set_cons_zero, List.set_cons_succ]
  refine WL.val (by kernel_rfl) (.bool false) (by go_simp) ?_
  simp only [Act.put, List.setIfInBounds_toArray, List.set_cons_zero, List.set_cons_succ]
  refine WL.nil ?_
  refine hK4 _ _ ?_
  refine wp_cond_false rfl ?_
  refine wp_skip ?_
  refine hK3 _ _ ?_
  refine wp_seq_k fun K5 hK5 => ?_
  refine wp_seq_k fun K6 hK6 => ?_
  refine wp_region_list (WL.out ?_)
  refine WL.val (by kernel_rfl) (.slice ba bn bc) (by go_simp) ?_
  simp only [Act.put, List.setIfInBounds_toArray, List.set_cons_zero, List.set_cons_succ]
  refine WL.val (by kernel_rfl) (.int .i64 (bn : Int)) (by go_simp) ?_
  simp only [Act.put, List.setIfInBounds_toArray, List.set_cons_zero, List.set_cons_succ]
  refine WL.val (by kernel_rfl) (.bool true) (by go_simp) ?_
  simp only [Act.put, List.setIfInBounds_toArray, List.set_cons_zero, List.set_cons_succ]
  refine WL.nil ?_
  refine hK6 _ _ ?_
  refine wp_cond_true rfl ?_
  refine wp_seq_k fun K7 hK7 => ?_
  refine wp_region_list (WL.out ?_)
  refine WL.val (by kernel_rfl) (.int .i64 4) (by go_simp) ?_
  simp only [Act.put, List.setIfInBounds_toArray, List.set_cons_zero, List.set_cons_succ]
  refine WL.nil ?_
  refine hK7 _ _ ?_
  refine wp_ret ?_
  go_ret
  exact ⟨rfl, rfl⟩
set_option maxRecDepth 8000 in
theorem sn_many (w : World) (x g N : Nat) (Ks : List Lk) (f t : Int) (ba : Option Addr) (bn bc : Nat) (HM : Keep (RmAt w x g N Ks)) (i_ n cap : Nat) (la : Option Addr) (HI : Keep ((1 ≤ f ∧ f ≤ 8 ∧ 1 ≤ t ∧ t ≤ 8) ∧ (i_ : Int) = 9 * f + t ∧ i_ < 81)) (c_ : w.cell? ⟨g, i_, none⟩ = some (.slice la n cap)) (hth : thr N f t = true) (hb9 : ¬ 2097194 < bn) (hn4 : 1024 ≤ n) : Calls Tryd.prog 43 #[.pointer (some ⟨x, 0, none⟩), .int .i64 f, .int .i64 t, .slice ba bn bc] w fun e w' => e = .returned (.int .i64 3) ∧ w' = w := by
  have hb' : ¬ (bn : Int) > 2097194 := by omega
  have hb'' : ¬ 2097194 < (bn : Int) := by omega
  have hn' : (n : Int) ≥ 1024 := by omega
  go_enter Tryd.func43, Tryd.ntmps43
  refine wp_seq_k fun K1 hK1 => ?_
  refine wp_region_list (WL.out ?_)
  refine WL.val (by kernel_rfl) (.int .i64 0) (by go_simp) ?_
  simp only [Act.put, List.setIfInBounds_toArray, List.set_cons_zero, List.set_cons_succ]
  refine WL.nil ?_
  refine hK1 _ _ ?_
  refine wp_seq_k fun K2 hK2 => ?_
  refine wp_region_list (WL.out ?_)
  refine WL.val (by kernel_rfl) (.pointer (some ⟨x, 0, none⟩)) (by go_simp) ?_
  simp only [Act.put, List.setIfInBounds_toArray, List.set_cons_zero, List.set_cons_succ]
  refine WL.val (by kernel_rfl) (.int .i64 f) (by go_simp) ?_
  simp only [Act.put, List.setIfInBounds_toArray, List.set_cons_zero, List.set_cons_succ]
  refine WL.val (by kernel_rfl) (.int .i64 t) (by go_simp) ?_
  simp only [Act.put, List.setIfInBounds_toArray, List.set_cons_zero, List.set_cons_succ]
  refine WL.callF (by kernel_rfl) 48 _ _ rfl Tryd.in48 #[.pointer (some ⟨x, 0, none⟩), .int .i64 f, .int .i64 t] (by simp [Act.eval]) ?_
  refine (there_any w x g N Ks f t HM.out).mono ?_
  rintro e w1_ ⟨rfl, hw_⟩
  refine ⟨_, rfl, ?_⟩
  have hw_ := hw_.symm
  subst hw_
  rw [hth]
  simp only [Act.put, List.setIfInBounds_toArray, List.set_cons_zero, List.set_cons_succ]
  refine WL.val (by kernel_rfl) (.bool true) (by go_simp) ?_
  simp only [Act.put, List.setIfInBounds_toArray, List.set_cons_zero, List.set_cons_succ]
  refine WL.nil ?_
  refine hK2 _ _ ?_
  refine wp_seq_k fun K3 hK3 => ?_
  refine wp_seq_k fun K4 hK4 => ?_
  refine wp_region_list (WL.out ?_)
  refine WL.val (by kernel_rfl) (.bool true) (by go_simp) ?_
  simp only [Act.put, List.setIfInBounds_toArray, List.set_cons_zero, List.set_cons_succ]
  refine WL.val (by kernel_rfl) (.bool false) (by go_simp) ?_
  simp only [Act.put, List.setIfInBounds_toArray, List.set_cons_zero, List.set_cons_succ]
  refine WL.nil ?_
  refine hK4 _ _ ?_
  refine wp_cond_false rfl ?_
  refine wp_skip ?_
  refine hK3 _ _ ?_
  refine wp_seq_k fun K5 hK5 => ?_
  refine wp_seq_k fun K6 hK6 => ?_
  refine wp_region_list (WL.out ?_)
  refine WL.val (by kernel_rfl) (.slice ba bn bc) (by go_simp) ?_
  simp only [Act.put, List.setIfInBounds_toArray, List.set_cons_zero, List.set_cons_succ]
  refine WL.val (by kernel_rfl) (.int .i64 (bn : Int)) (by go_simp) ?_
  simp only [Act.put, List.setIfInBounds_toArray, List.set_cons_zero, List.set_cons_succ]
  refine WL.val (by kernel_rfl) (.bool false) (by go_simp) ?_
  simp only [Act.put, List.setIfInBounds_toArray, List.set_cons_zero, List.set_cons_succ]
  refine WL.nil ?_
  refine hK6 _ _ ?_
  refine wp_cond_false rfl ?_
  refine wp_skip ?_
  refine hK5 _ _ ?_
  refine wp_seq_k fun K7 hK7 => ?_
  refine wp_region_list (WL.out ?_)
  refine WL.val (by kernel_rfl) (.pointer (some ⟨x, 0, none⟩)) (by go_simp) ?_
  simp only [Act.put, List.setIfInBounds_toArray, List.set_cons_zero, List.set_cons_succ]
  refine WL.val (by kernel_rfl) (.int .i64 f) (by go_simp) ?_
  simp only [Act.put, List.setIfInBounds_toArray, List.set_cons_zero, List.set_cons_succ]
  refine WL.val (by kernel_rfl) (.int .i64 t) (by go_simp) ?_
  simp only [Act.put, List.setIfInBounds_toArray, List.set_cons_zero, List.set_cons_succ]
  refine WL.callF (by kernel_rfl) 49 _ _ rfl Tryd.in49 #[.pointer (some ⟨x, 0, none⟩), .int .i64 f, .int .i64 t] (by simp [Act.eval]) ?_
  refine (row_any w x g N i_ Ks f t HM.out HI.out.1 HI.out.2.1 HI.out.2.2).mono ?_
  rintro e w1_ ⟨rfl, hw_⟩
  refine ⟨_, rfl, ?_⟩
  have hw_ := hw_.symm
  subst hw_
  simp only [Act.put, List.setIfInBounds_toArray, List.set_cons_zero, List.set_cons_succ]
  refine WL.val (by kernel_rfl) (.pointer (some ⟨g, i_, none⟩)) (by go_simp) ?_
  simp only [Act.put, List.setIfInBounds_toArray, List.set_cons_zero, List.set_cons_succ]
  refine WL.nil ?_
  refine hK7 _ _ ?_
  refine wp_seq_k fun K8 hK8 => ?_
  refine wp_seq_k fun K9 hK9 => ?_
  refine wp_region_list (WL.out ?_)
  refine WL.val (by kernel_rfl) (.pointer (some ⟨g, i_, none⟩)) (by go_simp) ?_
  simp only [Act.put, List.setIfInBounds_toArray, List.set_cons_zero, List.set_cons_succ]
  refine WL.val (by kernel_rfl) (.pointer (some ⟨g, i_, none⟩)) (by go_simp) ?_
  simp only [Act.put, List.setIfInBounds_toArray, List.set_cons_zero, List.set_cons_succ]
  refine WL.val (by kernel_rfl) (.pointer (some ⟨g, i_, none⟩)) (by go_simp) ?_
  simp only [Act.put, List.setIfInBounds_toArray, List.set_cons_zero, List.set_cons_succ]
  refine WL.val (by kernel_rfl) (.slice la n cap) (by go_simp) ?_
  simp only [Act.put, List.setIfInBounds_toArray, List.set_cons_zero, List.set_cons_succ]
  refine WL.val (by kernel_rfl) (.int .i64 (n : Int)) (by go_simp) ?_
  simp only [Act.put, List.setIfInBounds_toArray, List.set_cons_zero, List.set_cons_succ]
  refine WL.val (by kernel_rfl) (.bool true) (by go_simp) ?_
  simp only [Act.put, List.setIfInBounds_toArray, List.set_cons_zero, List.set_cons_succ]
  refine WL.nil ?_
  refine hK9 _ _ ?_
  refine wp_cond_true rfl ?_
  refine wp_seq_k fun K10 hK10 => ?_
  refine wp_region_list (WL.out ?_)
  refine WL.val (by kernel_rfl) (.int .i64 3) (by go_simp) ?_
  simp only [Act.put, List.setIfInBounds_toArray, List.set_cons_zero, List.set_cons_succ]
  refine WL.nil ?_
  refine hK10 _ _ ?_
  refine wp_ret ?_
  go_ret
  exact ⟨rfl, rfl⟩
set_option maxRecDepth 8000 in
theorem sn_ok (w : World) (x g N : Nat) (Ks : List Lk) (f t : Int) (ba : Option Addr) (bn bc : Nat) (HM : Keep (RmAt w x g N Ks)) (i_ n cap : Nat) (la : Option Addr) (HI : Keep ((1 ≤ f ∧ f ≤ 8 ∧ 1 ≤ t ∧ t ≤ 8) ∧ (i_ : Int) = 9 * f + t ∧ i_ < 81)) (c_ : w.cell? ⟨g, i_, none⟩ = some (.slice la n cap)) (a : Lk) (b : List Int) (Ha : Keep (Ks[i_]? = some a)) (Hv : Keep (a.v = .slice la n cap)) (Hn : Keep (a.R.length = n)) (HB : Keep (RowAt w (.slice ba bn bc) b)) (HL : Keep (b.length ≤ 140737488355328)) (HL2 : Keep (b.length ≤ 2097194)) (HBy : Keep (Byts b)) (hth : thr N f t = true) (hb9 : ¬ 2097194 < bn) (hn4 : ¬ 1024 ≤ n) : Calls Tryd.prog 43 #[.pointer (some ⟨x, 0, none⟩), .int .i64 f, .int .i64 t, .slice ba bn bc] w fun e w' => e = .returned (.int .i64 0) ∧ ∃ u v, RmN w x g N Ks (Ks.set i_ ⟨v, a.R ++ [(u, b)]⟩) w' := by
  have hb' : ¬ (bn : Int) > 2097194 := by omega
  have hb'' : ¬ 2097194 < (bn : Int) := by omega
  have hn' : ¬ (n : Int) ≥ 1024 := by omega
  have hn'' : ¬ 1024 ≤ (n : Int) := by omega
  go_enter Tryd.func43, Tryd.ntmps43
  refine wp_seq_k fun K1 hK1 => ?_
  refine wp_region_list (WL.out ?_)
  refine WL.val (by kernel_rfl) (.int .i64 0) (by go_simp) ?_
  simp only [Act.put, List.setIfInBounds_toArray, List.set_cons_zero, List.set_cons_succ]
  refine WL.nil ?_
  refine hK1 _ _ ?_
  refine wp_seq_k fun K2 hK2 => ?_
  refine wp_region_list (WL.out ?_)
  refine WL.val (by kernel_rfl) (.pointer (some ⟨x, 0, none⟩)) (by go_simp) ?_
  simp only [Act.put, List.setIfInBounds_toArray, List.set_cons_zero, List.set_cons_succ]
  refine WL.val (by kernel_rfl) (.int .i64 f) (by go_simp) ?_
  simp only [Act.put, List.setIfInBounds_toArray, List.set_cons_zero, List.set_cons_succ]
  refine WL.val (by kernel_rfl) (.int .i64 t) (by go_simp) ?_
  simp only [Act.put, List.setIfInBounds_toArray, List.set_cons_zero, List.set_cons_succ]
  refine WL.callF (by kernel_rfl) 48 _ _ rfl Tryd.in48 #[.pointer (some ⟨x, 0, none⟩), .int .i64 f, .int .i64 t] (by simp [Act.eval]) ?_
  refine (there_any w x g N Ks f t HM.out).mono ?_
  rintro e w1_ ⟨rfl, hw_⟩
  refine ⟨_, rfl, ?_⟩
  have hw_ := hw_.symm
  subst hw_
  rw [hth]
  simp only [Act.put, List.setIfInBounds_toArray, List.set_cons_zero, List.set_cons_succ]
  refine WL.val (by kernel_rfl) (.bool true) (by go_simp) ?_
  simp only [Act.put, List.setIfInBounds_toArray, List.set_cons_zero, List.set_cons_succ]
  refine WL.nil ?_
  refine hK2 _ _ ?_
  refine wp_seq_k fun K3 hK3 => ?_
  refine wp_seq_k fun K4 hK4 => ?_
  refine wp_region_list (WL.out ?_)
  refine WL.val (by kernel_rfl) (.bool true) (by go_simp) ?_
  simp only [Act.put, List.setIfInBounds_toArray, List.set_cons_zero, List.set_cons_succ]
  refine WL.val (by kernel_rfl) (.bool false) (by go_simp) ?_
  simp only [Act.put, List.setIfInBounds_toArray, List.set_cons_zero, List.set_cons_succ]
  refine WL.nil ?_
  refine hK4 _ _ ?_
  refine wp_cond_false rfl ?_
  refine wp_skip ?_
  refine hK3 _ _ ?_
  refine wp_seq_k fun K5 hK5 => ?_
  refine wp_seq_k fun K6 hK6 => ?_
  refine wp_region_list (WL.out ?_)
  refine WL.val (by kernel_rfl) (.slice ba bn bc) (by go_simp) ?_
  simp only [Act.put, List.setIfInBounds_toArray, List.set_cons_zero, List.set_cons_succ]
  refine WL.val (by kernel_rfl) (.int .i64 (bn : Int)) (by go_simp) ?_
  simp only [Act.put, List.setIfInBounds_toArray, List.set_cons_zero, List.set_cons_succ]
  refine WL.val (by kernel_rfl) (.bool false) (by go_simp) ?_
  simp only [Act.put, List.setIfInBounds_toArray, List.set_cons_zero, List.set_cons_succ]
  refine WL.nil ?_
  refine hK6 _ _ ?_
  refine wp_cond_false rfl ?_
  refine wp_skip ?_
  refine hK5 _ _ ?_
  refine wp_seq_k fun K7 hK7 => ?_
  refine wp_region_list (WL.out ?_)
  refine WL.val (by kernel_rfl) (.pointer (some ⟨x, 0, none⟩)) (by go_simp) ?_
  simp only [Act.put, List.setIfInBounds_toArray, List.set_cons_zero, List.set_cons_succ]
  refine WL.val (by kernel_rfl) (.int .i64 f) (by go_simp) ?_
  simp only [Act.put, List.setIfInBounds_toArray, List.set_cons_zero, List.set_cons_succ]
  refine WL.val (by kernel_rfl) (.int .i64 t) (by go_simp) ?_
  simp only [Act.put, List.setIfInBounds_toArray, List.set_cons_zero, List.set_cons_succ]
  refine WL.callF (by kernel_rfl) 49 _ _ rfl Tryd.in49 #[.pointer (some ⟨x, 0, none⟩), .int .i64 f, .int .i64 t] (by simp [Act.eval]) ?_
  refine (row_any w x g N i_ Ks f t HM.out HI.out.1 HI.out.2.1 HI.out.2.2).mono ?_
  rintro e w1_ ⟨rfl, hw_⟩
  refine ⟨_, rfl, ?_⟩
  have hw_ := hw_.symm
  subst hw_
  simp only [Act.put, List.setIfInBounds_toArray, List.set_cons_zero, List.set_cons_succ]
  refine WL.val (by kernel_rfl) (.pointer (some ⟨g, i_, none⟩)) (by go_simp) ?_
  simp only [Act.put, List.setIfInBounds_toArray, List.set_cons_zero, List.set_cons_succ]
  refine WL.nil ?_
  refine hK7 _ _ ?_
  refine wp_seq_k fun K8 hK8 => ?_
  refine wp_seq_k fun K9 hK9 => ?_
  refine wp_region_list (WL.out ?_)
  refine WL.val (by kernel_rfl) (.pointer (some ⟨g, i_, none⟩)) (by go_simp) ?_
  simp only [Act.put, List.setIfInBounds_toArray, List.set_cons_zero, List.set_cons_succ]
  refine WL.val (by kernel_rfl) (.pointer (some ⟨g, i_, none⟩)) (by go_simp) ?_
  simp only [Act.put, List.setIfInBounds_toArray, List.set_cons_zero, List.set_cons_succ]
  refine WL.val (by kernel_rfl) (.pointer (some ⟨g, i_, none⟩)) (by go_simp) ?_
  simp only [Act.put, List.setIfInBounds_toArray, List.set_cons_zero, List.set_cons_succ]
  refine WL.val (by kernel_rfl) (.slice la n cap) (by go_simp) ?_
  simp only [Act.put, List.setIfInBounds_toArray, List.set_cons_zero, List.set_cons_succ]
  refine WL.val (by kernel_rfl) (.int .i64 (n : Int)) (by go_simp) ?_
  simp only [Act.put, List.setIfInBounds_toArray, List.set_cons_zero, List.set_cons_succ]
  refine WL.val (by kernel_rfl) (.bool false) (by go_simp) ?_
  simp only [Act.put, List.setIfInBounds_toArray, List.set_cons_zero, List.set_cons_succ]
  refine WL.nil ?_
  refine hK9 _ _ ?_
  refine wp_cond_false rfl ?_
  refine wp_skip ?_
  refine hK8 _ _ ?_
  refine wp_seq_k fun K10 hK10 => ?_
  refine wp_region_held_drew (S := fun _ => True) (by kernel_rfl) trivial (fun hHeld => ?_)
  clear c_
  have Md := Keep.mk (HM.out.below (Below.refl w.heap.size w).drew)
  have Yd := Keep.mk (HB.out.below (Below.refl w.heap.size w).drew)
  generalize hwd : w.drew = wd at *
  have HWd : Keep (Below w.heap.size w wd) := ⟨by rw [← hwd]; exact (Below.refl w.heap.size w).drew⟩
  have hsz : Keep (wd.heap.size = w.heap.size) := ⟨by rw [← hwd]; rfl⟩
  clear hwd
  have Cd : Keep (∀ wx, Below wd.heap.size wd wx → wx.cell? ⟨g, i_, none⟩ = some (.slice la n cap)) := ⟨fun wx hb => by
    have h := ((Md.out.below hb).bg.c i_ (by simp [Ha.out] : (Ks.map (·.v)).toArray[i_]? = some a.v))
    rw [Hv.out] at h
    exact h⟩
  refine wpAnyH_take (i := 0) (oi := ⟨some 30, Op.move (Operand.tmp 10), 81, _, _, none⟩) (v := .pointer (some ⟨g, i_, none⟩)) rfl (by kernel_rfl) (by kernel_rfl) (by kernel_rfl) (fun _ _ _ h => h) (Or.inl ⟨by rfl, fun w hS => by go_simp⟩) hHeld ?_
  simp only [Act.put, List.setIfInBounds_toArray, List.set_cons_zero, List.set_cons_succ]
  refine wpAnyH_take (i := 1) (oi := ⟨some 31, Op.move (Operand.tmp 10), 81, _, _, none⟩) (v := .pointer (some ⟨g, i_, none⟩)) rfl (by kernel_rfl) (by kernel_rfl) (by kernel_rfl) (fun _ _ _ h => h) (Or.inl ⟨by rfl, fun w hS => by go_simp⟩) hHeld ?_
  simp only [Act.put, List.setIfInBounds_toArray, List.set_cons_zero, List.set_cons_succ]
  refine wpAnyH_take (i := 5) (oi := ⟨some 35, Op.move (Operand.tmp 3), 39, _, _, none⟩) (v := .slice ba bn bc) rfl (by kernel_rfl) (by kernel_rfl) (by kernel_rfl) (fun _ _ _ h => h) (Or.inl ⟨by rfl, fun w hS => by go_simp⟩) hHeld ?_
  simp only [Act.put, List.setIfInBounds_toArray, List.set_cons_zero, List.set_cons_succ]
  refine wpAnyH_take (i := 2) (oi := ⟨some 32, Op.nilCheck (Operand.tmp 31), 0, _, _, none⟩) (v := .pointer (some ⟨g, i_, none⟩)) rfl (by kernel_rfl) (by kernel_rfl) (by kernel_rfl) (fun _ _ _ h => h) (Or.inl ⟨by rfl, fun w hS => by go_simp⟩) hHeld ?_
  simp only [Act.put, List.setIfInBounds_toArray, List.set_cons_zero, List.set_cons_succ]
  refine wpAnyH_take (i := 3) (oi := ⟨some 33, Op.fieldAddr 85 (Operand.tmp 32) 0, 0, _, _, none⟩) (v := .pointer (some ⟨g, i_, none⟩)) rfl (by kernel_rfl) (by kernel_rfl) (by kernel_rfl) (fun _ _ _ h => h) (Or.inl ⟨by rfl, fun w hS => by go_simp⟩) hHeld ?_
  simp only [Act.put, List.setIfInBounds_toArray, List.set_cons_zero, List.set_cons_succ]
  refine wpAnyH_ready (rs := [4, 6]) (by kernel_rfl) (by simp) ?_
  refine AllReadyH.cons (o := ⟨some 34, Op.load 36 (Operand.tmp 33), 36, _, _, none⟩) rfl (fun K hK => ?_) (AllReadyH.cons (o := ⟨some 36, Op.call { callee := Callee.value (Operand.func 46), args := #[Operand.tmp 35], argTypes := #[39] }, 39, _, _, none⟩) rfl (fun K hK => ?_) AllReadyH.nil)
  all_goals rw [if_pos (by rfl)]
  · have c_ := Cd.out wd (Below.refl _ _)
    refine wp_val (.slice la n cap) (by go_simp) ?_
    clear c_
    refine hK _ _ trivial fun hHl => ?_
    clear hK
    simp only [Act.put, List.setIfInBounds_toArray, List.set_cons_zero, List.set_cons_succ]
    refine wpAnyH_ready (rs := [6]) (by kernel_rfl) (by simp) ?_
    refine AllReadyH.cons (o := ⟨some 36, Op.call { callee := Callee.value (Operand.func 46), args := #[Operand.tmp 35], argTypes := #[39] }, 39, _, _, none⟩) rfl (fun K hK => ?_) AllReadyH.nil
    rw [if_pos (by rfl)]
    refine wp_callF 46 _ _ rfl Tryd.in46 #[.slice ba bn bc] (by simp [Act.eval]) (fun vz wz => ∃ v, vz = v ∧ Own wz v b ∧ (∀ k, v.ownBlock = some k → wd.heap.size ≤ k) ∧ Below wd.heap.size wd wz) ?_ ?_
    · refine (cpy_any wd _ b Yd.out HL.out).mono ?_
      rintro e wz ⟨v, rfl, k1, k2, k3⟩
      exact ⟨_, rfl, v, rfl, k1, k2, k3⟩
    rintro vz wa ⟨u, rfl, k1, k2, k3⟩
    have Oa := Keep.mk k1
    have Fa := Keep.mk k2
    have ba_ := Keep.mk k3
    obtain ⟨ua, un, uc, hu⟩ := k1.sl
    subst hu
    clear k1 k2 k3
    refine hK _ _ (trivial) fun hHa => ?_
    clear hK
    simp only [Act.put, List.setIfInBounds_toArray, List.set_cons_zero, List.set_cons_succ]
    refine wpAnyH_ready (rs := [7]) (by kernel_rfl) (by simp) ?_
    refine AllReadyH.cons (o := ⟨some 37, Op.buildSlice 36 1 #[(0, Operand.tmp 36)], 36, _, _, none⟩) rfl (fun K hK => ?_) AllReadyH.nil
    rw [if_pos (by rfl)]
    refine wp_bs 36 1 _ rfl #[(0, .slice ua un uc)] (by simp [Act.eval]) _ _ (bsRw1 ua un uc wa) ?_
    have bb := below_new wa (.cells #[.slice ua un uc] 39)
    have Qb := Keep.mk (Blk.new wa 39 #[.slice ua un uc])
    generalize wa.alloc (.cells #[.slice ua un uc] 39) = wb at *
    obtain ⟨gx, hgx⟩ : ∃ z, Keep (z = wa.heap.size) := ⟨_, ⟨rfl⟩⟩
    rw [← hgx.out] at Qb ⊢
    have Ob := Keep.mk (owns_below Oa.out bb)
    have bb2 : Keep (Below wd.heap.size wd wb) := ⟨ba_.out.trans (bb.mono ba_.out.size)⟩
    clear bb hgx
    refine hK _ _ trivial fun hHc => ?_
    clear hK
    simp only [Act.put, List.setIfInBounds_toArray, List.set_cons_zero, List.set_cons_succ]
    refine wpAnyH_ready (rs := [8]) (by kernel_rfl) (by simp) ?_
    refine AllReadyH.cons (o := ⟨some 38, Op.call { callee := Callee.builtin Builtin.append, args := #[Operand.tmp 34, Operand.tmp 37], argTypes := #[36, 36] }, 36, _, _, none⟩) rfl (fun K hK => ?_) AllReadyH.nil
    rw [if_pos (by rfl)]
    refine wp_appRw (.tmp 34) (.tmp 37) rfl 0 (.slice la n cap) n (a.R.map (·.1)) gx ua un uc rfl rfl (by have h := owns_below (Md.out.lk a (List.mem_of_getElem? Ha.out)).own bb2.out; rw [Hv.out, Hn.out] at h; exact h) (Qb.out.c 0 rfl) (by have := hn4; omega) (Nat.zero_le _) ?_
    intro v9 wc k1 k2 k3
    obtain ⟨za, zc, hv9⟩ := owns_sl k1
    subst hv9
    have N9 : Keep (RmN wd x g N Ks (Ks.set i_ ⟨.slice za (n + 1) zc, a.R ++ [(.slice ua un uc, b)]⟩) (wc.setCell ⟨g, i_, none⟩ (.slice za (n + 1) zc))) := ⟨Md.out.push Ha.out bb2.out Ob.out (fun k hk => Fa.out k hk) (by rw [Hn.out]; exact k1) (by rw [Hv.out]; exact k2) (by rw [Hv.out]; exact k3) (by rw [Hn.out]; omega) HL2.out HBy.out⟩
    have hDc := k2.blk ((Md.out.below bb2.out).bg) fun e => absurd ((owns_typ ((Md.out.below bb2.out).lk a (List.mem_of_getElem? Ha.out)).own (by rw [Hv.out]; exact e)).one (Md.out.below bb2.out).bg.typ) (by decide)
    have f_o := hDc.frozen i_
    have c_o := hDc.c i_ (by simp [Ha.out] : (Ks.map (·.v)).toArray[i_]? = some a.v)
    clear k1 k2 k3 hDc
    refine hK _ _ trivial fun hHd => ?_
    clear hK
    simp only [Act.put, List.setIfInBounds_toArray, List.set_cons_zero, List.set_cons_succ]
    refine wpAnyH_take (i := 9) (oi := ⟨some 39, Op.nilCheck (Operand.tmp 30), 0, _, _, none⟩) (v := .pointer (some ⟨g, i_, none⟩)) rfl (by kernel_rfl) (by kernel_rfl) (by kernel_rfl) (fun _ _ _ h => h) (Or.inl ⟨by rfl, fun w hS => by go_simp⟩) hHd ?_
    simp only [Act.put, List.setIfInBounds_toArray, List.set_cons_zero, List.set_cons_succ]
    refine wpAnyH_take (i := 10) (oi := ⟨some 40, Op.fieldAddr 85 (Operand.tmp 39) 0, 0, _, _, none⟩) (v := .pointer (some ⟨g, i_, none⟩)) rfl (by kernel_rfl) (by kernel_rfl) (by kernel_rfl) (fun _ _ _ h => h) (Or.inl ⟨by rfl, fun w hS => by go_simp⟩) hHd ?_
    simp only [Act.put, List.setIfInBounds_toArray, List.set_cons_zero, List.set_cons_succ]
    refine wpAnyH_ready (rs := [11]) (by kernel_rfl) (by simp) ?_
    refine AllReadyH.cons (o := ⟨none, Op.store 36 (Operand.tmp 40) (Operand.tmp 38), 0, _, _, none⟩) rfl (fun K hK => ?_) AllReadyH.nil
    rw [if_pos (by rfl)]
    refine wp_valS (wc.setCell ⟨g, i_, none⟩ (.slice za (n + 1) zc)) (by go_simp) ?_
    clear f_o c_o
    generalize wc.setCell ⟨g, i_, none⟩ (.slice za (n + 1) zc) = we at *
    refine hK _ _ trivial fun hHe => ?_
    clear hK
    simp only [Act.put, List.setIfInBounds_toArray, List.set_cons_zero, List.set_cons_succ]
    refine wpAnyH_done (by kernel_rfl) ?_ _
    refine hK10 _ _ ?_
    refine wp_seq_k fun K11 hK11 => ?_
    refine wp_region_list (WL.out ?_)
    refine WL.val (by kernel_rfl) (.int .i64 0) (by go_simp) ?_
    simp only [Act.put, List.setIfInBounds_toArray, List.set_cons_zero, List.set_cons_succ]
    refine WL.nil ?_
    refine hK11 _ _ ?_
    refine wp_ret ?_
    try simp only [Exit.inBlock, Exit.then]
    go_ret
    exact ⟨rfl, .slice ua un uc, .slice za (n + 1) zc, ⟨N9.out.at_, (Grown.below (S := RmW g Ks) HWd.out).trans N9.out.gr, fun k hk => by have h := N9.out.new k hk; rw [hsz.out] at h; exact h⟩⟩
  · refine wp_callF 46 _ _ rfl Tryd.in46 #[.slice ba bn bc] (by simp [Act.eval]) (fun vz wz => ∃ v, vz = v ∧ Own wz v b ∧ (∀ k, v.ownBlock = some k → wd.heap.size ≤ k) ∧ Below wd.heap.size wd wz) ?_ ?_
    · refine (cpy_any wd _ b Yd.out HL.out).mono ?_
      rintro e wz ⟨v, rfl, k1, k2, k3⟩
      exact ⟨_, rfl, v, rfl, k1, k2, k3⟩
    rintro vz wa ⟨u, rfl, k1, k2, k3⟩
    have Oa := Keep.mk k1
    have Fa := Keep.mk k2
    have ba_ := Keep.mk k3
    obtain ⟨ua, un, uc, hu⟩ := k1.sl
    subst hu
    clear k1 k2 k3
    refine hK _ _ (trivial) fun hHa => ?_
    clear hK
    simp only [Act.put, List.setIfInBounds_toArray, List.set_cons_zero, List.set_cons_succ]
    refine wpAnyH_ready (rs := [4, 7]) (by kernel_rfl) (by simp) ?_
    refine AllReadyH.cons (o := ⟨some 34, Op.load 36 (Operand.tmp 33), 36, _, _, none⟩) rfl (fun K hK => ?_) (AllReadyH.cons (o := ⟨some 37, Op.buildSlice 36 1 #[(0, Operand.tmp 36)], 36, _, _, none⟩) rfl (fun K hK => ?_) AllReadyH.nil)
    all_goals rw [if_pos (by rfl)]
    · have c_ := Cd.out wa ba_.out
      refine wp_val (.slice la n cap) (by go_simp) ?_
      clear c_
      refine hK _ _ trivial fun hHl => ?_
      clear hK
      simp only [Act.put, List.setIfInBounds_toArray, List.set_cons_zero, List.set_cons_succ]
      refine wpAnyH_ready (rs := [7]) (by kernel_rfl) (by simp) ?_
      refine AllReadyH.cons (o := ⟨some 37, Op.buildSlice 36 1 #[(0, Operand.tmp 36)], 36, _, _, none⟩) rfl (fun K hK => ?_) AllReadyH.nil
      rw [if_pos (by rfl)]
      refine wp_bs 36 1 _ rfl #[(0, .slice ua un uc)] (by simp [Act.eval]) _ _ (bsRw1 ua un uc wa) ?_
      have bb := below_new wa (.cells #[.slice ua un uc] 39)
      have Qb := Keep.mk (Blk.new wa 39 #[.slice ua un uc])
      generalize wa.alloc (.cells #[.slice ua un uc] 39) = wb at *
      obtain ⟨gx, hgx⟩ : ∃ z, Keep (z = wa.heap.size) := ⟨_, ⟨rfl⟩⟩
      rw [← hgx.out] at Qb ⊢
      have Ob := Keep.mk (owns_below Oa.out bb)
      have bb2 : Keep (Below wd.heap.size wd wb) := ⟨ba_.out.trans (bb.mono ba_.out.size)⟩
      clear bb hgx
      refine hK _ _ trivial fun hHc => ?_
      clear hK
      simp only [Act.put, List.setIfInBounds_toArray, List.set_cons_zero, List.set_cons_succ]
      refine wpAnyH_ready (rs := [8]) (by kernel_rfl) (by simp) ?_
      refine AllReadyH.cons (o := ⟨some 38, Op.call { callee := Callee.builtin Builtin.append, args := #[Operand.tmp 34, Operand.tmp 37], argTypes := #[36, 36] }, 36, _, _, none⟩) rfl (fun K hK => ?_) AllReadyH.nil
      rw [if_pos (by rfl)]
      refine wp_appRw (.tmp 34) (.tmp 37) rfl 0 (.slice la n cap) n (a.R.map (·.1)) gx ua un uc rfl rfl (by have h := owns_below (Md.out.lk a (List.mem_of_getElem? Ha.out)).own bb2.out; rw [Hv.out, Hn.out] at h; exact h) (Qb.out.c 0 rfl) (by have := hn4; omega) (Nat.zero_le _) ?_
      intro v9 wc k1 k2 k3
      obtain ⟨za, zc, hv9⟩ := owns_sl k1
      subst hv9
      have N9 : Keep (RmN wd x g N Ks (Ks.set i_ ⟨.slice za (n + 1) zc, a.R ++ [(.slice ua un uc, b)]⟩) (wc.setCell ⟨g, i_, none⟩ (.slice za (n + 1) zc))) := ⟨Md.out.push Ha.out bb2.out Ob.out (fun k hk => Fa.out k hk) (by rw [Hn.out]; exact k1) (by rw [Hv.out]; exact k2) (by rw [Hv.out]; exact k3) (by rw [Hn.out]; omega) HL2.out HBy.out⟩
      have hDc := k2.blk ((Md.out.below bb2.out).bg) fun e => absurd ((owns_typ ((Md.out.below bb2.out).lk a (List.mem_of_getElem? Ha.out)).own (by rw [Hv.out]; exact e)).one (Md.out.below bb2.out).bg.typ) (by decide)
      have f_o := hDc.frozen i_
      have c_o := hDc.c i_ (by simp [Ha.out] : (Ks.map (·.v)).toArray[i_]? = some a.v)
      clear k1 k2 k3 hDc
      refine hK _ _ trivial fun hHd => ?_
      clear hK
      simp only [Act.put, List.setIfInBounds_toArray, List.set_cons_zero, List.set_cons_succ]
      refine wpAnyH_take (i := 9) (oi := ⟨some 39, Op.nilCheck (Operand.tmp 30), 0, _, _, none⟩) (v := .pointer (some ⟨g, i_, none⟩)) rfl (by kernel_rfl) (by kernel_rfl) (by kernel_rfl) (fun _ _ _ h => h) (Or.inl ⟨by rfl, fun w hS => by go_simp⟩) hHd ?_
      simp only [Act.put, List.setIfInBounds_toArray, List.set_cons_zero, List.set_cons_succ]
      refine wpAnyH_take (i := 10) (oi := ⟨some 40, Op.fieldAddr 85 (Operand.tmp 39) 0, 0, _, _, none⟩) (v := .pointer (some ⟨g, i_, none⟩)) rfl (by kernel_rfl) (by kernel_rfl) (by kernel_rfl) (fun _ _ _ h => h) (Or.inl ⟨by rfl, fun w hS => by go_simp⟩) hHd ?_
      simp only [Act.put, List.setIfInBounds_toArray, List.set_cons_zero, List.set_cons_succ]
      refine wpAnyH_ready (rs := [11]) (by kernel_rfl) (by simp) ?_
      refine AllReadyH.cons (o := ⟨none, Op.store 36 (Operand.tmp 40) (Operand.tmp 38), 0, _, _, none⟩) rfl (fun K hK => ?_) AllReadyH.nil
      rw [if_pos (by rfl)]
      refine wp_valS (wc.setCell ⟨g, i_, none⟩ (.slice za (n + 1) zc)) (by go_simp) ?_
      clear f_o c_o
      generalize wc.setCell ⟨g, i_, none⟩ (.slice za (n + 1) zc) = we at *
      refine hK _ _ trivial fun hHe => ?_
      clear hK
      simp only [Act.put, List.setIfInBounds_toArray, List.set_cons_zero, List.set_cons_succ]
      refine wpAnyH_done (by kernel_rfl) ?_ _
      refine hK10 _ _ ?_
      refine wp_seq_k fun K12 hK12 => ?_
      refine wp_region_list (WL.out ?_)
      refine WL.val (by kernel_rfl) (.int .i64 0) (by go_simp) ?_
      simp only [Act.put, List.setIfInBounds_toArray, List.set_cons_zero, List.set_cons_succ]
      refine WL.nil ?_
      refine hK12 _ _ ?_
      refine wp_ret ?_
      try simp only [Exit.inBlock, Exit.then]
      go_ret
      exact ⟨rfl, .slice ua un uc, .slice za (n + 1) zc, ⟨N9.out.at_, (Grown.below (S := RmW g Ks) HWd.out).trans N9.out.gr, fun k hk => by have h := N9.out.new k hk; rw [hsz.out] at h; exact h⟩⟩
    · refine wp_bs 36 1 _ rfl #[(0, .slice ua un uc)] (by simp [Act.eval]) _ _ (bsRw1 ua un uc wa) ?_
      have bb := below_new wa (.cells #[.slice ua un uc] 39)
      have Qb := Keep.mk (Blk.new wa 39 #[.slice ua un uc])
      generalize wa.alloc (.cells #[.slice ua un uc] 39) = wb at *
      obtain ⟨gx, hgx⟩ : ∃ z, Keep (z = wa.heap.size) := ⟨_, ⟨rfl⟩⟩
      rw [← hgx.out] at Qb ⊢
      have Ob := Keep.mk (owns_below Oa.out bb)
      have bb2 : Keep (Below wd.heap.size wd wb) := ⟨ba_.out.trans (bb.mono ba_.out.size)⟩
      clear bb hgx
      refine hK _ _ trivial fun hHc => ?_
      clear hK
      simp only [Act.put, List.setIfInBounds_toArray, List.set_cons_zero, List.set_cons_succ]
      refine wpAnyH_ready (rs := [4]) (by kernel_rfl) (by simp) ?_
      refine AllReadyH.cons (o := ⟨some 34, Op.load 36 (Operand.tmp 33), 36, _, _, none⟩) rfl (fun K hK => ?_) AllReadyH.nil
      rw [if_pos (by rfl)]
      have c_ := Cd.out wb bb2.out
      refine wp_val (.slice la n cap) (by go_simp) ?_
      clear c_
      refine hK _ _ trivial fun hHl => ?_
      clear hK
      simp only [Act.put, List.setIfInBounds_toArray, List.set_cons_zero, List.set_cons_succ]
      refine wpAnyH_ready (rs := [8]) (by kernel_rfl) (by simp) ?_
      refine AllReadyH.cons (o := ⟨some 38, Op.call { callee := Callee.builtin Builtin.append, args := #[Operand.tmp 34, Operand.tmp 37], argTypes := #[36, 36] }, 36, _, _, none⟩) rfl (fun K hK => ?_) AllReadyH.nil
      rw [if_pos (by rfl)]
      refine wp_appRw (.tmp 34) (.tmp 37) rfl 0 (.slice la n cap) n (a.R.map (·.1)) gx ua un uc rfl rfl (by have h := owns_below (Md.out.lk a (List.mem_of_getElem? Ha.out)).own bb2.out; rw [Hv.out, Hn.out] at h; exact h) (Qb.out.c 0 rfl) (by have := hn4; omega) (Nat.zero_le _) ?_
      intro v9 wc k1 k2 k3
      obtain ⟨za, zc, hv9⟩ := owns_sl k1
      subst hv9
      have N9 : Keep (RmN wd x g N Ks (Ks.set i_ ⟨.slice za (n + 1) zc, a.R ++ [(.slice ua un uc, b)]⟩) (wc.setCell ⟨g, i_, none⟩ (.slice za (n + 1) zc))) := ⟨Md.out.push Ha.out bb2.out Ob.out (fun k hk => Fa.out k hk) (by rw [Hn.out]; exact k1) (by rw [Hv.out]; exact k2) (by rw [Hv.out]; exact k3) (by rw [Hn.out]; omega) HL2.out HBy.out⟩
      have hDc := k2.blk ((Md.out.below bb2.out).bg) fun e => absurd ((owns_typ ((Md.out.below bb2.out).lk a (List.mem_of_getElem? Ha.out)).own (by rw [Hv.out]; exact e)).one (Md.out.below bb2.out).bg.typ) (by decide)
      have f_o := hDc.frozen i_
      have c_o := hDc.c i_ (by simp [Ha.out] : (Ks.map (·.v)).toArray[i_]? = some a.v)
      clear k1 k2 k3 hDc
      refine hK _ _ trivial fun hHd => ?_
      clear hK
      simp only [Act.put, List.setIfInBounds_toArray, List.set_cons_zero, List.set_cons_succ]
      refine wpAnyH_take (i := 9) (oi := ⟨some 39, Op.nilCheck (Operand.tmp 30), 0, _, _, none⟩) (v := .pointer (some ⟨g, i_, none⟩)) rfl (by kernel_rfl) (by kernel_rfl) (by kernel_rfl) (fun _ _ _ h => h) (Or.inl ⟨by rfl, fun w hS => by go_simp⟩) hHd ?_
      simp only [Act.put, List.setIfInBounds_toArray, List.set_cons_zero, List.set_cons_succ]
      refine wpAnyH_take (i := 10) (oi := ⟨some 40, Op.fieldAddr 85 (Operand.tmp 39) 0, 0, _, _, none⟩) (v := .pointer (some ⟨g, i_, none⟩)) rfl (by kernel_rfl) (by kernel_rfl) (by kernel_rfl) (fun _ _ _ h => h) (Or.inl ⟨by rfl, fun w hS => by go_simp⟩) hHd ?_
      simp only [Act.put, List.setIfInBounds_toArray, List.set_cons_zero, List.set_cons_succ]
      refine wpAnyH_ready (rs := [11]) (by kernel_rfl) (by simp) ?_
      refine AllReadyH.cons (o := ⟨none, Op.store 36 (Operand.tmp 40) (Operand.tmp 38), 0, _, _, none⟩) rfl (fun K hK => ?_) AllReadyH.nil
      rw [if_pos (by rfl)]
      refine wp_valS (wc.setCell ⟨g, i_, none⟩ (.slice za (n + 1) zc)) (by go_simp) ?_
      clear f_o c_o
      generalize wc.setCell ⟨g, i_, none⟩ (.slice za (n + 1) zc) = we at *
      refine hK _ _ trivial fun hHe => ?_
      clear hK
      simp only [Act.put, List.setIfInBounds_toArray, List.set_cons_zero, List.set_cons_succ]
      refine wpAnyH_done (by kernel_rfl) ?_ _
      refine hK10 _ _ ?_
      refine wp_seq_k fun K13 hK13 => ?_
      refine wp_region_list (WL.out ?_)
      refine WL.val (by kernel_rfl) (.int .i64 0) (by go_simp) ?_
      simp only [Act.put, List.setIfInBounds_toArray, List.set_cons_zero, List.set_cons_succ]
      refine WL.nil ?_
      refine hK13 _ _ ?_
      refine wp_ret ?_
      try simp only [Exit.inBlock, Exit.then]
      go_ret
      exact ⟨rfl, .slice ua un uc, .slice za (n + 1) zc, ⟨N9.out.at_, (Grown.below (S := RmW g Ks) HWd.out).trans N9.out.gr, fun k hk => by have h := N9.out.new k hk; rw [hsz.out] at h; exact h⟩⟩
theorem rsend_any (w : World) (x g N : Nat) (K : List Lk) (f t : Int) (vb : Value) (b : List Int) (h : RmAt w x g N K) (hb : RowAt w vb b) (hB : Byts b) : Calls Tryd.prog 43 #[.pointer (some ⟨x, 0, none⟩), .int .i64 f, .int .i64 t, vb] w fun e w' => e = .returned (.int .i64 (sndE N K f t b)) ∧ ∃ K', RmN w x g N K K' w' ∧ (sndE N K f t b ≠ 0 → K' = K) ∧ (sndE N K f t b = 0 → ∃ u v, K' = K.set (ix f t) ⟨v, (lkOf K f t).R ++ [(u, b)]⟩) := by
  obtain ⟨ba, bc, rfl⟩ := row_form hb
  unfold sndE
  cases ht : thr N f t
  · exact (sn_no w x g N K f t _ _ _ ⟨h⟩ ht).mono fun e w' ⟨h1, h2⟩ => ⟨h1, K, by rw [h2]; exact RmN.refl h, fun _ => rfl, fun e => by simp at e⟩
  · rw [if_pos rfl]
    have hI := thr_ix h.nb.2 ht
    obtain ⟨h4, h2, h3⟩ := h.link ht
    obtain ⟨a, c, e⟩ := h2.sl
    rw [e] at h3
    by_cases h5 : 2097194 < b.length
    · rw [if_pos h5]
      exact (sn_big w x g N K f t _ _ _ ⟨h⟩ ht h5).mono fun e w' ⟨h1, h2⟩ => ⟨h1, K, by rw [h2]; exact RmN.refl h, fun _ => rfl, fun e => by simp at e⟩
    · rw [if_neg h5]
      by_cases h6 : 1024 ≤ (lkOf K f t).R.length
      · rw [if_pos h6]
        exact (sn_many w x g N K f t _ _ _ ⟨h⟩ _ _ _ _ ⟨hI⟩ h3 ht h5 h6).mono fun e w' ⟨h1, h2⟩ => ⟨h1, K, by rw [h2]; exact RmN.refl h, fun _ => rfl, fun e => by simp at e⟩
      · rw [if_neg h6]
        exact (sn_ok w x g N K f t _ _ _ ⟨h⟩ _ _ _ _ ⟨hI⟩ h3 _ b ⟨h4⟩ ⟨e⟩ ⟨rfl⟩ ⟨hb⟩ ⟨by omega⟩ ⟨by omega⟩ ⟨hB⟩ ht h5 h6).mono fun e w' ⟨h1, u, v, h2⟩ => ⟨h1, _, h2, fun e => absurd rfl e, fun _ => ⟨u, v, rfl⟩⟩

end Go.Proofs.YteecdcocgflklaaDoor
