import Derived.Test.YteecdcocgflklaaDoorA04
import Derived.Defers
namespace Go.Proofs.YteecdcocgflklaaDoor
open Go.RowKit
set_option linter.unusedSimpArgs false
set_option linter.unusedVariables false
theorem Tryd.in29 (w : World) (vs : Array Value) : (callFunc 29 vs).run Tryd.prog w = .ok (.enter 29 vs) w := by kernel_rfl
abbrev xor8 (a c : Int) : Int := bits .xor .u8 a c
set_option maxRecDepth 8000 in
theorem fl_err (w : World) (x g N : Nat) (K : List Lk) (f t i : Int) (m by_ : Int) (HM : Keep (RmAt w x g N K)) (er : Int) (her : Keep (nmE N K f t i = er)) (he : (er != 0) = true) : Calls Tryd.prog 29 #[.pointer (some ⟨x, 0, none⟩), .int .i64 f, .int .i64 t, .int .i64 i, .int .i64 m, .int .u8 by_] w fun e w' => e = .returned (.int .i64 er) ∧ w' = w := by
  go_enter Tryd.func29, Tryd.ntmps29
  refine wp_seq_k fun K1 hK1 => ?_
  refine wp_region_list (WL.out ?_)
  refine WL.val (by kernel_rfl) (.int .i64 0) (by go_simp) ?_
  simp only [Act.put, List.setIfInBounds_toArray, List.set_cons_zero, List.set_cons_succ]
  refine WL.nil ?_
  refine hK1 _ _ ?_
  refine wp_seq_k fun K2 hK2 => ?_
  refine wp_region_list (WL.out ?_)
  refine WL.val (by kernel_rfl) (.pointer (some ⟨x, 0, none⟩)) (by go_simp) ?_
  simp only [Act.put, List.setIfInBounds_toArray, List.set_cons_zero, List.set_cons_succ]
  refine WL.val (by kernel_rfl) (.int .i64 f) (by go_simp) ?_
  simp only [Act.put, List.setIfInBounds_toArray, List.set_cons_zero, List.set_cons_succ]
  refine WL.val (by kernel_rfl) (.int .i64 t) (by go_simp) ?_
  simp only [Act.put, List.setIfInBounds_toArray, List.set_cons_zero, List.set_cons_succ]
  refine WL.val (by kernel_rfl) (.int .i64 i) (by go_simp) ?_
  simp only [Act.put, List.setIfInBounds_toArray, List.set_cons_zero, List.set_cons_succ]
  refine WL.callF (by kernel_rfl) 45 _ _ rfl Tryd.in45 #[.pointer (some ⟨x, 0, none⟩), .int .i64 f, .int .i64 t, .int .i64 i] (by simp [Act.eval]) ?_
  refine (named_any w x g N K f t i HM.out).mono ?_
  rintro e w1_ ⟨q_, rfl, hq_, hw_⟩
  refine ⟨_, rfl, ?_⟩
  have hw_ := hw_.symm
  subst hw_
  rw [her.out] at hq_ ⊢
  clear hq_
  simp only [Act.put, List.setIfInBounds_toArray, List.set_cons_zero, List.set_cons_succ]
  refine WL.val (by kernel_rfl) (.tuple #[q_, .int .i64 er]) (by go_simp) ?_
  simp only [Act.put, List.setIfInBounds_toArray, List.set_cons_zero, List.set_cons_succ]
  refine WL.val (by kernel_rfl) (q_) (by go_simp) ?_
  simp only [Act.put, List.setIfInBounds_toArray, List.set_cons_zero, List.set_cons_succ]
  refine WL.val (by kernel_rfl) (.int .i64 er) (by go_simp) ?_
  simp only [Act.put, List.setIfInBounds_toArray, List.set_cons_zero, List.set_cons_succ]
  refine WL.val (by kernel_rfl) (q_) (by go_simp) ?_
  simp only [Act.put, List.setIfInBounds_toArray, List.set_cons_zero, List.set_cons_succ]
  refine WL.val (by kernel_rfl) (.int .i64 er) (by go_simp) ?_
  simp only [Act.put, List.setIfInBounds_toArray, List.set_cons_zero, List.set_cons_succ]
  refine WL.nil ?_
  refine hK2 _ _ ?_
  refine wp_seq_k fun K3 hK3 => ?_
  refine wp_seq_k fun K4 hK4 => ?_
  refine wp_region_list (WL.out ?_)
  refine WL.val (by kernel_rfl) (.int .i64 er) (by go_simp) ?_
  simp only [Act.put, List.setIfInBounds_toArray, List.set_cons_zero, List.set_cons_succ]
  refine WL.val (by kernel_rfl) (.bool true) (by go_simp) ?_
  simp only [Act.put, List.setIfInBounds_toArray, List.set_cons_zero, List.set_cons_succ]
  refine WL.nil ?_
  refine hK4 _ _ ?_
  refine wp_cond_true rfl ?_
  refine wp_seq_k fun K5 hK5 => ?_
  refine wp_region_list (WL.out ?_)
  refine WL.val (by kernel_rfl) (.int .i64 er) (by go_simp) ?_
  simp only [Act.put, List.setIfInBounds_toArray, List.set_cons_zero, List.set_cons_succ]
  refine WL.val (by kernel_rfl) (.int .i64 er) (by go_simp) ?_
  simp only [Act.put, List.setIfInBounds_toArray, List.set_cons_zero, List.set_cons_succ]
  refine WL.nil ?_
  refine hK5 _ _ ?_
  refine wp_ret ?_
  go_ret
  exact ⟨rfl, rfl⟩
set_option maxRecDepth 8000 in
set_option maxHeartbeats 1000000 in
theorem fl_by (w : World) (x g N : Nat) (Ks : List Lk) (f t m by_ : Int) (k i_ n cap gl rn rc : Nat) (ra : Option Addr) (b : List Int) (a : Lk) (HM : Keep (RmAt w x g N Ks)) (her : Keep (nmE N Ks f t (k : Int) = 0)) (Hix : Keep (i_ = ix f t)) (Ha : Keep (Ks[i_]? = some a)) (Hv : Keep (a.v = .slice (some ⟨gl, 0, none⟩) n cap)) (Hn : Keep (a.R.length = n)) (Hp : Keep (a.R[k]? = some (.slice ra rn rc, b))) (HL2 : Keep (b.length ≤ 2097194)) (HBy : Keep (Byts b)) (hk : k < n) (hby : by_ = 0)
    (HCd : Keep (∀ wx, Below w.heap.size w wx → wx.cell? ⟨g, i_, none⟩ = some (.slice (some ⟨gl, 0, none⟩) n cap))) (HCl : Keep (∀ wx, Below w.heap.size w wx → ∀ (j : Nat) (p : Value × List Int), a.R[j]? = some p → wx.cell? ⟨gl, j, none⟩ = some p.1)) : Calls Tryd.prog 29 #[.pointer (some ⟨x, 0, none⟩), .int .i64 f, .int .i64 t, .int .i64 (k : Int), .int .i64 m, .int .u8 by_] w fun e w' => e = .returned (.int .i64 1) ∧ w' = w := by
  have hkn : (k : Int) < (n : Int) := by omega
  have hby' : (by_ == 0) = true := by simpa using hby
  have c_ := HCd.out w (Below.refl _ _)
  have d_ : w.cell? ⟨gl, k, none⟩ = some (.slice ra rn rc) := HCl.out w (Below.refl _ _) k _ Hp.out
  go_enter Tryd.func29, Tryd.ntmps29
  refine wp_seq_k fun K1 hK1 => ?_
  refine wp_region_list (WL.out ?_)
  refine WL.val (by kernel_rfl) (.int .i64 0) (by go_simp) ?_
  simp only [Act.put, List.setIfInBounds_toArray, List.set_cons_zero, List.set_cons_succ]
  refine WL.nil ?_
  refine hK1 _ _ ?_
  refine wp_seq_k fun K2 hK2 => ?_
  refine wp_region_list (WL.out ?_)
  refine WL.val (by kernel_rfl) (.pointer (some ⟨x, 0, none⟩)) (by go_simp) ?_
  simp only [Act.put, List.setIfInBounds_toArray, List.set_cons_zero, List.set_cons_succ]
  refine WL.val (by kernel_rfl) (.int .i64 f) (by go_simp) ?_
  simp only [Act.put, List.setIfInBounds_toArray, List.set_cons_zero, List.set_cons_succ]
  refine WL.val (by kernel_rfl) (.int .i64 t) (by go_simp) ?_
  simp only [Act.put, List.setIfInBounds_toArray, List.set_cons_zero, List.set_cons_succ]
  refine WL.val (by kernel_rfl) (.int .i64 (k : Int)) (by go_simp) ?_
  simp only [Act.put, List.setIfInBounds_toArray, List.set_cons_zero, List.set_cons_succ]
  refine WL.callF (by kernel_rfl) 45 _ _ rfl Tryd.in45 #[.pointer (some ⟨x, 0, none⟩), .int .i64 f, .int .i64 t, .int .i64 (k : Int)] (by simp [Act.eval]) ?_
  refine (named_any w x g N Ks f t (k : Int) HM.out).mono ?_
  rintro e w1_ ⟨q_, rfl, hq_, hw_⟩
  refine ⟨_, rfl, ?_⟩
  have hw_ := hw_.symm
  subst hw_
  rw [her.out] at hq_ ⊢
  obtain rfl := hq_ rfl
  rw [← Hix.out]
  simp only [Act.put, List.setIfInBounds_toArray, List.set_cons_zero, List.set_cons_succ]
  refine WL.val (by kernel_rfl) (.tuple #[.pointer (some ⟨g, i_, none⟩), .int .i64 0]) (by go_simp) ?_
  simp only [Act.put, List.setIfInBounds_toArray, List.set_cons_zero, List.set_cons_succ]
  refine WL.val (by kernel_rfl) (.pointer (some ⟨g, i_, none⟩)) (by go_simp) ?_
  simp only [Act.put, List.setIfInBounds_toArray, List.set_cons_zero, List.set_cons_succ]
  refine WL.val (by kernel_rfl) (.int .i64 0) (by go_simp) ?_
  simp only [Act.put, List.setIfInBounds_toArray, List.set_cons_zero, List.set_cons_succ]
  refine WL.val (by kernel_rfl) (.pointer (some ⟨g, i_, none⟩)) (by go_simp) ?_
  simp only [Act.put, List.setIfInBounds_toArray, List.set_cons_zero, List.set_cons_succ]
  refine WL.val (by kernel_rfl) (.int .i64 0) (by go_simp) ?_
  simp only [Act.put, List.setIfInBounds_toArray, List.set_cons_zero, List.set_cons_succ]
  refine WL.nil ?_
  refine hK2 _ _ ?_
  refine wp_seq_k fun K3 hK3 => ?_
  refine wp_seq_k fun K4 hK4 => ?_
  refine wp_region_list (WL.out ?_)
  refine WL.val (by kernel_rfl) (.int .i64 0) (by go_simp) ?_
  simp only [Act.put, List.setIfInBounds_toArray, List.set_cons_zero, List.set_cons_succ]
  refine WL.val (by kernel_rfl) (.bool false) (by go_simp) ?_
  simp only [Act.put, List.setIfInBounds_toArray, List.set_cons_zero, List.set_cons_succ]
  refine WL.nil ?_
  refine hK4 _ _ ?_
  refine wp_cond_false rfl ?_
  refine wp_skip ?_
  refine hK3 _ _ ?_
  refine wp_seq_k fun K5 hK5 => ?_
  refine wp_region_list (WL.out ?_)
  refine WL.val (by kernel_rfl) (.pointer (some ⟨g, i_, none⟩)) (by go_simp) ?_
  simp only [Act.put, List.setIfInBounds_toArray, List.set_cons_zero, List.set_cons_succ]
  refine WL.val (by kernel_rfl) (.pointer (some ⟨g, i_, none⟩)) (by go_simp) ?_
  simp only [Act.put, List.setIfInBounds_toArray, List.set_cons_zero, List.set_cons_succ]
  refine WL.val (by kernel_rfl) (.pointer (some ⟨g, i_, none⟩)) (by go_simp) ?_
  simp only [Act.put, List.setIfInBounds_toArray, List.set_cons_zero, List.set_cons_succ]
  refine WL.val (by kernel_rfl) (.slice (some ⟨gl, 0, none⟩) n cap) (by go_simp) ?_
  simp only [Act.put, List.setIfInBounds_toArray, List.set_cons_zero, List.set_cons_succ]
  refine WL.val (by kernel_rfl) (.int .i64 (k : Int)) (by go_simp) ?_
  simp only [Act.put, List.setIfInBounds_toArray, List.set_cons_zero, List.set_cons_succ]
  refine WL.val (by kernel_rfl) (.pointer (some ⟨gl, k, none⟩)) (by go_simp) ?_
  simp only [Act.put, List.setIfInBounds_toArray, List.set_cons_zero, List.set_cons_succ]
  refine WL.val (by kernel_rfl) (.slice ra rn rc) (by go_simp) ?_
  simp only [Act.put, List.setIfInBounds_toArray, List.set_cons_zero, List.set_cons_succ]
  refine WL.val (by kernel_rfl) (.int .i64 (rn : Int)) (by go_simp) ?_
  simp only [Act.put, List.setIfInBounds_toArray, List.set_cons_zero, List.set_cons_succ]
  refine WL.val (by kernel_rfl) (.int .i64 (rn : Int)) (by go_simp) ?_
  simp only [Act.put, List.setIfInBounds_toArray, List.set_cons_zero, List.set_cons_succ]
  refine WL.nil ?_
  refine hK5 _ _ ?_
  refine wp_seq_k fun K6 hK6 => ?_
  refine wp_seq_k fun K7 hK7 => ?_
  refine wp_region_list (WL.out ?_)
  refine WL.val (by kernel_rfl) (.int .u8 by_) (by go_simp) ?_
  simp only [Act.put, List.setIfInBounds_toArray, List.set_cons_zero, List.set_cons_succ]
  refine WL.val (by kernel_rfl) (.bool true) (by go_simp) ?_
  simp only [Act.put, List.setIfInBounds_toArray, List.set_cons_zero, List.set_cons_succ]
  refine WL.val (by kernel_rfl) (.bool true) (by go_simp) ?_
  simp only [Act.put, List.setIfInBounds_toArray, List.set_cons_zero, List.set_cons_succ]
  refine WL.skip (by kernel_rfl) ?_
  simp only [Act.put, List.setIfInBounds_toArray, List.set_cons_zero, List.set_cons_succ]
  refine WL.skip (by kernel_rfl) ?_
  simp only [Act.put, List.setIfInBounds_toArray, List.set_cons_zero, List.set_cons_succ]
  refine WL.val (by kernel_rfl) (.bool true) (by go_simp) ?_
  simp only [Act.put, List.setIfInBounds_toArray, List.set_cons_zero, List.set_cons_succ]
  refine WL.nil ?_
  refine hK7 _ _ ?_
  refine wp_cond_true rfl ?_
  refine wp_seq_k fun K8 hK8 => ?_
  refine wp_region_list (WL.out ?_)
  refine WL.val (by kernel_rfl) (.int .i64 1) (by go_simp) ?_
  simp only [Act.put, List.setIfInBounds_toArray, List.set_cons_zero, List.set_cons_succ]
  refine WL.nil ?_
  refine hK8 _ _ ?_
  refine wp_ret ?_
  go_ret
  exact ⟨rfl, rfl⟩
set_option maxRecDepth 8000 in
set_option maxHeartbeats 1000000 in
theorem fl_len (w : World) (x g N : Nat) (Ks : List Lk) (f t m by_ : Int) (k i_ n cap gl rn rc : Nat) (ra : Option Addr) (b : List Int) (a : Lk) (HM : Keep (RmAt w x g N Ks)) (her : Keep (nmE N Ks f t (k : Int) = 0)) (Hix : Keep (i_ = ix f t)) (Ha : Keep (Ks[i_]? = some a)) (Hv : Keep (a.v = .slice (some ⟨gl, 0, none⟩) n cap)) (Hn : Keep (a.R.length = n)) (Hp : Keep (a.R[k]? = some (.slice ra rn rc, b))) (HL2 : Keep (b.length ≤ 2097194)) (HBy : Keep (Byts b)) (hk : k < n) (hby : ¬ by_ = 0) (hr1 : rn = 0)
    (HCd : Keep (∀ wx, Below w.heap.size w wx → wx.cell? ⟨g, i_, none⟩ = some (.slice (some ⟨gl, 0, none⟩) n cap))) (HCl : Keep (∀ wx, Below w.heap.size w wx → ∀ (j : Nat) (p : Value × List Int), a.R[j]? = some p → wx.cell? ⟨gl, j, none⟩ = some p.1)) : Calls Tryd.prog 29 #[.pointer (some ⟨x, 0, none⟩), .int .i64 f, .int .i64 t, .int .i64 (k : Int), .int .i64 m, .int .u8 by_] w fun e w' => e = .returned (.int .i64 1) ∧ w' = w := by
  have hkn : (k : Int) < (n : Int) := by omega
  have hby' : (by_ == 0) = false := by simpa using hby
  have hr' : ((rn : Int) == 0) = true := by simp; omega
  have c_ := HCd.out w (Below.refl _ _)
  have d_ : w.cell? ⟨gl, k, none⟩ = some (.slice ra rn rc) := HCl.out w (Below.refl _ _) k _ Hp.out
  go_enter Tryd.func29, Tryd.ntmps29
  refine wp_seq_k fun K1 hK1 => ?_
  refine wp_region_list (WL.out ?_)
  refine WL.val (by kernel_rfl) (.int .i64 0) (by go_simp) ?_
  simp only [Act.put, List.setIfInBounds_toArray, List.set_cons_zero, List.set_cons_succ]
  refine WL.nil ?_
  refine hK1 _ _ ?_
  refine wp_seq_k fun K2 hK2 => ?_
  refine wp_region_list (WL.out ?_)
  refine WL.val (by kernel_rfl) (.pointer (some ⟨x, 0, none⟩)) (by go_simp) ?_
  simp only [Act.put, List.setIfInBounds_toArray, List.set_cons_zero, List.set_cons_succ]
  refine WL.val (by kernel_rfl) (.int .i64 f) (by go_simp) ?_
  simp only [Act.put, List.setIfInBounds_toArray, List.set_cons_zero, List.set_cons_succ]
  refine WL.val (by kernel_rfl) (.int .i64 t) (by go_simp) ?_
  simp only [Act.put, List.setIfInBounds_toArray, List.set_cons_zero, List.set_cons_succ]
  refine WL.val (by kernel_rfl) (.int .i64 (k : Int)) (by go_simp) ?_
  simp only [Act.put, List.setIfInBounds_toArray, List.set_cons_zero, List.set_cons_succ]
  refine WL.callF (by kernel_rfl) 45 _ _ rfl Tryd.in45 #[.pointer (some ⟨x, 0, none⟩), .int .i64 f, .int .i64 t, .int .i64 (k : Int)] (by simp [Act.eval]) ?_
  refine (named_any w x g N Ks f t (k : Int) HM.out).mono ?_
  rintro e w1_ ⟨q_, rfl, hq_, hw_⟩
  refine ⟨_, rfl, ?_⟩
  have hw_ := hw_.symm
  subst hw_
  rw [her.out] at hq_ ⊢
  obtain rfl := hq_ rfl
  rw [← Hix.out]
  simp only [Act.put, List.setIfInBounds_toArray, List.set_cons_zero, List.set_cons_succ]
  refine WL.val (by kernel_rfl) (.tuple #[.pointer (some ⟨g, i_, none⟩), .int .i64 0]) (by go_simp) ?_
  simp only [Act.put, List.setIfInBounds_toArray, List.set_cons_zero, List.set_cons_succ]
  refine WL.val (by kernel_rfl) (.pointer (some ⟨g, i_, none⟩)) (by go_simp) ?_
  simp only [Act.put, List.setIfInBounds_toArray, List.set_cons_zero, List.set_cons_succ]
  refine WL.val (by kernel_rfl) (.int .i64 0) (by go_simp) ?_
  simp only [Act.put, List.setIfInBounds_toArray, List.set_cons_zero, List.set_cons_succ]
  refine WL.val (by kernel_rfl) (.pointer (some ⟨g, i_, none⟩)) (by go_simp) ?_
  simp only [Act.put, List.setIfInBounds_toArray, List.set_cons_zero, List.set_cons_succ]
  refine WL.val (by kernel_rfl) (.int .i64 0) (by go_simp) ?_
  simp only [Act.put, List.setIfInBounds_toArray, List.set_cons_zero, List.set_cons_succ]
  refine WL.nil ?_
  refine hK2 _ _ ?_
  refine wp_seq_k fun K3 hK3 => ?_
  refine wp_seq_k fun K4 hK4 => ?_
  refine wp_region_list (WL.out ?_)
  refine WL.val (by kernel_rfl) (.int .i64 0) (by go_simp) ?_
  simp only [Act.put, List.setIfInBounds_toArray, List.set_cons_zero, List.set_cons_succ]
  refine WL.val (by kernel_rfl) (.bool false) (by go_simp) ?_
  simp only [Act.put, List.setIfInBounds_toArray, List.set_cons_zero, List.set_cons_succ]
  refine WL.nil ?_
  refine hK4 _ _ ?_
  refine wp_cond_false rfl ?_
  refine wp_skip ?_
  refine hK3 _ _ ?_
  refine wp_seq_k fun K5 hK5 => ?_
  refine wp_region_list (WL.out ?_)
  refine WL.val (by kernel_rfl) (.pointer (some ⟨g, i_, none⟩)) (by go_simp) ?_
  simp only [Act.put, List.setIfInBounds_toArray, List.set_cons_zero, List.set_cons_succ]
  refine WL.val (by kernel_rfl) (.pointer (some ⟨g, i_, none⟩)) (by go_simp) ?_
  simp only [Act.put, List.setIfInBounds_toArray, List.set_cons_zero, List.set_cons_succ]
  refine WL.val (by kernel_rfl) (.pointer (some ⟨g, i_, none⟩)) (by go_simp) ?_
  simp only [Act.put, List.setIfInBounds_toArray, List.set_cons_zero, List.set_cons_succ]
  refine WL.val (by kernel_rfl) (.slice (some ⟨gl, 0, none⟩) n cap) (by go_simp) ?_
  simp only [Act.put, List.setIfInBounds_toArray, List.set_cons_zero, List.set_cons_succ]
  refine WL.val (by kernel_rfl) (.int .i64 (k : Int)) (by go_simp) ?_
  simp only [Act.put, List.setIfInBounds_toArray, List.set_cons_zero, List.set_cons_succ]
  refine WL.val (by kernel_rfl) (.pointer (some ⟨gl, k, none⟩)) (by go_simp) ?_
  simp only [Act.put, List.setIfInBounds_toArray, List.set_cons_zero, List.set_cons_succ]
  refine WL.val (by kernel_rfl) (.slice ra rn rc) (by go_simp) ?_
  simp only [Act.put, List.setIfInBounds_toArray, List.set_cons_zero, List.set_cons_succ]
  refine WL.val (by kernel_rfl) (.int .i64 (rn : Int)) (by go_simp) ?_
  simp only [Act.put, List.setIfInBounds_toArray, List.set_cons_zero, List.set_cons_succ]
  refine WL.val (by kernel_rfl) (.int .i64 (rn : Int)) (by go_simp) ?_
  simp only [Act.put, List.setIfInBounds_toArray, List.set_cons_zero, List.set_cons_succ]
  refine WL.nil ?_
  refine hK5 _ _ ?_
  refine wp_seq_k fun K6 hK6 => ?_
  refine wp_seq_k fun K7 hK7 => ?_
  refine wp_region_list (WL.out ?_)
  refine WL.val (by kernel_rfl) (.int .u8 by_) (by go_simp) ?_
  simp only [Act.put, List.setIfInBounds_toArray, List.set_cons_zero, List.set_cons_succ]
  refine WL.val (by kernel_rfl) (.bool false) (by go_simp) ?_
  simp only [Act.put, List.setIfInBounds_toArray, List.set_cons_zero, List.set_cons_succ]
  refine WL.val (by kernel_rfl) (.bool false) (by go_simp) ?_
  simp only [Act.put, List.setIfInBounds_toArray, List.set_cons_zero, List.set_cons_succ]
  refine WL.val (by kernel_rfl) (.int .i64 (rn : Int)) (by go_simp) ?_
  simp only [Act.put, List.setIfInBounds_toArray, List.set_cons_zero, List.set_cons_succ]
  refine WL.val (by kernel_rfl) (.bool true) (by go_simp) ?_
  simp only [Act.put, List.setIfInBounds_toArray, List.set_cons_zero, List.set_cons_succ]
  refine WL.val (by kernel_rfl) (.bool true) (by go_simp) ?_
  simp only [Act.put, List.setIfInBounds_toArray, List.set_cons_zero, List.set_cons_succ]
  refine WL.nil ?_
  refine hK7 _ _ ?_
  refine wp_cond_true rfl ?_
  refine wp_seq_k fun K8 hK8 => ?_
  refine wp_region_list (WL.out ?_)
  refine WL.val (by kernel_rfl) (.int .i64 1) (by go_simp) ?_
  simp only [Act.put, List.setIfInBounds_toArray, List.set_cons_zero, List.set_cons_succ]
  refine WL.nil ?_
  refine hK8 _ _ ?_
  refine wp_ret ?_
  go_ret
  exact ⟨rfl, rfl⟩
set_option maxRecDepth 8000 in
set_option maxHeartbeats 1000000 in
theorem fl_ok (w : World) (x g N : Nat) (Ks : List Lk) (f t m by_ : Int) (k i_ n cap gl rn rc : Nat) (ra : Option Addr) (b : List Int) (a : Lk) (HM : Keep (RmAt w x g N Ks)) (her : Keep (nmE N Ks f t (k : Int) = 0)) (Hix : Keep (i_ = ix f t)) (Ha : Keep (Ks[i_]? = some a)) (Hv : Keep (a.v = .slice (some ⟨gl, 0, none⟩) n cap)) (Hn : Keep (a.R.length = n)) (Hp : Keep (a.R[k]? = some (.slice ra rn rc, b))) (HL2 : Keep (b.length ≤ 2097194)) (HBy : Keep (Byts b)) (hk : k < n) (Hbl : Keep (b.length = rn)) (hr1 : 1 ≤ rn) (hr2 : rn ≤ 2097194) (hby : ¬ by_ = 0) (HB2 : Keep (Byts (b.set (rnd m rn) (xor8 (b.getD (rnd m rn) 0) by_)))) (hbr : 0 ≤ by_ ∧ by_ < 256) (hb0 : 0 ≤ b.getD (rnd m rn) 0 ∧ b.getD (rnd m rn) 0 < 256)
    (HCd : Keep (∀ wx, Below w.heap.size w wx → wx.cell? ⟨g, i_, none⟩ = some (.slice (some ⟨gl, 0, none⟩) n cap))) (HCl : Keep (∀ wx, Below w.heap.size w wx → ∀ (j : Nat) (p : Value × List Int), a.R[j]? = some p → wx.cell? ⟨gl, j, none⟩ = some p.1)) : Calls Tryd.prog 29 #[.pointer (some ⟨x, 0, none⟩), .int .i64 f, .int .i64 t, .int .i64 (k : Int), .int .i64 m, .int .u8 by_] w fun e w' => e = .returned (.int .i64 0) ∧ ∃ u, RmN w x g N Ks (Ks.set i_ ⟨a.v, a.R.set k (u, b.set (rnd m rn) (xor8 (b.getD (rnd m rn) 0) by_))⟩) w' := by
  have hkn : (k : Int) < (n : Int) := by omega
  have hby' : (by_ == 0) = false := by simpa using hby
  have hr' : ((rn : Int) == 0) = false := by simp; omega
  have hr0 : ¬ rn = 0 := by omega
  have hrd := rnd_lt m hr1
  have hrd2 : ((rnd m rn : Nat) : Int) < (rn : Int) := by omega
  have c_ := HCd.out w (Below.refl _ _)
  have d_ : w.cell? ⟨gl, k, none⟩ = some (.slice ra rn rc) := HCl.out w (Below.refl _ _) k _ Hp.out
  go_enter Tryd.func29, Tryd.ntmps29
  refine wp_seq_k fun K1 hK1 => ?_
  refine wp_region_list (WL.out ?_)
  refine WL.val (by kernel_rfl) (.int .i64 0) (by go_simp) ?_
  simp only [Act.put, List.setIfInBounds_toArray, List.set_cons_zero, List.set_cons_succ]
  refine WL.nil ?_
  refine hK1 _ _ ?_
  refine wp_seq_k fun K2 hK2 => ?_
  refine wp_region_list (WL.out ?_)
  refine WL.val (by kernel_rfl) (.pointer (some ⟨x, 0, none⟩)) (by go_simp) ?_
  simp only [Act.put, List.setIfInBounds_toArray, List.set_cons_zero, List.set_cons_succ]
  refine WL.val (by kernel_rfl) (.int .i64 f) (by go_simp) ?_
  simp only [Act.put, List.setIfInBounds_toArray, List.set_cons_zero, List.set_cons_succ]
  refine WL.val (by kernel_rfl) (.int .i64 t) (by go_simp) ?_
  simp only [Act.put, List.setIfInBounds_toArray, List.set_cons_zero, List.set_cons_succ]
  refine WL.val (by kernel_rfl) (.int .i64 (k : Int)) (by go_simp) ?_
  simp only [Act.put, List.setIfInBounds_toArray, List.set_cons_zero, List.set_cons_succ]
  refine WL.callF (by kernel_rfl) 45 _ _ rfl Tryd.in45 #[.pointer (some ⟨x, 0, none⟩), .int .i64 f, .int .i64 t, .int .i64 (k : Int)] (by simp [Act.eval]) ?_
  refine (named_any w x g N Ks f t (k : Int) HM.out).mono ?_
  rintro e w1_ ⟨q_, rfl, hq_, hw_⟩
  refine ⟨_, rfl, ?_⟩
  have hw_ := hw_.symm
  subst hw_
  rw [her.out] at hq_ ⊢
  obtain rfl := hq_ rfl
  rw [← Hix.out]
  simp only [Act.put, List.setIfInBounds_toArray, List.set_cons_zero, List.set_cons_succ]
  refine WL.val (by kernel_rfl) (.tuple #[.pointer (some ⟨g, i_, none⟩), .int .i64 0]) (by go_simp) ?_
  simp only [Act.put, List.setIfInBounds_toArray, List.set_cons_zero, List.set_cons_succ]
  refine WL.val (by kernel_rfl) (.pointer (some ⟨g, i_, none⟩)) (by go_simp) ?_
  simp only [Act.put, List.setIfInBounds_toArray, List.set_cons_zero, List.set_cons_succ]
  refine WL.val (by kernel_rfl) (.int .i64 0) (by go_simp) ?_
  simp only [Act.put, List.setIfInBounds_toArray, List.set_cons_zero, List.set_cons_succ]
  refine WL.val (by kernel_rfl) (.pointer (some ⟨g, i_, none⟩)) (by go_simp) ?_
  simp only [Act.put, List.setIfInBounds_toArray, List.set_cons_zero, List.set_cons_succ]
  refine WL.val (by kernel_rfl) (.int .i64 0) (by go_simp) ?_
  simp only [Act.put, List.setIfInBounds_toArray, List.set_cons_zero, List.set_cons_succ]
  refine WL.nil ?_
  refine hK2 _ _ ?_
  refine wp_seq_k fun K3 hK3 => ?_
  refine wp_seq_k fun K4 hK4 => ?_
  refine wp_region_list (WL.out ?_)
  refine WL.val (by kernel_rfl) (.int .i64 0) (by go_simp) ?_
  simp only [Act.put, List.setIfInBounds_toArray, List.set_cons_zero, List.set_cons_succ]
  refine WL.val (by kernel_rfl) (.bool false) (by go_simp) ?_
  simp only [Act.put, List.setIfInBounds_toArray, List.set_cons_zero, List.set_cons_succ]
  refine WL.nil ?_
  refine hK4 _ _ ?_
  refine wp_cond_false rfl ?_
  refine wp_skip ?_
  refine hK3 _ _ ?_
  refine wp_seq_k fun K5 hK5 => ?_
  refine wp_region_list (WL.out ?_)
  refine WL.val (by kernel_rfl) (.pointer (some ⟨g, i_, none⟩)) (by go_simp) ?_
  simp only [Act.put, List.setIfInBounds_toArray, List.set_cons_zero, List.set_cons_succ]
  refine WL.val (by kernel_rfl) (.pointer (some ⟨g, i_, none⟩)) (by go_simp) ?_
  simp only [Act.put, List.setIfInBounds_toArray, List.set_cons_zero, List.set_cons_succ]
  refine WL.val (by kernel_rfl) (.pointer (some ⟨g, i_, none⟩)) (by go_simp) ?_
  simp only [Act.put, List.setIfInBounds_toArray, List.set_cons_zero, List.set_cons_succ]
  refine WL.val (by kernel_rfl) (.slice (some ⟨gl, 0, none⟩) n cap) (by go_simp) ?_
  simp only [Act.put, List.setIfInBounds_toArray, List.set_cons_zero, List.set_cons_succ]
  refine WL.val (by kernel_rfl) (.int .i64 (k : Int)) (by go_simp) ?_
  simp only [Act.put, List.setIfInBounds_toArray, List.set_cons_zero, List.set_cons_succ]
  refine WL.val (by kernel_rfl) (.pointer (some ⟨gl, k, none⟩)) (by go_simp) ?_
  simp only [Act.put, List.setIfInBounds_toArray, List.set_cons_zero, List.set_cons_succ]
  refine WL.val (by kernel_rfl) (.slice ra rn rc) (by go_simp) ?_
  simp only [Act.put, List.setIfInBounds_toArray, List.set_cons_zero, List.set_cons_succ]
  refine WL.val (by kernel_rfl) (.int .i64 (rn : Int)) (by go_simp) ?_
  simp only [Act.put, List.setIfInBounds_toArray, List.set_cons_zero, List.set_cons_succ]
  refine WL.val (by kernel_rfl) (.int .i64 (rn : Int)) (by go_simp) ?_
  simp only [Act.put, List.setIfInBounds_toArray, List.set_cons_zero, List.set_cons_succ]
  refine WL.nil ?_
  refine hK5 _ _ ?_
  refine wp_seq_k fun K6 hK6 => ?_
  refine wp_seq_k fun K7 hK7 => ?_
  refine wp_region_list (WL.out ?_)
  refine WL.val (by kernel_rfl) (.int .u8 by_) (by go_simp) ?_
  simp only [Act.put, List.setIfInBounds_toArray, List.set_cons_zero, List.set_cons_succ]
  refine WL.val (by kernel_rfl) (.bool false) (by go_simp) ?_
  simp only [Act.put, List.setIfInBounds_toArray, List.set_cons_zero, List.set_cons_succ]
  refine WL.val (by kernel_rfl) (.bool false) (by go_simp) ?_
  simp only [Act.put, List.setIfInBounds_toArray, List.set_cons_zero, List.set_cons_succ]
  refine WL.val (by kernel_rfl) (.int .i64 (rn : Int)) (by go_simp) ?_
  simp only [Act.put, List.setIfInBounds_toArray, List.set_cons_zero, List.set_cons_succ]
  refine WL.val (by kernel_rfl) (.bool false) (by go_simp) ?_
  simp only [Act.put, List.setIfInBounds_toArray, List.set_cons_zero, List.set_cons_succ]
  refine WL.val (by kernel_rfl) (.bool false) (by go_simp) ?_
  simp only [Act.put, List.setIfInBounds_toArray, List.set_cons_zero, List.set_cons_succ]
  refine WL.nil ?_
  refine hK7 _ _ ?_
  refine wp_cond_false rfl ?_
  refine wp_skip ?_
  refine hK6 _ _ ?_
  refine wp_seq_k fun K8 hK8 => ?_
  refine wp_region_list (WL.out ?_)
  refine WL.val (by kernel_rfl) (.pointer (some ⟨g, i_, none⟩)) (by go_simp) ?_
  simp only [Act.put, List.setIfInBounds_toArray, List.set_cons_zero, List.set_cons_succ]
  refine WL.val (by kernel_rfl) (.pointer (some ⟨g, i_, none⟩)) (by go_simp) ?_
  simp only [Act.put, List.setIfInBounds_toArray, List.set_cons_zero, List.set_cons_succ]
  refine WL.val (by kernel_rfl) (.pointer (some ⟨g, i_, none⟩)) (by go_simp) ?_
  simp only [Act.put, List.setIfInBounds_toArray, List.set_cons_zero, List.set_cons_succ]
  refine WL.val (by kernel_rfl) (.slice (some ⟨gl, 0, none⟩) n cap) (by go_simp) ?_
  simp only [Act.put, List.setIfInBounds_toArray, List.set_cons_zero, List.set_cons_succ]
  refine WL.val (by kernel_rfl) (.int .i64 (k : Int)) (by go_simp) ?_
  simp only [Act.put, List.setIfInBounds_toArray, List.set_cons_zero, List.set_cons_succ]
  refine WL.val (by kernel_rfl) (.pointer (some ⟨gl, k, none⟩)) (by go_simp) ?_
  simp only [Act.put, List.setIfInBounds_toArray, List.set_cons_zero, List.set_cons_succ]
  refine WL.val (by kernel_rfl) (.slice ra rn rc) (by go_simp) ?_
  simp only [Act.put, List.setIfInBounds_toArray, List.set_cons_zero, List.set_cons_succ]
  clear c_ d_
  refine WL.callF (by kernel_rfl) 46 _ _ rfl Tryd.in46 #[.slice ra rn rc] (by simp [Act.eval]) ?_
  refine (cpy_any w _ b (HM.out.lk a (List.mem_of_getElem? Ha.out) |>.rows _ (List.mem_of_getElem? Hp.out)).1.row (by have := HL2.out; omega)).mono ?_
  rintro e w1 ⟨u, rfl, k1, k2, k3⟩
  refine ⟨_, rfl, ?_⟩
  have O1 := Keep.mk k1
  have F1 := Keep.mk k2
  have b1 := Keep.mk k3
  obtain ⟨gu, uc, hu, hcu, hcs⟩ : ∃ gu uc, u = .slice (some ⟨gu, 0, none⟩) rn uc ∧ (rnd m rn ≤ uc) ∧ w1.cell? ⟨gu, rnd m rn, none⟩ = some (.int .u8 (b.getD (rnd m rn) 0)) := by
    rcases k1.2 with ⟨_, e⟩ | ⟨gu, uc, cur, e, _, h3, h4, h5, h6, h7⟩
    · have := Hbl.out; omega
    · refine ⟨gu, uc, by rw [e, Hbl.out], by have := Hbl.out; omega, ?_⟩
      have e2 : (cur.toList.take (b.length * 1))[rnd m rn]? = some (.int .u8 (b.getD (rnd m rn) 0)) := by
        have hlt : rnd m rn < b.length := by rw [Hbl.out]; exact hrd
        rw [h7, List.getD_eq_getElem?_getD, List.getElem?_eq_getElem hlt]
        simp [bv, List.getElem?_eq_getElem hlt]
      rw [List.getElem?_take, if_pos (by rw [Hbl.out]; omega), Array.getElem?_toList] at e2
      exact (show Blk w1 gu 5 cur from h3).c _ e2
  subst hu
  clear k1 k2 k3
  simp only [Act.put, List.setIfInBounds_toArray, List.set_cons_zero, List.set_cons_succ]
  refine WL.val (by kernel_rfl) (.slice (some ⟨gu, 0, none⟩) rn uc) (by go_simp) ?_
  simp only [Act.put, List.setIfInBounds_toArray, List.set_cons_zero, List.set_cons_succ]
  refine WL.nil ?_
  refine hK8 _ _ ?_
  refine wp_seq_k fun K9 hK9 => ?_
  refine wp_region_list (WL.out ?_)
  refine WL.val (by kernel_rfl) (.slice (some ⟨gu, 0, none⟩) rn uc) (by go_simp) ?_
  simp only [Act.put, List.setIfInBounds_toArray, List.set_cons_zero, List.set_cons_succ]
  refine WL.val (by kernel_rfl) (.int .i64 m) (by go_simp) ?_
  simp only [Act.put, List.setIfInBounds_toArray, List.set_cons_zero, List.set_cons_succ]
  refine WL.val (by kernel_rfl) (.int .i64 (rn : Int)) (by go_simp) ?_
  simp only [Act.put, List.setIfInBounds_toArray, List.set_cons_zero, List.set_cons_succ]
  refine WL.callF (by kernel_rfl) 47 _ _ rfl Tryd.in47 #[.int .i64 m, .int .i64 (rn : Int)] (by simp [Act.eval]) ?_
  refine (round_any w1 m rn hr1 (by omega)).mono ?_
  rintro e w1_ ⟨rfl, hw_⟩
  refine ⟨_, rfl, ?_⟩
  have hw_ := hw_.symm
  subst hw_
  simp only [Act.put, List.setIfInBounds_toArray, List.set_cons_zero, List.set_cons_succ]
  refine WL.val (by kernel_rfl) (.pointer (some ⟨gu, (rnd m rn), none⟩)) (by go_simp) ?_
  simp only [Act.put, List.setIfInBounds_toArray, List.set_cons_zero, List.set_cons_succ]
  refine WL.val (by kernel_rfl) (.int .u8 (b.getD (rnd m rn) 0)) (by go_simp) ?_
  simp only [Act.put, List.setIfInBounds_toArray, List.set_cons_zero, List.set_cons_succ]
  refine WL.val (by kernel_rfl) (.int .u8 by_) (by go_simp) ?_
  simp only [Act.put, List.setIfInBounds_toArray, List.set_cons_zero, List.set_cons_succ]
  refine WL.val (by kernel_rfl) (.int .u8 (xor8 (b.getD (rnd m rn) 0) by_)) (by go_simp) ?_
  simp only [Act.put, List.setIfInBounds_toArray, List.set_cons_zero, List.set_cons_succ]
  refine WL.val (by kernel_rfl) (.pointer (some ⟨gu, (rnd m rn), none⟩)) (by go_simp) ?_
  simp only [Act.put, List.setIfInBounds_toArray, List.set_cons_zero, List.set_cons_succ]
  have f_u := (show ∃ cur, Blk w1 gu 5 cur from by obtain ⟨gu', uc', cur, e, _, h3, _⟩ := O1.out.2.resolve_left (by intro e; cases e.1); injection e with e; injection e with e; injection e with e; subst e; exact ⟨cur, h3⟩)
  obtain ⟨cur, hcur⟩ := f_u
  have f_o := hcur.frozen (rnd m rn)
  refine WL.cell (by kernel_rfl) (w1.setCell ⟨gu, rnd m rn, none⟩ (.int .u8 (xor8 (b.getD (rnd m rn) 0) by_))) (by go_simp) ?_
  clear f_o hcs
  have O2 := Keep.mk (O1.out.set (rnd m rn) (xor8 (b.getD (rnd m rn) 0) by_))
  have b2 : Keep (Below w.heap.size w (w1.setCell ⟨gu, rnd m rn, none⟩ (.int .u8 (xor8 (b.getD (rnd m rn) 0) by_)))) := ⟨b1.out.trans ((Grown.setCell w1 gu (rnd m rn) _ (S := fun k => k = gu) fun _ => rfl).to_below (fun k hk e => by have := F1.out gu rfl; omega) b1.out.size)⟩
  generalize w1.setCell ⟨gu, rnd m rn, none⟩ (.int .u8 (xor8 (b.getD (rnd m rn) 0) by_)) = w2 at *
  clear hcur
  have c_ := HCd.out w2 b2.out
  simp only [Act.put]
  refine WL.nil ?_
  refine hK9 _ _ ?_
  refine wp_seq_k fun K10 hK10 => ?_
  refine wp_region_list (WL.out ?_)
  refine WL.val (by kernel_rfl) (.pointer (some ⟨g, i_, none⟩)) (by go_simp) ?_
  simp only [Act.put, List.setIfInBounds_toArray, List.set_cons_zero, List.set_cons_succ]
  refine WL.val (by kernel_rfl) (.pointer (some ⟨g, i_, none⟩)) (by go_simp) ?_
  simp only [Act.put, List.setIfInBounds_toArray, List.set_cons_zero, List.set_cons_succ]
  refine WL.val (by kernel_rfl) (.pointer (some ⟨g, i_, none⟩)) (by go_simp) ?_
  simp only [Act.put, List.setIfInBounds_toArray, List.set_cons_zero, List.set_cons_succ]
  refine WL.val (by kernel_rfl) (.slice (some ⟨gl, 0, none⟩) n cap) (by go_simp) ?_
  simp only [Act.put, List.setIfInBounds_toArray, List.set_cons_zero, List.set_cons_succ]
  refine WL.val (by kernel_rfl) (.int .i64 (k : Int)) (by go_simp) ?_
  simp only [Act.put, List.setIfInBounds_toArray, List.set_cons_zero, List.set_cons_succ]
  refine WL.val (by kernel_rfl) (.slice (some ⟨gu, 0, none⟩) rn uc) (by go_simp) ?_
  simp only [Act.put, List.setIfInBounds_toArray, List.set_cons_zero, List.set_cons_succ]
  refine WL.val (by kernel_rfl) (.pointer (some ⟨gl, k, none⟩)) (by go_simp) ?_
  simp only [Act.put, List.setIfInBounds_toArray, List.set_cons_zero, List.set_cons_succ]
  clear c_
  have N9 : Keep (RmN w x g N Ks (Ks.set i_ ⟨a.v, a.R.set k (.slice (some ⟨gu, 0, none⟩) rn uc, b.set (rnd m rn) (xor8 (b.getD (rnd m rn) 0) by_))⟩) (w2.setCell ⟨gl, k, none⟩ (.slice (some ⟨gu, 0, none⟩) rn uc))) := ⟨HM.out.put Ha.out Hv.out Hn.out b2.out O2.out F1.out (by rw [List.length_set]; exact HL2.out) HB2.out⟩
  obtain ⟨cur, hcur⟩ : ∃ cur, Blk w2 gl 39 cur := by
    obtain ⟨gl', cap', e1, _, _, _, h⟩ := ((HM.out.below b2.out).lk a (List.mem_of_getElem? Ha.out)).cells (by rw [Hn.out]; omega)
    rw [Hv.out] at e1
    injection e1 with e1
    injection e1 with e1
    injection e1 with e1
    subst e1
    exact h
  have f_o := hcur.frozen k
  have c_o : w2.cell? ⟨gl, k, none⟩ = some (.slice ra rn rc) := HCl.out w2 b2.out k _ Hp.out
  refine WL.cell (by kernel_rfl) (w2.setCell ⟨gl, k, none⟩ (.slice (some ⟨gu, 0, none⟩) rn uc)) (by go_simp) ?_
  clear f_o c_o hcur
  generalize w2.setCell ⟨gl, k, none⟩ (.slice (some ⟨gu, 0, none⟩) rn uc) = w3 at *
  simp only [Act.put]
  refine WL.nil ?_
  refine hK10 _ _ ?_
  refine wp_seq_k fun K11 hK11 => ?_
  refine wp_region_list (WL.out ?_)
  refine WL.val (by kernel_rfl) (.int .i64 0) (by go_simp) ?_
  simp only [Act.put, List.setIfInBounds_toArray, List.set_cons_zero, List.set_cons_succ]
  refine WL.nil ?_
  refine hK11 _ _ ?_
  refine wp_ret ?_
  go_ret
  exact ⟨rfl, _, N9.out⟩
theorem xor_rng (a b : Int) (h1 : 0 ≤ a ∧ a < 256) (h2 : 0 ≤ b ∧ b < 256) : 0 ≤ bits .xor .u8 a b ∧ bits .xor .u8 a b < 256 := by
  rw [u8_xor a b h1.1 h1.2 h2.1 h2.2]
  have : a.toNat ^^^ b.toNat < 2 ^ 8 := Nat.xor_lt_two_pow (by omega) (by omega)
  omega
theorem Byts.set {a : List Int} (h : Byts a) (n : Nat) {c : Int} (hc : 0 ≤ c ∧ c < 256) : Byts (a.set n c) := fun x hx => by
  rcases List.mem_or_eq_of_mem_set hx with hx | rfl
  · exact h x hx
  · exact hc
def flE (N : Nat) (K : List Lk) (f t i by_ : Int) : Int := if nmE N K f t i = 0 then (if by_ = 0 ∨ (((lkOf K f t).R[i.toNat]?.map fun p => p.2.length).getD 0) = 0 then 1 else 0) else nmE N K f t i
theorem rflip_any (w : World) (x g N : Nat) (K : List Lk) (f t i m by_ : Int) (h : RmAt w x g N K) (hby : 0 ≤ by_ ∧ by_ < 256) : Calls Tryd.prog 29 #[.pointer (some ⟨x, 0, none⟩), .int .i64 f, .int .i64 t, .int .i64 i, .int .i64 m, .int .u8 by_] w fun e w' => e = .returned (.int .i64 (flE N K f t i by_)) ∧ ∃ K', RmN w x g N K K' w' ∧ (flE N K f t i by_ ≠ 0 → K' = K) ∧ (flE N K f t i by_ = 0 → ∃ p u, (lkOf K f t).R[i.toNat]? = some p ∧ K' = K.set (ix f t) ⟨(lkOf K f t).v, (lkOf K f t).R.set i.toNat (u, p.2.set (rnd m p.2.length) (xor8 (p.2.getD (rnd m p.2.length) 0) by_))⟩) := by
  unfold flE
  by_cases he : nmE N K f t i = 0
  · obtain ⟨k, n, gl, cap, rfl, h1, h2, h3, h4, h5, h6, h7, h8⟩ := h.open_ he
    have her := he
    rw [if_pos he, Int.toNat_natCast]
    have hp := List.getElem?_eq_getElem (show k < (lkOf K f t).R.length by omega)
    have hr := ((h.lk _ (List.mem_of_getElem? h6)).rows _ (List.mem_of_getElem? hp))
    obtain ⟨p, hpe⟩ : ∃ p, p = (lkOf K f t).R[k]'(by omega) := ⟨_, rfl⟩
    rw [← hpe] at hp hr
    obtain ⟨pv, b⟩ := p
    obtain ⟨ra, rc, e⟩ := row_form hr.1.row
    simp only at e hr
    subst e
    rw [hp]
    simp only [Option.map_some, Option.getD_some]
    by_cases hb : by_ = 0
    · rw [if_pos (.inl hb)]
      exact (fl_by w x g N K f t m by_ k _ n cap gl _ rc ra b _ ⟨h⟩ ⟨her⟩ ⟨rfl⟩ ⟨h6⟩ ⟨h5⟩ ⟨h2⟩ ⟨hp⟩ ⟨hr.2.1⟩ ⟨hr.2.2⟩ h1 hb ⟨h7⟩ ⟨h8⟩).mono fun e w' ⟨e1, e2⟩ => ⟨e1, K, by rw [e2]; exact RmN.refl h, fun _ => rfl, fun e => by simp at e⟩
    · by_cases hl : b.length = 0
      · rw [if_pos (.inr hl)]
        exact (fl_len w x g N K f t m by_ k _ n cap gl _ rc ra b _ ⟨h⟩ ⟨her⟩ ⟨rfl⟩ ⟨h6⟩ ⟨h5⟩ ⟨h2⟩ ⟨hp⟩ ⟨hr.2.1⟩ ⟨hr.2.2⟩ h1 hb hl ⟨h7⟩ ⟨h8⟩).mono fun e w' ⟨e1, e2⟩ => ⟨e1, K, by rw [e2]; exact RmN.refl h, fun _ => rfl, fun e => by simp at e⟩
      · rw [if_neg (fun e => e.elim hb hl)]
        have hg := hr.2.2.getD (rnd m b.length)
        exact (fl_ok w x g N K f t m by_ k _ n cap gl _ rc ra b _ ⟨h⟩ ⟨her⟩ ⟨rfl⟩ ⟨h6⟩ ⟨h5⟩ ⟨h2⟩ ⟨hp⟩ ⟨hr.2.1⟩ ⟨hr.2.2⟩ h1 ⟨rfl⟩ (by omega) hr.2.1 hb ⟨hr.2.2.set _ (xor_rng _ _ hg hby)⟩ hby hg ⟨h7⟩ ⟨h8⟩).mono fun e w' ⟨e1, u, e2⟩ => ⟨e1, _, e2, fun e => absurd rfl e, fun _ => ⟨_, u, rfl, rfl⟩⟩
  · rw [if_neg he]
    exact (fl_err w x g N K f t i m by_ ⟨h⟩ _ ⟨rfl⟩ (by simpa using he)).mono fun e w' ⟨e1, e2⟩ => ⟨e1, K, by rw [e2]; exact RmN.refl h, fun _ => rfl, fun e => absurd e he⟩

set_option maxRecDepth 8000 in
theorem sp_err (w : World) (x g N : Nat) (K : List Lk) (f t i : Int) (j : Int) (HM : Keep (RmAt w x g N K)) (er : Int) (her : Keep (nmE N K f t i = er)) (he : (er != 0) = true) : Calls Tryd.prog 28 #[.pointer (some ⟨x, 0, none⟩), .int .i64 f, .int .i64 t, .int .i64 i, .int .i64 j] w fun e w' => e = .returned (.int .i64 er) ∧ w' = w := by
  go_enter Tryd.func28, Tryd.ntmps28
  refine wp_seq_k fun K1 hK1 => ?_
  refine wp_region_list (WL.out ?_)
  refine WL.val (by kernel_rfl) (.int .i64 0) (by go_simp) ?_
  simp only [Act.put, List.setIfInBounds_toArray, List.set_cons_zero, List.set_cons_succ]
  refine WL.nil ?_
  refine hK1 _ _ ?_
  refine wp_seq_k fun K2 hK2 => ?_
  refine wp_region_list (WL.out ?_)
  refine WL.val (by kernel_rfl) (.pointer (some ⟨x, 0, none⟩)) (by go_simp) ?_
  simp only [Act.put, List.setIfInBounds_toArray, List.set_cons_zero, List.set_cons_succ]
  refine WL.val (by kernel_rfl) (.int .i64 f) (by go_simp) ?_
  simp only [Act.put, List.setIfInBounds_toArray, List.set_cons_zero, List.set_cons_succ]
  refine WL.val (by kernel_rfl) (.int .i64 t) (by go_simp) ?_
  simp only [Act.put, List.setIfInBounds_toArray, List.set_cons_zero, List.set_cons_succ]
  refine WL.val (by kernel_rfl) (.int .i64 i) (by go_simp) ?_
  simp only [Act.put, List.setIfInBounds_toArray, List.set_cons_zero, List.set_cons_succ]
  refine WL.callF (by kernel_rfl) 45 _ _ rfl Tryd.in45 #[.pointer (some ⟨x, 0, none⟩), .int .i64 f, .int .i64 t, .int .i64 i] (by simp [Act.eval]) ?_
  refine (named_any w x g N K f t i HM.out).mono ?_
  rintro e w1_ ⟨q_, rfl, hq_, hw_⟩
  refine ⟨_, rfl, ?_⟩
  have hw_ := hw_.symm
  subst hw_
  rw [her.out] at hq_ ⊢
  clear hq_
  simp only [Act.put, List.setIfInBounds_toArray, List.set_cons_zero, List.set_cons_succ]
  refine WL.val (by kernel_rfl) (.tuple #[q_, .int .i64 er]) (by go_simp) ?_
  simp only [Act.put, List.setIfInBounds_toArray, List.set_cons_zero, List.set_cons_succ]
  refine WL.val (by kernel_rfl) (q_) (by go_simp) ?_
  simp only [Act.put, List.setIfInBounds_toArray, List.set_cons_zero, List.set_cons_succ]
  refine WL.val (by kernel_rfl) (.int .i64 er) (by go_simp) ?_
  simp only [Act.put, List.setIfInBounds_toArray, List.set_cons_zero, List.set_cons_succ]
  refine WL.val (by kernel_rfl) (q_) (by go_simp) ?_
  simp only [Act.put, List.setIfInBounds_toArray, List.set_cons_zero, List.set_cons_succ]
  refine WL.val (by kernel_rfl) (.int .i64 er) (by go_simp) ?_
  simp only [Act.put, List.setIfInBounds_toArray, List.set_cons_zero, List.set_cons_succ]
  refine WL.nil ?_
  refine hK2 _ _ ?_
  refine wp_seq_k fun K3 hK3 => ?_
  refine wp_seq_k fun K4 hK4 => ?_
  refine wp_region_list (WL.out ?_)
  refine WL.val (by kernel_rfl) (.int .i64 er) (by go_simp) ?_
  simp only [Act.put, List.setIfInBounds_toArray, List.set_cons_zero, List.set_cons_succ]
  refine WL.val (by kernel_rfl) (.bool true) (by go_simp) ?_
  simp only [Act.put, List.setIfInBounds_toArray, List.set_cons_zero, List.set_cons_succ]
  refine WL.nil ?_
  refine hK4 _ _ ?_
  refine wp_cond_true rfl ?_
  refine wp_seq_k fun K5 hK5 => ?_
  refine wp_region_list (WL.out ?_)
  refine WL.val (by kernel_rfl) (.int .i64 er) (by go_simp) ?_
  simp only [Act.put, List.setIfInBounds_toArray, List.set_cons_zero, List.set_cons_succ]
  refine WL.val (by kernel_rfl) (.int .i64 er) (by go_simp) ?_
  simp only [Act.put, List.setIfInBounds_toArray, List.set_cons_zero, List.set_cons_succ]
  refine WL.nil ?_
  refine hK5 _ _ ?_
  refine wp_ret ?_
  go_ret
  exact ⟨rfl, rfl⟩
set_option maxRecDepth 8000 in
theorem sp_er2 (w : World) (x g N : Nat) (Ks : List Lk) (f t i j : Int) (HM : Keep (RmAt w x g N Ks)) (er : Int) (h0 : Keep (nmE N Ks f t i = 0)) (her : Keep (nmE N Ks f t j = er)) (he : (er != 0) = true) : Calls Tryd.prog 28 #[.pointer (some ⟨x, 0, none⟩), .int .i64 f, .int .i64 t, .int .i64 i, .int .i64 j] w fun e w' => e = .returned (.int .i64 er) ∧ w' = w := by
  go_enter Tryd.func28, Tryd.ntmps28
  refine wp_seq_k fun K1 hK1 => ?_
  refine wp_region_list (WL.out ?_)
  refine WL.val (by kernel_rfl) (.int .i64 0) (by go_simp) ?_
  simp only [Act.put, List.setIfInBounds_toArray, List.set_cons_zero, List.set_cons_succ]
  refine WL.nil ?_
  refine hK1 _ _ ?_
  refine wp_seq_k fun K2 hK2 => ?_
  refine wp_region_list (WL.out ?_)
  refine WL.val (by kernel_rfl) (.pointer (some ⟨x, 0, none⟩)) (by go_simp) ?_
  simp only [Act.put, List.setIfInBounds_toArray, List.set_cons_zero, List.set_cons_succ]
  refine WL.val (by kernel_rfl) (.int .i64 f) (by go_simp) ?_
  simp only [Act.put, List.setIfInBounds_toArray, List.set_cons_zero, List.set_cons_succ]
  refine WL.val (by kernel_rfl) (.int .i64 t) (by go_simp) ?_
  simp only [Act.put, List.setIfInBounds_toArray, List.set_cons_zero, List.set_cons_succ]
  refine WL.val (by kernel_rfl) (.int .i64 i) (by go_simp) ?_
  simp only [Act.put, List.setIfInBounds_toArray, List.set_cons_zero, List.set_cons_succ]
  refine WL.callF (by kernel_rfl) 45 _ _ rfl Tryd.in45 #[.pointer (some ⟨x, 0, none⟩), .int .i64 f, .int .i64 t, .int .i64 i] (by simp [Act.eval]) ?_
  refine (named_any w x g N Ks f t i HM.out).mono ?_
  rintro e w1_ ⟨q_, rfl, hq_, hw_⟩
  refine ⟨_, rfl, ?_⟩
  have hw_ := hw_.symm
  subst hw_
  rw [h0.out] at hq_ ⊢
  clear hq_
  simp only [Act.put, List.setIfInBounds_toArray, List.set_cons_zero, List.set_cons_succ]
  refine WL.val (by kernel_rfl) (.tuple #[q_, .int .i64 0]) (by go_simp) ?_
  simp only [Act.put, List.setIfInBounds_toArray, List.set_cons_zero, List.set_cons_succ]
  refine WL.val (by kernel_rfl) (q_) (by go_simp) ?_
  simp only [Act.put, List.setIfInBounds_toArray, List.set_cons_zero, List.set_cons_succ]
  refine WL.val (by kernel_rfl) (.int .i64 0) (by go_simp) ?_
  simp only [Act.put, List.setIfInBounds_toArray, List.set_cons_zero, List.set_cons_succ]
  refine WL.val (by kernel_rfl) (q_) (by go_simp) ?_
  simp only [Act.put, List.setIfInBounds_toArray, List.set_cons_zero, List.set_cons_succ]
  refine WL.val (by kernel_rfl) (.int .i64 0) (by go_simp) ?_
  simp only [Act.put, List.setIfInBounds_toArray, List.set_cons_zero, List.set_cons_succ]
  refine WL.nil ?_
  refine hK2 _ _ ?_
  refine wp_seq_k fun K3 hK3 => ?_
  refine wp_seq_k fun K4 hK4 => ?_
  refine wp_region_list (WL.out ?_)
  refine WL.val (by kernel_rfl) (.int .i64 0) (by go_simp) ?_
  simp only [Act.put, List.setIfInBounds_toArray, List.set_cons_zero, List.set_cons_succ]
  refine WL.val (by kernel_rfl) (.bool false) (by go_simp) ?_
  simp only [Act.put, List.setIfInBounds_toArray, List.set_cons_zero, List.set_cons_succ]
  refine WL.nil ?_
  refine hK4 _ _ ?_
  refine wp_cond_false rfl ?_
  refine wp_skip ?_
  refine hK3 _ _ ?_
  refine wp_seq_k fun K5 hK5 => ?_
  refine wp_region_list (WL.out ?_)
  refine WL.val (by kernel_rfl) (.pointer (some ⟨x, 0, none⟩)) (by go_simp) ?_
  simp only [Act.put, List.setIfInBounds_toArray, List.set_cons_zero, List.set_cons_succ]
  refine WL.val (by kernel_rfl) (.int .i64 f) (by go_simp) ?_
  simp only [Act.put, List.setIfInBounds_toArray, List.set_cons_zero, List.set_cons_succ]
  refine WL.val (by kernel_rfl) (.int .i64 t) (by go_simp) ?_
  simp only [Act.put, List.setIfInBounds_toArray, List.set_cons_zero, List.set_cons_succ]
  refine WL.val (by kernel_rfl) (.int .i64 j) (by go_simp) ?_
  simp only [Act.put, List.setIfInBounds_toArray, List.set_cons_zero, List.set_cons_succ]
  refine WL.callF (by kernel_rfl) 45 _ _ rfl Tryd.in45 #[.pointer (some ⟨x, 0, none⟩), .int .i64 f, .int .i64 t, .int .i64 j] (by simp [Act.eval]) ?_
  refine (named_any w x g N Ks f t j HM.out).mono ?_
  rintro e w1_ ⟨q2, rfl, hq_, hw_⟩
  refine ⟨_, rfl, ?_⟩
  have hw_ := hw_.symm
  subst hw_
  rw [her.out] at hq_ ⊢
  clear hq_
  simp only [Act.put, List.setIfInBounds_toArray, List.set_cons_zero, List.set_cons_succ]
  refine WL.val (by kernel_rfl) (.tuple #[q2, .int .i64 er]) (by go_simp) ?_
  simp only [Act.put, List.setIfInBounds_toArray, List.set_cons_zero, List.set_cons_succ]
  refine WL.val (by kernel_rfl) (q2) (by go_simp) ?_
  simp only [Act.put, List.setIfInBounds_toArray, List.set_cons_zero, List.set_cons_succ]
  refine WL.val (by kernel_rfl) (.int .i64 er) (by go_simp) ?_
  simp only [Act.put, List.setIfInBounds_toArray, List.set_cons_zero, List.set_cons_succ]
  refine WL.val (by kernel_rfl) (.int .i64 er) (by go_simp) ?_
  simp only [Act.put, List.setIfInBounds_toArray, List.set_cons_zero, List.set_cons_succ]
  refine WL.nil ?_
  refine hK5 _ _ ?_
  refine wp_seq_k fun K6 hK6 => ?_
  refine wp_seq_k fun K7 hK7 => ?_
  refine wp_region_list (WL.out ?_)
  refine WL.val (by kernel_rfl) (.int .i64 er) (by go_simp) ?_
  simp only [Act.put, List.setIfInBounds_toArray, List.set_cons_zero, List.set_cons_succ]
  refine WL.val (by kernel_rfl) (.bool true) (by go_simp) ?_
  simp only [Act.put, List.setIfInBounds_toArray, List.set_cons_zero, List.set_cons_succ]
  refine WL.nil ?_
  refine hK7 _ _ ?_
  refine wp_cond_true rfl ?_
  refine wp_seq_k fun K8 hK8 => ?_
  refine wp_region_list (WL.out ?_)
  refine WL.val (by kernel_rfl) (.int .i64 er) (by go_simp) ?_
  simp only [Act.put, List.setIfInBounds_toArray, List.set_cons_zero, List.set_cons_succ]
  refine WL.val (by kernel_rfl) (.int .i64 er) (by go_simp) ?_
  simp only [Act.put, List.setIfInBounds_toArray, List.set_cons_zero, List.set_cons_succ]
  refine WL.nil ?_
  refine hK8 _ _ ?_
  refine wp_ret ?_
  go_ret
  exact ⟨rfl, rfl⟩
set_option maxRecDepth 8000 in
set_option maxHeartbeats 1000000 in
theorem sp_ok (w : World) (x g N : Nat) (Ks : List Lk) (f t : Int) (k l i_ n cap gl rn rc sn_ sc : Nat) (ra sa : Option Addr) (b d : List Int) (a : Lk) (HM : Keep (RmAt w x g N Ks)) (her : Keep (nmE N Ks f t (k : Int) = 0)) (Hix : Keep (i_ = ix f t)) (Ha : Keep (Ks[i_]? = some a)) (Hv : Keep (a.v = .slice (some ⟨gl, 0, none⟩) n cap)) (Hn : Keep (a.R.length = n)) (Hp : Keep (a.R[k]? = some (.slice ra rn rc, b))) (HL2 : Keep (b.length ≤ 2097194)) (HBy : Keep (Byts b)) (hk : k < n) (her2 : Keep (nmE N Ks f t (l : Int) = 0)) (Hq : Keep (a.R[l]? = some (.slice sa sn_ sc, d))) (hl : l < n)
    (HCd : Keep (∀ wx, Below w.heap.size w wx → wx.cell? ⟨g, i_, none⟩ = some (.slice (some ⟨gl, 0, none⟩) n cap))) (HCl : Keep (∀ wx, Below w.heap.size w wx → ∀ (j : Nat) (p : Value × List Int), a.R[j]? = some p → wx.cell? ⟨gl, j, none⟩ = some p.1)) : Calls Tryd.prog 28 #[.pointer (some ⟨x, 0, none⟩), .int .i64 f, .int .i64 t, .int .i64 (k : Int), .int .i64 (l : Int)] w fun e w' => e = .returned (.int .i64 0) ∧ RmN w x g N Ks (Ks.set i_ ⟨a.v, (a.R.set k (.slice sa sn_ sc, d)).set l (.slice ra rn rc, b)⟩) w' := by
  have hkn : (k : Int) < (n : Int) := by omega
  have hln : (l : Int) < (n : Int) := by omega
  have c_ := HCd.out w (Below.refl _ _)
  have d_ : w.cell? ⟨gl, k, none⟩ = some (.slice ra rn rc) := HCl.out w (Below.refl _ _) k _ Hp.out
  go_enter Tryd.func28, Tryd.ntmps28
  refine wp_seq_k fun K1 hK1 => ?_
  refine wp_region_list (WL.out ?_)
  refine WL.val (by kernel_rfl) (.int .i64 0) (by go_simp) ?_
  simp only [Act.put, List.setIfInBounds_toArray, List.set_cons_zero, List.set_cons_succ]
  refine WL.nil ?_
  refine hK1 _ _ ?_
  refine wp_seq_k fun K2 hK2 => ?_
  refine wp_region_list (WL.out ?_)
  refine WL.val (by kernel_rfl) (.pointer (some ⟨x, 0, none⟩)) (by go_simp) ?_
  simp only [Act.put, List.setIfInBounds_toArray, List.set_cons_zero, List.set_cons_succ]
  refine WL.val (by kernel_rfl) (.int .i64 f) (by go_simp) ?_
  simp only [Act.put, List.setIfInBounds_toArray, List.set_cons_zero, List.set_cons_succ]
  refine WL.val (by kernel_rfl) (.int .i64 t) (by go_simp) ?_
  simp only [Act.put, List.setIfInBounds_toArray, List.set_cons_zero, List.set_cons_succ]
  refine WL.val (by kernel_rfl) (.int .i64 (k : Int)) (by go_simp) ?_
  simp only [Act.put, List.setIfInBounds_toArray, List.set_cons_zero, List.set_cons_succ]
  refine WL.callF (by kernel_rfl) 45 _ _ rfl Tryd.in45 #[.pointer (some ⟨x, 0, none⟩), .int .i64 f, .int .i64 t, .int .i64 (k : Int)] (by simp [Act.eval]) ?_
  refine (named_any w x g N Ks f t (k : Int) HM.out).mono ?_
  rintro e w1_ ⟨q_, rfl, hq_, hw_⟩
  refine ⟨_, rfl, ?_⟩
  have hw_ := hw_.symm
  subst hw_
  rw [her.out] at hq_ ⊢
  obtain rfl := hq_ rfl
  rw [← Hix.out]
  simp only [Act.put, List.setIfInBounds_toArray, List.set_cons_zero, List.set_cons_succ]
  refine WL.val (by kernel_rfl) (.tuple #[.pointer (some ⟨g, i_, none⟩), .int .i64 0]) (by go_simp) ?_
  simp only [Act.put, List.setIfInBounds_toArray, List.set_cons_zero, List.set_cons_succ]
  refine WL.val (by kernel_rfl) (.pointer (some ⟨g, i_, none⟩)) (by go_simp) ?_
  simp only [Act.put, List.setIfInBounds_toArray, List.set_cons_zero, List.set_cons_succ]
  refine WL.val (by kernel_rfl) (.int .i64 0) (by go_simp) ?_
  simp only [Act.put, List.setIfInBounds_toArray, List.set_cons_zero, List.set_cons_succ]
  refine WL.val (by kernel_rfl) (.pointer (some ⟨g, i_, none⟩)) (by go_simp) ?_
  simp only [Act.put, List.setIfInBounds_toArray, List.set_cons_zero, List.set_cons_succ]
  refine WL.val (by kernel_rfl) (.int .i64 0) (by go_simp) ?_
  simp only [Act.put, List.setIfInBounds_toArray, List.set_cons_zero, List.set_cons_succ]
  refine WL.nil ?_
  refine hK2 _ _ ?_
  refine wp_seq_k fun K3 hK3 => ?_
  refine wp_seq_k fun K4 hK4 => ?_
  refine wp_region_list (WL.out ?_)
  refine WL.val (by kernel_rfl) (.int .i64 0) (by go_simp) ?_
  simp only [Act.put, List.setIfInBounds_toArray, List.set_cons_zero, List.set_cons_succ]
  refine WL.val (by kernel_rfl) (.bool false) (by go_simp) ?_
  simp only [Act.put, List.setIfInBounds_toArray, List.set_cons_zero, List.set_cons_succ]
  refine WL.nil ?_
  refine hK4 _ _ ?_
  refine wp_cond_false rfl ?_
  refine wp_skip ?_
  refine hK3 _ _ ?_
  refine wp_seq_k fun K5 hK5 => ?_
  refine wp_region_list (WL.out ?_)
  refine WL.val (by kernel_rfl) (.pointer (some ⟨x, 0, none⟩)) (by go_simp) ?_
  simp only [Act.put, List.setIfInBounds_toArray, List.set_cons_zero, List.set_cons_succ]
  refine WL.val (by kernel_rfl) (.int .i64 f) (by go_simp) ?_
  simp only [Act.put, List.setIfInBounds_toArray, List.set_cons_zero, List.set_cons_succ]
  refine WL.val (by kernel_rfl) (.int .i64 t) (by go_simp) ?_
  simp only [Act.put, List.setIfInBounds_toArray, List.set_cons_zero, List.set_cons_succ]
  refine WL.val (by kernel_rfl) (.int .i64 (l : Int)) (by go_simp) ?_
  simp only [Act.put, List.setIfInBounds_toArray, List.set_cons_zero, List.set_cons_succ]
  refine WL.callF (by kernel_rfl) 45 _ _ rfl Tryd.in45 #[.pointer (some ⟨x, 0, none⟩), .int .i64 f, .int .i64 t, .int .i64 (l : Int)] (by simp [Act.eval]) ?_
  refine (named_any w x g N Ks f t (l : Int) HM.out).mono ?_
  rintro e w1_ ⟨q2, rfl, hq_, hw_⟩
  refine ⟨_, rfl, ?_⟩
  have hw_ := hw_.symm
  subst hw_
  rw [her2.out] at hq_ ⊢
  clear hq_
  simp only [Act.put, List.setIfInBounds_toArray, List.set_cons_zero, List.set_cons_succ]
  refine WL.val (by kernel_rfl) (.tuple #[q2, .int .i64 0]) (by go_simp) ?_
  simp only [Act.put, List.setIfInBounds_toArray, List.set_cons_zero, List.set_cons_succ]
  refine WL.val (by kernel_rfl) (q2) (by go_simp) ?_
  simp only [Act.put, List.setIfInBounds_toArray, List.set_cons_zero, List.set_cons_succ]
  refine WL.val (by kernel_rfl) (.int .i64 0) (by go_simp) ?_
  simp only [Act.put, List.setIfInBounds_toArray, List.set_cons_zero, List.set_cons_succ]
  refine WL.val (by kernel_rfl) (.int .i64 0) (by go_simp) ?_
  simp only [Act.put, List.setIfInBounds_toArray, List.set_cons_zero, List.set_cons_succ]
  refine WL.nil ?_
  refine hK5 _ _ ?_
  refine wp_seq_k fun K6 hK6 => ?_
  refine wp_seq_k fun K7 hK7 => ?_
  refine wp_region_list (WL.out ?_)
  refine WL.val (by kernel_rfl) (.int .i64 0) (by go_simp) ?_
  simp only [Act.put, List.setIfInBounds_toArray, List.set_cons_zero, List.set_cons_succ]
  refine WL.val (by kernel_rfl) (.bool false) (by go_simp) ?_
  simp only [Act.put, List.setIfInBounds_toArray, List.set_cons_zero, List.set_cons_succ]
  refine WL.nil ?_
  refine hK7 _ _ ?_
  refine wp_cond_false rfl ?_
  refine wp_skip ?_
  refine hK6 _ _ ?_
  refine wp_seq_k fun K8 hK8 => ?_
  refine wp_region_list (WL.out ?_)
  refine WL.val (by kernel_rfl) (.pointer (some ⟨g, i_, none⟩)) (by go_simp) ?_
  simp only [Act.put, List.setIfInBounds_toArray, List.set_cons_zero, List.set_cons_succ]
  refine WL.val (by kernel_rfl) (.pointer (some ⟨g, i_, none⟩)) (by go_simp) ?_
  simp only [Act.put, List.setIfInBounds_toArray, List.set_cons_zero, List.set_cons_succ]
  refine WL.val (by kernel_rfl) (.pointer (some ⟨g, i_, none⟩)) (by go_simp) ?_
  simp only [Act.put, List.setIfInBounds_toArray, List.set_cons_zero, List.set_cons_succ]
  refine WL.val (by kernel_rfl) (.slice (some ⟨gl, 0, none⟩) n cap) (by go_simp) ?_
  simp only [Act.put, List.setIfInBounds_toArray, List.set_cons_zero, List.set_cons_succ]
  refine WL.val (by kernel_rfl) (.int .i64 (k : Int)) (by go_simp) ?_
  simp only [Act.put, List.setIfInBounds_toArray, List.set_cons_zero, List.set_cons_succ]
  refine WL.val (by kernel_rfl) (.pointer (some ⟨gl, k, none⟩)) (by go_simp) ?_
  simp only [Act.put, List.setIfInBounds_toArray, List.set_cons_zero, List.set_cons_succ]
  refine WL.val (by kernel_rfl) (.slice ra rn rc) (by go_simp) ?_
  simp only [Act.put, List.setIfInBounds_toArray, List.set_cons_zero, List.set_cons_succ]
  refine WL.val (by kernel_rfl) (.slice ra rn rc) (by go_simp) ?_
  simp only [Act.put, List.setIfInBounds_toArray, List.set_cons_zero, List.set_cons_succ]
  refine WL.nil ?_
  refine hK8 _ _ ?_
  refine wp_seq_k fun K9 hK9 => ?_
  clear c_ d_
  refine wp_region_held_drew (S := fun wx => wx.cell? ⟨g, i_, none⟩ = some (.slice (some ⟨gl, 0, none⟩) n cap) ∧ wx.cell? ⟨gl, l, none⟩ = some (.slice sa sn_ sc)) (by kernel_rfl) ⟨HCd.out _ (Below.refl w.heap.size w).drew, HCl.out _ (Below.refl w.heap.size w).drew l _ Hq.out⟩ (fun hHeld => ?_)
  have HWd : Keep (Below w.heap.size w w.drew) := ⟨(Below.refl w.heap.size w).drew⟩
  have hsz : Keep (w.drew.heap.size = w.heap.size) := ⟨rfl⟩
  generalize w.drew = wd at *
  have Md := Keep.mk (HM.out.below HWd.out)
  have Cd : Keep (∀ wx, Below wd.heap.size wd wx → wx.cell? ⟨g, i_, none⟩ = some (.slice (some ⟨gl, 0, none⟩) n cap)) := ⟨fun wx hb => HCd.out wx (HWd.out.trans (hb.mono HWd.out.size))⟩
  have Ld : Keep (∀ wx, Below wd.heap.size wd wx → ∀ (j : Nat) (p : Value × List Int), a.R[j]? = some p → wx.cell? ⟨gl, j, none⟩ = some p.1) := ⟨fun wx hb => HCl.out wx (HWd.out.trans (hb.mono HWd.out.size))⟩
  refine wpAnyH_take (i := 0) (oi := ⟨some 43, Op.move (Operand.tmp 11), 81, _, _, none⟩) (v := .pointer (some ⟨g, i_, none⟩)) rfl (by kernel_rfl) (by kernel_rfl) (by kernel_rfl) (fun _ _ _ h => h) (Or.inl ⟨by rfl, fun w hS => by obtain ⟨hS1, hS2⟩ := hS; go_simp⟩) hHeld ?_
  simp only [Act.put, List.setIfInBounds_toArray, List.set_cons_zero, List.set_cons_succ]
  refine wpAnyH_take (i := 4) (oi := ⟨some 47, Op.move (Operand.tmp 3), 3, _, _, none⟩) (v := .int .i64 (k : Int)) rfl (by kernel_rfl) (by kernel_rfl) (by kernel_rfl) (fun _ _ _ h => h) (Or.inl ⟨by rfl, fun w hS => by obtain ⟨hS1, hS2⟩ := hS; go_simp⟩) hHeld ?_
  simp only [Act.put, List.setIfInBounds_toArray, List.set_cons_zero, List.set_cons_succ]
  refine wpAnyH_take (i := 5) (oi := ⟨some 48, Op.move (Operand.tmp 11), 81, _, _, none⟩) (v := .pointer (some ⟨g, i_, none⟩)) rfl (by kernel_rfl) (by kernel_rfl) (by kernel_rfl) (fun _ _ _ h => h) (Or.inl ⟨by rfl, fun w hS => by obtain ⟨hS1, hS2⟩ := hS; go_simp⟩) hHeld ?_
  simp only [Act.put, List.setIfInBounds_toArray, List.set_cons_zero, List.set_cons_succ]
  refine wpAnyH_take (i := 9) (oi := ⟨some 52, Op.move (Operand.tmp 4), 3, _, _, none⟩) (v := .int .i64 (l : Int)) rfl (by kernel_rfl) (by kernel_rfl) (by kernel_rfl) (fun _ _ _ h => h) (Or.inl ⟨by rfl, fun w hS => by obtain ⟨hS1, hS2⟩ := hS; go_simp⟩) hHeld ?_
  simp only [Act.put, List.setIfInBounds_toArray, List.set_cons_zero, List.set_cons_succ]
  refine wpAnyH_take (i := 1) (oi := ⟨some 44, Op.nilCheck (Operand.tmp 43), 0, _, _, none⟩) (v := .pointer (some ⟨g, i_, none⟩)) rfl (by kernel_rfl) (by kernel_rfl) (by kernel_rfl) (fun _ _ _ h => h) (Or.inl ⟨by rfl, fun w hS => by obtain ⟨hS1, hS2⟩ := hS; go_simp⟩) hHeld ?_
  simp only [Act.put, List.setIfInBounds_toArray, List.set_cons_zero, List.set_cons_succ]
  refine wpAnyH_take (i := 6) (oi := ⟨some 49, Op.nilCheck (Operand.tmp 48), 0, _, _, none⟩) (v := .pointer (some ⟨g, i_, none⟩)) rfl (by kernel_rfl) (by kernel_rfl) (by kernel_rfl) (fun _ _ _ h => h) (Or.inl ⟨by rfl, fun w hS => by obtain ⟨hS1, hS2⟩ := hS; go_simp⟩) hHeld ?_
  simp only [Act.put, List.setIfInBounds_toArray, List.set_cons_zero, List.set_cons_succ]
  refine wpAnyH_take (i := 2) (oi := ⟨some 45, Op.fieldAddr 85 (Operand.tmp 44) 0, 0, _, _, none⟩) (v := .pointer (some ⟨g, i_, none⟩)) rfl (by kernel_rfl) (by kernel_rfl) (by kernel_rfl) (fun _ _ _ h => h) (Or.inl ⟨by rfl, fun w hS => by obtain ⟨hS1, hS2⟩ := hS; go_simp⟩) hHeld ?_
  simp only [Act.put, List.setIfInBounds_toArray, List.set_cons_zero, List.set_cons_succ]
  refine wpAnyH_take (i := 7) (oi := ⟨some 50, Op.fieldAddr 85 (Operand.tmp 49) 0, 0, _, _, none⟩) (v := .pointer (some ⟨g, i_, none⟩)) rfl (by kernel_rfl) (by kernel_rfl) (by kernel_rfl) (fun _ _ _ h => h) (Or.inl ⟨by rfl, fun w hS => by obtain ⟨hS1, hS2⟩ := hS; go_simp⟩) hHeld ?_
  simp only [Act.put, List.setIfInBounds_toArray, List.set_cons_zero, List.set_cons_succ]
  refine wpAnyH_take (i := 3) (oi := ⟨some 46, Op.load 36 (Operand.tmp 45), 36, _, _, none⟩) (v := .slice (some ⟨gl, 0, none⟩) n cap) rfl (by kernel_rfl) (by kernel_rfl) (by kernel_rfl) (fun _ _ _ h => h) (Or.inl ⟨by rfl, fun w hS => by obtain ⟨hS1, hS2⟩ := hS; go_simp⟩) hHeld ?_
  simp only [Act.put, List.setIfInBounds_toArray, List.set_cons_zero, List.set_cons_succ]
  refine wpAnyH_take (i := 8) (oi := ⟨some 51, Op.load 36 (Operand.tmp 50), 36, _, _, none⟩) (v := .slice (some ⟨gl, 0, none⟩) n cap) rfl (by kernel_rfl) (by kernel_rfl) (by kernel_rfl) (fun _ _ _ h => h) (Or.inl ⟨by rfl, fun w hS => by obtain ⟨hS1, hS2⟩ := hS; go_simp⟩) hHeld ?_
  simp only [Act.put, List.setIfInBounds_toArray, List.set_cons_zero, List.set_cons_succ]
  refine wpAnyH_take (i := 10) (oi := ⟨some 53, Op.indexAddr 36 (Operand.tmp 51) (Operand.tmp 52), 0, _, _, none⟩) (v := .pointer (some ⟨gl, l, none⟩)) rfl (by kernel_rfl) (by kernel_rfl) (by kernel_rfl) (fun _ _ _ h => h) (Or.inl ⟨by rfl, fun w hS => by obtain ⟨hS1, hS2⟩ := hS; go_simp⟩) hHeld ?_
  simp only [Act.put, List.setIfInBounds_toArray, List.set_cons_zero, List.set_cons_succ]
  refine wpAnyH_take (i := 11) (oi := ⟨some 54, Op.load 39 (Operand.tmp 53), 39, _, _, none⟩) (v := .slice sa sn_ sc) rfl (by kernel_rfl) (by kernel_rfl) (by kernel_rfl) (fun _ _ _ h => h) (Or.inl ⟨by rfl, fun w hS => by obtain ⟨hS1, hS2⟩ := hS; go_simp⟩) hHeld ?_
  simp only [Act.put, List.setIfInBounds_toArray, List.set_cons_zero, List.set_cons_succ]
  refine wpAnyH_take (i := 12) (oi := ⟨some 55, Op.indexAddr 36 (Operand.tmp 46) (Operand.tmp 47), 0, _, _, none⟩) (v := .pointer (some ⟨gl, k, none⟩)) rfl (by kernel_rfl) (by kernel_rfl) (by kernel_rfl) (fun _ _ _ h => h) (Or.inl ⟨by rfl, fun w hS => by obtain ⟨hS1, hS2⟩ := hS; go_simp⟩) hHeld ?_
  simp only [Act.put, List.setIfInBounds_toArray, List.set_cons_zero, List.set_cons_succ]
  refine wpAnyH_ready (rs := [13]) (by kernel_rfl) (by simp) ?_
  refine AllReadyH.cons (o := ⟨none, Op.store 39 (Operand.tmp 55) (Operand.tmp 54), 0, _, _, none⟩) rfl (fun K hK => ?_) AllReadyH.nil
  rw [if_pos (by rfl)]
  obtain ⟨cur, hcur⟩ : ∃ cur, Blk wd gl 39 cur := by
    obtain ⟨gl', cap', e1, _, _, _, h⟩ := (Md.out.lk a (List.mem_of_getElem? Ha.out)).cells (by rw [Hn.out]; omega)
    rw [Hv.out] at e1
    injection e1 with e1
    injection e1 with e1
    injection e1 with e1
    subst e1
    exact h
  have f_o := hcur.frozen k
  have c_o : wd.cell? ⟨gl, k, none⟩ = some (.slice ra rn rc) := Ld.out wd (Below.refl _ _) k _ Hp.out
  refine wp_valS (wd.setCell ⟨gl, k, none⟩ (.slice sa sn_ sc)) (by go_simp) ?_
  clear f_o c_o
  have gs1 : Keep (Grown wd (wd.setCell ⟨gl, k, none⟩ (.slice sa sn_ sc)) (fun m => m = gl)) := ⟨Grown.setCell wd gl k _ fun _ => rfl⟩
  have hgg : Keep (g ≠ gl) := ⟨fun e => absurd (Typ.one (e ▸ Md.out.bg.typ) hcur.typ) (by decide)⟩
  have c9 := gs1.out.cell (Cd.out _ (Below.refl _ _)) hgg.out
  have Q1 : Keep ((wd.setCell ⟨gl, k, none⟩ (.slice sa sn_ sc)).ownsRow 0 39 1 (.slice (some ⟨gl, 0, none⟩) n cap) n ((a.R.map (·.1)).set k (.slice sa sn_ sc))) := ⟨by
    have h := (Md.out.lk a (List.mem_of_getElem? Ha.out)).own
    rw [Hv.out, Hn.out] at h
    exact owns_set h k _⟩
  have cl : ∀ (j : Nat) (u : Value), ((a.R.map (·.1)).set k (.slice sa sn_ sc))[j]? = some u → (wd.setCell ⟨gl, k, none⟩ (.slice sa sn_ sc)).cell? ⟨gl, j, none⟩ = some u := fun j u hu => by
    rcases Q1.out.2 with ⟨e, _⟩ | ⟨g', cap', cur', e, _, h3, h4, h5, h6, h7⟩
    · cases e
    · injection e with e1 e2 e3
      injection e1 with e1
      injection e1 with e1
      subst e1
      have hj := (List.getElem?_eq_some_iff.mp hu).1
      simp at hj
      have e2 : (cur'.toList.take (n * 1))[j]? = some u := by rw [h7]; exact hu
      rw [List.getElem?_take, if_pos (by have := Hn.out; omega), Array.getElem?_toList] at e2
      exact (show Blk _ gl 39 cur' from h3).c j e2
  have d9 := cl l (.slice sa sn_ sc) (by
    by_cases e : k = l
    · subst e; rw [List.getElem?_set_self (by simp; have := Hn.out; omega)]
    · rw [List.getElem?_set_ne e]; simp [Hq.out])
  have f_1 := (hcur.set k (.slice sa sn_ sc)).frozen l
  have c_1 : (wd.setCell ⟨gl, k, none⟩ (.slice sa sn_ sc)).cell? ⟨g, i_, none⟩ = some (.slice (some ⟨gl, 0, none⟩) n cap) := c9
  clear cl hcur
  generalize wd.setCell ⟨gl, k, none⟩ (.slice sa sn_ sc) = w1 at *
  refine hK _ _ ⟨c9, d9⟩ fun hHe => ?_
  clear hK
  simp only [Act.put, List.setIfInBounds_toArray, List.set_cons_zero, List.set_cons_succ]
  refine wpAnyH_done (by kernel_rfl) ?_ _
  refine hK9 _ _ ?_
  refine wp_seq_k fun K10 hK10 => ?_
  clear c_1
  refine wp_region_list (WL.out ?_)
  refine WL.val (by kernel_rfl) (.pointer (some ⟨g, i_, none⟩)) (by go_simp) ?_
  simp only [Act.put, List.setIfInBounds_toArray, List.set_cons_zero, List.set_cons_succ]
  refine WL.val (by kernel_rfl) (.pointer (some ⟨g, i_, none⟩)) (by go_simp) ?_
  simp only [Act.put, List.setIfInBounds_toArray, List.set_cons_zero, List.set_cons_succ]
  refine WL.val (by kernel_rfl) (.pointer (some ⟨g, i_, none⟩)) (by go_simp) ?_
  simp only [Act.put, List.setIfInBounds_toArray, List.set_cons_zero, List.set_cons_succ]
  refine WL.val (by kernel_rfl) (.slice (some ⟨gl, 0, none⟩) n cap) (by go_simp) ?_
  simp only [Act.put, List.setIfInBounds_toArray, List.set_cons_zero, List.set_cons_succ]
  refine WL.val (by kernel_rfl) (.int .i64 (l : Int)) (by go_simp) ?_
  simp only [Act.put, List.setIfInBounds_toArray, List.set_cons_zero, List.set_cons_succ]
  refine WL.val (by kernel_rfl) (.slice ra rn rc) (by go_simp) ?_
  simp only [Act.put, List.setIfInBounds_toArray, List.set_cons_zero, List.set_cons_succ]
  refine WL.val (by kernel_rfl) (.pointer (some ⟨gl, l, none⟩)) (by go_simp) ?_
  simp only [Act.put, List.setIfInBounds_toArray, List.set_cons_zero, List.set_cons_succ]
  refine WL.cell (by kernel_rfl) (w1.setCell ⟨gl, l, none⟩ (.slice ra rn rc)) (by go_simp) ?_
  clear f_1 c9 d9
  have N9 : Keep (RmN wd x g N Ks (Ks.set i_ ⟨a.v, (a.R.set k (.slice sa sn_ sc, d)).set l (.slice ra rn rc, b)⟩) (w1.setCell ⟨gl, l, none⟩ (.slice ra rn rc))) := ⟨by
    have hob : a.v.ownBlock = some gl := by rw [Hv.out]; rfl
    refine Md.out.relist Ha.out ((gs1.out.mono fun m _ e => by rw [e]; exact hob).trans (Grown.setCell w1 gl l (.slice ra rn rc) fun _ => hob)) ?_ (fun p hp => .inl ?_) (by rw [List.length_set, List.length_set, Hn.out]; have := (Md.out.lk a (List.mem_of_getElem? Ha.out)).few; rw [Hn.out] at this; exact this)
    · have h := owns_set Q1.out l (.slice ra rn rc)
      rw [Hv.out, List.length_set, List.length_set, Hn.out, List.map_set, List.map_set]
      exact h
    · rcases List.mem_or_eq_of_mem_set hp with hp | rfl
      · rcases List.mem_or_eq_of_mem_set hp with hp | rfl
        · exact hp
        · exact List.mem_of_getElem? Hq.out
      · exact List.mem_of_getElem? Hp.out⟩
  generalize w1.setCell ⟨gl, l, none⟩ (.slice ra rn rc) = w2 at *
  simp only [Act.put]
  refine WL.nil ?_
  refine hK10 _ _ ?_
  refine wp_seq_k fun K11 hK11 => ?_
  refine wp_region_list (WL.out ?_)
  refine WL.val (by kernel_rfl) (.int .i64 0) (by go_simp) ?_
  simp only [Act.put, List.setIfInBounds_toArray, List.set_cons_zero, List.set_cons_succ]
  refine WL.nil ?_
  refine hK11 _ _ ?_
  refine wp_ret ?_
  try simp only [Exit.inBlock, Exit.then]
  go_ret
  exact ⟨rfl, ⟨N9.out.at_, (Grown.below (S := RmW g Ks) HWd.out).trans N9.out.gr, fun k hk => by have h := N9.out.new k hk; rw [hsz.out] at h; exact h⟩⟩
def spE (N : Nat) (K : List Lk) (f t i j : Int) : Int := if nmE N K f t i = 0 then nmE N K f t j else nmE N K f t i
theorem rswap_any (w : World) (x g N : Nat) (K : List Lk) (f t i j : Int) (h : RmAt w x g N K) : Calls Tryd.prog 28 #[.pointer (some ⟨x, 0, none⟩), .int .i64 f, .int .i64 t, .int .i64 i, .int .i64 j] w fun e w' => e = .returned (.int .i64 (spE N K f t i j)) ∧ ∃ K', RmN w x g N K K' w' ∧ (spE N K f t i j ≠ 0 → K' = K) ∧ (spE N K f t i j = 0 → ∃ p q, (lkOf K f t).R[i.toNat]? = some p ∧ (lkOf K f t).R[j.toNat]? = some q ∧ K' = K.set (ix f t) ⟨(lkOf K f t).v, ((lkOf K f t).R.set i.toNat q).set j.toNat p⟩) := by
  unfold spE
  by_cases he : nmE N K f t i = 0
  · rw [if_pos he]
    by_cases he2 : nmE N K f t j = 0
    · obtain ⟨k, n, gl, cap, rfl, h1, h2, h3, h4, h5, h6, h7, h8⟩ := h.open_ he
      obtain ⟨l, n2, gl2, cap2, rfl, g1, g2, _⟩ := h.open_ he2
      have her := he2
      rw [her, Int.toNat_natCast, Int.toNat_natCast]
      have hlk := h.lk _ (List.mem_of_getElem? h6)
      have hp := List.getElem?_eq_getElem (show k < (lkOf K f t).R.length by omega)
      have hq := List.getElem?_eq_getElem (show l < (lkOf K f t).R.length by omega)
      obtain ⟨p, hpe⟩ : ∃ p, p = (lkOf K f t).R[k]'(by omega) := ⟨_, rfl⟩
      obtain ⟨q, hqe⟩ : ∃ q, q = (lkOf K f t).R[l]'(by omega) := ⟨_, rfl⟩
      rw [← hpe] at hp
      rw [← hqe] at hq
      have hr := hlk.rows _ (List.mem_of_getElem? hp)
      have hs := hlk.rows _ (List.mem_of_getElem? hq)
      obtain ⟨pv, b⟩ := p
      obtain ⟨qv, d⟩ := q
      obtain ⟨ra, rn, rc, e⟩ := hr.1.sl
      obtain ⟨sa, sn, sc, e'⟩ := hs.1.sl
      simp only at e e' hr hs
      subst e e'
      exact (sp_ok w x g N K f t k l _ n cap gl rn rc sn sc ra sa b d _ ⟨h⟩ ⟨he⟩ ⟨rfl⟩ ⟨h6⟩ ⟨h5⟩ ⟨h2⟩ ⟨hp⟩ ⟨hr.2.1⟩ ⟨hr.2.2⟩ h1 ⟨he2⟩ ⟨hq⟩ (by omega) ⟨h7⟩ ⟨h8⟩).mono fun e w' ⟨e1, e2⟩ => ⟨e1, _, e2, fun e => absurd rfl e, fun _ => ⟨_, _, hp, hq, rfl⟩⟩
    · exact (sp_er2 w x g N K f t i j ⟨h⟩ _ ⟨he⟩ ⟨rfl⟩ (by simpa using he2)).mono fun e w' ⟨e1, e2⟩ => ⟨e1, K, by rw [e2]; exact RmN.refl h, fun _ => rfl, fun e => absurd e he2⟩
  · rw [if_neg he]
    exact (sp_err w x g N K f t i j ⟨h⟩ _ ⟨rfl⟩ (by simpa using he)).mono fun e w' ⟨e1, e2⟩ => ⟨e1, K, by rw [e2]; exact RmN.refl h, fun _ => rfl, fun e => absurd e he⟩
theorem rclear_any (w : World) (x g N : Nat) (K : List Lk) (f t : Int) (h : RmAt w x g N K) : Calls Tryd.prog 32 #[.pointer (some ⟨x, 0, none⟩), .int .i64 f, .int .i64 t] w fun e w' => e = .returned (.int .i64 (if thr N f t then 0 else 1)) ∧ ∃ K', RmN w x g N K K' w' ∧ (thr N f t = false → K' = K) ∧ (thr N f t = true → K' = K.set (ix f t) ⟨.slice none 0 0, []⟩) := by
  cases ht : thr N f t
  · exact (cr_no w x g N K f t ⟨h⟩ ht).mono fun e w' ⟨e1, e2⟩ => ⟨e1, K, by rw [e2]; exact RmN.refl h, fun _ => rfl, (fun e => by cases e)⟩
  · exact (cr_ok w x g N K f t ⟨h⟩ _ _ ⟨thr_ix h.nb.2 ht⟩ ⟨(h.link ht).1⟩ ht).mono fun e w' ⟨e1, e2⟩ => ⟨e1, _, e2, (fun e => by cases e), fun _ => rfl⟩
def K0 : List Lk := List.replicate 81 ⟨.slice none 0 0, []⟩
def c81 : Array Value := (List.replicate 81 (Value.slice none 0 0)).toArray
theorem bldM (n : Int) (g : Nat) : Tryd.prog.built 70 [(0, .int .i64 n), (1, .slice (some ⟨g, 0, none⟩) 81 81)] = some #[.int .i64 n, .slice (some ⟨g, 0, none⟩) 81 81] := by kernel_rfl
theorem rm_new {w : World} {x g N : Nat} (h1 : Blk w x 70 #[.int .i64 (N : Int), .slice (some ⟨g, 0, none⟩) 81 81]) (h2 : Blk w g 85 c81) (hN : 1 ≤ N ∧ N ≤ 8) : RmAt w x g N K0 := by
  have hz : ∀ k ∈ K0, k = ⟨.slice none 0 0, []⟩ := fun k hk => (List.mem_replicate.1 hk).2
  refine ⟨h1, ?_, by simp [K0], hN, fun k hk => ?_, fun i j a b m ha _ e _ => ?_⟩
  · have e : (K0.map (·.v)).toArray = c81 := by simp [K0, c81]
    rw [e]; exact h2
  · rw [hz k hk]; exact ⟨⟨rfl, .inl ⟨rfl, rfl⟩⟩, fun p hp => by simp at hp, by simp⟩
  · rw [hz a (List.mem_of_getElem? ha)] at e; simp [Value.ownBlock] at e
set_option maxRecDepth 8000 in
theorem nw_lo (w : World) (n : Int) (hn : n < 1) : Calls Tryd.prog 9 #[.int .i64 n] w fun e w' => e = .returned (.tuple #[.pointer none, .int .i64 1]) ∧ w' = w := by
  go_enter Tryd.func9, Tryd.ntmps9
  refine wp_seq_k fun K1 hK1 => ?_
  refine wp_region_list (WL.out ?_)
  refine WL.val (by kernel_rfl) (.pointer none) (by go_simp) ?_
  simp only [Act.put, List.setIfInBounds_toArray, List.set_cons_zero, List.set_cons_succ]
  refine WL.val (by kernel_rfl) (.int .i64 0) (by go_simp) ?_
  simp only [Act.put, List.setIfInBounds_toArray, List.set_cons_zero, List.set_cons_succ]
  refine WL.nil ?_
  refine hK1 _ _ ?_
  refine wp_seq_k fun K2 hK2 => ?_
  refine wp_seq_k fun K3 hK3 => ?_
  refine wp_region_list (WL.out ?_)
  refine WL.val (by kernel_rfl) (.int .i64 n) (by go_simp) ?_
  simp only [Act.put, List.setIfInBounds_toArray, List.set_cons_zero, List.set_cons_succ]
  refine WL.val (by kernel_rfl) (.bool true) (by go_simp) ?_
  simp only [Act.put, List.setIfInBounds_toArray, List.set_cons_zero, List.set_cons_succ]
  refine WL.val (by kernel_rfl) (.bool true) (by go_simp) ?_
  simp only [Act.put, List.setIfInBounds_toArray, List.set_cons_zero, List.set_cons_succ]
  refine WL.skip (by kernel_rfl) ?_
  simp only [Act.put, List.setIfInBounds_toArray, List.set_cons_zero, List.set_cons_succ]
  refine WL.skip (by kernel_rfl) ?_
  simp only [Act.put, List.setIfInBounds_toArray, List.set_cons_zero, List.set_cons_succ]
  refine WL.val (by kernel_rfl) (.bool true) (by go_simp) ?_
  simp only [Act.put, List.setIfInBounds_toArray, List.set_cons_zero, List.set_cons_succ]
  refine WL.nil ?_
  refine hK3 _ _ ?_
  refine wp_cond_true rfl ?_
  refine wp_seq_k fun K4 hK4 => ?_
  refine wp_region_list (WL.out ?_)
  refine WL.val (by kernel_rfl) (.pointer none) (by go_simp) ?_
  simp only [Act.put, List.setIfInBounds_toArray, List.set_cons_zero, List.set_cons_succ]
  refine WL.val (by kernel_rfl) (.int .i64 1) (by go_simp) ?_
  simp only [Act.put, List.setIfInBounds_toArray, List.set_cons_zero, List.set_cons_succ]
  refine WL.nil ?_
  refine hK4 _ _ ?_
  refine wp_ret ?_
  try simp only [Exit.inBlock, Exit.then]
  exact bodyPost_ret (results_tmp2 (fn := Tryd.f9) rfl _ _ _) rfl ⟨rfl, rfl⟩
set_option maxRecDepth 8000 in
theorem nw_hi (w : World) (n : Int) (hn : ¬ n < 1) (hn2 : 8 < n) : Calls Tryd.prog 9 #[.int .i64 n] w fun e w' => e = .returned (.tuple #[.pointer none, .int .i64 1]) ∧ w' = w := by
  have hn3 : n > 8 := hn2
  go_enter Tryd.func9, Tryd.ntmps9
  refine wp_seq_k fun K1 hK1 => ?_
  refine wp_region_list (WL.out ?_)
  refine WL.val (by kernel_rfl) (.pointer none) (by go_simp) ?_
  simp only [Act.put, List.setIfInBounds_toArray, List.set_cons_zero, List.set_cons_succ]
  refine WL.val (by kernel_rfl) (.int .i64 0) (by go_simp) ?_
  simp only [Act.put, List.setIfInBounds_toArray, List.set_cons_zero, List.set_cons_succ]
  refine WL.nil ?_
  refine hK1 _ _ ?_
  refine wp_seq_k fun K2 hK2 => ?_
  refine wp_seq_k fun K3 hK3 => ?_
  refine wp_region_list (WL.out ?_)
  refine WL.val (by kernel_rfl) (.int .i64 n) (by go_simp) ?_
  simp only [Act.put, List.setIfInBounds_toArray, List.set_cons_zero, List.set_cons_succ]
  refine WL.val (by kernel_rfl) (.bool false) (by go_simp) ?_
  simp only [Act.put, List.setIfInBounds_toArray, List.set_cons_zero, List.set_cons_succ]
  refine WL.val (by kernel_rfl) (.bool false) (by go_simp) ?_
  simp only [Act.put, List.setIfInBounds_toArray, List.set_cons_zero, List.set_cons_succ]
  refine WL.val (by kernel_rfl) (.int .i64 n) (by go_simp) ?_
  simp only [Act.put, List.setIfInBounds_toArray, List.set_cons_zero, List.set_cons_succ]
  refine WL.val (by kernel_rfl) (.bool true) (by go_simp) ?_
  simp only [Act.put, List.setIfInBounds_toArray, List.set_cons_zero, List.set_cons_succ]
  refine WL.val (by kernel_rfl) (.bool true) (by go_simp) ?_
  simp only [Act.put, List.setIfInBounds_toArray, List.set_cons_zero, List.set_cons_succ]
  refine WL.nil ?_
  refine hK3 _ _ ?_
  refine wp_cond_true rfl ?_
  refine wp_seq_k fun K4 hK4 => ?_
  refine wp_region_list (WL.out ?_)
  refine WL.val (by kernel_rfl) (.pointer none) (by go_simp) ?_
  simp only [Act.put, List.setIfInBounds_toArray, List.set_cons_zero, List.set_cons_succ]
  refine WL.val (by kernel_rfl) (.int .i64 1) (by go_simp) ?_
  simp only [Act.put, List.setIfInBounds_toArray, List.set_cons_zero, List.set_cons_succ]
  refine WL.nil ?_
  refine hK4 _ _ ?_
  refine wp_ret ?_
  try simp only [Exit.inBlock, Exit.then]
  exact bodyPost_ret (results_tmp2 (fn := Tryd.f9) rfl _ _ _) rfl ⟨rfl, rfl⟩
set_option maxRecDepth 8000 in
theorem nw_ok (w : World) (N : Nat) (hN : 1 ≤ N ∧ N ≤ 8) : Calls Tryd.prog 9 #[.int .i64 (N : Int)] w fun e w' => ∃ x g, e = .returned (.tuple #[.pointer (some ⟨x, 0, none⟩), .int .i64 0]) ∧ RmAt w' x g N K0 ∧ (w.heap.size ≤ x ∧ w.heap.size ≤ g) ∧ Below w.heap.size w w' := by
  have hn1 : ¬ (N : Int) < 1 := by omega
  have hn2 : ¬ 8 < (N : Int) := by omega
  have hn3 : ¬ (N : Int) > 8 := by omega
  go_enter Tryd.func9, Tryd.ntmps9
  refine wp_seq_k fun K1 hK1 => ?_
  refine wp_region_list (WL.out ?_)
  refine WL.val (by kernel_rfl) (.pointer none) (by go_simp) ?_
  simp only [Act.put, List.setIfInBounds_toArray, List.set_cons_zero, List.set_cons_succ]
  refine WL.val (by kernel_rfl) (.int .i64 0) (by go_simp) ?_
  simp only [Act.put, List.setIfInBounds_toArray, List.set_cons_zero, List.set_cons_succ]
  refine WL.nil ?_
  refine hK1 _ _ ?_
  refine wp_seq_k fun K2 hK2 => ?_
  refine wp_seq_k fun K3 hK3 => ?_
  refine wp_region_list (WL.out ?_)
  refine WL.val (by kernel_rfl) (.int .i64 (N : Int)) (by go_simp) ?_
  simp only [Act.put, List.setIfInBounds_toArray, List.set_cons_zero, List.set_cons_succ]
  refine WL.val (by kernel_rfl) (.bool false) (by go_simp) ?_
  simp only [Act.put, List.setIfInBounds_toArray, List.set_cons_zero, List.set_cons_succ]
  refine WL.val (by kernel_rfl) (.bool false) (by go_simp) ?_
  simp only [Act.put, List.setIfInBounds_toArray, List.set_cons_zero, List.set_cons_succ]
  refine WL.val (by kernel_rfl) (.int .i64 (N : Int)) (by go_simp) ?_
  simp only [Act.put, List.setIfInBounds_toArray, List.set_cons_zero, List.set_cons_succ]
  refine WL.val (by kernel_rfl) (.bool false) (by go_simp) ?_
  simp only [Act.put, List.setIfInBounds_toArray, List.set_cons_zero, List.set_cons_succ]
  refine WL.val (by kernel_rfl) (.bool false) (by go_simp) ?_
  simp only [Act.put, List.setIfInBounds_toArray, List.set_cons_zero, List.set_cons_succ]
  refine WL.nil ?_
  refine hK3 _ _ ?_
  refine wp_cond_false rfl ?_
  refine wp_skip ?_
  refine hK2 _ _ ?_
  refine wp_seq_k fun K4 hK4 => ?_
  refine wp_region_list (WL.out ?_)
  refine WL.val (by kernel_rfl) (.int .i64 (N : Int)) (by go_simp) ?_
  simp only [Act.put, List.setIfInBounds_toArray, List.set_cons_zero, List.set_cons_succ]
  refine WL.valW (by kernel_rfl) (.slice (some ⟨w.heap.size, 0, none⟩) 81 81) (w.alloc (.cells c81 85)) (by kernel_rfl) ?_
  have G1 := Keep.mk (Blk.new w 85 c81)
  have b1 := Keep.mk (below_new w (.cells c81 85))
  generalize w.alloc (.cells c81 85) = w1 at *
  obtain ⟨g, hg⟩ : ∃ z, Keep (z = w.heap.size) := ⟨_, ⟨rfl⟩⟩
  rw [← hg.out] at G1 ⊢
  simp only [Act.put, List.setIfInBounds_toArray, List.set_cons_zero, List.set_cons_succ]
  refine WL.bld (by kernel_rfl) 70 #[(0, .tmp 10), (1, .tmp 11)] rfl [(0, .int .i64 (N : Int)), (1, .slice (some ⟨g, 0, none⟩) 81 81)] (by simp [Act.eval]) #[.int .i64 (N : Int), .slice (some ⟨g, 0, none⟩) 81 81] (bldM _ _) ?_
  simp only [Act.put, List.setIfInBounds_toArray, List.set_cons_zero, List.set_cons_succ]
  refine WL.box (by kernel_rfl) 70 (.tmp 12) rfl #[.int .i64 (N : Int), .slice (some ⟨g, 0, none⟩) 81 81] rfl ?_
  have X2 := Keep.mk (Blk.new w1 70 #[.int .i64 (N : Int), .slice (some ⟨g, 0, none⟩) 81 81])
  have b_ := below_new w1 (.cells #[.int .i64 (N : Int), .slice (some ⟨g, 0, none⟩) 81 81] 70)
  generalize w1.alloc (.cells #[.int .i64 (N : Int), .slice (some ⟨g, 0, none⟩) 81 81] 70) = w2 at *
  obtain ⟨x, hx⟩ : ∃ z, Keep (z = w1.heap.size) := ⟨_, ⟨rfl⟩⟩
  rw [← hx.out] at X2 ⊢
  have G2 := Keep.mk (G1.out.below b_ G1.out.lt)
  have B2 : Keep (Below w.heap.size w w2) := ⟨b1.out.trans (b_.mono b1.out.size)⟩
  have hxg : Keep (w.heap.size ≤ x ∧ w.heap.size ≤ g) := ⟨by have := hx.out; have := hg.out; have := b1.out.size; omega⟩
  clear b_
  simp only [Act.put, List.setIfInBounds_toArray, List.set_cons_zero, List.set_cons_succ]
  refine WL.val (by kernel_rfl) (.pointer (some ⟨x, 0, none⟩)) (by go_simp) ?_
  simp only [Act.put, List.setIfInBounds_toArray, List.set_cons_zero, List.set_cons_succ]
  refine WL.val (by kernel_rfl) (.int .i64 0) (by go_simp) ?_
  simp only [Act.put, List.setIfInBounds_toArray, List.set_cons_zero, List.set_cons_succ]
  refine WL.nil ?_
  refine hK4 _ _ ?_
  refine wp_ret ?_
  try simp only [Exit.inBlock, Exit.then]
  exact bodyPost_ret (results_tmp2 (fn := Tryd.f9) rfl _ _ _) rfl ⟨x, g, rfl, rm_new X2.out G2.out hN, hxg.out, B2.out⟩

theorem Tryd.in15 (w : World) (vs : Array Value) : (callFunc 15 vs).run Tryd.prog w = .ok (.enter 15 vs) w := by kernel_rfl
theorem Tryd.in18 (w : World) (vs : Array Value) : (callFunc 18 vs).run Tryd.prog w = .ok (.enter 18 vs) w := by kernel_rfl
theorem Tryd.in25 (w : World) (vs : Array Value) : (callFunc 25 vs).run Tryd.prog w = .ok (.enter 25 vs) w := by kernel_rfl
theorem Tryd.in20 (w : World) (vs : Array Value) : (callFunc 20 vs).run Tryd.prog w = .ok (.enter 20 vs) w := by kernel_rfl
theorem Tryd.in31 (w : World) (vs : Array Value) : (callFunc 31 vs).run Tryd.prog w = .ok (.enter 31 vs) w := by kernel_rfl
theorem Tryd.in16 (w : World) (vs : Array Value) : (callFunc 16 vs).run Tryd.prog w = .ok (.enter 16 vs) w := by kernel_rfl
theorem Tryd.in22 (w : World) (vs : Array Value) : (callFunc 22 vs).run Tryd.prog w = .ok (.enter 22 vs) w := by kernel_rfl
theorem Tryd.in19 (w : World) (vs : Array Value) : (callFunc 19 vs).run Tryd.prog w = .ok (.enter 19 vs) w := by kernel_rfl
theorem Tryd.in21 (w : World) (vs : Array Value) : (callFunc 21 vs).run Tryd.prog w = .ok (.enter 21 vs) w := by kernel_rfl
theorem Tryd.in36 (w : World) (vs : Array Value) : (callFunc 36 vs).run Tryd.prog w = .ok (.enter 36 vs) w := by kernel_rfl
theorem lose_any (w : World) (p mb N i : Nat) (l : Int) (K : List Lk) (f t : Int) (h : PmAt w p mb N l K) (ht : thr N f t = true) (hi : i < (lkOf K f t).R.length) : Calls Tryd.prog 40 #[.pointer (some ⟨p, 0, none⟩), .agg #[.int .i64 f, .int .i64 t], .int .i64 (i : Int)] w fun e w' => e = .returned (.tuple #[]) ∧ ∃ v, PmN w p mb N K (K.set (ix f t) ⟨v, (lkOf K f t).R.eraseIdx i⟩) l w' ∧ v.ownBlock = (lkOf K f t).v.ownBlock ∧ ∀ q ∈ (lkOf K f t).R, Own w' q.1 q.2 := by
  obtain ⟨g, cap, hv, hc, hcm⟩ := (h.link ht).2.caps (by omega)
  exact (ls_ok w p mb N _ cap i g l K f t ⟨h⟩ ht ⟨hv⟩ ⟨rfl⟩ ⟨hi⟩ ⟨hc⟩ ⟨hcm⟩).mono fun e w' ⟨h1, h2, h3⟩ => ⟨h1, _, h2, by rw [hv]; rfl, h3⟩
theorem bsI1 (a : Int) (w : World) : (Instr.buildSlice 89 1 #[(0, .int .i64 a)]).run Tryd.prog w = .ok (.slice (some ⟨w.heap.size, 0, none⟩) 1 1) (w.alloc (.cells #[.int .i64 a] 3)) := by kernel_rfl
theorem bsI2 (a b : Int) (w : World) : (Instr.buildSlice 89 2 #[(0, .int .i64 a), (1, .int .i64 b)]).run Tryd.prog w = .ok (.slice (some ⟨w.heap.size, 0, none⟩) 2 2) (w.alloc (.cells #[.int .i64 a, .int .i64 b] 3)) := by kernel_rfl
theorem fdE_nil {N : Nat} {K : List Lk} {f t : Int} : fdE N K f t [] = if thr N f t then 0 else 1 := by
  unfold fdE
  cases thr N f t <;> simp
theorem fdE_one {N : Nat} {K : List Lk} {f t i : Int} : fdE N K f t [i] = nmE N K f t i := by
  unfold fdE nmE badI
  cases thr N f t
  · simp
  · by_cases h : i < 0 ∨ ((lkOf K f t).R.length : Int) ≤ i <;> simp [h]
theorem fdE_two {N : Nat} {K : List Lk} {f t i j : Int} : fdE N K f t [i, j] = spE N K f t i j := by
  unfold fdE spE nmE badI
  cases thr N f t
  · simp
  · by_cases h : i < 0 ∨ ((lkOf K f t).R.length : Int) ≤ i <;> by_cases h2 : j < 0 ∨ ((lkOf K f t).R.length : Int) ≤ j <;> simp [h, h2]
theorem PmAt.open_ {w : World} {p mb N : Nat} {l : Int} {K : List Lk} {f t i : Int} (h : PmAt w p mb N l K) (he : nmE N K f t i = 0) : ∃ (k n gl cap : Nat), i = (k : Int) ∧ k < n ∧ (lkOf K f t).R.length = n ∧ n ≤ 1024 ∧ n ≤ cap ∧ cap ≤ maxLen ∧ (lkOf K f t).v = .slice (some ⟨gl, 0, none⟩) n cap ∧ thr N f t = true ∧ ∀ (j : Nat) (q : Value × List Int), (lkOf K f t).R[j]? = some q → w.cell? ⟨gl, j, none⟩ = some q.1 := by
  obtain ⟨h1, h2, h3⟩ := nmE_ok he
  obtain ⟨k, rfl⟩ : ∃ k : Nat, i = (k : Int) := ⟨i.toNat, by omega⟩
  have ha := (h.link h1).2
  obtain ⟨gl, cap, hv, hc, hcm⟩ := ha.caps (by omega)
  refine ⟨k, _, gl, cap, rfl, by omega, rfl, ha.few, hc, hcm, hv, h1, fun j q hq => ?_⟩
  have hj := (List.getElem?_eq_some_iff.1 hq).1
  have ho := ha.own
  rw [hv] at ho
  exact owns_cells ho j q.1 (by rw [List.getElem?_map, hq]; rfl)
theorem thr_of {N : Nat} {f t : Int} (h : (if thr N f t then (0 : Int) else 1) = 0) : thr N f t = true := by
  cases e : thr N f t
  · rw [e] at h; exact absurd h (by decide)
  · rfl
theorem row_of {w w' : World} {v : Value} {l : List Int} {S : Nat → Prop} (h : RowAt w v l) (hg : Grown w w' S) (hd : l ≠ [] → ∀ k, v.ownBlock = some k → ¬ S k) : RowAt w' v l := by
  by_cases e : l = []
  · subst e
    rcases h with h | h | ⟨b, off, cap, hv, h1, _⟩
    · exact .inl h
    · exact .inr (.inl h)
    · exact .inr (.inl ⟨_, _, hv, rfl⟩)
  · exact h.grown hg fun k hk _ => hd e k hk
theorem snd_err {N : Nat} {K : List Lk} {f t er : Int} {b : List Int} (h : er = fdE N K f t []) (h0 : ¬ er = 0) : er = sndE N K f t b := by
  rw [fdE_nil] at h
  unfold sndE
  cases e : thr N f t <;> rw [e] at h
  · exact h
  · exact absurd h h0
theorem snd_big {N : Nat} {K : List Lk} {f t : Int} {b : List Int} (h : fdE N K f t [] = 0) (hb : 2097194 < b.length) : 4 = sndE N K f t b := by
  rw [fdE_nil] at h
  unfold sndE
  rw [thr_of h, if_pos rfl, if_pos hb]
theorem snd_lay {N : Nat} {K : List Lk} {f t er : Int} {b : List Int} (h : fdE N K f t [] = 0) (hb : ¬ 2097194 < b.length) (he : er = layE K f t) : er = sndE N K f t b := by
  rw [fdE_nil] at h
  unfold sndE
  rw [thr_of h, if_pos rfl, if_neg hb, he]
  rfl
set_option maxRecDepth 8000 in
theorem psn (w : World) (p mb N : Nat) (Ks : List Lk) (f t : Int) (ba : Option Addr) (bn bc : Nat) (b : List Int) (HB : Keep (RowAt w (.slice ba bn bc) b)) (Hbn : Keep (b.length = bn)) (HBy : Keep (Byts b)) (HD : Keep (b ≠ [] → ∀ k, (Value.slice ba bn bc).ownBlock = some k → ¬ PmS p mb Ks k)) (HM : Keep (PmAt w p mb N 0 Ks)) : Calls Tryd.prog 15 #[.pointer (some ⟨p, 0, none⟩), .int .i64 f, .int .i64 t, .slice ba bn bc] w fun e w' => ∃ er K', e = .returned (.int .i64 er) ∧ er = sndE N Ks f t b ∧ PmN w p mb N Ks K' 0 w' ∧ (er ≠ 0 → K' = Ks) ∧ (er = 0 → ∃ u v, K' = Ks.set (ix f t) ⟨v, (lkOf Ks f t).R ++ [(u, b)]⟩) := by
  go_enter_defers Tryd.func15, Tryd.ntmps15
  refine wp_seq_k fun K1 hK1 => ?_
  refine wp_region_list (WL.out ?_)
  refine WL.val (by kernel_rfl) (.int .i64 0) (by go_simp) ?_
  simp only [Act.put, List.setIfInBounds_toArray, List.set_cons_zero, List.set_cons_succ]
  refine WL.nil ?_
  refine hK1 _ _ ?_
  refine wp_seq_k fun K2 hK2 => ?_
  refine wp_region_list (WL.out ?_)
  refine WL.val (by kernel_rfl) (.pointer (some ⟨p, 0, none⟩)) (by go_simp) ?_
  simp only [Act.put, List.setIfInBounds_toArray, List.set_cons_zero, List.set_cons_succ]
  refine WL.val (by kernel_rfl) (.pointer (some ⟨p, 0, none⟩)) (by go_simp) ?_
  simp only [Act.put, List.setIfInBounds_toArray, List.set_cons_zero, List.set_cons_succ]
  refine WL.val (by kernel_rfl) (.pointer (some ⟨p, 0, none⟩)) (by go_simp) ?_
  simp only [Act.put, List.setIfInBounds_toArray, List.set_cons_zero, List.set_cons_succ]
  refine WL.callF (by kernel_rfl) 36 _ _ rfl Tryd.in36 #[.pointer (some ⟨p, 0, none⟩)] (by simp [Act.eval]) ?_
  refine (Go.MuLone.lock_free Tryd.muLib ⟨p, 0, none⟩ w (HM.out.bx.c 0 rfl) (HM.out.bx.frozen 0)).mono ?_
  rintro e w1 ⟨rfl, hw1⟩
  refine ⟨_, rfl, ?_⟩
  have N1 : Keep (PmN w p mb N Ks Ks 1 w1) := ⟨by rw [hw1]; exact HM.out.relock 1⟩
  clear hw1
  simp only [Act.put, List.setIfInBounds_toArray, List.set_cons_zero, List.set_cons_succ]
  refine WL.nil ?_
  refine hK2 _ _ ?_
  refine wp_seq_k fun K3 hK3 => ?_
  refine wp_region_list (WL.out ?_)
  refine WL.val (by kernel_rfl) (.pointer (some ⟨p, 0, none⟩)) (by go_simp) ?_
  simp only [Act.put, List.setIfInBounds_toArray, List.set_cons_zero, List.set_cons_succ]
  refine WL.val (by kernel_rfl) (.pointer (some ⟨p, 0, none⟩)) (by go_simp) ?_
  simp only [Act.put, List.setIfInBounds_toArray, List.set_cons_zero, List.set_cons_succ]
  refine WL.val (by kernel_rfl) (.pointer (some ⟨p, 0, none⟩)) (by go_simp) ?_
  simp only [Act.put, List.setIfInBounds_toArray, List.set_cons_zero, List.set_cons_succ]
  refine WL.defer (by kernel_rfl) { target := .fn (.func 37) #[], args := #[.pointer (some ⟨p, 0, none⟩)] } (by go_simp) ?_
  simp only [Act.put]
  refine WL.nil ?_
  refine hK3 _ _ ?_
  refine wp_seq_k fun K4 hK4 => ?_
  refine wp_seq_k fun K5 hK5 => ?_
  refine wp_region_list (WL.out ?_)
  refine WL.val (by kernel_rfl) (.pointer (some ⟨p, 0, none⟩)) (by go_simp) ?_
  simp only [Act.put, List.setIfInBounds_toArray, List.set_cons_zero, List.set_cons_succ]
  refine WL.val (by kernel_rfl) (.int .i64 f) (by go_simp) ?_
  simp only [Act.put, List.setIfInBounds_toArray, List.set_cons_zero, List.set_cons_succ]
  refine WL.val (by kernel_rfl) (.int .i64 t) (by go_simp) ?_
  simp only [Act.put, List.setIfInBounds_toArray, List.set_cons_zero, List.set_cons_succ]
  refine WL.callF (by kernel_rfl) 38 _ _ rfl Tryd.in38 #[.pointer (some ⟨p, 0, none⟩), .int .i64 f, .int .i64 t, .slice none 0 0] (by simp [Act.eval]) ?_
  refine (find_any w1 p mb N 1 Ks f t none 0 0 [] N1.out.at_ rfl (nm_nil _) (by omega)).mono ?_
  rintro e wz_ ⟨q, er, rfl, her, hq, hw_⟩
  refine ⟨_, rfl, ?_⟩
  have hw_ := hw_.symm
  subst hw_
  have Her := Keep.mk her
  have Hq := Keep.mk hq
  clear her hq
  simp only [Act.put, List.setIfInBounds_toArray, List.set_cons_zero, List.set_cons_succ]
  refine WL.val (by kernel_rfl) (.tuple #[q, .int .i64 er]) (by go_simp) ?_
  simp only [Act.put, List.setIfInBounds_toArray, List.set_cons_zero, List.set_cons_succ]
  refine WL.val (by kernel_rfl) (q) (by go_simp) ?_
  simp only [Act.put, List.setIfInBounds_toArray, List.set_cons_zero, List.set_cons_succ]
  refine WL.val (by kernel_rfl) (.int .i64 er) (by go_simp) ?_
  simp only [Act.put, List.setIfInBounds_toArray, List.set_cons_zero, List.set_cons_succ]
  refine WL.val (by kernel_rfl) (q) (by go_simp) ?_
  simp only [Act.put, List.setIfInBounds_toArray, List.set_cons_zero, List.set_cons_succ]
  refine WL.val (by kernel_rfl) (.int .i64 er) (by go_simp) ?_
  simp only [Act.put, List.setIfInBounds_toArray, List.set_cons_zero, List.set_cons_succ]
  refine WL.nil ?_
  refine hK5 _ _ ?_
  refine wp_seq_k fun K6 hK6 => ?_
  refine wp_region_list (WL.out ?_)
  refine WL.val (by kernel_rfl) (.int .i64 er) (by go_simp) ?_
  simp only [Act.put, List.setIfInBounds_toArray, List.set_cons_zero, List.set_cons_succ]
  by_cases h4_1 : er = 0
  · skip
    refine WL.val (by kernel_rfl) (.bool false) (by go_simp) ?_
    simp only [Act.put, List.setIfInBounds_toArray, List.set_cons_zero, List.set_cons_succ]
    refine WL.nil ?_
    refine hK6 _ _ ?_
    refine wp_cond_false rfl ?_
    refine wp_skip ?_
    refine hK4 _ _ ?_
    refine wp_seq_k fun K7 hK7 => ?_
    refine wp_seq_k fun K8 hK8 => ?_
    refine wp_region_list (WL.out ?_)
    refine WL.val (by kernel_rfl) (.slice ba bn bc) (by go_simp) ?_
    simp only [Act.put, List.setIfInBounds_toArray, List.set_cons_zero, List.set_cons_succ]
    refine WL.val (by kernel_rfl) (.int .i64 (bn : Int)) (by go_simp) ?_
    simp only [Act.put, List.setIfInBounds_toArray, List.set_cons_zero, List.set_cons_succ]
    by_cases h6_2 : (bn : Int) > 2097194
    · skip
      refine WL.val (by kernel_rfl) (.bool true) (by go_simp) ?_
      simp only [Act.put, List.setIfInBounds_toArray, List.set_cons_zero, List.set_cons_succ]
      refine WL.nil ?_
      refine hK8 _ _ ?_
      refine wp_cond_true rfl ?_
      refine wp_seq_k fun K9 hK9 => ?_
      refine wp_region_list (WL.out ?_)
      refine WL.val (by kernel_rfl) (.int .i64 4) (by go_simp) ?_
      simp only [Act.put, List.setIfInBounds_toArray, List.set_cons_zero, List.set_cons_succ]
      refine WL.nil ?_
      refine hK9 _ _ ?_
      refine wp_ret ?_
      have l1 := N1.out.at_.bx.c 0 (rfl : _ = some (Value.int .i32 1))
      have fr1 := N1.out.at_.bx.frozen 0
      try simp only [Exit.inBlock, Exit.then]
      refine leaves_cons (f := 37) (args := #[.pointer (some ⟨p, 0, none⟩)]) (by simp) (by simp [go_sem]) ?_
      refine (Go.MuLone.unlock_deferred Tryd.muLib ⟨p, 0, none⟩ .returning _ l1 fr1).mono ?_
      rintro e u' w'' ⟨rfl, rfl, rfl⟩
      have NF := N1.out.trans (N1.out.at_.relock 0)
      exact ⟨_, results_tmp rfl _ _ _, 4, Ks, rfl, snd_big (Her.out.symm.trans h4_1) (by have := Hbn.out; omega), NF, fun _ => rfl, fun e => absurd e (by decide)⟩
    · skip
      refine WL.val (by kernel_rfl) (.bool false) (by go_simp) ?_
      simp only [Act.put, List.setIfInBounds_toArray, List.set_cons_zero, List.set_cons_succ]
      refine WL.nil ?_
      refine hK8 _ _ ?_
      refine wp_cond_false rfl ?_
      refine wp_skip ?_
      refine hK7 _ _ ?_
      refine wp_seq_k fun K10 hK10 => ?_
      refine wp_region_list (WL.out ?_)
      refine WL.val (by kernel_rfl) (.pointer (some ⟨p, 0, none⟩)) (by go_simp) ?_
      simp only [Act.put, List.setIfInBounds_toArray, List.set_cons_zero, List.set_cons_succ]
      refine WL.val (by kernel_rfl) (.int .i64 f) (by go_simp) ?_
      simp only [Act.put, List.setIfInBounds_toArray, List.set_cons_zero, List.set_cons_succ]
      refine WL.val (by kernel_rfl) (.int .i64 t) (by go_simp) ?_
      simp only [Act.put, List.setIfInBounds_toArray, List.set_cons_zero, List.set_cons_succ]
      refine WL.bld (by kernel_rfl) 58 #[(0, .tmp 32), (1, .tmp 33)] rfl [(0, .int .i64 f), (1, .int .i64 t)] (by simp [Act.eval]) #[.int .i64 f, .int .i64 t] (bldP _ _) ?_
      simp only [Act.put, List.setIfInBounds_toArray, List.set_cons_zero, List.set_cons_succ]
      refine WL.val (by kernel_rfl) (.slice ba bn bc) (by go_simp) ?_
      simp only [Act.put, List.setIfInBounds_toArray, List.set_cons_zero, List.set_cons_succ]
      refine WL.callF (by kernel_rfl) 39 _ _ rfl Tryd.in39 #[.pointer (some ⟨p, 0, none⟩), .agg #[.int .i64 f, .int .i64 t], .slice ba bn bc] (by simp [Act.eval]) ?_
      refine (lay_any w1 p mb N 1 Ks f t _ b N1.out.at_ (thr_of (fdE_nil.symm.trans (Her.out.symm.trans (by first | exact h4_1 | assumption)))) (row_of HB.out N1.out.gr HD.out) HBy.out (by have := Hbn.out; omega)).mono ?_
      rintro e w3 ⟨er3, K3, rfl, he3, k1, k2, k3⟩
      refine ⟨_, rfl, ?_⟩
      have He3 := Keep.mk he3
      have N3 : Keep (PmN w p mb N Ks K3 1 w3) := ⟨N1.out.trans k1⟩
      have H2 := Keep.mk k2
      have H3 := Keep.mk k3
      clear he3 k1 k2 k3
      simp only [Act.put, List.setIfInBounds_toArray, List.set_cons_zero, List.set_cons_succ]
      refine WL.val (by kernel_rfl) (.int .i64 er3) (by go_simp) ?_
      simp only [Act.put, List.setIfInBounds_toArray, List.set_cons_zero, List.set_cons_succ]
      refine WL.nil ?_
      refine hK10 _ _ ?_
      refine wp_ret ?_
      have l1 := N3.out.at_.bx.c 0 (rfl : _ = some (Value.int .i32 1))
      have fr1 := N3.out.at_.bx.frozen 0
      try simp only [Exit.inBlock, Exit.then]
      refine leaves_cons (f := 37) (args := #[.pointer (some ⟨p, 0, none⟩)]) (by simp) (by simp [go_sem]) ?_
      refine (Go.MuLone.unlock_deferred Tryd.muLib ⟨p, 0, none⟩ .returning _ l1 fr1).mono ?_
      rintro e u' w'' ⟨rfl, rfl, rfl⟩
      have NF := N3.out.trans (N3.out.at_.relock 0)
      exact ⟨_, results_tmp rfl _ _ _, er3, K3, rfl, snd_lay (Her.out.symm.trans h4_1) (by have := Hbn.out; omega) He3.out, NF, H2.out, H3.out⟩
  · skip
    refine WL.val (by kernel_rfl) (.bool true) (by go_simp) ?_
    simp only [Act.put, List.setIfInBounds_toArray, List.set_cons_zero, List.set_cons_succ]
    refine WL.nil ?_
    refine hK6 _ _ ?_
    refine wp_cond_true rfl ?_
    refine wp_seq_k fun K11 hK11 => ?_
    refine wp_region_list (WL.out ?_)
    refine WL.val (by kernel_rfl) (.int .i64 er) (by go_simp) ?_
    simp only [Act.put, List.setIfInBounds_toArray, List.set_cons_zero, List.set_cons_succ]
    refine WL.val (by kernel_rfl) (.int .i64 er) (by go_simp) ?_
    simp only [Act.put, List.setIfInBounds_toArray, List.set_cons_zero, List.set_cons_succ]
    refine WL.nil ?_
    refine hK11 _ _ ?_
    refine wp_ret ?_
    have l1 := N1.out.at_.bx.c 0 (rfl : _ = some (Value.int .i32 1))
    have fr1 := N1.out.at_.bx.frozen 0
    try simp only [Exit.inBlock, Exit.then]
    refine leaves_cons (f := 37) (args := #[.pointer (some ⟨p, 0, none⟩)]) (by simp) (by simp [go_sem]) ?_
    refine (Go.MuLone.unlock_deferred Tryd.muLib ⟨p, 0, none⟩ .returning _ l1 fr1).mono ?_
    rintro e u' w'' ⟨rfl, rfl, rfl⟩
    have NF := N1.out.trans (N1.out.at_.relock 0)
    exact ⟨_, results_tmp rfl _ _ _, er, Ks, rfl, snd_err Her.out h4_1, NF, fun _ => rfl, fun e => absurd e h4_1⟩
set_option maxRecDepth 8000 in
theorem pln (w : World) (p mb N : Nat) (Ks : List Lk) (f t : Int) (la : Option Addr) (n cap : Nat) (Hlv : Keep ((if thr N f t = true then (lkOf Ks f t).v else .slice none 0 0) = .slice la n cap)) (HM : Keep (PmAt w p mb N 0 Ks)) : Calls Tryd.prog 18 #[.pointer (some ⟨p, 0, none⟩), .int .i64 f, .int .i64 t] w fun e w' => e = .returned (.int .i64 (n : Int)) ∧ PmN w p mb N Ks Ks 0 w' := by
  go_enter_defers Tryd.func18, Tryd.ntmps18
  refine wp_seq_k fun K1 hK1 => ?_
  refine wp_region_list (WL.out ?_)
  refine WL.val (by kernel_rfl) (.int .i64 0) (by go_simp) ?_
  simp only [Act.put, List.setIfInBounds_toArray, List.set_cons_zero, List.set_cons_succ]
  refine WL.nil ?_
  refine hK1 _ _ ?_
  refine wp_seq_k fun K2 hK2 => ?_
  refine wp_region_list (WL.out ?_)
  refine WL.val (by kernel_rfl) (.pointer (some ⟨p, 0, none⟩)) (by go_simp) ?_
  simp only [Act.put, List.setIfInBounds_toArray, List.set_cons_zero, List.set_cons_succ]
  refine WL.val (by kernel_rfl) (.pointer (some ⟨p, 0, none⟩)) (by go_simp) ?_
  simp only [Act.put, List.setIfInBounds_toArray, List.set_cons_zero, List.set_cons_succ]
  refine WL.val (by kernel_rfl) (.pointer (some ⟨p, 0, none⟩)) (by go_simp) ?_
  simp only [Act.put, List.setIfInBounds_toArray, List.set_cons_zero, List.set_cons_succ]
  refine WL.callF (by kernel_rfl) 36 _ _ rfl Tryd.in36 #[.pointer (some ⟨p, 0, none⟩)] (by simp [Act.eval]) ?_
  refine (Go.MuLone.lock_free Tryd.muLib ⟨p, 0, none⟩ w (HM.out.bx.c 0 rfl) (HM.out.bx.frozen 0)).mono ?_
  rintro e w1 ⟨rfl, hw1⟩
  refine ⟨_, rfl, ?_⟩
  have N1 : Keep (PmN w p mb N Ks Ks 1 w1) := ⟨by rw [hw1]; exact HM.out.relock 1⟩
  clear hw1
  simp only [Act.put, List.setIfInBounds_toArray, List.set_cons_zero, List.set_cons_succ]
  refine WL.nil ?_
  refine hK2 _ _ ?_
  refine wp_seq_k fun K3 hK3 => ?_
  refine wp_region_list (WL.out ?_)
  refine WL.val (by kernel_rfl) (.pointer (some ⟨p, 0, none⟩)) (by go_simp) ?_
  simp only [Act.put, List.setIfInBounds_toArray, List.set_cons_zero, List.set_cons_succ]
  refine WL.val (by kernel_rfl) (.pointer (some ⟨p, 0, none⟩)) (by go_simp) ?_
  simp only [Act.put, List.setIfInBounds_toArray, List.set_cons_zero, List.set_cons_succ]
  refine WL.val (by kernel_rfl) (.pointer (some ⟨p, 0, none⟩)) (by go_simp) ?_
  simp only [Act.put, List.setIfInBounds_toArray, List.set_cons_zero, List.set_cons_succ]
  refine WL.defer (by kernel_rfl) { target := .fn (.func 37) #[], args := #[.pointer (some ⟨p, 0, none⟩)] } (by go_simp) ?_
  simp only [Act.put]
  refine WL.nil ?_
  refine hK3 _ _ ?_
  refine wp_seq_k fun K4 hK4 => ?_
  refine wp_region_list (WL.out ?_)
  refine WL.val (by kernel_rfl) (.pointer (some ⟨p, 0, none⟩)) (by go_simp) ?_
  simp only [Act.put, List.setIfInBounds_toArray, List.set_cons_zero, List.set_cons_succ]
  refine WL.val (by kernel_rfl) (.pointer (some ⟨p, 0, none⟩)) (by go_simp) ?_
  simp only [Act.put, List.setIfInBounds_toArray, List.set_cons_zero, List.set_cons_succ]
  refine WL.val (by kernel_rfl) (.pointer (some ⟨p, 2, none⟩)) (by go_simp) ?_
  simp only [Act.put, List.setIfInBounds_toArray, List.set_cons_zero, List.set_cons_succ]
  have c2_ := N1.out.at_.bx.c 2 (rfl : _ = some (Value.map (some mb)))
  refine WL.val (by kernel_rfl) (.map (some mb)) (by go_simp) ?_
  simp only [Act.put, List.setIfInBounds_toArray, List.set_cons_zero, List.set_cons_succ]
  refine WL.val (by kernel_rfl) (.int .i64 f) (by go_simp) ?_
  simp only [Act.put, List.setIfInBounds_toArray, List.set_cons_zero, List.set_cons_succ]
  refine WL.val (by kernel_rfl) (.int .i64 t) (by go_simp) ?_
  simp only [Act.put, List.setIfInBounds_toArray, List.set_cons_zero, List.set_cons_succ]
  refine WL.bld (by kernel_rfl) 58 #[(0, .tmp 18), (1, .tmp 19)] rfl [(0, .int .i64 f), (1, .int .i64 t)] (by simp [Act.eval]) #[.int .i64 f, .int .i64 t] (bldP _ _) ?_
  simp only [Act.put, List.setIfInBounds_toArray, List.set_cons_zero, List.set_cons_succ]
  refine WL.lk (by kernel_rfl) (.tmp 17) (.tmp 20) false rfl (.map (some mb)) (kV (f, t)) (.slice la n cap) rfl rfl ((N1.out.at_.mp.look f t).trans (by rw [Hlv.out])) ?_
  simp only [Act.put, List.setIfInBounds_toArray, List.set_cons_zero, List.set_cons_succ]
  refine WL.val (by kernel_rfl) (.int .i64 (n : Int)) (by go_simp) ?_
  simp only [Act.put, List.setIfInBounds_toArray, List.set_cons_zero, List.set_cons_succ]
  refine WL.val (by kernel_rfl) (.int .i64 (n : Int)) (by go_simp) ?_
  simp only [Act.put, List.setIfInBounds_toArray, List.set_cons_zero, List.set_cons_succ]
  refine WL.nil ?_
  refine hK4 _ _ ?_
  refine wp_ret ?_
  have l1 := N1.out.at_.bx.c 0 (rfl : _ = some (Value.int .i32 1))
  have fr1 := N1.out.at_.bx.frozen 0
  try simp only [Exit.inBlock, Exit.then]
  refine leaves_cons (f := 37) (args := #[.pointer (some ⟨p, 0, none⟩)]) (by simp) (by simp [go_sem]) ?_
  refine (Go.MuLone.unlock_deferred Tryd.muLib ⟨p, 0, none⟩ .returning _ l1 fr1).mono ?_
  rintro e u' w'' ⟨rfl, rfl, rfl⟩
  have NF := N1.out.trans (N1.out.at_.relock 0)
  exact ⟨_, results_tmp rfl _ _ _, rfl, NF⟩
set_option maxRecDepth 8000 in
theorem pdr (w : World) (p mb N : Nat) (Ks : List Lk) (f t : Int) (i : Int) (HM : Keep (PmAt w p mb N 0 Ks)) : Calls Tryd.prog 25 #[.pointer (some ⟨p, 0, none⟩), .int .i64 f, .int .i64 t, .int .i64 i] w fun e w' => ∃ er K', e = .returned (.int .i64 er) ∧ er = nmE N Ks f t i ∧ PmN w p mb N Ks K' 0 w' ∧ (er ≠ 0 → K' = Ks) ∧ (er = 0 → ∃ v, K' = Ks.set (ix f t) ⟨v, (lkOf Ks f t).R.eraseIdx i.toNat⟩) := by
  go_enter_defers Tryd.func25, Tryd.ntmps25
  refine wp_seq_k fun K1 hK1 => ?_
  refine wp_region_list (WL.out ?_)
  refine WL.val (by kernel_rfl) (.int .i64 0) (by go_simp) ?_
  simp only [Act.put, List.setIfInBounds_toArray, List.set_cons_zero, List.set_cons_succ]
  refine WL.nil ?_
  refine hK1 _ _ ?_
  refine wp_seq_k fun K2 hK2 => ?_
  refine wp_region_list (WL.out ?_)
  refine WL.val (by kernel_rfl) (.pointer (some ⟨p, 0, none⟩)) (by go_simp) ?_
  simp only [Act.put, List.setIfInBounds_toArray, List.set_cons_zero, List.set_cons_succ]
  refine WL.val (by kernel_rfl) (.pointer (some ⟨p, 0, none⟩)) (by go_simp) ?_
  simp only [Act.put, List.setIfInBounds_toArray, List.set_cons_zero, List.set_cons_succ]
  refine WL.val (by kernel_rfl) (.pointer (some ⟨p, 0, none⟩)) (by go_simp) ?_
  simp only [Act.put, List.setIfInBounds_toArray, List.set_cons_zero, List.set_cons_succ]
  refine WL.callF (by kernel_rfl) 36 _ _ rfl Tryd.in36 #[.pointer (some ⟨p, 0, none⟩)] (by simp [Act.eval]) ?_
  refine (Go.MuLone.lock_free Tryd.muLib ⟨p, 0, none⟩ w (HM.out.bx.c 0 rfl) (HM.out.bx.frozen 0)).mono ?_
  rintro e w1 ⟨rfl, hw1⟩
  refine ⟨_, rfl, ?_⟩
  have N1 : Keep (PmN w p mb N Ks Ks 1 w1) := ⟨by rw [hw1]; exact HM.out.relock 1⟩
  clear hw1
  simp only [Act.put, List.setIfInBounds_toArray, List.set_cons_zero, List.set_cons_succ]
  refine WL.nil ?_
  refine hK2 _ _ ?_
  refine wp_seq_k fun K3 hK3 => ?_
  refine wp_region_list (WL.out ?_)
  refine WL.val (by kernel_rfl) (.pointer (some ⟨p, 0, none⟩)) (by go_simp) ?_
  simp only [Act.put, List.setIfInBounds_toArray, List.set_cons_zero, List.set_cons_succ]
  refine WL.val (by kernel_rfl) (.pointer (some ⟨p, 0, none⟩)) (by go_simp) ?_
  simp only [Act.put, List.setIfInBounds_toArray, List.set_cons_zero, List.set_cons_succ]
  refine WL.val (by kernel_rfl) (.pointer (some ⟨p, 0, none⟩)) (by go_simp) ?_
  simp only [Act.put, List.setIfInBounds_toArray, List.set_cons_zero, List.set_cons_succ]
  refine WL.defer (by kernel_rfl) { target := .fn (.func 37) #[], args := #[.pointer (some ⟨p, 0, none⟩)] } (by go_simp) ?_
  simp only [Act.put]
  refine WL.nil ?_
  refine hK3 _ _ ?_
  refine wp_seq_k fun K4 hK4 => ?_
  refine wp_seq_k fun K5 hK5 => ?_
  refine wp_region_list (WL.out ?_)
  refine WL.val (by kernel_rfl) (.pointer (some ⟨p, 0, none⟩)) (by go_simp) ?_
  simp only [Act.put, List.setIfInBounds_toArray, List.set_cons_zero, List.set_cons_succ]
  refine WL.val (by kernel_rfl) (.int .i64 f) (by go_simp) ?_
  simp only [Act.put, List.setIfInBounds_toArray, List.set_cons_zero, List.set_cons_succ]
  refine WL.val (by kernel_rfl) (.int .i64 t) (by go_simp) ?_
  simp only [Act.put, List.setIfInBounds_toArray, List.set_cons_zero, List.set_cons_succ]
  refine WL.val (by kernel_rfl) (.int .i64 i) (by go_simp) ?_
  simp only [Act.put, List.setIfInBounds_toArray, List.set_cons_zero, List.set_cons_succ]
  refine WL.bs (by kernel_rfl) 89 1 #[(0, .tmp 22)] rfl #[(0, .int .i64 i)] (by simp [Act.eval]) _ _ (bsI1 i w1) ?_
  have bb := below_new w1 (.cells #[.int .i64 i] 3)
  have QN : Keep (Blk (w1.alloc (.cells #[.int .i64 i] 3)) w1.heap.size 3 #[.int .i64 i]) := ⟨Blk.new w1 3 #[.int .i64 i]⟩
  have N2 : Keep (PmN w p mb N Ks Ks 1 (w1.alloc (.cells #[.int .i64 i] 3))) := ⟨N1.out.trans (PmN.below N1.out.at_ bb)⟩
  clear bb N1
  generalize w1.alloc (.cells #[.int .i64 i] 3) = w2 at *
  obtain ⟨gn, hgn⟩ : ∃ z, Keep (z = w1.heap.size) := ⟨_, ⟨rfl⟩⟩
  rw [← hgn.out] at QN ⊢
  have HNm : Keep (NmAt w2 (some ⟨gn, 0, none⟩) [i]) := ⟨fun j i hj => ⟨gn, rfl, QN.out.c j (by rcases j with _ | j <;> simp_all)⟩⟩
  simp only [Act.put, List.setIfInBounds_toArray, List.set_cons_zero, List.set_cons_succ]
  refine WL.callF (by kernel_rfl) 38 _ _ rfl Tryd.in38 #[.pointer (some ⟨p, 0, none⟩), .int .i64 f, .int .i64 t, .slice (some ⟨gn, 0, none⟩) 1 1] (by simp [Act.eval]) ?_
  refine (find_any w2 p mb N 1 Ks f t (some ⟨gn, 0, none⟩) 1 1 [i] N2.out.at_ rfl HNm.out (by omega)).mono ?_
  rintro e wz_ ⟨q, er, rfl, her, hq, hw_⟩
  refine ⟨_, rfl, ?_⟩
  have hw_ := hw_.symm
  subst hw_
  have Her := Keep.mk her
  have Hq := Keep.mk hq
  clear her hq
  simp only [Act.put, List.setIfInBounds_toArray, List.set_cons_zero, List.set_cons_succ]
  refine WL.val (by kernel_rfl) (.tuple #[q, .int .i64 er]) (by go_simp) ?_
  simp only [Act.put, List.setIfInBounds_toArray, List.set_cons_zero, List.set_cons_succ]
  refine WL.val (by kernel_rfl) (q) (by go_simp) ?_
  simp only [Act.put, List.setIfInBounds_toArray, List.set_cons_zero, List.set_cons_succ]
  refine WL.val (by kernel_rfl) (.int .i64 er) (by go_simp) ?_
  simp only [Act.put, List.setIfInBounds_toArray, List.set_cons_zero, List.set_cons_succ]
  refine WL.val (by kernel_rfl) (q) (by go_simp) ?_
  simp only [Act.put, List.setIfInBounds_toArray, List.set_cons_zero, List.set_cons_succ]
  refine WL.val (by kernel_rfl) (.int .i64 er) (by go_simp) ?_
  simp only [Act.put, List.setIfInBounds_toArray, List.set_cons_zero, List.set_cons_succ]
  refine WL.nil ?_
  refine hK5 _ _ ?_
  refine wp_seq_k fun K6 hK6 => ?_
  refine wp_region_list (WL.out ?_)
  refine WL.val (by kernel_rfl) (.int .i64 er) (by go_simp) ?_
  simp only [Act.put, List.setIfInBounds_toArray, List.set_cons_zero, List.set_cons_succ]
  by_cases h4_1 : er = 0
  · skip
    refine WL.val (by kernel_rfl) (.bool false) (by go_simp) ?_
    simp only [Act.put, List.setIfInBounds_toArray, List.set_cons_zero, List.set_cons_succ]
    refine WL.nil ?_
    refine hK6 _ _ ?_
    refine wp_cond_false rfl ?_
    refine wp_skip ?_
    refine hK4 _ _ ?_
    refine wp_seq_k fun K7 hK7 => ?_
    refine wp_region_list (WL.out ?_)
    have hz : er = 0 := h4_1
    obtain ⟨k, n, gl, cap, ei, hk, hn, hnn, hc, hcm, hv, hth, hcl⟩ := N2.out.at_.open_ (fdE_one.symm.trans (Her.out.symm.trans hz))
    have hqv := Hq.out hz
    rw [hv] at hqv
    subst ei hqv
    have Hk := Keep.mk hk
    have Hn := Keep.mk hn
    have Hnn := Keep.mk hnn
    have Hc := Keep.mk hc
    have Hcm := Keep.mk hcm
    have Hv := Keep.mk hv
    have Hcl := Keep.mk hcl
    clear hk hn hnn hc hcm hv hcl
    refine WL.val (by kernel_rfl) (.pointer (some ⟨p, 0, none⟩)) (by go_simp) ?_
    simp only [Act.put, List.setIfInBounds_toArray, List.set_cons_zero, List.set_cons_succ]
    refine WL.val (by kernel_rfl) (.int .i64 f) (by go_simp) ?_
    simp only [Act.put, List.setIfInBounds_toArray, List.set_cons_zero, List.set_cons_succ]
    refine WL.val (by kernel_rfl) (.int .i64 t) (by go_simp) ?_
    simp only [Act.put, List.setIfInBounds_toArray, List.set_cons_zero, List.set_cons_succ]
    refine WL.bld (by kernel_rfl) 58 #[(0, .tmp 31), (1, .tmp 32)] rfl [(0, .int .i64 f), (1, .int .i64 t)] (by simp [Act.eval]) #[.int .i64 f, .int .i64 t] (bldP _ _) ?_
    simp only [Act.put, List.setIfInBounds_toArray, List.set_cons_zero, List.set_cons_succ]
    refine WL.val (by kernel_rfl) (.int .i64 (k : Int)) (by go_simp) ?_
    simp only [Act.put, List.setIfInBounds_toArray, List.set_cons_zero, List.set_cons_succ]
    refine WL.callF (by kernel_rfl) 40 _ _ rfl Tryd.in40 #[.pointer (some ⟨p, 0, none⟩), .agg #[.int .i64 f, .int .i64 t], .int .i64 (k : Int)] (by simp [Act.eval]) ?_
    refine (lose_any w2 p mb N k 1 Ks f t N2.out.at_ hth (by rw [Hn.out]; exact Hk.out)).mono ?_
    rintro e w3 ⟨rfl, v3, k1, _, _⟩
    refine ⟨_, rfl, ?_⟩
    have N3 : Keep (PmN w p mb N Ks (Ks.set (ix f t) ⟨v3, (lkOf Ks f t).R.eraseIdx k⟩) 1 w3) := ⟨N2.out.trans k1⟩
    clear k1
    simp only [Act.put, List.setIfInBounds_toArray, List.set_cons_zero, List.set_cons_succ]
    refine WL.nil ?_
    refine hK7 _ _ ?_
    refine wp_seq_k fun K8 hK8 => ?_
    refine wp_region_list (WL.out ?_)
    refine WL.val (by kernel_rfl) (.int .i64 0) (by go_simp) ?_
    simp only [Act.put, List.setIfInBounds_toArray, List.set_cons_zero, List.set_cons_succ]
    refine WL.nil ?_
    refine hK8 _ _ ?_
    refine wp_ret ?_
    have l1 := N3.out.at_.bx.c 0 (rfl : _ = some (Value.int .i32 1))
    have fr1 := N3.out.at_.bx.frozen 0
    try simp only [Exit.inBlock, Exit.then]
    refine leaves_cons (f := 37) (args := #[.pointer (some ⟨p, 0, none⟩)]) (by simp) (by simp [go_sem]) ?_
    refine (Go.MuLone.unlock_deferred Tryd.muLib ⟨p, 0, none⟩ .returning _ l1 fr1).mono ?_
    rintro e u' w'' ⟨rfl, rfl, rfl⟩
    have NF := N3.out.trans (N3.out.at_.relock 0)
    exact ⟨_, results_tmp rfl _ _ _, 0, _, rfl, h4_1.symm.trans (Her.out.trans fdE_one), NF, fun e => absurd rfl e, fun _ => ⟨v3, rfl⟩⟩
  · skip
    refine WL.val (by kernel_rfl) (.bool true) (by go_simp) ?_
    simp only [Act.put, List.setIfInBounds_toArray, List.set_cons_zero, List.set_cons_succ]
    refine WL.nil ?_
    refine hK6 _ _ ?_
    refine wp_cond_true rfl ?_
    refine wp_seq_k fun K9 hK9 => ?_
    refine wp_region_list (WL.out ?_)
    refine WL.val (by kernel_rfl) (.int .i64 er) (by go_simp) ?_
    simp only [Act.put, List.setIfInBounds_toArray, List.set_cons_zero, List.set_cons_succ]
    refine WL.val (by kernel_rfl) (.int .i64 er) (by go_simp) ?_
    simp only [Act.put, List.setIfInBounds_toArray, List.set_cons_zero, List.set_cons_succ]
    refine WL.nil ?_
    refine hK9 _ _ ?_
    refine wp_ret ?_
    have l1 := N2.out.at_.bx.c 0 (rfl : _ = some (Value.int .i32 1))
    have fr1 := N2.out.at_.bx.frozen 0
    try simp only [Exit.inBlock, Exit.then]
    refine leaves_cons (f := 37) (args := #[.pointer (some ⟨p, 0, none⟩)]) (by simp) (by simp [go_sem]) ?_
    refine (Go.MuLone.unlock_deferred Tryd.muLib ⟨p, 0, none⟩ .returning _ l1 fr1).mono ?_
    rintro e u' w'' ⟨rfl, rfl, rfl⟩
    have NF := N2.out.trans (N2.out.at_.relock 0)
    exact ⟨_, results_tmp rfl _ _ _, er, Ks, rfl, Her.out.trans fdE_one, NF, fun _ => rfl, fun e => absurd e h4_1⟩
theorem ptw_err {N : Nat} {K : List Lk} {f t i er : Int} (h : er = nmE N K f t i) (h0 : ¬ er = 0) : er = twE N K f t i := by
  unfold twE
  rw [if_neg (by rw [← h]; exact h0), h]
theorem ptw_lay {N : Nat} {K : List Lk} {f t i er : Int} (h : 0 = nmE N K f t i) (he : er = layE K f t) : er = twE N K f t i := by
  unfold twE
  rw [if_pos h.symm, he]
  rfl
set_option maxRecDepth 8000 in
theorem ptw (w : World) (p mb N : Nat) (Ks : List Lk) (f t : Int) (i : Int) (HM : Keep (PmAt w p mb N 0 Ks)) : Calls Tryd.prog 20 #[.pointer (some ⟨p, 0, none⟩), .int .i64 f, .int .i64 t, .int .i64 i] w fun e w' => ∃ er K', e = .returned (.int .i64 er) ∧ er = twE N Ks f t i ∧ PmN w p mb N Ks K' 0 w' ∧ (er ≠ 0 → K' = Ks) ∧ (er = 0 → ∃ u v q, (lkOf Ks f t).R[i.toNat]? = some q ∧ K' = Ks.set (ix f t) ⟨v, (lkOf Ks f t).R ++ [(u, q.2)]⟩) := by
  go_enter_defers Tryd.func20, Tryd.ntmps20
  refine wp_seq_k fun K1 hK1 => ?_
  refine wp_region_list (WL.out ?_)
  refine WL.val (by kernel_rfl) (.int .i64 0) (by go_simp) ?_
  simp only [Act.put, List.setIfInBounds_toArray, List.set_cons_zero, List.set_cons_succ]
  refine WL.nil ?_
  refine hK1 _ _ ?_
  refine wp_seq_k fun K2 hK2 => ?_
  refine wp_region_list (WL.out ?_)
  refine WL.val (by kernel_rfl) (.pointer (some ⟨p, 0, none⟩)) (by go_simp) ?_
  simp only [Act.put, List.setIfInBounds_toArray, List.set_cons_zero, List.set_cons_succ]
  refine WL.val (by kernel_rfl) (.pointer (some ⟨p, 0, none⟩)) (by go_simp) ?_
  simp only [Act.put, List.setIfInBounds_toArray, List.set_cons_zero, List.set_cons_succ]
  refine WL.val (by kernel_rfl) (.pointer (some ⟨p, 0, none⟩)) (by go_simp) ?_
  simp only [Act.put, List.setIfInBounds_toArray, List.set_cons_zero, List.set_cons_succ]
  refine WL.callF (by kernel_rfl) 36 _ _ rfl Tryd.in36 #[.pointer (some ⟨p, 0, none⟩)] (by simp [Act.eval]) ?_
  refine (Go.MuLone.lock_free Tryd.muLib ⟨p, 0, none⟩ w (HM.out.bx.c 0 rfl) (HM.out.bx.frozen 0)).mono ?_
  rintro e w1 ⟨rfl, hw1⟩
  refine ⟨_, rfl, ?_⟩
  have N1 : Keep (PmN w p mb N Ks Ks 1 w1) := ⟨by rw [hw1]; exact HM.out.relock 1⟩
  clear hw1
  simp only [Act.put, List.setIfInBounds_toArray, List.set_cons_zero, List.set_cons_succ]
  refine WL.nil ?_
  refine hK2 _ _ ?_
  refine wp_seq_k fun K3 hK3 => ?_
  refine wp_region_list (WL.out ?_)
  refine WL.val (by kernel_rfl) (.pointer (some ⟨p, 0, none⟩)) (by go_simp) ?_
  simp only [Act.put, List.setIfInBounds_toArray, List.set_cons_zero, List.set_cons_succ]
  refine WL.val (by kernel_rfl) (.pointer (some ⟨p, 0, none⟩)) (by go_simp) ?_
  simp only [Act.put, List.setIfInBounds_toArray, List.set_cons_zero, List.set_cons_succ]
  refine WL.val (by kernel_rfl) (.pointer (some ⟨p, 0, none⟩)) (by go_simp) ?_
  simp only [Act.put, List.setIfInBounds_toArray, List.set_cons_zero, List.set_cons_succ]
  refine WL.defer (by kernel_rfl) { target := .fn (.func 37) #[], args := #[.pointer (some ⟨p, 0, none⟩)] } (by go_simp) ?_
  simp only [Act.put]
  refine WL.nil ?_
  refine hK3 _ _ ?_
  refine wp_seq_k fun K4 hK4 => ?_
  refine wp_region_list (WL.out ?_)
  refine WL.val (by kernel_rfl) (.pointer (some ⟨p, 0, none⟩)) (by go_simp) ?_
  simp only [Act.put, List.setIfInBounds_toArray, List.set_cons_zero, List.set_cons_succ]
  refine WL.val (by kernel_rfl) (.int .i64 f) (by go_simp) ?_
  simp only [Act.put, List.setIfInBounds_toArray, List.set_cons_zero, List.set_cons_succ]
  refine WL.val (by kernel_rfl) (.int .i64 t) (by go_simp) ?_
  simp only [Act.put, List.setIfInBounds_toArray, List.set_cons_zero, List.set_cons_succ]
  refine WL.val (by kernel_rfl) (.int .i64 i) (by go_simp) ?_
  simp only [Act.put, List.setIfInBounds_toArray, List.set_cons_zero, List.set_cons_succ]
  refine WL.bs (by kernel_rfl) 89 1 #[(0, .tmp 22)] rfl #[(0, .int .i64 i)] (by simp [Act.eval]) _ _ (bsI1 i w1) ?_
  have bb := below_new w1 (.cells #[.int .i64 i] 3)
  have QN : Keep (Blk (w1.alloc (.cells #[.int .i64 i] 3)) w1.heap.size 3 #[.int .i64 i]) := ⟨Blk.new w1 3 #[.int .i64 i]⟩
  have N2 : Keep (PmN w p mb N Ks Ks 1 (w1.alloc (.cells #[.int .i64 i] 3))) := ⟨N1.out.trans (PmN.below N1.out.at_ bb)⟩
  clear bb N1
  generalize w1.alloc (.cells #[.int .i64 i] 3) = w2 at *
  obtain ⟨gn, hgn⟩ : ∃ z, Keep (z = w1.heap.size) := ⟨_, ⟨rfl⟩⟩
  rw [← hgn.out] at QN ⊢
  have HNm : Keep (NmAt w2 (some ⟨gn, 0, none⟩) [i]) := ⟨fun j i hj => ⟨gn, rfl, QN.out.c j (by rcases j with _ | j <;> simp_all)⟩⟩
  simp only [Act.put, List.setIfInBounds_toArray, List.set_cons_zero, List.set_cons_succ]
  refine WL.callF (by kernel_rfl) 38 _ _ rfl Tryd.in38 #[.pointer (some ⟨p, 0, none⟩), .int .i64 f, .int .i64 t, .slice (some ⟨gn, 0, none⟩) 1 1] (by simp [Act.eval]) ?_
  refine (find_any w2 p mb N 1 Ks f t (some ⟨gn, 0, none⟩) 1 1 [i] N2.out.at_ rfl HNm.out (by omega)).mono ?_
  rintro e wz_ ⟨q, er, rfl, her, hq, hw_⟩
  refine ⟨_, rfl, ?_⟩
  have hw_ := hw_.symm
  subst hw_
  have Her := Keep.mk her
  have Hq := Keep.mk hq
  clear her hq
  simp only [Act.put, List.setIfInBounds_toArray, List.set_cons_zero, List.set_cons_succ]
  refine WL.val (by kernel_rfl) (.tuple #[q, .int .i64 er]) (by go_simp) ?_
  simp only [Act.put, List.setIfInBounds_toArray, List.set_cons_zero, List.set_cons_succ]
  refine WL.val (by kernel_rfl) (q) (by go_simp) ?_
  simp only [Act.put, List.setIfInBounds_toArray, List.set_cons_zero, List.set_cons_succ]
  refine WL.val (by kernel_rfl) (.int .i64 er) (by go_simp) ?_
  simp only [Act.put, List.setIfInBounds_toArray, List.set_cons_zero, List.set_cons_succ]
  refine WL.val (by kernel_rfl) (q) (by go_simp) ?_
  simp only [Act.put, List.setIfInBounds_toArray, List.set_cons_zero, List.set_cons_succ]
  refine WL.val (by kernel_rfl) (.int .i64 er) (by go_simp) ?_
  simp only [Act.put, List.setIfInBounds_toArray, List.set_cons_zero, List.set_cons_succ]
  refine WL.nil ?_
  refine hK4 _ _ ?_
  refine wp_seq_k fun K5 hK5 => ?_
  refine wp_seq_k fun K6 hK6 => ?_
  refine wp_region_list (WL.out ?_)
  refine WL.val (by kernel_rfl) (.int .i64 er) (by go_simp) ?_
  simp only [Act.put, List.setIfInBounds_toArray, List.set_cons_zero, List.set_cons_succ]
  by_cases h4_1 : er = 0
  · skip
    refine WL.val (by kernel_rfl) (.bool false) (by go_simp) ?_
    simp only [Act.put, List.setIfInBounds_toArray, List.set_cons_zero, List.set_cons_succ]
    refine WL.nil ?_
    refine hK6 _ _ ?_
    refine wp_cond_false rfl ?_
    refine wp_skip ?_
    refine hK5 _ _ ?_
    refine wp_seq_k fun K7 hK7 => ?_
    refine wp_region_list (WL.out ?_)
    have hz : er = 0 := h4_1
    obtain ⟨k, n, gl, cap, ei, hk, hn, hnn, hc, hcm, hv, hth, hcl⟩ := N2.out.at_.open_ (fdE_one.symm.trans (Her.out.symm.trans hz))
    have hqv := Hq.out hz
    rw [hv] at hqv
    subst ei hqv
    have Hk := Keep.mk hk
    have Hn := Keep.mk hn
    have Hnn := Keep.mk hnn
    have Hc := Keep.mk hc
    have Hcm := Keep.mk hcm
    have Hv := Keep.mk hv
    have Hcl := Keep.mk hcl
    clear hk hn hnn hc hcm hv hcl
    refine WL.val (by kernel_rfl) (.pointer (some ⟨p, 0, none⟩)) (by go_simp) ?_
    simp only [Act.put, List.setIfInBounds_toArray, List.set_cons_zero, List.set_cons_succ]
    refine WL.val (by kernel_rfl) (.int .i64 f) (by go_simp) ?_
    simp only [Act.put, List.setIfInBounds_toArray, List.set_cons_zero, List.set_cons_succ]
    refine WL.val (by kernel_rfl) (.int .i64 t) (by go_simp) ?_
    simp only [Act.put, List.setIfInBounds_toArray, List.set_cons_zero, List.set_cons_succ]
    refine WL.bld (by kernel_rfl) 58 #[(0, .tmp 31), (1, .tmp 32)] rfl [(0, .int .i64 f), (1, .int .i64 t)] (by simp [Act.eval]) #[.int .i64 f, .int .i64 t] (bldP _ _) ?_
    simp only [Act.put, List.setIfInBounds_toArray, List.set_cons_zero, List.set_cons_succ]
    refine WL.val (by kernel_rfl) (.slice (some ⟨gl, 0, none⟩) n cap) (by go_simp) ?_
    simp only [Act.put, List.setIfInBounds_toArray, List.set_cons_zero, List.set_cons_succ]
    refine WL.val (by kernel_rfl) (.int .i64 (k : Int)) (by go_simp) ?_
    simp only [Act.put, List.setIfInBounds_toArray, List.set_cons_zero, List.set_cons_succ]
    have hk_ := Hk.out
    have hk1_ := Nat.not_le.2 Hk.out
    have hk2_ := Int.ofNat_lt.2 Hk.out
    refine WL.val (by kernel_rfl) (.pointer (some ⟨gl, k, none⟩)) (by go_simp) ?_
    clear hk_ hk1_ hk2_
    simp only [Act.put, List.setIfInBounds_toArray, List.set_cons_zero, List.set_cons_succ]
    obtain ⟨⟨um, b⟩, hp⟩ : ∃ q, (lkOf Ks f t).R[k]? = some q := ⟨_, List.getElem?_eq_getElem (by rw [Hn.out]; exact Hk.out)⟩
    have d_ := Hcl.out k _ hp
    have Hp := Keep.mk hp
    obtain ⟨hO, hL2, hBy⟩ := (N2.out.at_.link hth).2.rows _ (List.mem_of_getElem? hp)
    obtain ⟨ra, rn, rc, hu⟩ := hO.sl
    simp only at hu
    subst hu
    have HO := Keep.mk hO
    have HL2 := Keep.mk hL2
    have HBy := Keep.mk hBy
    clear hp hO hL2 hBy
    refine WL.val (by kernel_rfl) (.slice ra rn rc) (by go_simp) ?_
    clear d_
    simp only [Act.put, List.setIfInBounds_toArray, List.set_cons_zero, List.set_cons_succ]
    refine WL.callF (by kernel_rfl) 39 _ _ rfl Tryd.in39 #[.pointer (some ⟨p, 0, none⟩), .agg #[.int .i64 f, .int .i64 t], .slice ra rn rc] (by simp [Act.eval]) ?_
    refine (lay_any w2 p mb N 1 Ks f t _ b N2.out.at_ hth HO.out.row HBy.out HL2.out).mono ?_
    rintro e w3 ⟨er3, K3, rfl, he3, k1, k2, k3⟩
    refine ⟨_, rfl, ?_⟩
    have He3 := Keep.mk he3
    have N3 : Keep (PmN w p mb N Ks K3 1 w3) := ⟨N2.out.trans k1⟩
    have H2 := Keep.mk k2
    have H3 := Keep.mk k3
    clear he3 k1 k2 k3
    simp only [Act.put, List.setIfInBounds_toArray, List.set_cons_zero, List.set_cons_succ]
    refine WL.val (by kernel_rfl) (.int .i64 er3) (by go_simp) ?_
    simp only [Act.put, List.setIfInBounds_toArray, List.set_cons_zero, List.set_cons_succ]
    refine WL.nil ?_
    refine hK7 _ _ ?_
    refine wp_ret ?_
    have l1 := N3.out.at_.bx.c 0 (rfl : _ = some (Value.int .i32 1))
    have fr1 := N3.out.at_.bx.frozen 0
    try simp only [Exit.inBlock, Exit.then]
    refine leaves_cons (f := 37) (args := #[.pointer (some ⟨p, 0, none⟩)]) (by simp) (by simp [go_sem]) ?_
    refine (Go.MuLone.unlock_deferred Tryd.muLib ⟨p, 0, none⟩ .returning _ l1 fr1).mono ?_
    rintro e u' w'' ⟨rfl, rfl, rfl⟩
    have NF := N3.out.trans (N3.out.at_.relock 0)
    exact ⟨_, results_tmp rfl _ _ _, er3, K3, rfl, ptw_lay (h4_1.symm.trans (Her.out.trans fdE_one)) He3.out, NF, H2.out, fun e => by obtain ⟨u, v, h⟩ := H3.out e; exact ⟨u, v, _, Hp.out, h⟩⟩
  · skip
    refine WL.val (by kernel_rfl) (.bool true) (by go_simp) ?_
    simp only [Act.put, List.setIfInBounds_toArray, List.set_cons_zero, List.set_cons_succ]
    refine WL.nil ?_
    refine hK6 _ _ ?_
    refine wp_cond_true rfl ?_
    refine wp_seq_k fun K8 hK8 => ?_
    refine wp_region_list (WL.out ?_)
    refine WL.val (by kernel_rfl) (.int .i64 er) (by go_simp) ?_
    simp only [Act.put, List.setIfInBounds_toArray, List.set_cons_zero, List.set_cons_succ]
    refine WL.val (by kernel_rfl) (.int .i64 er) (by go_simp) ?_
    simp only [Act.put, List.setIfInBounds_toArray, List.set_cons_zero, List.set_cons_succ]
    refine WL.nil ?_
    refine hK8 _ _ ?_
    refine wp_ret ?_
    have l1 := N2.out.at_.bx.c 0 (rfl : _ = some (Value.int .i32 1))
    have fr1 := N2.out.at_.bx.frozen 0
    try simp only [Exit.inBlock, Exit.then]
    refine leaves_cons (f := 37) (args := #[.pointer (some ⟨p, 0, none⟩)]) (by simp) (by simp [go_sem]) ?_
    refine (Go.MuLone.unlock_deferred Tryd.muLib ⟨p, 0, none⟩ .returning _ l1 fr1).mono ?_
    rintro e u' w'' ⟨rfl, rfl, rfl⟩
    have NF := N2.out.trans (N2.out.at_.relock 0)
    exact ⟨_, results_tmp rfl _ _ _, er, Ks, rfl, ptw_err (Her.out.trans fdE_one) h4_1, NF, fun _ => rfl, fun e => absurd e h4_1⟩

end Go.Proofs.YteecdcocgflklaaDoor
