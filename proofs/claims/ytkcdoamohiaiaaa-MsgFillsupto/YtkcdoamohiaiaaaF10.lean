import Derived.Test.YtkcdoamohiaiaaaF09
import Derived.Test.YtkcdoamohiaiaaaF05
import Derived.Test.YtkcdoamohiaiaaaF06
import Derived.Test.YtkcdoamohiaiaaaF04
import Derived.Deep.RegionHeld3
import Derived.ProofKit
import Derived.OpenShut
import Derived.ShutString
import Derived.ChangeOld
import Derived.Below
import Derived.SizedLaws
import Derived.Deep.Slices
import Derived.Deep.Strs
namespace Go.Proofs.Ytkcdoamohiaiaaa
open Go.RowKit
set_option linter.unusedSimpArgs false
set_option linter.unusedVariables false

def aT (D : List (List (List Int))) (t : Nat) : Nat := (D.take t).flatten.length
theorem aT_0 (D : List (List (List Int))) : aT D 0 = 0 := rfl
theorem aT_next {D : List (List (List Int))} {t : Nat} {d : List (List Int)} (h : D[t]? = some d) : aT D (t + 1) = aT D t + d.length := by
  unfold aT
  rw [List.take_add_one, h]
  simp
theorem isCh_at : ∀ (D : List (List (List Int))) (ls : List (List Int)) (t : Nat) (d : List (List Int)), isCh ls D → D[t]? = some d → ls.drop (aT D t) ≠ [] ∧ d = (ls.drop (aT D t)).take (fit (ls.drop (aT D t)))
  | [], _, t, d, _, h => by simp at h
  | e :: r, ls, 0, d, hc, h => by
    obtain ⟨h1, h2, _⟩ := hc
    simp at h
    subst h
    rw [aT_0, List.drop_zero]
    exact ⟨h1, h2⟩
  | e :: r, ls, t + 1, d, hc, h => by
    obtain ⟨h1, h2, h3⟩ := hc
    have := isCh_at r (ls.drop (fit ls)) t d h3 (by simpa using h)
    have ha : aT (e :: r) (t + 1) = fit ls + aT r t := by
      unfold aT
      rw [List.take_succ_cons, List.flatten_cons, List.length_append, h2, List.length_take]
      have := fit_len ls
      omega
    rw [ha]
    rwa [List.drop_drop] at this
theorem isCh_end : ∀ (D : List (List (List Int))) (ls : List (List Int)), isCh ls D → aT D D.length = ls.length
  | [], ls, h => by
    have : ls = [] := h
    rw [this]; rfl
  | e :: r, ls, hc => by
    obtain ⟨h1, h2, h3⟩ := hc
    have := isCh_end r _ h3
    have ha : aT (e :: r) (r.length + 1) = fit ls + aT r r.length := by
      unfold aT
      rw [List.take_succ_cons, List.flatten_cons, List.length_append, h2, List.length_take]
      have := fit_len ls
      omega
    show aT (e :: r) (r.length + 1) = ls.length
    rw [ha, this, List.length_drop]
    have := fit_len ls
    omega
theorem take_more {ls : List (List Int)} (h : fit ls < ls.length) : ls.take (fit ls + 1) = ls.take (fit ls) ++ [ls.getD (fit ls) []] := by
  rw [List.take_add_one, List.getD_eq_getElem?_getD, List.getElem?_eq_getElem h]
  rfl
theorem Try.sizeML (c : MC) : (Try.prog.info? 32).map (·.size) = some (msA c).toList.length := by rw [msA_len]; exact Try.size32
theorem ms_back (c : MC) : (msA c).toList.toArray = msA c := Array.toArray_toList
theorem isCh_cnt : ∀ (D : List (List (List Int))) (ls : List (List Int)), isCh ls D → okR ls = true → D.length ≤ ls.length
  | [], _, _, _ => Nat.zero_le _
  | e :: r, ls, ⟨h1, h2, h3⟩, hok => by
    have h := isCh_cnt r _ h3 (okR_mem hok fun x hx => List.mem_of_mem_drop hx)
    have hp := fit_pos hok h1
    have hl := fit_len ls
    rw [List.length_drop] at h
    rw [List.length_cons]
    omega
set_option maxRecDepth 8000 in
set_option maxHeartbeats 8000000 in
theorem fills_any (v : Value) (ls : List (List Int)) (w : World) (hr : RwsAt w v ls) (hm : ls.length ≤ 1000000000) (hrl : ∀ i, i < ls.length → (ls.getD i []).length ≤ 140737488355328) (hrm : ∀ r ∈ ls, r.length ≤ 140737488355328) (hby : ∀ r ∈ ls, Byts r) : Calls Try.prog 3 #[v] w fun e w' => e = .returned (.bool true) ∧ Below w.heap.size w w' := by
  obtain ⟨la, lc, rfl⟩ := hr.form
  have HR := Keep.mk hr
  have Hm := Keep.mk hm
  have Hrl := Keep.mk hrl
  have Hrm := Keep.mk hrm
  have Hby := Keep.mk hby
  clear hr hm hrl hrm hby
  go_enter Try.func3, Try.ntmps3
  refine wp_seq_k fun K1 hK1 => ?_
  refine wp_region_list (WL.out ?_)
  refine WL.val (by kernel_rfl) (.bool false) (by go_simp) ?_
  simp only [Act.put, List.setIfInBounds_toArray, List.set_cons_zero, List.set_cons_succ]
  refine WL.nil ?_
  refine hK1 _ _ ?_
  refine wp_seq_k fun K2 hK2 => ?_
  refine wp_region_list (WL.out ?_)
  refine WL.val (by kernel_rfl) (.slice la ls.length lc) (by go_simp) ?_
  simp only [Act.put, List.setIfInBounds_toArray, List.set_cons_zero, List.set_cons_succ]
  refine WL.callF (by kernel_rfl) 4 _ _ rfl Try.in4 #[.slice la ls.length lc] (by simp [Act.eval]) ?_
  refine (blocks_any _ ls w HR.out (by have := Hm.out; omega) Hrl.out).mono ?_
  rintro e w1 ⟨hb1, ⟨hok, rfl⟩ | ⟨hok, v, D, cs, rfl, h1, h2, h3⟩⟩
  · refine ⟨_, rfl, ?_⟩
    have HB1 := Keep.mk hb1
    clear hb1 hok
    unfold noS
    simp only [Act.put, List.setIfInBounds_toArray, List.set_cons_zero, List.set_cons_succ]
    refine WL.val (by kernel_rfl) (.tuple #[.slice none 0 0, .int .i64 4]) (by go_simp) ?_
    simp only [Act.put, List.setIfInBounds_toArray, List.set_cons_zero, List.set_cons_succ]
    refine WL.val (by kernel_rfl) (.slice none 0 0) (by go_simp) ?_
    simp only [Act.put, List.setIfInBounds_toArray, List.set_cons_zero, List.set_cons_succ]
    refine WL.val (by kernel_rfl) (.int .i64 4) (by go_simp) ?_
    simp only [Act.put, List.setIfInBounds_toArray, List.set_cons_zero, List.set_cons_succ]
    refine WL.val (by kernel_rfl) (.slice none 0 0) (by go_simp) ?_
    simp only [Act.put, List.setIfInBounds_toArray, List.set_cons_zero, List.set_cons_succ]
    refine WL.val (by kernel_rfl) (.int .i64 4) (by go_simp) ?_
    simp only [Act.put, List.setIfInBounds_toArray, List.set_cons_zero, List.set_cons_succ]
    refine WL.nil ?_
    refine hK2 _ _ ?_
    refine wp_seq_k fun K3 hK3 => ?_
    refine wp_seq_k fun K4 hK4 => ?_
    refine wp_region_list (WL.out ?_)
    refine WL.val (by kernel_rfl) (.int .i64 4) (by go_simp) ?_
    simp only [Act.put, List.setIfInBounds_toArray, List.set_cons_zero, List.set_cons_succ]
    refine WL.val (by kernel_rfl) (.bool true) (by go_simp) ?_
    simp only [Act.put, List.setIfInBounds_toArray, List.set_cons_zero, List.set_cons_succ]
    refine WL.nil ?_
    refine hK4 _ _ ?_
    refine wp_cond_true rfl ?_
    refine wp_seq_k fun K5 hK5 => ?_
    refine wp_region_list (WL.out ?_)
    refine WL.val (by kernel_rfl) (.slice none 0 0) (by go_simp) ?_
    simp only [Act.put, List.setIfInBounds_toArray, List.set_cons_zero, List.set_cons_succ]
    refine WL.val (by kernel_rfl) (.int .i64 0) (by go_simp) ?_
    simp only [Act.put, List.setIfInBounds_toArray, List.set_cons_zero, List.set_cons_succ]
    refine WL.val (by kernel_rfl) (.bool true) (by go_simp) ?_
    simp only [Act.put, List.setIfInBounds_toArray, List.set_cons_zero, List.set_cons_succ]
    refine WL.val (by kernel_rfl) (.bool true) (by go_simp) ?_
    simp only [Act.put, List.setIfInBounds_toArray, List.set_cons_zero, List.set_cons_succ]
    refine WL.callF (by kernel_rfl) 5 _ _ rfl Try.in5 #[] (by simp) ?_
    refine (fixed_any w1).mono ?_
    rintro e w2 ⟨rfl, hb2⟩
    refine ⟨_, rfl, ?_⟩
    simp only [Act.put, List.setIfInBounds_toArray, List.set_cons_zero, List.set_cons_succ]
    refine WL.val (by kernel_rfl) (.bool true) (by go_simp) ?_
    simp only [Act.put, List.setIfInBounds_toArray, List.set_cons_zero, List.set_cons_succ]
    refine WL.val (by kernel_rfl) (.bool true) (by go_simp) ?_
    simp only [Act.put, List.setIfInBounds_toArray, List.set_cons_zero, List.set_cons_succ]
    refine WL.nil ?_
    refine hK5 _ _ ?_
    refine wp_ret ?_
    go_ret
    exact ⟨rfl, HB1.out.trans (hb2.mono HB1.out.size)⟩
  · refine ⟨_, rfl, ?_⟩
    have HB1 := Keep.mk hb1
    have Hok := Keep.mk hok
    have HO1 := Keep.mk h1
    have HC := Keep.mk h2
    have HM1 := Keep.mk h3
    have Hcs := Keep.mk h3.1
    have HR1 := Keep.mk (HR.out.below hb1)
    obtain ⟨va, vc, rfl⟩ := HO1.out.sl
    clear hb1 hok h1 h2 h3
    simp only [Act.put, List.setIfInBounds_toArray, List.set_cons_zero, List.set_cons_succ]
    refine WL.val (by kernel_rfl) (.tuple #[.slice va cs.length vc, .int .i64 0]) (by go_simp) ?_
    simp only [Act.put, List.setIfInBounds_toArray, List.set_cons_zero, List.set_cons_succ]
    refine WL.val (by kernel_rfl) (.slice va cs.length vc) (by go_simp) ?_
    simp only [Act.put, List.setIfInBounds_toArray, List.set_cons_zero, List.set_cons_succ]
    refine WL.val (by kernel_rfl) (.int .i64 0) (by go_simp) ?_
    simp only [Act.put, List.setIfInBounds_toArray, List.set_cons_zero, List.set_cons_succ]
    refine WL.val (by kernel_rfl) (.slice va cs.length vc) (by go_simp) ?_
    simp only [Act.put, List.setIfInBounds_toArray, List.set_cons_zero, List.set_cons_succ]
    refine WL.val (by kernel_rfl) (.int .i64 0) (by go_simp) ?_
    simp only [Act.put, List.setIfInBounds_toArray, List.set_cons_zero, List.set_cons_succ]
    refine WL.nil ?_
    refine hK2 _ _ ?_
    refine wp_seq_k fun K6 hK6 => ?_
    refine wp_seq_k fun K7 hK7 => ?_
    refine wp_region_list (WL.out ?_)
    refine WL.val (by kernel_rfl) (.int .i64 0) (by go_simp) ?_
    simp only [Act.put, List.setIfInBounds_toArray, List.set_cons_zero, List.set_cons_succ]
    refine WL.val (by kernel_rfl) (.bool false) (by go_simp) ?_
    simp only [Act.put, List.setIfInBounds_toArray, List.set_cons_zero, List.set_cons_succ]
    refine WL.nil ?_
    refine hK7 _ _ ?_
    refine wp_cond_false rfl ?_
    refine wp_skip ?_
    refine hK6 _ _ ?_
    refine wp_seq_k fun K8 hK8 => ?_
    refine wp_region_list (WL.out ?_)
    refine WL.val (by kernel_rfl) (.int .i64 0) (by go_simp) ?_
    simp only [Act.put, List.setIfInBounds_toArray, List.set_cons_zero, List.set_cons_succ]
    refine WL.nil ?_
    refine hK8 _ _ ?_
    refine wp_seq_k fun K9 hK9 => ?_
    refine wp_seq_k fun K10 hK10 => ?_
    refine wp_region_list (WL.out ?_)
    refine WL.val (by kernel_rfl) (.int .i64 0) (by go_simp) ?_
    simp only [Act.put, List.setIfInBounds_toArray, List.set_cons_zero, List.set_cons_succ]
    refine WL.nil ?_
    refine hK10 _ _ ?_
    refine wp_block ?_
    refine wp_loop (fun ac wr => ∃ (t : Nat) (f : Nat → Value), ac = { tmps := #[.slice la ls.length lc, undef, f 2, .slice va cs.length vc, .int .i64 0, .int .i64 ((aT D t : Nat) : Int), .int .i64 (t : Int), f 7, f 8, f 9, .tuple #[.slice va cs.length vc, .int .i64 0], .slice la ls.length lc, .tuple #[.slice va cs.length vc, .int .i64 0], .slice va cs.length vc, .int .i64 0, .int .i64 0, .bool false, undef, undef, undef, undef, undef, undef, f 23, f 24, f 25, f 26, f 27, f 28, f 29, f 30, f 31, f 32, f 33, f 34, f 35, f 36, f 37, f 38, f 39, f 40, f 41, f 42, f 43, f 44, f 45, f 46, f 47, f 48, f 49, f 50, f 51, f 52, f 53, f 54, f 55, f 56, f 57, f 58, f 59, f 60, f 61, f 62, f 63, f 64, f 65, f 66, f 67, f 68, f 69, f 70, f 71, f 72, f 73, f 74, f 75, f 76, f 77, f 78, f 79, f 80, f 81, f 82, f 83, f 84, f 85, f 86, f 87, undef, undef, undef, undef, undef, undef, undef], defers := [] } ∧ t ≤ cs.length ∧ OwnM wr (.slice va cs.length vc) cs ∧ MsgsOf (RowsOwn w.heap.size wr) cs D ∧ RwsAt wr (.slice la ls.length lc) ls ∧ Below w.heap.size w wr) (fun a _ => cs.length - (intOf (a.tmps.getD 6 undef)).toNat) ⟨0, fun i => [.slice la ls.length lc, undef, .bool false, .slice va cs.length vc, .int .i64 0, .int .i64 0, .int .i64 0, undef, undef, undef, .tuple #[.slice va cs.length vc, .int .i64 0], .slice la ls.length lc, .tuple #[.slice va cs.length vc, .int .i64 0], .slice va cs.length vc, .int .i64 0, .int .i64 0, .bool false, undef, undef, undef, undef, undef, undef, undef, undef, undef, undef, undef, undef, undef, undef, undef, undef, undef, undef, undef, undef, undef, undef, undef, undef, undef, undef, undef, undef, undef, undef, undef, undef, undef, undef, undef, undef, undef, undef, undef, undef, undef, undef, undef, undef, undef, undef, undef, undef, undef, undef, undef, undef, undef, undef, undef, undef, undef, undef, undef, undef, undef, undef, undef, undef, undef, undef, undef, undef, undef, undef, undef, undef, undef, undef, undef, undef, undef, undef].getD i undef, rfl, by omega, HO1.out, HM1.out, HR1.out, HB1.out⟩ ?_
    rintro ac wr ⟨t, f, rfl, ht, hO, hM, hR, hB⟩
    have JO := Keep.mk hO
    have JM := Keep.mk hM
    have JR := Keep.mk hR
    have JB := Keep.mk hB
    clear hO hM hR hB
    have Hcl : Keep (cs.length ≤ 1000000000000) := ⟨by have h1 := isCh_cnt D ls HC.out Hok.out; have h2 := Hcs.out; have h3 := Hm.out; omega⟩
    by_cases hlt : t < cs.length
    · have hlt' : (t : Int) < (cs.length : Int) := by omega
      have hwt : IntKind.i64.wrap ((t : Int) + 1) = (t : Int) + 1 := by rw [IntKind.wrap_i64]; have := Hcl.out; omega
      obtain ⟨d, hd⟩ : ∃ d, D[t]? = some d := ⟨D[t]'(by have := Hcs.out; omega), List.getElem?_eq_getElem _⟩
      obtain ⟨ba, bc, hcs, hz⟩ := JM.out.2 t d hd
      obtain ⟨g, ha, hrg⟩ := JO.out.at hcs
      subst ha
      have HRg := Keep.mk hrg
      clear hrg
      obtain ⟨hne, hdd⟩ := isCh_at D ls t d HC.out hd
      obtain ⟨at_, hat⟩ : ∃ a, Keep (a = aT D t) := ⟨_, ⟨rfl⟩⟩
      rw [← hat.out] at hne hdd ⊢
      have hnx : Keep (aT D (t + 1) = at_ + d.length) := ⟨by rw [aT_next hd, hat.out]⟩
      have hfl := fit_len (ls.drop at_)
      have hfp := fit_pos (okR_mem Hok.out fun r hr => List.mem_of_mem_drop hr) hne
      have hdl : d.length = fit (ls.drop at_) := by rw [hdd, List.length_take]; omega
      rw [List.length_drop] at hfl
      obtain ⟨n, hn⟩ : ∃ n, Keep (n = d.length) := ⟨_, ⟨rfl⟩⟩
      have hn1 : 1 ≤ n := by rw [hn.out]; omega
      have hn2 : at_ + n ≤ ls.length := by rw [hn.out]; omega
      obtain ⟨m_, hm_⟩ : ∃ m, Keep (m = at_ + n) := ⟨_, ⟨rfl⟩⟩
      have hm2 : m_ ≤ ls.length := by rw [hm_.out]; exact hn2
      have Hfit : Keep (fit (ls.drop at_) = n) := ⟨by rw [hn.out]; exact hdl.symm⟩
      have HD := Keep.mk hdd
      have Hne := Keep.mk hne
      have HZ := Keep.mk hz
      have Hml := Hm.out
      rw [← hn.out] at HZ
      clear hfl hfp hdl hdd hne hz hd hcs
      rw [← hn.out] at HRg
      refine wp_seq_k fun K11 hK11 => ?_
      refine wp_seq_k fun K12 hK12 => ?_
      refine wp_region_list (WL.out ?_)
      refine WL.val (by kernel_rfl) (.int .i64 (t : Int)) (by go_simp) ?_
      simp only [Act.put, List.setIfInBounds_toArray, List.set_cons_zero, List.set_cons_succ]
      refine WL.val (by kernel_rfl) (.slice (some ⟨g, 0, none⟩) cs.length vc) (by go_simp) ?_
      simp only [Act.put, List.setIfInBounds_toArray, List.set_cons_zero, List.set_cons_succ]
      refine WL.val (by kernel_rfl) (.int .i64 (cs.length : Int)) (by go_simp) ?_
      simp only [Act.put, List.setIfInBounds_toArray, List.set_cons_zero, List.set_cons_succ]
      refine WL.val (by kernel_rfl) (.bool true) (by go_simp) ?_
      simp only [Act.put, List.setIfInBounds_toArray, List.set_cons_zero, List.set_cons_succ]
      refine WL.nil ?_
      refine hK12 _ _ ?_
      refine wp_cond_true rfl ?_
      refine wp_skip ?_
      refine hK11 _ _ ?_
      refine wp_seq_k fun K13 hK13 => ?_
      refine wp_block ?_
      refine wp_seq_k fun K14 hK14 => ?_
      refine wp_region_list (WL.out ?_)
      refine WL.val (by kernel_rfl) (.slice (some ⟨g, 0, none⟩) cs.length vc) (by go_simp) ?_
      simp only [Act.put, List.setIfInBounds_toArray, List.set_cons_zero, List.set_cons_succ]
      refine WL.val (by kernel_rfl) (.int .i64 (t : Int)) (by go_simp) ?_
      simp only [Act.put, List.setIfInBounds_toArray, List.set_cons_zero, List.set_cons_succ]
      refine WL.val (by kernel_rfl) (.pointer (some ⟨g, t * 6, none⟩)) (by go_simp) ?_
      simp only [Act.put, List.setIfInBounds_toArray, List.set_cons_zero, List.set_cons_succ]
      refine WL.mid (by kernel_rfl) 32 (.tmp 31) rfl g (t * 6) rfl (msA (cB (.slice ba n bc))).toList _ HRg.out Try.underlying32 rfl (Try.sizeML _) ?_
      rw [ms_back]
      simp only [Act.put, List.setIfInBounds_toArray, List.set_cons_zero, List.set_cons_succ]
      refine WL.new (by kernel_rfl) 32 rfl _ Try.new32M ?_
      have HN7 := Keep.mk (Blk.new wr 32 (msA zeroC))
      have BN7 := Keep.mk (below_new wr (.cells (msA zeroC) 32))
      generalize wr.alloc (.cells (msA zeroC) 32) = wa at *
      obtain ⟨g7, hg7⟩ : ∃ g, Keep (g = wr.heap.size) := ⟨_, ⟨rfl⟩⟩
      rw [← hg7.out] at HN7 ⊢
      simp only [Act.put, List.setIfInBounds_toArray, List.set_cons_zero, List.set_cons_succ]
      refine WL.storeR (by kernel_rfl) 32 (.tmp 7) (.tmp 32) rfl g7 (msA (cB (.slice ba n bc))) rfl rfl 32 (msA zeroC) HN7.out (Try.size32B _) rfl (cB_sl ba n bc).one ?_
      have H7 := Keep.mk (HN7.out.setRow (msA (cB (.slice ba n bc))))
      have B7 := Keep.mk (below_setRow BN7.out (b := g7) (by rw [hg7.out]; exact Nat.le_refl _) (msA (cB (.slice ba n bc))))
      generalize wa.setRow g7 (msA (cB (.slice ba n bc))) = wb at *
      have JOb := Keep.mk (JO.out.below B7.out)
      have JRb := Keep.mk (JR.out.below B7.out)
      have JBb : Keep (Below w.heap.size w wb) := ⟨JB.out.trans (B7.out.mono JB.out.size)⟩
      have JMb : Keep (MsgsOf (RowsOwn w.heap.size wb) cs D) := ⟨JM.out.imp fun v d h => h.below B7.out⟩
      have HZb := Keep.mk (HZ.out.below B7.out)
      clear HN7 BN7 hg7 HRg JO JM JR JB HZ B7
      have c0 := H7.out.c 0 (by rfl : (msA (cB (.slice ba n bc)))[0]? = some (.int .i64 3))
      have c5 := H7.out.c 5 (by rfl : (msA (cB (.slice ba n bc)))[5]? = some (.slice ba n bc))
      simp only [Act.put]
      refine WL.nil ?_
      refine hK14 _ _ ?_
      refine wp_seq_k fun K15 hK15 => ?_
      refine wp_region_list (WL.out ?_)
      refine WL.val (by kernel_rfl) (.pointer (some ⟨g7, 5, none⟩)) (by go_simp) ?_
      simp only [Act.put, List.setIfInBounds_toArray, List.set_cons_zero, List.set_cons_succ]
      refine WL.val (by kernel_rfl) (.slice ba n bc) (by go_simp) ?_
      simp only [Act.put, List.setIfInBounds_toArray, List.set_cons_zero, List.set_cons_succ]
      refine WL.val (by kernel_rfl) (.int .i64 (n : Int)) (by go_simp) ?_
      simp only [Act.put, List.setIfInBounds_toArray, List.set_cons_zero, List.set_cons_succ]
      refine WL.val (by kernel_rfl) (.int .i64 (n : Int)) (by go_simp) ?_
      simp only [Act.put, List.setIfInBounds_toArray, List.set_cons_zero, List.set_cons_succ]
      refine WL.nil ?_
      refine hK15 _ _ ?_
      refine wp_seq_k fun K16 hK16 => ?_
      refine wp_seq_k fun K17 hK17 => ?_
      clear c0 c5
      have hD0 : Below wb.heap.size wb wb.drew := (Below.refl _ _).drew
      have HS0 : Keep (∀ wx, Below wb.heap.size wb wx → Blk wx g7 32 (msA (cB (.slice ba n bc)))) := ⟨fun wx hb => H7.out.below hb H7.out.lt⟩
      have hsub : IntKind.i64.wrap ((ls.length : Int) - (at_ : Int)) = (ls.length : Int) - (at_ : Int) := by rw [IntKind.wrap_i64]; omega
      have hadd : IntKind.i64.wrap ((at_ : Int) + (n : Int)) = (m_ : Int) := by rw [IntKind.wrap_i64]; have := hm_.out; omega
      have hng : ¬ (ls.length : Int) - (at_ : Int) < (n : Int) := by omega
      have hn1' : ¬ (n : Int) < 1 := by omega
      obtain ⟨SV, hSV⟩ : ∃ v, Keep (v = sliced la at_ m_ lc 1) := ⟨_, ⟨rfl⟩⟩
      have HSR : Keep (RwsAt wb SV d) := ⟨by have h := JRb.out.sub at_ m_ (by have := hm_.out; omega) hm2; rw [show m_ - at_ = n by have := hm_.out; omega] at h; rw [hSV.out]; have e : (ls.drop at_).take n = d := by rw [HD.out, Hfit.out]
                                             rw [e] at h; exact h⟩
      have hcap : m_ ≤ lc := by have := JRb.out.cap (by intro h; rw [h] at hn2; simp at hn2; omega); omega
      refine wp_region_held_drew (S := fun wx => Blk wx g7 32 (msA (cB (.slice ba n bc)))) (by kernel_rfl) (HS0.out _ hD0) (fun hHeld => ?_)
      refine wpAnyH_take (i := 0) (oi := ⟨some 36, Op.load 32 (Operand.tmp 7), 32, _, _, none⟩) (v := .agg (msA (cB (.slice ba n bc)))) rfl (by kernel_rfl) (by kernel_rfl) (by kernel_rfl) (fun _ _ _ h => h) (yieldsIf_load_mid (by rfl) 32 (Operand.tmp 7) rfl g7 0 rfl (msA (cB (.slice ba n bc))).toList _ (fun w hS => blk_range hS) Try.underlying32 rfl (Try.sizeML _)) hHeld ?_
      simp only [Act.put, List.setIfInBounds_toArray, List.set_cons_zero, List.set_cons_succ]
      refine wpAnyH_ready (rs := [1]) (by kernel_rfl) (by simp) ?_
      refine AllReadyH.cons (o := ⟨some 37, Op.call { callee := Callee.value (Operand.func 6), args := #[Operand.tmp 36], argTypes := #[32] }, 24, _, _, none⟩) rfl (fun K hK => ?_) AllReadyH.nil
      rw [if_pos (by rfl)]
      refine wp_callF 6 _ _ rfl Try.in6 #[.agg (msA (cB (.slice ba n bc)))] (by simp [Act.eval]) (fun vz wz => vz = .int .i64 0 ∧ Below wb.heap.size wb wz) ?_ ?_
      · have hz := HZb.out.below hD0
        have hck := check_any (mB d) (cB (.slice ba n bc)) wb.drew (mB_at (by have h := hz.rws; exact h)) (mB_ok (by have := hn2; have := hn.out; omega) (fun r hr => Hrm.out r (by rw [HD.out] at hr; exact List.mem_of_mem_drop (List.mem_of_mem_take hr))) (fun r hr => Hby.out r (by rw [HD.out] at hr; exact List.mem_of_mem_drop (List.mem_of_mem_take hr))))
        rw [HD.out, chk_chunk (okR_mem Hok.out fun r hr => List.mem_of_mem_drop hr) Hne.out] at hck
        refine hck.mono ?_
        rintro e wz ⟨rfl, h⟩
        exact ⟨_, rfl, rfl, hD0.trans (h.mono hD0.size)⟩
      rintro vz wc ⟨rfl, hc⟩
      have BC := Keep.mk hc
      clear hc
      refine hK.out _ _ (HS0.out _ BC.out) fun hH1 => ?_
      clear hK
      simp only [Act.put, List.setIfInBounds_toArray, List.set_cons_zero, List.set_cons_succ]
      refine wpAnyH_take (i := 2) (oi := ⟨some 38, Op.binOp BinOp.neq 24 (Operand.tmp 37) (Operand.const (Value.int IntKind.i64 0)) 24, 4, _, _, none⟩) (v := .bool false) rfl (by kernel_rfl) (by kernel_rfl) (by kernel_rfl) (fun _ _ _ h => h) (Or.inl ⟨by rfl, fun w hS => by have q0 := hS.c 0 (by rfl : (msA (cB (.slice ba n bc)))[0]? = some (.int .i64 3)); have q5 := hS.c 5 (by rfl : (msA (cB (.slice ba n bc)))[5]? = some (.slice ba n bc)); go_simp⟩) hH1 ?_
      simp only [Act.put, List.setIfInBounds_toArray, List.set_cons_zero, List.set_cons_succ]
      refine wpAnyH_take (i := 3) (oi := ⟨some 39, Op.move (Operand.tmp 38), 4, _, _, none⟩) (v := .bool false) rfl (by kernel_rfl) (by kernel_rfl) (by kernel_rfl) (fun _ _ _ h => h) (Or.inl ⟨by rfl, fun w hS => by have q0 := hS.c 0 (by rfl : (msA (cB (.slice ba n bc)))[0]? = some (.int .i64 3)); have q5 := hS.c 5 (by rfl : (msA (cB (.slice ba n bc)))[5]? = some (.slice ba n bc)); go_simp⟩) hH1 ?_
      simp only [Act.put, List.setIfInBounds_toArray, List.set_cons_zero, List.set_cons_succ]
      refine wpAnyH_take (i := 4) (oi := ⟨some 40, Op.fieldAddr 32 (Operand.tmp 7) 0, 0, _, _, some (3, false)⟩) (v := .pointer (some ⟨g7, 0, none⟩)) rfl (by kernel_rfl) (by kernel_rfl) (by kernel_rfl) (fun _ _ _ h => h) (Or.inl ⟨by rfl, fun w hS => by have q0 := hS.c 0 (by rfl : (msA (cB (.slice ba n bc)))[0]? = some (.int .i64 3)); have q5 := hS.c 5 (by rfl : (msA (cB (.slice ba n bc)))[5]? = some (.slice ba n bc)); go_simp⟩) hH1 ?_
      simp only [Act.put, List.setIfInBounds_toArray, List.set_cons_zero, List.set_cons_succ]
      refine wpAnyH_take (i := 5) (oi := ⟨some 41, Op.load 3 (Operand.tmp 40), 3, _, _, some (3, false)⟩) (v := .int .i64 3) rfl (by kernel_rfl) (by kernel_rfl) (by kernel_rfl) (fun _ _ _ h => h) (Or.inl ⟨by rfl, fun w hS => by have q0 := hS.c 0 (by rfl : (msA (cB (.slice ba n bc)))[0]? = some (.int .i64 3)); have q5 := hS.c 5 (by rfl : (msA (cB (.slice ba n bc)))[5]? = some (.slice ba n bc)); go_simp⟩) hH1 ?_
      simp only [Act.put, List.setIfInBounds_toArray, List.set_cons_zero, List.set_cons_succ]
      refine wpAnyH_take (i := 6) (oi := ⟨some 42, Op.binOp BinOp.neq 3 (Operand.tmp 41) (Operand.const (Value.int IntKind.i64 3)) 3, 4, _, _, some (3, false)⟩) (v := .bool false) rfl (by kernel_rfl) (by kernel_rfl) (by kernel_rfl) (fun _ _ _ h => h) (Or.inl ⟨by rfl, fun w hS => by have q0 := hS.c 0 (by rfl : (msA (cB (.slice ba n bc)))[0]? = some (.int .i64 3)); have q5 := hS.c 5 (by rfl : (msA (cB (.slice ba n bc)))[5]? = some (.slice ba n bc)); go_simp⟩) hH1 ?_
      simp only [Act.put, List.setIfInBounds_toArray, List.set_cons_zero, List.set_cons_succ]
      refine wpAnyH_take (i := 7) (oi := ⟨some 43, Op.pick (Operand.tmp 39) (Operand.const (Value.bool true)) (Operand.tmp 42), 4, _, _, none⟩) (v := .bool false) rfl (by kernel_rfl) (by kernel_rfl) (by kernel_rfl) (fun _ _ _ h => h) (Or.inl ⟨by rfl, fun w hS => by have q0 := hS.c 0 (by rfl : (msA (cB (.slice ba n bc)))[0]? = some (.int .i64 3)); have q5 := hS.c 5 (by rfl : (msA (cB (.slice ba n bc)))[5]? = some (.slice ba n bc)); go_simp⟩) hH1 ?_
      simp only [Act.put, List.setIfInBounds_toArray, List.set_cons_zero, List.set_cons_succ]
      refine wpAnyH_take (i := 8) (oi := ⟨some 44, Op.move (Operand.tmp 43), 4, _, _, none⟩) (v := .bool false) rfl (by kernel_rfl) (by kernel_rfl) (by kernel_rfl) (fun _ _ _ h => h) (Or.inl ⟨by rfl, fun w hS => by have q0 := hS.c 0 (by rfl : (msA (cB (.slice ba n bc)))[0]? = some (.int .i64 3)); have q5 := hS.c 5 (by rfl : (msA (cB (.slice ba n bc)))[5]? = some (.slice ba n bc)); go_simp⟩) hH1 ?_
      simp only [Act.put, List.setIfInBounds_toArray, List.set_cons_zero, List.set_cons_succ]
      refine wpAnyH_take (i := 9) (oi := ⟨some 45, Op.move (Operand.tmp 8), 3, _, _, some (8, false)⟩) (v := .int .i64 (n : Int)) rfl (by kernel_rfl) (by kernel_rfl) (by kernel_rfl) (fun _ _ _ h => h) (Or.inl ⟨by rfl, fun w hS => by have q0 := hS.c 0 (by rfl : (msA (cB (.slice ba n bc)))[0]? = some (.int .i64 3)); have q5 := hS.c 5 (by rfl : (msA (cB (.slice ba n bc)))[5]? = some (.slice ba n bc)); go_simp⟩) hH1 ?_
      simp only [Act.put, List.setIfInBounds_toArray, List.set_cons_zero, List.set_cons_succ]
      refine wpAnyH_take (i := 10) (oi := ⟨some 46, Op.binOp BinOp.lss 3 (Operand.tmp 45) (Operand.const (Value.int IntKind.i64 1)) 3, 4, _, _, some (8, false)⟩) (v := .bool false) rfl (by kernel_rfl) (by kernel_rfl) (by kernel_rfl) (fun _ _ _ h => h) (Or.inl ⟨by rfl, fun w hS => by have q0 := hS.c 0 (by rfl : (msA (cB (.slice ba n bc)))[0]? = some (.int .i64 3)); have q5 := hS.c 5 (by rfl : (msA (cB (.slice ba n bc)))[5]? = some (.slice ba n bc)); go_simp⟩) hH1 ?_
      simp only [Act.put, List.setIfInBounds_toArray, List.set_cons_zero, List.set_cons_succ]
      refine wpAnyH_take (i := 11) (oi := ⟨some 47, Op.pick (Operand.tmp 44) (Operand.const (Value.bool true)) (Operand.tmp 46), 4, _, _, none⟩) (v := .bool false) rfl (by kernel_rfl) (by kernel_rfl) (by kernel_rfl) (fun _ _ _ h => h) (Or.inl ⟨by rfl, fun w hS => by have q0 := hS.c 0 (by rfl : (msA (cB (.slice ba n bc)))[0]? = some (.int .i64 3)); have q5 := hS.c 5 (by rfl : (msA (cB (.slice ba n bc)))[5]? = some (.slice ba n bc)); go_simp⟩) hH1 ?_
      simp only [Act.put, List.setIfInBounds_toArray, List.set_cons_zero, List.set_cons_succ]
      refine wpAnyH_take (i := 12) (oi := ⟨some 48, Op.move (Operand.tmp 47), 4, _, _, none⟩) (v := .bool false) rfl (by kernel_rfl) (by kernel_rfl) (by kernel_rfl) (fun _ _ _ h => h) (Or.inl ⟨by rfl, fun w hS => by have q0 := hS.c 0 (by rfl : (msA (cB (.slice ba n bc)))[0]? = some (.int .i64 3)); have q5 := hS.c 5 (by rfl : (msA (cB (.slice ba n bc)))[5]? = some (.slice ba n bc)); go_simp⟩) hH1 ?_
      simp only [Act.put, List.setIfInBounds_toArray, List.set_cons_zero, List.set_cons_succ]
      refine wpAnyH_take (i := 13) (oi := ⟨some 49, Op.move (Operand.tmp 8), 3, _, _, some (12, false)⟩) (v := .int .i64 (n : Int)) rfl (by kernel_rfl) (by kernel_rfl) (by kernel_rfl) (fun _ _ _ h => h) (Or.inl ⟨by rfl, fun w hS => by have q0 := hS.c 0 (by rfl : (msA (cB (.slice ba n bc)))[0]? = some (.int .i64 3)); have q5 := hS.c 5 (by rfl : (msA (cB (.slice ba n bc)))[5]? = some (.slice ba n bc)); go_simp⟩) hH1 ?_
      simp only [Act.put, List.setIfInBounds_toArray, List.set_cons_zero, List.set_cons_succ]
      refine wpAnyH_take (i := 14) (oi := ⟨some 50, Op.move (Operand.tmp 0), 22, _, _, some (12, false)⟩) (v := .slice la ls.length lc) rfl (by kernel_rfl) (by kernel_rfl) (by kernel_rfl) (fun _ _ _ h => h) (Or.inl ⟨by rfl, fun w hS => by have q0 := hS.c 0 (by rfl : (msA (cB (.slice ba n bc)))[0]? = some (.int .i64 3)); have q5 := hS.c 5 (by rfl : (msA (cB (.slice ba n bc)))[5]? = some (.slice ba n bc)); go_simp⟩) hH1 ?_
      simp only [Act.put, List.setIfInBounds_toArray, List.set_cons_zero, List.set_cons_succ]
      refine wpAnyH_take (i := 15) (oi := ⟨some 51, Op.call { callee := Callee.builtin Builtin.len, args := #[Operand.tmp 50], argTypes := #[22] }, 3, _, _, some (12, false)⟩) (v := .int .i64 (ls.length : Int)) rfl (by kernel_rfl) (by kernel_rfl) (by kernel_rfl) (fun _ _ _ h => h) (Or.inl ⟨by rfl, fun w hS => by have q0 := hS.c 0 (by rfl : (msA (cB (.slice ba n bc)))[0]? = some (.int .i64 3)); have q5 := hS.c 5 (by rfl : (msA (cB (.slice ba n bc)))[5]? = some (.slice ba n bc)); go_simp⟩) hH1 ?_
      simp only [Act.put, List.setIfInBounds_toArray, List.set_cons_zero, List.set_cons_succ]
      refine wpAnyH_take (i := 16) (oi := ⟨some 52, Op.move (Operand.tmp 5), 3, _, _, some (12, false)⟩) (v := .int .i64 (at_ : Int)) rfl (by kernel_rfl) (by kernel_rfl) (by kernel_rfl) (fun _ _ _ h => h) (Or.inl ⟨by rfl, fun w hS => by have q0 := hS.c 0 (by rfl : (msA (cB (.slice ba n bc)))[0]? = some (.int .i64 3)); have q5 := hS.c 5 (by rfl : (msA (cB (.slice ba n bc)))[5]? = some (.slice ba n bc)); go_simp⟩) hH1 ?_
      simp only [Act.put, List.setIfInBounds_toArray, List.set_cons_zero, List.set_cons_succ]
      refine wpAnyH_take (i := 17) (oi := ⟨some 53, Op.binOp BinOp.sub 3 (Operand.tmp 51) (Operand.tmp 52) 3, 3, _, _, some (12, false)⟩) (v := .int .i64 ((ls.length : Int) - (at_ : Int))) rfl (by kernel_rfl) (by kernel_rfl) (by kernel_rfl) (fun _ _ _ h => h) (Or.inl ⟨by rfl, fun w hS => by have q0 := hS.c 0 (by rfl : (msA (cB (.slice ba n bc)))[0]? = some (.int .i64 3)); have q5 := hS.c 5 (by rfl : (msA (cB (.slice ba n bc)))[5]? = some (.slice ba n bc)); go_simp⟩) hH1 ?_
      simp only [Act.put, List.setIfInBounds_toArray, List.set_cons_zero, List.set_cons_succ]
      refine wpAnyH_take (i := 18) (oi := ⟨some 54, Op.binOp BinOp.gtr 3 (Operand.tmp 49) (Operand.tmp 53) 3, 4, _, _, some (12, false)⟩) (v := .bool false) rfl (by kernel_rfl) (by kernel_rfl) (by kernel_rfl) (fun _ _ _ h => h) (Or.inl ⟨by rfl, fun w hS => by have q0 := hS.c 0 (by rfl : (msA (cB (.slice ba n bc)))[0]? = some (.int .i64 3)); have q5 := hS.c 5 (by rfl : (msA (cB (.slice ba n bc)))[5]? = some (.slice ba n bc)); go_simp⟩) hH1 ?_
      simp only [Act.put, List.setIfInBounds_toArray, List.set_cons_zero, List.set_cons_succ]
      refine wpAnyH_take (i := 19) (oi := ⟨some 55, Op.pick (Operand.tmp 48) (Operand.const (Value.bool true)) (Operand.tmp 54), 4, _, _, none⟩) (v := .bool false) rfl (by kernel_rfl) (by kernel_rfl) (by kernel_rfl) (fun _ _ _ h => h) (Or.inl ⟨by rfl, fun w hS => by have q0 := hS.c 0 (by rfl : (msA (cB (.slice ba n bc)))[0]? = some (.int .i64 3)); have q5 := hS.c 5 (by rfl : (msA (cB (.slice ba n bc)))[5]? = some (.slice ba n bc)); go_simp⟩) hH1 ?_
      simp only [Act.put, List.setIfInBounds_toArray, List.set_cons_zero, List.set_cons_succ]
      refine wpAnyH_take (i := 20) (oi := ⟨some 56, Op.move (Operand.tmp 55), 4, _, _, none⟩) (v := .bool false) rfl (by kernel_rfl) (by kernel_rfl) (by kernel_rfl) (fun _ _ _ h => h) (Or.inl ⟨by rfl, fun w hS => by have q0 := hS.c 0 (by rfl : (msA (cB (.slice ba n bc)))[0]? = some (.int .i64 3)); have q5 := hS.c 5 (by rfl : (msA (cB (.slice ba n bc)))[5]? = some (.slice ba n bc)); go_simp⟩) hH1 ?_
      simp only [Act.put, List.setIfInBounds_toArray, List.set_cons_zero, List.set_cons_succ]
      refine wpAnyH_take (i := 21) (oi := ⟨some 57, Op.fieldAddr 32 (Operand.tmp 7) 5, 0, _, _, some (20, false)⟩) (v := .pointer (some ⟨g7, 5, none⟩)) rfl (by kernel_rfl) (by kernel_rfl) (by kernel_rfl) (fun _ _ _ h => h) (Or.inl ⟨by rfl, fun w hS => by have q0 := hS.c 0 (by rfl : (msA (cB (.slice ba n bc)))[0]? = some (.int .i64 3)); have q5 := hS.c 5 (by rfl : (msA (cB (.slice ba n bc)))[5]? = some (.slice ba n bc)); go_simp⟩) hH1 ?_
      simp only [Act.put, List.setIfInBounds_toArray, List.set_cons_zero, List.set_cons_succ]
      refine wpAnyH_take (i := 22) (oi := ⟨some 58, Op.load 22 (Operand.tmp 57), 22, _, _, some (20, false)⟩) (v := .slice ba n bc) rfl (by kernel_rfl) (by kernel_rfl) (by kernel_rfl) (fun _ _ _ h => h) (Or.inl ⟨by rfl, fun w hS => by have q0 := hS.c 0 (by rfl : (msA (cB (.slice ba n bc)))[0]? = some (.int .i64 3)); have q5 := hS.c 5 (by rfl : (msA (cB (.slice ba n bc)))[5]? = some (.slice ba n bc)); go_simp⟩) hH1 ?_
      simp only [Act.put, List.setIfInBounds_toArray, List.set_cons_zero, List.set_cons_succ]
      refine wpAnyH_take (i := 23) (oi := ⟨some 59, Op.move (Operand.tmp 0), 22, _, _, some (20, false)⟩) (v := .slice la ls.length lc) rfl (by kernel_rfl) (by kernel_rfl) (by kernel_rfl) (fun _ _ _ h => h) (Or.inl ⟨by rfl, fun w hS => by have q0 := hS.c 0 (by rfl : (msA (cB (.slice ba n bc)))[0]? = some (.int .i64 3)); have q5 := hS.c 5 (by rfl : (msA (cB (.slice ba n bc)))[5]? = some (.slice ba n bc)); go_simp⟩) hH1 ?_
      simp only [Act.put, List.setIfInBounds_toArray, List.set_cons_zero, List.set_cons_succ]
      refine wpAnyH_take (i := 24) (oi := ⟨some 60, Op.move (Operand.tmp 5), 3, _, _, some (20, false)⟩) (v := .int .i64 (at_ : Int)) rfl (by kernel_rfl) (by kernel_rfl) (by kernel_rfl) (fun _ _ _ h => h) (Or.inl ⟨by rfl, fun w hS => by have q0 := hS.c 0 (by rfl : (msA (cB (.slice ba n bc)))[0]? = some (.int .i64 3)); have q5 := hS.c 5 (by rfl : (msA (cB (.slice ba n bc)))[5]? = some (.slice ba n bc)); go_simp⟩) hH1 ?_
      simp only [Act.put, List.setIfInBounds_toArray, List.set_cons_zero, List.set_cons_succ]
      refine wpAnyH_take (i := 25) (oi := ⟨some 61, Op.move (Operand.tmp 5), 3, _, _, some (20, false)⟩) (v := .int .i64 (at_ : Int)) rfl (by kernel_rfl) (by kernel_rfl) (by kernel_rfl) (fun _ _ _ h => h) (Or.inl ⟨by rfl, fun w hS => by have q0 := hS.c 0 (by rfl : (msA (cB (.slice ba n bc)))[0]? = some (.int .i64 3)); have q5 := hS.c 5 (by rfl : (msA (cB (.slice ba n bc)))[5]? = some (.slice ba n bc)); go_simp⟩) hH1 ?_
      simp only [Act.put, List.setIfInBounds_toArray, List.set_cons_zero, List.set_cons_succ]
      refine wpAnyH_take (i := 26) (oi := ⟨some 62, Op.move (Operand.tmp 8), 3, _, _, some (20, false)⟩) (v := .int .i64 (n : Int)) rfl (by kernel_rfl) (by kernel_rfl) (by kernel_rfl) (fun _ _ _ h => h) (Or.inl ⟨by rfl, fun w hS => by have q0 := hS.c 0 (by rfl : (msA (cB (.slice ba n bc)))[0]? = some (.int .i64 3)); have q5 := hS.c 5 (by rfl : (msA (cB (.slice ba n bc)))[5]? = some (.slice ba n bc)); go_simp⟩) hH1 ?_
      simp only [Act.put, List.setIfInBounds_toArray, List.set_cons_zero, List.set_cons_succ]
      refine wpAnyH_take (i := 27) (oi := ⟨some 63, Op.binOp BinOp.add 3 (Operand.tmp 61) (Operand.tmp 62) 3, 3, _, _, some (20, false)⟩) (v := .int .i64 (m_ : Int)) rfl (by kernel_rfl) (by kernel_rfl) (by kernel_rfl) (fun _ _ _ h => h) (Or.inl ⟨by rfl, fun w hS => by have q0 := hS.c 0 (by rfl : (msA (cB (.slice ba n bc)))[0]? = some (.int .i64 3)); have q5 := hS.c 5 (by rfl : (msA (cB (.slice ba n bc)))[5]? = some (.slice ba n bc)); go_simp⟩) hH1 ?_
      simp only [Act.put, List.setIfInBounds_toArray, List.set_cons_zero, List.set_cons_succ]
      refine wpAnyH_take (i := 28) (oi := ⟨some 64, Op.slice 22 (Operand.tmp 59) (some (Operand.tmp 60)) (some (Operand.tmp 63)) none, 22, _, _, some (20, false)⟩) (v := SV) rfl (by kernel_rfl) (by kernel_rfl) (by kernel_rfl) (fun _ _ _ h => h) (yieldsIf_slice2 (by rfl) 22 (Operand.tmp 59) (Operand.tmp 60) (Operand.tmp 63) rfl (.slice la ls.length lc) (.int .i64 (at_ : Int)) (.int .i64 (m_ : Int)) SV rfl rfl rfl (fun wx => by rw [hSV.out]; exact sl_runR2 la ls.length lc at_ m_ (by have := hm_.out; omega) hcap wx)) hH1 ?_
      simp only [Act.put, List.setIfInBounds_toArray, List.set_cons_zero, List.set_cons_succ]
      refine wpAnyH_ready (rs := [29]) (by kernel_rfl) (by simp) ?_
      refine AllReadyH.cons (o := ⟨some 65, Op.call { callee := Callee.value (Operand.func 7), args := #[Operand.tmp 58, Operand.tmp 64], argTypes := #[22, 22] }, 4, _, _, some (20, false)⟩) rfl (fun K hK => ?_) AllReadyH.nil
      rw [if_pos (by rfl)]
      refine wp_callF 7 _ _ rfl Try.in7 #[.slice ba n bc, SV] (by simp [Act.eval]) (fun vz wz => vz = .bool true ∧ Below wb.heap.size wb wz) ?_ ?_
      · refine (sameRows_refl _ _ d wc (HZb.out.below BC.out).rws (HSR.out.below BC.out) (by have := hn.out; omega)).mono ?_
        rintro e wz ⟨rfl, q, rfl⟩
        exact ⟨_, rfl, rfl, BC.out.trans ((below_drewN wc q).mono BC.out.size)⟩
      rintro vz wd ⟨rfl, hd⟩
      have BD := Keep.mk hd
      clear hd
      refine hK.out _ _ (HS0.out _ BD.out) fun hH2 => ?_
      clear hK
      simp only [Act.put, List.setIfInBounds_toArray, List.set_cons_zero, List.set_cons_succ]
      refine wpAnyH_take (i := 30) (oi := ⟨some 66, Op.unOp UnOp.not 4 (Operand.tmp 65), 4, _, _, some (20, false)⟩) (v := .bool false) rfl (by kernel_rfl) (by kernel_rfl) (by kernel_rfl) (fun _ _ _ h => h) (Or.inl ⟨by rfl, fun w hS => by have q0 := hS.c 0 (by rfl : (msA (cB (.slice ba n bc)))[0]? = some (.int .i64 3)); have q5 := hS.c 5 (by rfl : (msA (cB (.slice ba n bc)))[5]? = some (.slice ba n bc)); go_simp⟩) hH2 ?_
      simp only [Act.put, List.setIfInBounds_toArray, List.set_cons_zero, List.set_cons_succ]
      refine wpAnyH_take (i := 31) (oi := ⟨some 67, Op.pick (Operand.tmp 56) (Operand.const (Value.bool true)) (Operand.tmp 66), 4, _, _, none⟩) (v := .bool false) rfl (by kernel_rfl) (by kernel_rfl) (by kernel_rfl) (fun _ _ _ h => h) (Or.inl ⟨by rfl, fun w hS => by have q0 := hS.c 0 (by rfl : (msA (cB (.slice ba n bc)))[0]? = some (.int .i64 3)); have q5 := hS.c 5 (by rfl : (msA (cB (.slice ba n bc)))[5]? = some (.slice ba n bc)); go_simp⟩) hH2 ?_
      simp only [Act.put, List.setIfInBounds_toArray, List.set_cons_zero, List.set_cons_succ]
      refine wpAnyH_done (by kernel_rfl) ?_ _
      refine hK17 _ _ ?_
      refine wp_cond_false rfl ?_
      refine wp_skip ?_
      refine hK16 _ _ ?_
      refine wp_seq_k fun K18 hK18 => ?_
      have JOd := Keep.mk (JOb.out.below BD.out)
      have JRd := Keep.mk (JRb.out.below BD.out)
      have JBd : Keep (Below w.heap.size w wd) := ⟨JBb.out.trans (BD.out.mono JBb.out.size)⟩
      have JMd : Keep (MsgsOf (RowsOwn w.heap.size wd) cs D) := ⟨JMb.out.imp fun v d h => h.below BD.out⟩
      have HZd := Keep.mk (HZb.out.below BD.out)
      have H7d := Keep.mk (H7.out.below BD.out H7.out.lt)
      clear JOb JRb JBb JMb HZb H7 HS0 BC BD HSR
      refine wp_region_list (WL.out ?_)
      refine WL.val (by kernel_rfl) (.int .i64 (at_ : Int)) (by go_simp) ?_
      simp only [Act.put, List.setIfInBounds_toArray, List.set_cons_zero, List.set_cons_succ]
      refine WL.val (by kernel_rfl) (.int .i64 (n : Int)) (by go_simp) ?_
      simp only [Act.put, List.setIfInBounds_toArray, List.set_cons_zero, List.set_cons_succ]
      refine WL.val (by kernel_rfl) (.int .i64 (m_ : Int)) (by go_simp) ?_
      simp only [Act.put, List.setIfInBounds_toArray, List.set_cons_zero, List.set_cons_succ]
      refine WL.val (by kernel_rfl) (.int .i64 (m_ : Int)) (by go_simp) ?_
      simp only [Act.put, List.setIfInBounds_toArray, List.set_cons_zero, List.set_cons_succ]
      refine WL.nil ?_
      refine hK18 _ _ ?_
      refine wp_seq_k fun K19 hK19 => ?_
      by_cases hmo : m_ < ls.length
      · have hmo' : (m_ : Int) < (ls.length : Int) := by omega
        refine wp_region_list (WL.out ?_)
        refine WL.val (by kernel_rfl) (.int .i64 (m_ : Int)) (by go_simp) ?_
        simp only [Act.put, List.setIfInBounds_toArray, List.set_cons_zero, List.set_cons_succ]
        refine WL.val (by kernel_rfl) (.slice la ls.length lc) (by go_simp) ?_
        simp only [Act.put, List.setIfInBounds_toArray, List.set_cons_zero, List.set_cons_succ]
        refine WL.val (by kernel_rfl) (.int .i64 (ls.length : Int)) (by go_simp) ?_
        simp only [Act.put, List.setIfInBounds_toArray, List.set_cons_zero, List.set_cons_succ]
        refine WL.val (by kernel_rfl) (.bool true) (by go_simp) ?_
        simp only [Act.put, List.setIfInBounds_toArray, List.set_cons_zero, List.set_cons_succ]
        refine WL.nil ?_
        refine hK19 _ _ ?_
        refine wp_cond_true rfl ?_
        refine wp_seq_k fun K20 hK20 => ?_
        have hD0 : Below wd.heap.size wd wd.drew := (Below.refl _ _).drew
        obtain ⟨q0, o0, ra, rc, ha0, -, hcell, hrow⟩ := JRd.out.at m_ hmo
        subst ha0
        have Hrow := Keep.mk hrow
        have Hcl2 := Keep.mk hcell
        clear hrow hcell
        obtain ⟨vs, hvo, hvb, hvl, hvr⟩ := HZd.out
        rcases hvo.form with ⟨e0, e1⟩ | ⟨gB, cB_, cur, hB1, hB2, hB3, hB4⟩
        · exact absurd (show n = 0 by rw [hn.out, ← hvl, e1]; rfl) (by omega)
        injection hB1 with hB5 hB6 hB7
        subst hB5
        have HVc : Keep (∀ i u, vs[i]? = some u → cur[i]? = some u) := ⟨fun i u hu => by
          rw [← hB4, List.getElem?_take] at hu
          split at hu
          · rwa [Array.getElem?_toList] at hu
          · cases hu⟩
        have HBc := Keep.mk hB2
        have HV1 : Keep (vs.length = n) := ⟨hB6.symm⟩
        have HVo : Keep (∀ u ∈ vs, u.oneCell' = true) := ⟨fun u hu => by
          obtain ⟨i, hi, rfl⟩ := List.getElem_of_mem hu
          have h := (hvr i (by omega)).1.row
          obtain ⟨a, c, h2⟩ := row_form h
          rw [List.getD_eq_getElem?_getD, List.getElem?_eq_getElem hi] at h2
          have h3 : vs[i] = .slice a (d.getD i []).length c := h2
          rw [h3]; rfl⟩
        have HVr : Keep (∀ i, i < d.length → RowAt wd (vs.getD i noS) (d.getD i [])) := ⟨fun i hi => (hvr i hi).1.row⟩
        have HVl := Keep.mk hvl
        clear hvo hvb hvl hvr hB2 hB3 hB4 hB6 hB7
        have HSc : Keep (∀ wx, Below wd.heap.size wd wx → wx.cell? ⟨g7, 5, none⟩ = some (.slice (some ⟨gB, 0, none⟩) n bc) ∧ wx.cell? ⟨q0, o0 + m_, none⟩ = some (.slice ra (ls.getD m_ []).length rc)) := ⟨fun wx hb => ⟨(H7d.out.below hb H7d.out.lt).c 5 (by rfl : (msA (cB (.slice (some ⟨gB, 0, none⟩) n bc)))[5]? = some (.slice (some ⟨gB, 0, none⟩) n bc)), by rw [hb.cell (p := ⟨q0, o0 + m_, none⟩) (cell_lt Hcl2.out)]; exact Hcl2.out⟩⟩
        obtain ⟨r, hr⟩ : ∃ r, Keep (r = ls.getD m_ []) := ⟨_, ⟨rfl⟩⟩
        rw [← hr.out] at HSc Hrow
        refine wp_region_held_drew (S := fun wx => wx.cell? ⟨g7, 5, none⟩ = some (.slice (some ⟨gB, 0, none⟩) n bc) ∧ wx.cell? ⟨q0, o0 + m_, none⟩ = some (.slice ra r.length rc)) (by kernel_rfl) (HSc.out _ hD0) (fun hHeld => ?_)
        refine wpAnyH_take (i := 0) (oi := ⟨some 75, Op.fieldAddr 32 (Operand.tmp 7) 5, 0, _, _, none⟩) (v := .pointer (some ⟨g7, 5, none⟩)) rfl (by kernel_rfl) (by kernel_rfl) (by kernel_rfl) (fun _ _ _ h => h) (Or.inl ⟨by rfl, fun w hS => by obtain ⟨hS1, hS2⟩ := hS; go_simp⟩) hHeld ?_
        simp only [Act.put, List.setIfInBounds_toArray, List.set_cons_zero, List.set_cons_succ]
        refine wpAnyH_take (i := 1) (oi := ⟨some 76, Op.load 22 (Operand.tmp 75), 22, _, _, none⟩) (v := .slice (some ⟨gB, 0, none⟩) n bc) rfl (by kernel_rfl) (by kernel_rfl) (by kernel_rfl) (fun _ _ _ h => h) (Or.inl ⟨by rfl, fun w hS => by obtain ⟨hS1, hS2⟩ := hS; go_simp⟩) hHeld ?_
        simp only [Act.put, List.setIfInBounds_toArray, List.set_cons_zero, List.set_cons_succ]
        refine wpAnyH_take (i := 3) (oi := ⟨some 78, Op.move (Operand.tmp 0), 22, _, _, none⟩) (v := .slice (some ⟨q0, o0, none⟩) ls.length lc) rfl (by kernel_rfl) (by kernel_rfl) (by kernel_rfl) (fun _ _ _ h => h) (Or.inl ⟨by rfl, fun w hS => by obtain ⟨hS1, hS2⟩ := hS; go_simp⟩) hHeld ?_
        simp only [Act.put, List.setIfInBounds_toArray, List.set_cons_zero, List.set_cons_succ]
        refine wpAnyH_take (i := 4) (oi := ⟨some 79, Op.move (Operand.tmp 5), 3, _, _, none⟩) (v := .int .i64 (m_ : Int)) rfl (by kernel_rfl) (by kernel_rfl) (by kernel_rfl) (fun _ _ _ h => h) (Or.inl ⟨by rfl, fun w hS => by obtain ⟨hS1, hS2⟩ := hS; go_simp⟩) hHeld ?_
        simp only [Act.put, List.setIfInBounds_toArray, List.set_cons_zero, List.set_cons_succ]
        refine wpAnyH_take (i := 5) (oi := ⟨some 80, Op.indexAddr 22 (Operand.tmp 78) (Operand.tmp 79), 0, _, _, none⟩) (v := .pointer (some ⟨q0, o0 + m_, none⟩)) rfl (by kernel_rfl) (by kernel_rfl) (by kernel_rfl) (fun _ _ _ h => h) (Or.inl ⟨by rfl, fun w hS => by obtain ⟨hS1, hS2⟩ := hS; go_simp⟩) hHeld ?_
        simp only [Act.put, List.setIfInBounds_toArray, List.set_cons_zero, List.set_cons_succ]
        refine wpAnyH_take (i := 6) (oi := ⟨some 81, Op.load 30 (Operand.tmp 80), 30, _, _, none⟩) (v := .slice ra r.length rc) rfl (by kernel_rfl) (by kernel_rfl) (by kernel_rfl) (fun _ _ _ h => h) (Or.inl ⟨by rfl, fun w hS => by obtain ⟨hS1, hS2⟩ := hS; go_simp⟩) hHeld ?_
        simp only [Act.put, List.setIfInBounds_toArray, List.set_cons_zero, List.set_cons_succ]
        refine wpAnyH_ready (rs := [2, 7]) (by kernel_rfl) (by simp) ?_
        refine AllReadyH.cons (o := ⟨some 77, Op.call { callee := Callee.builtin Builtin.append, args := #[Operand.const (Value.slice none 0 0), Operand.tmp 76], argTypes := #[22, 22] }, 22, _, _, none⟩) rfl (fun K hK => ?_) (AllReadyH.cons (o := ⟨some 82, Op.buildSlice 22 1 #[(0, Operand.tmp 81)], 22, _, _, none⟩) rfl (fun K hK => ?_) AllReadyH.nil)
        all_goals rw [if_pos (by rfl)]
        · refine wp_appN _ (.tmp 76) rfl gB bc vs rfl (by simp [Act.eval, HV1.out]) HVo.out (by rw [HV1.out]; omega) (fun i u hu => by rw [(HBc.out.below (hD0) HBc.out.lt).cell]; exact HVc.out i u hu) (by rw [HV1.out]; omega) ?_
          intro v2 wA ho2 hb2 hn2'
          have B_wA : Below wd.heap.size wd wA := (hD0).trans (hb2.mono (hD0).size)
          refine hK.out _ _ (HSc.out _ B_wA) fun hH_wA => ?_
          clear hK
          simp only [Act.put, List.setIfInBounds_toArray, List.set_cons_zero, List.set_cons_succ]
          refine wpAnyH_ready (rs := [7]) (by kernel_rfl) (by simp) ?_
          refine AllReadyH.cons (o := ⟨some 82, Op.buildSlice 22 1 #[(0, Operand.tmp 81)], 22, _, _, none⟩) rfl (fun K hK => ?_) AllReadyH.nil
          rw [if_pos (by rfl)]
          refine wp_bsR (.slice (some ⟨(wA).heap.size, 0, none⟩) 1 1) ((wA).alloc (.cells #[.slice ra r.length rc] 30)) (by kernel_rfl) ?_
          have hbs := Blk.new (wA) 30 #[.slice ra r.length rc]
          have hbb := below_new (wA) (.cells #[.slice ra r.length rc] 30)
          obtain ⟨wB, hw_wB⟩ : ∃ w', Keep ((wA).alloc (.cells #[.slice ra r.length rc] 30) = w') := ⟨_, ⟨rfl⟩⟩
          obtain ⟨gb, hgb⟩ : ∃ gb, Keep (gb = (wA).heap.size) := ⟨_, ⟨rfl⟩⟩
          rw [hw_wB.out] at hbs hbb ⊢
          rw [← hgb.out] at hbs ⊢
          have B_wB : Below wd.heap.size wd wB := (B_wA).trans (hbb.mono (B_wA).size)
          refine hK.out _ _ (HSc.out _ B_wB) fun hH_wB => ?_
          clear hK
          simp only [Act.put, List.setIfInBounds_toArray, List.set_cons_zero, List.set_cons_succ]
          refine wpAnyH_ready (rs := [8]) (by kernel_rfl) (by simp) ?_
          refine AllReadyH.cons (o := ⟨some 83, Op.call { callee := Callee.builtin Builtin.append, args := #[Operand.tmp 77, Operand.tmp 82], argTypes := #[22, 22] }, 22, _, _, none⟩) rfl (fun K hK => ?_) AllReadyH.nil
          rw [if_pos (by rfl)]
          refine wp_appR1 (.tmp 77) (.tmp 82) rfl v2 vs gb (.slice ra r.length rc) rfl rfl rfl (ho2.below hbb) (hbs) (by rw [HV1.out]; omega) ?_
          intro v5 w5 ho5 hg5 hm5
          have B5 : Below wd.heap.size wd w5 := B_wB.trans (hg5.to_below (fun k hk e => by have h1 : wd.heap.size ≤ k := hn2' k e; omega) B_wB.size)
          refine hK.out _ _ (HSc.out _ B5) fun hH5 => ?_
          clear hK
          simp only [Act.put, List.setIfInBounds_toArray, List.set_cons_zero, List.set_cons_succ]
          refine wpAnyH_take (i := 9) (oi := ⟨some 9, Op.assign (Operand.tmp 83), 22, _, _, none⟩) (v := v5) rfl (by kernel_rfl) (by kernel_rfl) (by kernel_rfl) (fun _ _ _ h => h) (Or.inl ⟨by rfl, fun w hS => by go_simp⟩) hH5 ?_
          simp only [Act.put, List.setIfInBounds_toArray, List.set_cons_zero, List.set_cons_succ]
          refine wpAnyH_done (by kernel_rfl) ?_ _
          have BE := Keep.mk B5
          have HOv := Keep.mk ho5
          clear ho5 hg5 hm5 B5 ho2 hb2 hn2' hbs hbb hgb
          refine hK20 _ _ ?_
          refine wp_seq_k fun K21 hK21 => ?_
          obtain ⟨pa5, pc5, rfl⟩ := HOv.out.sl
          have HW5 : Keep (RwsAt w5 (.slice pa5 (vs ++ [Value.slice ra r.length rc]).length pc5) (d ++ [r])) := ⟨OwnR.rws HOv.out (by rw [List.length_append, List.length_append, HVl.out]; rfl) (fun i hi => by
            rw [List.length_append] at hi
            by_cases h : i < d.length
            · have h1 : (vs ++ [Value.slice ra r.length rc]).getD i noS = vs.getD i noS := by rw [List.getD_eq_getElem?_getD, List.getElem?_append_left (by rw [HVl.out]; exact h), ← List.getD_eq_getElem?_getD]
              have h2 : (d ++ [r]).getD i [] = d.getD i [] := by rw [List.getD_eq_getElem?_getD, List.getElem?_append_left h, ← List.getD_eq_getElem?_getD]
              rw [h1, h2]
              exact (HVr.out i h).below BE.out
            · have he : i = d.length := by simp at hi; omega
              subst he
              have h1 : (vs ++ [Value.slice ra r.length rc]).getD d.length noS = .slice ra r.length rc := by rw [List.getD_eq_getElem?_getD, ← HVl.out, List.getElem?_append_right (Nat.le_refl _)]; simp
              have h2 : (d ++ [r]).getD d.length [] = r := by rw [List.getD_eq_getElem?_getD, List.getElem?_append_right (Nat.le_refl _)]; simp
              rw [h1, h2]
              exact Hrow.out.below BE.out)⟩
          obtain ⟨m5, hm5⟩ : ∃ m, Keep (m = (vs ++ [Value.slice ra r.length rc]).length) := ⟨_, ⟨rfl⟩⟩
          rw [← hm5.out] at HW5 ⊢
          have hdr : Keep (d ++ [r] = (ls.drop at_).take (fit (ls.drop at_) + 1)) := ⟨by rw [take_more (by rw [Hfit.out, List.length_drop]; have := hm_.out; omega), ← HD.out, Hfit.out]; congr 2; rw [hr.out, hm_.out, List.getD_eq_getElem?_getD, List.getD_eq_getElem?_getD, List.getElem?_drop]⟩
          have hkn : Keep (chkM (mB (d ++ [r])) ≠ 0) := ⟨by rw [hdr.out]; exact chk_more (by rw [Hfit.out, List.length_drop]; have := hm_.out; omega)⟩
          have hmem : Keep (∀ x ∈ d ++ [r], x ∈ ls) := ⟨fun x hx => by rw [hdr.out] at hx; exact List.mem_of_mem_drop (List.mem_of_mem_take hx)⟩
          obtain ⟨CK, hCK⟩ : ∃ z, Keep (z = chkM (mB (d ++ [r]))) := ⟨_, ⟨rfl⟩⟩
          have hCn : ¬ CK = 0 := by rw [hCK.out]; exact hkn.out
          have hck := check_any (mB (d ++ [r])) (cB (.slice pa5 m5 pc5)) w5 (mB_at HW5.out) (mB_ok (by rw [List.length_append]; have := hn.out; simp; omega) (fun x hx => Hrm.out x (hmem.out x hx)) (fun x hx => Hby.out x (hmem.out x hx)))
          rw [← hCK.out] at hck
          refine wp_region_list (WL.out ?_)
          refine WL.val (by kernel_rfl) (.slice pa5 m5 pc5) (by go_simp) ?_
          simp only [Act.put, List.setIfInBounds_toArray, List.set_cons_zero, List.set_cons_succ]
          refine WL.bld (by kernel_rfl) 32 _ rfl [(0, .int .i64 3), (5, .slice pa5 m5 pc5)] (by simp [Act.eval]) _ (ms_builtB _ _ _) ?_
          simp only [Act.put, List.setIfInBounds_toArray, List.set_cons_zero, List.set_cons_succ]
          refine WL.callF (by kernel_rfl) 6 _ _ rfl Try.in6 #[.agg (msA (cB (.slice pa5 m5 pc5)))] (by simp [Act.eval]) ?_
          refine (hck).mono ?_
          rintro e w6 ⟨rfl, hb6⟩
          refine ⟨_, rfl, ?_⟩
          have B6 : Keep (Below wd.heap.size wd w6) := ⟨BE.out.trans (hb6.mono BE.out.size)⟩
          clear hb6 hck
          simp only [Act.put, List.setIfInBounds_toArray, List.set_cons_zero, List.set_cons_succ]
          refine WL.val (by kernel_rfl) (.bool false) (by go_simp) ?_
          simp only [Act.put, List.setIfInBounds_toArray, List.set_cons_zero, List.set_cons_succ]
          refine WL.nil ?_
          refine hK21 _ _ ?_
          refine wp_cond_false rfl ?_
          refine wp_skip ?_
          refine hK13 _ _ ?_
          refine wp_region_list (WL.out ?_)
          refine WL.val (by kernel_rfl) (.int .i64 (t : Int)) (by go_simp) ?_
          simp only [Act.put, List.setIfInBounds_toArray, List.set_cons_zero, List.set_cons_succ]
          refine WL.val (by kernel_rfl) (.int .i64 ((t : Int) + 1)) (by go_simp) ?_
          simp only [Act.put, List.setIfInBounds_toArray, List.set_cons_zero, List.set_cons_succ]
          refine WL.val (by kernel_rfl) (.int .i64 ((t : Int) + 1)) (by go_simp) ?_
          simp only [Act.put, List.setIfInBounds_toArray, List.set_cons_zero, List.set_cons_succ]
          refine WL.nil ?_
          refine ⟨⟨t + 1, fun i => [.slice (some ⟨q0, o0, none⟩) ls.length lc, undef, f 2, .slice (some ⟨g, 0, none⟩) cs.length vc, .int .i64 0, .int .i64 (m_ : Int), .int .i64 ((t : Int) + 1), .pointer (some ⟨g7, 0, none⟩), .int .i64 (n : Int), .slice pa5 m5 pc5, .tuple #[.slice (some ⟨g, 0, none⟩) cs.length vc, .int .i64 0], .slice (some ⟨q0, o0, none⟩) ls.length lc, .tuple #[.slice (some ⟨g, 0, none⟩) cs.length vc, .int .i64 0], .slice (some ⟨g, 0, none⟩) cs.length vc, .int .i64 0, .int .i64 0, .bool false, undef, undef, undef, undef, undef, undef, .int .i64 (t : Int), .slice (some ⟨g, 0, none⟩) cs.length vc, .int .i64 (cs.length : Int), .bool true, .int .i64 (t : Int), .int .i64 ((t : Int) + 1), .slice (some ⟨g, 0, none⟩) cs.length vc, .int .i64 (t : Int), .pointer (some ⟨g, t * 6, none⟩), .agg (msA (cB (.slice (some ⟨gB, 0, none⟩) n bc))), .pointer (some ⟨g7, 5, none⟩), .slice (some ⟨gB, 0, none⟩) n bc, .int .i64 (n : Int), .agg (msA (cB (.slice (some ⟨gB, 0, none⟩) n bc))), .int .i64 0, .bool false, .bool false, .pointer (some ⟨g7, 0, none⟩), .int .i64 3, .bool false, .bool false, .bool false, .int .i64 (n : Int), .bool false, .bool false, .bool false, .int .i64 (n : Int), .slice (some ⟨q0, o0, none⟩) ls.length lc, .int .i64 (ls.length : Int), .int .i64 (at_ : Int), .int .i64 ((ls.length : Int) - (at_ : Int)), .bool false, .bool false, .bool false, .pointer (some ⟨g7, 5, none⟩), .slice (some ⟨gB, 0, none⟩) n bc, .slice (some ⟨q0, o0, none⟩) ls.length lc, .int .i64 (at_ : Int), .int .i64 (at_ : Int), .int .i64 (n : Int), .int .i64 (m_ : Int), SV, .bool true, .bool false, .bool false, .int .i64 (at_ : Int), .int .i64 (n : Int), .int .i64 (m_ : Int), .int .i64 (m_ : Int), .slice (some ⟨q0, o0, none⟩) ls.length lc, .int .i64 (ls.length : Int), .bool true, .pointer (some ⟨g7, 5, none⟩), .slice (some ⟨gB, 0, none⟩) n bc, v2, .slice (some ⟨q0, o0, none⟩) ls.length lc, .int .i64 (m_ : Int), .pointer (some ⟨q0, o0 + m_, none⟩), .slice ra r.length rc, .slice (some ⟨gb, 0, none⟩) 1 1, .slice pa5 m5 pc5, .slice pa5 m5 pc5, .agg (msA (cB (.slice pa5 m5 pc5))), .int .i64 CK, .bool false, undef, undef, undef, undef, undef, undef, undef].getD i undef, by rw [hnx.out, ← hn.out, ← hm_.out] <;> rfl, by omega, JOd.out.below B6.out, JMd.out.imp (fun v d h => h.below B6.out), JRd.out.below B6.out, JBd.out.trans (B6.out.mono JBd.out.size)⟩, ?_⟩
          simp only [intOf]; show cs.length - ((t : Int) + 1).toNat < cs.length - ((t : Int)).toNat; omega
        · refine wp_bsR (.slice (some ⟨(wd.drew).heap.size, 0, none⟩) 1 1) ((wd.drew).alloc (.cells #[.slice ra r.length rc] 30)) (by kernel_rfl) ?_
          have hbs := Blk.new (wd.drew) 30 #[.slice ra r.length rc]
          have hbb := below_new (wd.drew) (.cells #[.slice ra r.length rc] 30)
          obtain ⟨wA, hw_wA⟩ : ∃ w', Keep ((wd.drew).alloc (.cells #[.slice ra r.length rc] 30) = w') := ⟨_, ⟨rfl⟩⟩
          obtain ⟨gb, hgb⟩ : ∃ gb, Keep (gb = (wd.drew).heap.size) := ⟨_, ⟨rfl⟩⟩
          rw [hw_wA.out] at hbs hbb ⊢
          rw [← hgb.out] at hbs ⊢
          have B_wA : Below wd.heap.size wd wA := (hD0).trans (hbb.mono (hD0).size)
          refine hK.out _ _ (HSc.out _ B_wA) fun hH_wA => ?_
          clear hK
          simp only [Act.put, List.setIfInBounds_toArray, List.set_cons_zero, List.set_cons_succ]
          refine wpAnyH_ready (rs := [2]) (by kernel_rfl) (by simp) ?_
          refine AllReadyH.cons (o := ⟨some 77, Op.call { callee := Callee.builtin Builtin.append, args := #[Operand.const (Value.slice none 0 0), Operand.tmp 76], argTypes := #[22, 22] }, 22, _, _, none⟩) rfl (fun K hK => ?_) AllReadyH.nil
          rw [if_pos (by rfl)]
          refine wp_appN _ (.tmp 76) rfl gB bc vs rfl (by simp [Act.eval, HV1.out]) HVo.out (by rw [HV1.out]; omega) (fun i u hu => by rw [(HBc.out.below (B_wA) HBc.out.lt).cell]; exact HVc.out i u hu) (by rw [HV1.out]; omega) ?_
          intro v2 wB ho2 hb2 hn2'
          have B_wB : Below wd.heap.size wd wB := (B_wA).trans (hb2.mono (B_wA).size)
          refine hK.out _ _ (HSc.out _ B_wB) fun hH_wB => ?_
          clear hK
          simp only [Act.put, List.setIfInBounds_toArray, List.set_cons_zero, List.set_cons_succ]
          have hn2'' : ∀ k, v2.ownBlock = some k → wd.heap.size ≤ k := fun k hk => Nat.le_trans B_wA.size (hn2' k hk)
          refine wpAnyH_ready (rs := [8]) (by kernel_rfl) (by simp) ?_
          refine AllReadyH.cons (o := ⟨some 83, Op.call { callee := Callee.builtin Builtin.append, args := #[Operand.tmp 77, Operand.tmp 82], argTypes := #[22, 22] }, 22, _, _, none⟩) rfl (fun K hK => ?_) AllReadyH.nil
          rw [if_pos (by rfl)]
          refine wp_appR1 (.tmp 77) (.tmp 82) rfl v2 vs gb (.slice ra r.length rc) rfl rfl rfl (ho2) (hbs.below hb2 hbs.lt) (by rw [HV1.out]; omega) ?_
          intro v5 w5 ho5 hg5 hm5
          have B5 : Below wd.heap.size wd w5 := B_wB.trans (hg5.to_below (fun k hk e => by have h1 : wd.heap.size ≤ k := hn2'' k e; omega) B_wB.size)
          refine hK.out _ _ (HSc.out _ B5) fun hH5 => ?_
          clear hK
          simp only [Act.put, List.setIfInBounds_toArray, List.set_cons_zero, List.set_cons_succ]
          refine wpAnyH_take (i := 9) (oi := ⟨some 9, Op.assign (Operand.tmp 83), 22, _, _, none⟩) (v := v5) rfl (by kernel_rfl) (by kernel_rfl) (by kernel_rfl) (fun _ _ _ h => h) (Or.inl ⟨by rfl, fun w hS => by go_simp⟩) hH5 ?_
          simp only [Act.put, List.setIfInBounds_toArray, List.set_cons_zero, List.set_cons_succ]
          refine wpAnyH_done (by kernel_rfl) ?_ _
          have BE := Keep.mk B5
          have HOv := Keep.mk ho5
          clear ho5 hg5 hm5 B5 ho2 hb2 hn2' hbs hbb hgb
          refine hK20 _ _ ?_
          refine wp_seq_k fun K22 hK22 => ?_
          obtain ⟨pa5, pc5, rfl⟩ := HOv.out.sl
          have HW5 : Keep (RwsAt w5 (.slice pa5 (vs ++ [Value.slice ra r.length rc]).length pc5) (d ++ [r])) := ⟨OwnR.rws HOv.out (by rw [List.length_append, List.length_append, HVl.out]; rfl) (fun i hi => by
            rw [List.length_append] at hi
            by_cases h : i < d.length
            · have h1 : (vs ++ [Value.slice ra r.length rc]).getD i noS = vs.getD i noS := by rw [List.getD_eq_getElem?_getD, List.getElem?_append_left (by rw [HVl.out]; exact h), ← List.getD_eq_getElem?_getD]
              have h2 : (d ++ [r]).getD i [] = d.getD i [] := by rw [List.getD_eq_getElem?_getD, List.getElem?_append_left h, ← List.getD_eq_getElem?_getD]
              rw [h1, h2]
              exact (HVr.out i h).below BE.out
            · have he : i = d.length := by simp at hi; omega
              subst he
              have h1 : (vs ++ [Value.slice ra r.length rc]).getD d.length noS = .slice ra r.length rc := by rw [List.getD_eq_getElem?_getD, ← HVl.out, List.getElem?_append_right (Nat.le_refl _)]; simp
              have h2 : (d ++ [r]).getD d.length [] = r := by rw [List.getD_eq_getElem?_getD, List.getElem?_append_right (Nat.le_refl _)]; simp
              rw [h1, h2]
              exact Hrow.out.below BE.out)⟩
          obtain ⟨m5, hm5⟩ : ∃ m, Keep (m = (vs ++ [Value.slice ra r.length rc]).length) := ⟨_, ⟨rfl⟩⟩
          rw [← hm5.out] at HW5 ⊢
          have hdr : Keep (d ++ [r] = (ls.drop at_).take (fit (ls.drop at_) + 1)) := ⟨by rw [take_more (by rw [Hfit.out, List.length_drop]; have := hm_.out; omega), ← HD.out, Hfit.out]; congr 2; rw [hr.out, hm_.out, List.getD_eq_getElem?_getD, List.getD_eq_getElem?_getD, List.getElem?_drop]⟩
          have hkn : Keep (chkM (mB (d ++ [r])) ≠ 0) := ⟨by rw [hdr.out]; exact chk_more (by rw [Hfit.out, List.length_drop]; have := hm_.out; omega)⟩
          have hmem : Keep (∀ x ∈ d ++ [r], x ∈ ls) := ⟨fun x hx => by rw [hdr.out] at hx; exact List.mem_of_mem_drop (List.mem_of_mem_take hx)⟩
          obtain ⟨CK, hCK⟩ : ∃ z, Keep (z = chkM (mB (d ++ [r]))) := ⟨_, ⟨rfl⟩⟩
          have hCn : ¬ CK = 0 := by rw [hCK.out]; exact hkn.out
          have hck := check_any (mB (d ++ [r])) (cB (.slice pa5 m5 pc5)) w5 (mB_at HW5.out) (mB_ok (by rw [List.length_append]; have := hn.out; simp; omega) (fun x hx => Hrm.out x (hmem.out x hx)) (fun x hx => Hby.out x (hmem.out x hx)))
          rw [← hCK.out] at hck
          refine wp_region_list (WL.out ?_)
          refine WL.val (by kernel_rfl) (.slice pa5 m5 pc5) (by go_simp) ?_
          simp only [Act.put, List.setIfInBounds_toArray, List.set_cons_zero, List.set_cons_succ]
          refine WL.bld (by kernel_rfl) 32 _ rfl [(0, .int .i64 3), (5, .slice pa5 m5 pc5)] (by simp [Act.eval]) _ (ms_builtB _ _ _) ?_
          simp only [Act.put, List.setIfInBounds_toArray, List.set_cons_zero, List.set_cons_succ]
          refine WL.callF (by kernel_rfl) 6 _ _ rfl Try.in6 #[.agg (msA (cB (.slice pa5 m5 pc5)))] (by simp [Act.eval]) ?_
          refine (hck).mono ?_
          rintro e w6 ⟨rfl, hb6⟩
          refine ⟨_, rfl, ?_⟩
          have B6 : Keep (Below wd.heap.size wd w6) := ⟨BE.out.trans (hb6.mono BE.out.size)⟩
          clear hb6 hck
          simp only [Act.put, List.setIfInBounds_toArray, List.set_cons_zero, List.set_cons_succ]
          refine WL.val (by kernel_rfl) (.bool false) (by go_simp) ?_
          simp only [Act.put, List.setIfInBounds_toArray, List.set_cons_zero, List.set_cons_succ]
          refine WL.nil ?_
          refine hK22 _ _ ?_
          refine wp_cond_false rfl ?_
          refine wp_skip ?_
          refine hK13 _ _ ?_
          refine wp_region_list (WL.out ?_)
          refine WL.val (by kernel_rfl) (.int .i64 (t : Int)) (by go_simp) ?_
          simp only [Act.put, List.setIfInBounds_toArray, List.set_cons_zero, List.set_cons_succ]
          refine WL.val (by kernel_rfl) (.int .i64 ((t : Int) + 1)) (by go_simp) ?_
          simp only [Act.put, List.setIfInBounds_toArray, List.set_cons_zero, List.set_cons_succ]
          refine WL.val (by kernel_rfl) (.int .i64 ((t : Int) + 1)) (by go_simp) ?_
          simp only [Act.put, List.setIfInBounds_toArray, List.set_cons_zero, List.set_cons_succ]
          refine WL.nil ?_
          refine ⟨⟨t + 1, fun i => [.slice (some ⟨q0, o0, none⟩) ls.length lc, undef, f 2, .slice (some ⟨g, 0, none⟩) cs.length vc, .int .i64 0, .int .i64 (m_ : Int), .int .i64 ((t : Int) + 1), .pointer (some ⟨g7, 0, none⟩), .int .i64 (n : Int), .slice pa5 m5 pc5, .tuple #[.slice (some ⟨g, 0, none⟩) cs.length vc, .int .i64 0], .slice (some ⟨q0, o0, none⟩) ls.length lc, .tuple #[.slice (some ⟨g, 0, none⟩) cs.length vc, .int .i64 0], .slice (some ⟨g, 0, none⟩) cs.length vc, .int .i64 0, .int .i64 0, .bool false, undef, undef, undef, undef, undef, undef, .int .i64 (t : Int), .slice (some ⟨g, 0, none⟩) cs.length vc, .int .i64 (cs.length : Int), .bool true, .int .i64 (t : Int), .int .i64 ((t : Int) + 1), .slice (some ⟨g, 0, none⟩) cs.length vc, .int .i64 (t : Int), .pointer (some ⟨g, t * 6, none⟩), .agg (msA (cB (.slice (some ⟨gB, 0, none⟩) n bc))), .pointer (some ⟨g7, 5, none⟩), .slice (some ⟨gB, 0, none⟩) n bc, .int .i64 (n : Int), .agg (msA (cB (.slice (some ⟨gB, 0, none⟩) n bc))), .int .i64 0, .bool false, .bool false, .pointer (some ⟨g7, 0, none⟩), .int .i64 3, .bool false, .bool false, .bool false, .int .i64 (n : Int), .bool false, .bool false, .bool false, .int .i64 (n : Int), .slice (some ⟨q0, o0, none⟩) ls.length lc, .int .i64 (ls.length : Int), .int .i64 (at_ : Int), .int .i64 ((ls.length : Int) - (at_ : Int)), .bool false, .bool false, .bool false, .pointer (some ⟨g7, 5, none⟩), .slice (some ⟨gB, 0, none⟩) n bc, .slice (some ⟨q0, o0, none⟩) ls.length lc, .int .i64 (at_ : Int), .int .i64 (at_ : Int), .int .i64 (n : Int), .int .i64 (m_ : Int), SV, .bool true, .bool false, .bool false, .int .i64 (at_ : Int), .int .i64 (n : Int), .int .i64 (m_ : Int), .int .i64 (m_ : Int), .slice (some ⟨q0, o0, none⟩) ls.length lc, .int .i64 (ls.length : Int), .bool true, .pointer (some ⟨g7, 5, none⟩), .slice (some ⟨gB, 0, none⟩) n bc, v2, .slice (some ⟨q0, o0, none⟩) ls.length lc, .int .i64 (m_ : Int), .pointer (some ⟨q0, o0 + m_, none⟩), .slice ra r.length rc, .slice (some ⟨gb, 0, none⟩) 1 1, .slice pa5 m5 pc5, .slice pa5 m5 pc5, .agg (msA (cB (.slice pa5 m5 pc5))), .int .i64 CK, .bool false, undef, undef, undef, undef, undef, undef, undef].getD i undef, by rw [hnx.out, ← hn.out, ← hm_.out] <;> rfl, by omega, JOd.out.below B6.out, JMd.out.imp (fun v d h => h.below B6.out), JRd.out.below B6.out, JBd.out.trans (B6.out.mono JBd.out.size)⟩, ?_⟩
          simp only [intOf]; show cs.length - ((t : Int) + 1).toNat < cs.length - ((t : Int)).toNat; omega
      · have hmo' : ¬ (m_ : Int) < (ls.length : Int) := by omega
        refine wp_region_list (WL.out ?_)
        refine WL.val (by kernel_rfl) (.int .i64 (m_ : Int)) (by go_simp) ?_
        simp only [Act.put, List.setIfInBounds_toArray, List.set_cons_zero, List.set_cons_succ]
        refine WL.val (by kernel_rfl) (.slice la ls.length lc) (by go_simp) ?_
        simp only [Act.put, List.setIfInBounds_toArray, List.set_cons_zero, List.set_cons_succ]
        refine WL.val (by kernel_rfl) (.int .i64 (ls.length : Int)) (by go_simp) ?_
        simp only [Act.put, List.setIfInBounds_toArray, List.set_cons_zero, List.set_cons_succ]
        refine WL.val (by kernel_rfl) (.bool false) (by go_simp) ?_
        simp only [Act.put, List.setIfInBounds_toArray, List.set_cons_zero, List.set_cons_succ]
        refine WL.nil ?_
        refine hK19 _ _ ?_
        refine wp_cond_false rfl ?_
        refine wp_skip ?_
        refine hK13 _ _ ?_
        refine wp_region_list (WL.out ?_)
        refine WL.val (by kernel_rfl) (.int .i64 (t : Int)) (by go_simp) ?_
        simp only [Act.put, List.setIfInBounds_toArray, List.set_cons_zero, List.set_cons_succ]
        refine WL.val (by kernel_rfl) (.int .i64 ((t : Int) + 1)) (by go_simp) ?_
        simp only [Act.put, List.setIfInBounds_toArray, List.set_cons_zero, List.set_cons_succ]
        refine WL.val (by kernel_rfl) (.int .i64 ((t : Int) + 1)) (by go_simp) ?_
        simp only [Act.put, List.setIfInBounds_toArray, List.set_cons_zero, List.set_cons_succ]
        refine WL.nil ?_
        refine ⟨⟨t + 1, fun i => [.slice la ls.length lc, undef, f 2, .slice (some ⟨g, 0, none⟩) cs.length vc, .int .i64 0, .int .i64 (m_ : Int), .int .i64 ((t : Int) + 1), .pointer (some ⟨g7, 0, none⟩), .int .i64 (n : Int), f 9, .tuple #[.slice (some ⟨g, 0, none⟩) cs.length vc, .int .i64 0], .slice la ls.length lc, .tuple #[.slice (some ⟨g, 0, none⟩) cs.length vc, .int .i64 0], .slice (some ⟨g, 0, none⟩) cs.length vc, .int .i64 0, .int .i64 0, .bool false, undef, undef, undef, undef, undef, undef, .int .i64 (t : Int), .slice (some ⟨g, 0, none⟩) cs.length vc, .int .i64 (cs.length : Int), .bool true, .int .i64 (t : Int), .int .i64 ((t : Int) + 1), .slice (some ⟨g, 0, none⟩) cs.length vc, .int .i64 (t : Int), .pointer (some ⟨g, t * 6, none⟩), .agg (msA (cB (.slice ba n bc))), .pointer (some ⟨g7, 5, none⟩), .slice ba n bc, .int .i64 (n : Int), .agg (msA (cB (.slice ba n bc))), .int .i64 0, .bool false, .bool false, .pointer (some ⟨g7, 0, none⟩), .int .i64 3, .bool false, .bool false, .bool false, .int .i64 (n : Int), .bool false, .bool false, .bool false, .int .i64 (n : Int), .slice la ls.length lc, .int .i64 (ls.length : Int), .int .i64 (at_ : Int), .int .i64 ((ls.length : Int) - (at_ : Int)), .bool false, .bool false, .bool false, .pointer (some ⟨g7, 5, none⟩), .slice ba n bc, .slice la ls.length lc, .int .i64 (at_ : Int), .int .i64 (at_ : Int), .int .i64 (n : Int), .int .i64 (m_ : Int), SV, .bool true, .bool false, .bool false, .int .i64 (at_ : Int), .int .i64 (n : Int), .int .i64 (m_ : Int), .int .i64 (m_ : Int), .slice la ls.length lc, .int .i64 (ls.length : Int), .bool false, f 75, f 76, f 77, f 78, f 79, f 80, f 81, f 82, f 83, f 84, f 85, f 86, f 87, undef, undef, undef, undef, undef, undef, undef].getD i undef, by rw [hnx.out, ← hn.out, ← hm_.out] <;> rfl, by omega, JOd.out, JMd.out, JRd.out, JBd.out⟩, ?_⟩
        simp only [intOf]; show cs.length - ((t : Int) + 1).toNat < cs.length - ((t : Int)).toNat; omega
    · have hte : Keep (t = cs.length) := ⟨by omega⟩
      have hlt' : ¬ (t : Int) < (cs.length : Int) := by omega
      have hend : aT D t = ls.length := by rw [hte.out, Hcs.out]; exact isCh_end D ls HC.out
      rw [hend]
      refine wp_seq_k fun K23 hK23 => ?_
      refine wp_seq_k fun K24 hK24 => ?_
      refine wp_region_list (WL.out ?_)
      refine WL.val (by kernel_rfl) (.int .i64 (t : Int)) (by go_simp) ?_
      simp only [Act.put, List.setIfInBounds_toArray, List.set_cons_zero, List.set_cons_succ]
      refine WL.val (by kernel_rfl) (.slice va cs.length vc) (by go_simp) ?_
      simp only [Act.put, List.setIfInBounds_toArray, List.set_cons_zero, List.set_cons_succ]
      refine WL.val (by kernel_rfl) (.int .i64 (cs.length : Int)) (by go_simp) ?_
      simp only [Act.put, List.setIfInBounds_toArray, List.set_cons_zero, List.set_cons_succ]
      refine WL.val (by kernel_rfl) (.bool false) (by go_simp) ?_
      simp only [Act.put, List.setIfInBounds_toArray, List.set_cons_zero, List.set_cons_succ]
      refine WL.nil ?_
      refine hK24 _ _ ?_
      refine wp_cond_false rfl ?_
      refine wp_exit ?_
      refine hK9 _ _ ?_
      refine wp_seq_k fun K25 hK25 => ?_
      refine wp_region_list (WL.out ?_)
      refine WL.val (by kernel_rfl) (.int .i64 (ls.length : Int)) (by go_simp) ?_
      simp only [Act.put, List.setIfInBounds_toArray, List.set_cons_zero, List.set_cons_succ]
      refine WL.val (by kernel_rfl) (.slice la ls.length lc) (by go_simp) ?_
      simp only [Act.put, List.setIfInBounds_toArray, List.set_cons_zero, List.set_cons_succ]
      refine WL.val (by kernel_rfl) (.int .i64 (ls.length : Int)) (by go_simp) ?_
      simp only [Act.put, List.setIfInBounds_toArray, List.set_cons_zero, List.set_cons_succ]
      refine WL.val (by kernel_rfl) (.bool true) (by go_simp) ?_
      simp only [Act.put, List.setIfInBounds_toArray, List.set_cons_zero, List.set_cons_succ]
      refine WL.val (by kernel_rfl) (.bool true) (by go_simp) ?_
      simp only [Act.put, List.setIfInBounds_toArray, List.set_cons_zero, List.set_cons_succ]
      refine WL.callF (by kernel_rfl) 5 _ _ rfl Try.in5 #[] (by simp) ?_
      refine (fixed_any wr).mono ?_
      rintro e w2 ⟨rfl, hb2⟩
      refine ⟨_, rfl, ?_⟩
      simp only [Act.put, List.setIfInBounds_toArray, List.set_cons_zero, List.set_cons_succ]
      refine WL.val (by kernel_rfl) (.bool true) (by go_simp) ?_
      simp only [Act.put, List.setIfInBounds_toArray, List.set_cons_zero, List.set_cons_succ]
      refine WL.val (by kernel_rfl) (.bool true) (by go_simp) ?_
      simp only [Act.put, List.setIfInBounds_toArray, List.set_cons_zero, List.set_cons_succ]
      refine WL.nil ?_
      refine hK25 _ _ ?_
      refine wp_ret ?_
      go_ret
      exact ⟨rfl, JB.out.trans (hb2.mono JB.out.size)⟩
end Go.Proofs.Ytkcdoamohiaiaaa
namespace Go.Proofs.Ytkcdoamohiaiaaa
open Go.ChangeShapes Go.WideShapes Go.ChangeAt Go.RowKit Go.Deep

theorem Try.cellsOf30 : Try.prog.cellsOf 30 = 1 := by kernel_rfl
theorem Try.cellsOf5 : Try.prog.cellsOf 5 = 1 := by kernel_rfl
theorem Try.bytesOf5 : Try.prog.bytesOf 5 = 1 := by kernel_rfl
theorem reach_is : reachBytes = 140737488351232 := by decide
theorem add_none' (b o i : Nat) : (⟨b, o, none⟩ : Addr).add i = ⟨b, o + i, none⟩ := by
  cases i with
  | zero => rfl
  | succ i => rfl
theorem mem_weightsAll {H : Type} {P : Program} {e : TypeId} {d : DataW H} : ∀ {ds : List (DataW H)}, d ∈ ds → ∀ n ∈ d.weights P e, n ∈ DataW.weightsAll P e ds
  | d0 :: ds, h, n, hn => by
    simp only [DataW.weightsAll, List.mem_append]
    rcases List.mem_cons.1 h with rfl | h
    · exact .inl hn
    · exact .inr (mem_weightsAll h n hn)
theorem wf_u8 {n : Int} (h : (Lit.int .u8 n).wf = true) : 0 ≤ n ∧ n < 256 := by
  have h1 : IntKind.u8.min = 0 := by decide
  have h2 : IntKind.u8.max = 255 := by decide
  simp only [Lit.wf, h1, h2, Bool.and_eq_true, decide_eq_true_eq] at h
  omega

theorem row_of_trod {H : Type} {enc : TypeId × Value → H} {W : World} {sp : Nat → Bool} {held : Bool} {n base : Nat} {v : Value} {x : DataW H × List MemPlace} (hf : DataW.trod enc Try.prog W base sp held n 30 [v] = some x) (hw : ∀ n ∈ x.1.weights Try.prog 30, n ≤ reachBytes) :
    ∃ l : List Int, RowAt W v l ∧ Byts l ∧ l.length ≤ 140737488351232 := by
  rcases open_ints Try.underlying30 Try.underlying5 Try.cellsOf5 hf with ⟨hcs, _⟩ | ⟨a, len, cap, zs, hcs, _, hl, hm, hz, hx, hcell, hwz⟩
  · simp at hcs
    subst hcs
    exact ⟨[], .inl ⟨rfl, rfl⟩, Byts.nil, by simp⟩
  · simp at hcs
    subst hcs
    unfold maxLen at hm
    have hlz : len ≤ zs.length := by rw [hz]; split <;> omega
    have hbz : Byts zs := fun c hc => wf_u8 (hwz c hc)
    have hb : len ≤ 140737488351232 := by
      have h1 := hw ((zs.take len).length + (zs.drop len).length) (by
        rw [hx]
        simp only [DataW.weights, Try.underlying30]
        simp [lits, Try.bytesOf5])
      rw [List.length_take, reach_is] at h1
      omega
    by_cases h0 : len = 0
    · subst h0
      exact ⟨[], .inr (.inl ⟨a, cap, rfl, rfl⟩), Byts.nil, by simp⟩
    · have hs : a.spot = none := by
        have := hcell 0 (by omega)
        rw [show a.add 0 = a from rfl] at this
        exact World.cell?_spot this
      obtain ⟨b, off, sp⟩ := a
      obtain rfl : sp = none := hs
      have hlen : (zs.take len).length = len := by rw [List.length_take]; omega
      refine ⟨zs.take len, .inr (.inr ⟨b, off, cap, by rw [hlen], by omega, fun i hi => ?_⟩), hbz.take len, by omega⟩
      rw [hlen] at hi
      have := hcell i (by omega)
      rw [add_none'] at this
      rw [this]
      simp [List.getD, hi]

end Go.Proofs.Ytkcdoamohiaiaaa
namespace Go.Proofs.Ytkcdoamohiaiaaa
open Go.ChangeShapes Go.WideShapes Go.ChangeAt Go.RowKit Go.Deep
set_option linter.unusedSimpArgs false
set_option linter.unusedVariables false

theorem Try.bytesOf30 : Try.prog.bytesOf 30 = 24 := by kernel_rfl
theorem rws_of_trod {H : Type} {enc : TypeId × Value → H} {W : World} {sp : Nat → Bool} {held : Bool} {fuel base : Nat} {v : Value} {x : DataW H × List MemPlace} (hf : DataW.trod enc Try.prog W base sp held fuel 22 [v] = some x) (hw : ∀ n ∈ x.1.weights Try.prog 22, n ≤ reachBytes) :
    ∃ ls : List (List Int), RwsAt W v ls ∧ ls.length ≤ 140737488355328 ∧ (∀ i, i < ls.length → (ls.getD i []).length ≤ 140737488355328) ∧ ∀ r ∈ ls, Byts r := by
  rcases open_slice1 Try.underlying22 Try.cellsOf30 hf with ⟨hcs, _⟩ | ⟨a, len, cap, m, n, V, D, Pl, hcs, _, hl, hm, hz, hx, hcell⟩
  · simp at hcs
    subst hcs
    exact ⟨[], RwsAt.nil W, by simp, fun i hi => by simp at hi, fun r hr => by simp at hr⟩
  · simp at hcs
    subst hcs
    have hlz : len ≤ m := by rw [hz]; split <;> omega
    have hb : len ≤ 140737488355328 := by
      have h1 := hw ((((List.range len).map D).length + ((List.range (m - len)).map fun j => D (len + j)).length) * 24) (by
        rw [hx]
        simp only [DataW.weights, Try.underlying22]
        simp [Try.bytesOf30])
      rw [reach_is] at h1
      simp only [List.length_map, List.length_range] at h1
      omega
    have hwD : ∀ i, i < len → ∀ n ∈ (D i).weights Try.prog 30, n ≤ reachBytes := fun i hi n hn => hw n (by
      rw [hx]
      simp only [DataW.weights, Try.underlying22]
      refine List.mem_cons_of_mem _ (List.mem_append_left _ (mem_weightsAll (d := D i) ?_ n hn))
      exact List.mem_map.2 ⟨i, List.mem_range.2 hi, rfl⟩)
    obtain ⟨rows, hrows⟩ := Go.Deep.choose_lt (n := len) (p := fun i l => RowAt W (V i) l ∧ Byts l ∧ l.length ≤ 140737488351232) fun i hi => row_of_trod (hcell i (by omega)).2 (hwD i hi)
    have hg : ∀ i, i < len → ((List.range len).map rows).getD i [] = rows i := fun i hi => by rw [List.getD_eq_getElem?_getD]; simp [hi]
    refine ⟨(List.range len).map rows, ⟨V, ?_, fun i hi => ?_⟩, by simpa using hb, fun i hi => ?_, fun r hr => ?_⟩
    · by_cases h0 : len = 0
      · subst h0
        exact .inl ⟨_, _, rfl, rfl⟩
      · have hs : a.spot = none := by
          have := (hcell 0 (by omega)).1
          rw [show a.add 0 = a from rfl] at this
          exact World.cell?_spot this
        obtain ⟨b, off, sp⟩ := a
        obtain rfl : sp = none := hs
        refine .inr ⟨b, off, cap, by simp, by simpa using hl, fun i hi => ?_⟩
        have := (hcell i (by simp at hi; omega)).1
        rw [add_none'] at this
        exact this
    · have hi' : i < len := by simpa using hi
      rw [hg i hi']; exact (hrows i hi').1
    · have hi' : i < len := by simpa using hi
      rw [hg i hi']; have := (hrows i hi').2.2; omega
    · obtain ⟨i, hi, rfl⟩ := List.mem_map.1 hr
      exact (hrows i (List.mem_range.1 hi)).2.1
end Go.Proofs.Ytkcdoamohiaiaaa
