import Derived.Test.YtkjjlfpghhefcabK05
import Derived.Test.YtkjjlfpghhefcabK02
import Derived.Deep.RegionHeld3
import Derived.ProofKit
import Derived.OpenShut
import Derived.ShutString
import Derived.ChangeOld
import Derived.Below
import Derived.SizedLaws
import Derived.Deep.Slices
import Derived.Deep.Strs
namespace Go.Proofs.Ytkjjlfpghhefcab
open Go.RowKit
set_option linter.unusedSimpArgs false
set_option linter.unusedVariables false

theorem Try.in29 (w : World) (vs : Array Value) : (callFunc 29 vs).run Try.prog w = .ok (.enter 29 vs) w := by kernel_rfl
theorem own_rng {w : World} {g n cap : Nat} {m : List OpV} (h : OwnO w (.slice (some ⟨g, 0, none⟩) n cap) m) {t : Nat} {x : OpV} (hx : m[t]? = some x) (k : Nat) (v : Value) (hv : (opL x)[k]? = some v) : w.cell? ⟨g, t * 37 + k, none⟩ = some v := by
  rcases h.ops with ⟨_, _, e, e2⟩ | ⟨b, off, cp, e, _, h3⟩
  · rw [e2] at hx; simp at hx
  · injection e with e1 _
    injection e1 with e1
    injection e1 with e1 e2
    subst e1 e2
    have := h3 t x hx k v hv
    rwa [Nat.zero_add] at this

theorem mk0_built : Try.prog.built 59 [(0, .int .i64 (-7)), (1, .string ⟨#[109, 97, 114, 107]⟩)] = some (opA mk0) := by kernel_rfl
theorem mk0_bs (w : World) : (Instr.buildSlice 36 2 #[(0, .agg (opA mk0)), (1, .agg (opA mk0))]).run Try.prog w = .ok (.slice (some ⟨w.heap.size, 0, none⟩) 2 2) (w.alloc (.cells (flatO [mk0, mk0]).toArray 59)) := by kernel_rfl
theorem wp_appA {Q : Exit → Act → World → Prop} {o : Oper} {a : Act} {w : World} {K : Act → World → Prop} (s x : Operand)
    (ho : o.op = .call { callee := .builtin .append, args := #[s, x], argTypes := #[36, 36] }) (vx : Value) (m : List OpV)
    (hs : a.eval s = .slice none 0 0) (hx : a.eval x = vx) (hown : OpsAt w vx m) (hb : m.length ≤ 1599289640355)
    (h : ∀ v' w', OwnO w' v' m → Below w.heap.size w w' → (∀ k, v'.ownBlock = some k → w.heap.size ≤ k) → K (a.put o.dst v') w') : o.wp Try.prog a w K Q := by
  obtain ⟨v', w', hr, h2, h3, h4⟩ := run_appA w o.type vx m hown hb
  unfold Oper.wp execOp
  simp only [ho, resolve, invoke, builtin, Sem.run_bind, Sem.run_pure, Result.andThen_ok, List.map_toArray, List.map_cons, List.map_nil, hs, hx, hr]
  exact h v' w' h2 h3 h4
theorem wp_appB {Q : Exit → Act → World → Prop} {o : Oper} {a : Act} {w : World} {K : Act → World → Prop} (s x : Operand)
    (ho : o.op = .call { callee := .builtin .append, args := #[s, x], argTypes := #[36, 36] }) (v : Value) (l m : List OpV) (g : Nat)
    (hs : a.eval s = v) (hx : a.eval x = .slice (some ⟨g, 0, none⟩) m.length m.length) (hown : OwnO w v l) (hg : Blk w g 59 (flatO m).toArray) (hm : 0 < m.length) (hb : l.length + m.length ≤ 2000000000000)
    (h : ∀ v' w', OwnO w' v' (l ++ m) → (Grown w w' fun k => v.ownBlock = some k) → Moved w v v' → K (a.put o.dst v') w') : o.wp Try.prog a w K Q := by
  obtain ⟨v', w', hr, h1, h2, h3⟩ := run_appB w o.type v l m hown g hg hm hb
  unfold Oper.wp execOp
  simp only [ho, resolve, invoke, builtin, Sem.run_bind, Sem.run_pure, Result.andThen_ok, List.map_toArray, List.map_cons, List.map_nil, hs, hx, hr]
  exact h v' w' h1 h2 h3

set_option maxRecDepth 8000 in
set_option maxHeartbeats 8000000 in
theorem keeps_any (vl : Value) (l : List OpV) (vb : Value) (b : List Int) (w : World) (hl : OpsAt w vl l) (hok : ∀ x ∈ l, OpOk x) (hlb : l.length ≤ 1599289640355) (hR : RowAt w vb b) (hBy : Byts b) (hb : b.length ≤ 140737488351232) (hkey : ∀ x ∈ l, x.key.size ≤ 140737488351232) (hlta : ∀ k, vl.ownBlock = some k → k < w.heap.size) (hltb : ∀ k, vb.ownBlock = some k → k < w.heap.size) :
    Calls Try.prog 6 #[vl, vb] w fun e w' => e = .returned (.bool true) ∧ Below w.heap.size w w' := by
  obtain ⟨la, lc, hv⟩ := hl.form
  obtain ⟨ba, bc, hvb⟩ := row_form hR
  have HL := Keep.mk hl
  have Hok := Keep.mk hok
  have Hkey : Keep (∀ x ∈ l, x.key.size ≤ 140737488351232) := ⟨hkey⟩
  have Hlb := Keep.mk hlb
  have HR := Keep.mk hR
  have HBy := Keep.mk hBy
  have Hb := Keep.mk hb
  have HLTa : Keep (∀ k, vl.ownBlock = some k → k < w.heap.size) := ⟨hlta⟩
  have HLTb : Keep (∀ k, vb.ownBlock = some k → k < w.heap.size) := ⟨hltb⟩
  have Hv := Keep.mk hv
  have Hvb := Keep.mk hvb
  obtain ⟨N, hN⟩ : ∃ N, Keep (N = l.length) := ⟨_, ⟨rfl⟩⟩
  obtain ⟨M, hM⟩ : ∃ M, Keep (M = b.length) := ⟨_, ⟨rfl⟩⟩
  rw [hv, hvb, ← hN.out, ← hM.out]
  rw [← hN.out] at Hv
  rw [← hM.out] at Hvb
  clear hl hok hlb hR hBy hb hkey hlta hltb hv hvb
  have hNb : (N : Int) ≤ 1599289640355 := by have := Hlb.out; have := hN.out; omega
  obtain ⟨A, hA⟩ : ∃ A, Keep (A = opA mk0) := ⟨_, ⟨rfl⟩⟩
  have HAb : Keep (Try.prog.built 59 [(0, .int .i64 (-7)), (1, .string ⟨#[109, 97, 114, 107]⟩)] = some A) := ⟨by rw [hA.out]; exact mk0_built⟩
  have HAi : Keep ((Try.prog.info? 59).map (·.size) = some A.size) := ⟨by rw [hA.out]; exact Try.size59B _⟩
  have HAo : Keep (A.all (·.oneCell') = true) := ⟨by rw [hA.out]; exact opA_one _⟩
  have HAz : Keep ((opA zeroOp).size = A.size) := ⟨by rw [hA.out]; exact opA_sizes _ _⟩
  have HAs : Keep (∀ wx, (Instr.buildSlice 36 2 #[(0, .agg A), (1, .agg A)]).run Try.prog wx = .ok (.slice (some ⟨wx.heap.size, 0, none⟩) 2 2) (wx.alloc (.cells (flatO [mk0, mk0]).toArray 59))) := ⟨fun wx => by rw [hA.out]; exact mk0_bs wx⟩
  go_enter Try.func6, Try.ntmps6
  refine wp_seq_k fun K0 hK0 => ?_
  refine wp_region_list (WL.out ?_)
  refine WL.val (by kernel_rfl) (.bool false) (by go_simp) ?_
  simp only [Act.put, List.setIfInBounds_toArray, List.set_cons_zero, List.set_cons_succ]
  refine WL.nil ?_
  refine hK0 _ _ ?_
  clear hK0 K0
  refine wp_seq_k fun K1 hK1 => ?_
  refine wp_region_list (WL.out ?_)
  refine WL.bld (by kernel_rfl) 59 _ rfl [(0, .int .i64 (-7)), (1, .string ⟨#[109, 97, 114, 107]⟩)] (by simp [Act.eval]) A HAb.out ?_
  simp only [Act.put, List.setIfInBounds_toArray, List.set_cons_zero, List.set_cons_succ]
  refine WL.new (by kernel_rfl) 59 rfl _ Try.new59 ?_
  simp only [Act.put, List.setIfInBounds_toArray, List.set_cons_zero, List.set_cons_succ]
  refine WL.storeR (by kernel_rfl) 59 (.tmp 5) (.tmp 17) rfl w.heap.size A rfl rfl 59 (opA zeroOp) (Blk.new w 59 _) HAi.out HAz.out HAo.out ?_
  have HB1 := Keep.mk (below_setRow (below_new w (.cells (opA zeroOp) 59)) (Nat.le_refl w.heap.size) A)
  have H5 := Keep.mk ((Blk.new w 59 (opA zeroOp)).setRow A)
  obtain ⟨g5, hg5⟩ : ∃ g, Keep (g = w.heap.size) := ⟨_, ⟨rfl⟩⟩
  rw [← hg5.out] at H5 ⊢
  have HB1e : Keep (Below w.heap.size w ((w.alloc (.cells (opA zeroOp) 59)).setRow g5 A)) := ⟨by rw [hg5.out]; exact HB1.out⟩
  clear HB1
  generalize (w.alloc (.cells (opA zeroOp) 59)).setRow g5 A = w1 at *
  simp only [Act.put]
  refine WL.nil ?_
  refine hK1 _ _ ?_
  clear hK1 K1 HAb
  have HL1 := Keep.mk (HL.out.below HB1e.out)
  obtain ⟨CA, hCA⟩ : ∃ CA, Keep (CA = A.toList) := ⟨_, ⟨rfl⟩⟩
  have hCAA : CA.toArray = A := by rw [hCA.out]
  have hiC : (Try.prog.info? 59).map (·.size) = some CA.length := by rw [hCA.out, Array.length_toList]; exact HAi.out
  have hu := Try.underlying59
  have HCR : Keep (∀ wx, Blk wx g5 59 A → wx.rangeAt g5 0 CA) := ⟨fun wx h => by rw [hCA.out]; exact blk_range h⟩
  refine wp_seq_k fun K2 hK2 => ?_
  have hrest : ∀ (v19 v6 : Value) (g22 : Nat) (w6 : World), Blk w6 g5 59 A → OwnO w6 v6 (l ++ [mk0, mk0]) → (∀ k, v6.ownBlock = some k → w1.heap.size ≤ k) → Below w1.heap.size w1 w6 → K2 { tmps := #[.slice la N lc, .slice ba M bc, undef, undef, .bool false, .pointer (some ⟨g5, 0, none⟩), v6, undef, undef, undef, undef, undef, undef, undef, undef, undef, undef, .agg A, .slice la N lc, v19, .agg A, .agg A, .slice (some ⟨g22, 0, none⟩) 2 2, v6, undef, undef, undef, undef, undef, undef, undef, undef, undef, undef, undef, undef, undef, undef, undef, undef, undef, undef, undef, undef, undef, undef, undef, undef, undef, undef, undef, undef, undef, undef, undef, undef, undef, undef, undef, undef, undef, undef, undef, undef, undef, undef, undef, undef, undef, undef, undef, undef, undef, undef, undef, undef, undef, undef, undef, undef, undef, undef, undef, undef, undef, undef, undef, undef, undef, undef, undef, undef, undef, undef, undef, undef, undef, undef, undef, undef, undef, undef, undef, undef, undef, undef, undef, undef, undef, undef, undef, undef, undef, undef, undef, undef, undef, undef, undef, undef, undef, undef, undef], defers := [] } w6 := by
    intro v19 v6 g22 w6 h5 h6 hf6 hb6
    refine hK2 _ _ ?_
    obtain ⟨ga, cap, hv6, hcap⟩ := h6.some (by simp)
    subst hv6
    obtain ⟨n2, hn2⟩ : ∃ n2, n2 = (l ++ [mk0, mk0]).length := ⟨_, rfl⟩
    rw [← hn2] at h6 hf6 hcap ⊢
    have hn2' : n2 = N + 2 := by rw [hn2, hN.out]; simp
    clear hn2
    have HK : Keep (KS w g5 ga n2 cap N la lc l l w6) := ⟨⟨by rw [← hA.out]; exact h5, h6, by have h := HL1.out.below hb6; rw [Hv.out] at h; exact h, HB1e.out.trans (hb6.mono HB1e.out.size), by have h := HLTa.out; rw [Hv.out] at h; exact h, by rw [hg5.out]; exact Nat.le_refl _, Nat.le_trans HB1e.out.size (hf6 ga rfl), fun e => by have h1 := H5.out.lt; have h2 := hf6 ga rfl; omega, hN.out.symm, hn2'⟩⟩
    have hn2i : (n2 : Int) = (N : Int) + 2 := by omega
    have Hn2 := Keep.mk hn2'
    clear h5 h6 hf6 hb6 hn2' HL1 HAi HAo HAz HAs hiC HCR hCAA
    have HLN : Keep (l.length = N) := ⟨hN.out.symm⟩
    have hsl := sl_runO (some ⟨ga, 0, none⟩) n2 cap N (by have := Hn2.out; omega) w6
    refine wp_seq_k fun K1 hK1 => ?_
    refine wp_region_list (WL.out ?_)
    refine WL.val (by kernel_rfl) (.slice (some ⟨ga, 0, none⟩) n2 cap) (by go_simp) ?_
    simp only [Act.put, List.setIfInBounds_toArray, List.set_cons_zero, List.set_cons_succ]
    refine WL.val (by kernel_rfl) (.slice la N lc) (by go_simp) ?_
    simp only [Act.put, List.setIfInBounds_toArray, List.set_cons_zero, List.set_cons_succ]
    refine WL.val (by kernel_rfl) (.int .i64 (N : Int)) (by go_simp) ?_
    simp only [Act.put, List.setIfInBounds_toArray, List.set_cons_zero, List.set_cons_succ]
    refine WL.val (by kernel_rfl) (.slice (some ⟨ga, 0, none⟩) N cap) (by go_simp) ?_
    clear hsl
    simp only [Act.put, List.setIfInBounds_toArray, List.set_cons_zero, List.set_cons_succ]
    refine WL.val (by kernel_rfl) (.slice (some ⟨ga, 0, none⟩) N cap) (by go_simp) ?_
    simp only [Act.put, List.setIfInBounds_toArray, List.set_cons_zero, List.set_cons_succ]
    refine WL.nil ?_
    refine hK1 _ _ ?_
    refine wp_seq_k fun K2 hK2 => ?_
    refine wp_region_list (WL.out ?_)
    refine WL.callF (by kernel_rfl) 18 _ _ rfl Try.in18 #[] (by simp) ?_
    refine (newOut_any w6).mono ?_
    rintro e w7 ⟨rfl, hw⟩
    refine ⟨_, rfl, ?_⟩
    obtain ⟨p8, hp8⟩ : ∃ p, Keep (p = w6.heap.size) := ⟨_, ⟨rfl⟩⟩
    have HOp8 : Keep (OutAt w7 p8 (.slice none 0 0) []) := ⟨by rw [hw, hp8.out]; exact outAt_new w6⟩
    have HBp8 : Keep (Below w6.heap.size w6 w7) := ⟨by rw [hw]; exact below_new w6 _⟩
    have HK7 := Keep.mk (HK.out.below HBp8.out)
    have Hlop8 : Keep (w.heap.size ≤ p8) := ⟨by rw [hp8.out]; exact HK.out.bel.size⟩
    rw [← hp8.out]
    clear hw
    simp only [Act.put, List.setIfInBounds_toArray, List.set_cons_zero, List.set_cons_succ]
    refine WL.val (by kernel_rfl) (.pointer (some ⟨p8, 0, none⟩)) (by go_simp) ?_
    simp only [Act.put, List.setIfInBounds_toArray, List.set_cons_zero, List.set_cons_succ]
    refine WL.nil ?_
    refine hK2 _ _ ?_
    refine wp_seq_k fun K3 hK3 => ?_
    refine wp_region_list (WL.out ?_)
    refine WL.callF (by kernel_rfl) 18 _ _ rfl Try.in18 #[] (by simp) ?_
    refine (newOut_any w7).mono ?_
    rintro e w8 ⟨rfl, hw⟩
    refine ⟨_, rfl, ?_⟩
    obtain ⟨p9, hp9⟩ : ∃ p, Keep (p = w7.heap.size) := ⟨_, ⟨rfl⟩⟩
    have HOp9 : Keep (OutAt w8 p9 (.slice none 0 0) []) := ⟨by rw [hw, hp9.out]; exact outAt_new w7⟩
    have HBp9 : Keep (Below w7.heap.size w7 w8) := ⟨by rw [hw]; exact below_new w7 _⟩
    have HK8 := Keep.mk (HK7.out.below HBp9.out)
    have Hlop9 : Keep (w.heap.size ≤ p9) := ⟨by rw [hp9.out]; exact HK7.out.bel.size⟩
    rw [← hp9.out]
    clear hw
    have HOp8b := Keep.mk (HOp8.out.below HBp9.out)
    have Hne89 : Keep (p9 ≠ p8) := ⟨fun e => by have := HOp8.out.blk.lt; have := hp9.out; omega⟩
    simp only [Act.put, List.setIfInBounds_toArray, List.set_cons_zero, List.set_cons_succ]
    refine WL.val (by kernel_rfl) (.pointer (some ⟨p9, 0, none⟩)) (by go_simp) ?_
    simp only [Act.put, List.setIfInBounds_toArray, List.set_cons_zero, List.set_cons_succ]
    refine WL.nil ?_
    refine hK3 _ _ ?_
    refine wp_seq_k fun K4 hK4 => ?_
    refine wp_seq_k fun K5 hK5 => ?_
    refine wp_region_list (WL.out ?_)
    refine WL.val (by kernel_rfl) (.pointer (some ⟨p8, 0, none⟩)) (by go_simp) ?_
    simp only [Act.put, List.setIfInBounds_toArray, List.set_cons_zero, List.set_cons_succ]
    refine WL.val (by kernel_rfl) (.bool false) (by go_simp) ?_
    simp only [Act.put, List.setIfInBounds_toArray, List.set_cons_zero, List.set_cons_succ]
    refine WL.val (by kernel_rfl) (.bool false) (by go_simp) ?_
    simp only [Act.put, List.setIfInBounds_toArray, List.set_cons_zero, List.set_cons_succ]
    refine WL.val (by kernel_rfl) (.pointer (some ⟨p9, 0, none⟩)) (by go_simp) ?_
    simp only [Act.put, List.setIfInBounds_toArray, List.set_cons_zero, List.set_cons_succ]
    refine WL.val (by kernel_rfl) (.bool false) (by go_simp) ?_
    simp only [Act.put, List.setIfInBounds_toArray, List.set_cons_zero, List.set_cons_succ]
    refine WL.val (by kernel_rfl) (.bool false) (by go_simp) ?_
    simp only [Act.put, List.setIfInBounds_toArray, List.set_cons_zero, List.set_cons_succ]
    refine WL.nil ?_
    refine hK5 _ _ ?_
    refine wp_cond_false rfl ?_
    refine wp_skip ?_
    refine hK4 _ _ ?_
    refine wp_seq_k fun K6 hK6 => ?_
    refine wp_region_list (WL.out ?_)
    refine WL.val (by kernel_rfl) (.pointer (some ⟨p8, 0, none⟩)) (by go_simp) ?_
    simp only [Act.put, List.setIfInBounds_toArray, List.set_cons_zero, List.set_cons_succ]
    refine WL.val (by kernel_rfl) (.slice (some ⟨ga, 0, none⟩) N cap) (by go_simp) ?_
    simp only [Act.put, List.setIfInBounds_toArray, List.set_cons_zero, List.set_cons_succ]
    refine WL.callF (by kernel_rfl) 20 _ _ rfl Try.in20 #[ptr p8, .slice (some ⟨ga, 0, none⟩) N cap] (by simp [Act.eval]) ?_
    refine (put_any p8 _ [] _ (l) w8 HOp8b.out HK8.out.ops Hok.out (by rw [HK8.out.len]; omega) (fun k hk => by
      simp [Value.ownBlock] at hk
      subst hk
      obtain ⟨cur, hc⟩ := HK8.out.blk
      exact HOp8b.out.off hc (by decide) (by decide)) (fun h => by have := form_small _ h; simp only [List.length_nil]; omega)).mono ?_
    rintro e w9 ⟨rfl, vo, h1, h2, h3⟩
    refine ⟨_, rfl, ?_⟩
    have HK9 := Keep.mk (HK8.out.grown h3 (HOp8b.out.off HK8.out.mark (by decide) (by decide)) (by obtain ⟨cur, hc⟩ := HK8.out.blk; exact HOp8b.out.off hc (by decide) (by decide)) (fun k hk e => by rcases e with e | e; (have := Hlop8.out; omega); simp [Value.ownBlock] at e))
    have HOp9b : Keep (OutAt w9 p9 (.slice none 0 0) []) := ⟨HOp9.out.grown h3 (fun k hk e => by rcases hk with hk | hk; (rcases e with e | e; (have := Hne89.out; omega); simp [Value.ownBlock] at e); simp [Value.ownBlock] at hk)⟩
    obtain ⟨cc, hcc⟩ : ∃ cc, cc = (chk l).1 := ⟨_, rfl⟩
    rw [← hcc]
    clear h1 h2 h3
    simp only [Act.put, List.setIfInBounds_toArray, List.set_cons_zero, List.set_cons_succ]
    refine WL.val (by kernel_rfl) (.int .i64 cc) (by go_simp) ?_
    simp only [Act.put, List.setIfInBounds_toArray, List.set_cons_zero, List.set_cons_succ]
    refine WL.nil ?_
    refine hK6 _ _ ?_
    refine wp_seq_k fun K7 hK7 => ?_
    refine wp_region_list (WL.out ?_)
    refine WL.val (by kernel_rfl) (.slice (some ⟨ga, 0, none⟩) N cap) (by go_simp) ?_
    simp only [Act.put, List.setIfInBounds_toArray, List.set_cons_zero, List.set_cons_succ]
    refine WL.callF (by kernel_rfl) 26 _ _ rfl Try.in26 #[.slice (some ⟨ga, 0, none⟩) N cap] (by simp [Act.eval]) ?_
    refine (check_any _ l w9 HK9.out.ops Hok.out (by rw [HLN.out]; omega)).mono ?_
    rintro e w10 ⟨rfl, hb⟩
    refine ⟨_, rfl, ?_⟩
    have HK10 := Keep.mk (HK9.out.below hb)
    have HOp9c := Keep.mk (HOp9b.out.below hb)
    rw [← hcc]
    clear hb hcc
    simp only [Act.put, List.setIfInBounds_toArray, List.set_cons_zero, List.set_cons_succ]
    refine WL.val (by kernel_rfl) (.tuple #[.int .i64 cc, .int .i64 ((chk l).2 : Int)]) (by go_simp) ?_
    simp only [Act.put, List.setIfInBounds_toArray, List.set_cons_zero, List.set_cons_succ]
    refine WL.val (by kernel_rfl) (.int .i64 cc) (by go_simp) ?_
    simp only [Act.put, List.setIfInBounds_toArray, List.set_cons_zero, List.set_cons_succ]
    refine WL.val (by kernel_rfl) (.int .i64 ((chk l).2 : Int)) (by go_simp) ?_
    simp only [Act.put, List.setIfInBounds_toArray, List.set_cons_zero, List.set_cons_succ]
    refine WL.val (by kernel_rfl) (.int .i64 cc) (by go_simp) ?_
    simp only [Act.put, List.setIfInBounds_toArray, List.set_cons_zero, List.set_cons_succ]
    refine WL.val (by kernel_rfl) (.int .i64 ((chk l).2 : Int)) (by go_simp) ?_
    simp only [Act.put, List.setIfInBounds_toArray, List.set_cons_zero, List.set_cons_succ]
    refine WL.nil ?_
    refine hK7 _ _ ?_
    refine wp_seq_k fun K8 hK8 => ?_
    refine wp_seq_k fun K9 hK9 => ?_
    have hD0 : Below w10.heap.size w10 w10.drew := (Below.refl _ _).drew
    have HS0 : Keep (∀ wx, Below w10.heap.size w10 wx → wx.rangeAt ga (N * 37) (opL mk0) ∧ wx.rangeAt ga ((N + 1) * 37) (opL mk0) ∧ wx.rangeAt g5 0 (opL mk0)) := ⟨fun wx hb => (HK10.out.below hb).at⟩
    obtain ⟨CM, hCM⟩ : ∃ CM, CM = opL mk0 := ⟨_, rfl⟩
    have hCs : (Try.prog.info? 59).map (·.size) = some CM.length := by rw [hCM, opL_len]; exact Try.size59
    have HCM := Keep.mk hCM
    rw [← hCM] at HS0
    clear hCM
    have hw1 : IntKind.i64.wrap ((N : Int) + 1) = (N : Int) + 1 := by rw [IntKind.wrap_i64]; omega
    have hlt1 : (N : Int) < (n2 : Int) := by omega
    have hlt2 : (N : Int) + 1 < (n2 : Int) := by omega
    have hnn : ¬ (N : Int) < 0 := by omega
    have hnn2 : ¬ (N : Int) + 1 < 0 := by omega
    have htn : ((N : Int) + 1).toNat = N + 1 := by omega
    refine wp_region_held_drew (S := fun wx => wx.rangeAt ga (N * 37) CM ∧ wx.rangeAt ga ((N + 1) * 37) CM ∧ wx.rangeAt g5 0 CM) (by kernel_rfl) (HS0.out _ hD0) (fun hHeld => ?_)
    refine wpAnyH_take (i := 0) (oi := ⟨some 44, Op.move (Operand.tmp 10), 50, _, _, none⟩) (v := .int .i64 cc) rfl (by kernel_rfl) (by kernel_rfl) (by kernel_rfl) (fun _ _ _ h => h) (Or.inl ⟨by rfl, fun w hS => by go_simp⟩) hHeld ?_
    simp only [Act.put, List.setIfInBounds_toArray, List.set_cons_zero, List.set_cons_succ]
    refine wpAnyH_take (i := 1) (oi := ⟨some 45, Op.move (Operand.tmp 11), 50, _, _, none⟩) (v := .int .i64 cc) rfl (by kernel_rfl) (by kernel_rfl) (by kernel_rfl) (fun _ _ _ h => h) (Or.inl ⟨by rfl, fun w hS => by go_simp⟩) hHeld ?_
    simp only [Act.put, List.setIfInBounds_toArray, List.set_cons_zero, List.set_cons_succ]
    refine wpAnyH_take (i := 2) (oi := ⟨some 46, Op.binOp BinOp.neq 50 (Operand.tmp 44) (Operand.tmp 45) 50, 4, _, _, none⟩) (v := .bool false) rfl (by kernel_rfl) (by kernel_rfl) (by kernel_rfl) (fun _ _ _ h => h) (Or.inl ⟨by rfl, fun w hS => by go_simp⟩) hHeld ?_
    simp only [Act.put, List.setIfInBounds_toArray, List.set_cons_zero, List.set_cons_succ]
    refine wpAnyH_take (i := 3) (oi := ⟨some 47, Op.move (Operand.tmp 46), 4, _, _, none⟩) (v := .bool false) rfl (by kernel_rfl) (by kernel_rfl) (by kernel_rfl) (fun _ _ _ h => h) (Or.inl ⟨by rfl, fun w hS => by go_simp⟩) hHeld ?_
    simp only [Act.put, List.setIfInBounds_toArray, List.set_cons_zero, List.set_cons_succ]
    refine wpAnyH_take (i := 4) (oi := ⟨some 48, Op.move (Operand.tmp 7), 36, _, _, some (3, false)⟩) (v := .slice (some ⟨ga, 0, none⟩) N cap) rfl (by kernel_rfl) (by kernel_rfl) (by kernel_rfl) (fun _ _ _ h => h) (Or.inl ⟨by rfl, fun w hS => by go_simp⟩) hHeld ?_
    simp only [Act.put, List.setIfInBounds_toArray, List.set_cons_zero, List.set_cons_succ]
    refine wpAnyH_take (i := 5) (oi := ⟨some 49, Op.move (Operand.tmp 0), 36, _, _, some (3, false)⟩) (v := .slice la N lc) rfl (by kernel_rfl) (by kernel_rfl) (by kernel_rfl) (fun _ _ _ h => h) (Or.inl ⟨by rfl, fun w hS => by go_simp⟩) hHeld ?_
    simp only [Act.put, List.setIfInBounds_toArray, List.set_cons_zero, List.set_cons_succ]
    refine wpAnyH_ready (rs := [6]) (by kernel_rfl) (by simp) ?_
    refine AllReadyH.cons (o := ⟨some 50, Op.call { callee := Callee.value (Operand.func 13), args := #[Operand.tmp 48, Operand.tmp 49], argTypes := #[36, 36] }, 4, _, _, some (3, false)⟩) rfl (fun K hK => ?_) AllReadyH.nil
    rw [if_pos (by rfl)]
    refine wp_callF 13 _ _ rfl Try.in13 #[.slice (some ⟨ga, 0, none⟩) N cap, .slice la N lc] (by simp [Act.eval]) (fun vz wz => vz = .bool true ∧ Below w10.heap.size w10 wz) ?_ ?_
    · refine (sameList_any _ _ l w10.drew (HK10.out.below hD0).ops (HK10.out.below hD0).arg (by rw [HLN.out]; omega)).mono ?_
      rintro e wz ⟨rfl, h⟩
      exact ⟨_, rfl, rfl, hD0.trans (h.mono hD0.size)⟩
    rintro vz w11 ⟨rfl, hw11⟩
    refine hK.out _ _ (HS0.out _ hw11) fun hHa => ?_
    clear hK
    simp only [Act.put, List.setIfInBounds_toArray, List.set_cons_zero, List.set_cons_succ]
    refine wpAnyH_take (i := 7) (oi := ⟨some 51, Op.unOp UnOp.not 4 (Operand.tmp 50), 4, _, _, some (3, false)⟩) (v := .bool false) rfl (by kernel_rfl) (by kernel_rfl) (by kernel_rfl) (fun _ _ _ h => h) (Or.inl ⟨by rfl, fun w hS => by go_simp⟩) hHa ?_
    simp only [Act.put, List.setIfInBounds_toArray, List.set_cons_zero, List.set_cons_succ]
    refine wpAnyH_take (i := 8) (oi := ⟨some 52, Op.pick (Operand.tmp 47) (Operand.const (Value.bool true)) (Operand.tmp 51), 4, _, _, none⟩) (v := .bool false) rfl (by kernel_rfl) (by kernel_rfl) (by kernel_rfl) (fun _ _ _ h => h) (Or.inl ⟨by rfl, fun w hS => by go_simp⟩) hHa ?_
    simp only [Act.put, List.setIfInBounds_toArray, List.set_cons_zero, List.set_cons_succ]
    refine wpAnyH_take (i := 9) (oi := ⟨some 53, Op.move (Operand.tmp 52), 4, _, _, none⟩) (v := .bool false) rfl (by kernel_rfl) (by kernel_rfl) (by kernel_rfl) (fun _ _ _ h => h) (Or.inl ⟨by rfl, fun w hS => by go_simp⟩) hHa ?_
    simp only [Act.put, List.setIfInBounds_toArray, List.set_cons_zero, List.set_cons_succ]
    refine wpAnyH_take (i := 10) (oi := ⟨some 54, Op.move (Operand.tmp 6), 36, _, _, some (9, false)⟩) (v := .slice (some ⟨ga, 0, none⟩) n2 cap) rfl (by kernel_rfl) (by kernel_rfl) (by kernel_rfl) (fun _ _ _ h => h) (Or.inl ⟨by rfl, fun w hS => by go_simp⟩) hHa ?_
    simp only [Act.put, List.setIfInBounds_toArray, List.set_cons_zero, List.set_cons_succ]
    refine wpAnyH_take (i := 11) (oi := ⟨some 55, Op.move (Operand.tmp 0), 36, _, _, some (9, false)⟩) (v := .slice la N lc) rfl (by kernel_rfl) (by kernel_rfl) (by kernel_rfl) (fun _ _ _ h => h) (Or.inl ⟨by rfl, fun w hS => by go_simp⟩) hHa ?_
    simp only [Act.put, List.setIfInBounds_toArray, List.set_cons_zero, List.set_cons_succ]
    refine wpAnyH_take (i := 12) (oi := ⟨some 56, Op.call { callee := Callee.builtin Builtin.len, args := #[Operand.tmp 55], argTypes := #[36] }, 3, _, _, some (9, false)⟩) (v := .int .i64 (N : Int)) rfl (by kernel_rfl) (by kernel_rfl) (by kernel_rfl) (fun _ _ _ h => h) (Or.inl ⟨by rfl, fun w hS => by go_simp⟩) hHa ?_
    simp only [Act.put, List.setIfInBounds_toArray, List.set_cons_zero, List.set_cons_succ]
    refine wpAnyH_take (i := 13) (oi := ⟨some 57, Op.indexAddr 36 (Operand.tmp 54) (Operand.tmp 56), 0, _, _, some (9, false)⟩) (v := .pointer (some ⟨ga, N * 37, none⟩)) rfl (by kernel_rfl) (by kernel_rfl) (by kernel_rfl) (fun _ _ _ h => h) (Or.inl ⟨by rfl, fun w hS => by clear hS; go_simp; try omega⟩) hHa ?_
    simp only [Act.put, List.setIfInBounds_toArray, List.set_cons_zero, List.set_cons_succ]
    refine wpAnyH_take (i := 14) (oi := ⟨some 58, Op.load 59 (Operand.tmp 57), 59, _, _, some (9, false)⟩) (v := .agg CM.toArray) rfl (by kernel_rfl) (by kernel_rfl) (by kernel_rfl) (fun _ _ _ h => h) (yieldsIf_load_mid (by rfl) 59 (Operand.tmp 57) rfl ga (N * 37) rfl CM _ (fun w hS => hS.1) Try.underlying59 rfl hCs) hHa ?_
    simp only [Act.put, List.setIfInBounds_toArray, List.set_cons_zero, List.set_cons_succ]
    refine wpAnyH_take (i := 15) (oi := ⟨some 59, Op.load 59 (Operand.tmp 5), 59, _, _, some (9, false)⟩) (v := .agg CM.toArray) rfl (by kernel_rfl) (by kernel_rfl) (by kernel_rfl) (fun _ _ _ h => h) (yieldsIf_load_mid (by rfl) 59 (Operand.tmp 5) rfl g5 (0) rfl CM _ (fun w hS => hS.2.2) Try.underlying59 rfl hCs) hHa ?_
    simp only [Act.put, List.setIfInBounds_toArray, List.set_cons_zero, List.set_cons_succ]
    refine wpAnyH_ready (rs := [16]) (by kernel_rfl) (by simp) ?_
    refine AllReadyH.cons (o := ⟨some 60, Op.call { callee := Callee.value (Operand.func 24), args := #[Operand.tmp 58, Operand.tmp 59], argTypes := #[59, 59] }, 4, _, _, some (9, false)⟩) rfl (fun K hK => ?_) AllReadyH.nil
    rw [if_pos (by rfl)]
    refine wp_callF 24 _ _ rfl Try.in24 #[.agg CM.toArray, .agg CM.toArray] (by simp [Act.eval]) (fun vz wz => vz = .bool true ∧ Below w10.heap.size w10 wz) ?_ ?_
    · refine ((show Calls Try.prog 24 #[.agg CM.toArray, .agg CM.toArray] w11 _ from by rw [HCM.out]; exact rsame_any mk0 mk0 w11)).mono ?_
      rintro e wz ⟨rfl, h⟩
      exact ⟨_, rfl, by rw [sm_refl], hw11.trans (h.mono hw11.size)⟩
    rintro vz w12 ⟨rfl, hw12⟩
    refine hK.out _ _ (HS0.out _ hw12) fun hHb => ?_
    clear hK
    simp only [Act.put, List.setIfInBounds_toArray, List.set_cons_zero, List.set_cons_succ]
    refine wpAnyH_take (i := 17) (oi := ⟨some 61, Op.unOp UnOp.not 4 (Operand.tmp 60), 4, _, _, some (9, false)⟩) (v := .bool false) rfl (by kernel_rfl) (by kernel_rfl) (by kernel_rfl) (fun _ _ _ h => h) (Or.inl ⟨by rfl, fun w hS => by go_simp⟩) hHb ?_
    simp only [Act.put, List.setIfInBounds_toArray, List.set_cons_zero, List.set_cons_succ]
    refine wpAnyH_take (i := 18) (oi := ⟨some 62, Op.pick (Operand.tmp 53) (Operand.const (Value.bool true)) (Operand.tmp 61), 4, _, _, none⟩) (v := .bool false) rfl (by kernel_rfl) (by kernel_rfl) (by kernel_rfl) (fun _ _ _ h => h) (Or.inl ⟨by rfl, fun w hS => by go_simp⟩) hHb ?_
    simp only [Act.put, List.setIfInBounds_toArray, List.set_cons_zero, List.set_cons_succ]
    refine wpAnyH_take (i := 19) (oi := ⟨some 63, Op.move (Operand.tmp 62), 4, _, _, none⟩) (v := .bool false) rfl (by kernel_rfl) (by kernel_rfl) (by kernel_rfl) (fun _ _ _ h => h) (Or.inl ⟨by rfl, fun w hS => by go_simp⟩) hHb ?_
    simp only [Act.put, List.setIfInBounds_toArray, List.set_cons_zero, List.set_cons_succ]
    refine wpAnyH_take (i := 20) (oi := ⟨some 64, Op.move (Operand.tmp 6), 36, _, _, some (19, false)⟩) (v := .slice (some ⟨ga, 0, none⟩) n2 cap) rfl (by kernel_rfl) (by kernel_rfl) (by kernel_rfl) (fun _ _ _ h => h) (Or.inl ⟨by rfl, fun w hS => by go_simp⟩) hHb ?_
    simp only [Act.put, List.setIfInBounds_toArray, List.set_cons_zero, List.set_cons_succ]
    refine wpAnyH_take (i := 21) (oi := ⟨some 65, Op.move (Operand.tmp 0), 36, _, _, some (19, false)⟩) (v := .slice la N lc) rfl (by kernel_rfl) (by kernel_rfl) (by kernel_rfl) (fun _ _ _ h => h) (Or.inl ⟨by rfl, fun w hS => by go_simp⟩) hHb ?_
    simp only [Act.put, List.setIfInBounds_toArray, List.set_cons_zero, List.set_cons_succ]
    refine wpAnyH_take (i := 22) (oi := ⟨some 66, Op.call { callee := Callee.builtin Builtin.len, args := #[Operand.tmp 65], argTypes := #[36] }, 3, _, _, some (19, false)⟩) (v := .int .i64 (N : Int)) rfl (by kernel_rfl) (by kernel_rfl) (by kernel_rfl) (fun _ _ _ h => h) (Or.inl ⟨by rfl, fun w hS => by go_simp⟩) hHb ?_
    simp only [Act.put, List.setIfInBounds_toArray, List.set_cons_zero, List.set_cons_succ]
    refine wpAnyH_take (i := 23) (oi := ⟨some 67, Op.binOp BinOp.add 3 (Operand.tmp 66) (Operand.const (Value.int IntKind.i64 1)) 3, 3, _, _, some (19, false)⟩) (v := .int .i64 ((N : Int) + 1)) rfl (by kernel_rfl) (by kernel_rfl) (by kernel_rfl) (fun _ _ _ h => h) (Or.inl ⟨by rfl, fun w hS => by go_simp⟩) hHb ?_
    simp only [Act.put, List.setIfInBounds_toArray, List.set_cons_zero, List.set_cons_succ]
    refine wpAnyH_take (i := 24) (oi := ⟨some 68, Op.indexAddr 36 (Operand.tmp 64) (Operand.tmp 67), 0, _, _, some (19, false)⟩) (v := .pointer (some ⟨ga, (N + 1) * 37, none⟩)) rfl (by kernel_rfl) (by kernel_rfl) (by kernel_rfl) (fun _ _ _ h => h) (Or.inl ⟨by rfl, fun w hS => by clear hS; go_simp; try omega⟩) hHb ?_
    simp only [Act.put, List.setIfInBounds_toArray, List.set_cons_zero, List.set_cons_succ]
    refine wpAnyH_take (i := 25) (oi := ⟨some 69, Op.load 59 (Operand.tmp 68), 59, _, _, some (19, false)⟩) (v := .agg CM.toArray) rfl (by kernel_rfl) (by kernel_rfl) (by kernel_rfl) (fun _ _ _ h => h) (yieldsIf_load_mid (by rfl) 59 (Operand.tmp 68) rfl ga ((N + 1) * 37) rfl CM _ (fun w hS => hS.2.1) Try.underlying59 rfl hCs) hHb ?_
    simp only [Act.put, List.setIfInBounds_toArray, List.set_cons_zero, List.set_cons_succ]
    refine wpAnyH_take (i := 26) (oi := ⟨some 70, Op.load 59 (Operand.tmp 5), 59, _, _, some (19, false)⟩) (v := .agg CM.toArray) rfl (by kernel_rfl) (by kernel_rfl) (by kernel_rfl) (fun _ _ _ h => h) (yieldsIf_load_mid (by rfl) 59 (Operand.tmp 5) rfl g5 (0) rfl CM _ (fun w hS => hS.2.2) Try.underlying59 rfl hCs) hHb ?_
    simp only [Act.put, List.setIfInBounds_toArray, List.set_cons_zero, List.set_cons_succ]
    refine wpAnyH_ready (rs := [27]) (by kernel_rfl) (by simp) ?_
    refine AllReadyH.cons (o := ⟨some 71, Op.call { callee := Callee.value (Operand.func 24), args := #[Operand.tmp 69, Operand.tmp 70], argTypes := #[59, 59] }, 4, _, _, some (19, false)⟩) rfl (fun K hK => ?_) AllReadyH.nil
    rw [if_pos (by rfl)]
    refine wp_callF 24 _ _ rfl Try.in24 #[.agg CM.toArray, .agg CM.toArray] (by simp [Act.eval]) (fun vz wz => vz = .bool true ∧ Below w10.heap.size w10 wz) ?_ ?_
    · refine ((show Calls Try.prog 24 #[.agg CM.toArray, .agg CM.toArray] w12 _ from by rw [HCM.out]; exact rsame_any mk0 mk0 w12)).mono ?_
      rintro e wz ⟨rfl, h⟩
      exact ⟨_, rfl, by rw [sm_refl], hw12.trans (h.mono hw12.size)⟩
    rintro vz w13 ⟨rfl, hw13⟩
    refine hK.out _ _ (HS0.out _ hw13) fun hHc => ?_
    clear hK
    simp only [Act.put, List.setIfInBounds_toArray, List.set_cons_zero, List.set_cons_succ]
    refine wpAnyH_take (i := 28) (oi := ⟨some 72, Op.unOp UnOp.not 4 (Operand.tmp 71), 4, _, _, some (19, false)⟩) (v := .bool false) rfl (by kernel_rfl) (by kernel_rfl) (by kernel_rfl) (fun _ _ _ h => h) (Or.inl ⟨by rfl, fun w hS => by go_simp⟩) hHc ?_
    simp only [Act.put, List.setIfInBounds_toArray, List.set_cons_zero, List.set_cons_succ]
    refine wpAnyH_take (i := 29) (oi := ⟨some 73, Op.pick (Operand.tmp 63) (Operand.const (Value.bool true)) (Operand.tmp 72), 4, _, _, none⟩) (v := .bool false) rfl (by kernel_rfl) (by kernel_rfl) (by kernel_rfl) (fun _ _ _ h => h) (Or.inl ⟨by rfl, fun w hS => by go_simp⟩) hHc ?_
    simp only [Act.put, List.setIfInBounds_toArray, List.set_cons_zero, List.set_cons_succ]
    refine wpAnyH_done (by kernel_rfl) ?_ _
    refine hK9 _ _ ?_
    refine wp_cond_false rfl ?_
    refine wp_skip ?_
    refine hK8 _ _ ?_
    refine wp_seq_k fun K10 hK10 => ?_
    refine wp_seq_k fun K11 hK11 => ?_
    have HK13 : Keep (KS w g5 ga n2 cap N la lc l (mX l 0) w13) := ⟨by rw [mX_0]; exact HK10.out.below hw13⟩
    have HOp9d := Keep.mk (HOp9c.out.below hw13)
    have Hp9lt : Keep (∀ k, OF p9 (.slice none 0 0) k → k ≠ ga) := ⟨fun k hk e => by
      obtain ⟨cur, hc⟩ := HK13.out.blk
      exact HOp9d.out.off hc (by decide) (by decide) (e ▸ hk)⟩
    clear HK HK7 HK8 HK9 HK10 HS0 hCs HCM hw1 hlt1 hlt2 hnn hnn2 htn hw11 hw12 hw13 hD0
    refine wp_region_list (WL.out ?_)
    refine WL.val (by kernel_rfl) (.int .i64 0) (by go_simp) ?_
    simp only [Act.put, List.setIfInBounds_toArray, List.set_cons_zero, List.set_cons_succ]
    refine WL.nil ?_
    refine hK11 _ _ ?_
    refine wp_block ?_
    refine wp_loop (fun ac wr => ∃ (t : Nat) (u74 u75 u76 u77 u78 u79 u80 u81 u82 u83 u84 u85 u86 u87 u88 u89 u90 u91 u92 u93 : Value), ac = { tmps := #[.slice la N lc, .slice ba M bc, undef, undef, .bool false, .pointer (some ⟨g5, 0, none⟩), .slice (some ⟨ga, 0, none⟩) n2 cap, .slice (some ⟨ga, 0, none⟩) N cap, .pointer (some ⟨p8, 0, none⟩), .pointer (some ⟨p9, 0, none⟩), .int .i64 cc, .int .i64 cc, .int .i64 ((chk l).2 : Int), .int .i64 (t : Int), undef, undef, undef, .agg A, .slice la N lc, v19, .agg A, .agg A, .slice (some ⟨g22, 0, none⟩) 2 2, .slice (some ⟨ga, 0, none⟩) n2 cap, .slice (some ⟨ga, 0, none⟩) n2 cap, .slice la N lc, .int .i64 (N : Int), .slice (some ⟨ga, 0, none⟩) N cap, .pointer (some ⟨p8, 0, none⟩), .pointer (some ⟨p9, 0, none⟩), .pointer (some ⟨p8, 0, none⟩), .bool false, .bool false, .pointer (some ⟨p9, 0, none⟩), .bool false, .bool false, .pointer (some ⟨p8, 0, none⟩), .slice (some ⟨ga, 0, none⟩) N cap, .int .i64 cc, .tuple #[.int .i64 cc, .int .i64 ((chk l).2 : Int)], .slice (some ⟨ga, 0, none⟩) N cap, .tuple #[.int .i64 cc, .int .i64 ((chk l).2 : Int)], .int .i64 cc, .int .i64 ((chk l).2 : Int), .int .i64 cc, .int .i64 cc, .bool false, .bool false, .slice (some ⟨ga, 0, none⟩) N cap, .slice la N lc, .bool true, .bool false, .bool false, .bool false, .slice (some ⟨ga, 0, none⟩) n2 cap, .slice la N lc, .int .i64 (N : Int), .pointer (some ⟨ga, N * 37, none⟩), .agg CM.toArray, .agg CM.toArray, .bool true, .bool false, .bool false, .bool false, .slice (some ⟨ga, 0, none⟩) n2 cap, .slice la N lc, .int .i64 (N : Int), .int .i64 ((N : Int) + 1), .pointer (some ⟨ga, (N + 1) * 37, none⟩), .agg CM.toArray, .agg CM.toArray, .bool true, .bool false, .bool false, u74, u75, u76, u77, u78, u79, u80, u81, u82, u83, u84, u85, u86, u87, u88, u89, u90, u91, u92, u93, undef, undef, undef, undef, undef, undef, undef, undef, undef, undef, undef, undef, undef, undef, undef, undef, undef, undef, undef, undef, undef, undef, undef, undef, undef, undef, undef, undef, undef], defers := [] } ∧ t ≤ N ∧ Keep (KS w g5 ga n2 cap N la lc l (mX l t) wr) ∧ Keep (OutAt wr p9 (.slice none 0 0) [])) (fun a _ => N - (intOf (a.tmps.getD 13 undef)).toNat) ⟨0, undef, undef, undef, undef, undef, undef, undef, undef, undef, undef, undef, undef, undef, undef, undef, undef, undef, undef, undef, undef, rfl, by omega, HK13, HOp9d⟩ ?_
    rintro ac wr ⟨t, u74, u75, u76, u77, u78, u79, u80, u81, u82, u83, u84, u85, u86, u87, u88, u89, u90, u91, u92, u93, rfl, ht, HKr, HOr⟩
    by_cases hlt : t < N
    · have hlt' : (t : Int) < (N : Int) := by omega
      have hnt : ¬ (t : Int) < 0 := by omega
      have hwt : IntKind.i64.wrap ((t : Int) + 1) = (t : Int) + 1 := by rw [IntKind.wrap_i64]; omega
      obtain ⟨x, hx⟩ : ∃ x, l[t]? = some x := ⟨_, List.getElem?_eq_getElem (by rw [HLN.out]; exact hlt)⟩
      have hxm : (mX l t ++ [mk0, mk0])[t]? = some x := by rw [List.getElem?_append_left (by rw [mX_len, HLN.out]; exact hlt)]; exact mX_at l t x hx
      have hkey : x.key.size ≤ 140737488351232 := Hkey.out x (List.mem_of_getElem? hx)
      obtain ⟨kx, hkx⟩ : ∃ k, k = x.key := ⟨_, rfl⟩
      obtain ⟨ky, hky⟩ : ∃ k, k = kx ++ ⟨#[120]⟩ := ⟨_, rfl⟩
      obtain ⟨cur, hcb⟩ := HKr.out.blk
      have c1 : wr.cell? ⟨ga, t * 37 + 1, none⟩ = some (.string kx) := by
        have h := own_rng HKr.out.own hxm 1 (.string x.key) rfl
        rw [hkx]; exact h
      have f1 := hcb.frozen (t * 37 + 1)
      rw [← hkx] at hkey
      have hks : kx.size ≤ 9223372036854775806 := by omega
      have Hkx := Keep.mk hkx
      have Hky := Keep.mk hky
      have Hx := Keep.mk hx
      have Hxm := Keep.mk hxm
      clear hkx hky hx hxm
      refine wp_seq_k fun K12 hK12 => ?_
      refine wp_seq_k fun K13 hK13 => ?_
      refine wp_region_list (WL.out ?_)
      refine WL.val (by kernel_rfl) (.int .i64 (t : Int)) (by go_simp) ?_
      simp only [Act.put, List.setIfInBounds_toArray, List.set_cons_zero, List.set_cons_succ]
      refine WL.val (by kernel_rfl) (.slice (some ⟨ga, 0, none⟩) N cap) (by go_simp) ?_
      simp only [Act.put, List.setIfInBounds_toArray, List.set_cons_zero, List.set_cons_succ]
      refine WL.val (by kernel_rfl) (.int .i64 (N : Int)) (by go_simp) ?_
      simp only [Act.put, List.setIfInBounds_toArray, List.set_cons_zero, List.set_cons_succ]
      refine WL.val (by kernel_rfl) (.bool true) (by go_simp) ?_
      simp only [Act.put, List.setIfInBounds_toArray, List.set_cons_zero, List.set_cons_succ]
      refine WL.nil ?_
      refine hK13 _ _ ?_
      refine wp_cond_true rfl ?_
      refine wp_skip ?_
      refine hK12 _ _ ?_
      refine wp_seq_k fun K14 hK14 => ?_
      refine wp_block ?_
      refine wp_seq_k fun K15 hK15 => ?_
      refine wp_region_list (WL.out ?_)
      refine WL.val (by kernel_rfl) (.slice (some ⟨ga, 0, none⟩) N cap) (by go_simp) ?_
      simp only [Act.put, List.setIfInBounds_toArray, List.set_cons_zero, List.set_cons_succ]
      refine WL.val (by kernel_rfl) (.int .i64 (t : Int)) (by go_simp) ?_
      simp only [Act.put, List.setIfInBounds_toArray, List.set_cons_zero, List.set_cons_succ]
      refine WL.val (by kernel_rfl) (.slice (some ⟨ga, 0, none⟩) N cap) (by go_simp) ?_
      simp only [Act.put, List.setIfInBounds_toArray, List.set_cons_zero, List.set_cons_succ]
      refine WL.val (by kernel_rfl) (.int .i64 (t : Int)) (by go_simp) ?_
      simp only [Act.put, List.setIfInBounds_toArray, List.set_cons_zero, List.set_cons_succ]
      refine WL.val (by kernel_rfl) (.pointer (some ⟨ga, t * 37, none⟩)) (by go_simp; try omega) ?_
      simp only [Act.put, List.setIfInBounds_toArray, List.set_cons_zero, List.set_cons_succ]
      refine WL.val (by kernel_rfl) (.pointer (some ⟨ga, t * 37 + 1, none⟩)) (by go_simp) ?_
      simp only [Act.put, List.setIfInBounds_toArray, List.set_cons_zero, List.set_cons_succ]
      refine WL.val (by kernel_rfl) (.string kx) (by go_simp) ?_
      simp only [Act.put, List.setIfInBounds_toArray, List.set_cons_zero, List.set_cons_succ]
      refine WL.val (by kernel_rfl) (.string ky) (by rw [Hky.out]; go_simp) ?_
      simp only [Act.put, List.setIfInBounds_toArray, List.set_cons_zero, List.set_cons_succ]
      refine WL.val (by kernel_rfl) (.pointer (some ⟨ga, t * 37, none⟩)) (by go_simp; try omega) ?_
      simp only [Act.put, List.setIfInBounds_toArray, List.set_cons_zero, List.set_cons_succ]
      refine WL.val (by kernel_rfl) (.pointer (some ⟨ga, t * 37 + 1, none⟩)) (by go_simp) ?_
      simp only [Act.put, List.setIfInBounds_toArray, List.set_cons_zero, List.set_cons_succ]
      refine WL.cell (by kernel_rfl) (wr.setCell ⟨ga, t * 37 + 1, none⟩ (.string ky)) (by go_simp) ?_
      have HO1 := Keep.mk (HKr.out.own.cell (y := { x with key := ky }) Hxm.out (show 1 < 37 by decide) (opL_key x ky))
      have HG1 : Keep (Grown wr (wr.setCell ⟨ga, t * 37 + 1, none⟩ (.string ky)) fun k => k = ga) := ⟨Grown.setCell wr ga (t * 37 + 1) _ fun _ => rfl⟩
      have hcb1 := hcb.set (t * 37 + 1) (.string ky)
      generalize wr.setCell ⟨ga, t * 37 + 1, none⟩ (.string ky) = ws at *
      clear c1 f1
      have c3 : ∃ v, ws.cell? ⟨ga, t * 37 + 3, none⟩ = some v := ⟨_, own_rng HO1.out (x := { x with key := ky }) (by rw [List.getElem?_set_self (List.getElem?_eq_some_iff.1 Hxm.out).1]) 3 (.int .i64 x.n) rfl⟩
      obtain ⟨v3, c3⟩ := c3
      have f3 := hcb1.frozen (t * 37 + 3)
      simp only [Act.put]
      refine WL.nil ?_
      refine hK15 _ _ ?_
      refine wp_region_list (WL.out ?_)
      refine WL.val (by kernel_rfl) (.slice (some ⟨ga, 0, none⟩) N cap) (by go_simp) ?_
      simp only [Act.put, List.setIfInBounds_toArray, List.set_cons_zero, List.set_cons_succ]
      refine WL.val (by kernel_rfl) (.int .i64 (t : Int)) (by go_simp) ?_
      simp only [Act.put, List.setIfInBounds_toArray, List.set_cons_zero, List.set_cons_succ]
      refine WL.val (by kernel_rfl) (.pointer (some ⟨ga, t * 37, none⟩)) (by go_simp; try omega) ?_
      simp only [Act.put, List.setIfInBounds_toArray, List.set_cons_zero, List.set_cons_succ]
      refine WL.val (by kernel_rfl) (.pointer (some ⟨ga, t * 37 + 3, none⟩)) (by go_simp) ?_
      simp only [Act.put, List.setIfInBounds_toArray, List.set_cons_zero, List.set_cons_succ]
      refine WL.cell (by kernel_rfl) (ws.setCell ⟨ga, t * 37 + 3, none⟩ (.int .i64 0)) (by go_simp) ?_
      have HO2 := Keep.mk (HO1.out.cell (x := { x with key := ky }) (y := { x with key := ky, n := 0 }) (by rw [List.getElem?_set_self (List.getElem?_eq_some_iff.1 Hxm.out).1]) (show 3 < 37 by decide) (opL_n { x with key := ky } 0))
      have HG2 : Keep (Grown wr (ws.setCell ⟨ga, t * 37 + 3, none⟩ (.int .i64 0)) fun k => k = ga) := ⟨HG1.out.trans (Grown.setCell ws ga (t * 37 + 3) _ fun _ => rfl)⟩
      generalize ws.setCell ⟨ga, t * 37 + 3, none⟩ (.int .i64 0) = wu at *
      have HKu : Keep (KS w g5 ga n2 cap N la lc l (mX l (t + 1)) wu) := ⟨by
        have hlm : t < (mX l t).length := by rw [mX_len, HLN.out]; exact hlt
        have ho := HO2.out
        rw [List.set_set, set_app2 _ _ _ _ hlm, show ({ x with key := ky, n := 0 } : OpV) = fX x by rw [fX, Hky.out, Hkx.out], mX_next l t x Hx.out] at ho
        exact ⟨HG2.out.blk HKr.out.mark HKr.out.ne, ho, HKr.out.arg.grown HG2.out (fun k hk _ e => by have := HKr.out.lta k hk; have := HKr.out.loa; omega), HKr.out.bel.trans (HG2.out.to_below (fun k hk e => by have := HKr.out.loa; omega) HKr.out.bel.size), HKr.out.lta, HKr.out.lo5, HKr.out.loa, HKr.out.ne, by rw [mX_len]; exact HLN.out, HKr.out.nn⟩⟩
      have HOu : Keep (OutAt wu p9 (.slice none 0 0) []) := ⟨HOr.out.grown HG2.out (fun k hk e => Hp9lt.out k hk e)⟩
      simp only [Act.put]
      refine WL.nil ?_
      refine hK14 _ _ ?_
      refine wp_region_list (WL.out ?_)
      refine WL.val (by kernel_rfl) (.int .i64 (t : Int)) (by go_simp) ?_
      simp only [Act.put, List.setIfInBounds_toArray, List.set_cons_zero, List.set_cons_succ]
      refine WL.val (by kernel_rfl) (.int .i64 ((t : Int) + 1)) (by go_simp) ?_
      simp only [Act.put, List.setIfInBounds_toArray, List.set_cons_zero, List.set_cons_succ]
      refine WL.val (by kernel_rfl) (.int .i64 ((t : Int) + 1)) (by go_simp) ?_
      simp only [Act.put, List.setIfInBounds_toArray, List.set_cons_zero, List.set_cons_succ]
      refine WL.nil ?_
      refine ⟨⟨t + 1, .int .i64 (t : Int), .slice (some ⟨ga, 0, none⟩) N cap, .int .i64 (N : Int), .bool true, .int .i64 (t : Int), .int .i64 ((t : Int) + 1), .slice (some ⟨ga, 0, none⟩) N cap, .int .i64 (t : Int), .slice (some ⟨ga, 0, none⟩) N cap, .int .i64 (t : Int), .pointer (some ⟨ga, t * 37, none⟩), .pointer (some ⟨ga, t * 37 + 1, none⟩), .string kx, .string ky, .pointer (some ⟨ga, t * 37, none⟩), .pointer (some ⟨ga, t * 37 + 1, none⟩), .slice (some ⟨ga, 0, none⟩) N cap, .int .i64 (t : Int), .pointer (some ⟨ga, t * 37, none⟩), .pointer (some ⟨ga, t * 37 + 3, none⟩), rfl, by omega, HKu, HOu⟩, by simp [intOf]; omega⟩
    · have hlt' : ¬ (t : Int) < (N : Int) := by omega
      have Hte : Keep (t = l.length) := ⟨by rw [HLN.out]; omega⟩
      rw [Hte.out, mX_all] at HKr
      clear hlt
      obtain ⟨l2, hl2⟩ : ∃ l2, l2 = l.map fX := ⟨_, rfl⟩
      have Hok2 : Keep (∀ x ∈ l2, OpOk x) := ⟨by
        rw [hl2]
        intro y hy
        obtain ⟨x, hx, rfl⟩ := List.mem_map.1 hy
        have h := Hok.out x hx
        have hk := Hkey.out x hx
        exact ⟨h.node, h.byts, h.k1, h.k2, by simp [fX], by simp [fX], h.o1, h.o2, by simp only [fX, ByteArray.size_append]; show x.key.size + 1 ≤ _; omega, h.text⟩⟩
      have HLN2 : Keep (l2.length = N) := ⟨by rw [hl2, List.length_map]; exact HLN.out⟩
      rw [← hl2] at HKr
      clear hl2 ht
      refine wp_seq_k fun K16 hK16 => ?_
      refine wp_seq_k fun K17 hK17 => ?_
      refine wp_region_list (WL.out ?_)
      refine WL.val (by kernel_rfl) (.int .i64 (t : Int)) (by go_simp) ?_
      simp only [Act.put, List.setIfInBounds_toArray, List.set_cons_zero, List.set_cons_succ]
      refine WL.val (by kernel_rfl) (.slice (some ⟨ga, 0, none⟩) N cap) (by go_simp) ?_
      simp only [Act.put, List.setIfInBounds_toArray, List.set_cons_zero, List.set_cons_succ]
      refine WL.val (by kernel_rfl) (.int .i64 (N : Int)) (by go_simp) ?_
      simp only [Act.put, List.setIfInBounds_toArray, List.set_cons_zero, List.set_cons_succ]
      refine WL.val (by kernel_rfl) (.bool false) (by go_simp) ?_
      simp only [Act.put, List.setIfInBounds_toArray, List.set_cons_zero, List.set_cons_succ]
      refine WL.nil ?_
      refine hK17 _ _ ?_
      refine wp_cond_false rfl ?_
      refine wp_exit ?_
      refine hK10 _ _ ?_
      refine wp_seq_k fun K18 hK18 => ?_
      refine wp_region_list (WL.out ?_)
      refine WL.val (by kernel_rfl) (.pointer (some ⟨p9, 0, none⟩)) (by go_simp) ?_
      simp only [Act.put, List.setIfInBounds_toArray, List.set_cons_zero, List.set_cons_succ]
      refine WL.val (by kernel_rfl) (.slice (some ⟨ga, 0, none⟩) N cap) (by go_simp) ?_
      simp only [Act.put, List.setIfInBounds_toArray, List.set_cons_zero, List.set_cons_succ]
      refine WL.callF (by kernel_rfl) 20 _ _ rfl Try.in20 #[ptr p9, .slice (some ⟨ga, 0, none⟩) N cap] (by simp [Act.eval]) ?_
      refine (put_any p9 _ [] _ (l2) wr HOr.out HKr.out.ops Hok2.out (by rw [HKr.out.len]; omega) (fun k hk => by
        simp [Value.ownBlock] at hk
        subst hk
        obtain ⟨cur, hc⟩ := HKr.out.blk
        exact HOr.out.off hc (by decide) (by decide)) (fun h => by have := form_small _ h; simp only [List.length_nil]; omega)).mono ?_
      rintro e w20 ⟨rfl, vo, h1, h2, h3⟩
      refine ⟨_, rfl, ?_⟩
      have HK20 := Keep.mk (HKr.out.grown h3 (HOr.out.off HKr.out.mark (by decide) (by decide)) (by obtain ⟨cur, hc⟩ := HKr.out.blk; exact HOr.out.off hc (by decide) (by decide)) (fun k hk e => by rcases e with e | e; (have := Hlop9.out; omega); simp [Value.ownBlock] at e))
      have HO20 := Keep.mk h1
      have HF20 : Keep (∀ k, OF p9 vo k → k ≠ ga) := ⟨fun k hk e => by
        obtain ⟨cur, hc⟩ := HK20.out.blk
        exact h1.off hc (by decide) (by decide) (e ▸ hk)⟩
      obtain ⟨cc2, hcc2⟩ : ∃ cc, cc = (chk l2).1 := ⟨_, rfl⟩
      rw [← hcc2] at HO20 ⊢
      clear h1 h2 h3
      simp only [Act.put, List.setIfInBounds_toArray, List.set_cons_zero, List.set_cons_succ]
      refine WL.val (by kernel_rfl) (.int .i64 cc2) (by go_simp) ?_
      simp only [Act.put, List.setIfInBounds_toArray, List.set_cons_zero, List.set_cons_succ]
      refine WL.nil ?_
      refine hK18 _ _ ?_
      refine wp_seq_k fun K19 hK19 => ?_
      refine wp_region_list (WL.out ?_)
      refine WL.val (by kernel_rfl) (.slice (some ⟨ga, 0, none⟩) N cap) (by go_simp) ?_
      simp only [Act.put, List.setIfInBounds_toArray, List.set_cons_zero, List.set_cons_succ]
      refine WL.callF (by kernel_rfl) 27 _ _ rfl Try.in27 #[.slice (some ⟨ga, 0, none⟩) N cap] (by simp [Act.eval]) ?_
      refine (rcheck_any _ l2 w20 HK20.out.ops Hok2.out (by rw [HLN2.out]; omega)).mono ?_
      rintro e w21 ⟨rfl, hb⟩
      refine ⟨_, rfl, ?_⟩
      have HK21 := Keep.mk (HK20.out.below hb)
      have HO21 := Keep.mk (HO20.out.below hb)
      rw [← hcc2]
      have Hcc2 := Keep.mk hcc2
      clear hb hcc2
      simp only [Act.put, List.setIfInBounds_toArray, List.set_cons_zero, List.set_cons_succ]
      refine WL.val (by kernel_rfl) (.tuple #[.int .i64 cc2, .int .i64 ((chk l2).2 : Int)]) (by go_simp) ?_
      simp only [Act.put, List.setIfInBounds_toArray, List.set_cons_zero, List.set_cons_succ]
      refine WL.val (by kernel_rfl) (.int .i64 cc2) (by go_simp) ?_
      simp only [Act.put, List.setIfInBounds_toArray, List.set_cons_zero, List.set_cons_succ]
      refine WL.val (by kernel_rfl) (.int .i64 ((chk l2).2 : Int)) (by go_simp) ?_
      simp only [Act.put, List.setIfInBounds_toArray, List.set_cons_zero, List.set_cons_succ]
      refine WL.val (by kernel_rfl) (.int .i64 cc2) (by go_simp) ?_
      simp only [Act.put, List.setIfInBounds_toArray, List.set_cons_zero, List.set_cons_succ]
      refine WL.val (by kernel_rfl) (.int .i64 ((chk l2).2 : Int)) (by go_simp) ?_
      simp only [Act.put, List.setIfInBounds_toArray, List.set_cons_zero, List.set_cons_succ]
      refine WL.nil ?_
      refine hK19 _ _ ?_
      refine wp_seq_k fun K20 hK20 => ?_
      refine wp_seq_k fun K21 hK21 => ?_
      have hD0 : Below w21.heap.size w21 w21.drew := (Below.refl _ _).drew
      have HK22 := Keep.mk (HK21.out.below hD0)
      have HO22 := Keep.mk (HO21.out.below hD0)
      by_cases hc0 : cc2 = 0
      · rw [if_pos hc0, List.nil_append] at HO22
        have hch : (chk l2).1 = 0 := by rw [← Hcc2.out]; exact hc0
        have Hch := Keep.mk hch
        clear hch
        obtain ⟨F, hF⟩ : ∃ F, Keep (F = formL l2) := ⟨_, ⟨rfl⟩⟩
        have HFl : Keep (F.length ≤ 134400000) := ⟨by rw [hF.out]; exact form_small l2 Hch.out⟩
        rw [← hF.out] at HO22
        obtain ⟨st, hst⟩ : ∃ st, strOfNums F = st := ⟨_, rfl⟩
        have Hst := Keep.mk hst
        clear hst
        refine wp_region_held_drew (S := fun _ => True) (by kernel_rfl) (trivial) (fun hHeld => ?_)
        refine wpAnyH_take (i := 0) (oi := ⟨some 102, Op.move (Operand.tmp 14), 50, _, _, none⟩) (v := .int .i64 cc2) rfl (by kernel_rfl) (by kernel_rfl) (by kernel_rfl) (fun _ _ _ h => h) (Or.inl ⟨by rfl, fun w hS => by go_simp⟩) hHeld ?_
        simp only [Act.put, List.setIfInBounds_toArray, List.set_cons_zero, List.set_cons_succ]
        refine wpAnyH_take (i := 1) (oi := ⟨some 103, Op.move (Operand.tmp 15), 50, _, _, none⟩) (v := .int .i64 cc2) rfl (by kernel_rfl) (by kernel_rfl) (by kernel_rfl) (fun _ _ _ h => h) (Or.inl ⟨by rfl, fun w hS => by go_simp⟩) hHeld ?_
        simp only [Act.put, List.setIfInBounds_toArray, List.set_cons_zero, List.set_cons_succ]
        refine wpAnyH_take (i := 2) (oi := ⟨some 104, Op.binOp BinOp.neq 50 (Operand.tmp 102) (Operand.tmp 103) 50, 4, _, _, none⟩) (v := .bool false) rfl (by kernel_rfl) (by kernel_rfl) (by kernel_rfl) (fun _ _ _ h => h) (Or.inl ⟨by rfl, fun w hS => by go_simp⟩) hHeld ?_
        simp only [Act.put, List.setIfInBounds_toArray, List.set_cons_zero, List.set_cons_succ]
        refine wpAnyH_take (i := 3) (oi := ⟨some 105, Op.move (Operand.tmp 104), 4, _, _, none⟩) (v := .bool false) rfl (by kernel_rfl) (by kernel_rfl) (by kernel_rfl) (fun _ _ _ h => h) (Or.inl ⟨by rfl, fun w hS => by go_simp⟩) hHeld ?_
        simp only [Act.put, List.setIfInBounds_toArray, List.set_cons_zero, List.set_cons_succ]
        refine wpAnyH_take (i := 4) (oi := ⟨some 106, Op.move (Operand.tmp 15), 50, _, _, some (3, false)⟩) (v := .int .i64 cc2) rfl (by kernel_rfl) (by kernel_rfl) (by kernel_rfl) (fun _ _ _ h => h) (Or.inl ⟨by rfl, fun w hS => by go_simp⟩) hHeld ?_
        simp only [Act.put, List.setIfInBounds_toArray, List.set_cons_zero, List.set_cons_succ]
        refine wpAnyH_take (i := 5) (oi := ⟨some 107, Op.binOp BinOp.eql 50 (Operand.tmp 106) (Operand.const (Value.int IntKind.i64 0)) 50, 4, _, _, some (3, false)⟩) (v := .bool true) rfl (by kernel_rfl) (by kernel_rfl) (by kernel_rfl) (fun _ _ _ h => h) (Or.inl ⟨by rfl, fun w hS => by go_simp⟩) hHeld ?_
        simp only [Act.put, List.setIfInBounds_toArray, List.set_cons_zero, List.set_cons_succ]
        refine wpAnyH_take (i := 6) (oi := ⟨some 108, Op.move (Operand.tmp 107), 4, _, _, some (3, false)⟩) (v := .bool true) rfl (by kernel_rfl) (by kernel_rfl) (by kernel_rfl) (fun _ _ _ h => h) (Or.inl ⟨by rfl, fun w hS => by go_simp⟩) hHeld ?_
        simp only [Act.put, List.setIfInBounds_toArray, List.set_cons_zero, List.set_cons_succ]
        refine wpAnyH_take (i := 7) (oi := ⟨some 109, Op.move (Operand.tmp 9), 47, _, _, some (6, true)⟩) (v := .pointer (some ⟨p9, 0, none⟩)) rfl (by kernel_rfl) (by kernel_rfl) (by kernel_rfl) (fun _ _ _ h => h) (Or.inl ⟨by rfl, fun w hS => by go_simp⟩) hHeld ?_
        simp only [Act.put, List.setIfInBounds_toArray, List.set_cons_zero, List.set_cons_succ]
        refine wpAnyH_take (i := 10) (oi := ⟨some 112, Op.move (Operand.tmp 7), 36, _, _, some (6, true)⟩) (v := .slice (some ⟨ga, 0, none⟩) N cap) rfl (by kernel_rfl) (by kernel_rfl) (by kernel_rfl) (fun _ _ _ h => h) (Or.inl ⟨by rfl, fun w hS => by go_simp⟩) hHeld ?_
        simp only [Act.put, List.setIfInBounds_toArray, List.set_cons_zero, List.set_cons_succ]
        refine wpAnyH_ready (rs := [8]) (by kernel_rfl) (by simp) ?_
        refine AllReadyH.cons (o := ⟨some 110, Op.call { callee := Callee.value (Operand.func 22), args := #[Operand.tmp 109], argTypes := #[47] }, 22, _, _, some (6, true)⟩) rfl (fun K hK => ?_) AllReadyH.nil
        rw [if_pos (by rfl)]
        refine wp_callF 22 _ _ rfl Try.in22 #[ptr p9] (by simp [Act.eval]) (fun vz wz => vz = .slice (some ⟨w21.drew.heap.size, 0, none⟩) F.length F.length ∧ wz = w21.drew.alloc (.cells (bv F).toArray 5)) ((odone_any p9 _ F w21.drew HO22.out (by have := HFl.out; omega)).mono fun e wz h => ⟨_, h.1, rfl, h.2⟩) ?_
        rintro vz we ⟨rfl, hwe⟩
        have Hdwe : Keep (RowAt we (.slice (some ⟨w21.drew.heap.size, 0, none⟩) F.length F.length) F) := ⟨by rw [hwe]; exact (own_done w21.drew F (by have := HFl.out; omega)).row⟩
        have Hbwe : Keep (Below w21.drew.heap.size w21.drew we) := ⟨by rw [hwe]; exact below_new w21.drew _⟩
        clear hwe
        obtain ⟨gd, hgd⟩ : ∃ g, Keep (g = w21.drew.heap.size) := ⟨_, ⟨rfl⟩⟩
        rw [← hgd.out] at Hdwe ⊢
        refine hK.out _ _ (trivial) fun hHa => ?_
        clear hK
        simp only [Act.put, List.setIfInBounds_toArray, List.set_cons_zero, List.set_cons_succ]
        have HK23 := Keep.mk (HK22.out.below Hbwe.out)
        refine wpAnyH_weaken (S' := fun wx => RowAt wx (.slice (some ⟨gd, 0, none⟩) F.length F.length) F) (fun _ _ => trivial) _ _ _ _ ?_
        have hHa2 := Hdwe.out
        refine wpAnyH_take (i := 9) (oi := ⟨some 111, Op.convert 22 9 (Operand.tmp 110), 9, _, _, some (6, true)⟩) (v := .string st) rfl (by kernel_rfl) (by kernel_rfl) (by kernel_rfl) (fun _ _ _ h => h) (Or.inl ⟨by rfl, fun w hS => by have h1 := conv_row _ _ w (hS); rw [Hst.out] at h1; clear hS; go_simp⟩) hHa2 ?_
        simp only [Act.put, List.setIfInBounds_toArray, List.set_cons_zero, List.set_cons_succ]
        refine wpAnyH_ready (rs := [11]) (by kernel_rfl) (by simp) ?_
        refine AllReadyH.cons (o := ⟨some 113, Op.call { callee := Callee.value (Operand.func 28), args := #[Operand.const (Value.slice none 0 0), Operand.tmp 112], argTypes := #[22, 36] }, 22, _, _, some (6, true)⟩) rfl (fun K hK => ?_) AllReadyH.nil
        rw [if_pos (by rfl)]
        refine wp_callF 28 _ _ rfl Try.in28 #[.slice none 0 0, .slice (some ⟨ga, 0, none⟩) N cap] (by simp [Act.eval]) (fun vz wz => RowAt wz vz F ∧ Below we.heap.size we wz) ?_ ?_
        · refine (rput_any _ [] _ l2 we (own_nil _) HK23.out.ops Hok2.out (fun k hk => by simp [Value.ownBlock]) Hch.out (by have := form_small l2 Hch.out; simp only [List.length_nil]; omega)).mono ?_
          rintro e wz ⟨vz, rfl, h1, h2, h3⟩
          rw [List.nil_append, ← hF.out] at h1
          exact ⟨_, rfl, h1.row, h3.to_below (fun k hk e => by simp [Value.ownBlock] at e) (Nat.le_refl _)⟩
        rintro vq wf ⟨hq1, Hbwf⟩
        obtain ⟨qa, qc, rfl⟩ := row_form hq1
        refine hK.out _ _ (Hdwe.out.below Hbwf) fun hHb => ?_
        clear hK
        simp only [Act.put, List.setIfInBounds_toArray, List.set_cons_zero, List.set_cons_succ]
        refine wpAnyH_weaken (S' := fun wx => RowAt wx (.slice (some ⟨gd, 0, none⟩) F.length F.length) F ∧ RowAt wx (.slice qa F.length qc) F) (fun _ h => h.1) _ _ _ _ ?_
        have hHc := And.intro hHb hq1
        have HKe := Keep.mk (HK23.out.below Hbwf)
        refine wpAnyH_take (i := 12) (oi := ⟨some 114, Op.convert 22 9 (Operand.tmp 113), 9, _, _, some (6, true)⟩) (v := .string st) rfl (by kernel_rfl) (by kernel_rfl) (by kernel_rfl) (fun _ _ _ h => h) (Or.inl ⟨by rfl, fun w hS => by have h1 := conv_row _ _ w (hS.2); rw [Hst.out] at h1; clear hS; go_simp⟩) hHc ?_
        simp only [Act.put, List.setIfInBounds_toArray, List.set_cons_zero, List.set_cons_succ]
        refine wpAnyH_take (i := 13) (oi := ⟨some 115, Op.binOp BinOp.neq 9 (Operand.tmp 111) (Operand.tmp 114) 9, 4, _, _, some (6, true)⟩) (v := .bool false) rfl (by kernel_rfl) (by kernel_rfl) (by kernel_rfl) (fun _ _ _ h => h) (Or.inl ⟨by rfl, fun w hS => by have h1 := bs_refl st; clear hS; go_simp⟩) hHc ?_
        simp only [Act.put, List.setIfInBounds_toArray, List.set_cons_zero, List.set_cons_succ]
        refine wpAnyH_take (i := 14) (oi := ⟨some 116, Op.pick (Operand.tmp 108) (Operand.tmp 115) (Operand.const (Value.bool false)), 4, _, _, some (3, false)⟩) (v := .bool false) rfl (by kernel_rfl) (by kernel_rfl) (by kernel_rfl) (fun _ _ _ h => h) (Or.inl ⟨by rfl, fun w hS => by go_simp⟩) hHc ?_
        simp only [Act.put, List.setIfInBounds_toArray, List.set_cons_zero, List.set_cons_succ]
        refine wpAnyH_take (i := 15) (oi := ⟨some 117, Op.pick (Operand.tmp 105) (Operand.const (Value.bool true)) (Operand.tmp 116), 4, _, _, none⟩) (v := .bool false) rfl (by kernel_rfl) (by kernel_rfl) (by kernel_rfl) (fun _ _ _ h => h) (Or.inl ⟨by rfl, fun w hS => by go_simp⟩) hHc ?_
        simp only [Act.put, List.setIfInBounds_toArray, List.set_cons_zero, List.set_cons_succ]
        refine wpAnyH_done (by kernel_rfl) ?_ _
        refine hK21 _ _ ?_
        refine wp_cond_false rfl ?_
        refine wp_skip ?_
        refine hK20 _ _ ?_
        refine wp_seq_k fun K22 hK22 => ?_
        refine wp_region_list (WL.out ?_)
        refine WL.val (by kernel_rfl) (.slice ba M bc) (by go_simp) ?_
        simp only [Act.put, List.setIfInBounds_toArray, List.set_cons_zero, List.set_cons_succ]
        refine WL.callF (by kernel_rfl) 29 _ _ rfl Try.in29 #[.slice ba M bc] (by simp [Act.eval]) ?_
        refine (getKeeps_any _ b wf (by have h := HR.out.below HKe.out.bel; rw [Hvb.out] at h; exact h) HBy.out Hb.out (fun k hk => Nat.lt_of_lt_of_le (HLTb.out k (by rw [Hvb.out]; exact hk)) HKe.out.bel.size)).mono ?_
        rintro e wy ⟨rfl, hb⟩
        refine ⟨_, rfl, ?_⟩
        have By := Keep.mk (HKe.out.bel.trans (hb.mono HKe.out.bel.size))
        clear hb
        simp only [Act.put, List.setIfInBounds_toArray, List.set_cons_zero, List.set_cons_succ]
        refine WL.val (by kernel_rfl) (.bool true) (by go_simp) ?_
        simp only [Act.put, List.setIfInBounds_toArray, List.set_cons_zero, List.set_cons_succ]
        refine WL.callF (by kernel_rfl) 17 _ _ rfl Try.in17 #[] (by simp) ?_
        refine (fixed_any wy).mono ?_
        rintro e wz ⟨rfl, hb⟩
        refine ⟨_, rfl, ?_⟩
        have Bz := Keep.mk (By.out.trans (hb.mono By.out.size))
        clear hb
        simp only [Act.put, List.setIfInBounds_toArray, List.set_cons_zero, List.set_cons_succ]
        refine WL.val (by kernel_rfl) (.bool true) (by go_simp) ?_
        simp only [Act.put, List.setIfInBounds_toArray, List.set_cons_zero, List.set_cons_succ]
        refine WL.val (by kernel_rfl) (.bool true) (by go_simp) ?_
        simp only [Act.put, List.setIfInBounds_toArray, List.set_cons_zero, List.set_cons_succ]
        refine WL.nil ?_
        refine hK22 _ _ ?_
        refine wp_ret ?_
        go_ret
        exact ⟨rfl, Bz.out⟩
      · have HKe := HK22
        refine wp_region_held_drew (S := fun _ => True) (by kernel_rfl) (trivial) (fun hHeld => ?_)
        refine wpAnyH_take (i := 0) (oi := ⟨some 102, Op.move (Operand.tmp 14), 50, _, _, none⟩) (v := .int .i64 cc2) rfl (by kernel_rfl) (by kernel_rfl) (by kernel_rfl) (fun _ _ _ h => h) (Or.inl ⟨by rfl, fun w hS => by go_simp⟩) hHeld ?_
        simp only [Act.put, List.setIfInBounds_toArray, List.set_cons_zero, List.set_cons_succ]
        refine wpAnyH_take (i := 1) (oi := ⟨some 103, Op.move (Operand.tmp 15), 50, _, _, none⟩) (v := .int .i64 cc2) rfl (by kernel_rfl) (by kernel_rfl) (by kernel_rfl) (fun _ _ _ h => h) (Or.inl ⟨by rfl, fun w hS => by go_simp⟩) hHeld ?_
        simp only [Act.put, List.setIfInBounds_toArray, List.set_cons_zero, List.set_cons_succ]
        refine wpAnyH_take (i := 2) (oi := ⟨some 104, Op.binOp BinOp.neq 50 (Operand.tmp 102) (Operand.tmp 103) 50, 4, _, _, none⟩) (v := .bool false) rfl (by kernel_rfl) (by kernel_rfl) (by kernel_rfl) (fun _ _ _ h => h) (Or.inl ⟨by rfl, fun w hS => by go_simp⟩) hHeld ?_
        simp only [Act.put, List.setIfInBounds_toArray, List.set_cons_zero, List.set_cons_succ]
        refine wpAnyH_take (i := 3) (oi := ⟨some 105, Op.move (Operand.tmp 104), 4, _, _, none⟩) (v := .bool false) rfl (by kernel_rfl) (by kernel_rfl) (by kernel_rfl) (fun _ _ _ h => h) (Or.inl ⟨by rfl, fun w hS => by go_simp⟩) hHeld ?_
        simp only [Act.put, List.setIfInBounds_toArray, List.set_cons_zero, List.set_cons_succ]
        refine wpAnyH_take (i := 4) (oi := ⟨some 106, Op.move (Operand.tmp 15), 50, _, _, some (3, false)⟩) (v := .int .i64 cc2) rfl (by kernel_rfl) (by kernel_rfl) (by kernel_rfl) (fun _ _ _ h => h) (Or.inl ⟨by rfl, fun w hS => by go_simp⟩) hHeld ?_
        simp only [Act.put, List.setIfInBounds_toArray, List.set_cons_zero, List.set_cons_succ]
        refine wpAnyH_take (i := 5) (oi := ⟨some 107, Op.binOp BinOp.eql 50 (Operand.tmp 106) (Operand.const (Value.int IntKind.i64 0)) 50, 4, _, _, some (3, false)⟩) (v := .bool false) rfl (by kernel_rfl) (by kernel_rfl) (by kernel_rfl) (fun _ _ _ h => h) (Or.inl ⟨by rfl, fun w hS => by go_simp⟩) hHeld ?_
        simp only [Act.put, List.setIfInBounds_toArray, List.set_cons_zero, List.set_cons_succ]
        refine wpAnyH_take (i := 6) (oi := ⟨some 108, Op.move (Operand.tmp 107), 4, _, _, some (3, false)⟩) (v := .bool false) rfl (by kernel_rfl) (by kernel_rfl) (by kernel_rfl) (fun _ _ _ h => h) (Or.inl ⟨by rfl, fun w hS => by go_simp⟩) hHeld ?_
        simp only [Act.put, List.setIfInBounds_toArray, List.set_cons_zero, List.set_cons_succ]
        refine wpAnyH_take (i := 7) (oi := ⟨some 109, Op.move (Operand.tmp 9), 47, _, _, some (6, true)⟩) (v := undef) rfl (by kernel_rfl) (by kernel_rfl) (by kernel_rfl) (fun _ _ _ h => h) (Or.inr ⟨by rfl, rfl⟩) hHeld ?_
        simp only [Act.put, List.setIfInBounds_toArray, List.set_cons_zero, List.set_cons_succ]
        refine wpAnyH_take (i := 8) (oi := ⟨some 110, Op.call { callee := Callee.value (Operand.func 22), args := #[Operand.tmp 109], argTypes := #[47] }, 22, _, _, some (6, true)⟩) (v := undef) rfl (by kernel_rfl) (by kernel_rfl) (by kernel_rfl) (fun _ _ _ h => h) (Or.inr ⟨by rfl, rfl⟩) hHeld ?_
        simp only [Act.put, List.setIfInBounds_toArray, List.set_cons_zero, List.set_cons_succ]
        refine wpAnyH_take (i := 9) (oi := ⟨some 111, Op.convert 22 9 (Operand.tmp 110), 9, _, _, some (6, true)⟩) (v := undef) rfl (by kernel_rfl) (by kernel_rfl) (by kernel_rfl) (fun _ _ _ h => h) (Or.inr ⟨by rfl, rfl⟩) hHeld ?_
        simp only [Act.put, List.setIfInBounds_toArray, List.set_cons_zero, List.set_cons_succ]
        refine wpAnyH_take (i := 10) (oi := ⟨some 112, Op.move (Operand.tmp 7), 36, _, _, some (6, true)⟩) (v := undef) rfl (by kernel_rfl) (by kernel_rfl) (by kernel_rfl) (fun _ _ _ h => h) (Or.inr ⟨by rfl, rfl⟩) hHeld ?_
        simp only [Act.put, List.setIfInBounds_toArray, List.set_cons_zero, List.set_cons_succ]
        refine wpAnyH_take (i := 11) (oi := ⟨some 113, Op.call { callee := Callee.value (Operand.func 28), args := #[Operand.const (Value.slice none 0 0), Operand.tmp 112], argTypes := #[22, 36] }, 22, _, _, some (6, true)⟩) (v := undef) rfl (by kernel_rfl) (by kernel_rfl) (by kernel_rfl) (fun _ _ _ h => h) (Or.inr ⟨by rfl, rfl⟩) hHeld ?_
        simp only [Act.put, List.setIfInBounds_toArray, List.set_cons_zero, List.set_cons_succ]
        refine wpAnyH_take (i := 12) (oi := ⟨some 114, Op.convert 22 9 (Operand.tmp 113), 9, _, _, some (6, true)⟩) (v := undef) rfl (by kernel_rfl) (by kernel_rfl) (by kernel_rfl) (fun _ _ _ h => h) (Or.inr ⟨by rfl, rfl⟩) hHeld ?_
        simp only [Act.put, List.setIfInBounds_toArray, List.set_cons_zero, List.set_cons_succ]
        refine wpAnyH_take (i := 13) (oi := ⟨some 115, Op.binOp BinOp.neq 9 (Operand.tmp 111) (Operand.tmp 114) 9, 4, _, _, some (6, true)⟩) (v := undef) rfl (by kernel_rfl) (by kernel_rfl) (by kernel_rfl) (fun _ _ _ h => h) (Or.inr ⟨by rfl, rfl⟩) hHeld ?_
        simp only [Act.put, List.setIfInBounds_toArray, List.set_cons_zero, List.set_cons_succ]
        refine wpAnyH_take (i := 14) (oi := ⟨some 116, Op.pick (Operand.tmp 108) (Operand.tmp 115) (Operand.const (Value.bool false)), 4, _, _, some (3, false)⟩) (v := .bool false) rfl (by kernel_rfl) (by kernel_rfl) (by kernel_rfl) (fun _ _ _ h => h) (Or.inl ⟨by rfl, fun w hS => by go_simp⟩) hHeld ?_
        simp only [Act.put, List.setIfInBounds_toArray, List.set_cons_zero, List.set_cons_succ]
        refine wpAnyH_take (i := 15) (oi := ⟨some 117, Op.pick (Operand.tmp 105) (Operand.const (Value.bool true)) (Operand.tmp 116), 4, _, _, none⟩) (v := .bool false) rfl (by kernel_rfl) (by kernel_rfl) (by kernel_rfl) (fun _ _ _ h => h) (Or.inl ⟨by rfl, fun w hS => by go_simp⟩) hHeld ?_
        simp only [Act.put, List.setIfInBounds_toArray, List.set_cons_zero, List.set_cons_succ]
        refine wpAnyH_done (by kernel_rfl) ?_ _
        refine hK21 _ _ ?_
        refine wp_cond_false rfl ?_
        refine wp_skip ?_
        refine hK20 _ _ ?_
        refine wp_seq_k fun K23 hK23 => ?_
        refine wp_region_list (WL.out ?_)
        refine WL.val (by kernel_rfl) (.slice ba M bc) (by go_simp) ?_
        simp only [Act.put, List.setIfInBounds_toArray, List.set_cons_zero, List.set_cons_succ]
        refine WL.callF (by kernel_rfl) 29 _ _ rfl Try.in29 #[.slice ba M bc] (by simp [Act.eval]) ?_
        refine (getKeeps_any _ b w21.drew (by have h := HR.out.below HKe.out.bel; rw [Hvb.out] at h; exact h) HBy.out Hb.out (fun k hk => Nat.lt_of_lt_of_le (HLTb.out k (by rw [Hvb.out]; exact hk)) HKe.out.bel.size)).mono ?_
        rintro e wy ⟨rfl, hb⟩
        refine ⟨_, rfl, ?_⟩
        have By := Keep.mk (HKe.out.bel.trans (hb.mono HKe.out.bel.size))
        clear hb
        simp only [Act.put, List.setIfInBounds_toArray, List.set_cons_zero, List.set_cons_succ]
        refine WL.val (by kernel_rfl) (.bool true) (by go_simp) ?_
        simp only [Act.put, List.setIfInBounds_toArray, List.set_cons_zero, List.set_cons_succ]
        refine WL.callF (by kernel_rfl) 17 _ _ rfl Try.in17 #[] (by simp) ?_
        refine (fixed_any wy).mono ?_
        rintro e wz ⟨rfl, hb⟩
        refine ⟨_, rfl, ?_⟩
        have Bz := Keep.mk (By.out.trans (hb.mono By.out.size))
        clear hb
        simp only [Act.put, List.setIfInBounds_toArray, List.set_cons_zero, List.set_cons_succ]
        refine WL.val (by kernel_rfl) (.bool true) (by go_simp) ?_
        simp only [Act.put, List.setIfInBounds_toArray, List.set_cons_zero, List.set_cons_succ]
        refine WL.val (by kernel_rfl) (.bool true) (by go_simp) ?_
        simp only [Act.put, List.setIfInBounds_toArray, List.set_cons_zero, List.set_cons_succ]
        refine WL.nil ?_
        refine hK23 _ _ ?_
        refine wp_ret ?_
        go_ret
        exact ⟨rfl, Bz.out⟩
  clear hK2
  refine wp_region_held_drew (S := fun wx => Blk wx g5 59 A) (by kernel_rfl) (H5.out.drew) (fun hHeld => ?_)
  have hbd : Below w1.heap.size w1 w1.drew := (Below.refl _ _).drew
  have HLd := Keep.mk (HL1.out.below hbd)
  generalize w1.drew = wd at *
  refine wpAnyH_take (i := 0) (oi := ⟨some 18, Op.move (Operand.tmp 0), 36, _, _, none⟩) (v := .slice la N lc) rfl (by kernel_rfl) (by kernel_rfl) (by kernel_rfl) (fun _ _ _ h => h) (Or.inl ⟨by rfl, fun w hS => by go_simp⟩) hHeld ?_
  simp only [Act.put, List.setIfInBounds_toArray, List.set_cons_zero, List.set_cons_succ]
  refine wpAnyH_take (i := 2) (oi := ⟨some 20, Op.load 59 (Operand.tmp 5), 59, _, _, none⟩) (v := .agg (CA).toArray) rfl (by kernel_rfl) (by kernel_rfl) (by kernel_rfl) (fun _ _ _ h => h) (yieldsIf_load_mid (by rfl) 59 (Operand.tmp 5) rfl g5 0 rfl CA _ (fun w hS => (HCR.out _ hS)) hu rfl hiC) hHeld ?_
  simp only [Act.put, List.setIfInBounds_toArray, List.set_cons_zero, List.set_cons_succ]
  rw [hCAA]
  refine wpAnyH_take (i := 3) (oi := ⟨some 21, Op.load 59 (Operand.tmp 5), 59, _, _, none⟩) (v := .agg (CA).toArray) rfl (by kernel_rfl) (by kernel_rfl) (by kernel_rfl) (fun _ _ _ h => h) (yieldsIf_load_mid (by rfl) 59 (Operand.tmp 5) rfl g5 0 rfl CA _ (fun w hS => (HCR.out _ hS)) hu rfl hiC) hHeld ?_
  simp only [Act.put, List.setIfInBounds_toArray, List.set_cons_zero, List.set_cons_succ]
  rw [hCAA]
  have H5lt : Keep (g5 < w1.heap.size) := ⟨H5.out.lt⟩
  refine wpAnyH_ready (rs := [1, 4]) (by kernel_rfl) (by simp) ?_
  refine AllReadyH.cons (o := ⟨some 19, Op.call { callee := Callee.builtin Builtin.append, args := #[Operand.const (Value.slice none 0 0), Operand.tmp 18], argTypes := #[36, 36] }, 36, _, _, none⟩) rfl (fun K hK => ?_) (AllReadyH.cons (o := ⟨some 22, Op.buildSlice 36 2 #[(0, Operand.tmp 20), (1, Operand.tmp 21)], 36, _, _, none⟩) rfl (fun K hK => ?_) (AllReadyH.nil))
  all_goals rw [if_pos (by rfl)]
  · refine wp_appA (.const (.slice none 0 0)) (.tmp 18) rfl (.slice la N lc) l rfl rfl (by rw [← Hv.out]; exact HLd.out) (by have := Hlb.out; omega) ?_
    intro v19 wa hO19 hb19 hf19
    refine hK.out _ _ (Blk.below hHeld hb19 (Blk.lt hHeld)) fun hHeld => ?_
    clear hK
    simp only [Act.put, List.setIfInBounds_toArray, List.set_cons_zero, List.set_cons_succ]
    refine wpAnyH_ready (rs := [4]) (by kernel_rfl) (by simp) ?_
    refine AllReadyH.cons (o := ⟨some 22, Op.buildSlice 36 2 #[(0, Operand.tmp 20), (1, Operand.tmp 21)], 36, _, _, none⟩) rfl (fun K hK => ?_) (AllReadyH.nil)
    all_goals rw [if_pos (by rfl)]
    refine wp_bsO 36 2 _ rfl #[(0, .agg A), (1, .agg A)] (by simp [Act.eval]) _ _ (HAs.out wa) ?_
    have hbq := below_new wa (.cells (flatO [mk0, mk0]).toArray 59)
    have HO := Keep.mk (hO19.below hbq)
    have HG := Keep.mk (Blk.new wa 59 (flatO [mk0, mk0]).toArray)
    have HBx := Keep.mk ((hbd.trans (hb19.mono hbd.size)).trans (hbq.mono (hbd.trans (hb19.mono hbd.size)).size))
    have Hfr : Keep (∀ k, v19.ownBlock = some k → w1.heap.size ≤ k) := ⟨fun k hk => by have := hf19 k hk; have := hbd.size; omega⟩
    have Hne : Keep (v19.ownBlock ≠ some g5) := ⟨fun e => by have := hf19 g5 e; have := H5lt.out; have := hbd.size; omega⟩
    refine hK.out _ _ (Blk.alloc hHeld _) fun hHeld => ?_
    clear hK
    simp only [Act.put, List.setIfInBounds_toArray, List.set_cons_zero, List.set_cons_succ]
    generalize wa.alloc (.cells (flatO [mk0, mk0]).toArray 59) = wb at *
    obtain ⟨g22, hg22⟩ : ∃ g, Keep (g = wa.heap.size) := ⟨_, ⟨rfl⟩⟩
    rw [← hg22.out] at HG ⊢
    refine wpAnyH_ready (rs := [5]) (by kernel_rfl) (by simp) ?_
    refine AllReadyH.cons (o := ⟨some 23, Op.call { callee := Callee.builtin Builtin.append, args := #[Operand.tmp 19, Operand.tmp 22], argTypes := #[36, 36] }, 36, _, _, none⟩) rfl (fun K hK => ?_) (AllReadyH.nil)
    all_goals rw [if_pos (by rfl)]
    refine wp_appB (.tmp 19) (.tmp 22) rfl v19 l [mk0, mk0] g22 rfl rfl HO.out HG.out (by simp) (by have := Hlb.out; simp; omega) ?_
    intro v6 w6 hO6 hg6 hm6
    have h56 : Blk w6 g5 59 A := hg6.blk hHeld (fun e => Hne.out e)
    refine hK.out _ _ h56 fun hHeld => ?_
    clear hK
    simp only [Act.put, List.setIfInBounds_toArray, List.set_cons_zero, List.set_cons_succ]
    refine wpAnyH_take (i := 6) (oi := ⟨some 6, Op.assign (Operand.tmp 23), 36, _, _, none⟩) (v := v6) rfl (by kernel_rfl) (by kernel_rfl) (by kernel_rfl) (fun _ _ _ h => h) (Or.inl ⟨by rfl, fun w hS => by go_simp⟩) hHeld ?_
    simp only [Act.put, List.setIfInBounds_toArray, List.set_cons_zero, List.set_cons_succ]
    refine wpAnyH_done (by kernel_rfl) ?_ _
    refine hrest v19 v6 g22 w6 h56 hO6 (fun k hk => ?_) (HBx.out.trans (hg6.to_below (fun k hk e => by have := Hfr.out k e; omega) HBx.out.size))
    rcases hm6 with e | ⟨k2, e, hk2⟩
    · exact Hfr.out k (by rw [← e]; exact hk)
    · rw [e] at hk; injection hk with hk; have := HBx.out.size; omega
  · refine wp_bsO 36 2 _ rfl #[(0, .agg A), (1, .agg A)] (by simp [Act.eval]) _ _ (HAs.out wd) ?_
    have hbq := below_new wd (.cells (flatO [mk0, mk0]).toArray 59)
    have HG0 := Keep.mk (Blk.new wd 59 (flatO [mk0, mk0]).toArray)
    have HLe := Keep.mk (HLd.out.below hbq)
    have hbe : Below w1.heap.size w1 (wd.alloc (.cells (flatO [mk0, mk0]).toArray 59)) := hbd.trans (hbq.mono hbd.size)
    refine hK.out _ _ (Blk.alloc hHeld _) fun hHeld => ?_
    clear hK
    simp only [Act.put, List.setIfInBounds_toArray, List.set_cons_zero, List.set_cons_succ]
    generalize wd.alloc (.cells (flatO [mk0, mk0]).toArray 59) = we at *
    obtain ⟨g22, hg22⟩ : ∃ g, Keep (g = wd.heap.size) := ⟨_, ⟨rfl⟩⟩
    rw [← hg22.out] at HG0 ⊢
    refine wpAnyH_ready (rs := [1]) (by kernel_rfl) (by simp) ?_
    refine AllReadyH.cons (o := ⟨some 19, Op.call { callee := Callee.builtin Builtin.append, args := #[Operand.const (Value.slice none 0 0), Operand.tmp 18], argTypes := #[36, 36] }, 36, _, _, none⟩) rfl (fun K hK => ?_) (AllReadyH.nil)
    all_goals rw [if_pos (by rfl)]
    refine wp_appA (.const (.slice none 0 0)) (.tmp 18) rfl (.slice la N lc) l rfl rfl (by rw [← Hv.out]; exact HLe.out) (by have := Hlb.out; omega) ?_
    intro v19 wa hO19 hb19 hf19
    refine hK.out _ _ (Blk.below hHeld hb19 (Blk.lt hHeld)) fun hHeld => ?_
    clear hK
    simp only [Act.put, List.setIfInBounds_toArray, List.set_cons_zero, List.set_cons_succ]
    have HO := Keep.mk hO19
    have HG := Keep.mk (HG0.out.below hb19 HG0.out.lt)
    have HBx := Keep.mk (hbe.trans (hb19.mono hbe.size))
    have Hfr : Keep (∀ k, v19.ownBlock = some k → w1.heap.size ≤ k) := ⟨fun k hk => by have := hf19 k hk; have := hbe.size; omega⟩
    have Hne : Keep (v19.ownBlock ≠ some g5) := ⟨fun e => by have := hf19 g5 e; have := H5lt.out; have := hbe.size; omega⟩
    refine wpAnyH_ready (rs := [5]) (by kernel_rfl) (by simp) ?_
    refine AllReadyH.cons (o := ⟨some 23, Op.call { callee := Callee.builtin Builtin.append, args := #[Operand.tmp 19, Operand.tmp 22], argTypes := #[36, 36] }, 36, _, _, none⟩) rfl (fun K hK => ?_) (AllReadyH.nil)
    all_goals rw [if_pos (by rfl)]
    refine wp_appB (.tmp 19) (.tmp 22) rfl v19 l [mk0, mk0] g22 rfl rfl HO.out HG.out (by simp) (by have := Hlb.out; simp; omega) ?_
    intro v6 w6 hO6 hg6 hm6
    have h56 : Blk w6 g5 59 A := hg6.blk hHeld (fun e => Hne.out e)
    refine hK.out _ _ h56 fun hHeld => ?_
    clear hK
    simp only [Act.put, List.setIfInBounds_toArray, List.set_cons_zero, List.set_cons_succ]
    refine wpAnyH_take (i := 6) (oi := ⟨some 6, Op.assign (Operand.tmp 23), 36, _, _, none⟩) (v := v6) rfl (by kernel_rfl) (by kernel_rfl) (by kernel_rfl) (fun _ _ _ h => h) (Or.inl ⟨by rfl, fun w hS => by go_simp⟩) hHeld ?_
    simp only [Act.put, List.setIfInBounds_toArray, List.set_cons_zero, List.set_cons_succ]
    refine wpAnyH_done (by kernel_rfl) ?_ _
    refine hrest v19 v6 g22 w6 h56 hO6 (fun k hk => ?_) (HBx.out.trans (hg6.to_below (fun k hk e => by have := Hfr.out k e; omega) HBx.out.size))
    rcases hm6 with e | ⟨k2, e, hk2⟩
    · exact Hfr.out k (by rw [← e]; exact hk)
    · rw [e] at hk; injection hk with hk; have := HBx.out.size; omega
end Go.Proofs.Ytkjjlfpghhefcab
namespace Go.Proofs.Ytkjjlfpghhefcab
open Go.ChangeShapes Go.WideShapes Go.ChangeAt Go.RowKit Go.Deep

theorem op_of_trodK {H : Type} {enc : TypeId × Value → H} {W : World} {sp : Nat → Bool} {held : Bool} {n base : Nat} {cs : List Value} {x : DataW H × List MemPlace} (hf : DataW.trod enc Try.prog W base sp held n 59 cs = some x) (hw : ∀ n ∈ x.1.weights Try.prog 59, n ≤ reachBytes) :
    ∃ q : OpV, cs = opL q ∧ OpOk q ∧ q.key.size ≤ 140737488351232 := by
  obtain ⟨y0, y1, y2, y3, y4, k, hx, hl0, h0, h1, h2, h3, h4⟩ := trod_struct5 Try.underlying59 hf
  rw [Try.cellsOf59] at hl0
  simp only [Try.cellsOf3, Try.cellsOf9, Try.cellsOf2, Try.cellsOf57] at h0 h1 h2 h3 h4
  obtain ⟨z0, e0, _, w0⟩ := DataW.trod_int Try.underlying3 h0
  obtain ⟨s1, e1, f1, w1⟩ := DataW.trod_string Try.underlying9 h1
  obtain ⟨s2, e2, f2, w2⟩ := DataW.trod_string Try.underlying9 h2
  obtain ⟨z3, e3, _, w3⟩ := DataW.trod_int Try.underlying2 h3
  obtain ⟨a0, a1, k2, hx4, hl4, g0, g1⟩ := trod_struct2 Try.underlying57 h4
  rw [Try.cellsOf57] at hl4
  simp only [Try.cellsOf55, Try.cellsOf3] at g0 g1
  obtain ⟨c, ec, hc1, hc2⟩ := hash_of_trod g0
  obtain ⟨z4, e4, _, w4⟩ := DataW.trod_int Try.underlying3 g1
  have b0 := wf_i64 w0
  have b3 := wf_i64 w3
  have b4 := wf_i64 w4
  have kb1 : s1.size ≤ reachBytes := hw s1.size (by
    rw [hx]
    simp only [DataW.weights, Try.underlying59]
    refine DataW.weights_mem_each (j := 1) (t := 9) rfl rfl _ ?_
    rw [f1]
    simp [DataW.weights])
  have kb2 : s2.size ≤ reachBytes := hw s2.size (by
    rw [hx]
    simp only [DataW.weights, Try.underlying59]
    refine DataW.weights_mem_each (j := 2) (t := 9) rfl rfl _ ?_
    rw [f2]
    simp [DataW.weights])
  rw [reach_is] at kb1 kb2
  refine ⟨⟨z0, s1, s2, z3, c, z4⟩, ?_, ⟨hc1, hc2, b0.1, b0.2, b3.1, b3.2, b4.1, b4.2, by simp only; omega, by simp only; omega⟩, kb1⟩
  have q0 : cs[0]? = some (.int .i64 z0) := one_of (by simpa using e0)
  have q1 : cs[1]? = some (.string s1) := one_of (by simpa using e1)
  have q2 : cs[2]? = some (.string s2) := one_of (by simpa using e2)
  have q3 : cs[3]? = some (.int .i64 z3) := one_of (by simpa using e3)
  have hd : cs.drop 4 = idL c z4 := by
    have hfull : (cs.drop 4).take 33 = cs.drop 4 := List.take_of_length_le (by rw [List.length_drop]; omega)
    rw [hfull] at ec e4
    have q4 : (cs.drop 4)[32]? = some (.int .i64 z4) := one_of (by simpa using e4)
    rw [List.drop_zero] at ec
    unfold idL
    rw [← ec, ← List.take_append_drop 32 (cs.drop 4)]
    congr 1
    · rw [List.take_append_drop]
    · apply List.ext_getElem?
      intro i
      match i with
      | 0 => rw [List.getElem?_drop]; simpa using q4
      | i + 1 => rw [List.getElem?_eq_none (by rw [List.length_drop, List.length_drop]; omega)]; simp
  unfold opL
  rw [← hd, ← List.take_append_drop 4 cs]
  congr 1
  · apply List.ext_getElem?
    intro i
    match i with
    | 0 => rw [List.getElem?_take, if_pos (by omega), q0]; rfl
    | 1 => rw [List.getElem?_take, if_pos (by omega), q1]; rfl
    | 2 => rw [List.getElem?_take, if_pos (by omega), q2]; rfl
    | 3 => rw [List.getElem?_take, if_pos (by omega), q3]; rfl
    | i + 4 => rw [List.getElem?_eq_none (by rw [List.length_take]; omega)]; simp
  · rw [List.take_append_drop]
theorem ops_of_trodK {H : Type} {enc : TypeId × Value → H} {W : World} {sp : Nat → Bool} {held : Bool} {fuel base : Nat} {v : Value} {x : DataW H × List MemPlace} (hf : DataW.trod enc Try.prog W base sp held fuel 36 [v] = some x) (hw : ∀ n ∈ x.1.weights Try.prog 36, n ≤ reachBytes) :
    ∃ l : List OpV, OpsAt W v l ∧ (∀ q ∈ l, OpOk q ∧ q.key.size ≤ 140737488351232) ∧ l.length ≤ 1599289640355 := by
  rcases open_slice Try.underlying36 hf with ⟨hcs, _⟩ | ⟨a, len, cap, m, n, D, Pl, hcs, _, hl_, hm, hz, hx, hcell⟩
  · simp at hcs
    subst hcs
    exact ⟨[], .inl ⟨none, 0, rfl, rfl⟩, by simp, by simp⟩
  · simp at hcs
    subst hcs
    have hlz : len ≤ m := by rw [hz]; split <;> omega
    have hb : len ≤ 1599289640355 := by
      have h1 := hw ((((List.range len).map D).length + ((List.range (m - len)).map fun j => D (len + j)).length) * 88) (by
        rw [hx]
        simp only [DataW.weights, Try.underlying36]
        simp [Try.bytesOf59])
      rw [reach_is] at h1
      simp only [List.length_map, List.length_range] at h1
      omega
    have hwD : ∀ i, i < len → ∀ n ∈ (D i).weights Try.prog 59, n ≤ reachBytes := fun i hi n hn => hw n (by
      rw [hx]
      simp only [DataW.weights, Try.underlying36]
      refine List.mem_cons_of_mem _ (List.mem_append_left _ (mem_weightsAll (d := D i) ?_ n hn))
      exact List.mem_map.2 ⟨i, List.mem_range.2 hi, rfl⟩)
    have each : ∀ i, i < len → ∃ q : OpV, (∀ j v, (opL q)[j]? = some v → W.cell? ((a.add (i * 37)).add j) = some v) ∧ OpOk q ∧ q.key.size ≤ 140737488351232 := by
      intro i hi
      obtain ⟨cs', h1, h2⟩ := hcell i (by omega)
      rw [Try.cellsOf59] at h1
      obtain ⟨_, hlen, hce⟩ := World.cells?_some h1
      obtain ⟨q, rfl, h3⟩ := op_of_trodK h2 (hwD i hi)
      refine ⟨q, fun j v hv => ?_, h3⟩
      obtain ⟨hj, e⟩ := List.getElem?_eq_some_iff.1 hv
      rw [opL_len] at hj
      rw [hce j (by omega), ← hv]
    haveI : Inhabited OpV := ⟨zeroOp⟩
    obtain ⟨q, hq⟩ := Go.Deep.choose_lt each
    refine ⟨(List.range len).map q, ?_, ?_, by simpa using hb⟩
    · by_cases h0 : len = 0
      · subst h0
        exact .inl ⟨_, _, rfl, rfl⟩
      · have hs : a.spot = none := by
          have := (hq 0 (by omega)).1 0 _ (show (opL (q 0))[0]? = some (.int .i64 (q 0).kind) by simp [opL])
          rw [Nat.zero_mul, show a.add 0 = a from rfl] at this
          rw [show a.add 0 = a from rfl] at this
          exact World.cell?_spot this
        obtain ⟨b, off, sp⟩ := a
        obtain rfl : sp = none := hs
        refine .inr ⟨b, off, cap, by simp, by simp; omega, fun i x hxi j v hv => ?_⟩
        obtain ⟨hi, e⟩ := List.getElem?_eq_some_iff.1 hxi
        simp at hi e
        subst e
        have := (hq i hi).1 j v hv
        simp only [add_none'] at this
        exact this
    · intro z hz'
      obtain ⟨i, hi, rfl⟩ := List.mem_map.1 hz'
      exact (hq i (List.mem_range.1 hi)).2
end Go.Proofs.Ytkjjlfpghhefcab
