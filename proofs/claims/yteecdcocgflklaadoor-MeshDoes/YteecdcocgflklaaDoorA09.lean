import Derived.Test.YteecdcocgflklaaDoorA08
import Derived.Test.YteecdcocgflklaaDoorA07
namespace Go.Proofs.YteecdcocgflklaaDoor
open Go.RowKit
set_option linter.unusedSimpArgs false
set_option linter.unusedVariables false
theorem Tryd.in14 (w : World) (vs : Array Value) : (callFunc 14 vs).run Tryd.prog w = .ok (.enter 14 vs) w := by kernel_rfl
theorem bsB1 (a : Int) (w : World) : (Instr.buildSlice 39 1 #[(0, .int .u8 a)]).run Tryd.prog w = .ok (.slice (some ⟨w.heap.size, 0, none⟩) 1 1) (w.alloc (.cells #[.int .u8 a] 5)) := by kernel_rfl
theorem WL.appT {ops : Array Oper} {rest : List Oper} {o : Oper} {a : Act} {w : World} {Q : Exit → Act → World → Prop} (hw : Region.wanted o (yielded ops a.tmps) = true) (s x : Operand) (ho : o.op = .call { callee := .builtin .append, args := #[s, x], argTypes := #[39, 39] }) (v : Value) (l : List Int) (g1 : Nat) (m : Int)
    (hs : a.eval s = v) (hx : a.eval x = .slice (some ⟨g1, 0, none⟩) 1 1) (hown : OwnT w v l) (hc : w.cell? ⟨g1, 0, none⟩ = some (.int .u8 m)) (hb : l.length + 1 ≤ 140737488355328)
    (h : ∀ v' w', AppPostT w v (l ++ [m]) v' w' → WL Tryd.prog ops Q rest (a.put o.dst v') w') : WL Tryd.prog ops Q (o :: rest) a w :=
  ⟨wpList_wanted hw fun K hK => by
    obtain ⟨v', w', hr, h2⟩ := run_app_one w o.type v l hown g1 m hc hb
    unfold Oper.wp execOp
    simp only [ho, resolve, invoke, builtin, Sem.run_bind, Sem.run_pure, Result.andThen_ok, List.map_toArray, List.map_cons, List.map_nil, hs, hx, hr]
    exact hK _ _ (h v' w' h2).out⟩
set_option maxRecDepth 8000 in
set_option maxHeartbeats 1000000 in
theorem apart_some (q gl m ca cb : Nat) (lb : Option Addr) (V : Nat → Value) (L0 : Nat → List Int) (O Ws : List (Value × List Int)) (w : World) (n : Nat → Nat) (hnn : Keep (∀ j, n j = (L0 j).length)) (HFil : Keep (Fil w gl m V L0 w)) (HSep : Keep (Sep m V)) (HGl : Keep (gl < w.heap.size)) (HM : Keep (m ≤ 4398046511104)) (HN : Keep (∀ j, j < m → n j ≤ 2097194))
    (HOn : Keep (O.length = m)) (HWn : Keep (Ws.length = m)) (HS : Keep (∀ wx, Below w.heap.size w wx → wx.cell? ⟨q, 0, none⟩ = some (.slice (some ⟨gl, 0, none⟩) m ca) ∧ wx.cell? ⟨q, 1, none⟩ = some (.slice lb m cb) ∧ RwR wx (some ⟨gl, 0, none⟩) O ∧ RwR wx lb Ws)) (HEqv : Keep (∀ (i : Nat) (x y : Value × List Int), O[i]? = some x → Ws[i]? = some y → x.2 = y.2))
    (HQ : Keep (∀ wx, (Grown w wx fun k => ∃ j, j < m ∧ (V j).ownBlock = some k) → wx.cell? ⟨q, 0, none⟩ = some (.slice (some ⟨gl, 0, none⟩) m ca))) :
    Calls Tryd.prog 14 #[.pointer (some ⟨q, 0, none⟩)] w fun e w' => e = .returned (.bool true) ∧ Grown w w' fun k => ∃ j, j < m ∧ (V j).ownBlock = some k := by
  go_enter Tryd.func14, Tryd.ntmps14
  refine wp_seq_k fun K1 hK1 => ?_
  refine wp_region_list (WL.out ?_)
  refine WL.val (by kernel_rfl) (.bool false) (by go_simp) ?_
  simp only [Act.put, List.setIfInBounds_toArray, List.set_cons_zero, List.set_cons_succ]
  refine WL.nil ?_
  refine hK1 _ _ ?_
  refine wp_seq_k fun K2 hK2 => ?_
  refine wp_region_list (WL.out ?_)
  refine WL.val (by kernel_rfl) (.pointer (some ⟨q, 0, none⟩)) (by go_simp) ?_
  simp only [Act.put, List.setIfInBounds_toArray, List.set_cons_zero, List.set_cons_succ]
  refine WL.callF (by kernel_rfl) 12 _ _ rfl Tryd.in12 #[.pointer (some ⟨q, 0, none⟩)] (by simp [Act.eval]) ?_
  refine (holds_any q m ca cb (some ⟨gl, 0, none⟩) lb O Ws w HOn HWn HM HS).mono ?_
  rintro e w1 ⟨bo, rfl, hbo, hb1⟩
  refine ⟨_, rfl, ?_⟩
  obtain rfl := hbo HEqv.out
  have HF1 := Keep.mk (HFil.out.more hb1)
  clear hb1
  simp only [Act.put, List.setIfInBounds_toArray, List.set_cons_zero, List.set_cons_succ]
  refine WL.val (by kernel_rfl) (.bool true) (by go_simp) ?_
  simp only [Act.put, List.setIfInBounds_toArray, List.set_cons_zero, List.set_cons_succ]
  refine WL.nil ?_
  refine hK2 _ _ ?_
  refine wp_seq_k fun K3 hK3 => ?_
  refine wp_seq_k fun K4 hK4 => ?_
  refine wp_region_list (WL.out ?_)
  refine WL.val (by kernel_rfl) (.bool true) (by go_simp) ?_
  simp only [Act.put, List.setIfInBounds_toArray, List.set_cons_zero, List.set_cons_succ]
  refine WL.val (by kernel_rfl) (.bool false) (by go_simp) ?_
  simp only [Act.put, List.setIfInBounds_toArray, List.set_cons_zero, List.set_cons_succ]
  refine WL.nil ?_
  refine hK4 _ _ ?_
  refine wp_cond_false rfl ?_
  refine wp_skip ?_
  refine hK3 _ _ ?_
  refine wp_seq_k fun K5 hK5 => ?_
  refine wp_seq_k fun K6 hK6 => ?_
  refine wp_region_list (WL.out ?_)
  refine WL.val (by kernel_rfl) (.int .i64 0) (by go_simp) ?_
  simp only [Act.put, List.setIfInBounds_toArray, List.set_cons_zero, List.set_cons_succ]
  refine WL.nil ?_
  refine hK6 _ _ ?_
  refine wp_block ?_
  refine wp_loop (fun ac wr => ∃ (i : Nat) (fx : Nat → Value) (Ls : Nat → List Int), ac = { tmps := #[.pointer (some ⟨q, 0, none⟩), undef, .bool false, .bool true, .int .i64 (i : Int), fx 5, undef, undef, undef, undef, undef, undef, undef, .pointer (some ⟨q, 0, none⟩), .bool true, .bool true, .bool false, fx 17, fx 18, fx 19, fx 20, fx 21, fx 22, fx 23, fx 24, fx 25, fx 26, fx 27, fx 28, fx 29, fx 30, fx 31, fx 32, fx 33, fx 34, fx 35, fx 36, fx 37, fx 38, fx 39, fx 40, fx 41, fx 42, fx 43, fx 44, fx 45, fx 46, fx 47, fx 48, fx 49, fx 50, undef, undef, undef, undef, undef, undef, undef, undef, undef, undef, undef, undef, undef, undef, undef, undef, undef, undef, undef, undef, undef, undef, undef, undef, undef, undef, undef, undef, undef, undef, undef, undef, undef, undef, undef, undef, undef, undef, undef, undef, undef, undef, undef, undef, undef, undef, undef, undef, undef, undef, undef, undef, undef, undef, undef, undef, undef, undef, undef, undef, undef, undef], defers := [] } ∧ Keep (i ≤ m) ∧ Keep ((∀ j, j < i → Ls j = List.replicate (n j) (mkB j)) ∧ ∀ j, (Ls j).length = n j) ∧ Keep (Fil w gl m V Ls wr)) (fun a _ => m - (intOf (a.tmps.getD 4 undef)).toNat) ⟨0, fun zz => [.pointer (some ⟨q, 0, none⟩), undef, .bool false, .bool true, .int .i64 0, undef, undef, undef, undef, undef, undef, undef, undef, .pointer (some ⟨q, 0, none⟩), .bool true, .bool true, .bool false, undef, undef, undef, undef, undef, undef, undef, undef, undef, undef, undef, undef, undef, undef, undef, undef, undef, undef, undef, undef, undef, undef, undef, undef, undef, undef, undef, undef, undef, undef, undef, undef, undef, undef, undef, undef, undef, undef, undef, undef, undef, undef, undef, undef, undef, undef, undef, undef, undef, undef, undef, undef, undef, undef, undef, undef, undef, undef, undef, undef, undef, undef, undef, undef, undef, undef, undef, undef, undef, undef, undef, undef, undef, undef, undef, undef, undef, undef, undef, undef, undef, undef, undef, undef, undef, undef, undef, undef, undef, undef, undef, undef, undef, undef, undef, undef].getD zz undef, L0, rfl, ⟨by omega⟩, ⟨fun j hj => by omega, fun j => (hnn.out j).symm⟩, HF1⟩ ?_
  rintro ac wr ⟨i, fx, Ls, rfl, HI, HLs, HF⟩
  obtain ⟨him⟩ := HI
  have hm9 := HM.out
  have hF0 := HF.out
  have c0_ := HQ.out _ hF0.gr
  clear hF0
  by_cases hlt : i < m
  · have hci_ : (i : Int) < (m : Int) := by omega
    obtain ⟨va, vc, hv⟩ := (HF.out.own i hlt).slN
    rw [HLs.out.2 i] at hv
    have HV := Keep.mk hv
    clear hv
    have HNt := HN.out i hlt
    have HFu : Keep (Fil w gl m V (updN Ls i (List.replicate 0 (mkB i) ++ (Ls i).drop 0)) wr) := ⟨by
      have e : updN Ls i (List.replicate 0 (mkB i) ++ (Ls i).drop 0) = Ls := by
        funext j
        by_cases e : j = i
        · subst e; rw [updN_self]; simp
        · rw [updN_ne _ _ e]
      rw [e]; exact HF.out⟩
    refine wp_seq_k fun K7 hK7 => ?_
    refine wp_seq_k fun K8 hK8 => ?_
    refine wp_region_list (WL.out ?_)
    refine WL.val (by kernel_rfl) (.int .i64 (i : Int)) (by go_simp) ?_
    simp only [Act.put, List.setIfInBounds_toArray, List.set_cons_zero, List.set_cons_succ]
    refine WL.val (by kernel_rfl) (.pointer (some ⟨q, 0, none⟩)) (by go_simp) ?_
    simp only [Act.put, List.setIfInBounds_toArray, List.set_cons_zero, List.set_cons_succ]
    refine WL.val (by kernel_rfl) (.pointer (some ⟨q, 0, none⟩)) (by go_simp) ?_
    simp only [Act.put, List.setIfInBounds_toArray, List.set_cons_zero, List.set_cons_succ]
    refine WL.val (by kernel_rfl) (.pointer (some ⟨q, 0, none⟩)) (by go_simp) ?_
    simp only [Act.put, List.setIfInBounds_toArray, List.set_cons_zero, List.set_cons_succ]
    refine WL.val (by kernel_rfl) (.slice (some ⟨gl, 0, none⟩) m ca) (by go_simp) ?_
    simp only [Act.put, List.setIfInBounds_toArray, List.set_cons_zero, List.set_cons_succ]
    refine WL.val (by kernel_rfl) (.int .i64 (m : Int)) (by go_simp) ?_
    simp only [Act.put, List.setIfInBounds_toArray, List.set_cons_zero, List.set_cons_succ]
    refine WL.val (by kernel_rfl) (.bool true) (by go_simp) ?_
    simp only [Act.put, List.setIfInBounds_toArray, List.set_cons_zero, List.set_cons_succ]
    refine WL.nil ?_
    refine hK8 _ _ ?_
    refine wp_cond_true rfl ?_
    refine wp_skip ?_
    refine hK7 _ _ ?_
    refine wp_seq_k fun K9 hK9 => ?_
    refine wp_block ?_
    refine wp_seq_k fun K10 hK10 => ?_
    refine wp_region_list (WL.out ?_)
    refine WL.val (by kernel_rfl) (.int .i64 0) (by go_simp) ?_
    simp only [Act.put, List.setIfInBounds_toArray, List.set_cons_zero, List.set_cons_succ]
    refine WL.nil ?_
    refine hK10 _ _ ?_
    refine wp_block ?_
    refine wp_loop (fun ac wi => ∃ (k : Nat) (fy : Nat → Value), ac = { tmps := #[.pointer (some ⟨q, 0, none⟩), undef, .bool false, .bool true, .int .i64 (i : Int), .int .i64 (k : Int), undef, undef, undef, undef, undef, undef, undef, .pointer (some ⟨q, 0, none⟩), .bool true, .bool true, .bool false, .int .i64 (i : Int), .pointer (some ⟨q, 0, none⟩), .pointer (some ⟨q, 0, none⟩), .pointer (some ⟨q, 0, none⟩), .slice (some ⟨gl, 0, none⟩) m ca, .int .i64 (m : Int), .bool true, fx 24, fx 25, fy 26, fy 27, fy 28, fy 29, fy 30, fy 31, fy 32, fy 33, fy 34, fy 35, fy 36, fy 37, fy 38, fy 39, fy 40, fy 41, fy 42, fy 43, fy 44, fy 45, fy 46, fy 47, fy 48, fy 49, fy 50, undef, undef, undef, undef, undef, undef, undef, undef, undef, undef, undef, undef, undef, undef, undef, undef, undef, undef, undef, undef, undef, undef, undef, undef, undef, undef, undef, undef, undef, undef, undef, undef, undef, undef, undef, undef, undef, undef, undef, undef, undef, undef, undef, undef, undef, undef, undef, undef, undef, undef, undef, undef, undef, undef, undef, undef, undef, undef, undef, undef, undef, undef], defers := [] } ∧ Keep (k ≤ n i) ∧ Keep (Fil w gl m V (updN Ls i (List.replicate k (mkB i) ++ (Ls i).drop k)) wi)) (fun a _ => n i - (intOf (a.tmps.getD 5 undef)).toNat) ⟨0, fun zz => [.pointer (some ⟨q, 0, none⟩), undef, .bool false, .bool true, .int .i64 (i : Int), .int .i64 0, undef, undef, undef, undef, undef, undef, undef, .pointer (some ⟨q, 0, none⟩), .bool true, .bool true, .bool false, .int .i64 (i : Int), .pointer (some ⟨q, 0, none⟩), .pointer (some ⟨q, 0, none⟩), .pointer (some ⟨q, 0, none⟩), .slice (some ⟨gl, 0, none⟩) m ca, .int .i64 (m : Int), .bool true, fx 24, fx 25, fx 26, fx 27, fx 28, fx 29, fx 30, fx 31, fx 32, fx 33, fx 34, fx 35, fx 36, fx 37, fx 38, fx 39, fx 40, fx 41, fx 42, fx 43, fx 44, fx 45, fx 46, fx 47, fx 48, fx 49, fx 50, undef, undef, undef, undef, undef, undef, undef, undef, undef, undef, undef, undef, undef, undef, undef, undef, undef, undef, undef, undef, undef, undef, undef, undef, undef, undef, undef, undef, undef, undef, undef, undef, undef, undef, undef, undef, undef, undef, undef, undef, undef, undef, undef, undef, undef, undef, undef, undef, undef, undef, undef, undef, undef, undef, undef, undef, undef, undef, undef, undef, undef, undef].getD zz undef, rfl, ⟨by omega⟩, HFu⟩ ?_
    rintro ac wi ⟨k, fy, rfl, HK9, HFk⟩
    obtain ⟨hkm⟩ := HK9
    have hFk := HFk.out
    have c0_ := HQ.out _ hFk.gr
    have ct := hFk.at hlt
    rw [HV.out] at ct
    clear hFk
    by_cases hul : k < n i
    · have hck_ : (k : Int) < (n i : Int) := by omega
      have hlen : (List.replicate k (mkB i) ++ (Ls i).drop k).length = n i := by rw [List.length_append, List.length_replicate, List.length_drop, HLs.out.2 i]; omega
      have hO2 := HFk.out.own i hlt
      rw [updN_self, HV.out] at hO2
      obtain ⟨g, eg⟩ := hO2.addr (by rw [hlen]; omega)
      subst eg
      obtain ⟨cc, ff⟩ := hO2.cells k (by rw [hlen]; exact hul)
      have HF2 := Keep.mk (HFk.out.set HSep.out hlt HV.out k (mkB i))
      rw [updN_self, fill_next (Ls i) k (mkB i) (by rw [HLs.out.2 i]; exact hul)] at HF2
      have hup : ∀ y, updN (updN Ls i (List.replicate k (mkB i) ++ (Ls i).drop k)) i y = updN Ls i y := fun y => by
        funext j
        by_cases e : j = i
        · subst e; rw [updN_self, updN_self]
        · rw [updN_ne _ _ e, updN_ne _ _ e, updN_ne _ _ e]
      rw [hup] at HF2
      generalize (List.replicate k (mkB i) ++ (Ls i).drop k).getD k 0 = z at *
      clear hO2 hlen hup
      refine wp_seq_k fun K11 hK11 => ?_
      refine wp_seq_k fun K12 hK12 => ?_
      refine wp_region_list (WL.out ?_)
      refine WL.val (by kernel_rfl) (.int .i64 (k : Int)) (by go_simp) ?_
      simp only [Act.put, List.setIfInBounds_toArray, List.set_cons_zero, List.set_cons_succ]
      refine WL.val (by kernel_rfl) (.pointer (some ⟨q, 0, none⟩)) (by go_simp) ?_
      simp only [Act.put, List.setIfInBounds_toArray, List.set_cons_zero, List.set_cons_succ]
      refine WL.val (by kernel_rfl) (.pointer (some ⟨q, 0, none⟩)) (by go_simp) ?_
      simp only [Act.put, List.setIfInBounds_toArray, List.set_cons_zero, List.set_cons_succ]
      refine WL.val (by kernel_rfl) (.pointer (some ⟨q, 0, none⟩)) (by go_simp) ?_
      simp only [Act.put, List.setIfInBounds_toArray, List.set_cons_zero, List.set_cons_succ]
      refine WL.val (by kernel_rfl) (.slice (some ⟨gl, 0, none⟩) m ca) (by go_simp) ?_
      simp only [Act.put, List.setIfInBounds_toArray, List.set_cons_zero, List.set_cons_succ]
      refine WL.val (by kernel_rfl) (.int .i64 (i : Int)) (by go_simp) ?_
      simp only [Act.put, List.setIfInBounds_toArray, List.set_cons_zero, List.set_cons_succ]
      have hx1 : ¬ m ≤ i := by omega
      have hx2 : (i : Int) < (m : Int) := by omega
      refine WL.val (by kernel_rfl) (.pointer (some ⟨gl, i, none⟩)) (by go_simp) ?_
      clear hx1 hx2
      simp only [Act.put, List.setIfInBounds_toArray, List.set_cons_zero, List.set_cons_succ]
      refine WL.val (by kernel_rfl) (.slice (some ⟨g, 0, none⟩) (n i) vc) (by go_simp) ?_
      simp only [Act.put, List.setIfInBounds_toArray, List.set_cons_zero, List.set_cons_succ]
      refine WL.val (by kernel_rfl) (.int .i64 (n i : Int)) (by go_simp) ?_
      simp only [Act.put, List.setIfInBounds_toArray, List.set_cons_zero, List.set_cons_succ]
      refine WL.val (by kernel_rfl) (.bool true) (by go_simp) ?_
      simp only [Act.put, List.setIfInBounds_toArray, List.set_cons_zero, List.set_cons_succ]
      refine WL.nil ?_
      refine hK12 _ _ ?_
      refine wp_cond_true rfl ?_
      refine wp_skip ?_
      refine hK11 _ _ ?_
      refine wp_seq_k fun K13 hK13 => ?_
      refine wp_block ?_
      refine wp_region_list (WL.out ?_)
      refine WL.val (by kernel_rfl) (.pointer (some ⟨q, 0, none⟩)) (by go_simp) ?_
      simp only [Act.put, List.setIfInBounds_toArray, List.set_cons_zero, List.set_cons_succ]
      refine WL.val (by kernel_rfl) (.pointer (some ⟨q, 0, none⟩)) (by go_simp) ?_
      simp only [Act.put, List.setIfInBounds_toArray, List.set_cons_zero, List.set_cons_succ]
      refine WL.val (by kernel_rfl) (.pointer (some ⟨q, 0, none⟩)) (by go_simp) ?_
      simp only [Act.put, List.setIfInBounds_toArray, List.set_cons_zero, List.set_cons_succ]
      refine WL.val (by kernel_rfl) (.slice (some ⟨gl, 0, none⟩) m ca) (by go_simp) ?_
      simp only [Act.put, List.setIfInBounds_toArray, List.set_cons_zero, List.set_cons_succ]
      refine WL.val (by kernel_rfl) (.int .i64 (i : Int)) (by go_simp) ?_
      simp only [Act.put, List.setIfInBounds_toArray, List.set_cons_zero, List.set_cons_succ]
      have hx1 : ¬ m ≤ i := by omega
      have hx2 : (i : Int) < (m : Int) := by omega
      refine WL.val (by kernel_rfl) (.pointer (some ⟨gl, i, none⟩)) (by go_simp) ?_
      clear hx1 hx2
      simp only [Act.put, List.setIfInBounds_toArray, List.set_cons_zero, List.set_cons_succ]
      refine WL.val (by kernel_rfl) (.slice (some ⟨g, 0, none⟩) (n i) vc) (by go_simp) ?_
      simp only [Act.put, List.setIfInBounds_toArray, List.set_cons_zero, List.set_cons_succ]
      refine WL.val (by kernel_rfl) (.int .i64 (k : Int)) (by go_simp) ?_
      simp only [Act.put, List.setIfInBounds_toArray, List.set_cons_zero, List.set_cons_succ]
      refine WL.val (by kernel_rfl) (.int .i64 (i : Int)) (by go_simp) ?_
      simp only [Act.put, List.setIfInBounds_toArray, List.set_cons_zero, List.set_cons_succ]
      obtain ⟨mk, hmk⟩ : ∃ z, Keep (z = mkB i) := ⟨_, ⟨rfl⟩⟩
      have hm1 : Int.tmod (i : Int) 251 = ((i % 251 : Nat) : Int) := by rw [Int.tmod_eq_emod_of_nonneg (by omega)]; omega
      have hw1 : IntKind.i64.wrap ((i % 251 : Nat) : Int) = ((i % 251 : Nat) : Int) := by rw [IntKind.wrap_i64]; omega
      have hw4 : IntKind.i64.wrap ((i : Int) % 251 + 1) = (i : Int) % 251 + 1 := by rw [IntKind.wrap_i64]; omega
      have hw5 : IntKind.u8.wrap ((i : Int) % 251 + 1) = mk := by rw [hmk.out]; unfold mkB; rw [IntKind.wrap_u8]; omega
      refine WL.val (by kernel_rfl) (.int .i64 ((i % 251 : Nat) : Int)) (by go_simp) ?_
      simp only [Act.put, List.setIfInBounds_toArray, List.set_cons_zero, List.set_cons_succ]
      refine WL.val (by kernel_rfl) (.int .i64 ((i : Int) % 251 + 1)) (by go_simp) ?_
      simp only [Act.put, List.setIfInBounds_toArray, List.set_cons_zero, List.set_cons_succ]
      refine WL.val (by kernel_rfl) (.int .u8 mk) (by go_simp) ?_
      clear hm1 hw1 hw4 hw5
      simp only [Act.put, List.setIfInBounds_toArray, List.set_cons_zero, List.set_cons_succ]
      have hx1 : ¬ n i ≤ k := by omega
      refine WL.val (by kernel_rfl) (.pointer (some ⟨g, k, none⟩)) (by go_simp) ?_
      clear hx1
      simp only [Act.put, List.setIfInBounds_toArray, List.set_cons_zero, List.set_cons_succ]
      refine WL.cell (by kernel_rfl) (wi.setCell ⟨g, k, none⟩ (.int .u8 mk)) (by go_simp) ?_
      rw [← hmk.out] at HF2
      clear cc ff c0_ ct
      have HF3 : Keep (Fil w gl m V (updN Ls i (List.replicate (k + 1) (mkB i) ++ (Ls i).drop (k + 1))) (wi.setCell ⟨g, k, none⟩ (.int .u8 mk))) := ⟨by have h := HF2.out; rwa [hmk.out] at h ⊢⟩
      clear HF2
      simp only [Act.put]
      refine WL.nil ?_
      refine hK13 _ _ ?_
      refine wp_region_list (WL.out ?_)
      refine WL.val (by kernel_rfl) (.int .i64 (k : Int)) (by go_simp) ?_
      simp only [Act.put, List.setIfInBounds_toArray, List.set_cons_zero, List.set_cons_succ]
      have hw6 : IntKind.i64.wrap ((k : Int) + 1) = ((k + 1 : Nat) : Int) := by rw [IntKind.wrap_i64]; omega
      refine WL.val (by kernel_rfl) (.int .i64 ((k + 1 : Nat) : Int)) (by go_simp) ?_
      clear hw6
      simp only [Act.put, List.setIfInBounds_toArray, List.set_cons_zero, List.set_cons_succ]
      refine WL.val (by kernel_rfl) (.int .i64 ((k + 1 : Nat) : Int)) (by go_simp) ?_
      simp only [Act.put, List.setIfInBounds_toArray, List.set_cons_zero, List.set_cons_succ]
      refine WL.nil ?_
      refine ⟨⟨k + 1, fun zz => [.pointer (some ⟨q, 0, none⟩), undef, .bool false, .bool true, .int .i64 (i : Int), .int .i64 ((k + 1 : Nat) : Int), undef, undef, undef, undef, undef, undef, undef, .pointer (some ⟨q, 0, none⟩), .bool true, .bool true, .bool false, .int .i64 (i : Int), .pointer (some ⟨q, 0, none⟩), .pointer (some ⟨q, 0, none⟩), .pointer (some ⟨q, 0, none⟩), .slice (some ⟨gl, 0, none⟩) m ca, .int .i64 (m : Int), .bool true, fx 24, fx 25, .int .i64 (k : Int), .pointer (some ⟨q, 0, none⟩), .pointer (some ⟨q, 0, none⟩), .pointer (some ⟨q, 0, none⟩), .slice (some ⟨gl, 0, none⟩) m ca, .int .i64 (i : Int), .pointer (some ⟨gl, i, none⟩), .slice (some ⟨g, 0, none⟩) (n i) vc, .int .i64 (n i : Int), .bool true, .int .i64 (k : Int), .int .i64 ((k + 1 : Nat) : Int), .pointer (some ⟨q, 0, none⟩), .pointer (some ⟨q, 0, none⟩), .pointer (some ⟨q, 0, none⟩), .slice (some ⟨gl, 0, none⟩) m ca, .int .i64 (i : Int), .pointer (some ⟨gl, i, none⟩), .slice (some ⟨g, 0, none⟩) (n i) vc, .int .i64 (k : Int), .int .i64 (i : Int), .int .i64 ((i % 251 : Nat) : Int), .int .i64 ((i : Int) % 251 + 1), .int .u8 mk, .pointer (some ⟨g, k, none⟩), undef, undef, undef, undef, undef, undef, undef, undef, undef, undef, undef, undef, undef, undef, undef, undef, undef, undef, undef, undef, undef, undef, undef, undef, undef, undef, undef, undef, undef, undef, undef, undef, undef, undef, undef, undef, undef, undef, undef, undef, undef, undef, undef, undef, undef, undef, undef, undef, undef, undef, undef, undef, undef, undef, undef, undef, undef, undef, undef, undef, undef, undef].getD zz undef, rfl, ⟨by omega⟩, HF3⟩, ?_⟩
      simp only [intOf]
      show n i - (((k + 1 : Nat) : Int)).toNat < n i - ((k : Int)).toNat
      omega
    · have hck_ : ¬ (k : Int) < (n i : Int) := by omega
      have hkn : k = n i := by omega
      have HF4 : Keep (Fil w gl m V (updN Ls i (List.replicate (n i) (mkB i) ++ (Ls i).drop (n i))) wi) := ⟨by have h := HFk.out; rwa [hkn] at h⟩
      clear hkn
      refine wp_seq_k fun K14 hK14 => ?_
      refine wp_seq_k fun K15 hK15 => ?_
      refine wp_region_list (WL.out ?_)
      refine WL.val (by kernel_rfl) (.int .i64 (k : Int)) (by go_simp) ?_
      simp only [Act.put, List.setIfInBounds_toArray, List.set_cons_zero, List.set_cons_succ]
      refine WL.val (by kernel_rfl) (.pointer (some ⟨q, 0, none⟩)) (by go_simp) ?_
      simp only [Act.put, List.setIfInBounds_toArray, List.set_cons_zero, List.set_cons_succ]
      refine WL.val (by kernel_rfl) (.pointer (some ⟨q, 0, none⟩)) (by go_simp) ?_
      simp only [Act.put, List.setIfInBounds_toArray, List.set_cons_zero, List.set_cons_succ]
      refine WL.val (by kernel_rfl) (.pointer (some ⟨q, 0, none⟩)) (by go_simp) ?_
      simp only [Act.put, List.setIfInBounds_toArray, List.set_cons_zero, List.set_cons_succ]
      refine WL.val (by kernel_rfl) (.slice (some ⟨gl, 0, none⟩) m ca) (by go_simp) ?_
      simp only [Act.put, List.setIfInBounds_toArray, List.set_cons_zero, List.set_cons_succ]
      refine WL.val (by kernel_rfl) (.int .i64 (i : Int)) (by go_simp) ?_
      simp only [Act.put, List.setIfInBounds_toArray, List.set_cons_zero, List.set_cons_succ]
      have hx1 : ¬ m ≤ i := by omega
      have hx2 : (i : Int) < (m : Int) := by omega
      refine WL.val (by kernel_rfl) (.pointer (some ⟨gl, i, none⟩)) (by go_simp) ?_
      clear hx1 hx2
      simp only [Act.put, List.setIfInBounds_toArray, List.set_cons_zero, List.set_cons_succ]
      refine WL.val (by kernel_rfl) (.slice va (n i) vc) (by go_simp) ?_
      simp only [Act.put, List.setIfInBounds_toArray, List.set_cons_zero, List.set_cons_succ]
      refine WL.val (by kernel_rfl) (.int .i64 (n i : Int)) (by go_simp) ?_
      simp only [Act.put, List.setIfInBounds_toArray, List.set_cons_zero, List.set_cons_succ]
      refine WL.val (by kernel_rfl) (.bool false) (by go_simp) ?_
      simp only [Act.put, List.setIfInBounds_toArray, List.set_cons_zero, List.set_cons_succ]
      refine WL.nil ?_
      refine hK15 _ _ ?_
      refine wp_cond_false rfl ?_
      refine wp_exit ?_
      refine hK9 _ _ ?_
      refine wp_region_list (WL.out ?_)
      refine WL.val (by kernel_rfl) (.int .i64 (i : Int)) (by go_simp) ?_
      simp only [Act.put, List.setIfInBounds_toArray, List.set_cons_zero, List.set_cons_succ]
      have hw6 : IntKind.i64.wrap ((i : Int) + 1) = ((i + 1 : Nat) : Int) := by rw [IntKind.wrap_i64]; omega
      refine WL.val (by kernel_rfl) (.int .i64 ((i + 1 : Nat) : Int)) (by go_simp) ?_
      clear hw6
      simp only [Act.put, List.setIfInBounds_toArray, List.set_cons_zero, List.set_cons_succ]
      refine WL.val (by kernel_rfl) (.int .i64 ((i + 1 : Nat) : Int)) (by go_simp) ?_
      simp only [Act.put, List.setIfInBounds_toArray, List.set_cons_zero, List.set_cons_succ]
      refine WL.nil ?_
      refine ⟨⟨i + 1, fun zz => [.pointer (some ⟨q, 0, none⟩), undef, .bool false, .bool true, .int .i64 ((i + 1 : Nat) : Int), .int .i64 (k : Int), undef, undef, undef, undef, undef, undef, undef, .pointer (some ⟨q, 0, none⟩), .bool true, .bool true, .bool false, .int .i64 (i : Int), .pointer (some ⟨q, 0, none⟩), .pointer (some ⟨q, 0, none⟩), .pointer (some ⟨q, 0, none⟩), .slice (some ⟨gl, 0, none⟩) m ca, .int .i64 (m : Int), .bool true, .int .i64 (i : Int), .int .i64 ((i + 1 : Nat) : Int), .int .i64 (k : Int), .pointer (some ⟨q, 0, none⟩), .pointer (some ⟨q, 0, none⟩), .pointer (some ⟨q, 0, none⟩), .slice (some ⟨gl, 0, none⟩) m ca, .int .i64 (i : Int), .pointer (some ⟨gl, i, none⟩), .slice va (n i) vc, .int .i64 (n i : Int), .bool false, fy 36, fy 37, fy 38, fy 39, fy 40, fy 41, fy 42, fy 43, fy 44, fy 45, fy 46, fy 47, fy 48, fy 49, fy 50, undef, undef, undef, undef, undef, undef, undef, undef, undef, undef, undef, undef, undef, undef, undef, undef, undef, undef, undef, undef, undef, undef, undef, undef, undef, undef, undef, undef, undef, undef, undef, undef, undef, undef, undef, undef, undef, undef, undef, undef, undef, undef, undef, undef, undef, undef, undef, undef, undef, undef, undef, undef, undef, undef, undef, undef, undef, undef, undef, undef, undef, undef].getD zz undef, _, rfl, ⟨by omega⟩, ⟨fun j hj => ?_, fun j => ?_⟩, HF4⟩, ?_⟩
      · by_cases e : j = i
        · subst e; rw [updN_self, List.drop_of_length_le (by rw [HLs.out.2 j]; exact Nat.le_refl _), List.append_nil]
        · rw [updN_ne _ _ e]; exact HLs.out.1 j (by omega)
      · by_cases e : j = i
        · subst e; rw [updN_self, List.length_append, List.length_replicate, List.length_drop, HLs.out.2 j]; omega
        · rw [updN_ne _ _ e]; exact HLs.out.2 j
      · simp only [intOf]
        show m - (((i + 1 : Nat) : Int)).toNat < m - ((i : Int)).toNat
        omega
  · have hci_ : ¬ (i : Int) < (m : Int) := by omega
    have him2 : i = m := by omega
    have hLng := Fil.lng (w0 := w) (gl := gl) (m := m) (V := V) (n := n) (w := wr) ⟨HF.out.tab, fun j hj => by have h := HF.out.own j hj; rwa [HLs.out.1 j (by omega)] at h, HF.out.gr⟩ HGl.out HF.out.gr.size
    clear him2
    refine wp_seq_k fun K16 hK16 => ?_
    refine wp_seq_k fun K17 hK17 => ?_
    refine wp_region_list (WL.out ?_)
    refine WL.val (by kernel_rfl) (.int .i64 (i : Int)) (by go_simp) ?_
    simp only [Act.put, List.setIfInBounds_toArray, List.set_cons_zero, List.set_cons_succ]
    refine WL.val (by kernel_rfl) (.pointer (some ⟨q, 0, none⟩)) (by go_simp) ?_
    simp only [Act.put, List.setIfInBounds_toArray, List.set_cons_zero, List.set_cons_succ]
    refine WL.val (by kernel_rfl) (.pointer (some ⟨q, 0, none⟩)) (by go_simp) ?_
    simp only [Act.put, List.setIfInBounds_toArray, List.set_cons_zero, List.set_cons_succ]
    refine WL.val (by kernel_rfl) (.pointer (some ⟨q, 0, none⟩)) (by go_simp) ?_
    simp only [Act.put, List.setIfInBounds_toArray, List.set_cons_zero, List.set_cons_succ]
    refine WL.val (by kernel_rfl) (.slice (some ⟨gl, 0, none⟩) m ca) (by go_simp) ?_
    simp only [Act.put, List.setIfInBounds_toArray, List.set_cons_zero, List.set_cons_succ]
    refine WL.val (by kernel_rfl) (.int .i64 (m : Int)) (by go_simp) ?_
    simp only [Act.put, List.setIfInBounds_toArray, List.set_cons_zero, List.set_cons_succ]
    refine WL.val (by kernel_rfl) (.bool false) (by go_simp) ?_
    simp only [Act.put, List.setIfInBounds_toArray, List.set_cons_zero, List.set_cons_succ]
    refine WL.nil ?_
    refine hK17 _ _ ?_
    refine wp_cond_false rfl ?_
    refine wp_exit ?_
    refine hK5 _ _ ?_
    refine wp_seq_k fun K18 hK18 => ?_
    refine wp_region_list (WL.out ?_)
    refine WL.bs (by kernel_rfl) 36 0 #[] rfl #[] (by simp) _ _ (bsRw0 wr) ?_
    clear c0_
    have HLg0 := Keep.mk hLng
    clear hLng
    generalize wr.alloc (.cells #[] 39) = w5 at *
    generalize wr.heap.size = g5 at *
    simp only [Act.put, List.setIfInBounds_toArray, List.set_cons_zero, List.set_cons_succ]
    refine WL.val (by kernel_rfl) (.slice (some ⟨g5, 0, none⟩) 0 0) (by go_simp) ?_
    simp only [Act.put, List.setIfInBounds_toArray, List.set_cons_zero, List.set_cons_succ]
    refine WL.nil ?_
    refine hK18 _ _ ?_
    refine wp_seq_k fun K19 hK19 => ?_
    refine wp_seq_k fun K20 hK20 => ?_
    refine wp_region_list (WL.out ?_)
    refine WL.val (by kernel_rfl) (.int .i64 0) (by go_simp) ?_
    simp only [Act.put, List.setIfInBounds_toArray, List.set_cons_zero, List.set_cons_succ]
    refine WL.nil ?_
    refine hK20 _ _ ?_
    refine wp_block ?_
    refine wp_loop (fun ac wq => ∃ (u : Nat) (fv : Nat → Value) (lo : Value) (X : Nat → Value) (Fk : Nat → Prop), ac = { tmps := #[.pointer (some ⟨q, 0, none⟩), undef, .bool false, .bool true, .int .i64 (i : Int), fx 5, lo, .int .i64 (u : Int), fv 8, fv 9, undef, undef, undef, .pointer (some ⟨q, 0, none⟩), .bool true, .bool true, .bool false, .int .i64 (i : Int), .pointer (some ⟨q, 0, none⟩), .pointer (some ⟨q, 0, none⟩), .pointer (some ⟨q, 0, none⟩), .slice (some ⟨gl, 0, none⟩) m ca, .int .i64 (m : Int), .bool false, fx 24, fx 25, fx 26, fx 27, fx 28, fx 29, fx 30, fx 31, fx 32, fx 33, fx 34, fx 35, fx 36, fx 37, fx 38, fx 39, fx 40, fx 41, fx 42, fx 43, fx 44, fx 45, fx 46, fx 47, fx 48, fx 49, fx 50, .slice (some ⟨g5, 0, none⟩) 0 0, fv 52, fv 53, fv 54, fv 55, fv 56, fv 57, fv 58, fv 59, fv 60, fv 61, fv 62, fv 63, fv 64, fv 65, fv 66, fv 67, fv 68, fv 69, fv 70, fv 71, fv 72, fv 73, fv 74, fv 75, fv 76, fv 77, fv 78, fv 79, fv 80, fv 81, fv 82, undef, undef, undef, undef, undef, undef, undef, undef, undef, undef, undef, undef, undef, undef, undef, undef, undef, undef, undef, undef, undef, undef, undef, undef, undef, undef, undef, undef, undef, undef], defers := [] } ∧ Keep (u ≤ m) ∧ Keep (Lng w gl m V n u lo X Fk wq)) (fun a _ => m - (intOf (a.tmps.getD 7 undef)).toNat) ⟨0, fun zz => [.pointer (some ⟨q, 0, none⟩), undef, .bool false, .bool true, .int .i64 (i : Int), fx 5, .slice (some ⟨g5, 0, none⟩) 0 0, .int .i64 0, undef, undef, undef, undef, undef, .pointer (some ⟨q, 0, none⟩), .bool true, .bool true, .bool false, .int .i64 (i : Int), .pointer (some ⟨q, 0, none⟩), .pointer (some ⟨q, 0, none⟩), .pointer (some ⟨q, 0, none⟩), .slice (some ⟨gl, 0, none⟩) m ca, .int .i64 (m : Int), .bool false, fx 24, fx 25, fx 26, fx 27, fx 28, fx 29, fx 30, fx 31, fx 32, fx 33, fx 34, fx 35, fx 36, fx 37, fx 38, fx 39, fx 40, fx 41, fx 42, fx 43, fx 44, fx 45, fx 46, fx 47, fx 48, fx 49, fx 50, .slice (some ⟨g5, 0, none⟩) 0 0, undef, undef, undef, undef, undef, undef, undef, undef, undef, undef, undef, undef, undef, undef, undef, undef, undef, undef, undef, undef, undef, undef, undef, undef, undef, undef, undef, undef, undef, undef, undef, undef, undef, undef, undef, undef, undef, undef, undef, undef, undef, undef, undef, undef, undef, undef, undef, undef, undef, undef, undef, undef, undef, undef, undef, undef, undef, undef, undef, undef, undef].getD zz undef, _, _, _, rfl, ⟨by omega⟩, HLg0⟩ ?_
    rintro ac wq ⟨u, fv, lo, X, Fk, rfl, HU, HLg⟩
    obtain ⟨hum⟩ := HU
    have hL0 := HLg.out
    have c0_ := HQ.out _ hL0.gr
    obtain ⟨oa, oc, ho9⟩ := hL0.lg.sl
    rw [List.length_map, List.length_range] at ho9
    clear hL0
    subst ho9
    by_cases hul : u < m
    · have hcu_ : (u : Int) < (m : Int) := by omega
      have ct := HLg.out.at hul
      have hO := HLg.out.own u (Nat.le_refl _) hul
      obtain ⟨va, vc, hv⟩ := hO.slN
      rw [List.length_replicate] at hv
      have HV := Keep.mk hv
      have HOu := Keep.mk hO
      have HNu := HN.out u hul
      rw [hv] at ct
      have HG0 : Keep (G2 wq (V u) (.slice va (n u) vc) (n u) 0 (mkB u) wq) := ⟨⟨by rw [← hv]; exact hO, hO.row, fun k hk => hO.typ hk, .inl (by rw [hv]), Grown.refl _ _⟩⟩
      clear hO hv
      refine wp_seq_k fun K21 hK21 => ?_
      refine wp_seq_k fun K22 hK22 => ?_
      refine wp_region_list (WL.out ?_)
      refine WL.val (by kernel_rfl) (.int .i64 (u : Int)) (by go_simp) ?_
      simp only [Act.put, List.setIfInBounds_toArray, List.set_cons_zero, List.set_cons_succ]
      refine WL.val (by kernel_rfl) (.pointer (some ⟨q, 0, none⟩)) (by go_simp) ?_
      simp only [Act.put, List.setIfInBounds_toArray, List.set_cons_zero, List.set_cons_succ]
      refine WL.val (by kernel_rfl) (.pointer (some ⟨q, 0, none⟩)) (by go_simp) ?_
      simp only [Act.put, List.setIfInBounds_toArray, List.set_cons_zero, List.set_cons_succ]
      refine WL.val (by kernel_rfl) (.pointer (some ⟨q, 0, none⟩)) (by go_simp) ?_
      simp only [Act.put, List.setIfInBounds_toArray, List.set_cons_zero, List.set_cons_succ]
      refine WL.val (by kernel_rfl) (.slice (some ⟨gl, 0, none⟩) m ca) (by go_simp) ?_
      simp only [Act.put, List.setIfInBounds_toArray, List.set_cons_zero, List.set_cons_succ]
      refine WL.val (by kernel_rfl) (.int .i64 (m : Int)) (by go_simp) ?_
      simp only [Act.put, List.setIfInBounds_toArray, List.set_cons_zero, List.set_cons_succ]
      refine WL.val (by kernel_rfl) (.bool true) (by go_simp) ?_
      simp only [Act.put, List.setIfInBounds_toArray, List.set_cons_zero, List.set_cons_succ]
      refine WL.nil ?_
      refine hK22 _ _ ?_
      refine wp_cond_true rfl ?_
      refine wp_skip ?_
      refine hK21 _ _ ?_
      refine wp_seq_k fun K23 hK23 => ?_
      refine wp_block ?_
      refine wp_seq_k fun K24 hK24 => ?_
      refine wp_region_list (WL.out ?_)
      refine WL.val (by kernel_rfl) (.pointer (some ⟨q, 0, none⟩)) (by go_simp) ?_
      simp only [Act.put, List.setIfInBounds_toArray, List.set_cons_zero, List.set_cons_succ]
      refine WL.val (by kernel_rfl) (.pointer (some ⟨q, 0, none⟩)) (by go_simp) ?_
      simp only [Act.put, List.setIfInBounds_toArray, List.set_cons_zero, List.set_cons_succ]
      refine WL.val (by kernel_rfl) (.pointer (some ⟨q, 0, none⟩)) (by go_simp) ?_
      simp only [Act.put, List.setIfInBounds_toArray, List.set_cons_zero, List.set_cons_succ]
      refine WL.val (by kernel_rfl) (.slice (some ⟨gl, 0, none⟩) m ca) (by go_simp) ?_
      simp only [Act.put, List.setIfInBounds_toArray, List.set_cons_zero, List.set_cons_succ]
      refine WL.val (by kernel_rfl) (.int .i64 (u : Int)) (by go_simp) ?_
      simp only [Act.put, List.setIfInBounds_toArray, List.set_cons_zero, List.set_cons_succ]
      have hx1 : ¬ m ≤ u := by omega
      have hx2 : (u : Int) < (m : Int) := by omega
      refine WL.val (by kernel_rfl) (.pointer (some ⟨gl, u, none⟩)) (by go_simp) ?_
      clear hx1 hx2
      simp only [Act.put, List.setIfInBounds_toArray, List.set_cons_zero, List.set_cons_succ]
      refine WL.val (by kernel_rfl) (.slice va (n u) vc) (by go_simp) ?_
      simp only [Act.put, List.setIfInBounds_toArray, List.set_cons_zero, List.set_cons_succ]
      refine WL.val (by kernel_rfl) (.slice va (n u) vc) (by go_simp) ?_
      simp only [Act.put, List.setIfInBounds_toArray, List.set_cons_zero, List.set_cons_succ]
      refine WL.nil ?_
      refine hK24 _ _ ?_
      refine wp_seq_k fun K25 hK25 => ?_
      refine wp_seq_k fun K26 hK26 => ?_
      refine wp_region_list (WL.out ?_)
      refine WL.val (by kernel_rfl) (.int .i64 0) (by go_simp) ?_
      simp only [Act.put, List.setIfInBounds_toArray, List.set_cons_zero, List.set_cons_succ]
      refine WL.nil ?_
      refine hK26 _ _ ?_
      refine wp_block ?_
      refine wp_loop (fun ac wi => ∃ (y : Nat) (fw : Nat → Value) (xv : Value), ac = { tmps := #[.pointer (some ⟨q, 0, none⟩), undef, .bool false, .bool true, .int .i64 (i : Int), fx 5, .slice oa u oc, .int .i64 (u : Int), xv, .int .i64 (y : Int), undef, undef, undef, .pointer (some ⟨q, 0, none⟩), .bool true, .bool true, .bool false, .int .i64 (i : Int), .pointer (some ⟨q, 0, none⟩), .pointer (some ⟨q, 0, none⟩), .pointer (some ⟨q, 0, none⟩), .slice (some ⟨gl, 0, none⟩) m ca, .int .i64 (m : Int), .bool false, fx 24, fx 25, fx 26, fx 27, fx 28, fx 29, fx 30, fx 31, fx 32, fx 33, fx 34, fx 35, fx 36, fx 37, fx 38, fx 39, fx 40, fx 41, fx 42, fx 43, fx 44, fx 45, fx 46, fx 47, fx 48, fx 49, fx 50, .slice (some ⟨g5, 0, none⟩) 0 0, .int .i64 (u : Int), .pointer (some ⟨q, 0, none⟩), .pointer (some ⟨q, 0, none⟩), .pointer (some ⟨q, 0, none⟩), .slice (some ⟨gl, 0, none⟩) m ca, .int .i64 (m : Int), .bool true, fv 59, fv 60, .pointer (some ⟨q, 0, none⟩), .pointer (some ⟨q, 0, none⟩), .pointer (some ⟨q, 0, none⟩), .slice (some ⟨gl, 0, none⟩) m ca, .int .i64 (u : Int), .pointer (some ⟨gl, u, none⟩), .slice va (n u) vc, fw 68, fw 69, fw 70, fw 71, fw 72, fw 73, fw 74, fw 75, fw 76, fw 77, fw 78, fv 79, fv 80, fv 81, fv 82, undef, undef, undef, undef, undef, undef, undef, undef, undef, undef, undef, undef, undef, undef, undef, undef, undef, undef, undef, undef, undef, undef, undef, undef, undef, undef, undef, undef, undef, undef], defers := [] } ∧ Keep (y ≤ 40) ∧ Keep (G2 wq (V u) xv (n u) y (mkB u) wi)) (fun a _ => 40 - (intOf (a.tmps.getD 9 undef)).toNat) ⟨0, fun zz => [.pointer (some ⟨q, 0, none⟩), undef, .bool false, .bool true, .int .i64 (i : Int), fx 5, .slice oa u oc, .int .i64 (u : Int), .slice va (n u) vc, .int .i64 0, undef, undef, undef, .pointer (some ⟨q, 0, none⟩), .bool true, .bool true, .bool false, .int .i64 (i : Int), .pointer (some ⟨q, 0, none⟩), .pointer (some ⟨q, 0, none⟩), .pointer (some ⟨q, 0, none⟩), .slice (some ⟨gl, 0, none⟩) m ca, .int .i64 (m : Int), .bool false, fx 24, fx 25, fx 26, fx 27, fx 28, fx 29, fx 30, fx 31, fx 32, fx 33, fx 34, fx 35, fx 36, fx 37, fx 38, fx 39, fx 40, fx 41, fx 42, fx 43, fx 44, fx 45, fx 46, fx 47, fx 48, fx 49, fx 50, .slice (some ⟨g5, 0, none⟩) 0 0, .int .i64 (u : Int), .pointer (some ⟨q, 0, none⟩), .pointer (some ⟨q, 0, none⟩), .pointer (some ⟨q, 0, none⟩), .slice (some ⟨gl, 0, none⟩) m ca, .int .i64 (m : Int), .bool true, fv 59, fv 60, .pointer (some ⟨q, 0, none⟩), .pointer (some ⟨q, 0, none⟩), .pointer (some ⟨q, 0, none⟩), .slice (some ⟨gl, 0, none⟩) m ca, .int .i64 (u : Int), .pointer (some ⟨gl, u, none⟩), .slice va (n u) vc, fv 68, fv 69, fv 70, fv 71, fv 72, fv 73, fv 74, fv 75, fv 76, fv 77, fv 78, fv 79, fv 80, fv 81, fv 82, undef, undef, undef, undef, undef, undef, undef, undef, undef, undef, undef, undef, undef, undef, undef, undef, undef, undef, undef, undef, undef, undef, undef, undef, undef, undef, undef, undef, undef, undef].getD zz undef, _, rfl, ⟨by omega⟩, HG0⟩ ?_
      rintro ac wi ⟨y, fw, xv, rfl, HY, HG⟩
      obtain ⟨hym⟩ := HY
      obtain ⟨xa, xn, xc, hx9⟩ := HG.out.own.sl
      subst hx9
      by_cases hyl : y < 40
      · have hcy_ : (y : Int) < 40 := by omega
        refine wp_seq_k fun K27 hK27 => ?_
        refine wp_seq_k fun K28 hK28 => ?_
        refine wp_region_list (WL.out ?_)
        refine WL.val (by kernel_rfl) (.int .i64 (y : Int)) (by go_simp) ?_
        simp only [Act.put, List.setIfInBounds_toArray, List.set_cons_zero, List.set_cons_succ]
        refine WL.val (by kernel_rfl) (.bool true) (by go_simp) ?_
        simp only [Act.put, List.setIfInBounds_toArray, List.set_cons_zero, List.set_cons_succ]
        refine WL.nil ?_
        refine hK28 _ _ ?_
        refine wp_cond_true rfl ?_
        refine wp_skip ?_
        refine hK27 _ _ ?_
        refine wp_seq_k fun K29 hK29 => ?_
        refine wp_block ?_
        refine wp_region_list (WL.out ?_)
        refine WL.val (by kernel_rfl) (.slice xa xn xc) (by go_simp) ?_
        simp only [Act.put, List.setIfInBounds_toArray, List.set_cons_zero, List.set_cons_succ]
        refine WL.val (by kernel_rfl) (.int .i64 (u : Int)) (by go_simp) ?_
        simp only [Act.put, List.setIfInBounds_toArray, List.set_cons_zero, List.set_cons_succ]
        obtain ⟨mk, hmk⟩ : ∃ z, Keep (z = mkB u) := ⟨_, ⟨rfl⟩⟩
        have hm1 : Int.tmod (u : Int) 251 = ((u % 251 : Nat) : Int) := by rw [Int.tmod_eq_emod_of_nonneg (by omega)]; omega
        have hw1 : IntKind.i64.wrap ((u % 251 : Nat) : Int) = ((u % 251 : Nat) : Int) := by rw [IntKind.wrap_i64]; omega
        have hw4 : IntKind.i64.wrap ((u : Int) % 251 + 1) = (u : Int) % 251 + 1 := by rw [IntKind.wrap_i64]; omega
        have hw5 : IntKind.u8.wrap ((u : Int) % 251 + 1) = mk := by rw [hmk.out]; unfold mkB; rw [IntKind.wrap_u8]; omega
        refine WL.val (by kernel_rfl) (.int .i64 ((u % 251 : Nat) : Int)) (by go_simp) ?_
        simp only [Act.put, List.setIfInBounds_toArray, List.set_cons_zero, List.set_cons_succ]
        refine WL.val (by kernel_rfl) (.int .i64 ((u : Int) % 251 + 1)) (by go_simp) ?_
        simp only [Act.put, List.setIfInBounds_toArray, List.set_cons_zero, List.set_cons_succ]
        refine WL.val (by kernel_rfl) (.int .u8 mk) (by go_simp) ?_
        clear hm1 hw1 hw4 hw5
        simp only [Act.put, List.setIfInBounds_toArray, List.set_cons_zero, List.set_cons_succ]
        refine WL.bs (by kernel_rfl) 39 1 #[(0, .tmp 76)] rfl #[(0, .int .u8 mk)] (by simp [Act.eval]) _ _ (bsB1 mk wi) ?_
        have HO1 := Keep.mk (HG.out.own.box (.cells #[.int .u8 mk] 5))
        have HC1 : Keep ((wi.alloc (.cells #[.int .u8 mk] 5)).cell? ⟨wi.heap.size, 0, none⟩ = some (.int .u8 mk)) := ⟨(Blk.new wi 5 #[.int .u8 mk]).c 0 rfl⟩
        simp only [Act.put, List.setIfInBounds_toArray, List.set_cons_zero, List.set_cons_succ]
        refine WL.appT (by kernel_rfl) (.tmp 72) (.tmp 77) rfl (.slice xa xn xc) (List.replicate (n u + y) (mkB u)) wi.heap.size mk rfl rfl HO1.out HC1.out (by rw [List.length_replicate]; omega) ?_
        intro v' w' hp
        rw [hmk.out] at hp
        have HG2 := Keep.mk (HG.out.next HV.out HOu.out _ hp)
        clear hp HO1 HC1
        simp only [Act.put, List.setIfInBounds_toArray, List.set_cons_zero, List.set_cons_succ]
        refine WL.val (by kernel_rfl) (v') (by go_simp) ?_
        simp only [Act.put, List.setIfInBounds_toArray, List.set_cons_zero, List.set_cons_succ]
        refine WL.nil ?_
        refine hK29 _ _ ?_
        refine wp_region_list (WL.out ?_)
        refine WL.val (by kernel_rfl) (.int .i64 (y : Int)) (by go_simp) ?_
        simp only [Act.put, List.setIfInBounds_toArray, List.set_cons_zero, List.set_cons_succ]
        have hw6 : IntKind.i64.wrap ((y : Int) + 1) = ((y + 1 : Nat) : Int) := by rw [IntKind.wrap_i64]; omega
        refine WL.val (by kernel_rfl) (.int .i64 ((y + 1 : Nat) : Int)) (by go_simp) ?_
        clear hw6
        simp only [Act.put, List.setIfInBounds_toArray, List.set_cons_zero, List.set_cons_succ]
        refine WL.val (by kernel_rfl) (.int .i64 ((y + 1 : Nat) : Int)) (by go_simp) ?_
        simp only [Act.put, List.setIfInBounds_toArray, List.set_cons_zero, List.set_cons_succ]
        refine WL.nil ?_
        refine ⟨⟨y + 1, fun zz => [.pointer (some ⟨q, 0, none⟩), undef, .bool false, .bool true, .int .i64 (i : Int), fx 5, .slice oa u oc, .int .i64 (u : Int), v', .int .i64 ((y + 1 : Nat) : Int), undef, undef, undef, .pointer (some ⟨q, 0, none⟩), .bool true, .bool true, .bool false, .int .i64 (i : Int), .pointer (some ⟨q, 0, none⟩), .pointer (some ⟨q, 0, none⟩), .pointer (some ⟨q, 0, none⟩), .slice (some ⟨gl, 0, none⟩) m ca, .int .i64 (m : Int), .bool false, fx 24, fx 25, fx 26, fx 27, fx 28, fx 29, fx 30, fx 31, fx 32, fx 33, fx 34, fx 35, fx 36, fx 37, fx 38, fx 39, fx 40, fx 41, fx 42, fx 43, fx 44, fx 45, fx 46, fx 47, fx 48, fx 49, fx 50, .slice (some ⟨g5, 0, none⟩) 0 0, .int .i64 (u : Int), .pointer (some ⟨q, 0, none⟩), .pointer (some ⟨q, 0, none⟩), .pointer (some ⟨q, 0, none⟩), .slice (some ⟨gl, 0, none⟩) m ca, .int .i64 (m : Int), .bool true, fv 59, fv 60, .pointer (some ⟨q, 0, none⟩), .pointer (some ⟨q, 0, none⟩), .pointer (some ⟨q, 0, none⟩), .slice (some ⟨gl, 0, none⟩) m ca, .int .i64 (u : Int), .pointer (some ⟨gl, u, none⟩), .slice va (n u) vc, .int .i64 (y : Int), .bool true, .int .i64 (y : Int), .int .i64 ((y + 1 : Nat) : Int), .slice xa xn xc, .int .i64 (u : Int), .int .i64 ((u % 251 : Nat) : Int), .int .i64 ((u : Int) % 251 + 1), .int .u8 mk, .slice (some ⟨wi.heap.size, 0, none⟩) 1 1, v', fv 79, fv 80, fv 81, fv 82, undef, undef, undef, undef, undef, undef, undef, undef, undef, undef, undef, undef, undef, undef, undef, undef, undef, undef, undef, undef, undef, undef, undef, undef, undef, undef, undef, undef, undef, undef].getD zz undef, v', rfl, ⟨by omega⟩, HG2⟩, ?_⟩
        simp only [intOf]
        show 40 - (((y + 1 : Nat) : Int)).toNat < 40 - ((y : Int)).toNat
        omega
      · have hcy_ : ¬ (y : Int) < 40 := by omega
        have HG4 : Keep (G2 wq (V u) (.slice xa xn xc) (n u) 40 (mkB u) wi) := ⟨by have h := HG.out; rwa [show y = 40 by omega] at h⟩
        refine wp_seq_k fun K30 hK30 => ?_
        refine wp_seq_k fun K31 hK31 => ?_
        refine wp_region_list (WL.out ?_)
        refine WL.val (by kernel_rfl) (.int .i64 (y : Int)) (by go_simp) ?_
        simp only [Act.put, List.setIfInBounds_toArray, List.set_cons_zero, List.set_cons_succ]
        refine WL.val (by kernel_rfl) (.bool false) (by go_simp) ?_
        simp only [Act.put, List.setIfInBounds_toArray, List.set_cons_zero, List.set_cons_succ]
        refine WL.nil ?_
        refine hK31 _ _ ?_
        refine wp_cond_false rfl ?_
        refine wp_exit ?_
        refine hK25 _ _ ?_
        refine wp_region_list (WL.out ?_)
        refine WL.val (by kernel_rfl) (.slice oa u oc) (by go_simp) ?_
        simp only [Act.put, List.setIfInBounds_toArray, List.set_cons_zero, List.set_cons_succ]
        refine WL.val (by kernel_rfl) (.slice xa xn xc) (by go_simp) ?_
        simp only [Act.put, List.setIfInBounds_toArray, List.set_cons_zero, List.set_cons_succ]
        refine WL.bs (by kernel_rfl) 36 1 #[(0, .tmp 80)] rfl #[(0, .slice xa xn xc)] (by simp [Act.eval]) _ _ (bsRw1 xa xn xc wi) ?_
        have hgx : Grown wq (wi.alloc (.cells #[.slice xa xn xc] 39)) fun k => (V u).ownBlock = some k := HG4.out.gr.trans (Grown.alloc wi _ _)
        have HLo := Keep.mk (owns_grown HLg.out.lg hgx fun k hk e => absurd ((HLg.out.lg.typ hk).one (HOu.out.typ e)) (by decide))
        have HCx : Keep ((wi.alloc (.cells #[.slice xa xn xc] 39)).cell? ⟨wi.heap.size, 0, none⟩ = some (.slice xa xn xc)) := ⟨(Blk.new wi 39 #[.slice xa xn xc]).c 0 rfl⟩
        clear hgx
        simp only [Act.put, List.setIfInBounds_toArray, List.set_cons_zero, List.set_cons_succ]
        refine WL.appRw (by kernel_rfl) (.tmp 79) (.tmp 81) rfl (.slice oa u oc) 0 u ((List.range u).map X) wi.heap.size xa xn xc rfl rfl (by have h := HLo.out; unfold OwnV at h; rwa [List.length_map, List.length_range] at h) HCx.out (by omega) (Nat.zero_le _) ?_
        intro v9 w9 k1 k2 k3
        have HL2 := Keep.mk (HLg.out.next HSep.out hul HG4.out (lo' := v9) (by unfold OwnV; rw [List.length_append, List.length_map, List.length_range]; exact k1) (by rcases k3 with e | e; exact .inl e; exact .inr ⟨_, e, Nat.le_refl _⟩) k2)
        clear k1 k2 k3 HLo HCx
        simp only [Act.put, List.setIfInBounds_toArray, List.set_cons_zero, List.set_cons_succ]
        refine WL.val (by kernel_rfl) (v9) (by go_simp) ?_
        simp only [Act.put, List.setIfInBounds_toArray, List.set_cons_zero, List.set_cons_succ]
        refine WL.nil ?_
        refine hK23 _ _ ?_
        refine wp_region_list (WL.out ?_)
        refine WL.val (by kernel_rfl) (.int .i64 (u : Int)) (by go_simp) ?_
        simp only [Act.put, List.setIfInBounds_toArray, List.set_cons_zero, List.set_cons_succ]
        have hw6 : IntKind.i64.wrap ((u : Int) + 1) = ((u + 1 : Nat) : Int) := by rw [IntKind.wrap_i64]; omega
        refine WL.val (by kernel_rfl) (.int .i64 ((u + 1 : Nat) : Int)) (by go_simp) ?_
        clear hw6
        simp only [Act.put, List.setIfInBounds_toArray, List.set_cons_zero, List.set_cons_succ]
        refine WL.val (by kernel_rfl) (.int .i64 ((u + 1 : Nat) : Int)) (by go_simp) ?_
        simp only [Act.put, List.setIfInBounds_toArray, List.set_cons_zero, List.set_cons_succ]
        refine WL.nil ?_
        refine ⟨⟨u + 1, fun zz => [.pointer (some ⟨q, 0, none⟩), undef, .bool false, .bool true, .int .i64 (i : Int), fx 5, v9, .int .i64 ((u + 1 : Nat) : Int), .slice xa xn xc, .int .i64 (y : Int), undef, undef, undef, .pointer (some ⟨q, 0, none⟩), .bool true, .bool true, .bool false, .int .i64 (i : Int), .pointer (some ⟨q, 0, none⟩), .pointer (some ⟨q, 0, none⟩), .pointer (some ⟨q, 0, none⟩), .slice (some ⟨gl, 0, none⟩) m ca, .int .i64 (m : Int), .bool false, fx 24, fx 25, fx 26, fx 27, fx 28, fx 29, fx 30, fx 31, fx 32, fx 33, fx 34, fx 35, fx 36, fx 37, fx 38, fx 39, fx 40, fx 41, fx 42, fx 43, fx 44, fx 45, fx 46, fx 47, fx 48, fx 49, fx 50, .slice (some ⟨g5, 0, none⟩) 0 0, .int .i64 (u : Int), .pointer (some ⟨q, 0, none⟩), .pointer (some ⟨q, 0, none⟩), .pointer (some ⟨q, 0, none⟩), .slice (some ⟨gl, 0, none⟩) m ca, .int .i64 (m : Int), .bool true, .int .i64 (u : Int), .int .i64 ((u + 1 : Nat) : Int), .pointer (some ⟨q, 0, none⟩), .pointer (some ⟨q, 0, none⟩), .pointer (some ⟨q, 0, none⟩), .slice (some ⟨gl, 0, none⟩) m ca, .int .i64 (u : Int), .pointer (some ⟨gl, u, none⟩), .slice va (n u) vc, .int .i64 (y : Int), .bool false, fw 70, fw 71, fw 72, fw 73, fw 74, fw 75, fw 76, fw 77, fw 78, .slice oa u oc, .slice xa xn xc, .slice (some ⟨wi.heap.size, 0, none⟩) 1 1, v9, undef, undef, undef, undef, undef, undef, undef, undef, undef, undef, undef, undef, undef, undef, undef, undef, undef, undef, undef, undef, undef, undef, undef, undef, undef, undef, undef, undef, undef, undef].getD zz undef, v9, _, _, rfl, ⟨by omega⟩, HL2⟩, ?_⟩
        simp only [intOf]
        show m - (((u + 1 : Nat) : Int)).toNat < m - ((u : Int)).toNat
        omega
    · obtain rfl : m = u := by omega
      have hcu_ : ¬ (m : Int) < (m : Int) := by omega
      refine wp_seq_k fun K32 hK32 => ?_
      refine wp_seq_k fun K33 hK33 => ?_
      refine wp_region_list (WL.out ?_)
      refine WL.val (by kernel_rfl) (.int .i64 (m : Int)) (by go_simp) ?_
      simp only [Act.put, List.setIfInBounds_toArray, List.set_cons_zero, List.set_cons_succ]
      refine WL.val (by kernel_rfl) (.pointer (some ⟨q, 0, none⟩)) (by go_simp) ?_
      simp only [Act.put, List.setIfInBounds_toArray, List.set_cons_zero, List.set_cons_succ]
      refine WL.val (by kernel_rfl) (.pointer (some ⟨q, 0, none⟩)) (by go_simp) ?_
      simp only [Act.put, List.setIfInBounds_toArray, List.set_cons_zero, List.set_cons_succ]
      refine WL.val (by kernel_rfl) (.pointer (some ⟨q, 0, none⟩)) (by go_simp) ?_
      simp only [Act.put, List.setIfInBounds_toArray, List.set_cons_zero, List.set_cons_succ]
      refine WL.val (by kernel_rfl) (.slice (some ⟨gl, 0, none⟩) m ca) (by go_simp) ?_
      simp only [Act.put, List.setIfInBounds_toArray, List.set_cons_zero, List.set_cons_succ]
      refine WL.val (by kernel_rfl) (.int .i64 (m : Int)) (by go_simp) ?_
      simp only [Act.put, List.setIfInBounds_toArray, List.set_cons_zero, List.set_cons_succ]
      refine WL.val (by kernel_rfl) (.bool false) (by go_simp) ?_
      simp only [Act.put, List.setIfInBounds_toArray, List.set_cons_zero, List.set_cons_succ]
      refine WL.nil ?_
      refine hK33 _ _ ?_
      refine wp_cond_false rfl ?_
      refine wp_exit ?_
      refine hK19 _ _ ?_
      refine wp_seq_k fun K34 hK34 => ?_
      refine wp_seq_k fun K35 hK35 => ?_
      refine wp_region_list (WL.out ?_)
      refine WL.val (by kernel_rfl) (.int .i64 0) (by go_simp) ?_
      simp only [Act.put, List.setIfInBounds_toArray, List.set_cons_zero, List.set_cons_succ]
      refine WL.nil ?_
      refine hK35 _ _ ?_
      refine wp_block ?_
      refine wp_loop (fun ac wz => ∃ (z : Nat) (fu : Nat → Value), ac = { tmps := #[.pointer (some ⟨q, 0, none⟩), undef, fu 2, .bool true, .int .i64 (i : Int), fx 5, .slice oa m oc, .int .i64 (m : Int), fv 8, fv 9, .int .i64 (z : Int), fu 11, fu 12, .pointer (some ⟨q, 0, none⟩), .bool true, .bool true, .bool false, .int .i64 (i : Int), .pointer (some ⟨q, 0, none⟩), .pointer (some ⟨q, 0, none⟩), .pointer (some ⟨q, 0, none⟩), .slice (some ⟨gl, 0, none⟩) m ca, .int .i64 (m : Int), .bool false, fx 24, fx 25, fx 26, fx 27, fx 28, fx 29, fx 30, fx 31, fx 32, fx 33, fx 34, fx 35, fx 36, fx 37, fx 38, fx 39, fx 40, fx 41, fx 42, fx 43, fx 44, fx 45, fx 46, fx 47, fx 48, fx 49, fx 50, .slice (some ⟨g5, 0, none⟩) 0 0, .int .i64 (m : Int), .pointer (some ⟨q, 0, none⟩), .pointer (some ⟨q, 0, none⟩), .pointer (some ⟨q, 0, none⟩), .slice (some ⟨gl, 0, none⟩) m ca, .int .i64 (m : Int), .bool false, fv 59, fv 60, fv 61, fv 62, fv 63, fv 64, fv 65, fv 66, fv 67, fv 68, fv 69, fv 70, fv 71, fv 72, fv 73, fv 74, fv 75, fv 76, fv 77, fv 78, fv 79, fv 80, fv 81, fv 82, fu 83, fu 84, fu 85, fu 86, fu 87, fu 88, fu 89, fu 90, fu 91, fu 92, fu 93, fu 94, fu 95, fu 96, fu 97, fu 98, fu 99, fu 100, fu 101, fu 102, fu 103, fu 104, fu 105, fu 106, fu 107, fu 108, fu 109, fu 110, fu 111, fu 112], defers := [] } ∧ Keep (z ≤ m) ∧ wz = wq) (fun a _ => m - (intOf (a.tmps.getD 10 undef)).toNat) ⟨0, fun zz => [.pointer (some ⟨q, 0, none⟩), undef, .bool false, .bool true, .int .i64 (i : Int), fx 5, .slice oa m oc, .int .i64 (m : Int), fv 8, fv 9, .int .i64 0, undef, undef, .pointer (some ⟨q, 0, none⟩), .bool true, .bool true, .bool false, .int .i64 (i : Int), .pointer (some ⟨q, 0, none⟩), .pointer (some ⟨q, 0, none⟩), .pointer (some ⟨q, 0, none⟩), .slice (some ⟨gl, 0, none⟩) m ca, .int .i64 (m : Int), .bool false, fx 24, fx 25, fx 26, fx 27, fx 28, fx 29, fx 30, fx 31, fx 32, fx 33, fx 34, fx 35, fx 36, fx 37, fx 38, fx 39, fx 40, fx 41, fx 42, fx 43, fx 44, fx 45, fx 46, fx 47, fx 48, fx 49, fx 50, .slice (some ⟨g5, 0, none⟩) 0 0, .int .i64 (m : Int), .pointer (some ⟨q, 0, none⟩), .pointer (some ⟨q, 0, none⟩), .pointer (some ⟨q, 0, none⟩), .slice (some ⟨gl, 0, none⟩) m ca, .int .i64 (m : Int), .bool false, fv 59, fv 60, fv 61, fv 62, fv 63, fv 64, fv 65, fv 66, fv 67, fv 68, fv 69, fv 70, fv 71, fv 72, fv 73, fv 74, fv 75, fv 76, fv 77, fv 78, fv 79, fv 80, fv 81, fv 82, undef, undef, undef, undef, undef, undef, undef, undef, undef, undef, undef, undef, undef, undef, undef, undef, undef, undef, undef, undef, undef, undef, undef, undef, undef, undef, undef, undef, undef, undef].getD zz undef, rfl, ⟨by omega⟩, rfl⟩ ?_
      rintro ac wz ⟨z, fu, rfl, HZ, hw⟩
      obtain ⟨hzm⟩ := HZ
      have hw := hw.symm
      subst hw
      by_cases hzl : z < m
      · have hcz_ : (z : Int) < (m : Int) := by omega
        have HNz := HN.out z hzl
        have ct := HLg.out.at hzl
        obtain ⟨va, vc, hv⟩ := row_form (HLg.out.ra z hzl)
        obtain ⟨xa, xc, hx⟩ := row_form (HLg.out.rb z hzl)
        rw [List.length_replicate] at hv hx
        obtain ⟨g6, c6, hg6, d_⟩ := HLg.out.lg.at z (by simpa using hzl)
        rw [List.length_map, List.length_range] at hg6
        injection hg6 with e1 e2 e3
        subst e1 e3
        have hxz : ((List.range m).map X)[z]? = some (X z) := by simp [hzl]
        rw [hxz, hx] at d_
        rw [hv] at ct
        have HVz := Keep.mk hv
        have HXz := Keep.mk hx
        clear hv hx hxz
        refine wp_seq_k fun K36 hK36 => ?_
        refine wp_seq_k fun K37 hK37 => ?_
        refine wp_region_list (WL.out ?_)
        refine WL.val (by kernel_rfl) (.int .i64 (z : Int)) (by go_simp) ?_
        simp only [Act.put, List.setIfInBounds_toArray, List.set_cons_zero, List.set_cons_succ]
        refine WL.val (by kernel_rfl) (.pointer (some ⟨q, 0, none⟩)) (by go_simp) ?_
        simp only [Act.put, List.setIfInBounds_toArray, List.set_cons_zero, List.set_cons_succ]
        refine WL.val (by kernel_rfl) (.pointer (some ⟨q, 0, none⟩)) (by go_simp) ?_
        simp only [Act.put, List.setIfInBounds_toArray, List.set_cons_zero, List.set_cons_succ]
        refine WL.val (by kernel_rfl) (.pointer (some ⟨q, 0, none⟩)) (by go_simp) ?_
        simp only [Act.put, List.setIfInBounds_toArray, List.set_cons_zero, List.set_cons_succ]
        refine WL.val (by kernel_rfl) (.slice (some ⟨gl, 0, none⟩) m ca) (by go_simp) ?_
        simp only [Act.put, List.setIfInBounds_toArray, List.set_cons_zero, List.set_cons_succ]
        refine WL.val (by kernel_rfl) (.int .i64 (m : Int)) (by go_simp) ?_
        simp only [Act.put, List.setIfInBounds_toArray, List.set_cons_zero, List.set_cons_succ]
        refine WL.val (by kernel_rfl) (.bool true) (by go_simp) ?_
        simp only [Act.put, List.setIfInBounds_toArray, List.set_cons_zero, List.set_cons_succ]
        refine WL.nil ?_
        refine hK37 _ _ ?_
        refine wp_cond_true rfl ?_
        refine wp_skip ?_
        refine hK36 _ _ ?_
        refine wp_seq_k fun K38 hK38 => ?_
        refine wp_block ?_
        refine wp_seq_k fun K39 hK39 => ?_
        refine wp_region_list (WL.out ?_)
        refine WL.val (by kernel_rfl) (.pointer (some ⟨q, 0, none⟩)) (by go_simp) ?_
        simp only [Act.put, List.setIfInBounds_toArray, List.set_cons_zero, List.set_cons_succ]
        refine WL.val (by kernel_rfl) (.pointer (some ⟨q, 0, none⟩)) (by go_simp) ?_
        simp only [Act.put, List.setIfInBounds_toArray, List.set_cons_zero, List.set_cons_succ]
        refine WL.val (by kernel_rfl) (.pointer (some ⟨q, 0, none⟩)) (by go_simp) ?_
        simp only [Act.put, List.setIfInBounds_toArray, List.set_cons_zero, List.set_cons_succ]
        refine WL.val (by kernel_rfl) (.slice (some ⟨gl, 0, none⟩) m ca) (by go_simp) ?_
        simp only [Act.put, List.setIfInBounds_toArray, List.set_cons_zero, List.set_cons_succ]
        refine WL.val (by kernel_rfl) (.int .i64 (z : Int)) (by go_simp) ?_
        simp only [Act.put, List.setIfInBounds_toArray, List.set_cons_zero, List.set_cons_succ]
        have hx1 : ¬ m ≤ z := by omega
        have hx2 : (z : Int) < (m : Int) := by omega
        refine WL.val (by kernel_rfl) (.pointer (some ⟨gl, z, none⟩)) (by go_simp) ?_
        clear hx1 hx2
        simp only [Act.put, List.setIfInBounds_toArray, List.set_cons_zero, List.set_cons_succ]
        refine WL.val (by kernel_rfl) (.slice va (n z) vc) (by go_simp) ?_
        simp only [Act.put, List.setIfInBounds_toArray, List.set_cons_zero, List.set_cons_succ]
        refine WL.val (by kernel_rfl) (.int .i64 (z : Int)) (by go_simp) ?_
        simp only [Act.put, List.setIfInBounds_toArray, List.set_cons_zero, List.set_cons_succ]
        refine WL.callF (by kernel_rfl) 35 _ _ rfl Tryd.in35 #[.slice va (n z) vc, .int .i64 (z : Int)] (by simp [Act.eval]) ?_
        refine (full_any _ (List.replicate (n z) (mkB z)) z wq (by rw [← HVz.out]; exact HLg.out.ra z hzl) (fun c hc => List.eq_of_mem_replicate hc) (by rw [List.length_replicate]; omega) (by have := HM.out; omega)).mono ?_
        rintro e wq_ ⟨rfl, hw_⟩
        refine ⟨_, rfl, ?_⟩
        have hw_ := hw_.symm
        subst hw_
        simp only [Act.put, List.setIfInBounds_toArray, List.set_cons_zero, List.set_cons_succ]
        refine WL.val (by kernel_rfl) (.bool true) (by go_simp) ?_
        simp only [Act.put, List.setIfInBounds_toArray, List.set_cons_zero, List.set_cons_succ]
        refine WL.nil ?_
        refine hK39 _ _ ?_
        refine wp_seq_k fun K40 hK40 => ?_
        refine wp_region_list (WL.out ?_)
        refine WL.val (by kernel_rfl) (.slice (some ⟨g6, 0, none⟩) m oc) (by go_simp) ?_
        simp only [Act.put, List.setIfInBounds_toArray, List.set_cons_zero, List.set_cons_succ]
        refine WL.val (by kernel_rfl) (.int .i64 (z : Int)) (by go_simp) ?_
        simp only [Act.put, List.setIfInBounds_toArray, List.set_cons_zero, List.set_cons_succ]
        have hx1 : ¬ m ≤ z := by omega
        refine WL.val (by kernel_rfl) (.pointer (some ⟨g6, z, none⟩)) (by go_simp) ?_
        clear hx1
        simp only [Act.put, List.setIfInBounds_toArray, List.set_cons_zero, List.set_cons_succ]
        refine WL.val (by kernel_rfl) (.slice xa (n z + 40) xc) (by go_simp) ?_
        simp only [Act.put, List.setIfInBounds_toArray, List.set_cons_zero, List.set_cons_succ]
        refine WL.val (by kernel_rfl) (.int .i64 (z : Int)) (by go_simp) ?_
        simp only [Act.put, List.setIfInBounds_toArray, List.set_cons_zero, List.set_cons_succ]
        refine WL.callF (by kernel_rfl) 35 _ _ rfl Tryd.in35 #[.slice xa (n z + 40) xc, .int .i64 (z : Int)] (by simp [Act.eval]) ?_
        refine (full_any _ (List.replicate (n z + 40) (mkB z)) z wq (by rw [← HXz.out]; exact HLg.out.rb z hzl) (fun c hc => List.eq_of_mem_replicate hc) (by rw [List.length_replicate]; omega) (by have := HM.out; omega)).mono ?_
        rintro e wq_ ⟨rfl, hw_⟩
        refine ⟨_, rfl, ?_⟩
        have hw_ := hw_.symm
        subst hw_
        clear ct d_
        simp only [Act.put, List.setIfInBounds_toArray, List.set_cons_zero, List.set_cons_succ]
        refine WL.val (by kernel_rfl) (.bool true) (by go_simp) ?_
        simp only [Act.put, List.setIfInBounds_toArray, List.set_cons_zero, List.set_cons_succ]
        refine WL.nil ?_
        refine hK40 _ _ ?_
        refine wp_seq_k fun K41 hK41 => ?_
        refine wp_region_list (WL.out ?_)
        refine WL.val (by kernel_rfl) (.bool true) (by go_simp) ?_
        simp only [Act.put, List.setIfInBounds_toArray, List.set_cons_zero, List.set_cons_succ]
        refine WL.val (by kernel_rfl) (.bool false) (by go_simp) ?_
        simp only [Act.put, List.setIfInBounds_toArray, List.set_cons_zero, List.set_cons_succ]
        refine WL.val (by kernel_rfl) (.bool false) (by go_simp) ?_
        simp only [Act.put, List.setIfInBounds_toArray, List.set_cons_zero, List.set_cons_succ]
        refine WL.val (by kernel_rfl) (.bool true) (by go_simp) ?_
        simp only [Act.put, List.setIfInBounds_toArray, List.set_cons_zero, List.set_cons_succ]
        refine WL.val (by kernel_rfl) (.bool false) (by go_simp) ?_
        simp only [Act.put, List.setIfInBounds_toArray, List.set_cons_zero, List.set_cons_succ]
        refine WL.val (by kernel_rfl) (.bool false) (by go_simp) ?_
        simp only [Act.put, List.setIfInBounds_toArray, List.set_cons_zero, List.set_cons_succ]
        refine WL.nil ?_
        refine hK41 _ _ ?_
        refine wp_cond_false rfl ?_
        refine wp_skip ?_
        refine hK38 _ _ ?_
        refine wp_region_list (WL.out ?_)
        refine WL.val (by kernel_rfl) (.int .i64 (z : Int)) (by go_simp) ?_
        simp only [Act.put, List.setIfInBounds_toArray, List.set_cons_zero, List.set_cons_succ]
        have hw6 : IntKind.i64.wrap ((z : Int) + 1) = ((z + 1 : Nat) : Int) := by rw [IntKind.wrap_i64]; omega
        refine WL.val (by kernel_rfl) (.int .i64 ((z + 1 : Nat) : Int)) (by go_simp) ?_
        clear hw6
        simp only [Act.put, List.setIfInBounds_toArray, List.set_cons_zero, List.set_cons_succ]
        refine WL.val (by kernel_rfl) (.int .i64 ((z + 1 : Nat) : Int)) (by go_simp) ?_
        simp only [Act.put, List.setIfInBounds_toArray, List.set_cons_zero, List.set_cons_succ]
        refine WL.nil ?_
        refine ⟨⟨z + 1, fun zz => [.pointer (some ⟨q, 0, none⟩), undef, fu 2, .bool true, .int .i64 (i : Int), fx 5, .slice (some ⟨g6, 0, none⟩) m oc, .int .i64 (m : Int), fv 8, fv 9, .int .i64 ((z + 1 : Nat) : Int), .bool true, .bool true, .pointer (some ⟨q, 0, none⟩), .bool true, .bool true, .bool false, .int .i64 (i : Int), .pointer (some ⟨q, 0, none⟩), .pointer (some ⟨q, 0, none⟩), .pointer (some ⟨q, 0, none⟩), .slice (some ⟨gl, 0, none⟩) m ca, .int .i64 (m : Int), .bool false, fx 24, fx 25, fx 26, fx 27, fx 28, fx 29, fx 30, fx 31, fx 32, fx 33, fx 34, fx 35, fx 36, fx 37, fx 38, fx 39, fx 40, fx 41, fx 42, fx 43, fx 44, fx 45, fx 46, fx 47, fx 48, fx 49, fx 50, .slice (some ⟨g5, 0, none⟩) 0 0, .int .i64 (m : Int), .pointer (some ⟨q, 0, none⟩), .pointer (some ⟨q, 0, none⟩), .pointer (some ⟨q, 0, none⟩), .slice (some ⟨gl, 0, none⟩) m ca, .int .i64 (m : Int), .bool false, fv 59, fv 60, fv 61, fv 62, fv 63, fv 64, fv 65, fv 66, fv 67, fv 68, fv 69, fv 70, fv 71, fv 72, fv 73, fv 74, fv 75, fv 76, fv 77, fv 78, fv 79, fv 80, fv 81, fv 82, .int .i64 (z : Int), .pointer (some ⟨q, 0, none⟩), .pointer (some ⟨q, 0, none⟩), .pointer (some ⟨q, 0, none⟩), .slice (some ⟨gl, 0, none⟩) m ca, .int .i64 (m : Int), .bool true, .int .i64 (z : Int), .int .i64 ((z + 1 : Nat) : Int), .pointer (some ⟨q, 0, none⟩), .pointer (some ⟨q, 0, none⟩), .pointer (some ⟨q, 0, none⟩), .slice (some ⟨gl, 0, none⟩) m ca, .int .i64 (z : Int), .pointer (some ⟨gl, z, none⟩), .slice va (n z) vc, .int .i64 (z : Int), .bool true, .slice (some ⟨g6, 0, none⟩) m oc, .int .i64 (z : Int), .pointer (some ⟨g6, z, none⟩), .slice xa (n z + 40) xc, .int .i64 (z : Int), .bool true, .bool true, .bool false, .bool false, .bool true, .bool false, .bool false].getD zz undef, rfl, ⟨by omega⟩, rfl⟩, ?_⟩
        simp only [intOf]
        show m - (((z + 1 : Nat) : Int)).toNat < m - ((z : Int)).toNat
        omega
      · have hcz_ : ¬ (z : Int) < (m : Int) := by omega
        refine wp_seq_k fun K42 hK42 => ?_
        refine wp_seq_k fun K43 hK43 => ?_
        refine wp_region_list (WL.out ?_)
        refine WL.val (by kernel_rfl) (.int .i64 (z : Int)) (by go_simp) ?_
        simp only [Act.put, List.setIfInBounds_toArray, List.set_cons_zero, List.set_cons_succ]
        refine WL.val (by kernel_rfl) (.pointer (some ⟨q, 0, none⟩)) (by go_simp) ?_
        simp only [Act.put, List.setIfInBounds_toArray, List.set_cons_zero, List.set_cons_succ]
        refine WL.val (by kernel_rfl) (.pointer (some ⟨q, 0, none⟩)) (by go_simp) ?_
        simp only [Act.put, List.setIfInBounds_toArray, List.set_cons_zero, List.set_cons_succ]
        refine WL.val (by kernel_rfl) (.pointer (some ⟨q, 0, none⟩)) (by go_simp) ?_
        simp only [Act.put, List.setIfInBounds_toArray, List.set_cons_zero, List.set_cons_succ]
        refine WL.val (by kernel_rfl) (.slice (some ⟨gl, 0, none⟩) m ca) (by go_simp) ?_
        simp only [Act.put, List.setIfInBounds_toArray, List.set_cons_zero, List.set_cons_succ]
        refine WL.val (by kernel_rfl) (.int .i64 (m : Int)) (by go_simp) ?_
        simp only [Act.put, List.setIfInBounds_toArray, List.set_cons_zero, List.set_cons_succ]
        refine WL.val (by kernel_rfl) (.bool false) (by go_simp) ?_
        simp only [Act.put, List.setIfInBounds_toArray, List.set_cons_zero, List.set_cons_succ]
        refine WL.nil ?_
        refine hK43 _ _ ?_
        refine wp_cond_false rfl ?_
        refine wp_exit ?_
        refine hK34 _ _ ?_
        refine wp_seq_k fun K44 hK44 => ?_
        refine wp_region_list (WL.out ?_)
        refine WL.val (by kernel_rfl) (.bool true) (by go_simp) ?_
        simp only [Act.put, List.setIfInBounds_toArray, List.set_cons_zero, List.set_cons_succ]
        refine WL.nil ?_
        refine hK44 _ _ ?_
        refine wp_ret ?_
        try simp only [Exit.inBlock, Exit.then]
        go_ret
        exact ⟨rfl, HLg.out.gr⟩

set_option maxRecDepth 8000 in
theorem apart_none (q ca cb : Nat) (la lb : Option Addr) (w : World) (HS : Keep (∀ wx, Below w.heap.size w wx → wx.cell? ⟨q, 0, none⟩ = some (.slice la 0 ca) ∧ wx.cell? ⟨q, 1, none⟩ = some (.slice lb 0 cb) ∧ RwR wx la [] ∧ RwR wx lb [])) : Calls Tryd.prog 14 #[.pointer (some ⟨q, 0, none⟩)] w fun e w' => e = .returned (.bool true) ∧ Below w.heap.size w w' := by
  go_enter Tryd.func14, Tryd.ntmps14
  refine wp_seq_k fun K1 hK1 => ?_
  refine wp_region_list (WL.out ?_)
  refine WL.val (by kernel_rfl) (.bool false) (by go_simp) ?_
  simp only [Act.put, List.setIfInBounds_toArray, List.set_cons_zero, List.set_cons_succ]
  refine WL.nil ?_
  refine hK1 _ _ ?_
  refine wp_seq_k fun K2 hK2 => ?_
  refine wp_region_list (WL.out ?_)
  refine WL.val (by kernel_rfl) (.pointer (some ⟨q, 0, none⟩)) (by go_simp) ?_
  simp only [Act.put, List.setIfInBounds_toArray, List.set_cons_zero, List.set_cons_succ]
  refine WL.callF (by kernel_rfl) 12 _ _ rfl Tryd.in12 #[.pointer (some ⟨q, 0, none⟩)] (by simp [Act.eval]) ?_
  refine (holds_any q 0 ca cb la lb [] [] w ⟨rfl⟩ ⟨rfl⟩ ⟨by decide⟩ HS).mono ?_
  rintro e w1 ⟨bo, rfl, hbo, hb1⟩
  refine ⟨_, rfl, ?_⟩
  obtain rfl := hbo (fun i x y h => by simp at h)
  have HB1 := Keep.mk hb1
  have c0_ := (HS.out w1 hb1).1
  clear hb1
  have hz_ : ¬ (0 : Int) < 0 := by omega
  simp only [Act.put, List.setIfInBounds_toArray, List.set_cons_zero, List.set_cons_succ]
  refine WL.val (by kernel_rfl) (.bool true) (by go_simp) ?_
  simp only [Act.put, List.setIfInBounds_toArray, List.set_cons_zero, List.set_cons_succ]
  refine WL.nil ?_
  refine hK2 _ _ ?_
  refine wp_seq_k fun K3 hK3 => ?_
  refine wp_seq_k fun K4 hK4 => ?_
  refine wp_region_list (WL.out ?_)
  refine WL.val (by kernel_rfl) (.bool true) (by go_simp) ?_
  simp only [Act.put, List.setIfInBounds_toArray, List.set_cons_zero, List.set_cons_succ]
  refine WL.val (by kernel_rfl) (.bool false) (by go_simp) ?_
  simp only [Act.put, List.setIfInBounds_toArray, List.set_cons_zero, List.set_cons_succ]
  refine WL.nil ?_
  refine hK4 _ _ ?_
  refine wp_cond_false rfl ?_
  refine wp_skip ?_
  refine hK3 _ _ ?_
  refine wp_seq_k fun K5 hK5 => ?_
  refine wp_seq_k fun K6 hK6 => ?_
  refine wp_region_list (WL.out ?_)
  refine WL.val (by kernel_rfl) (.int .i64 0) (by go_simp) ?_
  simp only [Act.put, List.setIfInBounds_toArray, List.set_cons_zero, List.set_cons_succ]
  refine WL.nil ?_
  refine hK6 _ _ ?_
  refine wp_block ?_
  refine wp_loop (fun ac wr => ∃ (t : Nat) (fx : Nat → Value), ac = { tmps := #[.pointer (some ⟨q, 0, none⟩), undef, .bool false, .bool true, .int .i64 0, fx 5, undef, undef, undef, undef, undef, undef, undef, .pointer (some ⟨q, 0, none⟩), .bool true, .bool true, .bool false, fx 17, fx 18, fx 19, fx 20, fx 21, fx 22, fx 23, fx 24, fx 25, fx 26, fx 27, fx 28, fx 29, fx 30, fx 31, fx 32, fx 33, fx 34, fx 35, fx 36, fx 37, fx 38, fx 39, fx 40, fx 41, fx 42, fx 43, fx 44, fx 45, fx 46, fx 47, fx 48, fx 49, fx 50, undef, undef, undef, undef, undef, undef, undef, undef, undef, undef, undef, undef, undef, undef, undef, undef, undef, undef, undef, undef, undef, undef, undef, undef, undef, undef, undef, undef, undef, undef, undef, undef, undef, undef, undef, undef, undef, undef, undef, undef, undef, undef, undef, undef, undef, undef, undef, undef, undef, undef, undef, undef, undef, undef, undef, undef, undef, undef, undef, undef, undef, undef], defers := [] } ∧ wr = w1) (fun a _ => (0 : Nat)) ⟨0, fun zz => [.pointer (some ⟨q, 0, none⟩), undef, .bool false, .bool true, .int .i64 0, undef, undef, undef, undef, undef, undef, undef, undef, .pointer (some ⟨q, 0, none⟩), .bool true, .bool true, .bool false, undef, undef, undef, undef, undef, undef, undef, undef, undef, undef, undef, undef, undef, undef, undef, undef, undef, undef, undef, undef, undef, undef, undef, undef, undef, undef, undef, undef, undef, undef, undef, undef, undef, undef, undef, undef, undef, undef, undef, undef, undef, undef, undef, undef, undef, undef, undef, undef, undef, undef, undef, undef, undef, undef, undef, undef, undef, undef, undef, undef, undef, undef, undef, undef, undef, undef, undef, undef, undef, undef, undef, undef, undef, undef, undef, undef, undef, undef, undef, undef, undef, undef, undef, undef, undef, undef, undef, undef, undef, undef, undef, undef, undef, undef, undef, undef].getD zz undef, rfl, rfl⟩ ?_
  rintro ac wr ⟨t, fx, rfl, hw⟩
  have hw := hw.symm
  subst hw
  refine wp_seq_k fun K7 hK7 => ?_
  refine wp_seq_k fun K8 hK8 => ?_
  refine wp_region_list (WL.out ?_)
  refine WL.val (by kernel_rfl) (.int .i64 0) (by go_simp) ?_
  simp only [Act.put, List.setIfInBounds_toArray, List.set_cons_zero, List.set_cons_succ]
  refine WL.val (by kernel_rfl) (.pointer (some ⟨q, 0, none⟩)) (by go_simp) ?_
  simp only [Act.put, List.setIfInBounds_toArray, List.set_cons_zero, List.set_cons_succ]
  refine WL.val (by kernel_rfl) (.pointer (some ⟨q, 0, none⟩)) (by go_simp) ?_
  simp only [Act.put, List.setIfInBounds_toArray, List.set_cons_zero, List.set_cons_succ]
  refine WL.val (by kernel_rfl) (.pointer (some ⟨q, 0, none⟩)) (by go_simp) ?_
  simp only [Act.put, List.setIfInBounds_toArray, List.set_cons_zero, List.set_cons_succ]
  refine WL.val (by kernel_rfl) (.slice la 0 ca) (by go_simp) ?_
  simp only [Act.put, List.setIfInBounds_toArray, List.set_cons_zero, List.set_cons_succ]
  refine WL.val (by kernel_rfl) (.int .i64 0) (by go_simp) ?_
  simp only [Act.put, List.setIfInBounds_toArray, List.set_cons_zero, List.set_cons_succ]
  refine WL.val (by kernel_rfl) (.bool false) (by go_simp) ?_
  simp only [Act.put, List.setIfInBounds_toArray, List.set_cons_zero, List.set_cons_succ]
  refine WL.nil ?_
  refine hK8 _ _ ?_
  refine wp_cond_false rfl ?_
  refine wp_exit ?_
  refine hK5 _ _ ?_
  refine wp_seq_k fun K9 hK9 => ?_
  refine wp_region_list (WL.out ?_)
  refine WL.bs (by kernel_rfl) 36 0 #[] rfl #[] (by simp) _ _ (bsRw0 w1) ?_
  have hb5 := below_new w1 (.cells #[] 39)
  have HB5 : Keep (Below w.heap.size w (w1.alloc (.cells #[] 39))) := ⟨HB1.out.trans (hb5.mono HB1.out.size)⟩
  have c0_ := (HS.out _ HB5.out).1
  generalize w1.alloc (.cells #[] 39) = w5 at *
  generalize w1.heap.size = g5 at *
  clear hb5
  simp only [Act.put, List.setIfInBounds_toArray, List.set_cons_zero, List.set_cons_succ]
  refine WL.val (by kernel_rfl) (.slice (some ⟨g5, 0, none⟩) 0 0) (by go_simp) ?_
  simp only [Act.put, List.setIfInBounds_toArray, List.set_cons_zero, List.set_cons_succ]
  refine WL.nil ?_
  refine hK9 _ _ ?_
  refine wp_seq_k fun K10 hK10 => ?_
  refine wp_seq_k fun K11 hK11 => ?_
  refine wp_region_list (WL.out ?_)
  refine WL.val (by kernel_rfl) (.int .i64 0) (by go_simp) ?_
  simp only [Act.put, List.setIfInBounds_toArray, List.set_cons_zero, List.set_cons_succ]
  refine WL.nil ?_
  refine hK11 _ _ ?_
  refine wp_block ?_
  refine wp_loop (fun ac wq => ∃ (u : Nat) (fv : Nat → Value), ac = { tmps := #[.pointer (some ⟨q, 0, none⟩), undef, .bool false, .bool true, .int .i64 0, fx 5, .slice (some ⟨g5, 0, none⟩) 0 0, .int .i64 0, fv 8, fv 9, undef, undef, undef, .pointer (some ⟨q, 0, none⟩), .bool true, .bool true, .bool false, .int .i64 0, .pointer (some ⟨q, 0, none⟩), .pointer (some ⟨q, 0, none⟩), .pointer (some ⟨q, 0, none⟩), .slice la 0 ca, .int .i64 0, .bool false, fx 24, fx 25, fx 26, fx 27, fx 28, fx 29, fx 30, fx 31, fx 32, fx 33, fx 34, fx 35, fx 36, fx 37, fx 38, fx 39, fx 40, fx 41, fx 42, fx 43, fx 44, fx 45, fx 46, fx 47, fx 48, fx 49, fx 50, .slice (some ⟨g5, 0, none⟩) 0 0, fv 52, fv 53, fv 54, fv 55, fv 56, fv 57, fv 58, fv 59, fv 60, fv 61, fv 62, fv 63, fv 64, fv 65, fv 66, fv 67, fv 68, fv 69, fv 70, fv 71, fv 72, fv 73, fv 74, fv 75, fv 76, fv 77, fv 78, fv 79, fv 80, fv 81, fv 82, undef, undef, undef, undef, undef, undef, undef, undef, undef, undef, undef, undef, undef, undef, undef, undef, undef, undef, undef, undef, undef, undef, undef, undef, undef, undef, undef, undef, undef, undef], defers := [] } ∧ wq = w5) (fun a _ => (0 : Nat)) ⟨0, fun zz => [.pointer (some ⟨q, 0, none⟩), undef, .bool false, .bool true, .int .i64 0, fx 5, .slice (some ⟨g5, 0, none⟩) 0 0, .int .i64 0, undef, undef, undef, undef, undef, .pointer (some ⟨q, 0, none⟩), .bool true, .bool true, .bool false, .int .i64 0, .pointer (some ⟨q, 0, none⟩), .pointer (some ⟨q, 0, none⟩), .pointer (some ⟨q, 0, none⟩), .slice la 0 ca, .int .i64 0, .bool false, fx 24, fx 25, fx 26, fx 27, fx 28, fx 29, fx 30, fx 31, fx 32, fx 33, fx 34, fx 35, fx 36, fx 37, fx 38, fx 39, fx 40, fx 41, fx 42, fx 43, fx 44, fx 45, fx 46, fx 47, fx 48, fx 49, fx 50, .slice (some ⟨g5, 0, none⟩) 0 0, undef, undef, undef, undef, undef, undef, undef, undef, undef, undef, undef, undef, undef, undef, undef, undef, undef, undef, undef, undef, undef, undef, undef, undef, undef, undef, undef, undef, undef, undef, undef, undef, undef, undef, undef, undef, undef, undef, undef, undef, undef, undef, undef, undef, undef, undef, undef, undef, undef, undef, undef, undef, undef, undef, undef, undef, undef, undef, undef, undef, undef].getD zz undef, rfl, rfl⟩ ?_
  rintro ac wq ⟨u, fv, rfl, hw⟩
  have hw := hw.symm
  subst hw
  refine wp_seq_k fun K12 hK12 => ?_
  refine wp_seq_k fun K13 hK13 => ?_
  refine wp_region_list (WL.out ?_)
  refine WL.val (by kernel_rfl) (.int .i64 0) (by go_simp) ?_
  simp only [Act.put, List.setIfInBounds_toArray, List.set_cons_zero, List.set_cons_succ]
  refine WL.val (by kernel_rfl) (.pointer (some ⟨q, 0, none⟩)) (by go_simp) ?_
  simp only [Act.put, List.setIfInBounds_toArray, List.set_cons_zero, List.set_cons_succ]
  refine WL.val (by kernel_rfl) (.pointer (some ⟨q, 0, none⟩)) (by go_simp) ?_
  simp only [Act.put, List.setIfInBounds_toArray, List.set_cons_zero, List.set_cons_succ]
  refine WL.val (by kernel_rfl) (.pointer (some ⟨q, 0, none⟩)) (by go_simp) ?_
  simp only [Act.put, List.setIfInBounds_toArray, List.set_cons_zero, List.set_cons_succ]
  refine WL.val (by kernel_rfl) (.slice la 0 ca) (by go_simp) ?_
  simp only [Act.put, List.setIfInBounds_toArray, List.set_cons_zero, List.set_cons_succ]
  refine WL.val (by kernel_rfl) (.int .i64 0) (by go_simp) ?_
  simp only [Act.put, List.setIfInBounds_toArray, List.set_cons_zero, List.set_cons_succ]
  refine WL.val (by kernel_rfl) (.bool false) (by go_simp) ?_
  simp only [Act.put, List.setIfInBounds_toArray, List.set_cons_zero, List.set_cons_succ]
  refine WL.nil ?_
  refine hK13 _ _ ?_
  refine wp_cond_false rfl ?_
  refine wp_exit ?_
  refine hK10 _ _ ?_
  refine wp_seq_k fun K14 hK14 => ?_
  refine wp_seq_k fun K15 hK15 => ?_
  refine wp_region_list (WL.out ?_)
  refine WL.val (by kernel_rfl) (.int .i64 0) (by go_simp) ?_
  simp only [Act.put, List.setIfInBounds_toArray, List.set_cons_zero, List.set_cons_succ]
  refine WL.nil ?_
  refine hK15 _ _ ?_
  refine wp_block ?_
  refine wp_loop (fun ac wz => ∃ (z : Nat) (fu : Nat → Value), ac = { tmps := #[.pointer (some ⟨q, 0, none⟩), undef, fu 2, .bool true, .int .i64 0, fx 5, .slice (some ⟨g5, 0, none⟩) 0 0, .int .i64 0, fv 8, fv 9, .int .i64 0, fu 11, fu 12, .pointer (some ⟨q, 0, none⟩), .bool true, .bool true, .bool false, .int .i64 0, .pointer (some ⟨q, 0, none⟩), .pointer (some ⟨q, 0, none⟩), .pointer (some ⟨q, 0, none⟩), .slice la 0 ca, .int .i64 0, .bool false, fx 24, fx 25, fx 26, fx 27, fx 28, fx 29, fx 30, fx 31, fx 32, fx 33, fx 34, fx 35, fx 36, fx 37, fx 38, fx 39, fx 40, fx 41, fx 42, fx 43, fx 44, fx 45, fx 46, fx 47, fx 48, fx 49, fx 50, .slice (some ⟨g5, 0, none⟩) 0 0, .int .i64 0, .pointer (some ⟨q, 0, none⟩), .pointer (some ⟨q, 0, none⟩), .pointer (some ⟨q, 0, none⟩), .slice la 0 ca, .int .i64 0, .bool false, fv 59, fv 60, fv 61, fv 62, fv 63, fv 64, fv 65, fv 66, fv 67, fv 68, fv 69, fv 70, fv 71, fv 72, fv 73, fv 74, fv 75, fv 76, fv 77, fv 78, fv 79, fv 80, fv 81, fv 82, fu 83, fu 84, fu 85, fu 86, fu 87, fu 88, fu 89, fu 90, fu 91, fu 92, fu 93, fu 94, fu 95, fu 96, fu 97, fu 98, fu 99, fu 100, fu 101, fu 102, fu 103, fu 104, fu 105, fu 106, fu 107, fu 108, fu 109, fu 110, fu 111, fu 112], defers := [] } ∧ wz = w5) (fun a _ => (0 : Nat)) ⟨0, fun zz => [.pointer (some ⟨q, 0, none⟩), undef, .bool false, .bool true, .int .i64 0, fx 5, .slice (some ⟨g5, 0, none⟩) 0 0, .int .i64 0, fv 8, fv 9, .int .i64 0, undef, undef, .pointer (some ⟨q, 0, none⟩), .bool true, .bool true, .bool false, .int .i64 0, .pointer (some ⟨q, 0, none⟩), .pointer (some ⟨q, 0, none⟩), .pointer (some ⟨q, 0, none⟩), .slice la 0 ca, .int .i64 0, .bool false, fx 24, fx 25, fx 26, fx 27, fx 28, fx 29, fx 30, fx 31, fx 32, fx 33, fx 34, fx 35, fx 36, fx 37, fx 38, fx 39, fx 40, fx 41, fx 42, fx 43, fx 44, fx 45, fx 46, fx 47, fx 48, fx 49, fx 50, .slice (some ⟨g5, 0, none⟩) 0 0, .int .i64 0, .pointer (some ⟨q, 0, none⟩), .pointer (some ⟨q, 0, none⟩), .pointer (some ⟨q, 0, none⟩), .slice la 0 ca, .int .i64 0, .bool false, fv 59, fv 60, fv 61, fv 62, fv 63, fv 64, fv 65, fv 66, fv 67, fv 68, fv 69, fv 70, fv 71, fv 72, fv 73, fv 74, fv 75, fv 76, fv 77, fv 78, fv 79, fv 80, fv 81, fv 82, undef, undef, undef, undef, undef, undef, undef, undef, undef, undef, undef, undef, undef, undef, undef, undef, undef, undef, undef, undef, undef, undef, undef, undef, undef, undef, undef, undef, undef, undef].getD zz undef, rfl, rfl⟩ ?_
  rintro ac wz ⟨z, fu, rfl, hw⟩
  have hw := hw.symm
  subst hw
  refine wp_seq_k fun K16 hK16 => ?_
  refine wp_seq_k fun K17 hK17 => ?_
  refine wp_region_list (WL.out ?_)
  refine WL.val (by kernel_rfl) (.int .i64 0) (by go_simp) ?_
  simp only [Act.put, List.setIfInBounds_toArray, List.set_cons_zero, List.set_cons_succ]
  refine WL.val (by kernel_rfl) (.pointer (some ⟨q, 0, none⟩)) (by go_simp) ?_
  simp only [Act.put, List.setIfInBounds_toArray, List.set_cons_zero, List.set_cons_succ]
  refine WL.val (by kernel_rfl) (.pointer (some ⟨q, 0, none⟩)) (by go_simp) ?_
  simp only [Act.put, List.setIfInBounds_toArray, List.set_cons_zero, List.set_cons_succ]
  refine WL.val (by kernel_rfl) (.pointer (some ⟨q, 0, none⟩)) (by go_simp) ?_
  simp only [Act.put, List.setIfInBounds_toArray, List.set_cons_zero, List.set_cons_succ]
  refine WL.val (by kernel_rfl) (.slice la 0 ca) (by go_simp) ?_
  simp only [Act.put, List.setIfInBounds_toArray, List.set_cons_zero, List.set_cons_succ]
  refine WL.val (by kernel_rfl) (.int .i64 0) (by go_simp) ?_
  simp only [Act.put, List.setIfInBounds_toArray, List.set_cons_zero, List.set_cons_succ]
  refine WL.val (by kernel_rfl) (.bool false) (by go_simp) ?_
  simp only [Act.put, List.setIfInBounds_toArray, List.set_cons_zero, List.set_cons_succ]
  refine WL.nil ?_
  refine hK17 _ _ ?_
  refine wp_cond_false rfl ?_
  refine wp_exit ?_
  refine hK14 _ _ ?_
  refine wp_seq_k fun K18 hK18 => ?_
  refine wp_region_list (WL.out ?_)
  refine WL.val (by kernel_rfl) (.bool true) (by go_simp) ?_
  simp only [Act.put, List.setIfInBounds_toArray, List.set_cons_zero, List.set_cons_succ]
  refine WL.nil ?_
  refine hK18 _ _ ?_
  refine wp_ret ?_
  try simp only [Exit.inBlock, Exit.then]
  go_ret
  exact ⟨rfl, HB5.out⟩

structure BkAt (w : World) (q : Nat) (vo vw : Value) (n : Int) (O Ws : List (Value × List Int)) : Prop where
  bq : Blk w q 38 #[vo, vw, .int .i64 n]
  lo : w.ownsRow 0 39 1 vo O.length (O.map (·.1))
  lw : w.ownsRow 0 39 1 vw Ws.length (Ws.map (·.1))
  ro : ∀ r ∈ O, Own w r.1 r.2 ∧ r.2.length ≤ 2097194 ∧ Byts r.2
  rw_ : ∀ r ∈ Ws, Own w r.1 r.2 ∧ Byts r.2
  sp : ∀ (i j : Nat) (a b : Value × List Int) (k : Nat), O[i]? = some a → O[j]? = some b → a.1.ownBlock = some k → b.1.ownBlock = some k → i = j
  eq : O.map (·.2) = Ws.map (·.2)
  few : O.length ≤ 30
  ne : ∀ k, vo.ownBlock = some k → vw.ownBlock ≠ some k
def BkS2 (q : Nat) (vo vw : Value) (O Ws : List (Value × List Int)) (k : Nat) : Prop := k = q ∨ vo.ownBlock = some k ∨ vw.ownBlock = some k ∨ (∃ r ∈ O, r.1.ownBlock = some k) ∨ ∃ r ∈ Ws, r.1.ownBlock = some k
section
variable {w w' : World} {q : Nat} {vo vw : Value} {n : Int} {O Ws : List (Value × List Int)}
theorem BkAt.grown {S : Nat → Prop} (h : BkAt w q vo vw n O Ws) (hg : Grown w w' S) (hs : ∀ k, S k → ¬ BkS2 q vo vw O Ws k) : BkAt w' q vo vw n O Ws :=
  ⟨hg.blk h.bq fun e => hs _ e (.inl rfl), owns_grown h.lo hg fun k hk e => hs k e (.inr (.inl hk)), owns_grown h.lw hg fun k hk e => hs k e (.inr (.inr (.inl hk))), fun r hr => ⟨owns_grown (h.ro r hr).1 hg fun k hk e => hs k e (.inr (.inr (.inr (.inl ⟨r, hr, hk⟩)))), (h.ro r hr).2⟩, fun r hr => ⟨owns_grown (h.rw_ r hr).1 hg fun k hk e => hs k e (.inr (.inr (.inr (.inr ⟨r, hr, hk⟩)))), (h.rw_ r hr).2⟩, h.sp, h.eq, h.few, h.ne⟩
theorem BkAt.below (h : BkAt w q vo vw n O Ws) (hb : Below w.heap.size w w') : BkAt w' q vo vw n O Ws := h.grown (Grown.below (S := fun _ => False) hb) fun _ e => e.elim
theorem BkAt.lt (h : BkAt w q vo vw n O Ws) (k : Nat) (hk : BkS2 q vo vw O Ws k) : k < w.heap.size := by
  rcases hk with e | e | e | ⟨r, hr, e⟩ | ⟨r, hr, e⟩
  · exact e ▸ h.bq.lt
  · exact (owns_lt h.lo k e).2
  · exact (owns_lt h.lw k e).2
  · exact (h.ro r hr).1.lt k e
  · exact (h.rw_ r hr).1.lt k e
theorem rwr_of {v : Value} {R : List (Value × List Int)} {a : Option Addr} {c : Nat} (h : w.ownsRow 0 39 1 v R.length (R.map (·.1))) (hv : v = .slice a R.length c) (hr : ∀ r ∈ R, Own w r.1 r.2 ∧ Byts r.2) : RwR w a R := fun h0 => by
  subst hv
  obtain ⟨u, hu⟩ : ∃ u, (R.map (·.1))[0]? = some u := ⟨_, List.getElem?_eq_getElem (by simpa using h0)⟩
  obtain ⟨g, ea, _, _⟩ := owns_at h h0 hu
  refine ⟨g, ea, fun t p hp => ?_⟩
  have ht := (List.getElem?_eq_some_iff.1 hp).1
  obtain ⟨g2, ea2, hc, _⟩ := owns_at h ht (by rw [List.getElem?_map, hp]; rfl)
  rw [ea] at ea2
  injection ea2 with e; injection e with e; subst e
  have := hr p (List.mem_of_getElem? hp)
  exact ⟨hc, this.1.row, this.2⟩
theorem apart_any (h : BkAt w q vo vw n O Ws) : Calls Tryd.prog 14 #[.pointer (some ⟨q, 0, none⟩)] w fun e w' => e = .returned (.bool true) ∧ Grown w w' fun k => ∃ r ∈ O, r.1.ownBlock = some k := by
  obtain ⟨la, ca, hvo⟩ := owns_sl h.lo
  obtain ⟨lb, cb, hvw⟩ := owns_sl h.lw
  have hln : Ws.length = O.length := by have := congrArg List.length h.eq; simpa using this.symm
  have HS : ∀ wx, Below w.heap.size w wx → wx.cell? ⟨q, 0, none⟩ = some (.slice la O.length ca) ∧ wx.cell? ⟨q, 1, none⟩ = some (.slice lb O.length cb) ∧ RwR wx la O ∧ RwR wx lb Ws := fun wx hb => by
    have h2 := h.below hb
    refine ⟨by rw [← hvo]; exact h2.bq.c 0 rfl, by rw [← hln, ← hvw]; exact h2.bq.c 1 rfl, rwr_of h2.lo hvo fun r hr => ⟨(h2.ro r hr).1, (h2.ro r hr).2.2⟩, rwr_of h2.lw hvw h2.rw_⟩
  rcases Nat.eq_zero_or_pos O.length with h0 | h0
  · obtain rfl := List.eq_nil_of_length_eq_zero h0
    obtain rfl := List.eq_nil_of_length_eq_zero (hln.trans h0)
    exact (apart_none q ca cb la lb w ⟨HS⟩).mono fun e w' ⟨h1, h2⟩ => ⟨h1, Grown.below h2⟩
  · obtain ⟨u, hu⟩ : ∃ u, (O.map (·.1))[0]? = some u := ⟨_, List.getElem?_eq_getElem (by simpa using h0)⟩
    have hlo := h.lo
    rw [hvo] at hlo
    obtain ⟨gl, ea, _, hgl⟩ := owns_at hlo h0 hu
    subst ea
    have get : ∀ j, j < O.length → ∃ r, O[j]? = some r ∧ O.getD j (Value.slice none 0 0, ([] : List Int)) = r := fun j hj => ⟨O[j], List.getElem?_eq_getElem hj, by rw [List.getD_eq_getElem?_getD, List.getElem?_eq_getElem hj]; rfl⟩
    have hcell : ∀ j, j < O.length → w.cell? ⟨gl, j, none⟩ = some (O.getD j (Value.slice none 0 0, ([] : List Int))).1 := fun j hj => by
      obtain ⟨r, hr, e⟩ := get j hj
      rw [e]
      exact owns_cells hlo j r.1 (by rw [List.getElem?_map, hr]; rfl)
    have hown : ∀ j, j < O.length → OwnT w (O.getD j (Value.slice none 0 0, ([] : List Int))).1 (O.getD j (Value.slice none 0 0, ([] : List Int))).2 := fun j hj => by
      obtain ⟨r, hr, e⟩ := get j hj
      rw [e]
      exact (h.ro r (List.mem_of_getElem? hr)).1.tail
    have hset : ∀ k, (∃ j, j < O.length ∧ (O.getD j (Value.slice none 0 0, ([] : List Int))).1.ownBlock = some k) → ∃ r ∈ O, r.1.ownBlock = some k := fun k ⟨j, hj, e⟩ => by
      obtain ⟨r, hr, e2⟩ := get j hj
      exact ⟨r, List.mem_of_getElem? hr, by rw [← e2]; exact e⟩
    have hgt : Typ w gl 39 := owns_typ hlo (k := gl) rfl
    refine (apart_some q gl O.length ca cb lb (fun j => (O.getD j (Value.slice none 0 0, ([] : List Int))).1) (fun j => (O.getD j (Value.slice none 0 0, ([] : List Int))).2) O Ws w (fun j => (O.getD j (Value.slice none 0 0, ([] : List Int))).2.length) ⟨fun _ => rfl⟩ ⟨⟨⟨hcell, hgt⟩, hown, Grown.refl _ _⟩⟩ ⟨fun i j hi hj hne k e1 e2 => ?_⟩ ⟨hgl⟩ ⟨by have := h.few; omega⟩ ⟨fun j hj => ?_⟩ ⟨rfl⟩ ⟨hln⟩ ⟨HS⟩ ⟨fun i x y hx hy => ?_⟩ ⟨fun wx hg => ?_⟩).mono fun e w' ⟨h1, h2⟩ => ⟨h1, h2.mono fun k _ e => hset k e⟩
    · obtain ⟨r, hr, e3⟩ := get i hi
      obtain ⟨r2, hr2, e4⟩ := get j hj
      dsimp only at e1 e2
      rw [e3] at e1
      rw [e4] at e2
      exact hne (h.sp i j r r2 k hr hr2 e1 e2)
    · obtain ⟨r, hr, e⟩ := get j hj
      simp only [e]
      exact (h.ro r (List.mem_of_getElem? hr)).2.1
    · have h1 := congrArg (fun l => l[i]?) h.eq
      simp only [List.getElem?_map, hx, hy, Option.map_some, Option.some.injEq] at h1
      exact h1
    · refine hg.cell (by rw [← hvo]; exact h.bq.c 0 rfl) fun e => ?_
      obtain ⟨r, hr, e2⟩ := hset q e
      exact absurd ((owns_typ (h.ro r hr).1 e2).one h.bq.typ) (by decide)
end

theorem Tryd.in24 (w : World) (vs : Array Value) : (callFunc 24 vs).run Tryd.prog w = .ok (.enter 24 vs) w := by kernel_rfl
structure BkQ (w : World) (q : Nat) (vo vw : Value) (n : Int) (O Ws : List (Value × List Int)) : Prop where
  bq : Blk w q 38 #[vo, vw, .int .i64 n]
  lo : w.ownsRow 0 39 1 vo O.length (O.map (·.1))
  lw : w.ownsRow 0 39 1 vw Ws.length (Ws.map (·.1))
  ro : ∀ r ∈ O, Own w r.1 r.2 ∧ r.2.length ≤ 2097194 ∧ Byts r.2
  rw_ : ∀ r ∈ Ws, Own w r.1 r.2 ∧ Byts r.2
  sp : ∀ (i j : Nat) (a b : Value × List Int) (k : Nat), O[i]? = some a → O[j]? = some b → a.1.ownBlock = some k → b.1.ownBlock = some k → i = j
  few : O.length ≤ 30
  ne : ∀ k, vo.ownBlock = some k → vw.ownBlock ≠ some k
theorem BkAt.q {w : World} {q : Nat} {vo vw : Value} {n : Int} {O Ws : List (Value × List Int)} (h : BkAt w q vo vw n O Ws) : BkQ w q vo vw n O Ws := ⟨h.bq, h.lo, h.lw, h.ro, h.rw_, h.sp, h.few, h.ne⟩
theorem BkQ.at {w : World} {q : Nat} {vo vw : Value} {n : Int} {O Ws : List (Value × List Int)} (h : BkQ w q vo vw n O Ws) (e : O.map (·.2) = Ws.map (·.2)) : BkAt w q vo vw n O Ws := ⟨h.bq, h.lo, h.lw, h.ro, h.rw_, h.sp, e, h.few, h.ne⟩
section
variable {w w5 w6 w' : World} {q : Nat} {vo vw vo' vw' v u : Value} {n n' : Int} {O Ws : List (Value × List Int)} {b : List Int}
theorem BkQ.grown {S : Nat → Prop} (h : BkQ w q vo vw n O Ws) (hg : Grown w w' S) (hs : ∀ k, S k → ¬ BkS2 q vo vw O Ws k) : BkQ w' q vo vw n O Ws :=
  ⟨hg.blk h.bq fun e => hs _ e (.inl rfl), owns_grown h.lo hg fun k hk e => hs k e (.inr (.inl hk)), owns_grown h.lw hg fun k hk e => hs k e (.inr (.inr (.inl hk))), fun r hr => ⟨owns_grown (h.ro r hr).1 hg fun k hk e => hs k e (.inr (.inr (.inr (.inl ⟨r, hr, hk⟩)))), (h.ro r hr).2⟩, fun r hr => ⟨owns_grown (h.rw_ r hr).1 hg fun k hk e => hs k e (.inr (.inr (.inr (.inr ⟨r, hr, hk⟩)))), (h.rw_ r hr).2⟩, h.sp, h.few, h.ne⟩
theorem BkQ.below (h : BkQ w q vo vw n O Ws) (hb : Below w.heap.size w w') : BkQ w' q vo vw n O Ws := h.grown (Grown.below (S := fun _ => False) hb) fun _ e => e.elim
theorem BkQ.typ (h : BkQ w q vo vw n O Ws) {k : Nat} : (vo.ownBlock = some k → Typ w k 39) ∧ (vw.ownBlock = some k → Typ w k 39) ∧ (∀ r ∈ O, r.1.ownBlock = some k → Typ w k 5) ∧ ∀ r ∈ Ws, r.1.ownBlock = some k → Typ w k 5 :=
  ⟨fun e => owns_typ h.lo e, fun e => owns_typ h.lw e, fun r hr e => owns_typ (h.ro r hr).1 e, fun r hr e => owns_typ (h.rw_ r hr).1 e⟩
theorem BkQ.pushO (h : BkQ w q vo vw n O Ws) (hlo : w6.ownsRow 0 39 1 vo' (O.length + 1) (O.map (·.1) ++ [v])) (hg : Grown w w6 fun k => vo.ownBlock = some k) (hm : vo'.ownBlock = vo.ownBlock ∨ ∃ k, vo'.ownBlock = some k ∧ w.heap.size ≤ k)
    (hv : Own w v b) (hl : b.length ≤ 2097194) (hB : Byts b) (hd : ∀ k, v.ownBlock = some k → ¬ BkS2 q vo vw O Ws k) (hf : O.length < 30) : BkQ (w6.setCell ⟨q, 0, none⟩ vo') q vo' vw n (O ++ [(v, b)]) Ws := by
  have hq := h.bq.typ
  have hg2 : Grown w6 (w6.setCell ⟨q, 0, none⟩ vo') fun k => k = q := Grown.setCell w6 q 0 _ fun _ => rfl
  have hq6 : Blk w6 q 38 #[vo, vw, .int .i64 n] := hg.blk h.bq fun e => absurd ((h.typ.1 e).one hq) (by decide)
  have q6 := hq6.typ
  have own2 : ∀ (r : Value) (c : List Int), Own w r c → Own (w6.setCell ⟨q, 0, none⟩ vo') r c := fun r c hr => by
    have h1 : Own w6 r c := owns_grown hr hg fun k hk e => absurd ((owns_typ hr hk).one (h.typ.1 e)) (by decide)
    exact owns_grown h1 hg2 fun k hk e => absurd ((owns_typ h1 hk).one (e ▸ q6)) (by decide)
  have lw6 : w6.ownsRow 0 39 1 vw Ws.length (Ws.map (·.1)) := owns_grown h.lw hg fun k hk e => h.ne k e hk
  refine ⟨by simpa using hq6.set 0 vo', ?_, owns_grown lw6 hg2 fun k hk e => absurd ((owns_typ lw6 hk).one (e ▸ q6)) (by decide), fun r hr => ?_, fun r hr => ⟨own2 _ _ (h.rw_ r hr).1, (h.rw_ r hr).2⟩, fun i j a c k hi hj e1 e2 => ?_, by rw [List.length_append]; simp; omega, fun k hk e => ?_⟩
  · have h1 := owns_grown hlo hg2 fun k hk e => absurd ((owns_typ hlo hk).one (e ▸ q6)) (by decide)
    simpa using h1
  · rcases List.mem_append.1 hr with hr | hr
    · exact ⟨own2 _ _ (h.ro r hr).1, (h.ro r hr).2⟩
    · rw [List.mem_singleton.1 hr]; exact ⟨own2 _ _ hv, hl, hB⟩
  · have two : ∀ (s : Nat) (y : Value × List Int), (O ++ [(v, b)])[s]? = some y → O[s]? = some y ∨ (s = O.length ∧ y = (v, b)) := fun s y hs => by
      rcases Nat.lt_trichotomy s O.length with hl | hl | hl
      · rw [List.getElem?_append_left hl] at hs; exact .inl hs
      · subst hl
        rw [List.getElem?_append_right (Nat.le_refl _), Nat.sub_self] at hs
        simp at hs; exact .inr ⟨rfl, hs.symm⟩
      · rw [List.getElem?_eq_none (by simp; omega)] at hs; cases hs
    rcases two i a hi with hi | ⟨rfl, rfl⟩ <;> rcases two j c hj with hj | ⟨rfl, rfl⟩
    · exact h.sp i j a c k hi hj e1 e2
    · exact absurd (.inr (.inr (.inr (.inl ⟨a, List.mem_of_getElem? hi, e1⟩)))) (hd k e2)
    · exact absurd (.inr (.inr (.inr (.inl ⟨c, List.mem_of_getElem? hj, e2⟩)))) (hd k e1)
    · rfl
  · rcases hm with e3 | ⟨k2, e3, h2⟩
    · exact h.ne k (e3 ▸ hk) e
    · rw [e3] at hk; injection hk with hk
      have := (owns_lt h.lw k e).2; omega
theorem BkQ.pushW (h : BkQ w q vo vw n O Ws) (hlw : w6.ownsRow 0 39 1 vw' (Ws.length + 1) (Ws.map (·.1) ++ [u])) (hg : Grown w w6 fun k => vw.ownBlock = some k) (hm : vw'.ownBlock = vw.ownBlock ∨ ∃ k, vw'.ownBlock = some k ∧ w.heap.size ≤ k)
    (hu : Own w u b) (hB : Byts b) : BkQ (w6.setCell ⟨q, 1, none⟩ vw') q vo vw' n O (Ws ++ [(u, b)]) := by
  have hq := h.bq.typ
  have hg2 : Grown w6 (w6.setCell ⟨q, 1, none⟩ vw') fun k => k = q := Grown.setCell w6 q 1 _ fun _ => rfl
  have hq6 : Blk w6 q 38 #[vo, vw, .int .i64 n] := hg.blk h.bq fun e => absurd ((h.typ.2.1 e).one hq) (by decide)
  have q6 := hq6.typ
  have own2 : ∀ (r : Value) (c : List Int), Own w r c → Own (w6.setCell ⟨q, 1, none⟩ vw') r c := fun r c hr => by
    have h1 : Own w6 r c := owns_grown hr hg fun k hk e => absurd ((owns_typ hr hk).one (h.typ.2.1 e)) (by decide)
    exact owns_grown h1 hg2 fun k hk e => absurd ((owns_typ h1 hk).one (e ▸ q6)) (by decide)
  have lo6 : w6.ownsRow 0 39 1 vo O.length (O.map (·.1)) := owns_grown h.lo hg fun k hk e => h.ne k hk e
  refine ⟨by simpa using hq6.set 1 vw', owns_grown lo6 hg2 fun k hk e => absurd ((owns_typ lo6 hk).one (e ▸ q6)) (by decide), ?_, fun r hr => ⟨own2 _ _ (h.ro r hr).1, (h.ro r hr).2⟩, fun r hr => ?_, h.sp, h.few, fun k hk e => ?_⟩
  · have h1 := owns_grown hlw hg2 fun k hk e => absurd ((owns_typ hlw hk).one (e ▸ q6)) (by decide)
    simpa using h1
  · rcases List.mem_append.1 hr with hr | hr
    · exact ⟨own2 _ _ (h.rw_ r hr).1, (h.rw_ r hr).2⟩
    · rw [List.mem_singleton.1 hr]; exact ⟨own2 _ _ hu, hB⟩
  · rcases hm with e3 | ⟨k2, e3, h2⟩
    · exact h.ne k hk (e3 ▸ e)
    · rw [e3] at e; injection e with e
      have := (owns_lt h.lo k hk).2; omega
theorem BkQ.setN (h : BkQ w q vo vw n O Ws) (n' : Int) : BkQ (w.setCell ⟨q, 2, none⟩ (.int .i64 n')) q vo vw n' O Ws := by
  have hg2 : Grown w (w.setCell ⟨q, 2, none⟩ (.int .i64 n')) fun k => k = q := Grown.setCell w q 2 _ fun _ => rfl
  have q6 := h.bq.typ
  exact ⟨by simpa using h.bq.set 2 (.int .i64 n'), owns_grown h.lo hg2 fun k hk e => absurd ((owns_typ h.lo hk).one (e ▸ q6)) (by decide), owns_grown h.lw hg2 fun k hk e => absurd ((owns_typ h.lw hk).one (e ▸ q6)) (by decide), fun r hr => ⟨owns_grown (h.ro r hr).1 hg2 fun k hk e => absurd ((owns_typ (h.ro r hr).1 hk).one (e ▸ q6)) (by decide), (h.ro r hr).2⟩, fun r hr => ⟨owns_grown (h.rw_ r hr).1 hg2 fun k hk e => absurd ((owns_typ (h.rw_ r hr).1 hk).one (e ▸ q6)) (by decide), (h.rw_ r hr).2⟩, h.sp, h.few, h.ne⟩
end
structure TS (w : World) (p mb x g N : Nat) (P K : List Lk) (q : Nat) (vo vw : Value) (n : Int) (O Ws : List (Value × List Int)) : Prop where
  pr : PR w p mb x g N P K
  eq : EqL P K
  bk : BkAt w q vo vw n O Ws
  dj : ∀ k, BkS2 q vo vw O Ws k → ¬ PrS p mb x g P K k
  cnt : O.length < 30 ∧ 0 ≤ n ∧ n < 16777216
def TU (p mb x g : Nat) (P K : List Lk) (q : Nat) (vo vw : Value) (O Ws : List (Value × List Int)) (k : Nat) : Prop := PrS p mb x g P K k ∨ BkS2 q vo vw O Ws k
theorem TS.after {w w1 w' : World} {p mb x g N q : Nat} {P K P' K' : List Lk} {vo vw : Value} {n : Int} {O Ws : List (Value × List Int)} (h : TS w p mb x g N P K q vo vw n O Ws) (hb : Below w.heap.size w w1) (k : PrN w1 p mb x g N P K P' K' w') (e : EqL P' K') :
    TS w' p mb x g N P' K' q vo vw n O Ws ∧ Grown w w' (TU p mb x g P K q vo vw O Ws) ∧ ∀ m, TU p mb x g P' K' q vo vw O Ws m → TU p mb x g P K q vo vw O Ws m ∨ w.heap.size ≤ m := by
  refine ⟨⟨k.at_, e, (h.bk.below hb).grown k.gr fun m e1 e2 => h.dj m e2 e1, fun m hm e1 => ?_, h.cnt⟩, ((Grown.below hb).trans (k.gr.mono fun _ _ e => .inl e)), fun m hm => ?_⟩
  · rcases k.new m e1 with e2 | e2
    · exact h.dj m hm e2
    · have := h.bk.lt m hm; have := hb.size; omega
  · rcases hm with e1 | e1
    · rcases k.new m e1 with e2 | e2
      · exact .inl (.inl e2)
      · exact .inr (Nat.le_trans hb.size e2)
    · exact .inl (.inr e1)
theorem eq_no1 (w : World) : (binOp .eql 24 (.iface 27 (.int .i64 1)) (.iface 27 (.int .i64 1))).run Tryd.prog w = .ok (.bool true) w := by kernel_rfl
set_option maxRecDepth 8000 in
theorem tka_idle (w : World) (p mb x g N q : Nat) (Ps Ks : List Lk) (vo vw : Value) (n : Int) (O Ws : List (Value × List Int)) (qe : Addr) (kd f t i j m by_ : Int) (vb : Value) (HT : Keep (TS w p mb x g N Ps Ks q vo vw n O Ws)) (HE : Keep (ErrI w qe)) (HZ : Keep (¬ PrS p mb x g Ps Ks 0)) (htk : tkE N Ks f t = -1) : Calls Tryd.prog 24 #[.agg #[.pointer (some ⟨p, 0, none⟩), .pointer (some ⟨x, 0, none⟩)], .agg #[.int .i64 kd, .int .i64 f, .int .i64 t, .int .i64 i, .int .i64 j, .int .i64 m, .int .u8 by_, vb], .pointer (some ⟨q, 0, none⟩)] w fun e w' => e = .returned (.bool true) ∧ ∃ P' K' vo' vw' n' O' Ws', TS w' p mb x g N P' K' q vo' vw' n' O' Ws' ∧ Grown w w' (TU p mb x g Ps Ks q vo vw O Ws) ∧ ∀ k, TU p mb x g P' K' q vo' vw' O' Ws' k → TU p mb x g Ps Ks q vo vw O Ws k ∨ w.heap.size ≤ k := by
  go_enter Tryd.func24, Tryd.ntmps24
  refine wp_seq_k fun K1 hK1 => ?_
  refine wp_region_list (WL.out ?_)
  have HR : Keep (PR w p mb x g N Ps Ks) := ⟨HT.out.pr⟩
  have HEq : Keep (EqL Ps Ks) := ⟨HT.out.eq⟩
  refine WL.box (by kernel_rfl) 34 (.tmp 0) rfl #[.pointer (some ⟨p, 0, none⟩), .pointer (some ⟨x, 0, none⟩)] rfl ?_
  have b1 := below_new w (.cells #[.pointer (some ⟨p, 0, none⟩), .pointer (some ⟨x, 0, none⟩)] 34)
  have Q3 := Keep.mk (Blk.new w 34 #[.pointer (some ⟨p, 0, none⟩), .pointer (some ⟨x, 0, none⟩)])
  generalize w.alloc (.cells #[.pointer (some ⟨p, 0, none⟩), .pointer (some ⟨x, 0, none⟩)] 34) = w1 at *
  obtain ⟨b3, hb3⟩ : ∃ z, Keep (z = w.heap.size) := ⟨_, ⟨rfl⟩⟩
  rw [← hb3.out] at Q3 ⊢
  simp only [Act.put, List.setIfInBounds_toArray, List.set_cons_zero, List.set_cons_succ]
  refine WL.box (by kernel_rfl) 41 (.tmp 1) rfl #[.int .i64 kd, .int .i64 f, .int .i64 t, .int .i64 i, .int .i64 j, .int .i64 m, .int .u8 by_, vb] rfl ?_
  have b2 := below_new w1 (.cells #[.int .i64 kd, .int .i64 f, .int .i64 t, .int .i64 i, .int .i64 j, .int .i64 m, .int .u8 by_, vb] 41)
  have Q4 := Keep.mk (Blk.new w1 41 #[.int .i64 kd, .int .i64 f, .int .i64 t, .int .i64 i, .int .i64 j, .int .i64 m, .int .u8 by_, vb])
  have Q3 := Keep.mk (Q3.out.alloc (.cells #[.int .i64 kd, .int .i64 f, .int .i64 t, .int .i64 i, .int .i64 j, .int .i64 m, .int .u8 by_, vb] 41))
  have hb2 := below_new w1 (.cells #[.int .i64 kd, .int .i64 f, .int .i64 t, .int .i64 i, .int .i64 j, .int .i64 m, .int .u8 by_, vb] 41)
  generalize w1.alloc (.cells #[.int .i64 kd, .int .i64 f, .int .i64 t, .int .i64 i, .int .i64 j, .int .i64 m, .int .u8 by_, vb] 41) = w2 at *
  obtain ⟨b4, hb4⟩ : ∃ z, Keep (z = w1.heap.size) := ⟨_, ⟨rfl⟩⟩
  rw [← hb4.out] at Q4 ⊢
  have HB2 : Keep (Below w.heap.size w w2) := ⟨b1.trans (b2.mono b1.size)⟩
  have R2 := Keep.mk (HR.out.below HB2.out)
  have HF3 : Keep (∀ k, PrS p mb x g Ps Ks k → k ≠ b3 ∧ k ≠ b4) := ⟨fun k hk => by have := HR.out.lt k hk; have := hb3.out; have := hb4.out; have := b1.size; omega⟩
  clear b1 b2 hb2
  have c3_0 := Q3.out.c 0 (rfl : _ = some (Value.pointer (some ⟨p, 0, none⟩)))
  have c3_1 := Q3.out.c 1 (rfl : _ = some (Value.pointer (some ⟨x, 0, none⟩)))
  have c4_0 := Q4.out.c 0 (rfl : _ = some (Value.int .i64 kd))
  have c4_1 := Q4.out.c 1 (rfl : _ = some (Value.int .i64 f))
  have c4_2 := Q4.out.c 2 (rfl : _ = some (Value.int .i64 t))
  have c4_3 := Q4.out.c 3 (rfl : _ = some (Value.int .i64 i))
  have c4_4 := Q4.out.c 4 (rfl : _ = some (Value.int .i64 j))
  have c4_5 := Q4.out.c 5 (rfl : _ = some (Value.int .i64 m))
  have c4_6 := Q4.out.c 6 (rfl : _ = some (Value.int .u8 by_))
  simp only [Act.put, List.setIfInBounds_toArray, List.set_cons_zero, List.set_cons_succ]
  refine WL.val (by kernel_rfl) (.bool false) (by go_simp) ?_
  simp only [Act.put, List.setIfInBounds_toArray, List.set_cons_zero, List.set_cons_succ]
  refine WL.nil ?_
  refine hK1 _ _ ?_
  refine wp_seq_k fun K2 hK2 => ?_
  refine wp_region_list (WL.out ?_)
  refine WL.val (by kernel_rfl) (.pointer (some ⟨b3, 0, none⟩)) (by go_simp) ?_
  simp only [Act.put, List.setIfInBounds_toArray, List.set_cons_zero, List.set_cons_succ]
  refine WL.val (by kernel_rfl) (.pointer (some ⟨p, 0, none⟩)) (by go_simp) ?_
  simp only [Act.put, List.setIfInBounds_toArray, List.set_cons_zero, List.set_cons_succ]
  refine WL.val (by kernel_rfl) (.pointer (some ⟨b4, 1, none⟩)) (by go_simp) ?_
  simp only [Act.put, List.setIfInBounds_toArray, List.set_cons_zero, List.set_cons_succ]
  refine WL.val (by kernel_rfl) (.int .i64 f) (by go_simp) ?_
  simp only [Act.put, List.setIfInBounds_toArray, List.set_cons_zero, List.set_cons_succ]
  refine WL.val (by kernel_rfl) (.pointer (some ⟨b4, 2, none⟩)) (by go_simp) ?_
  simp only [Act.put, List.setIfInBounds_toArray, List.set_cons_zero, List.set_cons_succ]
  refine WL.val (by kernel_rfl) (.int .i64 t) (by go_simp) ?_
  simp only [Act.put, List.setIfInBounds_toArray, List.set_cons_zero, List.set_cons_succ]
  refine WL.callF (by kernel_rfl) 16 _ _ rfl Tryd.in16 #[.pointer (some ⟨p, 0, none⟩), .int .i64 f, .int .i64 t] (by simp [Act.eval]) ?_
  refine (ptk w2 p mb N Ps f t qe ⟨HE.out.grown (Grown.below (S := fun _ => False) HB2.out) id⟩ ⟨fun e => HZ.out (.inl e)⟩ ⟨R2.out.pm⟩).mono ?_
  rintro e w3 ⟨v, ev, P1, rfl, he, n9, k2, k3⟩
  refine ⟨_, rfl, ?_⟩
  clear c3_0 c3_1 c4_0 c4_1 c4_2 c4_3 c4_4 c4_5 c4_6
  have N3 := Keep.mk (R2.out.prog n9)
  have X3 := Keep.mk (N3.out.gr.blk Q3.out fun e => (HF3.out _ e).1 rfl)
  have X4 := Keep.mk (N3.out.gr.blk Q4.out fun e => (HF3.out _ e).2 rfl)
  have He := Keep.mk he
  have Hk2 := Keep.mk k2
  have Hk3 := Keep.mk k3
  clear he n9 k2 k3
  have c3_0 := X3.out.c 0 (rfl : _ = some (Value.pointer (some ⟨p, 0, none⟩)))
  have c3_1 := X3.out.c 1 (rfl : _ = some (Value.pointer (some ⟨x, 0, none⟩)))
  have c4_0 := X4.out.c 0 (rfl : _ = some (Value.int .i64 kd))
  have c4_1 := X4.out.c 1 (rfl : _ = some (Value.int .i64 f))
  have c4_2 := X4.out.c 2 (rfl : _ = some (Value.int .i64 t))
  have c4_3 := X4.out.c 3 (rfl : _ = some (Value.int .i64 i))
  have c4_4 := X4.out.c 4 (rfl : _ = some (Value.int .i64 j))
  have c4_5 := X4.out.c 5 (rfl : _ = some (Value.int .i64 m))
  have c4_6 := X4.out.c 6 (rfl : _ = some (Value.int .u8 by_))
  simp only [Act.put, List.setIfInBounds_toArray, List.set_cons_zero, List.set_cons_succ]
  refine WL.val (by kernel_rfl) (.tuple #[v, ev]) (by go_simp) ?_
  simp only [Act.put, List.setIfInBounds_toArray, List.set_cons_zero, List.set_cons_succ]
  refine WL.val (by kernel_rfl) (v) (by go_simp) ?_
  simp only [Act.put, List.setIfInBounds_toArray, List.set_cons_zero, List.set_cons_succ]
  refine WL.val (by kernel_rfl) (ev) (by go_simp) ?_
  simp only [Act.put, List.setIfInBounds_toArray, List.set_cons_zero, List.set_cons_succ]
  refine WL.val (by kernel_rfl) (v) (by go_simp) ?_
  simp only [Act.put, List.setIfInBounds_toArray, List.set_cons_zero, List.set_cons_succ]
  refine WL.val (by kernel_rfl) (ev) (by go_simp) ?_
  simp only [Act.put, List.setIfInBounds_toArray, List.set_cons_zero, List.set_cons_succ]
  refine WL.nil ?_
  refine hK2 _ _ ?_
  refine wp_seq_k fun K3 hK3 => ?_
  refine wp_region_list (WL.out ?_)
  refine WL.val (by kernel_rfl) (.pointer (some ⟨b3, 1, none⟩)) (by go_simp) ?_
  simp only [Act.put, List.setIfInBounds_toArray, List.set_cons_zero, List.set_cons_succ]
  refine WL.val (by kernel_rfl) (.pointer (some ⟨x, 0, none⟩)) (by go_simp) ?_
  simp only [Act.put, List.setIfInBounds_toArray, List.set_cons_zero, List.set_cons_succ]
  refine WL.val (by kernel_rfl) (.pointer (some ⟨b4, 1, none⟩)) (by go_simp) ?_
  simp only [Act.put, List.setIfInBounds_toArray, List.set_cons_zero, List.set_cons_succ]
  refine WL.val (by kernel_rfl) (.int .i64 f) (by go_simp) ?_
  simp only [Act.put, List.setIfInBounds_toArray, List.set_cons_zero, List.set_cons_succ]
  refine WL.val (by kernel_rfl) (.pointer (some ⟨b4, 2, none⟩)) (by go_simp) ?_
  simp only [Act.put, List.setIfInBounds_toArray, List.set_cons_zero, List.set_cons_succ]
  refine WL.val (by kernel_rfl) (.int .i64 t) (by go_simp) ?_
  simp only [Act.put, List.setIfInBounds_toArray, List.set_cons_zero, List.set_cons_succ]
  refine WL.callF (by kernel_rfl) 44 _ _ rfl Tryd.in44 #[.pointer (some ⟨x, 0, none⟩), .int .i64 f, .int .i64 t] (by simp [Act.eval]) ?_
  refine (rtake_any w3 x g N Ks f t N3.out.at_.rm).mono ?_
  rintro e w4 ⟨y, K1, rfl, n2, d2, d3⟩
  refine ⟨_, rfl, ?_⟩
  clear c3_0 c3_1 c4_0 c4_1 c4_2 c4_3 c4_4 c4_5 c4_6
  have N4 := Keep.mk (N3.out.trans (N3.out.at_.ref n2))
  obtain ⟨hE, hno, _⟩ := eq_take HEq.out Hk2.out Hk3.out d2 d3
  obtain ⟨hp1, hk1, hv1, hy1⟩ := hno (by rw [htk]; decide)
  have hev : ev = .iface 105 (.pointer (some qe)) := by rw [He.out, HEq.out.tk, htk]; rfl
  have hp1 := hp1.symm
  have hk1 := hk1.symm
  subst hp1 hk1 hv1 hy1 hev
  rw [htk]
  have g_ := ((HE.out.grown (Grown.below (S := fun _ => False) HB2.out) id).grown N4.out.gr HZ.out).c
  clear n2 d2 d3 hE hno
  simp only [Act.put, List.setIfInBounds_toArray, List.set_cons_zero, List.set_cons_succ]
  refine WL.val (by kernel_rfl) (.tuple #[.slice none 0 0, .int .i64 (-1)]) (by go_simp) ?_
  simp only [Act.put, List.setIfInBounds_toArray, List.set_cons_zero, List.set_cons_succ]
  refine WL.val (by kernel_rfl) (.slice none 0 0) (by go_simp) ?_
  simp only [Act.put, List.setIfInBounds_toArray, List.set_cons_zero, List.set_cons_succ]
  refine WL.val (by kernel_rfl) (.int .i64 (-1)) (by go_simp) ?_
  simp only [Act.put, List.setIfInBounds_toArray, List.set_cons_zero, List.set_cons_succ]
  refine WL.val (by kernel_rfl) (.slice none 0 0) (by go_simp) ?_
  simp only [Act.put, List.setIfInBounds_toArray, List.set_cons_zero, List.set_cons_succ]
  refine WL.val (by kernel_rfl) (.int .i64 (-1)) (by go_simp) ?_
  simp only [Act.put, List.setIfInBounds_toArray, List.set_cons_zero, List.set_cons_succ]
  refine WL.nil ?_
  refine hK3 _ _ ?_
  refine wp_seq_k fun K4 hK4 => ?_
  refine wp_seq_k fun K5 hK5 => ?_
  refine wp_region_list (WL.out ?_)
  refine WL.val (by kernel_rfl) (.int .i64 (-1)) (by go_simp) ?_
  simp only [Act.put, List.setIfInBounds_toArray, List.set_cons_zero, List.set_cons_succ]
  refine WL.val (by kernel_rfl) (.bool true) (by go_simp) ?_
  simp only [Act.put, List.setIfInBounds_toArray, List.set_cons_zero, List.set_cons_succ]
  refine WL.nil ?_
  refine hK5 _ _ ?_
  refine wp_cond_true rfl ?_
  refine wp_seq_k fun K6 hK6 => ?_
  refine wp_seq_k fun K7 hK7 => ?_
  refine wp_region_list (WL.out ?_)
  refine WL.val (by kernel_rfl) (.int .i64 (-1)) (by go_simp) ?_
  simp only [Act.put, List.setIfInBounds_toArray, List.set_cons_zero, List.set_cons_succ]
  refine WL.val (by kernel_rfl) (.bool true) (by go_simp) ?_
  simp only [Act.put, List.setIfInBounds_toArray, List.set_cons_zero, List.set_cons_succ]
  refine WL.nil ?_
  refine hK7 _ _ ?_
  refine wp_cond_true rfl ?_
  refine wp_seq_k fun K8 hK8 => ?_
  refine wp_region_list (WL.out ?_)
  refine WL.val (by kernel_rfl) (.slice none 0 0) (by go_simp) ?_
  simp only [Act.put, List.setIfInBounds_toArray, List.set_cons_zero, List.set_cons_succ]
  refine WL.val (by kernel_rfl) (.int .i64 0) (by go_simp) ?_
  simp only [Act.put, List.setIfInBounds_toArray, List.set_cons_zero, List.set_cons_succ]
  refine WL.val (by kernel_rfl) (.bool true) (by go_simp) ?_
  simp only [Act.put, List.setIfInBounds_toArray, List.set_cons_zero, List.set_cons_succ]
  refine WL.val (by kernel_rfl) (.bool true) (by go_simp) ?_
  simp only [Act.put, List.setIfInBounds_toArray, List.set_cons_zero, List.set_cons_succ]
  refine WL.val (by kernel_rfl) (.iface 105 (.pointer (some qe))) (by go_simp) ?_
  simp only [Act.put, List.setIfInBounds_toArray, List.set_cons_zero, List.set_cons_succ]
  refine WL.val (by kernel_rfl) (.iface 105 (.pointer (some qe))) (by go_simp) ?_
  simp only [Act.put, List.setIfInBounds_toArray, List.set_cons_zero, List.set_cons_succ]
  refine WL.val (by kernel_rfl) (.bool true) (by have h := eq_idle qe w4; go_simp) ?_
  simp only [Act.put, List.setIfInBounds_toArray, List.set_cons_zero, List.set_cons_succ]
  refine WL.val (by kernel_rfl) (.bool true) (by go_simp) ?_
  simp only [Act.put, List.setIfInBounds_toArray, List.set_cons_zero, List.set_cons_succ]
  refine WL.val (by kernel_rfl) (.bool true) (by go_simp) ?_
  simp only [Act.put, List.setIfInBounds_toArray, List.set_cons_zero, List.set_cons_succ]
  refine WL.nil ?_
  refine hK8 _ _ ?_
  refine wp_ret ?_
  go_ret
  exact ⟨rfl, Ps, Ks, vo, vw, n, O, Ws, HT.out.after HB2.out N4.out HEq.out⟩
set_option maxRecDepth 8000 in
theorem tka_no (w : World) (p mb x g N q : Nat) (Ps Ks : List Lk) (vo vw : Value) (n : Int) (O Ws : List (Value × List Int)) (qe : Addr) (kd f t i j m by_ : Int) (vb : Value) (HT : Keep (TS w p mb x g N Ps Ks q vo vw n O Ws)) (HE : Keep (ErrI w qe)) (HZ : Keep (¬ PrS p mb x g Ps Ks 0)) (htk : tkE N Ks f t = 1) : Calls Tryd.prog 24 #[.agg #[.pointer (some ⟨p, 0, none⟩), .pointer (some ⟨x, 0, none⟩)], .agg #[.int .i64 kd, .int .i64 f, .int .i64 t, .int .i64 i, .int .i64 j, .int .i64 m, .int .u8 by_, vb], .pointer (some ⟨q, 0, none⟩)] w fun e w' => e = .returned (.bool true) ∧ ∃ P' K' vo' vw' n' O' Ws', TS w' p mb x g N P' K' q vo' vw' n' O' Ws' ∧ Grown w w' (TU p mb x g Ps Ks q vo vw O Ws) ∧ ∀ k, TU p mb x g P' K' q vo' vw' O' Ws' k → TU p mb x g Ps Ks q vo vw O Ws k ∨ w.heap.size ≤ k := by
  go_enter Tryd.func24, Tryd.ntmps24
  refine wp_seq_k fun K1 hK1 => ?_
  refine wp_region_list (WL.out ?_)
  have HR : Keep (PR w p mb x g N Ps Ks) := ⟨HT.out.pr⟩
  have HEq : Keep (EqL Ps Ks) := ⟨HT.out.eq⟩
  refine WL.box (by kernel_rfl) 34 (.tmp 0) rfl #[.pointer (some ⟨p, 0, none⟩), .pointer (some ⟨x, 0, none⟩)] rfl ?_
  have b1 := below_new w (.cells #[.pointer (some ⟨p, 0, none⟩), .pointer (some ⟨x, 0, none⟩)] 34)
  have Q3 := Keep.mk (Blk.new w 34 #[.pointer (some ⟨p, 0, none⟩), .pointer (some ⟨x, 0, none⟩)])
  generalize w.alloc (.cells #[.pointer (some ⟨p, 0, none⟩), .pointer (some ⟨x, 0, none⟩)] 34) = w1 at *
  obtain ⟨b3, hb3⟩ : ∃ z, Keep (z = w.heap.size) := ⟨_, ⟨rfl⟩⟩
  rw [← hb3.out] at Q3 ⊢
  simp only [Act.put, List.setIfInBounds_toArray, List.set_cons_zero, List.set_cons_succ]
  refine WL.box (by kernel_rfl) 41 (.tmp 1) rfl #[.int .i64 kd, .int .i64 f, .int .i64 t, .int .i64 i, .int .i64 j, .int .i64 m, .int .u8 by_, vb] rfl ?_
  have b2 := below_new w1 (.cells #[.int .i64 kd, .int .i64 f, .int .i64 t, .int .i64 i, .int .i64 j, .int .i64 m, .int .u8 by_, vb] 41)
  have Q4 := Keep.mk (Blk.new w1 41 #[.int .i64 kd, .int .i64 f, .int .i64 t, .int .i64 i, .int .i64 j, .int .i64 m, .int .u8 by_, vb])
  have Q3 := Keep.mk (Q3.out.alloc (.cells #[.int .i64 kd, .int .i64 f, .int .i64 t, .int .i64 i, .int .i64 j, .int .i64 m, .int .u8 by_, vb] 41))
  have hb2 := below_new w1 (.cells #[.int .i64 kd, .int .i64 f, .int .i64 t, .int .i64 i, .int .i64 j, .int .i64 m, .int .u8 by_, vb] 41)
  generalize w1.alloc (.cells #[.int .i64 kd, .int .i64 f, .int .i64 t, .int .i64 i, .int .i64 j, .int .i64 m, .int .u8 by_, vb] 41) = w2 at *
  obtain ⟨b4, hb4⟩ : ∃ z, Keep (z = w1.heap.size) := ⟨_, ⟨rfl⟩⟩
  rw [← hb4.out] at Q4 ⊢
  have HB2 : Keep (Below w.heap.size w w2) := ⟨b1.trans (b2.mono b1.size)⟩
  have R2 := Keep.mk (HR.out.below HB2.out)
  have HF3 : Keep (∀ k, PrS p mb x g Ps Ks k → k ≠ b3 ∧ k ≠ b4) := ⟨fun k hk => by have := HR.out.lt k hk; have := hb3.out; have := hb4.out; have := b1.size; omega⟩
  clear b1 b2 hb2
  have c3_0 := Q3.out.c 0 (rfl : _ = some (Value.pointer (some ⟨p, 0, none⟩)))
  have c3_1 := Q3.out.c 1 (rfl : _ = some (Value.pointer (some ⟨x, 0, none⟩)))
  have c4_0 := Q4.out.c 0 (rfl : _ = some (Value.int .i64 kd))
  have c4_1 := Q4.out.c 1 (rfl : _ = some (Value.int .i64 f))
  have c4_2 := Q4.out.c 2 (rfl : _ = some (Value.int .i64 t))
  have c4_3 := Q4.out.c 3 (rfl : _ = some (Value.int .i64 i))
  have c4_4 := Q4.out.c 4 (rfl : _ = some (Value.int .i64 j))
  have c4_5 := Q4.out.c 5 (rfl : _ = some (Value.int .i64 m))
  have c4_6 := Q4.out.c 6 (rfl : _ = some (Value.int .u8 by_))
  simp only [Act.put, List.setIfInBounds_toArray, List.set_cons_zero, List.set_cons_succ]
  refine WL.val (by kernel_rfl) (.bool false) (by go_simp) ?_
  simp only [Act.put, List.setIfInBounds_toArray, List.set_cons_zero, List.set_cons_succ]
  refine WL.nil ?_
  refine hK1 _ _ ?_
  refine wp_seq_k fun K2 hK2 => ?_
  refine wp_region_list (WL.out ?_)
  refine WL.val (by kernel_rfl) (.pointer (some ⟨b3, 0, none⟩)) (by go_simp) ?_
  simp only [Act.put, List.setIfInBounds_toArray, List.set_cons_zero, List.set_cons_succ]
  refine WL.val (by kernel_rfl) (.pointer (some ⟨p, 0, none⟩)) (by go_simp) ?_
  simp only [Act.put, List.setIfInBounds_toArray, List.set_cons_zero, List.set_cons_succ]
  refine WL.val (by kernel_rfl) (.pointer (some ⟨b4, 1, none⟩)) (by go_simp) ?_
  simp only [Act.put, List.setIfInBounds_toArray, List.set_cons_zero, List.set_cons_succ]
  refine WL.val (by kernel_rfl) (.int .i64 f) (by go_simp) ?_
  simp only [Act.put, List.setIfInBounds_toArray, List.set_cons_zero, List.set_cons_succ]
  refine WL.val (by kernel_rfl) (.pointer (some ⟨b4, 2, none⟩)) (by go_simp) ?_
  simp only [Act.put, List.setIfInBounds_toArray, List.set_cons_zero, List.set_cons_succ]
  refine WL.val (by kernel_rfl) (.int .i64 t) (by go_simp) ?_
  simp only [Act.put, List.setIfInBounds_toArray, List.set_cons_zero, List.set_cons_succ]
  refine WL.callF (by kernel_rfl) 16 _ _ rfl Tryd.in16 #[.pointer (some ⟨p, 0, none⟩), .int .i64 f, .int .i64 t] (by simp [Act.eval]) ?_
  refine (ptk w2 p mb N Ps f t qe ⟨HE.out.grown (Grown.below (S := fun _ => False) HB2.out) id⟩ ⟨fun e => HZ.out (.inl e)⟩ ⟨R2.out.pm⟩).mono ?_
  rintro e w3 ⟨v, ev, P1, rfl, he, n9, k2, k3⟩
  refine ⟨_, rfl, ?_⟩
  clear c3_0 c3_1 c4_0 c4_1 c4_2 c4_3 c4_4 c4_5 c4_6
  have N3 := Keep.mk (R2.out.prog n9)
  have X3 := Keep.mk (N3.out.gr.blk Q3.out fun e => (HF3.out _ e).1 rfl)
  have X4 := Keep.mk (N3.out.gr.blk Q4.out fun e => (HF3.out _ e).2 rfl)
  have He := Keep.mk he
  have Hk2 := Keep.mk k2
  have Hk3 := Keep.mk k3
  clear he n9 k2 k3
  have c3_0 := X3.out.c 0 (rfl : _ = some (Value.pointer (some ⟨p, 0, none⟩)))
  have c3_1 := X3.out.c 1 (rfl : _ = some (Value.pointer (some ⟨x, 0, none⟩)))
  have c4_0 := X4.out.c 0 (rfl : _ = some (Value.int .i64 kd))
  have c4_1 := X4.out.c 1 (rfl : _ = some (Value.int .i64 f))
  have c4_2 := X4.out.c 2 (rfl : _ = some (Value.int .i64 t))
  have c4_3 := X4.out.c 3 (rfl : _ = some (Value.int .i64 i))
  have c4_4 := X4.out.c 4 (rfl : _ = some (Value.int .i64 j))
  have c4_5 := X4.out.c 5 (rfl : _ = some (Value.int .i64 m))
  have c4_6 := X4.out.c 6 (rfl : _ = some (Value.int .u8 by_))
  simp only [Act.put, List.setIfInBounds_toArray, List.set_cons_zero, List.set_cons_succ]
  refine WL.val (by kernel_rfl) (.tuple #[v, ev]) (by go_simp) ?_
  simp only [Act.put, List.setIfInBounds_toArray, List.set_cons_zero, List.set_cons_succ]
  refine WL.val (by kernel_rfl) (v) (by go_simp) ?_
  simp only [Act.put, List.setIfInBounds_toArray, List.set_cons_zero, List.set_cons_succ]
  refine WL.val (by kernel_rfl) (ev) (by go_simp) ?_
  simp only [Act.put, List.setIfInBounds_toArray, List.set_cons_zero, List.set_cons_succ]
  refine WL.val (by kernel_rfl) (v) (by go_simp) ?_
  simp only [Act.put, List.setIfInBounds_toArray, List.set_cons_zero, List.set_cons_succ]
  refine WL.val (by kernel_rfl) (ev) (by go_simp) ?_
  simp only [Act.put, List.setIfInBounds_toArray, List.set_cons_zero, List.set_cons_succ]
  refine WL.nil ?_
  refine hK2 _ _ ?_
  refine wp_seq_k fun K3 hK3 => ?_
  refine wp_region_list (WL.out ?_)
  refine WL.val (by kernel_rfl) (.pointer (some ⟨b3, 1, none⟩)) (by go_simp) ?_
  simp only [Act.put, List.setIfInBounds_toArray, List.set_cons_zero, List.set_cons_succ]
  refine WL.val (by kernel_rfl) (.pointer (some ⟨x, 0, none⟩)) (by go_simp) ?_
  simp only [Act.put, List.setIfInBounds_toArray, List.set_cons_zero, List.set_cons_succ]
  refine WL.val (by kernel_rfl) (.pointer (some ⟨b4, 1, none⟩)) (by go_simp) ?_
  simp only [Act.put, List.setIfInBounds_toArray, List.set_cons_zero, List.set_cons_succ]
  refine WL.val (by kernel_rfl) (.int .i64 f) (by go_simp) ?_
  simp only [Act.put, List.setIfInBounds_toArray, List.set_cons_zero, List.set_cons_succ]
  refine WL.val (by kernel_rfl) (.pointer (some ⟨b4, 2, none⟩)) (by go_simp) ?_
  simp only [Act.put, List.setIfInBounds_toArray, List.set_cons_zero, List.set_cons_succ]
  refine WL.val (by kernel_rfl) (.int .i64 t) (by go_simp) ?_
  simp only [Act.put, List.setIfInBounds_toArray, List.set_cons_zero, List.set_cons_succ]
  refine WL.callF (by kernel_rfl) 44 _ _ rfl Tryd.in44 #[.pointer (some ⟨x, 0, none⟩), .int .i64 f, .int .i64 t] (by simp [Act.eval]) ?_
  refine (rtake_any w3 x g N Ks f t N3.out.at_.rm).mono ?_
  rintro e w4 ⟨y, K1, rfl, n2, d2, d3⟩
  refine ⟨_, rfl, ?_⟩
  clear c3_0 c3_1 c4_0 c4_1 c4_2 c4_3 c4_4 c4_5 c4_6
  have N4 := Keep.mk (N3.out.trans (N3.out.at_.ref n2))
  obtain ⟨hE, hno, _⟩ := eq_take HEq.out Hk2.out Hk3.out d2 d3
  obtain ⟨hp1, hk1, hv1, hy1⟩ := hno (by rw [htk]; decide)
  have hev : ev = .iface 27 (.int .i64 1) := by rw [He.out, HEq.out.tk, htk]; rfl
  have hp1 := hp1.symm
  have hk1 := hk1.symm
  subst hp1 hk1 hv1 hy1 hev
  rw [htk]
  have g_ := ((HE.out.grown (Grown.below (S := fun _ => False) HB2.out) id).grown N4.out.gr HZ.out).c
  clear n2 d2 d3 hE hno
  simp only [Act.put, List.setIfInBounds_toArray, List.set_cons_zero, List.set_cons_succ]
  refine WL.val (by kernel_rfl) (.tuple #[.slice none 0 0, .int .i64 (1)]) (by go_simp) ?_
  simp only [Act.put, List.setIfInBounds_toArray, List.set_cons_zero, List.set_cons_succ]
  refine WL.val (by kernel_rfl) (.slice none 0 0) (by go_simp) ?_
  simp only [Act.put, List.setIfInBounds_toArray, List.set_cons_zero, List.set_cons_succ]
  refine WL.val (by kernel_rfl) (.int .i64 (1)) (by go_simp) ?_
  simp only [Act.put, List.setIfInBounds_toArray, List.set_cons_zero, List.set_cons_succ]
  refine WL.val (by kernel_rfl) (.slice none 0 0) (by go_simp) ?_
  simp only [Act.put, List.setIfInBounds_toArray, List.set_cons_zero, List.set_cons_succ]
  refine WL.val (by kernel_rfl) (.int .i64 (1)) (by go_simp) ?_
  simp only [Act.put, List.setIfInBounds_toArray, List.set_cons_zero, List.set_cons_succ]
  refine WL.nil ?_
  refine hK3 _ _ ?_
  refine wp_seq_k fun K4 hK4 => ?_
  refine wp_seq_k fun K5 hK5 => ?_
  refine wp_region_list (WL.out ?_)
  refine WL.val (by kernel_rfl) (.int .i64 (1)) (by go_simp) ?_
  simp only [Act.put, List.setIfInBounds_toArray, List.set_cons_zero, List.set_cons_succ]
  refine WL.val (by kernel_rfl) (.bool true) (by go_simp) ?_
  simp only [Act.put, List.setIfInBounds_toArray, List.set_cons_zero, List.set_cons_succ]
  refine WL.nil ?_
  refine hK5 _ _ ?_
  refine wp_cond_true rfl ?_
  refine wp_seq_k fun K6 hK6 => ?_
  refine wp_seq_k fun K7 hK7 => ?_
  refine wp_region_list (WL.out ?_)
  refine WL.val (by kernel_rfl) (.int .i64 (1)) (by go_simp) ?_
  simp only [Act.put, List.setIfInBounds_toArray, List.set_cons_zero, List.set_cons_succ]
  refine WL.val (by kernel_rfl) (.bool false) (by go_simp) ?_
  simp only [Act.put, List.setIfInBounds_toArray, List.set_cons_zero, List.set_cons_succ]
  refine WL.nil ?_
  refine hK7 _ _ ?_
  refine wp_cond_false rfl ?_
  refine wp_skip ?_
  refine hK6 _ _ ?_
  refine wp_seq_k fun K8 hK8 => ?_
  refine wp_region_list (WL.out ?_)
  refine WL.val (by kernel_rfl) (.slice none 0 0) (by go_simp) ?_
  simp only [Act.put, List.setIfInBounds_toArray, List.set_cons_zero, List.set_cons_succ]
  refine WL.val (by kernel_rfl) (.int .i64 0) (by go_simp) ?_
  simp only [Act.put, List.setIfInBounds_toArray, List.set_cons_zero, List.set_cons_succ]
  refine WL.val (by kernel_rfl) (.bool true) (by go_simp) ?_
  simp only [Act.put, List.setIfInBounds_toArray, List.set_cons_zero, List.set_cons_succ]
  refine WL.val (by kernel_rfl) (.bool true) (by go_simp) ?_
  simp only [Act.put, List.setIfInBounds_toArray, List.set_cons_zero, List.set_cons_succ]
  refine WL.val (by kernel_rfl) (.iface 27 (.int .i64 1)) (by go_simp) ?_
  simp only [Act.put, List.setIfInBounds_toArray, List.set_cons_zero, List.set_cons_succ]
  refine WL.val (by kernel_rfl) (.int .i64 (1)) (by go_simp) ?_
  simp only [Act.put, List.setIfInBounds_toArray, List.set_cons_zero, List.set_cons_succ]
  refine WL.val (by kernel_rfl) (.iface 27 (.int .i64 1)) (by go_simp) ?_
  simp only [Act.put, List.setIfInBounds_toArray, List.set_cons_zero, List.set_cons_succ]
  refine WL.val (by kernel_rfl) (.bool true) (by have h := eq_no1 w4; go_simp) ?_
  simp only [Act.put, List.setIfInBounds_toArray, List.set_cons_zero, List.set_cons_succ]
  refine WL.val (by kernel_rfl) (.bool true) (by go_simp) ?_
  simp only [Act.put, List.setIfInBounds_toArray, List.set_cons_zero, List.set_cons_succ]
  refine WL.val (by kernel_rfl) (.bool true) (by go_simp) ?_
  simp only [Act.put, List.setIfInBounds_toArray, List.set_cons_zero, List.set_cons_succ]
  refine WL.nil ?_
  refine hK8 _ _ ?_
  refine wp_ret ?_
  go_ret
  exact ⟨rfl, Ps, Ks, vo, vw, n, O, Ws, HT.out.after HB2.out N4.out HEq.out⟩

end Go.Proofs.YteecdcocgflklaaDoor
