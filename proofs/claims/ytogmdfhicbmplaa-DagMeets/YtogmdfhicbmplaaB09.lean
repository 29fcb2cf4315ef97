import Derived.Test.YtogmdfhicbmplaaB08
import Derived.ProofKit
import Derived.OpenShut
import Derived.ChangeOld
import Derived.Below
import Derived.SizedLaws
import Derived.Deep.Slices
namespace Go.Proofs.Ytogmdfhicbmplaa
open Go.RowKit
set_option linter.unusedSimpArgs false
set_option linter.unusedVariables false

theorem Try.in7 (w : World) (vs : Array Value) : (callFunc 7 vs).run Try.prog w = .ok (.enter 7 vs) w := by kernel_rfl
theorem ids_nodup {L : List VP} (h : ∀ i j : Nat, i < j → j < L.length → (L.map fun q => q.1.id).getD i default ≠ (L.map fun q => q.1.id).getD j default) : ((L.map Prod.fst).map (·.id)).Nodup := by
  rw [List.map_map]
  refine List.pairwise_iff_getElem.2 fun i j hi hj hij => ?_
  rw [List.length_map] at hi hj
  have := h i j hij hj
  simpa [List.getD_eq_getElem?_getD, hi, hj] using this
theorem id_at {L : List VP} {t : Nat} (h : t < L.length) : (L.map fun q => q.1.id).getD t default = L[t].1.id := by simp [List.getD_eq_getElem?_getD, h]
theorem held_of_order {g : DG} (h : DI g) {t : Nat} (ht : t < g.order.length) : ∃ v, g.held.find? (isV g.order[t]) = some v ∧ v ∈ g.held := by
  obtain ⟨v, h1, h2, _⟩ := find_has ((h.om _).1 (List.getElem_mem ht))
  exact ⟨v, h1, h2⟩
set_option maxRecDepth 8000 in
set_option maxHeartbeats 8000000 in
theorem meets_any (la sa : Option Addr) (lc sc : Nat) (L0 : List VP) (S : List Int) (w : World) (hV : VRow w (.slice la L0.length lc) L0) (hS : IRow w (.slice sa S.length sc) S) (hSl : (S.length : Int) ≤ 17592186044416) : Calls Try.prog 7 #[.slice la L0.length lc, .slice sa S.length sc] w fun e w' => e = .returned (.bool true) ∧ Below w.heap.size w w' := by
  have HV0 := Keep.mk hV
  have HS := Keep.mk hS
  have HSl := Keep.mk hSl
  clear hV hS hSl
  go_enter Try.func7, Try.ntmps7
  refine wp_seq_k fun K1 hK1 => ?_
  refine wp_region_list (WL.out ?_)
  refine WL.val (by kernel_rfl) (.bool false) (by go_simp) ?_
  simp only [Act.put, List.setIfInBounds_toArray, List.set_cons_zero, List.set_cons_succ]
  refine WL.nil ?_
  refine hK1 _ _ ?_
  refine wp_seq_k fun K2 hK2 => ?_
  refine wp_seq_k fun K3 hK3 => ?_
  have rest : ∀ (L : List VP) (x21 x22 x23 x24 x25 : Value), VRow w (.slice la L.length lc) L → L.length ≤ 64 → K2 { tmps := #[.slice la L.length lc, .slice sa S.length sc, undef, undef, .bool false, undef, undef, undef, undef, undef, undef, undef, undef, undef, undef, undef, undef, undef, undef, undef, undef, x21, x22, x23, x24, x25, undef, undef, undef, undef, undef, undef, undef, undef, undef, undef, undef, undef, undef, undef, undef, undef, undef, undef, undef, undef, undef, undef, undef, undef, undef, undef, undef, undef, undef, undef, undef, undef, undef, undef, undef, undef, undef, undef, undef, undef, undef, undef, undef, undef, undef, undef, undef, undef, undef, undef, undef, undef, undef, undef, undef, undef, undef, undef, undef, undef, undef, undef, undef, undef, undef, undef, undef, undef, undef, undef, undef, undef, undef, undef, undef, undef, undef, undef, undef, undef, undef, undef, undef, undef, undef, undef, undef, undef, undef, undef, undef, undef, undef, undef, undef, undef, undef, undef, undef, undef, undef, undef, undef, undef, undef, undef, undef, undef, undef, undef, undef, undef, undef, undef, undef, undef, undef, undef, undef, undef, undef, undef, undef, undef, undef, undef, undef, undef, undef, undef, undef, undef, undef, undef, undef, undef, undef, undef, undef, undef, undef, undef, undef, undef], defers := [] } w := by
    intro L x21 x22 x23 x24 x25 hV h64
    have HV := Keep.mk hV
    have H64 := Keep.mk h64
    clear hV h64 HV0
    refine hK2 _ _ ?_
    refine wp_seq_k fun K4 hK4 => ?_
    refine wp_region_list (WL.out ?_)
    refine WL.val (by kernel_rfl) (.slice la L.length lc) (by go_simp) ?_
    simp only [Act.put, List.setIfInBounds_toArray, List.set_cons_zero, List.set_cons_succ]
    obtain ⟨v5, w1, hr5, ho5, hb5⟩ := run_appV w 55 (.slice la L.length lc) L HV.out (by have := H64.out; omega)
    refine WL.call (by kernel_rfl) fun K hK => ?_
    refine Lib.wp_append_run w (.const (.slice none 0 0)) (.tmp 26) 55 55 rfl _ _ rfl rfl _ w1 hr5 ?_
    refine hK _ _ ?_
    clear hK hr5
    obtain ⟨oa, oc, rfl, _⟩ := ho5.form
    have HO1 := Keep.mk ho5
    have HB1 := Keep.mk hb5
    clear ho5 hb5
    simp only [Act.put, List.setIfInBounds_toArray, List.set_cons_zero, List.set_cons_succ]
    refine WL.val (by kernel_rfl) (.slice oa L.length oc) (by go_simp) ?_
    simp only [Act.put, List.setIfInBounds_toArray, List.set_cons_zero, List.set_cons_succ]
    refine WL.nil ?_
    refine hK4 _ _ ?_
    refine wp_seq_k fun K5 hK5 => ?_
    refine wp_seq_k fun K6 hK6 => ?_
    refine wp_region_list (WL.out ?_)
    refine WL.val (by kernel_rfl) (.int .i64 0) (by go_simp) ?_
    simp only [Act.put, List.setIfInBounds_toArray, List.set_cons_zero, List.set_cons_succ]
    refine WL.nil ?_
    refine hK6 _ _ ?_
    refine wp_block ?_
    have rest2 : ∀ (M : List VP) (w2 : World) (y6 y7 y8 y28 y29 y30 y31 y32 y33 y34 y35 y36 y37 y38 y39 y40 y41 y42 y43 y44 y45 y46 y47 y48 y49 y50 y51 y52 y53 y54 y55 y56 y57 y58 y59 y60 y61 y62 y63 : Value), M.Perm L → OwnV w2 w.heap.size (.slice oa L.length oc) M → Below w.heap.size w w2 → K5 { tmps := #[.slice la L.length lc, .slice sa S.length sc, undef, undef, .bool false, .slice oa L.length oc, y6, y7, y8, undef, undef, undef, undef, undef, undef, undef, undef, undef, undef, undef, undef, x21, x22, x23, x24, x25, .slice la L.length lc, .slice oa L.length oc, y28, y29, y30, y31, y32, y33, y34, y35, y36, y37, y38, y39, y40, y41, y42, y43, y44, y45, y46, y47, y48, y49, y50, y51, y52, y53, y54, y55, y56, y57, y58, y59, y60, y61, y62, y63, undef, undef, undef, undef, undef, undef, undef, undef, undef, undef, undef, undef, undef, undef, undef, undef, undef, undef, undef, undef, undef, undef, undef, undef, undef, undef, undef, undef, undef, undef, undef, undef, undef, undef, undef, undef, undef, undef, undef, undef, undef, undef, undef, undef, undef, undef, undef, undef, undef, undef, undef, undef, undef, undef, undef, undef, undef, undef, undef, undef, undef, undef, undef, undef, undef, undef, undef, undef, undef, undef, undef, undef, undef, undef, undef, undef, undef, undef, undef, undef, undef, undef, undef, undef, undef, undef, undef, undef, undef, undef, undef, undef, undef, undef, undef, undef, undef, undef, undef, undef, undef, undef, undef, undef, undef, undef], defers := [] } w2 := by
      intro M w2 y6 y7 y8 y28 y29 y30 y31 y32 y33 y34 y35 y36 y37 y38 y39 y40 y41 y42 y43 y44 y45 y46 y47 y48 y49 y50 y51 y52 y53 y54 y55 y56 y57 y58 y59 y60 y61 y62 y63 hP hO hB
      have HP := Keep.mk hP
      have HO2 := Keep.mk hO
      have HB2 := Keep.mk hB
      clear hP hO hB HO1 HB1
      refine hK5 _ _ ?_
      refine wp_seq_k fun K7 hK7 => ?_
      refine wp_seq_k fun K8 hK8 => ?_
      refine wp_region_list (WL.out ?_)
      refine WL.val (by kernel_rfl) (.int .i64 0) (by go_simp) ?_
      simp only [Act.put, List.setIfInBounds_toArray, List.set_cons_zero, List.set_cons_succ]
      refine WL.nil ?_
      refine hK8 _ _ ?_
      refine wp_block ?_
      refine wp_loop (fun ac wr => ∃ (t : Nat) (u4 u10 u64 u65 u66 u67 u68 u69 u70 u71 u72 u73 u74 u75 u76 u77 u78 u79 u80 u81 u82 u83 u84 u85 u86 : Value), ac = { tmps := #[.slice la L.length lc, .slice sa S.length sc, undef, undef, u4, .slice oa L.length oc, y6, y7, y8, .int .i64 (t : Int), u10, undef, undef, undef, undef, undef, undef, undef, undef, undef, undef, x21, x22, x23, x24, x25, .slice la L.length lc, .slice oa L.length oc, y28, y29, y30, y31, y32, y33, y34, y35, y36, y37, y38, y39, y40, y41, y42, y43, y44, y45, y46, y47, y48, y49, y50, y51, y52, y53, y54, y55, y56, y57, y58, y59, y60, y61, y62, y63, u64, u65, u66, u67, u68, u69, u70, u71, u72, u73, u74, u75, u76, u77, u78, u79, u80, u81, u82, u83, u84, u85, u86, undef, undef, undef, undef, undef, undef, undef, undef, undef, undef, undef, undef, undef, undef, undef, undef, undef, undef, undef, undef, undef, undef, undef, undef, undef, undef, undef, undef, undef, undef, undef, undef, undef, undef, undef, undef, undef, undef, undef, undef, undef, undef, undef, undef, undef, undef, undef, undef, undef, undef, undef, undef, undef, undef, undef, undef, undef, undef, undef, undef, undef, undef, undef, undef, undef, undef, undef, undef, undef, undef, undef, undef, undef, undef, undef, undef, undef, undef, undef, undef, undef, undef, undef], defers := [] } ∧ t ≤ L.length ∧ Below w2.heap.size w2 wr ∧ (∀ i j : Nat, i < j → j < t → (L.map fun q => q.1.id).getD i default ≠ (L.map fun q => q.1.id).getD j default)) (fun a _ => L.length - (intOf (a.tmps.getD 9 undef)).toNat) ⟨0, .bool false, undef, undef, undef, undef, undef, undef, undef, undef, undef, undef, undef, undef, undef, undef, undef, undef, undef, undef, undef, undef, undef, undef, undef, undef, rfl, by omega, Below.refl _ _, (fun i j _ hj => by omega)⟩ ?_
      rintro ac wr ⟨t, u4, u10, u64, u65, u66, u67, u68, u69, u70, u71, u72, u73, u74, u75, u76, u77, u78, u79, u80, u81, u82, u83, u84, u85, u86, rfl, ht, hB, hN⟩
      have JB := Keep.mk hB
      have JN := Keep.mk hN
      clear hB hN
      by_cases htl : t < L.length
      · have htl' : (t : Int) < (L.length : Int) := by omega
        have hwt : IntKind.i64.wrap ((t : Int) + 1) = ((t + 1 : Nat) : Int) := by rw [IntKind.wrap_i64]; have := H64.out; omega
        obtain ⟨b, off, hla, hlc, hrng⟩ := (HV.out.below HB2.out).at (by omega : 0 < L.length)
        subst hla
        have Hrng := Keep.mk hrng
        have Hblt := Keep.mk (flatV_lt hrng (by omega))
        clear hlc hrng
        refine wp_seq_k fun K9 hK9 => ?_
        refine wp_seq_k fun K10 hK10 => ?_
        refine wp_region_list (WL.out ?_)
        refine WL.val (by kernel_rfl) (.int .i64 (t : Int)) (by go_simp) ?_
        simp only [Act.put, List.setIfInBounds_toArray, List.set_cons_zero, List.set_cons_succ]
        refine WL.val (by kernel_rfl) (.slice (some ⟨b, off, none⟩) L.length lc) (by go_simp) ?_
        simp only [Act.put, List.setIfInBounds_toArray, List.set_cons_zero, List.set_cons_succ]
        refine WL.val (by kernel_rfl) (.int .i64 (L.length : Int)) (by go_simp) ?_
        simp only [Act.put, List.setIfInBounds_toArray, List.set_cons_zero, List.set_cons_succ]
        refine WL.val (by kernel_rfl) (.bool true) (by go_simp) ?_
        simp only [Act.put, List.setIfInBounds_toArray, List.set_cons_zero, List.set_cons_succ]
        refine WL.nil ?_
        refine hK10 _ _ ?_
        refine wp_cond_true rfl ?_
        refine wp_skip ?_
        refine hK9 _ _ ?_
        refine wp_seq_k fun K11 hK11 => ?_
        refine wp_block ?_
        refine wp_seq_k fun K12 hK12 => ?_
        refine wp_region_list (WL.out ?_)
        refine WL.val (by kernel_rfl) (.int .i64 0) (by go_simp) ?_
        simp only [Act.put, List.setIfInBounds_toArray, List.set_cons_zero, List.set_cons_succ]
        refine WL.nil ?_
        refine hK12 _ _ ?_
        refine wp_block ?_
        refine wp_loop (fun ac wi => ∃ (k : Nat) (z4 z70 z71 z72 z73 z74 z75 z76 z77 z78 z79 z80 z81 z82 z83 z84 z85 z86 : Value), ac = { tmps := #[.slice (some ⟨b, off, none⟩) L.length lc, .slice sa S.length sc, undef, undef, z4, .slice oa L.length oc, y6, y7, y8, .int .i64 (t : Int), .int .i64 (k : Int), undef, undef, undef, undef, undef, undef, undef, undef, undef, undef, x21, x22, x23, x24, x25, .slice (some ⟨b, off, none⟩) L.length lc, .slice oa L.length oc, y28, y29, y30, y31, y32, y33, y34, y35, y36, y37, y38, y39, y40, y41, y42, y43, y44, y45, y46, y47, y48, y49, y50, y51, y52, y53, y54, y55, y56, y57, y58, y59, y60, y61, y62, y63, .int .i64 (t : Int), .slice (some ⟨b, off, none⟩) L.length lc, .int .i64 (L.length : Int), .bool true, u68, u69, z70, z71, z72, z73, z74, z75, z76, z77, z78, z79, z80, z81, z82, z83, z84, z85, z86, undef, undef, undef, undef, undef, undef, undef, undef, undef, undef, undef, undef, undef, undef, undef, undef, undef, undef, undef, undef, undef, undef, undef, undef, undef, undef, undef, undef, undef, undef, undef, undef, undef, undef, undef, undef, undef, undef, undef, undef, undef, undef, undef, undef, undef, undef, undef, undef, undef, undef, undef, undef, undef, undef, undef, undef, undef, undef, undef, undef, undef, undef, undef, undef, undef, undef, undef, undef, undef, undef, undef, undef, undef, undef, undef, undef, undef, undef, undef, undef, undef, undef, undef], defers := [] } ∧ k ≤ t ∧ Below w2.heap.size w2 wi ∧ (∀ j : Nat, j < k → (L.map fun q => q.1.id).getD j default ≠ (L.map fun q => q.1.id).getD t default)) (fun a _ => t - (intOf (a.tmps.getD 10 undef)).toNat) ⟨0, u4, u70, u71, u72, u73, u74, u75, u76, u77, u78, u79, u80, u81, u82, u83, u84, u85, u86, rfl, by omega, JB.out, (fun j hj => by omega)⟩ ?_
        rintro ac wi ⟨k, z4, z70, z71, z72, z73, z74, z75, z76, z77, z78, z79, z80, z81, z82, z83, z84, z85, z86, rfl, hk, hC, hE⟩
        have KC := Keep.mk hC
        have KE := Keep.mk hE
        clear hC hE
        by_cases hkl : k < t
        · have hkl' : (k : Int) < (t : Int) := by omega
          have hkL : (k : Int) < (L.length : Int) := by omega
          have hwk : IntKind.i64.wrap ((k : Int) + 1) = ((k + 1 : Nat) : Int) := by rw [IntKind.wrap_i64]; have := H64.out; omega
          obtain ⟨x1, hx1⟩ : ∃ x, Keep ((L.map fun q => q.1.id).getD t default = x) := ⟨_, ⟨rfl⟩⟩
          obtain ⟨x2, hx2⟩ : ∃ x, Keep ((L.map fun q => q.1.id).getD k default = x) := ⟨_, ⟨rfl⟩⟩
          refine wp_seq_k fun K13 hK13 => ?_
          refine wp_seq_k fun K14 hK14 => ?_
          refine wp_region_list (WL.out ?_)
          refine WL.val (by kernel_rfl) (.int .i64 (k : Int)) (by go_simp) ?_
          simp only [Act.put, List.setIfInBounds_toArray, List.set_cons_zero, List.set_cons_succ]
          refine WL.val (by kernel_rfl) (.int .i64 (t : Int)) (by go_simp) ?_
          simp only [Act.put, List.setIfInBounds_toArray, List.set_cons_zero, List.set_cons_succ]
          refine WL.val (by kernel_rfl) (.bool true) (by go_simp) ?_
          simp only [Act.put, List.setIfInBounds_toArray, List.set_cons_zero, List.set_cons_succ]
          refine WL.nil ?_
          refine hK14 _ _ ?_
          refine wp_cond_true rfl ?_
          refine wp_skip ?_
          refine hK13 _ _ ?_
          refine wp_seq_k fun K15 hK15 => ?_
          refine wp_block ?_
          refine wp_seq_k fun K16 hK16 => ?_
          have hv : ∀ (i : Nat) (hi : i < L.length), wi.drew.rangeAt b (off + i * 34) (bytesA 32 L[i].1.id.f).toList := fun i hi j v hv => by
            have h := flat_elem encV_len Hrng.out i hi
            have h2 := rangeAt_below h KC.out Hblt.out
            have hj := (List.getElem?_eq_some_iff.1 hv).1
            rw [Array.length_toList, bytesA_size] at hj
            refine h2 j v ?_
            unfold encV vtx
            rw [Array.toList_append, List.getElem?_append_left (by rw [Array.length_toList, bytesA_size]; exact hj)]
            exact hv
          have hS0 : Keep ((fun wx => wx.rangeAt b (off + t * 34) (bytesA 32 x1.f).toList ∧ wx.rangeAt b (off + k * 34) (bytesA 32 x2.f).toList) wi.drew) := ⟨⟨by rw [← hx1.out, id_at htl]; exact hv t htl, by rw [← hx2.out, id_at (by omega : k < L.length)]; exact hv k (by omega)⟩⟩
          obtain ⟨cb, hcb⟩ : ∃ c, Keep (decide (x1 = x2) = c) := ⟨_, ⟨rfl⟩⟩
          clear hv
          refine wp_region_held_drew (S := fun wx => wx.rangeAt b (off + t * 34) (bytesA 32 x1.f).toList ∧ wx.rangeAt b (off + k * 34) (bytesA 32 x2.f).toList) (by kernel_rfl) (hS0.out) (fun hHeld => ?_)
          refine wpAnyH_take (i := 0) (oi := ⟨some 75, Op.move (Operand.tmp 0), 55, _, _, none⟩) (v := .slice (some ⟨b, off, none⟩) L.length lc) rfl (by kernel_rfl) (by kernel_rfl) (by kernel_rfl) (fun _ _ _ h => h) (Or.inl ⟨by rfl, fun w hS => by clear hS; go_simp⟩) hHeld ?_
          simp only [Act.put, List.setIfInBounds_toArray, List.set_cons_zero, List.set_cons_succ]
          refine wpAnyH_take (i := 1) (oi := ⟨some 76, Op.move (Operand.tmp 9), 3, _, _, none⟩) (v := .int .i64 (t : Int)) rfl (by kernel_rfl) (by kernel_rfl) (by kernel_rfl) (fun _ _ _ h => h) (Or.inl ⟨by rfl, fun w hS => by clear hS; go_simp⟩) hHeld ?_
          simp only [Act.put, List.setIfInBounds_toArray, List.set_cons_zero, List.set_cons_succ]
          refine wpAnyH_take (i := 2) (oi := ⟨some 77, Op.indexAddr 55 (Operand.tmp 75) (Operand.tmp 76), 0, _, _, none⟩) (v := .pointer (some ⟨b, off + t * 34, none⟩)) rfl (by kernel_rfl) (by kernel_rfl) (by kernel_rfl) (fun _ _ _ h => h) (Or.inl ⟨by rfl, fun w hS => by clear hS; go_simp⟩) hHeld ?_
          simp only [Act.put, List.setIfInBounds_toArray, List.set_cons_zero, List.set_cons_succ]
          refine wpAnyH_take (i := 3) (oi := ⟨some 78, Op.fieldAddr 39 (Operand.tmp 77) 0, 0, _, _, none⟩) (v := .pointer (some ⟨b, off + t * 34, none⟩)) rfl (by kernel_rfl) (by kernel_rfl) (by kernel_rfl) (fun _ _ _ h => h) (Or.inl ⟨by rfl, fun w hS => by clear hS; go_simp⟩) hHeld ?_
          simp only [Act.put, List.setIfInBounds_toArray, List.set_cons_zero, List.set_cons_succ]
          refine wpAnyH_take (i := 4) (oi := ⟨some 79, Op.load 36 (Operand.tmp 78), 36, _, _, none⟩) (v := .agg (bytesA 32 x1.f)) rfl (by kernel_rfl) (by kernel_rfl) (by kernel_rfl) (fun _ _ _ h => h) (yieldsIf_ld (by rfl) (Operand.tmp 78) 36 rfl b (off + t * 34) rfl (bytesA 32 x1.f) _ Try.underlying36 rfl (size36A _) fun w hS => hS.1) hHeld ?_
          simp only [Act.put, List.setIfInBounds_toArray, List.set_cons_zero, List.set_cons_succ]
          refine wpAnyH_take (i := 5) (oi := ⟨some 80, Op.move (Operand.tmp 0), 55, _, _, none⟩) (v := .slice (some ⟨b, off, none⟩) L.length lc) rfl (by kernel_rfl) (by kernel_rfl) (by kernel_rfl) (fun _ _ _ h => h) (Or.inl ⟨by rfl, fun w hS => by clear hS; go_simp⟩) hHeld ?_
          simp only [Act.put, List.setIfInBounds_toArray, List.set_cons_zero, List.set_cons_succ]
          refine wpAnyH_take (i := 6) (oi := ⟨some 81, Op.move (Operand.tmp 10), 3, _, _, none⟩) (v := .int .i64 (k : Int)) rfl (by kernel_rfl) (by kernel_rfl) (by kernel_rfl) (fun _ _ _ h => h) (Or.inl ⟨by rfl, fun w hS => by clear hS; go_simp⟩) hHeld ?_
          simp only [Act.put, List.setIfInBounds_toArray, List.set_cons_zero, List.set_cons_succ]
          refine wpAnyH_take (i := 7) (oi := ⟨some 82, Op.indexAddr 55 (Operand.tmp 80) (Operand.tmp 81), 0, _, _, none⟩) (v := .pointer (some ⟨b, off + k * 34, none⟩)) rfl (by kernel_rfl) (by kernel_rfl) (by kernel_rfl) (fun _ _ _ h => h) (Or.inl ⟨by rfl, fun w hS => by clear hS; go_simp⟩) hHeld ?_
          simp only [Act.put, List.setIfInBounds_toArray, List.set_cons_zero, List.set_cons_succ]
          refine wpAnyH_take (i := 8) (oi := ⟨some 83, Op.fieldAddr 39 (Operand.tmp 82) 0, 0, _, _, none⟩) (v := .pointer (some ⟨b, off + k * 34, none⟩)) rfl (by kernel_rfl) (by kernel_rfl) (by kernel_rfl) (fun _ _ _ h => h) (Or.inl ⟨by rfl, fun w hS => by clear hS; go_simp⟩) hHeld ?_
          simp only [Act.put, List.setIfInBounds_toArray, List.set_cons_zero, List.set_cons_succ]
          refine wpAnyH_take (i := 9) (oi := ⟨some 84, Op.load 36 (Operand.tmp 83), 36, _, _, none⟩) (v := .agg (bytesA 32 x2.f)) rfl (by kernel_rfl) (by kernel_rfl) (by kernel_rfl) (fun _ _ _ h => h) (yieldsIf_ld (by rfl) (Operand.tmp 83) 36 rfl b (off + k * 34) rfl (bytesA 32 x2.f) _ Try.underlying36 rfl (size36A _) fun w hS => hS.2) hHeld ?_
          simp only [Act.put, List.setIfInBounds_toArray, List.set_cons_zero, List.set_cons_succ]
          refine wpAnyH_take (i := 10) (oi := ⟨some 85, Op.binOp BinOp.eql 36 (Operand.tmp 79) (Operand.tmp 84) 36, 4, _, _, none⟩) (v := .bool cb) rfl (by kernel_rfl) (by kernel_rfl) (by kernel_rfl) (fun _ _ _ h => h) (Or.inl ⟨by rfl, fun w hS => by clear hS; go_simp; rw [run_equal_arr2, all_eq_iff, hcb.out]; rfl⟩) hHeld ?_
          simp only [Act.put, List.setIfInBounds_toArray, List.set_cons_zero, List.set_cons_succ]
          refine wpAnyH_done (by kernel_rfl) ?_ _
          refine hK16 _ _ ?_
          rcases Bool.eq_false_or_eq_true cb with hcq | hcq
          · subst hcq
            refine wp_cond_true rfl ?_
            refine wp_seq_k fun K17 hK17 => ?_
            refine wp_region_list (WL.out ?_)
            refine WL.callF (by kernel_rfl) 9 _ _ rfl Try.in9 #[] (by simp) ?_
            refine (fixed_any _).mono ?_
            rintro e w6 ⟨rfl, hz⟩
            refine ⟨_, rfl, ?_⟩
            have B6 := Keep.mk hz
            clear hz
            simp only [Act.put, List.setIfInBounds_toArray, List.set_cons_zero, List.set_cons_succ]
            refine WL.val (by kernel_rfl) (.bool true) (by go_simp) ?_
            simp only [Act.put, List.setIfInBounds_toArray, List.set_cons_zero, List.set_cons_succ]
            refine WL.nil ?_
            refine hK17 _ _ ?_
            refine wp_ret ?_
            go_ret
            exact ⟨rfl, HB2.out.trans (below_cut (belowT (belowT KC.out (Below.refl _ _).drew) B6.out) HB2.out.size)⟩
          · subst hcq
            refine wp_cond_false rfl ?_
            refine wp_skip ?_
            refine hK15 _ _ ?_
            refine wp_region_list (WL.out ?_)
            refine WL.val (by kernel_rfl) (.int .i64 (k : Int)) (by go_simp) ?_
            simp only [Act.put, List.setIfInBounds_toArray, List.set_cons_zero, List.set_cons_succ]
            refine WL.val (by kernel_rfl) (.int .i64 ((k + 1 : Nat) : Int)) (by go_simp) ?_
            simp only [Act.put, List.setIfInBounds_toArray, List.set_cons_zero, List.set_cons_succ]
            refine WL.val (by kernel_rfl) (.int .i64 ((k + 1 : Nat) : Int)) (by go_simp) ?_
            simp only [Act.put, List.setIfInBounds_toArray, List.set_cons_zero, List.set_cons_succ]
            refine WL.nil ?_
            have hne : ¬ x1 = x2 := of_decide_eq_false hcb.out
            refine ⟨⟨k + 1, z4, .int .i64 (k : Int), .int .i64 (t : Int), .bool true, .int .i64 (k : Int), .int .i64 ((k + 1 : Nat) : Int), .slice (some ⟨b, off, none⟩) L.length lc, .int .i64 (t : Int), .pointer (some ⟨b, off + t * 34, none⟩), .pointer (some ⟨b, off + t * 34, none⟩), .agg (bytesA 32 x1.f), .slice (some ⟨b, off, none⟩) L.length lc, .int .i64 (k : Int), .pointer (some ⟨b, off + k * 34, none⟩), .pointer (some ⟨b, off + k * 34, none⟩), .agg (bytesA 32 x2.f), .bool false, z86, rfl, by omega, belowT KC.out (Below.refl _ _).drew, fun j hj => ?_⟩, ?_⟩
            · rcases Nat.lt_or_eq_of_le (Nat.le_of_lt_succ hj) with h | rfl
              · exact KE.out j h
              · rw [hx1.out, hx2.out]; exact fun e => hne e.symm
            · simp only [intOf]; show t - (((k + 1 : Nat) : Int)).toNat < t - ((k : Int)).toNat; omega
        · have hke : k = t := by omega
          have hkl' : ¬ (k : Int) < (t : Int) := by omega
          refine wp_seq_k fun K18 hK18 => ?_
          refine wp_seq_k fun K19 hK19 => ?_
          refine wp_region_list (WL.out ?_)
          refine WL.val (by kernel_rfl) (.int .i64 (k : Int)) (by go_simp) ?_
          simp only [Act.put, List.setIfInBounds_toArray, List.set_cons_zero, List.set_cons_succ]
          refine WL.val (by kernel_rfl) (.int .i64 (t : Int)) (by go_simp) ?_
          simp only [Act.put, List.setIfInBounds_toArray, List.set_cons_zero, List.set_cons_succ]
          refine WL.val (by kernel_rfl) (.bool false) (by go_simp) ?_
          simp only [Act.put, List.setIfInBounds_toArray, List.set_cons_zero, List.set_cons_succ]
          refine WL.nil ?_
          refine hK19 _ _ ?_
          refine wp_cond_false rfl ?_
          refine wp_exit ?_
          refine hK11 _ _ ?_
          refine wp_region_list (WL.out ?_)
          refine WL.val (by kernel_rfl) (.int .i64 (t : Int)) (by go_simp) ?_
          simp only [Act.put, List.setIfInBounds_toArray, List.set_cons_zero, List.set_cons_succ]
          refine WL.val (by kernel_rfl) (.int .i64 ((t + 1 : Nat) : Int)) (by go_simp) ?_
          simp only [Act.put, List.setIfInBounds_toArray, List.set_cons_zero, List.set_cons_succ]
          refine WL.val (by kernel_rfl) (.int .i64 ((t + 1 : Nat) : Int)) (by go_simp) ?_
          simp only [Act.put, List.setIfInBounds_toArray, List.set_cons_zero, List.set_cons_succ]
          refine WL.nil ?_
          refine ⟨⟨t + 1, z4, .int .i64 (k : Int), .int .i64 (t : Int), .slice (some ⟨b, off, none⟩) L.length lc, .int .i64 (L.length : Int), .bool true, .int .i64 (t : Int), .int .i64 ((t + 1 : Nat) : Int), .int .i64 (k : Int), .int .i64 (t : Int), .bool false, z73, z74, z75, z76, z77, z78, z79, z80, z81, z82, z83, z84, z85, z86, rfl, by omega, KC.out, fun i j hij hj => ?_⟩, ?_⟩
          · rcases Nat.lt_or_eq_of_le (Nat.le_of_lt_succ hj) with h | rfl
            · exact JN.out i j hij h
            · exact KE.out i (by omega)
          · simp only [intOf]; show L.length - (((t + 1 : Nat) : Int)).toNat < L.length - ((t : Int)).toNat; omega
      · have hte : t = L.length := by omega
        have htl' : ¬ (t : Int) < (L.length : Int) := by omega
        have HN : Keep (((L.map Prod.fst).map (·.id)).Nodup) := ⟨ids_nodup fun i j hij hj => JN.out i j hij (by omega)⟩
        have HO3 : Keep (OwnV w2 w.heap.size (.slice oa L.length oc) M) := HO2
        clear JN
        refine wp_seq_k fun K20 hK20 => ?_
        refine wp_seq_k fun K21 hK21 => ?_
        refine wp_region_list (WL.out ?_)
        refine WL.val (by kernel_rfl) (.int .i64 (t : Int)) (by go_simp) ?_
        simp only [Act.put, List.setIfInBounds_toArray, List.set_cons_zero, List.set_cons_succ]
        refine WL.val (by kernel_rfl) (.slice la L.length lc) (by go_simp) ?_
        simp only [Act.put, List.setIfInBounds_toArray, List.set_cons_zero, List.set_cons_succ]
        refine WL.val (by kernel_rfl) (.int .i64 (L.length : Int)) (by go_simp) ?_
        simp only [Act.put, List.setIfInBounds_toArray, List.set_cons_zero, List.set_cons_succ]
        refine WL.val (by kernel_rfl) (.bool false) (by go_simp) ?_
        simp only [Act.put, List.setIfInBounds_toArray, List.set_cons_zero, List.set_cons_succ]
        refine WL.nil ?_
        refine hK21 _ _ ?_
        refine wp_cond_false rfl ?_
        refine wp_exit ?_
        refine hK7 _ _ ?_
        refine wp_seq_k fun K22 hK22 => ?_
        refine wp_region_list (WL.out ?_)
        refine WL.val (by kernel_rfl) (.slice la L.length lc) (by go_simp) ?_
        simp only [Act.put, List.setIfInBounds_toArray, List.set_cons_zero, List.set_cons_succ]
        have HB3 : Keep (Below w.heap.size w wr) := ⟨HB2.out.trans (below_cut JB.out HB2.out.size)⟩
        have HVr := Keep.mk (HV.out.below HB3.out)
        have hfd := fed_any la lc L wr HVr.out HN.out H64.out
        refine WL.callF (by kernel_rfl) 24 _ _ rfl Try.in24 #[.slice la L.length lc] (by simp [Act.eval]) ?_
        refine (hfd).mono ?_
        rintro e w4 ⟨d1, g1, rfl, hds, hb, hf, hs⟩
        refine ⟨_, rfl, ?_⟩
        clear hfd
        have D1 := Keep.mk hds
        have B4 : Keep (Below w.heap.size w w4) := ⟨HB3.out.trans (below_cut hb HB3.out.size)⟩
        have B24 : Keep (Below w2.heap.size w2 w4) := ⟨belowT JB.out hb⟩
        have F1 := Keep.mk hf
        have S1 := Keep.mk hs
        clear hds hb hf hs
        simp only [Act.put, List.setIfInBounds_toArray, List.set_cons_zero, List.set_cons_succ]
        refine WL.val (by kernel_rfl) (.tuple #[.pointer (some ⟨d1, 0, none⟩), .bool true]) (by go_simp) ?_
        simp only [Act.put, List.setIfInBounds_toArray, List.set_cons_zero, List.set_cons_succ]
        refine WL.val (by kernel_rfl) (.pointer (some ⟨d1, 0, none⟩)) (by go_simp) ?_
        simp only [Act.put, List.setIfInBounds_toArray, List.set_cons_zero, List.set_cons_succ]
        refine WL.val (by kernel_rfl) (.bool true) (by go_simp) ?_
        simp only [Act.put, List.setIfInBounds_toArray, List.set_cons_zero, List.set_cons_succ]
        refine WL.val (by kernel_rfl) (.pointer (some ⟨d1, 0, none⟩)) (by go_simp) ?_
        simp only [Act.put, List.setIfInBounds_toArray, List.set_cons_zero, List.set_cons_succ]
        refine WL.val (by kernel_rfl) (.bool true) (by go_simp) ?_
        simp only [Act.put, List.setIfInBounds_toArray, List.set_cons_zero, List.set_cons_succ]
        refine WL.nil ?_
        refine hK22 _ _ ?_
        refine wp_seq_k fun K23 hK23 => ?_
        refine wp_region_list (WL.out ?_)
        refine WL.val (by kernel_rfl) (.slice oa L.length oc) (by go_simp) ?_
        simp only [Act.put, List.setIfInBounds_toArray, List.set_cons_zero, List.set_cons_succ]
        have HMr : Keep (VRow w2 (.slice oa L.length oc) M) := ⟨HO2.out.row fun q hq => ⟨((HV.out.2 q (HP.out.mem_iff.1 hq)).1).below HB2.out, (HV.out.2 q (HP.out.mem_iff.1 hq)).2⟩⟩
        have hML := HP.out.length_eq
        have hfd := fed_any oa oc M w4 (by rw [hML]; exact HMr.out.below B24.out) (((HP.out.map Prod.fst).map (·.id)).nodup_iff.2 HN.out) (by rw [hML]; exact H64.out)
        rw [hML] at hfd
        clear hML
        refine WL.callF (by kernel_rfl) 24 _ _ rfl Try.in24 #[.slice oa L.length oc] (by simp [Act.eval]) ?_
        refine (hfd).mono ?_
        rintro e w5 ⟨d2, g2, rfl, hds, hb, hf, hs⟩
        refine ⟨_, rfl, ?_⟩
        clear hfd
        have D2 := Keep.mk hds
        have D1b := Keep.mk (D1.out.below hb)
        have B5 : Keep (Below w.heap.size w w5) := ⟨B4.out.trans (below_cut hb B4.out.size)⟩
        have F2 := Keep.mk hf
        have S2 := Keep.mk hs
        have HE := Keep.mk (meets HP.out F1.out D1.out.di S1.out F2.out D2.out.di S2.out)
        clear F1 S1 F2 S2 D1 B24 HMr
        clear hds hb hf hs
        simp only [Act.put, List.setIfInBounds_toArray, List.set_cons_zero, List.set_cons_succ]
        refine WL.val (by kernel_rfl) (.tuple #[.pointer (some ⟨d2, 0, none⟩), .bool true]) (by go_simp) ?_
        simp only [Act.put, List.setIfInBounds_toArray, List.set_cons_zero, List.set_cons_succ]
        refine WL.val (by kernel_rfl) (.pointer (some ⟨d2, 0, none⟩)) (by go_simp) ?_
        simp only [Act.put, List.setIfInBounds_toArray, List.set_cons_zero, List.set_cons_succ]
        refine WL.val (by kernel_rfl) (.bool true) (by go_simp) ?_
        simp only [Act.put, List.setIfInBounds_toArray, List.set_cons_zero, List.set_cons_succ]
        refine WL.val (by kernel_rfl) (.pointer (some ⟨d2, 0, none⟩)) (by go_simp) ?_
        simp only [Act.put, List.setIfInBounds_toArray, List.set_cons_zero, List.set_cons_succ]
        refine WL.val (by kernel_rfl) (.bool true) (by go_simp) ?_
        simp only [Act.put, List.setIfInBounds_toArray, List.set_cons_zero, List.set_cons_succ]
        refine WL.nil ?_
        refine hK23 _ _ ?_
        refine wp_seq_k fun K24 hK24 => ?_
        refine wp_seq_k fun K25 hK25 => ?_
        refine wp_region_list (WL.out ?_)
        refine WL.val (by kernel_rfl) (.bool true) (by go_simp) ?_
        simp only [Act.put, List.setIfInBounds_toArray, List.set_cons_zero, List.set_cons_succ]
        refine WL.val (by kernel_rfl) (.bool false) (by go_simp) ?_
        simp only [Act.put, List.setIfInBounds_toArray, List.set_cons_zero, List.set_cons_succ]
        refine WL.val (by kernel_rfl) (.bool false) (by go_simp) ?_
        simp only [Act.put, List.setIfInBounds_toArray, List.set_cons_zero, List.set_cons_succ]
        refine WL.val (by kernel_rfl) (.bool true) (by go_simp) ?_
        simp only [Act.put, List.setIfInBounds_toArray, List.set_cons_zero, List.set_cons_succ]
        refine WL.val (by kernel_rfl) (.bool false) (by go_simp) ?_
        simp only [Act.put, List.setIfInBounds_toArray, List.set_cons_zero, List.set_cons_succ]
        refine WL.val (by kernel_rfl) (.bool false) (by go_simp) ?_
        simp only [Act.put, List.setIfInBounds_toArray, List.set_cons_zero, List.set_cons_succ]
        refine WL.nil ?_
        refine hK25 _ _ ?_
        refine wp_cond_false rfl ?_
        refine wp_skip ?_
        refine hK24 _ _ ?_
        refine wp_seq_k fun K26 hK26 => ?_
        refine wp_region_list (WL.out ?_)
        refine WL.val (by kernel_rfl) (.pointer (some ⟨d1, 0, none⟩)) (by go_simp) ?_
        simp only [Act.put, List.setIfInBounds_toArray, List.set_cons_zero, List.set_cons_succ]
        refine WL.callF (by kernel_rfl) 21 _ _ rfl Try.in21 #[ptr d1] (by simp [Act.eval]) ?_
        refine (order_any d1 (DgS d1 g1) g1 w5 D1b.out.at' (by have := D1b.out.di.ol; have := D1b.out.di.hl; omega)).mono ?_
        rintro e w6 ⟨v15, rfl, hf⟩
        refine ⟨_, rfl, ?_⟩
        obtain ⟨pa, pc, hv15⟩ := hf.own.sl
        subst hv15
        have O6 := Keep.mk hf.own
        have D16 := Keep.mk (D1b.out.below hf.bel)
        have D26 := Keep.mk (D2.out.below hf.bel)
        have B6 : Keep (Below w.heap.size w w6) := ⟨B5.out.trans (below_cut hf.bel B5.out.size)⟩
        clear hf D1b D2 B5
        simp only [Act.put, List.setIfInBounds_toArray, List.set_cons_zero, List.set_cons_succ]
        refine WL.val (by kernel_rfl) (.slice pa g1.order.length pc) (by go_simp) ?_
        simp only [Act.put, List.setIfInBounds_toArray, List.set_cons_zero, List.set_cons_succ]
        refine WL.nil ?_
        refine hK26 _ _ ?_
        refine wp_seq_k fun K27 hK27 => ?_
        refine wp_seq_k fun K28 hK28 => ?_
        refine wp_region_list (WL.out ?_)
        refine WL.val (by kernel_rfl) (.slice pa g1.order.length pc) (by go_simp) ?_
        simp only [Act.put, List.setIfInBounds_toArray, List.set_cons_zero, List.set_cons_succ]
        refine WL.val (by kernel_rfl) (.pointer (some ⟨d2, 0, none⟩)) (by go_simp) ?_
        simp only [Act.put, List.setIfInBounds_toArray, List.set_cons_zero, List.set_cons_succ]
        refine WL.callF (by kernel_rfl) 21 _ _ rfl Try.in21 #[ptr d2] (by simp [Act.eval]) ?_
        refine (order_any d2 (DgS d2 g2) g2 w6 D26.out.at' (by have := D26.out.di.ol; have := D26.out.di.hl; omega)).mono ?_
        rintro e w7 ⟨v107, rfl, hf⟩
        refine ⟨_, rfl, ?_⟩
        have O7 := Keep.mk (O6.out.below hf.bel)
        have O7b := Keep.mk hf.own
        have D17 := Keep.mk (D16.out.below hf.bel)
        have D27 := Keep.mk (D26.out.below hf.bel)
        have B7 : Keep (Below w.heap.size w w7) := ⟨B6.out.trans (below_cut hf.bel B6.out.size)⟩
        clear hf D16 D26 B6 O6
        simp only [Act.put, List.setIfInBounds_toArray, List.set_cons_zero, List.set_cons_succ]
        have hsm := smH_any _ v107 g1.order g2.order w7 O7.out.row O7b.out.row (by have := D17.out.di.ol; have := D17.out.di.hl; omega)
        rw [decide_eq_true HE.out.1] at hsm
        refine WL.callF (by kernel_rfl) 19 _ _ rfl Try.in19 #[.slice pa g1.order.length pc, v107] (by simp [Act.eval]) ?_
        refine (hsm).mono ?_
        rintro e w8 ⟨rfl, hb⟩
        refine ⟨_, rfl, ?_⟩
        clear hsm
        have O8 := Keep.mk (O7.out.below hb)
        have D18 := Keep.mk (D17.out.below hb)
        have D28 := Keep.mk (D27.out.below hb)
        have B8 : Keep (Below w.heap.size w w8) := ⟨B7.out.trans (below_cut hb B7.out.size)⟩
        clear hb D17 D27 B7 O7 O7b
        simp only [Act.put, List.setIfInBounds_toArray, List.set_cons_zero, List.set_cons_succ]
        refine WL.val (by kernel_rfl) (.bool false) (by go_simp) ?_
        simp only [Act.put, List.setIfInBounds_toArray, List.set_cons_zero, List.set_cons_succ]
        refine WL.val (by kernel_rfl) (.bool false) (by go_simp) ?_
        simp only [Act.put, List.setIfInBounds_toArray, List.set_cons_zero, List.set_cons_succ]
        refine WL.val (by kernel_rfl) (.pointer (some ⟨d1, 0, none⟩)) (by go_simp) ?_
        simp only [Act.put, List.setIfInBounds_toArray, List.set_cons_zero, List.set_cons_succ]
        refine WL.callF (by kernel_rfl) 25 _ _ rfl Try.in25 #[ptr d1] (by simp [Act.eval]) ?_
        refine (heads_any d1 (DgS d1 g1) g1 w8 D18.out.at' (by have := D18.out.di.hdl; have := D18.out.di.hl; omega)).mono ?_
        rintro e w9 ⟨v112, rfl, hf⟩
        refine ⟨_, rfl, ?_⟩
        have O9 := Keep.mk (O8.out.below hf.bel)
        have H9 := Keep.mk hf.own
        have D19 := Keep.mk (D18.out.below hf.bel)
        have D29 := Keep.mk (D28.out.below hf.bel)
        have B9 : Keep (Below w.heap.size w w9) := ⟨B8.out.trans (below_cut hf.bel B8.out.size)⟩
        clear hf D18 D28 B8 O8
        simp only [Act.put, List.setIfInBounds_toArray, List.set_cons_zero, List.set_cons_succ]
        refine WL.val (by kernel_rfl) (.pointer (some ⟨d2, 0, none⟩)) (by go_simp) ?_
        simp only [Act.put, List.setIfInBounds_toArray, List.set_cons_zero, List.set_cons_succ]
        refine WL.callF (by kernel_rfl) 25 _ _ rfl Try.in25 #[ptr d2] (by simp [Act.eval]) ?_
        refine (heads_any d2 (DgS d2 g2) g2 w9 D29.out.at' (by have := D29.out.di.hdl; have := D29.out.di.hl; omega)).mono ?_
        rintro e w10 ⟨v114, rfl, hf⟩
        refine ⟨_, rfl, ?_⟩
        have O10 := Keep.mk (O9.out.below hf.bel)
        have H10 := Keep.mk (H9.out.below hf.bel)
        have H10b := Keep.mk hf.own
        have D110 := Keep.mk (D19.out.below hf.bel)
        have D210 := Keep.mk (D29.out.below hf.bel)
        have B10 : Keep (Below w.heap.size w w10) := ⟨B9.out.trans (below_cut hf.bel B9.out.size)⟩
        clear hf D19 D29 B9 O9 H9
        simp only [Act.put, List.setIfInBounds_toArray, List.set_cons_zero, List.set_cons_succ]
        have hsm := smH_any v112 v114 g1.heads g2.heads w10 H10.out.row H10b.out.row (by have := D110.out.di.hdl; have := D110.out.di.hl; omega)
        rw [decide_eq_true HE.out.2.1] at hsm
        refine WL.callF (by kernel_rfl) 19 _ _ rfl Try.in19 #[v112, v114] (by simp [Act.eval]) ?_
        refine (hsm).mono ?_
        rintro e w11 ⟨rfl, hb⟩
        refine ⟨_, rfl, ?_⟩
        clear hsm
        have O11 := Keep.mk (O10.out.below hb)
        have D111 := Keep.mk (D110.out.below hb)
        have D211 := Keep.mk (D210.out.below hb)
        have B11 : Keep (Below w.heap.size w w11) := ⟨B10.out.trans (below_cut hb B10.out.size)⟩
        clear hb D110 D210 B10 O10 H10 H10b
        simp only [Act.put, List.setIfInBounds_toArray, List.set_cons_zero, List.set_cons_succ]
        refine WL.val (by kernel_rfl) (.bool false) (by go_simp) ?_
        simp only [Act.put, List.setIfInBounds_toArray, List.set_cons_zero, List.set_cons_succ]
        refine WL.val (by kernel_rfl) (.bool false) (by go_simp) ?_
        simp only [Act.put, List.setIfInBounds_toArray, List.set_cons_zero, List.set_cons_succ]
        refine WL.nil ?_
        refine hK28 _ _ ?_
        refine wp_cond_false rfl ?_
        refine wp_skip ?_
        refine hK27 _ _ ?_
        refine wp_seq_k fun K29 hK29 => ?_
        refine wp_seq_k fun K30 hK30 => ?_
        refine wp_region_list (WL.out ?_)
        refine WL.val (by kernel_rfl) (.int .i64 0) (by go_simp) ?_
        simp only [Act.put, List.setIfInBounds_toArray, List.set_cons_zero, List.set_cons_succ]
        refine WL.nil ?_
        refine hK30 _ _ ?_
        refine wp_block ?_
        refine wp_loop (fun ac wq => ∃ (r : Nat) (f : Nat → Value), ac = { tmps := #[.slice la L.length lc, .slice sa S.length sc, undef, undef, f 4, .slice oa L.length oc, y6, y7, y8, .int .i64 (t : Int), u10, .pointer (some ⟨d1, 0, none⟩), .bool true, .pointer (some ⟨d2, 0, none⟩), .bool true, .slice pa g1.order.length pc, .int .i64 (r : Int), f 17, f 18, f 19, f 20, x21, x22, x23, x24, x25, .slice la L.length lc, .slice oa L.length oc, y28, y29, y30, y31, y32, y33, y34, y35, y36, y37, y38, y39, y40, y41, y42, y43, y44, y45, y46, y47, y48, y49, y50, y51, y52, y53, y54, y55, y56, y57, y58, y59, y60, y61, y62, y63, .int .i64 (t : Int), .slice la L.length lc, .int .i64 (L.length : Int), .bool false, u68, u69, u70, u71, u72, u73, u74, u75, u76, u77, u78, u79, u80, u81, u82, u83, u84, u85, u86, .tuple #[.pointer (some ⟨d1, 0, none⟩), .bool true], .slice la L.length lc, .tuple #[.pointer (some ⟨d1, 0, none⟩), .bool true], .pointer (some ⟨d1, 0, none⟩), .bool true, .tuple #[.pointer (some ⟨d2, 0, none⟩), .bool true], .slice oa L.length oc, .tuple #[.pointer (some ⟨d2, 0, none⟩), .bool true], .pointer (some ⟨d2, 0, none⟩), .bool true, .bool true, .bool false, .bool false, .bool true, .bool false, .bool false, .pointer (some ⟨d1, 0, none⟩), .slice pa g1.order.length pc, .slice pa g1.order.length pc, .pointer (some ⟨d2, 0, none⟩), v107, .bool true, .bool false, .bool false, .pointer (some ⟨d1, 0, none⟩), v112, .pointer (some ⟨d2, 0, none⟩), v114, .bool true, .bool false, .bool false, f 118, f 119, f 120, f 121, f 122, f 123, f 124, f 125, f 126, f 127, f 128, f 129, f 130, f 131, f 132, f 133, f 134, f 135, f 136, f 137, f 138, f 139, f 140, f 141, f 142, f 143, f 144, f 145, f 146, f 147, f 148, f 149, f 150, f 151, f 152, f 153, f 154, f 155, f 156, f 157, f 158, f 159, f 160, f 161, f 162, f 163, f 164, f 165, f 166, f 167, f 168, undef], defers := [] } ∧ r ≤ g1.order.length ∧ Below w11.heap.size w11 wq) (fun a _ => g1.order.length - (intOf (a.tmps.getD 16 undef)).toNat) ⟨0, fun i => [.slice la L.length lc, .slice sa S.length sc, undef, undef, u4, .slice oa L.length oc, y6, y7, y8, .int .i64 (t : Int), u10, .pointer (some ⟨d1, 0, none⟩), .bool true, .pointer (some ⟨d2, 0, none⟩), .bool true, .slice pa g1.order.length pc, .int .i64 0, undef, undef, undef, undef, x21, x22, x23, x24, x25, .slice la L.length lc, .slice oa L.length oc, y28, y29, y30, y31, y32, y33, y34, y35, y36, y37, y38, y39, y40, y41, y42, y43, y44, y45, y46, y47, y48, y49, y50, y51, y52, y53, y54, y55, y56, y57, y58, y59, y60, y61, y62, y63, .int .i64 (t : Int), .slice la L.length lc, .int .i64 (L.length : Int), .bool false, u68, u69, u70, u71, u72, u73, u74, u75, u76, u77, u78, u79, u80, u81, u82, u83, u84, u85, u86, .tuple #[.pointer (some ⟨d1, 0, none⟩), .bool true], .slice la L.length lc, .tuple #[.pointer (some ⟨d1, 0, none⟩), .bool true], .pointer (some ⟨d1, 0, none⟩), .bool true, .tuple #[.pointer (some ⟨d2, 0, none⟩), .bool true], .slice oa L.length oc, .tuple #[.pointer (some ⟨d2, 0, none⟩), .bool true], .pointer (some ⟨d2, 0, none⟩), .bool true, .bool true, .bool false, .bool false, .bool true, .bool false, .bool false, .pointer (some ⟨d1, 0, none⟩), .slice pa g1.order.length pc, .slice pa g1.order.length pc, .pointer (some ⟨d2, 0, none⟩), v107, .bool true, .bool false, .bool false, .pointer (some ⟨d1, 0, none⟩), v112, .pointer (some ⟨d2, 0, none⟩), v114, .bool true, .bool false, .bool false, undef, undef, undef, undef, undef, undef, undef, undef, undef, undef, undef, undef, undef, undef, undef, undef, undef, undef, undef, undef, undef, undef, undef, undef, undef, undef, undef, undef, undef, undef, undef, undef, undef, undef, undef, undef, undef, undef, undef, undef, undef, undef, undef, undef, undef, undef, undef, undef, undef, undef, undef, undef].getD i undef, rfl, by omega, Below.refl _ _⟩ ?_
        rintro ac wq ⟨r, f, rfl, ht, hB⟩
        have JB := Keep.mk hB
        clear hB
        by_cases htl : r < g1.order.length
        · have htl' : (r : Int) < (g1.order.length : Int) := by omega
          have hwt : IntKind.i64.wrap ((r : Int) + 1) = ((r + 1 : Nat) : Int) := by rw [IntKind.wrap_i64]; have := D111.out.di.ol; have := D111.out.di.hl; omega
          obtain ⟨gp, op, hpa, -, -, hrg⟩ := (O11.out.below JB.out).row.at (by omega : 0 < g1.order.length)
          subst hpa
          have hel := rangeAt_elem hrg r htl
          obtain ⟨xx, hxx⟩ : ∃ x, x = g1.order[r] := ⟨_, rfl⟩
          rw [← hxx] at hel
          have Hel := Keep.mk hel
          have Hlt := Keep.mk (rangeAt_ltE hel)
          obtain ⟨vx, hvx1, hvm⟩ := held_of_order D111.out.di htl
          rw [← hxx] at hvx1
          have hvx2 := hvx1
          rw [HE.out.2.2] at hvx2
          have HV1 := Keep.mk hvx1
          have HV2 := Keep.mk hvx2
          have HVl : Keep (vx.ps.length ≤ 64) := ⟨(chk_ok (D111.out.di.hc vx hvm)).1⟩
          have E1 := Keep.mk (D111.out.below JB.out)
          have E2 := Keep.mk (D211.out.below JB.out)
          clear hel hrg hxx hvx1 hvx2 hvm
          refine wp_seq_k fun K31 hK31 => ?_
          refine wp_seq_k fun K32 hK32 => ?_
          refine wp_region_list (WL.out ?_)
          refine WL.val (by kernel_rfl) (.int .i64 (r : Int)) (by go_simp) ?_
          simp only [Act.put, List.setIfInBounds_toArray, List.set_cons_zero, List.set_cons_succ]
          refine WL.val (by kernel_rfl) (.slice (some ⟨gp, op, none⟩) g1.order.length pc) (by go_simp) ?_
          simp only [Act.put, List.setIfInBounds_toArray, List.set_cons_zero, List.set_cons_succ]
          refine WL.val (by kernel_rfl) (.int .i64 (g1.order.length : Int)) (by go_simp) ?_
          simp only [Act.put, List.setIfInBounds_toArray, List.set_cons_zero, List.set_cons_succ]
          refine WL.val (by kernel_rfl) (.bool true) (by go_simp) ?_
          simp only [Act.put, List.setIfInBounds_toArray, List.set_cons_zero, List.set_cons_succ]
          refine WL.nil ?_
          refine hK32 _ _ ?_
          refine wp_cond_true rfl ?_
          refine wp_skip ?_
          refine hK31 _ _ ?_
          refine wp_seq_k fun K33 hK33 => ?_
          refine wp_block ?_
          refine wp_seq_k fun K34 hK34 => ?_
          refine wp_region_list (WL.out ?_)
          refine WL.val (by kernel_rfl) (.pointer (some ⟨d1, 0, none⟩)) (by go_simp) ?_
          simp only [Act.put, List.setIfInBounds_toArray, List.set_cons_zero, List.set_cons_succ]
          refine WL.val (by kernel_rfl) (.slice (some ⟨gp, op, none⟩) g1.order.length pc) (by go_simp) ?_
          simp only [Act.put, List.setIfInBounds_toArray, List.set_cons_zero, List.set_cons_succ]
          refine WL.val (by kernel_rfl) (.int .i64 (r : Int)) (by go_simp) ?_
          simp only [Act.put, List.setIfInBounds_toArray, List.set_cons_zero, List.set_cons_succ]
          refine WL.val (by kernel_rfl) (.pointer (some ⟨gp, op + r * 32, none⟩)) (by go_simp) ?_
          simp only [Act.put, List.setIfInBounds_toArray, List.set_cons_zero, List.set_cons_succ]
          refine WL.mid (by kernel_rfl) 36 (.tmp 128) rfl gp (op + r * 32) rfl (encH xx) _ Hel.out Try.underlying36 rfl (Try.size36L xx) ?_
          rw [enc_load]
          simp only [Act.put, List.setIfInBounds_toArray, List.set_cons_zero, List.set_cons_succ]
          have hpa := parents_any d1 xx (DgS d1 g1) g1 wq E1.out.at' (fun v hv => by have h := HV1.out; rw [hv] at h; cases h; have := HVl.out; omega)
          refine WL.callF (by kernel_rfl) 26 _ _ rfl Try.in26 #[ptr d1, .agg (bytesA 32 xx.f)] (by simp [Act.eval]) ?_
          refine (hpa.mono (R' := fun e w' => ∃ v', e = .returned (.tuple #[v', .int .i64 0]) ∧ Fresh wq w' v' vx.ps) (fun e w' h => h.elim (fun h => by have h1 := h.1; rw [HV1.out] at h1; cases h1) fun ⟨v, h1, h2⟩ => by rw [HV1.out] at h1; cases h1; exact h2)).mono ?_
          rintro e wa ⟨v17, rfl, hf⟩
          refine ⟨_, rfl, ?_⟩
          clear hpa
          have P1 := Keep.mk hf.own
          have E1a := Keep.mk (E1.out.below hf.bel)
          have E2a := Keep.mk (E2.out.below hf.bel)
          have BA := Keep.mk hf.bel
          clear hf
          simp only [Act.put, List.setIfInBounds_toArray, List.set_cons_zero, List.set_cons_succ]
          refine WL.val (by kernel_rfl) (.tuple #[v17, .int .i64 0]) (by go_simp) ?_
          simp only [Act.put, List.setIfInBounds_toArray, List.set_cons_zero, List.set_cons_succ]
          refine WL.val (by kernel_rfl) (v17) (by go_simp) ?_
          simp only [Act.put, List.setIfInBounds_toArray, List.set_cons_zero, List.set_cons_succ]
          refine WL.val (by kernel_rfl) (.int .i64 0) (by go_simp) ?_
          simp only [Act.put, List.setIfInBounds_toArray, List.set_cons_zero, List.set_cons_succ]
          refine WL.val (by kernel_rfl) (v17) (by go_simp) ?_
          simp only [Act.put, List.setIfInBounds_toArray, List.set_cons_zero, List.set_cons_succ]
          refine WL.val (by kernel_rfl) (.int .i64 0) (by go_simp) ?_
          simp only [Act.put, List.setIfInBounds_toArray, List.set_cons_zero, List.set_cons_succ]
          refine WL.nil ?_
          refine hK34 _ _ ?_
          refine wp_seq_k fun K35 hK35 => ?_
          refine wp_region_list (WL.out ?_)
          refine WL.val (by kernel_rfl) (.pointer (some ⟨d2, 0, none⟩)) (by go_simp) ?_
          simp only [Act.put, List.setIfInBounds_toArray, List.set_cons_zero, List.set_cons_succ]
          refine WL.val (by kernel_rfl) (.slice (some ⟨gp, op, none⟩) g1.order.length pc) (by go_simp) ?_
          simp only [Act.put, List.setIfInBounds_toArray, List.set_cons_zero, List.set_cons_succ]
          refine WL.val (by kernel_rfl) (.int .i64 (r : Int)) (by go_simp) ?_
          simp only [Act.put, List.setIfInBounds_toArray, List.set_cons_zero, List.set_cons_succ]
          refine WL.val (by kernel_rfl) (.pointer (some ⟨gp, op + r * 32, none⟩)) (by go_simp) ?_
          simp only [Act.put, List.setIfInBounds_toArray, List.set_cons_zero, List.set_cons_succ]
          refine WL.mid (by kernel_rfl) 36 (.tmp 137) rfl gp (op + r * 32) rfl (encH xx) _ (rangeAt_below Hel.out BA.out Hlt.out) Try.underlying36 rfl (Try.size36L xx) ?_
          rw [enc_load]
          simp only [Act.put, List.setIfInBounds_toArray, List.set_cons_zero, List.set_cons_succ]
          have hpa := parents_any d2 xx (DgS d2 g2) g2 wa E2a.out.at' (fun v hv => by have h := HV2.out; rw [hv] at h; cases h; have := HVl.out; omega)
          refine WL.callF (by kernel_rfl) 26 _ _ rfl Try.in26 #[ptr d2, .agg (bytesA 32 xx.f)] (by simp [Act.eval]) ?_
          refine (hpa.mono (R' := fun e w' => ∃ v', e = .returned (.tuple #[v', .int .i64 0]) ∧ Fresh wa w' v' vx.ps) (fun e w' h => h.elim (fun h => by have h1 := h.1; rw [HV2.out] at h1; cases h1) fun ⟨v, h1, h2⟩ => by rw [HV2.out] at h1; cases h1; exact h2)).mono ?_
          rintro e wb ⟨v19, rfl, hf⟩
          refine ⟨_, rfl, ?_⟩
          clear hpa
          have P1b := Keep.mk (P1.out.below hf.bel)
          have P2 := Keep.mk hf.own
          have E1b := Keep.mk (E1a.out.below hf.bel)
          have E2b := Keep.mk (E2a.out.below hf.bel)
          have BB := Keep.mk (belowT BA.out hf.bel)
          clear hf
          simp only [Act.put, List.setIfInBounds_toArray, List.set_cons_zero, List.set_cons_succ]
          refine WL.val (by kernel_rfl) (.tuple #[v19, .int .i64 0]) (by go_simp) ?_
          simp only [Act.put, List.setIfInBounds_toArray, List.set_cons_zero, List.set_cons_succ]
          refine WL.val (by kernel_rfl) (v19) (by go_simp) ?_
          simp only [Act.put, List.setIfInBounds_toArray, List.set_cons_zero, List.set_cons_succ]
          refine WL.val (by kernel_rfl) (.int .i64 0) (by go_simp) ?_
          simp only [Act.put, List.setIfInBounds_toArray, List.set_cons_zero, List.set_cons_succ]
          refine WL.val (by kernel_rfl) (v19) (by go_simp) ?_
          simp only [Act.put, List.setIfInBounds_toArray, List.set_cons_zero, List.set_cons_succ]
          refine WL.val (by kernel_rfl) (.int .i64 0) (by go_simp) ?_
          simp only [Act.put, List.setIfInBounds_toArray, List.set_cons_zero, List.set_cons_succ]
          refine WL.nil ?_
          refine hK35 _ _ ?_
          refine wp_seq_k fun K36 hK36 => ?_
          have hS0 : Keep (∀ wx, Below wq.heap.size wq wx → (fun wx => wx.rangeAt gp (op + r * 32) (encH xx)) wx) := ⟨fun wx hb => rangeAt_below Hel.out hb Hlt.out⟩
          have BC : Keep (Below wq.heap.size wq wb.drew) := ⟨BB.out.drew⟩
          obtain ⟨cx, hcx⟩ : ∃ c, Keep (ckOf g1.held xx = c) := ⟨_, ⟨rfl⟩⟩
          have hcx2 : Keep (ckOf g2.held xx = cx) := ⟨by rw [← hcx.out]; unfold ckOf; rw [HE.out.2.2]⟩
          refine wp_region_held_drew (S := fun wx => wx.rangeAt gp (op + r * 32) (encH xx)) (by kernel_rfl) (hS0.out _ BC.out) (fun hHeld => ?_)
          refine wpAnyH_take (i := 0) (oi := ⟨some 142, Op.move (Operand.tmp 18), 28, _, _, none⟩) (v := .int .i64 0) rfl (by kernel_rfl) (by kernel_rfl) (by kernel_rfl) (fun _ _ _ h => h) (Or.inl ⟨by rfl, fun w hS => by clear hS; go_simp⟩) hHeld ?_
          simp only [Act.put, List.setIfInBounds_toArray, List.set_cons_zero, List.set_cons_succ]
          refine wpAnyH_take (i := 1) (oi := ⟨some 143, Op.binOp BinOp.neq 28 (Operand.tmp 142) (Operand.const (Value.int IntKind.i64 0)) 28, 4, _, _, none⟩) (v := .bool false) rfl (by kernel_rfl) (by kernel_rfl) (by kernel_rfl) (fun _ _ _ h => h) (Or.inl ⟨by rfl, fun w hS => by clear hS; go_simp⟩) hHeld ?_
          simp only [Act.put, List.setIfInBounds_toArray, List.set_cons_zero, List.set_cons_succ]
          refine wpAnyH_take (i := 2) (oi := ⟨some 144, Op.move (Operand.tmp 143), 4, _, _, none⟩) (v := .bool false) rfl (by kernel_rfl) (by kernel_rfl) (by kernel_rfl) (fun _ _ _ h => h) (Or.inl ⟨by rfl, fun w hS => by clear hS; go_simp⟩) hHeld ?_
          simp only [Act.put, List.setIfInBounds_toArray, List.set_cons_zero, List.set_cons_succ]
          refine wpAnyH_take (i := 3) (oi := ⟨some 145, Op.move (Operand.tmp 20), 28, _, _, some (2, false)⟩) (v := .int .i64 0) rfl (by kernel_rfl) (by kernel_rfl) (by kernel_rfl) (fun _ _ _ h => h) (Or.inl ⟨by rfl, fun w hS => by clear hS; go_simp⟩) hHeld ?_
          simp only [Act.put, List.setIfInBounds_toArray, List.set_cons_zero, List.set_cons_succ]
          refine wpAnyH_take (i := 4) (oi := ⟨some 146, Op.binOp BinOp.neq 28 (Operand.tmp 145) (Operand.const (Value.int IntKind.i64 0)) 28, 4, _, _, some (2, false)⟩) (v := .bool false) rfl (by kernel_rfl) (by kernel_rfl) (by kernel_rfl) (fun _ _ _ h => h) (Or.inl ⟨by rfl, fun w hS => by clear hS; go_simp⟩) hHeld ?_
          simp only [Act.put, List.setIfInBounds_toArray, List.set_cons_zero, List.set_cons_succ]
          refine wpAnyH_take (i := 5) (oi := ⟨some 147, Op.pick (Operand.tmp 144) (Operand.const (Value.bool true)) (Operand.tmp 146), 4, _, _, none⟩) (v := .bool false) rfl (by kernel_rfl) (by kernel_rfl) (by kernel_rfl) (fun _ _ _ h => h) (Or.inl ⟨by rfl, fun w hS => by clear hS; go_simp⟩) hHeld ?_
          simp only [Act.put, List.setIfInBounds_toArray, List.set_cons_zero, List.set_cons_succ]
          refine wpAnyH_take (i := 6) (oi := ⟨some 148, Op.move (Operand.tmp 147), 4, _, _, none⟩) (v := .bool false) rfl (by kernel_rfl) (by kernel_rfl) (by kernel_rfl) (fun _ _ _ h => h) (Or.inl ⟨by rfl, fun w hS => by clear hS; go_simp⟩) hHeld ?_
          simp only [Act.put, List.setIfInBounds_toArray, List.set_cons_zero, List.set_cons_succ]
          refine wpAnyH_take (i := 7) (oi := ⟨some 149, Op.move (Operand.tmp 17), 37, _, _, some (6, false)⟩) (v := v17) rfl (by kernel_rfl) (by kernel_rfl) (by kernel_rfl) (fun _ _ _ h => h) (Or.inl ⟨by rfl, fun w hS => by clear hS; go_simp⟩) hHeld ?_
          simp only [Act.put, List.setIfInBounds_toArray, List.set_cons_zero, List.set_cons_succ]
          refine wpAnyH_take (i := 8) (oi := ⟨some 150, Op.move (Operand.tmp 19), 37, _, _, some (6, false)⟩) (v := v19) rfl (by kernel_rfl) (by kernel_rfl) (by kernel_rfl) (fun _ _ _ h => h) (Or.inl ⟨by rfl, fun w hS => by clear hS; go_simp⟩) hHeld ?_
          simp only [Act.put, List.setIfInBounds_toArray, List.set_cons_zero, List.set_cons_succ]
          refine wpAnyH_ready (rs := [9]) (by kernel_rfl) (by simp) ?_
          refine AllReadyH.cons (o := ⟨some 151, Op.call { callee := Callee.value (Operand.func 19), args := #[Operand.tmp 149, Operand.tmp 150], argTypes := #[37, 37] }, 4, _, _, some (6, false)⟩) rfl (fun K hK => ?_) AllReadyH.nil
          rw [if_pos (by rfl)]
          have hsm := smH_any v17 v19 vx.ps vx.ps wb.drew (P1b.out.below (Below.refl _ _).drew).row (P2.out.below (Below.refl _ _).drew).row (by have := HVl.out; omega)
          rw [decide_eq_true rfl] at hsm
          refine wp_callF 19 _ _ rfl Try.in19 #[v17, v19] (by simp [Act.eval]) (fun u wx => u = .bool true ∧ Below wb.drew.heap.size wb.drew wx) (hsm.mono fun e w' ⟨h1, h2⟩ => ⟨_, h1, rfl, h2⟩) ?_
          clear hsm
          rintro _ wc ⟨rfl, hb⟩
          have BD := Keep.mk (belowT BC.out hb)
          have E1c := Keep.mk ((E1b.out.below (Below.refl _ _).drew).below hb)
          have E2c := Keep.mk ((E2b.out.below (Below.refl _ _).drew).below hb)
          refine hK _ _ (hS0.out _ BD.out) fun hH1 => ?_
          clear hK hb
          simp only [Act.put, List.setIfInBounds_toArray, List.set_cons_zero, List.set_cons_succ]
          refine wpAnyH_take (i := 10) (oi := ⟨some 152, Op.unOp UnOp.not 4 (Operand.tmp 151), 4, _, _, some (6, false)⟩) (v := .bool false) rfl (by kernel_rfl) (by kernel_rfl) (by kernel_rfl) (fun _ _ _ h => h) (Or.inl ⟨by rfl, fun w hS => by clear hS; go_simp⟩) hH1 ?_
          simp only [Act.put, List.setIfInBounds_toArray, List.set_cons_zero, List.set_cons_succ]
          refine wpAnyH_take (i := 11) (oi := ⟨some 153, Op.pick (Operand.tmp 148) (Operand.const (Value.bool true)) (Operand.tmp 152), 4, _, _, none⟩) (v := .bool false) rfl (by kernel_rfl) (by kernel_rfl) (by kernel_rfl) (fun _ _ _ h => h) (Or.inl ⟨by rfl, fun w hS => by clear hS; go_simp⟩) hH1 ?_
          simp only [Act.put, List.setIfInBounds_toArray, List.set_cons_zero, List.set_cons_succ]
          refine wpAnyH_take (i := 12) (oi := ⟨some 154, Op.move (Operand.tmp 153), 4, _, _, none⟩) (v := .bool false) rfl (by kernel_rfl) (by kernel_rfl) (by kernel_rfl) (fun _ _ _ h => h) (Or.inl ⟨by rfl, fun w hS => by clear hS; go_simp⟩) hH1 ?_
          simp only [Act.put, List.setIfInBounds_toArray, List.set_cons_zero, List.set_cons_succ]
          refine wpAnyH_take (i := 13) (oi := ⟨some 155, Op.move (Operand.tmp 11), 27, _, _, some (12, false)⟩) (v := .pointer (some ⟨d1, 0, none⟩)) rfl (by kernel_rfl) (by kernel_rfl) (by kernel_rfl) (fun _ _ _ h => h) (Or.inl ⟨by rfl, fun w hS => by clear hS; go_simp⟩) hH1 ?_
          simp only [Act.put, List.setIfInBounds_toArray, List.set_cons_zero, List.set_cons_succ]
          refine wpAnyH_take (i := 14) (oi := ⟨some 156, Op.move (Operand.tmp 15), 37, _, _, some (12, false)⟩) (v := .slice (some ⟨gp, op, none⟩) g1.order.length pc) rfl (by kernel_rfl) (by kernel_rfl) (by kernel_rfl) (fun _ _ _ h => h) (Or.inl ⟨by rfl, fun w hS => by clear hS; go_simp⟩) hH1 ?_
          simp only [Act.put, List.setIfInBounds_toArray, List.set_cons_zero, List.set_cons_succ]
          refine wpAnyH_take (i := 15) (oi := ⟨some 157, Op.move (Operand.tmp 16), 3, _, _, some (12, false)⟩) (v := .int .i64 (r : Int)) rfl (by kernel_rfl) (by kernel_rfl) (by kernel_rfl) (fun _ _ _ h => h) (Or.inl ⟨by rfl, fun w hS => by clear hS; go_simp⟩) hH1 ?_
          simp only [Act.put, List.setIfInBounds_toArray, List.set_cons_zero, List.set_cons_succ]
          refine wpAnyH_take (i := 16) (oi := ⟨some 158, Op.indexAddr 37 (Operand.tmp 156) (Operand.tmp 157), 0, _, _, some (12, false)⟩) (v := .pointer (some ⟨gp, op + r * 32, none⟩)) rfl (by kernel_rfl) (by kernel_rfl) (by kernel_rfl) (fun _ _ _ h => h) (Or.inl ⟨by rfl, fun w hS => by clear hS; go_simp⟩) hH1 ?_
          simp only [Act.put, List.setIfInBounds_toArray, List.set_cons_zero, List.set_cons_succ]
          refine wpAnyH_take (i := 17) (oi := ⟨some 159, Op.load 36 (Operand.tmp 158), 36, _, _, some (12, false)⟩) (v := .agg (bytesA 32 xx.f)) rfl (by kernel_rfl) (by kernel_rfl) (by kernel_rfl) (fun _ _ _ h => h) (yieldsIf_ldE (by rfl) (Operand.tmp 158) rfl gp (op + r * 32) rfl xx fun w hS => hS) hH1 ?_
          simp only [Act.put, List.setIfInBounds_toArray, List.set_cons_zero, List.set_cons_succ]
          refine wpAnyH_take (i := 19) (oi := ⟨some 161, Op.move (Operand.tmp 13), 27, _, _, some (12, false)⟩) (v := .pointer (some ⟨d2, 0, none⟩)) rfl (by kernel_rfl) (by kernel_rfl) (by kernel_rfl) (fun _ _ _ h => h) (Or.inl ⟨by rfl, fun w hS => by clear hS; go_simp⟩) hH1 ?_
          simp only [Act.put, List.setIfInBounds_toArray, List.set_cons_zero, List.set_cons_succ]
          refine wpAnyH_take (i := 20) (oi := ⟨some 162, Op.move (Operand.tmp 15), 37, _, _, some (12, false)⟩) (v := .slice (some ⟨gp, op, none⟩) g1.order.length pc) rfl (by kernel_rfl) (by kernel_rfl) (by kernel_rfl) (fun _ _ _ h => h) (Or.inl ⟨by rfl, fun w hS => by clear hS; go_simp⟩) hH1 ?_
          simp only [Act.put, List.setIfInBounds_toArray, List.set_cons_zero, List.set_cons_succ]
          refine wpAnyH_take (i := 21) (oi := ⟨some 163, Op.move (Operand.tmp 16), 3, _, _, some (12, false)⟩) (v := .int .i64 (r : Int)) rfl (by kernel_rfl) (by kernel_rfl) (by kernel_rfl) (fun _ _ _ h => h) (Or.inl ⟨by rfl, fun w hS => by clear hS; go_simp⟩) hH1 ?_
          simp only [Act.put, List.setIfInBounds_toArray, List.set_cons_zero, List.set_cons_succ]
          refine wpAnyH_take (i := 22) (oi := ⟨some 164, Op.indexAddr 37 (Operand.tmp 162) (Operand.tmp 163), 0, _, _, some (12, false)⟩) (v := .pointer (some ⟨gp, op + r * 32, none⟩)) rfl (by kernel_rfl) (by kernel_rfl) (by kernel_rfl) (fun _ _ _ h => h) (Or.inl ⟨by rfl, fun w hS => by clear hS; go_simp⟩) hH1 ?_
          simp only [Act.put, List.setIfInBounds_toArray, List.set_cons_zero, List.set_cons_succ]
          refine wpAnyH_take (i := 23) (oi := ⟨some 165, Op.load 36 (Operand.tmp 164), 36, _, _, some (12, false)⟩) (v := .agg (bytesA 32 xx.f)) rfl (by kernel_rfl) (by kernel_rfl) (by kernel_rfl) (fun _ _ _ h => h) (yieldsIf_ldE (by rfl) (Operand.tmp 164) rfl gp (op + r * 32) rfl xx fun w hS => hS) hH1 ?_
          simp only [Act.put, List.setIfInBounds_toArray, List.set_cons_zero, List.set_cons_succ]
          refine wpAnyH_ready (rs := [18]) (by kernel_rfl) (by simp) ?_
          refine AllReadyH.cons (o := ⟨some 160, Op.call { callee := Callee.value (Operand.func 27), args := #[Operand.tmp 155, Operand.tmp 159], argTypes := #[27, 36] }, 3, _, _, some (12, false)⟩) rfl (fun K hK => ?_) AllReadyH.nil
          rw [if_pos (by rfl)]
          have hck := clock_any d1 xx (DgS d1 g1) g1 wc E1c.out.at'
          rw [hcx.out] at hck
          refine wp_callF 27 _ _ rfl Try.in27 #[ptr d1, .agg (bytesA 32 xx.f)] (by simp [Act.eval]) (fun u wx => u = .int .i64 cx ∧ Below wc.heap.size wc wx) (hck.mono fun e w' ⟨h1, h2⟩ => ⟨_, h1, rfl, h2⟩) ?_
          clear hck
          rintro _ wd ⟨rfl, hb⟩
          have BE := Keep.mk (belowT BD.out hb)
          have E2d := Keep.mk (E2c.out.below hb)
          refine hK _ _ (hS0.out _ BE.out) fun hH2 => ?_
          clear hK hb
          simp only [Act.put, List.setIfInBounds_toArray, List.set_cons_zero, List.set_cons_succ]
          refine wpAnyH_ready (rs := [24]) (by kernel_rfl) (by simp) ?_
          refine AllReadyH.cons (o := ⟨some 166, Op.call { callee := Callee.value (Operand.func 27), args := #[Operand.tmp 161, Operand.tmp 165], argTypes := #[27, 36] }, 3, _, _, some (12, false)⟩) rfl (fun K hK => ?_) AllReadyH.nil
          rw [if_pos (by rfl)]
          have hck := clock_any d2 xx (DgS d2 g2) g2 wd E2d.out.at'
          rw [hcx2.out] at hck
          refine wp_callF 27 _ _ rfl Try.in27 #[ptr d2, .agg (bytesA 32 xx.f)] (by simp [Act.eval]) (fun u wx => u = .int .i64 cx ∧ Below wd.heap.size wd wx) (hck.mono fun e w' ⟨h1, h2⟩ => ⟨_, h1, rfl, h2⟩) ?_
          clear hck
          rintro _ we ⟨rfl, hb⟩
          have BF := Keep.mk (belowT BE.out hb)
          refine hK _ _ (hS0.out _ BF.out) fun hH3 => ?_
          clear hK hb
          simp only [Act.put, List.setIfInBounds_toArray, List.set_cons_zero, List.set_cons_succ]
          refine wpAnyH_take (i := 25) (oi := ⟨some 167, Op.binOp BinOp.neq 3 (Operand.tmp 160) (Operand.tmp 166) 3, 4, _, _, some (12, false)⟩) (v := .bool false) rfl (by kernel_rfl) (by kernel_rfl) (by kernel_rfl) (fun _ _ _ h => h) (Or.inl ⟨by rfl, fun w hS => by clear hS; go_simp⟩) hH3 ?_
          simp only [Act.put, List.setIfInBounds_toArray, List.set_cons_zero, List.set_cons_succ]
          refine wpAnyH_take (i := 26) (oi := ⟨some 168, Op.pick (Operand.tmp 154) (Operand.const (Value.bool true)) (Operand.tmp 167), 4, _, _, none⟩) (v := .bool false) rfl (by kernel_rfl) (by kernel_rfl) (by kernel_rfl) (fun _ _ _ h => h) (Or.inl ⟨by rfl, fun w hS => by clear hS; go_simp⟩) hH3 ?_
          simp only [Act.put, List.setIfInBounds_toArray, List.set_cons_zero, List.set_cons_succ]
          refine wpAnyH_done (by kernel_rfl) ?_ _
          refine hK36 _ _ ?_
          refine wp_cond_false rfl ?_
          refine wp_skip ?_
          refine hK33 _ _ ?_
          refine wp_region_list (WL.out ?_)
          refine WL.val (by kernel_rfl) (.int .i64 (r : Int)) (by go_simp) ?_
          simp only [Act.put, List.setIfInBounds_toArray, List.set_cons_zero, List.set_cons_succ]
          refine WL.val (by kernel_rfl) (.int .i64 ((r + 1 : Nat) : Int)) (by go_simp) ?_
          simp only [Act.put, List.setIfInBounds_toArray, List.set_cons_zero, List.set_cons_succ]
          refine WL.val (by kernel_rfl) (.int .i64 ((r + 1 : Nat) : Int)) (by go_simp) ?_
          simp only [Act.put, List.setIfInBounds_toArray, List.set_cons_zero, List.set_cons_succ]
          refine WL.nil ?_
          refine ⟨⟨r + 1, fun i => [.slice la L.length lc, .slice sa S.length sc, undef, undef, f 4, .slice oa L.length oc, y6, y7, y8, .int .i64 (t : Int), u10, .pointer (some ⟨d1, 0, none⟩), .bool true, .pointer (some ⟨d2, 0, none⟩), .bool true, .slice (some ⟨gp, op, none⟩) g1.order.length pc, .int .i64 ((r + 1 : Nat) : Int), v17, .int .i64 0, v19, .int .i64 0, x21, x22, x23, x24, x25, .slice la L.length lc, .slice oa L.length oc, y28, y29, y30, y31, y32, y33, y34, y35, y36, y37, y38, y39, y40, y41, y42, y43, y44, y45, y46, y47, y48, y49, y50, y51, y52, y53, y54, y55, y56, y57, y58, y59, y60, y61, y62, y63, .int .i64 (t : Int), .slice la L.length lc, .int .i64 (L.length : Int), .bool false, u68, u69, u70, u71, u72, u73, u74, u75, u76, u77, u78, u79, u80, u81, u82, u83, u84, u85, u86, .tuple #[.pointer (some ⟨d1, 0, none⟩), .bool true], .slice la L.length lc, .tuple #[.pointer (some ⟨d1, 0, none⟩), .bool true], .pointer (some ⟨d1, 0, none⟩), .bool true, .tuple #[.pointer (some ⟨d2, 0, none⟩), .bool true], .slice oa L.length oc, .tuple #[.pointer (some ⟨d2, 0, none⟩), .bool true], .pointer (some ⟨d2, 0, none⟩), .bool true, .bool true, .bool false, .bool false, .bool true, .bool false, .bool false, .pointer (some ⟨d1, 0, none⟩), .slice (some ⟨gp, op, none⟩) g1.order.length pc, .slice (some ⟨gp, op, none⟩) g1.order.length pc, .pointer (some ⟨d2, 0, none⟩), v107, .bool true, .bool false, .bool false, .pointer (some ⟨d1, 0, none⟩), v112, .pointer (some ⟨d2, 0, none⟩), v114, .bool true, .bool false, .bool false, .int .i64 (r : Int), .slice (some ⟨gp, op, none⟩) g1.order.length pc, .int .i64 (g1.order.length : Int), .bool true, .int .i64 (r : Int), .int .i64 ((r + 1 : Nat) : Int), .tuple #[v17, .int .i64 0], .pointer (some ⟨d1, 0, none⟩), .slice (some ⟨gp, op, none⟩) g1.order.length pc, .int .i64 (r : Int), .pointer (some ⟨gp, op + r * 32, none⟩), .agg (bytesA 32 xx.f), .tuple #[v17, .int .i64 0], v17, .int .i64 0, .tuple #[v19, .int .i64 0], .pointer (some ⟨d2, 0, none⟩), .slice (some ⟨gp, op, none⟩) g1.order.length pc, .int .i64 (r : Int), .pointer (some ⟨gp, op + r * 32, none⟩), .agg (bytesA 32 xx.f), .tuple #[v19, .int .i64 0], v19, .int .i64 0, .int .i64 0, .bool false, .bool false, .int .i64 0, .bool false, .bool false, .bool false, v17, v19, .bool true, .bool false, .bool false, .bool false, .pointer (some ⟨d1, 0, none⟩), .slice (some ⟨gp, op, none⟩) g1.order.length pc, .int .i64 (r : Int), .pointer (some ⟨gp, op + r * 32, none⟩), .agg (bytesA 32 xx.f), .int .i64 cx, .pointer (some ⟨d2, 0, none⟩), .slice (some ⟨gp, op, none⟩) g1.order.length pc, .int .i64 (r : Int), .pointer (some ⟨gp, op + r * 32, none⟩), .agg (bytesA 32 xx.f), .int .i64 cx, .bool false, .bool false, undef].getD i undef, rfl, by omega, belowT JB.out BF.out⟩, ?_⟩
          simp only [intOf]; show g1.order.length - (((r + 1 : Nat) : Int)).toNat < g1.order.length - ((r : Int)).toNat; omega
        · have htl' : ¬ (r : Int) < (g1.order.length : Int) := by omega
          refine wp_seq_k fun K37 hK37 => ?_
          refine wp_seq_k fun K38 hK38 => ?_
          refine wp_region_list (WL.out ?_)
          refine WL.val (by kernel_rfl) (.int .i64 (r : Int)) (by go_simp) ?_
          simp only [Act.put, List.setIfInBounds_toArray, List.set_cons_zero, List.set_cons_succ]
          refine WL.val (by kernel_rfl) (.slice pa g1.order.length pc) (by go_simp) ?_
          simp only [Act.put, List.setIfInBounds_toArray, List.set_cons_zero, List.set_cons_succ]
          refine WL.val (by kernel_rfl) (.int .i64 (g1.order.length : Int)) (by go_simp) ?_
          simp only [Act.put, List.setIfInBounds_toArray, List.set_cons_zero, List.set_cons_succ]
          refine WL.val (by kernel_rfl) (.bool false) (by go_simp) ?_
          simp only [Act.put, List.setIfInBounds_toArray, List.set_cons_zero, List.set_cons_succ]
          refine WL.nil ?_
          refine hK38 _ _ ?_
          refine wp_cond_false rfl ?_
          refine wp_exit ?_
          refine hK29 _ _ ?_
          refine wp_seq_k fun K39 hK39 => ?_
          refine wp_region_list (WL.out ?_)
          refine WL.callF (by kernel_rfl) 9 _ _ rfl Try.in9 #[] (by simp) ?_
          refine (fixed_any _).mono ?_
          rintro e w12 ⟨rfl, hz⟩
          refine ⟨_, rfl, ?_⟩
          have B12 := Keep.mk hz
          clear hz
          simp only [Act.put, List.setIfInBounds_toArray, List.set_cons_zero, List.set_cons_succ]
          refine WL.val (by kernel_rfl) (.bool true) (by go_simp) ?_
          simp only [Act.put, List.setIfInBounds_toArray, List.set_cons_zero, List.set_cons_succ]
          refine WL.nil ?_
          refine hK39 _ _ ?_
          refine wp_ret ?_
          go_ret
          exact ⟨rfl, B11.out.trans (below_cut (belowT JB.out B12.out) B11.out.size)⟩
    refine wp_loop (fun ac wr => ∃ (t : Nat) (u7 u8 u28 u29 u30 u31 u32 u33 u34 u35 u36 u37 u38 u39 u40 u41 u42 u43 u44 u45 u46 u47 u48 u49 u50 u51 u52 u53 u54 u55 u56 u57 u58 u59 u60 u61 u62 u63 : Value) (M : List VP), ac = { tmps := #[.slice la L.length lc, .slice sa S.length sc, undef, undef, .bool false, .slice oa L.length oc, .int .i64 (t : Int), u7, u8, undef, undef, undef, undef, undef, undef, undef, undef, undef, undef, undef, undef, x21, x22, x23, x24, x25, .slice la L.length lc, .slice oa L.length oc, u28, u29, u30, u31, u32, u33, u34, u35, u36, u37, u38, u39, u40, u41, u42, u43, u44, u45, u46, u47, u48, u49, u50, u51, u52, u53, u54, u55, u56, u57, u58, u59, u60, u61, u62, u63, undef, undef, undef, undef, undef, undef, undef, undef, undef, undef, undef, undef, undef, undef, undef, undef, undef, undef, undef, undef, undef, undef, undef, undef, undef, undef, undef, undef, undef, undef, undef, undef, undef, undef, undef, undef, undef, undef, undef, undef, undef, undef, undef, undef, undef, undef, undef, undef, undef, undef, undef, undef, undef, undef, undef, undef, undef, undef, undef, undef, undef, undef, undef, undef, undef, undef, undef, undef, undef, undef, undef, undef, undef, undef, undef, undef, undef, undef, undef, undef, undef, undef, undef, undef, undef, undef, undef, undef, undef, undef, undef, undef, undef, undef, undef, undef, undef, undef, undef, undef, undef, undef, undef, undef, undef, undef], defers := [] } ∧ t ≤ S.length ∧ M.Perm L ∧ OwnV wr w.heap.size (.slice oa L.length oc) M ∧ Below w.heap.size w wr) (fun a _ => S.length - (intOf (a.tmps.getD 6 undef)).toNat) ⟨0, undef, undef, undef, undef, undef, undef, undef, undef, undef, undef, undef, undef, undef, undef, undef, undef, undef, undef, undef, undef, undef, undef, undef, undef, undef, undef, undef, undef, undef, undef, undef, undef, undef, undef, undef, undef, undef, undef, L, rfl, by omega, .refl _, HO1.out, HB1.out⟩ ?_
    rintro ac wr ⟨t, u7, u8, u28, u29, u30, u31, u32, u33, u34, u35, u36, u37, u38, u39, u40, u41, u42, u43, u44, u45, u46, u47, u48, u49, u50, u51, u52, u53, u54, u55, u56, u57, u58, u59, u60, u61, u62, u63, M, rfl, ht, hP, hO, hB⟩
    have JP := Keep.mk hP
    have JO := Keep.mk hO
    have JB := Keep.mk hB
    clear hP hO hB
    by_cases htl : t < S.length
    · have htl' : (t : Int) < (S.length : Int) := by omega
      by_cases hpos : 0 < L.length
      · have hpos' : (0 : Int) < (L.length : Int) := by omega
        have hML := JP.out.length_eq
        have HML := Keep.mk hML
        obtain ⟨sb, so, hsa, hsc⟩ := (HS.out.below JB.out).at (by omega : 0 < S.length)
        subst hsa
        obtain ⟨zz, hzz⟩ : ∃ z, z = S[t] := ⟨_, rfl⟩
        have Hcs : Keep (wr.cell? ⟨sb, so + t, none⟩ = some (.int .i64 zz)) := ⟨by rw [hzz]; exact hsc t htl⟩
        have hwt : IntKind.i64.wrap ((t : Int) + 1) = ((t + 1 : Nat) : Int) := by rw [IntKind.wrap_i64]; have := HSl.out; omega
        obtain ⟨g, cur, hoa, -, hBg, hcb, hcl, hcm, hcs, hct⟩ := JO.out.at (by omega : 0 < M.length)
        subst hoa
        have Hg : Keep (w.heap.size ≤ g ∧ Blk wr g 39 cur ∧ M.length ≤ oc ∧ oc ≤ maxLen ∧ cur.size = oc * 34 ∧ cur.toList.take (M.length * 34) = M.flatMap encV) := ⟨⟨hBg, hcb, hcl, hcm, hcs, hct⟩⟩
        clear hsc hzz hBg hcb hcl hcm hcs hct hML
        refine wp_seq_k fun K40 hK40 => ?_
        refine wp_seq_k fun K41 hK41 => ?_
        refine wp_region_list (WL.out ?_)
        refine WL.val (by kernel_rfl) (.int .i64 (t : Int)) (by go_simp) ?_
        simp only [Act.put, List.setIfInBounds_toArray, List.set_cons_zero, List.set_cons_succ]
        refine WL.val (by kernel_rfl) (.slice (some ⟨sb, so, none⟩) S.length sc) (by go_simp) ?_
        simp only [Act.put, List.setIfInBounds_toArray, List.set_cons_zero, List.set_cons_succ]
        refine WL.val (by kernel_rfl) (.int .i64 (S.length : Int)) (by go_simp) ?_
        simp only [Act.put, List.setIfInBounds_toArray, List.set_cons_zero, List.set_cons_succ]
        refine WL.val (by kernel_rfl) (.bool true) (by go_simp) ?_
        simp only [Act.put, List.setIfInBounds_toArray, List.set_cons_zero, List.set_cons_succ]
        refine WL.val (by kernel_rfl) (.bool true) (by go_simp) ?_
        simp only [Act.put, List.setIfInBounds_toArray, List.set_cons_zero, List.set_cons_succ]
        refine WL.val (by kernel_rfl) (.slice la L.length lc) (by go_simp) ?_
        simp only [Act.put, List.setIfInBounds_toArray, List.set_cons_zero, List.set_cons_succ]
        refine WL.val (by kernel_rfl) (.int .i64 (L.length : Int)) (by go_simp) ?_
        simp only [Act.put, List.setIfInBounds_toArray, List.set_cons_zero, List.set_cons_succ]
        refine WL.val (by kernel_rfl) (.bool true) (by go_simp) ?_
        simp only [Act.put, List.setIfInBounds_toArray, List.set_cons_zero, List.set_cons_succ]
        refine WL.val (by kernel_rfl) (.bool true) (by go_simp) ?_
        simp only [Act.put, List.setIfInBounds_toArray, List.set_cons_zero, List.set_cons_succ]
        refine WL.nil ?_
        refine hK41 _ _ ?_
        refine wp_cond_true rfl ?_
        refine wp_skip ?_
        refine hK40 _ _ ?_
        refine wp_seq_k fun K42 hK42 => ?_
        refine wp_block ?_
        refine wp_seq_k fun K43 hK43 => ?_
        refine wp_region_held_drew (S := fun wx => wx.cell? ⟨sb, so + t, none⟩ = some (.int .i64 zz)) (by kernel_rfl) (Hcs.out) (fun hHeld => ?_)
        refine wpAnyH_take (i := 0) (oi := ⟨some 39, Op.move (Operand.tmp 6), 3, _, _, none⟩) (v := .int .i64 (t : Int)) rfl (by kernel_rfl) (by kernel_rfl) (by kernel_rfl) (fun _ _ _ h => h) (Or.inl ⟨by rfl, fun w hS => by go_simp⟩) hHeld ?_
        simp only [Act.put, List.setIfInBounds_toArray, List.set_cons_zero, List.set_cons_succ]
        refine wpAnyH_take (i := 1) (oi := ⟨some 40, Op.move (Operand.tmp 0), 55, _, _, none⟩) (v := .slice la L.length lc) rfl (by kernel_rfl) (by kernel_rfl) (by kernel_rfl) (fun _ _ _ h => h) (Or.inl ⟨by rfl, fun w hS => by go_simp⟩) hHeld ?_
        simp only [Act.put, List.setIfInBounds_toArray, List.set_cons_zero, List.set_cons_succ]
        refine wpAnyH_take (i := 2) (oi := ⟨some 41, Op.call { callee := Callee.builtin Builtin.len, args := #[Operand.tmp 40], argTypes := #[55] }, 3, _, _, none⟩) (v := .int .i64 (L.length : Int)) rfl (by kernel_rfl) (by kernel_rfl) (by kernel_rfl) (fun _ _ _ h => h) (Or.inl ⟨by rfl, fun w hS => by go_simp⟩) hHeld ?_
        simp only [Act.put, List.setIfInBounds_toArray, List.set_cons_zero, List.set_cons_succ]
        refine wpAnyH_take (i := 4) (oi := ⟨some 43, Op.move (Operand.tmp 1), 23, _, _, none⟩) (v := .slice (some ⟨sb, so, none⟩) S.length sc) rfl (by kernel_rfl) (by kernel_rfl) (by kernel_rfl) (fun _ _ _ h => h) (Or.inl ⟨by rfl, fun w hS => by go_simp⟩) hHeld ?_
        simp only [Act.put, List.setIfInBounds_toArray, List.set_cons_zero, List.set_cons_succ]
        refine wpAnyH_take (i := 5) (oi := ⟨some 44, Op.move (Operand.tmp 6), 3, _, _, none⟩) (v := .int .i64 (t : Int)) rfl (by kernel_rfl) (by kernel_rfl) (by kernel_rfl) (fun _ _ _ h => h) (Or.inl ⟨by rfl, fun w hS => by go_simp⟩) hHeld ?_
        simp only [Act.put, List.setIfInBounds_toArray, List.set_cons_zero, List.set_cons_succ]
        refine wpAnyH_take (i := 6) (oi := ⟨some 45, Op.indexAddr 23 (Operand.tmp 43) (Operand.tmp 44), 0, _, _, none⟩) (v := .pointer (some ⟨sb, so + t, none⟩)) rfl (by kernel_rfl) (by kernel_rfl) (by kernel_rfl) (fun _ _ _ h => h) (Or.inl ⟨by rfl, fun w hS => by go_simp⟩) hHeld ?_
        simp only [Act.put, List.setIfInBounds_toArray, List.set_cons_zero, List.set_cons_succ]
        refine wpAnyH_take (i := 7) (oi := ⟨some 46, Op.load 3 (Operand.tmp 45), 3, _, _, none⟩) (v := .int .i64 zz) rfl (by kernel_rfl) (by kernel_rfl) (by kernel_rfl) (fun _ _ _ h => h) (Or.inl ⟨by rfl, fun w hS => by go_simp⟩) hHeld ?_
        simp only [Act.put, List.setIfInBounds_toArray, List.set_cons_zero, List.set_cons_succ]
        refine wpAnyH_take (i := 8) (oi := ⟨some 47, Op.move (Operand.tmp 0), 55, _, _, none⟩) (v := .slice la L.length lc) rfl (by kernel_rfl) (by kernel_rfl) (by kernel_rfl) (fun _ _ _ h => h) (Or.inl ⟨by rfl, fun w hS => by go_simp⟩) hHeld ?_
        simp only [Act.put, List.setIfInBounds_toArray, List.set_cons_zero, List.set_cons_succ]
        refine wpAnyH_take (i := 9) (oi := ⟨some 48, Op.call { callee := Callee.builtin Builtin.len, args := #[Operand.tmp 47], argTypes := #[55] }, 3, _, _, none⟩) (v := .int .i64 (L.length : Int)) rfl (by kernel_rfl) (by kernel_rfl) (by kernel_rfl) (fun _ _ _ h => h) (Or.inl ⟨by rfl, fun w hS => by go_simp⟩) hHeld ?_
        simp only [Act.put, List.setIfInBounds_toArray, List.set_cons_zero, List.set_cons_succ]
        refine wpAnyH_ready (rs := [3]) (by kernel_rfl) (by simp) ?_
        refine AllReadyH.cons (o := ⟨some 42, Op.call { callee := Callee.value (Operand.func 12), args := #[Operand.tmp 39, Operand.tmp 41], argTypes := #[3, 3] }, 3, _, _, none⟩) rfl (fun K hK => ?_) AllReadyH.nil
        rw [if_pos (by rfl)]
        refine wp_callF 12 _ _ rfl Try.in12 #[.int .i64 (t : Int), .int .i64 (L.length : Int)] (by simp [Act.eval]) (fun u wx => ∃ k : Nat, k < L.length ∧ u = .int .i64 (k : Int) ∧ wx = wr.drew) ((plN_any (t : Int) L.length wr.drew hpos (by have := H64.out; omega)).mono fun e w' ⟨k, h1, h2, h3⟩ => ⟨_, h2, k, h1, rfl, h3⟩) ?_
        rintro _ _ ⟨ka, hka, rfl, rfl⟩
        have hka' : (ka : Int) < (L.length : Int) := by omega
        refine hK _ _ Hcs.out fun hH1 => ?_
        clear hK
        simp only [Act.put, List.setIfInBounds_toArray, List.set_cons_zero, List.set_cons_succ]
        refine wpAnyH_ready (rs := [10]) (by kernel_rfl) (by simp) ?_
        refine AllReadyH.cons (o := ⟨some 49, Op.call { callee := Callee.value (Operand.func 12), args := #[Operand.tmp 46, Operand.tmp 48], argTypes := #[3, 3] }, 3, _, _, none⟩) rfl (fun K hK => ?_) AllReadyH.nil
        rw [if_pos (by rfl)]
        refine wp_callF 12 _ _ rfl Try.in12 #[.int .i64 zz, .int .i64 (L.length : Int)] (by simp [Act.eval]) (fun u wx => ∃ k : Nat, k < L.length ∧ u = .int .i64 (k : Int) ∧ wx = wr.drew) ((plN_any zz L.length wr.drew hpos (by have := H64.out; omega)).mono fun e w' ⟨k, h1, h2, h3⟩ => ⟨_, h2, k, h1, rfl, h3⟩) ?_
        rintro _ _ ⟨kb, hkb, rfl, rfl⟩
        have hkb' : (kb : Int) < (L.length : Int) := by omega
        refine hK _ _ Hcs.out fun hH2 => ?_
        clear hK
        simp only [Act.put, List.setIfInBounds_toArray, List.set_cons_zero, List.set_cons_succ]
        refine wpAnyH_take (i := 11) (oi := ⟨some 7, Op.assign (Operand.tmp 42), 3, _, _, none⟩) (v := .int .i64 (ka : Int)) rfl (by kernel_rfl) (by kernel_rfl) (by kernel_rfl) (fun _ _ _ h => h) (Or.inl ⟨by rfl, fun w hS => by go_simp⟩) hH2 ?_
        simp only [Act.put, List.setIfInBounds_toArray, List.set_cons_zero, List.set_cons_succ]
        refine wpAnyH_take (i := 12) (oi := ⟨some 8, Op.assign (Operand.tmp 49), 3, _, _, none⟩) (v := .int .i64 (kb : Int)) rfl (by kernel_rfl) (by kernel_rfl) (by kernel_rfl) (fun _ _ _ h => h) (Or.inl ⟨by rfl, fun w hS => by go_simp⟩) hH2 ?_
        simp only [Act.put, List.setIfInBounds_toArray, List.set_cons_zero, List.set_cons_succ]
        refine wpAnyH_done (by kernel_rfl) ?_ _
        refine hK43 _ _ ?_
        have Hrg := ownV_rng Hg.out.2.1 Hg.out.2.2.2.2.2
        have hra := flat_elem encV_len Hrg ka (by have := HML.out; omega)
        have hrb := flat_elem encV_len Hrg kb (by have := HML.out; omega)
        rw [Nat.zero_add] at hra hrb
        obtain ⟨qa, hqa⟩ : ∃ q, Keep (q = M[ka]'(by have := HML.out; omega)) := ⟨_, ⟨rfl⟩⟩
        obtain ⟨qb, hqb⟩ : ∃ q, Keep (q = M[kb]'(by have := HML.out; omega)) := ⟨_, ⟨rfl⟩⟩
        obtain ⟨va, hva⟩ : ∃ a : Array Value, Keep (a = vtx qa.1.id.f qa.1.ck qa.2) := ⟨_, ⟨rfl⟩⟩
        obtain ⟨vb, hvb⟩ : ∃ a : Array Value, Keep (a = vtx qb.1.id.f qb.1.ck qb.2) := ⟨_, ⟨rfl⟩⟩
        have Hra : Keep (wr.drew.drew.rangeAt g (ka * 34) va.toList) := ⟨by rw [hva.out, hqa.out]; exact hra⟩
        have Hrb : Keep (wr.drew.drew.rangeAt g (kb * 34) vb.toList) := ⟨by rw [hvb.out, hqb.out]; exact hrb⟩
        have Hqs : Keep (∀ q ∈ M, HRow w q.2 q.1.ps ∧ q.1.ps.length ≤ 4398046511104) := ⟨fun q hq => HV.out.2 q (JP.out.mem_iff.1 hq)⟩
        have Hoa : Keep (va.all (·.oneCell') = true) := ⟨by obtain ⟨a, c, e⟩ := (Hqs.out qa (hqa.out ▸ List.getElem_mem _)).1.form; rw [hva.out]; exact vtx_one _ _ _ (by rw [e]; rfl)⟩
        have Hob : Keep (vb.all (·.oneCell') = true) := ⟨by obtain ⟨a, c, e⟩ := (Hqs.out qb (hqb.out ▸ List.getElem_mem _)).1.form; rw [hvb.out]; exact vtx_one _ _ _ (by rw [e]; rfl)⟩
        clear hra hrb Hrg
        refine wp_region_held_drew (S := fun _ => True) (by kernel_rfl) (trivial) (fun hHeld => ?_)
        refine wpAnyH_take (i := 0) (oi := ⟨some 50, Op.move (Operand.tmp 5), 55, _, _, none⟩) (v := .slice (some ⟨g, 0, none⟩) L.length oc) rfl (by kernel_rfl) (by kernel_rfl) (by kernel_rfl) (fun _ _ _ h => h) (Or.inl ⟨by rfl, fun w hS => by go_simp⟩) hHeld ?_
        simp only [Act.put, List.setIfInBounds_toArray, List.set_cons_zero, List.set_cons_succ]
        refine wpAnyH_take (i := 1) (oi := ⟨some 51, Op.move (Operand.tmp 7), 3, _, _, none⟩) (v := .int .i64 (ka : Int)) rfl (by kernel_rfl) (by kernel_rfl) (by kernel_rfl) (fun _ _ _ h => h) (Or.inl ⟨by rfl, fun w hS => by go_simp⟩) hHeld ?_
        simp only [Act.put, List.setIfInBounds_toArray, List.set_cons_zero, List.set_cons_succ]
        refine wpAnyH_take (i := 2) (oi := ⟨some 52, Op.move (Operand.tmp 5), 55, _, _, none⟩) (v := .slice (some ⟨g, 0, none⟩) L.length oc) rfl (by kernel_rfl) (by kernel_rfl) (by kernel_rfl) (fun _ _ _ h => h) (Or.inl ⟨by rfl, fun w hS => by go_simp⟩) hHeld ?_
        simp only [Act.put, List.setIfInBounds_toArray, List.set_cons_zero, List.set_cons_succ]
        refine wpAnyH_take (i := 3) (oi := ⟨some 53, Op.move (Operand.tmp 8), 3, _, _, none⟩) (v := .int .i64 (kb : Int)) rfl (by kernel_rfl) (by kernel_rfl) (by kernel_rfl) (fun _ _ _ h => h) (Or.inl ⟨by rfl, fun w hS => by go_simp⟩) hHeld ?_
        simp only [Act.put, List.setIfInBounds_toArray, List.set_cons_zero, List.set_cons_succ]
        refine wpAnyH_take (i := 4) (oi := ⟨some 54, Op.move (Operand.tmp 5), 55, _, _, none⟩) (v := .slice (some ⟨g, 0, none⟩) L.length oc) rfl (by kernel_rfl) (by kernel_rfl) (by kernel_rfl) (fun _ _ _ h => h) (Or.inl ⟨by rfl, fun w hS => by go_simp⟩) hHeld ?_
        simp only [Act.put, List.setIfInBounds_toArray, List.set_cons_zero, List.set_cons_succ]
        refine wpAnyH_take (i := 5) (oi := ⟨some 55, Op.move (Operand.tmp 8), 3, _, _, none⟩) (v := .int .i64 (kb : Int)) rfl (by kernel_rfl) (by kernel_rfl) (by kernel_rfl) (fun _ _ _ h => h) (Or.inl ⟨by rfl, fun w hS => by go_simp⟩) hHeld ?_
        simp only [Act.put, List.setIfInBounds_toArray, List.set_cons_zero, List.set_cons_succ]
        refine wpAnyH_take (i := 6) (oi := ⟨some 56, Op.indexAddr 55 (Operand.tmp 54) (Operand.tmp 55), 0, _, _, none⟩) (v := .pointer (some ⟨g, kb * 34, none⟩)) rfl (by kernel_rfl) (by kernel_rfl) (by kernel_rfl) (fun _ _ _ h => h) (Or.inl ⟨by rfl, fun w hS => by go_simp⟩) hHeld ?_
        simp only [Act.put, List.setIfInBounds_toArray, List.set_cons_zero, List.set_cons_succ]
        refine wpAnyH_take (i := 8) (oi := ⟨some 58, Op.move (Operand.tmp 5), 55, _, _, none⟩) (v := .slice (some ⟨g, 0, none⟩) L.length oc) rfl (by kernel_rfl) (by kernel_rfl) (by kernel_rfl) (fun _ _ _ h => h) (Or.inl ⟨by rfl, fun w hS => by go_simp⟩) hHeld ?_
        simp only [Act.put, List.setIfInBounds_toArray, List.set_cons_zero, List.set_cons_succ]
        refine wpAnyH_take (i := 9) (oi := ⟨some 59, Op.move (Operand.tmp 7), 3, _, _, none⟩) (v := .int .i64 (ka : Int)) rfl (by kernel_rfl) (by kernel_rfl) (by kernel_rfl) (fun _ _ _ h => h) (Or.inl ⟨by rfl, fun w hS => by go_simp⟩) hHeld ?_
        simp only [Act.put, List.setIfInBounds_toArray, List.set_cons_zero, List.set_cons_succ]
        refine wpAnyH_take (i := 10) (oi := ⟨some 60, Op.indexAddr 55 (Operand.tmp 58) (Operand.tmp 59), 0, _, _, none⟩) (v := .pointer (some ⟨g, ka * 34, none⟩)) rfl (by kernel_rfl) (by kernel_rfl) (by kernel_rfl) (fun _ _ _ h => h) (Or.inl ⟨by rfl, fun w hS => by go_simp⟩) hHeld ?_
        simp only [Act.put, List.setIfInBounds_toArray, List.set_cons_zero, List.set_cons_succ]
        refine wpAnyH_ready (rs := [7, 11]) (by kernel_rfl) (by simp) ?_
        refine AllReadyH.cons (o := ⟨some 57, Op.load 39 (Operand.tmp 56), 39, _, _, none⟩) rfl (fun K hK => ?_) (AllReadyH.cons (o := ⟨some 61, Op.load 39 (Operand.tmp 60), 39, _, _, none⟩) rfl (fun K hK => ?_) AllReadyH.nil)
        all_goals rw [if_pos (by rfl)]
        · refine wp_load_mid 39 (Operand.tmp 56) rfl g (kb * 34) rfl vb.toList _ Hrb.out Try.underlying39 rfl (by rw [Array.length_toList, hvb.out]; exact Try.info39s _ _ _) ?_
          rw [Array.toArray_toList]
          refine hK _ _ trivial fun hR1 => ?_
          clear hK
          simp only [Act.put, List.setIfInBounds_toArray, List.set_cons_zero, List.set_cons_succ]
          refine wpAnyH_ready (rs := [11]) (by kernel_rfl) (by simp) ?_
          refine AllReadyH.cons (o := ⟨some 61, Op.load 39 (Operand.tmp 60), 39, _, _, none⟩) rfl (fun K hK => ?_) AllReadyH.nil
          rw [if_pos (by rfl)]
          refine wp_load_mid 39 (Operand.tmp 60) rfl g (ka * 34) rfl va.toList _ Hra.out Try.underlying39 rfl (by rw [Array.length_toList, hva.out]; exact Try.info39s _ _ _) ?_
          rw [Array.toArray_toList]
          refine hK _ _ trivial fun hR2 => ?_
          clear hK
          simp only [Act.put, List.setIfInBounds_toArray, List.set_cons_zero, List.set_cons_succ]
          refine wpAnyH_take (i := 12) (oi := ⟨some 62, Op.indexAddr 55 (Operand.tmp 50) (Operand.tmp 51), 0, _, _, none⟩) (v := .pointer (some ⟨g, ka * 34, none⟩)) rfl (by kernel_rfl) (by kernel_rfl) (by kernel_rfl) (fun _ _ _ h => h) (Or.inl ⟨by rfl, fun w hS => by go_simp⟩) hR2 ?_
          simp only [Act.put, List.setIfInBounds_toArray, List.set_cons_zero, List.set_cons_succ]
          refine wpAnyH_ready (rs := [13]) (by kernel_rfl) (by simp) ?_
          refine AllReadyH.cons (o := ⟨none, Op.store 39 (Operand.tmp 62) (Operand.tmp 57), 0, _, _, none⟩) rfl (fun K hK => ?_) AllReadyH.nil
          rw [if_pos (by rfl)]
          have hfa : ka * 34 + vb.size ≤ cur.size := by rw [hvb.out, vtx_size, Hg.out.2.2.2.2.1]; have := Hg.out.2.2.1; have := HML.out; omega
          refine wp_store_part 39 (Operand.tmp 62) (Operand.tmp 57) rfl g (ka * 34) vb rfl rfl 39 cur Hg.out.2.1 (by rw [hvb.out]; exact Try.info39s _ _ _) hfa Hob.out ?_
          have HO2 := Keep.mk (OwnV.set (w := wr.drew.drew) (B := w.heap.size) (q := qb) Hg.out.1 Hg.out.2.1 Hg.out.2.2.1 Hg.out.2.2.2.1 Hg.out.2.2.2.2.1 Hg.out.2.2.2.2.2 (i := ka) (by have := HML.out; omega) vb (by rw [hvb.out]; rfl))
          have B2 : Keep (Below w.heap.size w (wr.drew.drew.setRow g (cur.toList.take (ka * 34) ++ vb.toList ++ cur.toList.drop (ka * 34 + vb.size)).toArray)) := ⟨below_setRow JB.out.drew.drew Hg.out.1 _⟩
          refine hK _ _ trivial fun hH3 => ?_
          clear hK hfa
          generalize wr.drew.drew.setRow g (cur.toList.take (ka * 34) ++ vb.toList ++ cur.toList.drop (ka * 34 + vb.size)).toArray = w8 at *
          simp only [Act.put, List.setIfInBounds_toArray, List.set_cons_zero, List.set_cons_succ]
          refine wpAnyH_take (i := 14) (oi := ⟨some 63, Op.indexAddr 55 (Operand.tmp 52) (Operand.tmp 53), 0, _, _, none⟩) (v := .pointer (some ⟨g, kb * 34, none⟩)) rfl (by kernel_rfl) (by kernel_rfl) (by kernel_rfl) (fun _ _ _ h => h) (Or.inl ⟨by rfl, fun w hS => by go_simp⟩) hH3 ?_
          simp only [Act.put, List.setIfInBounds_toArray, List.set_cons_zero, List.set_cons_succ]
          refine wpAnyH_ready (rs := [15]) (by kernel_rfl) (by simp) ?_
          refine AllReadyH.cons (o := ⟨none, Op.store 39 (Operand.tmp 63) (Operand.tmp 61), 0, _, _, none⟩) rfl (fun K hK => ?_) AllReadyH.nil
          rw [if_pos (by rfl)]
          obtain ⟨g', cur2, hg2, -, hBg, hcb, hcl, hcm, hcs, hct⟩ := HO2.out.at (by rw [List.length_set]; have := HML.out; omega)
          cases hg2
          rw [List.length_set] at hcl hct
          have hfa : kb * 34 + va.size ≤ cur2.size := by rw [hva.out, vtx_size, hcs]; have := HML.out; omega
          refine wp_store_part 39 (Operand.tmp 63) (Operand.tmp 61) rfl g (kb * 34) va rfl rfl 39 cur2 hcb (by rw [hva.out]; exact Try.info39s _ _ _) hfa Hoa.out ?_
          have HO3 : Keep (OwnV (w8.setRow g (cur2.toList.take (kb * 34) ++ va.toList ++ cur2.toList.drop (kb * 34 + va.size)).toArray) w.heap.size (.slice (some ⟨g, 0, none⟩) L.length oc) ((M.set ka qb).set kb qa)) := ⟨by have h := OwnV.set (w := w8) (B := w.heap.size) (q := qa) (L := M.set ka qb) hBg hcb (by rw [List.length_set]; exact hcl) hcm hcs (by rw [List.length_set]; exact hct) (i := kb) (by rw [List.length_set]; have := HML.out; omega) va (by rw [hva.out]; rfl); rw [List.length_set, HML.out] at h; exact h⟩
          have B3 : Keep (Below w.heap.size w (w8.setRow g (cur2.toList.take (kb * 34) ++ va.toList ++ cur2.toList.drop (kb * 34 + va.size)).toArray)) := ⟨below_setRow B2.out hBg _⟩
          have P3 : Keep (((M.set ka qb).set kb qa).Perm L) := ⟨by rw [hqa.out, hqb.out]; exact (List.set_set_perm (by have := HML.out; omega) (by have := HML.out; omega)).trans JP.out⟩
          refine hK _ _ trivial fun hH4 => ?_
          clear hK hfa hBg hcb hcl hcm hcs hct
          generalize w8.setRow g (cur2.toList.take (kb * 34) ++ va.toList ++ cur2.toList.drop (kb * 34 + va.size)).toArray = w9 at *
          simp only [Act.put, List.setIfInBounds_toArray, List.set_cons_zero, List.set_cons_succ]
          refine wpAnyH_done (by kernel_rfl) ?_ _
          refine hK42 _ _ ?_
          refine wp_region_list (WL.out ?_)
          refine WL.val (by kernel_rfl) (.int .i64 (t : Int)) (by go_simp) ?_
          simp only [Act.put, List.setIfInBounds_toArray, List.set_cons_zero, List.set_cons_succ]
          refine WL.val (by kernel_rfl) (.int .i64 ((t + 1 : Nat) : Int)) (by go_simp) ?_
          simp only [Act.put, List.setIfInBounds_toArray, List.set_cons_zero, List.set_cons_succ]
          refine WL.val (by kernel_rfl) (.int .i64 ((t + 1 : Nat) : Int)) (by go_simp) ?_
          simp only [Act.put, List.setIfInBounds_toArray, List.set_cons_zero, List.set_cons_succ]
          refine WL.nil ?_
          refine ⟨⟨t + 1, .int .i64 (ka : Int), .int .i64 (kb : Int), .int .i64 (t : Int), .slice (some ⟨sb, so, none⟩) S.length sc, .int .i64 (S.length : Int), .bool true, .bool true, .slice la L.length lc, .int .i64 (L.length : Int), .bool true, .bool true, .int .i64 (t : Int), .int .i64 ((t + 1 : Nat) : Int), .int .i64 (t : Int), .slice la L.length lc, .int .i64 (L.length : Int), .int .i64 (ka : Int), .slice (some ⟨sb, so, none⟩) S.length sc, .int .i64 (t : Int), .pointer (some ⟨sb, so + t, none⟩), .int .i64 zz, .slice la L.length lc, .int .i64 (L.length : Int), .int .i64 (kb : Int), .slice (some ⟨g, 0, none⟩) L.length oc, .int .i64 (ka : Int), .slice (some ⟨g, 0, none⟩) L.length oc, .int .i64 (kb : Int), .slice (some ⟨g, 0, none⟩) L.length oc, .int .i64 (kb : Int), .pointer (some ⟨g, kb * 34, none⟩), .agg vb, .slice (some ⟨g, 0, none⟩) L.length oc, .int .i64 (ka : Int), .pointer (some ⟨g, ka * 34, none⟩), .agg va, .pointer (some ⟨g, ka * 34, none⟩), .pointer (some ⟨g, kb * 34, none⟩), (M.set ka qb).set kb qa, rfl, by omega, P3.out, HO3.out, B3.out⟩, ?_⟩
          simp only [intOf]; show S.length - (((t + 1 : Nat) : Int)).toNat < S.length - ((t : Int)).toNat; omega
        · refine wp_load_mid 39 (Operand.tmp 60) rfl g (ka * 34) rfl va.toList _ Hra.out Try.underlying39 rfl (by rw [Array.length_toList, hva.out]; exact Try.info39s _ _ _) ?_
          rw [Array.toArray_toList]
          refine hK _ _ trivial fun hR1 => ?_
          clear hK
          simp only [Act.put, List.setIfInBounds_toArray, List.set_cons_zero, List.set_cons_succ]
          refine wpAnyH_ready (rs := [7]) (by kernel_rfl) (by simp) ?_
          refine AllReadyH.cons (o := ⟨some 57, Op.load 39 (Operand.tmp 56), 39, _, _, none⟩) rfl (fun K hK => ?_) AllReadyH.nil
          rw [if_pos (by rfl)]
          refine wp_load_mid 39 (Operand.tmp 56) rfl g (kb * 34) rfl vb.toList _ Hrb.out Try.underlying39 rfl (by rw [Array.length_toList, hvb.out]; exact Try.info39s _ _ _) ?_
          rw [Array.toArray_toList]
          refine hK _ _ trivial fun hR2 => ?_
          clear hK
          simp only [Act.put, List.setIfInBounds_toArray, List.set_cons_zero, List.set_cons_succ]
          refine wpAnyH_take (i := 12) (oi := ⟨some 62, Op.indexAddr 55 (Operand.tmp 50) (Operand.tmp 51), 0, _, _, none⟩) (v := .pointer (some ⟨g, ka * 34, none⟩)) rfl (by kernel_rfl) (by kernel_rfl) (by kernel_rfl) (fun _ _ _ h => h) (Or.inl ⟨by rfl, fun w hS => by go_simp⟩) hR2 ?_
          simp only [Act.put, List.setIfInBounds_toArray, List.set_cons_zero, List.set_cons_succ]
          refine wpAnyH_ready (rs := [13]) (by kernel_rfl) (by simp) ?_
          refine AllReadyH.cons (o := ⟨none, Op.store 39 (Operand.tmp 62) (Operand.tmp 57), 0, _, _, none⟩) rfl (fun K hK => ?_) AllReadyH.nil
          rw [if_pos (by rfl)]
          have hfa : ka * 34 + vb.size ≤ cur.size := by rw [hvb.out, vtx_size, Hg.out.2.2.2.2.1]; have := Hg.out.2.2.1; have := HML.out; omega
          refine wp_store_part 39 (Operand.tmp 62) (Operand.tmp 57) rfl g (ka * 34) vb rfl rfl 39 cur Hg.out.2.1 (by rw [hvb.out]; exact Try.info39s _ _ _) hfa Hob.out ?_
          have HO2 := Keep.mk (OwnV.set (w := wr.drew.drew) (B := w.heap.size) (q := qb) Hg.out.1 Hg.out.2.1 Hg.out.2.2.1 Hg.out.2.2.2.1 Hg.out.2.2.2.2.1 Hg.out.2.2.2.2.2 (i := ka) (by have := HML.out; omega) vb (by rw [hvb.out]; rfl))
          have B2 : Keep (Below w.heap.size w (wr.drew.drew.setRow g (cur.toList.take (ka * 34) ++ vb.toList ++ cur.toList.drop (ka * 34 + vb.size)).toArray)) := ⟨below_setRow JB.out.drew.drew Hg.out.1 _⟩
          refine hK _ _ trivial fun hH3 => ?_
          clear hK hfa
          generalize wr.drew.drew.setRow g (cur.toList.take (ka * 34) ++ vb.toList ++ cur.toList.drop (ka * 34 + vb.size)).toArray = w8 at *
          simp only [Act.put, List.setIfInBounds_toArray, List.set_cons_zero, List.set_cons_succ]
          refine wpAnyH_take (i := 14) (oi := ⟨some 63, Op.indexAddr 55 (Operand.tmp 52) (Operand.tmp 53), 0, _, _, none⟩) (v := .pointer (some ⟨g, kb * 34, none⟩)) rfl (by kernel_rfl) (by kernel_rfl) (by kernel_rfl) (fun _ _ _ h => h) (Or.inl ⟨by rfl, fun w hS => by go_simp⟩) hH3 ?_
          simp only [Act.put, List.setIfInBounds_toArray, List.set_cons_zero, List.set_cons_succ]
          refine wpAnyH_ready (rs := [15]) (by kernel_rfl) (by simp) ?_
          refine AllReadyH.cons (o := ⟨none, Op.store 39 (Operand.tmp 63) (Operand.tmp 61), 0, _, _, none⟩) rfl (fun K hK => ?_) AllReadyH.nil
          rw [if_pos (by rfl)]
          obtain ⟨g', cur2, hg2, -, hBg, hcb, hcl, hcm, hcs, hct⟩ := HO2.out.at (by rw [List.length_set]; have := HML.out; omega)
          cases hg2
          rw [List.length_set] at hcl hct
          have hfa : kb * 34 + va.size ≤ cur2.size := by rw [hva.out, vtx_size, hcs]; have := HML.out; omega
          refine wp_store_part 39 (Operand.tmp 63) (Operand.tmp 61) rfl g (kb * 34) va rfl rfl 39 cur2 hcb (by rw [hva.out]; exact Try.info39s _ _ _) hfa Hoa.out ?_
          have HO3 : Keep (OwnV (w8.setRow g (cur2.toList.take (kb * 34) ++ va.toList ++ cur2.toList.drop (kb * 34 + va.size)).toArray) w.heap.size (.slice (some ⟨g, 0, none⟩) L.length oc) ((M.set ka qb).set kb qa)) := ⟨by have h := OwnV.set (w := w8) (B := w.heap.size) (q := qa) (L := M.set ka qb) hBg hcb (by rw [List.length_set]; exact hcl) hcm hcs (by rw [List.length_set]; exact hct) (i := kb) (by rw [List.length_set]; have := HML.out; omega) va (by rw [hva.out]; rfl); rw [List.length_set, HML.out] at h; exact h⟩
          have B3 : Keep (Below w.heap.size w (w8.setRow g (cur2.toList.take (kb * 34) ++ va.toList ++ cur2.toList.drop (kb * 34 + va.size)).toArray)) := ⟨below_setRow B2.out hBg _⟩
          have P3 : Keep (((M.set ka qb).set kb qa).Perm L) := ⟨by rw [hqa.out, hqb.out]; exact (List.set_set_perm (by have := HML.out; omega) (by have := HML.out; omega)).trans JP.out⟩
          refine hK _ _ trivial fun hH4 => ?_
          clear hK hfa hBg hcb hcl hcm hcs hct
          generalize w8.setRow g (cur2.toList.take (kb * 34) ++ va.toList ++ cur2.toList.drop (kb * 34 + va.size)).toArray = w9 at *
          simp only [Act.put, List.setIfInBounds_toArray, List.set_cons_zero, List.set_cons_succ]
          refine wpAnyH_done (by kernel_rfl) ?_ _
          refine hK42 _ _ ?_
          refine wp_region_list (WL.out ?_)
          refine WL.val (by kernel_rfl) (.int .i64 (t : Int)) (by go_simp) ?_
          simp only [Act.put, List.setIfInBounds_toArray, List.set_cons_zero, List.set_cons_succ]
          refine WL.val (by kernel_rfl) (.int .i64 ((t + 1 : Nat) : Int)) (by go_simp) ?_
          simp only [Act.put, List.setIfInBounds_toArray, List.set_cons_zero, List.set_cons_succ]
          refine WL.val (by kernel_rfl) (.int .i64 ((t + 1 : Nat) : Int)) (by go_simp) ?_
          simp only [Act.put, List.setIfInBounds_toArray, List.set_cons_zero, List.set_cons_succ]
          refine WL.nil ?_
          refine ⟨⟨t + 1, .int .i64 (ka : Int), .int .i64 (kb : Int), .int .i64 (t : Int), .slice (some ⟨sb, so, none⟩) S.length sc, .int .i64 (S.length : Int), .bool true, .bool true, .slice la L.length lc, .int .i64 (L.length : Int), .bool true, .bool true, .int .i64 (t : Int), .int .i64 ((t + 1 : Nat) : Int), .int .i64 (t : Int), .slice la L.length lc, .int .i64 (L.length : Int), .int .i64 (ka : Int), .slice (some ⟨sb, so, none⟩) S.length sc, .int .i64 (t : Int), .pointer (some ⟨sb, so + t, none⟩), .int .i64 zz, .slice la L.length lc, .int .i64 (L.length : Int), .int .i64 (kb : Int), .slice (some ⟨g, 0, none⟩) L.length oc, .int .i64 (ka : Int), .slice (some ⟨g, 0, none⟩) L.length oc, .int .i64 (kb : Int), .slice (some ⟨g, 0, none⟩) L.length oc, .int .i64 (kb : Int), .pointer (some ⟨g, kb * 34, none⟩), .agg vb, .slice (some ⟨g, 0, none⟩) L.length oc, .int .i64 (ka : Int), .pointer (some ⟨g, ka * 34, none⟩), .agg va, .pointer (some ⟨g, ka * 34, none⟩), .pointer (some ⟨g, kb * 34, none⟩), (M.set ka qb).set kb qa, rfl, by omega, P3.out, HO3.out, B3.out⟩, ?_⟩
          simp only [intOf]; show S.length - (((t + 1 : Nat) : Int)).toNat < S.length - ((t : Int)).toNat; omega
      · have hpos' : ¬ (0 : Int) < (L.length : Int) := by omega
        refine wp_seq_k fun K44 hK44 => ?_
        refine wp_seq_k fun K45 hK45 => ?_
        refine wp_region_list (WL.out ?_)
        refine WL.val (by kernel_rfl) (.int .i64 (t : Int)) (by go_simp) ?_
        simp only [Act.put, List.setIfInBounds_toArray, List.set_cons_zero, List.set_cons_succ]
        refine WL.val (by kernel_rfl) (.slice sa S.length sc) (by go_simp) ?_
        simp only [Act.put, List.setIfInBounds_toArray, List.set_cons_zero, List.set_cons_succ]
        refine WL.val (by kernel_rfl) (.int .i64 (S.length : Int)) (by go_simp) ?_
        simp only [Act.put, List.setIfInBounds_toArray, List.set_cons_zero, List.set_cons_succ]
        refine WL.val (by kernel_rfl) (.bool true) (by go_simp) ?_
        simp only [Act.put, List.setIfInBounds_toArray, List.set_cons_zero, List.set_cons_succ]
        refine WL.val (by kernel_rfl) (.bool true) (by go_simp) ?_
        simp only [Act.put, List.setIfInBounds_toArray, List.set_cons_zero, List.set_cons_succ]
        refine WL.val (by kernel_rfl) (.slice la L.length lc) (by go_simp) ?_
        simp only [Act.put, List.setIfInBounds_toArray, List.set_cons_zero, List.set_cons_succ]
        refine WL.val (by kernel_rfl) (.int .i64 (L.length : Int)) (by go_simp) ?_
        simp only [Act.put, List.setIfInBounds_toArray, List.set_cons_zero, List.set_cons_succ]
        refine WL.val (by kernel_rfl) (.bool false) (by go_simp) ?_
        simp only [Act.put, List.setIfInBounds_toArray, List.set_cons_zero, List.set_cons_succ]
        refine WL.val (by kernel_rfl) (.bool false) (by go_simp) ?_
        simp only [Act.put, List.setIfInBounds_toArray, List.set_cons_zero, List.set_cons_succ]
        refine WL.nil ?_
        refine hK45 _ _ ?_
        refine wp_cond_false rfl ?_
        refine wp_exit ?_
        exact rest2 M wr _ _ _ _ _ _ _ _ _ _ _ _ _ _ _ _ _ _ _ _ _ _ _ _ _ _ _ _ _ _ _ _ _ _ _ _ _ _ _ JP.out JO.out JB.out
    · have htl' : ¬ (t : Int) < (S.length : Int) := by omega
      refine wp_seq_k fun K46 hK46 => ?_
      refine wp_seq_k fun K47 hK47 => ?_
      refine wp_region_list (WL.out ?_)
      refine WL.val (by kernel_rfl) (.int .i64 (t : Int)) (by go_simp) ?_
      simp only [Act.put, List.setIfInBounds_toArray, List.set_cons_zero, List.set_cons_succ]
      refine WL.val (by kernel_rfl) (.slice sa S.length sc) (by go_simp) ?_
      simp only [Act.put, List.setIfInBounds_toArray, List.set_cons_zero, List.set_cons_succ]
      refine WL.val (by kernel_rfl) (.int .i64 (S.length : Int)) (by go_simp) ?_
      simp only [Act.put, List.setIfInBounds_toArray, List.set_cons_zero, List.set_cons_succ]
      refine WL.val (by kernel_rfl) (.bool false) (by go_simp) ?_
      simp only [Act.put, List.setIfInBounds_toArray, List.set_cons_zero, List.set_cons_succ]
      refine WL.val (by kernel_rfl) (.bool false) (by go_simp) ?_
      simp only [Act.put, List.setIfInBounds_toArray, List.set_cons_zero, List.set_cons_succ]
      refine WL.skip (by kernel_rfl) ?_
      simp only [Act.put, List.setIfInBounds_toArray, List.set_cons_zero, List.set_cons_succ]
      refine WL.skip (by kernel_rfl) ?_
      simp only [Act.put, List.setIfInBounds_toArray, List.set_cons_zero, List.set_cons_succ]
      refine WL.skip (by kernel_rfl) ?_
      simp only [Act.put, List.setIfInBounds_toArray, List.set_cons_zero, List.set_cons_succ]
      refine WL.val (by kernel_rfl) (.bool false) (by go_simp) ?_
      simp only [Act.put, List.setIfInBounds_toArray, List.set_cons_zero, List.set_cons_succ]
      refine WL.nil ?_
      refine hK47 _ _ ?_
      refine wp_cond_false rfl ?_
      refine wp_exit ?_
      exact rest2 M wr _ _ _ _ _ _ _ _ _ _ _ _ _ _ _ _ _ _ _ _ _ _ _ _ _ _ _ _ _ _ _ _ _ _ _ _ _ _ _ JP.out JO.out JB.out
  by_cases h64 : 64 < L0.length
  · have h64' : (64 : Int) < (L0.length : Int) := by omega
    have hl64 : (L0.take 64).length = 64 := by rw [List.length_take]; omega
    have hvt := HV0.out.take 64 (by omega)
    refine wp_region_list (WL.out ?_)
    refine WL.val (by kernel_rfl) (.slice la L0.length lc) (by go_simp) ?_
    simp only [Act.put, List.setIfInBounds_toArray, List.set_cons_zero, List.set_cons_succ]
    refine WL.val (by kernel_rfl) (.int .i64 (L0.length : Int)) (by go_simp) ?_
    simp only [Act.put, List.setIfInBounds_toArray, List.set_cons_zero, List.set_cons_succ]
    refine WL.val (by kernel_rfl) (.bool true) (by go_simp) ?_
    simp only [Act.put, List.setIfInBounds_toArray, List.set_cons_zero, List.set_cons_succ]
    refine WL.nil ?_
    refine hK3 _ _ ?_
    refine wp_cond_true rfl ?_
    refine wp_region_list (WL.out ?_)
    refine WL.val (by kernel_rfl) (.slice la L0.length lc) (by go_simp) ?_
    simp only [Act.put, List.setIfInBounds_toArray, List.set_cons_zero, List.set_cons_succ]
    refine WL.slr (by kernel_rfl) 55 (.tmp 24) none (some (.const (.int .i64 64))) rfl _ none (some (.int .i64 64)) (.slice la 64 lc) rfl rfl rfl (slV_h la L0.length lc 64 hvt.2 w) ?_
    simp only [Act.put, List.setIfInBounds_toArray, List.set_cons_zero, List.set_cons_succ]
    refine WL.val (by kernel_rfl) (.slice la 64 lc) (by go_simp) ?_
    simp only [Act.put, List.setIfInBounds_toArray, List.set_cons_zero, List.set_cons_succ]
    refine WL.nil ?_
    have r := fun a b c d e => rest (L0.take 64) a b c d e (by rw [hl64]; exact hvt.1) (by omega)
    rw [hl64] at r
    exact r _ _ _ _ _
  · have h64' : ¬ (64 : Int) < (L0.length : Int) := by omega
    refine wp_region_list (WL.out ?_)
    refine WL.val (by kernel_rfl) (.slice la L0.length lc) (by go_simp) ?_
    simp only [Act.put, List.setIfInBounds_toArray, List.set_cons_zero, List.set_cons_succ]
    refine WL.val (by kernel_rfl) (.int .i64 (L0.length : Int)) (by go_simp) ?_
    simp only [Act.put, List.setIfInBounds_toArray, List.set_cons_zero, List.set_cons_succ]
    refine WL.val (by kernel_rfl) (.bool false) (by go_simp) ?_
    simp only [Act.put, List.setIfInBounds_toArray, List.set_cons_zero, List.set_cons_succ]
    refine WL.nil ?_
    refine hK3 _ _ ?_
    refine wp_cond_false rfl ?_
    refine wp_skip ?_
    exact rest L0 _ _ _ _ _ HV0.out (by omega)
theorem meetsV_any (v s : Value) (L : List VP) (S : List Int) (w : World) (hV : VRow w v L) (hS : IRow w s S) (hSl : (S.length : Int) ≤ 17592186044416) : Calls Try.prog 7 #[v, s] w fun e w' => e = .returned (.bool true) ∧ Below w.heap.size w w' := by
  obtain ⟨la, lc, rfl⟩ := hV.form
  obtain ⟨sa, sc, rfl⟩ := hS.form
  exact meets_any la sa lc sc L S w hV hS hSl
end Go.Proofs.Ytogmdfhicbmplaa
namespace Go.Proofs.Ytogmdfhicbmplaa
open Go.ChangeShapes Go.WideShapes Go.ChangeAt Go.RowKit Go.Deep
set_option linter.unusedSimpArgs false
set_option linter.unusedVariables false

theorem Try.cellsOf36 : Try.prog.cellsOf 36 = 32 := by kernel_rfl
theorem Try.cellsOf37 : Try.prog.cellsOf 37 = 1 := by kernel_rfl
theorem Try.cellsOf39 : Try.prog.cellsOf 39 = 34 := by kernel_rfl
theorem Try.cellsOf3 : Try.prog.cellsOf 3 = 1 := by kernel_rfl
theorem Try.cellsOf5 : Try.prog.cellsOf 5 = 1 := by kernel_rfl
theorem Try.bytesOf36 : Try.prog.bytesOf 36 = 32 := by kernel_rfl
theorem Try.bytesOf39 : Try.prog.bytesOf 39 = 64 := by kernel_rfl
theorem Try.bytesOf3 : Try.prog.bytesOf 3 = 8 := by kernel_rfl
theorem Try.undI : Try.prog.underlying 23 = some (.slice 3) := by kernel_rfl
theorem reach_is : reachBytes = 140737488351232 := by decide
theorem add_none' (b o i : Nat) : (⟨b, o, none⟩ : Addr).add i = ⟨b, o + i, none⟩ := by
  cases i with
  | zero => rfl
  | succ i => rfl
theorem mem_weightsAll {H : Type} {P : Program} {e : TypeId} {d : DataW H} : ∀ {ds : List (DataW H)}, d ∈ ds → ∀ n ∈ d.weights P e, n ∈ DataW.weightsAll P e ds
  | d0 :: ds, h, n, hn => by
    simp only [DataW.weightsAll, List.mem_append]
    rcases List.mem_cons.1 h with rfl | h
    · exact .inl hn
    · exact .inr (mem_weightsAll h n hn)
theorem wf_u8 {n : Int} (h : (Lit.int .u8 n).wf = true) : 0 ≤ n ∧ n < 256 := by
  have h1 : IntKind.u8.min = 0 := by decide
  have h2 : IntKind.u8.max = 255 := by decide
  simp only [Lit.wf, h1, h2, Bool.and_eq_true, decide_eq_true_eq] at h
  omega
theorem wf_i64 {n : Int} (h : (Lit.int .i64 n).wf = true) : -9223372036854775808 ≤ n ∧ n ≤ 9223372036854775807 := by
  have h1 : IntKind.i64.min = -9223372036854775808 := by decide
  have h2 : IntKind.i64.max = 9223372036854775807 := by decide
  simp only [Lit.wf, h1, h2, Bool.and_eq_true, decide_eq_true_eq] at h
  omega

theorem take_one {l : List Value} {i : Nat} {v : Value} (h : (l.drop i).take 1 = [v]) : l[i]? = some v := by
  have h2 : ((l.drop i).take 1)[0]? = some v := by rw [h]; rfl
  rw [List.getElem?_take, if_pos (by omega), List.getElem?_drop] at h2
  simpa using h2
theorem one_of {cs : List Value} {v : Value} {j : Nat} (h : (cs.drop j).take 1 = [v]) : cs[j]? = some v := take_one h
theorem hash_of_trod {H : Type} {enc : TypeId × Value → H} {W : World} {sp : Nat → Bool} {held : Bool} {n base : Nat} {l : List Value} {x : DataW H × List MemPlace} (hf : DataW.trod enc Try.prog W base sp held n 36 l = some x) :
    ∃ c : Nat → Int, l = (bytesA 32 c).toList ∧ ∀ i, i < 32 → 0 ≤ c i ∧ c i < 256 := by
  obtain ⟨xs, m, _, _, hl, hx, hel⟩ := DataW.trod_array Try.underlying36 hf
  rw [Try.cellsOf36] at hl
  rw [Try.cellsOf5] at hel
  have each : ∀ i, i < 32 → ∃ z : Int, l[i]? = some (.int .u8 z) ∧ 0 ≤ z ∧ z < 256 := by
    intro i hi
    have h1 := hel i hi
    rw [List.getElem?_eq_getElem (by omega), Nat.mul_one] at h1
    obtain ⟨z, hz, _, hw⟩ := DataW.trod_int Try.underlying5 h1
    have hb := wf_u8 hw
    exact ⟨z, take_one hz, by omega, by omega⟩
  obtain ⟨c, hc⟩ := Go.Deep.choose_lt each
  refine ⟨c, ?_, fun i hi => (hc i hi).2⟩
  apply List.ext_getElem?
  intro i
  by_cases hi : i < 32
  · rw [(hc i hi).1, Array.getElem?_toList, bytesA_get _ _ _ hi]
  · rw [List.getElem?_eq_none (by omega), List.getElem?_eq_none (by rw [Array.length_toList, bytesA_size]; omega)]
theorem hashH_of_trod {H : Type} {enc : TypeId × Value → H} {W : World} {sp : Nat → Bool} {held : Bool} {n base : Nat} {l : List Value} {x : DataW H × List MemPlace} (hf : DataW.trod enc Try.prog W base sp held n 36 l = some x) : ∃ h : Hs, l = encH h := by
  obtain ⟨c, e, h1⟩ := hash_of_trod hf
  exact ⟨Hs.mk' c h1, by rw [e, encH]; exact congrArg Array.toList (bytesA_congr fun i hi => (Hs.mk'_f c h1 i hi).symm)⟩
theorem hs_of_trod {H : Type} {enc : TypeId × Value → H} {W : World} {sp : Nat → Bool} {held : Bool} {fuel base : Nat} {v : Value} {x : DataW H × List MemPlace} (hf : DataW.trod enc Try.prog W base sp held fuel 37 [v] = some x) (hw : ∀ n ∈ x.1.weights Try.prog 37, n ≤ reachBytes) :
    ∃ l : List Hs, HRow W v l ∧ l.length ≤ 4398046511104 := by
  rcases open_slice Try.underlying37 hf with ⟨hcs, _⟩ | ⟨a, len, cap, m, n, D, Pl, hcs, _, hl_, hm, hz, hx, hcell⟩
  · simp at hcs
    subst hcs
    exact ⟨[], .inl ⟨none, 0, rfl, rfl, fun _ => rfl⟩, by simp⟩
  · simp at hcs
    subst hcs
    have hlz : len ≤ m := by rw [hz]; split <;> omega
    have hb : len ≤ 4398046511104 := by
      have h1 := hw ((((List.range len).map D).length + ((List.range (m - len)).map fun j => D (len + j)).length) * 32) (by
        rw [hx]
        simp only [DataW.weights, Try.underlying37]
        simp [Try.bytesOf36])
      rw [reach_is] at h1
      simp only [List.length_map, List.length_range] at h1
      omega
    have each : ∀ i, i < len → ∃ q : Hs, ∀ j v, (encH q)[j]? = some v → W.cell? ((a.add (i * 32)).add j) = some v := by
      intro i hi
      obtain ⟨cs', h1, h2⟩ := hcell i (by omega)
      rw [Try.cellsOf36] at h1
      obtain ⟨_, hlen, hce⟩ := World.cells?_some h1
      obtain ⟨q, hqe⟩ := hashH_of_trod h2
      clear h2
      refine ⟨q, fun j v hv => ?_⟩
      obtain ⟨hj, e⟩ := List.getElem?_eq_some_iff.1 hv
      rw [encH_len] at hj
      rw [hce j (by omega), hqe, ← hv]
    obtain ⟨q, hq⟩ := Go.Deep.choose_lt each
    refine ⟨(List.range len).map q, ?_, by simpa using hb⟩
    by_cases h0 : len = 0
    · subst h0
      exact .inl ⟨some a, cap, rfl, rfl, fun h => by cases h⟩
    · have hs : a.spot = none := by
        have hv0 : (encH (q 0))[0]? = some (.int .u8 ((q 0).f 0)) := encH_get _ 0 (by omega)
        have := hq 0 (by omega) 0 _ hv0
        rw [Nat.zero_mul, show a.add 0 = a from rfl] at this
        rw [show a.add 0 = a from rfl] at this
        exact World.cell?_spot this
      obtain ⟨b, off, sp⟩ := a
      obtain rfl : sp = none := hs
      refine .inr ⟨b, off, cap, by simp, by simp; omega, fun j v hv => ?_⟩
      have hj : j < len * 32 := by
        have := (List.getElem?_eq_some_iff.1 hv).1
        rw [flatH_len] at this
        simpa using this
      have hi : j / 32 < ((List.range len).map q).length := by simp; omega
      have hg := flatH_get ((List.range len).map q) (j / 32) hi (j % 32) (Nat.mod_lt _ (by omega))
      rw [show j / 32 * 32 + j % 32 = j by omega, hv] at hg
      have := hq (j / 32) (by simpa using hi) (j % 32) v (by rw [hg]; simp)
      simp only [add_none'] at this
      rwa [show off + j / 32 * 32 + j % 32 = off + j by omega] at this
theorem ints_of_trod {H : Type} {enc : TypeId × Value → H} {W : World} {sp : Nat → Bool} {held : Bool} {n base : Nat} {v : Value} {x : DataW H × List MemPlace} (hf : DataW.trod enc Try.prog W base sp held n 23 [v] = some x) (hw : ∀ n ∈ x.1.weights Try.prog 23, n ≤ reachBytes) :
    ∃ S : List Int, IRow W v S ∧ (S.length : Int) ≤ 17592186044416 := by
  rcases open_ints Try.undI Try.underlying3 Try.cellsOf3 hf with ⟨hcs, _⟩ | ⟨a, len, cap, zs, hcs, _, hl, hm, hz, hx, hcell, hwz⟩
  · simp at hcs
    subst hcs
    exact ⟨[], .inl ⟨none, 0, rfl, rfl⟩, by simp⟩
  · simp at hcs
    subst hcs
    have hlz : len ≤ zs.length := by rw [hz]; split <;> omega
    have hb : (len : Int) ≤ 17592186044416 := by
      have h1 := hw (((zs.take len).length + (zs.drop len).length) * 8) (by
        rw [hx]
        simp only [DataW.weights, Try.undI]
        simp [lits, Try.bytesOf3])
      rw [List.length_take, reach_is] at h1
      omega
    have hlen : (zs.take len).length = len := by rw [List.length_take]; omega
    refine ⟨zs.take len, ?_, by rw [hlen]; exact hb⟩
    by_cases h0 : len = 0
    · subst h0
      exact .inl ⟨_, _, rfl, by simp⟩
    · have hs : a.spot = none := by
        have := hcell 0 (by omega)
        rw [show a.add 0 = a from rfl] at this
        exact World.cell?_spot this
      obtain ⟨b, off, sp⟩ := a
      obtain rfl : sp = none := hs
      refine .inr ⟨b, off, cap, by rw [hlen], fun i hi => ?_⟩
      rw [hlen] at hi
      have := hcell i (by omega)
      rw [add_none'] at this
      rw [this]
      simp [List.getD, show i < zs.length by omega]
theorem trod_struct3 {H : Type} {enc : TypeId × Value → H} {P : Program} {w : World} {base : Nat} {spare : Nat → Bool} {held : Bool} {t : TypeId} {f0 f1 f2 : Field} {fuel : Nat} {cs : List Value} {x : DataW H × List MemPlace} (ht : P.underlying t = some (.struct #[f0, f1, f2])) (h : DataW.trod enc P w base spare held fuel t cs = some x) :
    ∃ y0 y1 y2 n, x.1 = .agg [y0.1, y1.1, y2.1] ∧ cs.length = P.cellsOf t ∧ DataW.trod enc P w base spare held n f0.type ((cs.drop f0.offset).take (P.cellsOf f0.type)) = some y0 ∧
      DataW.trod enc P w base spare held n f1.type ((cs.drop f1.offset).take (P.cellsOf f1.type)) = some y1 ∧ DataW.trod enc P w base spare held n f2.type ((cs.drop f2.offset).take (P.cellsOf f2.type)) = some y2 := by
  obtain ⟨xs, n, _, rfl, hl, hlen, hf⟩ := DataW.trod_struct ht h
  match xs, hlen with
  | [y0, y1, y2], _ => exact ⟨y0, y1, y2, n, by simp, hl, by simpa using hf 0 f0 rfl, by simpa using hf 1 f1 rfl, by simpa using hf 2 f2 rfl⟩
/-- A reading of a vertex. -/
theorem vtx_of_trod {H : Type} {enc : TypeId × Value → H} {W : World} {sp : Nat → Bool} {held : Bool} {n base : Nat} {cs : List Value} {x : DataW H × List MemPlace} (hf : DataW.trod enc Try.prog W base sp held n 39 cs = some x) (hw : ∀ n ∈ x.1.weights Try.prog 39, n ≤ reachBytes) :
    ∃ q : VP, cs = encV q ∧ HRow W q.2 q.1.ps ∧ q.1.ps.length ≤ 4398046511104 := by
  obtain ⟨y0, y1, y2, k, hx, hl, h0, h1, h2⟩ := trod_struct3 Try.underlying39 hf
  rw [Try.cellsOf39] at hl
  simp only [Try.cellsOf36, Try.cellsOf37, Try.cellsOf3, List.drop_zero] at h0 h1 h2
  obtain ⟨h, e0⟩ := hashH_of_trod h0
  obtain ⟨n1, e1, w1⟩ := DataW.trod_int Try.underlying3 h1
  have e1 := take_one e1
  obtain ⟨p, hp⟩ : ∃ p, (cs.drop 33).take 1 = [p] := by
    have : ((cs.drop 33).take 1).length = 1 := by rw [List.length_take, List.length_drop]; omega
    exact List.length_eq_one_iff.1 this
  rw [hp] at h2
  obtain ⟨ps, r2, r2b⟩ := hs_of_trod h2 (fun n hn => hw n (by
    rw [hx]
    simp only [DataW.weights, Try.underlying39]
    exact DataW.weights_mem_each (j := 2) (t := 37) rfl rfl n hn))
  refine ⟨(⟨h, n1, ps⟩, p), ?_, r2, r2b⟩
  have e2 := take_one hp
  apply List.ext_getElem?
  intro i
  show cs[i]? = (vtx h.f n1 p).toList[i]?
  unfold vtx
  rw [Array.toList_append]
  have hbl : (bytesA 32 h.f).toList.length = 32 := by rw [Array.length_toList, bytesA_size]
  by_cases hi : i < 32
  · rw [List.getElem?_append_left (by omega)]
    have : (cs.take 32)[i]? = (encH h)[i]? := by rw [e0]
    rw [List.getElem?_take, if_pos hi] at this
    exact this
  · rw [List.getElem?_append_right (by omega), hbl]
    rcases Nat.lt_or_ge i 34 with h34 | h34
    · have : i = 32 ∨ i = 33 := by omega
      rcases this with rfl | rfl
      · rw [e1]; rfl
      · rw [e2]; rfl
    · rw [List.getElem?_eq_none (by omega), List.getElem?_eq_none (by simp; omega)]
/-- A reading of a row of vertices. -/
theorem vs_of_trod {H : Type} {enc : TypeId × Value → H} {W : World} {sp : Nat → Bool} {held : Bool} {fuel base : Nat} {v : Value} {x : DataW H × List MemPlace} (hf : DataW.trod enc Try.prog W base sp held fuel 55 [v] = some x) (hw : ∀ n ∈ x.1.weights Try.prog 55, n ≤ reachBytes) :
    ∃ L : List VP, VRow W v L := by
  rcases open_slice Try.und55 hf with ⟨hcs, _⟩ | ⟨a, len, cap, m, n, D, Pl, hcs, _, hl_, hm, hz, hx, hcell⟩
  · simp at hcs
    subst hcs
    exact ⟨[], .inl ⟨none, 0, rfl, rfl⟩, by simp⟩
  · simp at hcs
    subst hcs
    have hlz : len ≤ m := by rw [hz]; split <;> omega
    have hwD : ∀ i, i < len → ∀ n ∈ (D i).weights Try.prog 39, n ≤ reachBytes := fun i hi n hn => hw n (by
      rw [hx]
      simp only [DataW.weights, Try.und55]
      refine List.mem_cons_of_mem _ (List.mem_append_left _ (mem_weightsAll (d := D i) ?_ n hn))
      exact List.mem_map.2 ⟨i, List.mem_range.2 hi, rfl⟩)
    have each : ∀ i, i < len → ∃ q : VP, (∀ j v, (encV q)[j]? = some v → W.cell? ((a.add (i * 34)).add j) = some v) ∧ HRow W q.2 q.1.ps ∧ q.1.ps.length ≤ 4398046511104 := by
      intro i hi
      obtain ⟨cs', h1, h2⟩ := hcell i (by omega)
      rw [Try.cellsOf39] at h1
      obtain ⟨_, hlen, hce⟩ := World.cells?_some h1
      obtain ⟨q, hqe, hq2⟩ := vtx_of_trod h2 (hwD i hi)
      clear h2
      refine ⟨q, fun j v hv => ?_, hq2⟩
      obtain ⟨hj, e⟩ := List.getElem?_eq_some_iff.1 hv
      rw [encV_len] at hj
      rw [hce j (by omega), hqe, ← hv]
    haveI : Inhabited VP := ⟨(⟨default, 0, []⟩, .slice none 0 0)⟩
    obtain ⟨q, hq⟩ := Go.Deep.choose_lt each
    refine ⟨(List.range len).map q, ?_, fun u hu => ?_⟩
    · by_cases h0 : len = 0
      · subst h0
        exact .inl ⟨some a, cap, rfl, rfl⟩
      · have hs : a.spot = none := by
          have hv0 : (encV (q 0))[0]? = some (.int .u8 ((q 0).1.id.f 0)) := by
            rw [encV, Array.getElem?_toList]
            unfold vtx
            rw [Array.getElem?_append_left (by rw [bytesA_size]; omega), bytesA_get _ _ _ (by omega)]
          have := (hq 0 (by omega)).1 0 _ hv0
          rw [Nat.zero_mul, show a.add 0 = a from rfl] at this
          rw [show a.add 0 = a from rfl] at this
          exact World.cell?_spot this
        obtain ⟨b, off, sp⟩ := a
        obtain rfl : sp = none := hs
        refine .inr ⟨b, off, cap, by simp, by simp; omega, flat_of_elems encV_len fun i hi j v hv => ?_⟩
        have hi' : i < len := by simpa using hi
        have := (hq i hi').1 j v (by simpa using hv)
        simp only [add_none'] at this
        exact this
    · obtain ⟨i, hi, rfl⟩ := List.mem_map.1 hu
      exact (hq i (List.mem_range.1 hi)).2
end Go.Proofs.Ytogmdfhicbmplaa
