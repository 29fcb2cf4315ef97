import Derived.Test.YtkjjlfpghhefcabK03
import Derived.Test.YtkjjlfpghhefcabK02
import Derived.Deep.RegionHeld3
namespace Go.Proofs.Ytkjjlfpghhefcab
open Go.RowKit
set_option linter.unusedSimpArgs false
set_option linter.unusedVariables false

theorem ok_kind {y : OpV} {k : Int} (h : OpOk y) (h1 : 0 ≤ k) (h2 : k < 256) : OpOk { y with kind := k } := by
  have e1 : (-9223372036854775808 : Int) ≤ k := by omega
  have e2 : k ≤ (9223372036854775807 : Int) := by omega
  exact { h with k1 := e1, k2 := e2 }
theorem ok_key {y : OpV} {st : ByteArray} (h : OpOk y) (hs : st.size ≤ 140737488355328) : OpOk { y with key := st } := { h with key := hs }
theorem ok_text {y : OpV} {st : ByteArray} (h : OpOk y) (hs : st.size ≤ 140737488355328) : OpOk { y with text := st } := { h with text := hs }
theorem ok_n {y : OpV} {k : Int} (h : OpOk y) (h1 : -9223372036854775808 ≤ k) (h2 : k ≤ 9223372036854775807) : OpOk { y with n := k } := { h with n1 := h1, n2 := h2 }
theorem ok_op {y : OpV} {k : Int} (h : OpOk y) (h1 : 0 ≤ k) (h2 : k ≤ 1024) : OpOk { y with op := k } := by
  have e1 : (-9223372036854775808 : Int) ≤ k := by omega
  have e2 : k ≤ (9223372036854775807 : Int) := by omega
  exact { h with o1 := e1, o2 := e2 }
theorem ok_node {y : OpV} {c : List Int} (h : OpOk y) (h1 : c.length = 32) (h2 : Byts c) : OpOk { y with node := c } := { h with node := h1, byts := h2 }
theorem fst_tri (D : List Int) (mm : Int) : ∃ X N W, fstM D mm = (X, ((N : Nat) : Int), W) ∧ N ≤ D.length := by
  have h := (fstM_shape D mm).2
  refine ⟨(fstM D mm).1, (fstM D mm).2.1.toNat, (fstM D mm).2.2, ?_, by omega⟩
  rw [Int.toNat_of_nonneg h.1]
theorem byt_sz (L : List Int) (hL : Byts L) (hb : L.length ≤ 140737488355328) (p : Nat) : (strOfNums (byt (L.drop p) 65536).2.2).size ≤ 140737488355328 := by
  have h1 := byt_l (L.drop p) 65536
  rw [str_size (h1.2 (hL.drop p))]
  have h2 := h1.1
  rw [List.length_drop] at h2
  omega
theorem hash_take (D : List Int) (W : Int) (h : W = 0) (hl32 : (D.take 32).length = 32) : hl 32 (hrd D W) = D.take 32 := by
  rw [← hl_hof (D.take 32) hl32]
  unfold hl
  apply List.map_congr_left
  intro i hi
  have hi' := List.mem_range.1 hi
  show (if W = 0 then D.getD i 0 else 0) = (D.take 32).getD i 0
  rw [if_pos h]
  simp [List.getD_eq_getElem?_getD, List.getElem?_take, hi']
def cS : Code → Code
  | .seq _ b => b
  | c => c
def cF : Code → Code
  | .seq a _ => a
  | c => c
def cT : Code → Code
  | .cond _ a _ => a
  | c => c
def OI (w : World) (x g4 g5 g6 g9 : Nat) (vB : Value) (L : List Int) (l : List OpV) (c : Int) (G : Int × Nat × OpV) (is : List Nat) (w1 : World) : Prop :=
  ∃ y ew eb p, OS w x g4 g5 g6 g9 vB y ew eb p ew eb w1 ∧ p ≤ L.length ∧ y.kind = c ∧ ((ew = 0 ∧ eb = 0 ∧ OpOk y ∧ G = getFs L l is y p) ∨ (ew ≠ 0 ∧ ErrB ew p eb ∧ G.1 = ew ∧ G.2.1 = p))
theorem OI.next {w : World} {x g4 g5 g6 g9 : Nat} {vB : Value} {L : List Int} {l : List OpV} {c : Int} {G : Int × Nat × OpV} {i : Nat} {is : List Nat} {w1 : World} {y y' : OpV} {p N : Nat} {W b : Int} (hG : G = getFs L l (i :: is) y p) (hF : getF L l i y p = (W, p + N, y')) (hS : OS w x g4 g5 g6 g9 vB y' W b (p + N) W b w1) (hp : p + N ≤ L.length) (hk : y'.kind = c) (hE : ErrB W (p + N) b) (hok : OpOk y') : OI w x g4 g5 g6 g9 vB L l c G is w1 := by
  refine ⟨y', W, b, p + N, hS, hp, hk, ?_⟩
  rw [getFs, hF] at hG
  by_cases h : W = 0
  · refine .inl ⟨h, ?_, hok, ?_⟩
    · rcases hE with ⟨_, h2⟩ | ⟨h2, _⟩
      · exact h2
      · exact absurd h h2
    · rw [if_pos h] at hG; exact hG
  · refine .inr ⟨h, hE, ?_, ?_⟩
    · rw [if_neg h] at hG; rw [hG]
    · rw [if_neg h] at hG; rw [hG]
theorem OI.stuck {w : World} {x g4 g5 g6 g9 : Nat} {vB : Value} {L : List Int} {l : List OpV} {c : Int} {G : Int × Nat × OpV} {is : List Nat} {w1 : World} {y : OpV} {p : Nat} {W b : Int} (hS : OS w x g4 g5 g6 g9 vB y W b p W b w1) (hp : p ≤ L.length) (hk : y.kind = c) (hne : W ≠ 0) (hE : ErrB W p b) (h1 : G.1 = W) (h2 : G.2.1 = p) : OI w x g4 g5 g6 g9 vB L l c G is w1 := ⟨y, W, b, p, hS, hp, hk, .inr ⟨hne, hE, h1, h2⟩⟩
set_option maxRecDepth 8000 in
set_option maxHeartbeats 1000000 in
theorem key_step {u2 u3 u7 u8 u10 u11 u12 u13 u14 u15 u16 u17 u18 u19 u20 u21 u22 u23 u24 u25 u26 u27 u28 u29 u30 u31 u32 u33 u34 u35 u36 u37 u38 u39 u40 u41 u42 u43 u44 u45 u46 u47 u48 u49 u50 u51 u52 u53 u54 u55 u56 u57 u58 u59 u60 u61 u62 u63 u64 u65 u66 u67 u68 u69 u70 u71 u72 u73 u74 u75 u76 u77 u78 u79 u80 u81 u82 u83 u84 u85 u86 u87 u88 u89 u90 u91 u92 u93 u94 u95 u96 u97 u98 u99 u100 u101 u102 u103 u104 u105 u106 u107 u108 u109 u110 u111 u112 u113 u114 u115 u116 u117 u118 u119 u120 u121 u122 u123 u124 u125 u126 : Value} {Q : Exit → Act → World → Prop} {c : Int} {is : List Nat} (x g4 g5 g6 g9 : Nat) (vB : Value) (L : List Int) (vl : Value) (l : List OpV) (w w1 : World) (G : Int × Nat × OpV) (hR : ∀ wx, (Grown w wx fun k => k = x) → RowAt wx vB L) (hb : L.length ≤ 140737488355328) (hby : Byts L) (hI : OI w x g4 g5 g6 g9 vB L l c G (0 :: is) w1)
    (hQ : ∀ (v47 v48 v49 v50 v51 v52 : Value) (w2 : World), OI w x g4 g5 g6 g9 vB L l c G is w2 → Q .normal { tmps := #[.pointer (some ⟨x, 0, none⟩), vl, u2, u3, .pointer (some ⟨g4, 0, none⟩), .pointer (some ⟨g5, 0, none⟩), .pointer (some ⟨g6, 0, none⟩), u7, u8, .pointer (some ⟨g9, 0, none⟩), u10, u11, u12, u13, u14, u15, u16, u17, u18, u19, u20, u21, u22, u23, u24, u25, u26, u27, u28, u29, u30, u31, u32, u33, u34, u35, u36, u37, u38, u39, u40, u41, u42, u43, u44, u45, u46, v47, v48, v49, v50, v51, v52, u53, u54, u55, u56, u57, u58, u59, u60, u61, u62, u63, u64, u65, u66, u67, u68, u69, u70, u71, u72, u73, u74, u75, u76, u77, u78, u79, u80, u81, u82, u83, u84, u85, u86, u87, u88, u89, u90, u91, u92, u93, u94, u95, u96, u97, u98, u99, u100, u101, u102, u103, u104, u105, u106, u107, u108, u109, u110, u111, u112, u113, u114, u115, u116, u117, u118, u119, u120, u121, u122, u123, u124, u125, u126], defers := [] } w2) : Code.wp Try.prog (cF (cS (cS (cS (cS (cS (cS (cS (Try.f36.body.getD Code.skip))))))))) Q { tmps := #[.pointer (some ⟨x, 0, none⟩), vl, u2, u3, .pointer (some ⟨g4, 0, none⟩), .pointer (some ⟨g5, 0, none⟩), .pointer (some ⟨g6, 0, none⟩), u7, u8, .pointer (some ⟨g9, 0, none⟩), u10, u11, u12, u13, u14, u15, u16, u17, u18, u19, u20, u21, u22, u23, u24, u25, u26, u27, u28, u29, u30, u31, u32, u33, u34, u35, u36, u37, u38, u39, u40, u41, u42, u43, u44, u45, u46, u47, u48, u49, u50, u51, u52, u53, u54, u55, u56, u57, u58, u59, u60, u61, u62, u63, u64, u65, u66, u67, u68, u69, u70, u71, u72, u73, u74, u75, u76, u77, u78, u79, u80, u81, u82, u83, u84, u85, u86, u87, u88, u89, u90, u91, u92, u93, u94, u95, u96, u97, u98, u99, u100, u101, u102, u103, u104, u105, u106, u107, u108, u109, u110, u111, u112, u113, u114, u115, u116, u117, u118, u119, u120, u121, u122, u123, u124, u125, u126], defers := [] } w1 := by
  have HRow := Keep.mk hR
  have Hb := Keep.mk hb
  have HBy := Keep.mk hby
  clear hR hb hby
  obtain ⟨y, ew, eb, p, hS, hp, hk, hc⟩ := hI
  have HS := Keep.mk hS
  have Hp := Keep.mk hp
  have Hk := Keep.mk hk
  clear hS hp hk
  rcases hc with ⟨rfl, rfl, hok, hG⟩ | ⟨hne, hE, hG1, hG2⟩
  rotate_left
  · have Hne := Keep.mk hne
    have HEb := Keep.mk hE
    have HG1 := Keep.mk hG1
    have HG2 := Keep.mk hG2
    clear hne hE hG1 hG2
    refine wp_region_list (WL.out ?_)
    refine WL.val (by kernel_rfl) (.pointer (some ⟨x, 0, none⟩)) (by go_simp) ?_
    simp only [Act.put, List.setIfInBounds_toArray, List.set_cons_zero, List.set_cons_succ]
    refine WL.callF (by kernel_rfl) 55 _ _ rfl Try.in55 #[ptr x, .int .i64 65536] (by simp [Act.eval]) ?_
    refine (xtext_bad x vB p ew eb 65536 w1 HS.out.rf Hne.out (by decide) (by decide)).mono ?_
    rintro e w2 ⟨rfl, hbl⟩
    refine ⟨.tuple #[.string ByteArray.empty, .agg (erA ew eb)], rfl, ?_⟩
    have H2 := Keep.mk (HS.out.below hbl)
    clear hbl HS
    simp only [Act.put, List.setIfInBounds_toArray, List.set_cons_zero, List.set_cons_succ]
    refine WL.val (by kernel_rfl) (.tuple #[.string ByteArray.empty, .agg (erA ew eb)]) (by go_simp) ?_
    simp only [Act.put, List.setIfInBounds_toArray, List.set_cons_zero, List.set_cons_succ]
    refine WL.val (by kernel_rfl) (.string ByteArray.empty) (by go_simp) ?_
    simp only [Act.put, List.setIfInBounds_toArray, List.set_cons_zero, List.set_cons_succ]
    refine WL.val (by kernel_rfl) (.agg (erA ew eb)) (by go_simp) ?_
    simp only [Act.put, List.setIfInBounds_toArray, List.set_cons_zero, List.set_cons_succ]
    refine WL.val (by kernel_rfl) (.pointer (some ⟨g6, 1, none⟩)) (by go_simp) ?_
    simp only [Act.put, List.setIfInBounds_toArray, List.set_cons_zero, List.set_cons_succ]
    have c_o := H2.out.o.c 1 (opA_1 _)
    have f_o := H2.out.o.frozen 1
    refine WL.cell (by kernel_rfl) (w2.setCell ⟨g6, 1, none⟩ (.string ByteArray.empty)) (by go_simp) ?_
    clear c_o f_o
    obtain ⟨yn, hyn⟩ : ∃ y' : OpV, y' = { y with key := ByteArray.empty } := ⟨_, rfl⟩
    have Eyn := Keep.mk hyn
    clear hyn
    have H3 : Keep (OS w x g4 g5 g6 g9 vB yn ew eb p ew eb (w2.setCell ⟨g6, 1, none⟩ (.string ByteArray.empty))) := ⟨H2.out.setO yn (by rw [Eyn.out]; have h := H2.out.o.set 1 (.string ByteArray.empty); rw [set_1] at h; exact h) (Grown.setCell w2 g6 1 _ fun _ => rfl)⟩
    generalize w2.setCell ⟨g6, 1, none⟩ (.string ByteArray.empty) = w3 at *
    clear H2
    simp only [Act.put]
    refine WL.storeR (by kernel_rfl) 27 (.tmp 9) (.tmp 51) rfl g9 (erA ew eb) rfl rfl 27 (erA ew eb) H3.out.e (Try.size27B _ _) (erA_sizes _ _ _ _) (erA_one _ _) ?_
    have H4 := Keep.mk (H3.out.setE ew eb)
    generalize w3.setRow g9 (erA ew eb) = w4 at *
    clear H3
    simp only [Act.put]
    refine WL.nil ?_
    exact hQ (.tuple #[.string ByteArray.empty, .agg (erA ew eb)]) (.pointer (some ⟨x, 0, none⟩)) (.tuple #[.string ByteArray.empty, .agg (erA ew eb)]) (.string ByteArray.empty) (.agg (erA ew eb)) (.pointer (some ⟨g6, 1, none⟩)) w4 (OI.stuck H4.out Hp.out (by rw [Eyn.out]; exact Hk.out) Hne.out HEb.out HG1.out HG2.out)
  · have Hok := Keep.mk hok
    have HG := Keep.mk hG
    clear hok hG
    obtain ⟨D2, hD2⟩ : ∃ z, Keep (z = L.drop p) := ⟨_, ⟨rfl⟩⟩
    obtain ⟨W2, hW2⟩ : ∃ z, Keep (z = (byt D2 ((65536 : Nat) : Int)).1) := ⟨_, ⟨rfl⟩⟩
    obtain ⟨N2, hN2⟩ : ∃ z, Keep (z = (byt D2 ((65536 : Nat) : Int)).2.1) := ⟨_, ⟨rfl⟩⟩
    obtain ⟨l2, hl2⟩ : ∃ z, Keep (z = (byt D2 ((65536 : Nat) : Int)).2.2) := ⟨_, ⟨rfl⟩⟩
    obtain ⟨s2, hs2⟩ : ∃ z, Keep (z = strOfNums l2) := ⟨_, ⟨rfl⟩⟩
    refine wp_region_list (WL.out ?_)
    refine WL.val (by kernel_rfl) (.pointer (some ⟨x, 0, none⟩)) (by go_simp) ?_
    simp only [Act.put, List.setIfInBounds_toArray, List.set_cons_zero, List.set_cons_succ]
    refine WL.callF (by kernel_rfl) 55 _ _ rfl Try.in55 #[ptr x, .int .i64 65536] (by simp [Act.eval]) ?_
    refine (xtext_good x vB L p w1 HS.out.rf (fun wx hx => HRow.out wx (HS.out.gr.trans hx)) Hp.out Hb.out HBy.out D2 hD2.out 65536 65536 (by decide) (by decide) W2 hW2.out N2 hN2.out l2 hl2.out s2 hs2.out).mono ?_
    rintro e w2 ⟨b2, hE, rfl, h1, h2⟩
    refine ⟨.tuple #[.string s2, .agg (erA W2 b2)], rfl, ?_⟩
    have hEb := Keep.mk hE
    have H2 := Keep.mk (HS.out.call h1 h2)
    clear h1 h2 hE HS
    simp only [Act.put, List.setIfInBounds_toArray, List.set_cons_zero, List.set_cons_succ]
    refine WL.val (by kernel_rfl) (.tuple #[.string s2, .agg (erA W2 b2)]) (by go_simp) ?_
    simp only [Act.put, List.setIfInBounds_toArray, List.set_cons_zero, List.set_cons_succ]
    refine WL.val (by kernel_rfl) (.string s2) (by go_simp) ?_
    simp only [Act.put, List.setIfInBounds_toArray, List.set_cons_zero, List.set_cons_succ]
    refine WL.val (by kernel_rfl) (.agg (erA W2 b2)) (by go_simp) ?_
    simp only [Act.put, List.setIfInBounds_toArray, List.set_cons_zero, List.set_cons_succ]
    refine WL.val (by kernel_rfl) (.pointer (some ⟨g6, 1, none⟩)) (by go_simp) ?_
    simp only [Act.put, List.setIfInBounds_toArray, List.set_cons_zero, List.set_cons_succ]
    have c_o := H2.out.o.c 1 (opA_1 _)
    have f_o := H2.out.o.frozen 1
    refine WL.cell (by kernel_rfl) (w2.setCell ⟨g6, 1, none⟩ (.string s2)) (by go_simp) ?_
    clear c_o f_o
    obtain ⟨yn, hyn⟩ : ∃ y' : OpV, y' = { y with key := s2 } := ⟨_, rfl⟩
    have Eyn := Keep.mk hyn
    clear hyn
    have H3 : Keep (OS w x g4 g5 g6 g9 vB yn 0 0 (p + N2) W2 b2 (w2.setCell ⟨g6, 1, none⟩ (.string s2))) := ⟨H2.out.setO yn (by rw [Eyn.out]; have h := H2.out.o.set 1 (.string s2); rw [set_1] at h; exact h) (Grown.setCell w2 g6 1 _ fun _ => rfl)⟩
    generalize w2.setCell ⟨g6, 1, none⟩ (.string s2) = w3 at *
    clear H2
    simp only [Act.put]
    refine WL.storeR (by kernel_rfl) 27 (.tmp 9) (.tmp 51) rfl g9 (erA W2 b2) rfl rfl 27 (erA 0 0) H3.out.e (Try.size27B _ _) (erA_sizes _ _ _ _) (erA_one _ _) ?_
    have H4 := Keep.mk (H3.out.setE W2 b2)
    generalize w3.setRow g9 (erA W2 b2) = w4 at *
    clear H3
    simp only [Act.put]
    refine WL.nil ?_
    exact hQ (.tuple #[.string s2, .agg (erA W2 b2)]) (.pointer (some ⟨x, 0, none⟩)) (.tuple #[.string s2, .agg (erA W2 b2)]) (.string s2) (.agg (erA W2 b2)) (.pointer (some ⟨g6, 1, none⟩)) w4 (OI.next HG.out (by
      rw [Eyn.out]
      show ((byt (L.drop p) 65536).1, p + (byt (L.drop p) 65536).2.1, _) = _
      rw [hs2.out, hl2.out, hW2.out, hN2.out, hD2.out]; rfl) H4.out (adv Hp.out (by rw [hN2.out, hD2.out]; exact byt_n _ _)) (by rw [Eyn.out]; exact Hk.out) hEb.out (by rw [Eyn.out]; exact ok_key Hok.out (by rw [hs2.out, hl2.out, hD2.out]; exact byt_sz L HBy.out Hb.out _)))
set_option maxRecDepth 8000 in
set_option maxHeartbeats 1000000 in
theorem text_step {u2 u3 u7 u8 u10 u11 u12 u13 u14 u15 u16 u17 u18 u19 u20 u21 u22 u23 u24 u25 u26 u27 u28 u29 u30 u31 u32 u33 u34 u35 u36 u37 u38 u39 u40 u41 u42 u43 u44 u45 u46 u47 u48 u49 u50 u51 u52 u53 u54 u55 u56 u57 u58 u59 u60 u61 u62 u63 u64 u65 u66 u67 u68 u69 u70 u71 u72 u73 u74 u75 u76 u77 u78 u79 u80 u81 u82 u83 u84 u85 u86 u87 u88 u89 u90 u91 u92 u93 u94 u95 u96 u97 u98 u99 u100 u101 u102 u103 u104 u105 u106 u107 u108 u109 u110 u111 u112 u113 u114 u115 u116 u117 u118 u119 u120 u121 u122 u123 u124 u125 u126 : Value} {Q : Exit → Act → World → Prop} {c : Int} {is : List Nat} (x g4 g5 g6 g9 : Nat) (vB : Value) (L : List Int) (vl : Value) (l : List OpV) (w w1 : World) (G : Int × Nat × OpV) (hR : ∀ wx, (Grown w wx fun k => k = x) → RowAt wx vB L) (hb : L.length ≤ 140737488355328) (hby : Byts L) (hI : OI w x g4 g5 g6 g9 vB L l c G (1 :: is) w1)
    (hQ : ∀ (v57 v58 v59 v60 v61 v62 : Value) (w2 : World), OI w x g4 g5 g6 g9 vB L l c G is w2 → Q .normal { tmps := #[.pointer (some ⟨x, 0, none⟩), vl, u2, u3, .pointer (some ⟨g4, 0, none⟩), .pointer (some ⟨g5, 0, none⟩), .pointer (some ⟨g6, 0, none⟩), u7, u8, .pointer (some ⟨g9, 0, none⟩), u10, u11, u12, u13, u14, u15, u16, u17, u18, u19, u20, u21, u22, u23, u24, u25, u26, u27, u28, u29, u30, u31, u32, u33, u34, u35, u36, u37, u38, u39, u40, u41, u42, u43, u44, u45, u46, u47, u48, u49, u50, u51, u52, u53, u54, u55, u56, v57, v58, v59, v60, v61, v62, u63, u64, u65, u66, u67, u68, u69, u70, u71, u72, u73, u74, u75, u76, u77, u78, u79, u80, u81, u82, u83, u84, u85, u86, u87, u88, u89, u90, u91, u92, u93, u94, u95, u96, u97, u98, u99, u100, u101, u102, u103, u104, u105, u106, u107, u108, u109, u110, u111, u112, u113, u114, u115, u116, u117, u118, u119, u120, u121, u122, u123, u124, u125, u126], defers := [] } w2) : Code.wp Try.prog (cT (cS (cF (cS (cS (cS (cS (cS (cS (cS (cS (cS (Try.f36.body.getD Code.skip))))))))))))) Q { tmps := #[.pointer (some ⟨x, 0, none⟩), vl, u2, u3, .pointer (some ⟨g4, 0, none⟩), .pointer (some ⟨g5, 0, none⟩), .pointer (some ⟨g6, 0, none⟩), u7, u8, .pointer (some ⟨g9, 0, none⟩), u10, u11, u12, u13, u14, u15, u16, u17, u18, u19, u20, u21, u22, u23, u24, u25, u26, u27, u28, u29, u30, u31, u32, u33, u34, u35, u36, u37, u38, u39, u40, u41, u42, u43, u44, u45, u46, u47, u48, u49, u50, u51, u52, u53, u54, u55, u56, u57, u58, u59, u60, u61, u62, u63, u64, u65, u66, u67, u68, u69, u70, u71, u72, u73, u74, u75, u76, u77, u78, u79, u80, u81, u82, u83, u84, u85, u86, u87, u88, u89, u90, u91, u92, u93, u94, u95, u96, u97, u98, u99, u100, u101, u102, u103, u104, u105, u106, u107, u108, u109, u110, u111, u112, u113, u114, u115, u116, u117, u118, u119, u120, u121, u122, u123, u124, u125, u126], defers := [] } w1 := by
  have HRow := Keep.mk hR
  have Hb := Keep.mk hb
  have HBy := Keep.mk hby
  clear hR hb hby
  obtain ⟨y, ew, eb, p, hS, hp, hk, hc⟩ := hI
  have HS := Keep.mk hS
  have Hp := Keep.mk hp
  have Hk := Keep.mk hk
  clear hS hp hk
  rcases hc with ⟨rfl, rfl, hok, hG⟩ | ⟨hne, hE, hG1, hG2⟩
  rotate_left
  · have Hne := Keep.mk hne
    have HEb := Keep.mk hE
    have HG1 := Keep.mk hG1
    have HG2 := Keep.mk hG2
    clear hne hE hG1 hG2
    refine wp_region_list (WL.out ?_)
    refine WL.val (by kernel_rfl) (.pointer (some ⟨x, 0, none⟩)) (by go_simp) ?_
    simp only [Act.put, List.setIfInBounds_toArray, List.set_cons_zero, List.set_cons_succ]
    refine WL.callF (by kernel_rfl) 55 _ _ rfl Try.in55 #[ptr x, .int .i64 65536] (by simp [Act.eval]) ?_
    refine (xtext_bad x vB p ew eb 65536 w1 HS.out.rf Hne.out (by decide) (by decide)).mono ?_
    rintro e w2 ⟨rfl, hbl⟩
    refine ⟨.tuple #[.string ByteArray.empty, .agg (erA ew eb)], rfl, ?_⟩
    have H2 := Keep.mk (HS.out.below hbl)
    clear hbl HS
    simp only [Act.put, List.setIfInBounds_toArray, List.set_cons_zero, List.set_cons_succ]
    refine WL.val (by kernel_rfl) (.tuple #[.string ByteArray.empty, .agg (erA ew eb)]) (by go_simp) ?_
    simp only [Act.put, List.setIfInBounds_toArray, List.set_cons_zero, List.set_cons_succ]
    refine WL.val (by kernel_rfl) (.string ByteArray.empty) (by go_simp) ?_
    simp only [Act.put, List.setIfInBounds_toArray, List.set_cons_zero, List.set_cons_succ]
    refine WL.val (by kernel_rfl) (.agg (erA ew eb)) (by go_simp) ?_
    simp only [Act.put, List.setIfInBounds_toArray, List.set_cons_zero, List.set_cons_succ]
    refine WL.val (by kernel_rfl) (.pointer (some ⟨g6, 2, none⟩)) (by go_simp) ?_
    simp only [Act.put, List.setIfInBounds_toArray, List.set_cons_zero, List.set_cons_succ]
    have c_o := H2.out.o.c 2 (opA_2 _)
    have f_o := H2.out.o.frozen 2
    refine WL.cell (by kernel_rfl) (w2.setCell ⟨g6, 2, none⟩ (.string ByteArray.empty)) (by go_simp) ?_
    clear c_o f_o
    obtain ⟨yn, hyn⟩ : ∃ y' : OpV, y' = { y with text := ByteArray.empty } := ⟨_, rfl⟩
    have Eyn := Keep.mk hyn
    clear hyn
    have H3 : Keep (OS w x g4 g5 g6 g9 vB yn ew eb p ew eb (w2.setCell ⟨g6, 2, none⟩ (.string ByteArray.empty))) := ⟨H2.out.setO yn (by rw [Eyn.out]; have h := H2.out.o.set 2 (.string ByteArray.empty); rw [set_2] at h; exact h) (Grown.setCell w2 g6 2 _ fun _ => rfl)⟩
    generalize w2.setCell ⟨g6, 2, none⟩ (.string ByteArray.empty) = w3 at *
    clear H2
    simp only [Act.put]
    refine WL.storeR (by kernel_rfl) 27 (.tmp 9) (.tmp 61) rfl g9 (erA ew eb) rfl rfl 27 (erA ew eb) H3.out.e (Try.size27B _ _) (erA_sizes _ _ _ _) (erA_one _ _) ?_
    have H4 := Keep.mk (H3.out.setE ew eb)
    generalize w3.setRow g9 (erA ew eb) = w4 at *
    clear H3
    simp only [Act.put]
    refine WL.nil ?_
    exact hQ (.tuple #[.string ByteArray.empty, .agg (erA ew eb)]) (.pointer (some ⟨x, 0, none⟩)) (.tuple #[.string ByteArray.empty, .agg (erA ew eb)]) (.string ByteArray.empty) (.agg (erA ew eb)) (.pointer (some ⟨g6, 2, none⟩)) w4 (OI.stuck H4.out Hp.out (by rw [Eyn.out]; exact Hk.out) Hne.out HEb.out HG1.out HG2.out)
  · have Hok := Keep.mk hok
    have HG := Keep.mk hG
    clear hok hG
    obtain ⟨D2, hD2⟩ : ∃ z, Keep (z = L.drop p) := ⟨_, ⟨rfl⟩⟩
    obtain ⟨W2, hW2⟩ : ∃ z, Keep (z = (byt D2 ((65536 : Nat) : Int)).1) := ⟨_, ⟨rfl⟩⟩
    obtain ⟨N2, hN2⟩ : ∃ z, Keep (z = (byt D2 ((65536 : Nat) : Int)).2.1) := ⟨_, ⟨rfl⟩⟩
    obtain ⟨l2, hl2⟩ : ∃ z, Keep (z = (byt D2 ((65536 : Nat) : Int)).2.2) := ⟨_, ⟨rfl⟩⟩
    obtain ⟨s2, hs2⟩ : ∃ z, Keep (z = strOfNums l2) := ⟨_, ⟨rfl⟩⟩
    refine wp_region_list (WL.out ?_)
    refine WL.val (by kernel_rfl) (.pointer (some ⟨x, 0, none⟩)) (by go_simp) ?_
    simp only [Act.put, List.setIfInBounds_toArray, List.set_cons_zero, List.set_cons_succ]
    refine WL.callF (by kernel_rfl) 55 _ _ rfl Try.in55 #[ptr x, .int .i64 65536] (by simp [Act.eval]) ?_
    refine (xtext_good x vB L p w1 HS.out.rf (fun wx hx => HRow.out wx (HS.out.gr.trans hx)) Hp.out Hb.out HBy.out D2 hD2.out 65536 65536 (by decide) (by decide) W2 hW2.out N2 hN2.out l2 hl2.out s2 hs2.out).mono ?_
    rintro e w2 ⟨b2, hE, rfl, h1, h2⟩
    refine ⟨.tuple #[.string s2, .agg (erA W2 b2)], rfl, ?_⟩
    have hEb := Keep.mk hE
    have H2 := Keep.mk (HS.out.call h1 h2)
    clear h1 h2 hE HS
    simp only [Act.put, List.setIfInBounds_toArray, List.set_cons_zero, List.set_cons_succ]
    refine WL.val (by kernel_rfl) (.tuple #[.string s2, .agg (erA W2 b2)]) (by go_simp) ?_
    simp only [Act.put, List.setIfInBounds_toArray, List.set_cons_zero, List.set_cons_succ]
    refine WL.val (by kernel_rfl) (.string s2) (by go_simp) ?_
    simp only [Act.put, List.setIfInBounds_toArray, List.set_cons_zero, List.set_cons_succ]
    refine WL.val (by kernel_rfl) (.agg (erA W2 b2)) (by go_simp) ?_
    simp only [Act.put, List.setIfInBounds_toArray, List.set_cons_zero, List.set_cons_succ]
    refine WL.val (by kernel_rfl) (.pointer (some ⟨g6, 2, none⟩)) (by go_simp) ?_
    simp only [Act.put, List.setIfInBounds_toArray, List.set_cons_zero, List.set_cons_succ]
    have c_o := H2.out.o.c 2 (opA_2 _)
    have f_o := H2.out.o.frozen 2
    refine WL.cell (by kernel_rfl) (w2.setCell ⟨g6, 2, none⟩ (.string s2)) (by go_simp) ?_
    clear c_o f_o
    obtain ⟨yn, hyn⟩ : ∃ y' : OpV, y' = { y with text := s2 } := ⟨_, rfl⟩
    have Eyn := Keep.mk hyn
    clear hyn
    have H3 : Keep (OS w x g4 g5 g6 g9 vB yn 0 0 (p + N2) W2 b2 (w2.setCell ⟨g6, 2, none⟩ (.string s2))) := ⟨H2.out.setO yn (by rw [Eyn.out]; have h := H2.out.o.set 2 (.string s2); rw [set_2] at h; exact h) (Grown.setCell w2 g6 2 _ fun _ => rfl)⟩
    generalize w2.setCell ⟨g6, 2, none⟩ (.string s2) = w3 at *
    clear H2
    simp only [Act.put]
    refine WL.storeR (by kernel_rfl) 27 (.tmp 9) (.tmp 61) rfl g9 (erA W2 b2) rfl rfl 27 (erA 0 0) H3.out.e (Try.size27B _ _) (erA_sizes _ _ _ _) (erA_one _ _) ?_
    have H4 := Keep.mk (H3.out.setE W2 b2)
    generalize w3.setRow g9 (erA W2 b2) = w4 at *
    clear H3
    simp only [Act.put]
    refine WL.nil ?_
    exact hQ (.tuple #[.string s2, .agg (erA W2 b2)]) (.pointer (some ⟨x, 0, none⟩)) (.tuple #[.string s2, .agg (erA W2 b2)]) (.string s2) (.agg (erA W2 b2)) (.pointer (some ⟨g6, 2, none⟩)) w4 (OI.next HG.out (by
      rw [Eyn.out]
      show ((byt (L.drop p) 65536).1, p + (byt (L.drop p) 65536).2.1, _) = _
      rw [hs2.out, hl2.out, hW2.out, hN2.out, hD2.out]; rfl) H4.out (adv Hp.out (by rw [hN2.out, hD2.out]; exact byt_n _ _)) (by rw [Eyn.out]; exact Hk.out) hEb.out (by rw [Eyn.out]; exact ok_text Hok.out (by rw [hs2.out, hl2.out, hD2.out]; exact byt_sz L HBy.out Hb.out _)))
set_option maxRecDepth 8000 in
set_option maxHeartbeats 1000000 in
theorem n_step {u2 u3 u7 u8 u10 u11 u12 u13 u14 u15 u16 u17 u18 u19 u20 u21 u22 u23 u24 u25 u26 u27 u28 u29 u30 u31 u32 u33 u34 u35 u36 u37 u38 u39 u40 u41 u42 u43 u44 u45 u46 u47 u48 u49 u50 u51 u52 u53 u54 u55 u56 u57 u58 u59 u60 u61 u62 u63 u64 u65 u66 u67 u68 u69 u70 u71 u72 u73 u74 u75 u76 u77 u78 u79 u80 u81 u82 u83 u84 u85 u86 u87 u88 u89 u90 u91 u92 u93 u94 u95 u96 u97 u98 u99 u100 u101 u102 u103 u104 u105 u106 u107 u108 u109 u110 u111 u112 u113 u114 u115 u116 u117 u118 u119 u120 u121 u122 u123 u124 u125 u126 : Value} {Q : Exit → Act → World → Prop} {c : Int} {is : List Nat} (x g4 g5 g6 g9 : Nat) (vB : Value) (L : List Int) (vl : Value) (l : List OpV) (w w1 : World) (G : Int × Nat × OpV) (hR : ∀ wx, (Grown w wx fun k => k = x) → RowAt wx vB L) (hb : L.length ≤ 140737488355328) (hby : Byts L) (hI : OI w x g4 g5 g6 g9 vB L l c G (2 :: is) w1)
    (hQ : ∀ (v66 v67 v68 v69 v70 v71 : Value) (w2 : World), OI w x g4 g5 g6 g9 vB L l c G is w2 → Q .normal { tmps := #[.pointer (some ⟨x, 0, none⟩), vl, u2, u3, .pointer (some ⟨g4, 0, none⟩), .pointer (some ⟨g5, 0, none⟩), .pointer (some ⟨g6, 0, none⟩), u7, u8, .pointer (some ⟨g9, 0, none⟩), u10, u11, u12, u13, u14, u15, u16, u17, u18, u19, u20, u21, u22, u23, u24, u25, u26, u27, u28, u29, u30, u31, u32, u33, u34, u35, u36, u37, u38, u39, u40, u41, u42, u43, u44, u45, u46, u47, u48, u49, u50, u51, u52, u53, u54, u55, u56, u57, u58, u59, u60, u61, u62, u63, u64, u65, v66, v67, v68, v69, v70, v71, u72, u73, u74, u75, u76, u77, u78, u79, u80, u81, u82, u83, u84, u85, u86, u87, u88, u89, u90, u91, u92, u93, u94, u95, u96, u97, u98, u99, u100, u101, u102, u103, u104, u105, u106, u107, u108, u109, u110, u111, u112, u113, u114, u115, u116, u117, u118, u119, u120, u121, u122, u123, u124, u125, u126], defers := [] } w2) : Code.wp Try.prog (cT (cS (cF (cS (cS (cS (cS (cS (cS (cS (cS (cS (cS (Try.f36.body.getD Code.skip)))))))))))))) Q { tmps := #[.pointer (some ⟨x, 0, none⟩), vl, u2, u3, .pointer (some ⟨g4, 0, none⟩), .pointer (some ⟨g5, 0, none⟩), .pointer (some ⟨g6, 0, none⟩), u7, u8, .pointer (some ⟨g9, 0, none⟩), u10, u11, u12, u13, u14, u15, u16, u17, u18, u19, u20, u21, u22, u23, u24, u25, u26, u27, u28, u29, u30, u31, u32, u33, u34, u35, u36, u37, u38, u39, u40, u41, u42, u43, u44, u45, u46, u47, u48, u49, u50, u51, u52, u53, u54, u55, u56, u57, u58, u59, u60, u61, u62, u63, u64, u65, u66, u67, u68, u69, u70, u71, u72, u73, u74, u75, u76, u77, u78, u79, u80, u81, u82, u83, u84, u85, u86, u87, u88, u89, u90, u91, u92, u93, u94, u95, u96, u97, u98, u99, u100, u101, u102, u103, u104, u105, u106, u107, u108, u109, u110, u111, u112, u113, u114, u115, u116, u117, u118, u119, u120, u121, u122, u123, u124, u125, u126], defers := [] } w1 := by
  have HRow := Keep.mk hR
  have Hb := Keep.mk hb
  have HBy := Keep.mk hby
  clear hR hb hby
  obtain ⟨y, ew, eb, p, hS, hp, hk, hc⟩ := hI
  have HS := Keep.mk hS
  have Hp := Keep.mk hp
  have Hk := Keep.mk hk
  clear hS hp hk
  rcases hc with ⟨rfl, rfl, hok, hG⟩ | ⟨hne, hE, hG1, hG2⟩
  rotate_left
  · have Hne := Keep.mk hne
    have HEb := Keep.mk hE
    have HG1 := Keep.mk hG1
    have HG2 := Keep.mk hG2
    clear hne hE hG1 hG2
    refine wp_region_list (WL.out ?_)
    refine WL.val (by kernel_rfl) (.pointer (some ⟨x, 0, none⟩)) (by go_simp) ?_
    simp only [Act.put, List.setIfInBounds_toArray, List.set_cons_zero, List.set_cons_succ]
    refine WL.callF (by kernel_rfl) 56 _ _ rfl Try.in56 #[ptr x] (by simp [Act.eval]) ?_
    refine (xsigned_bad x vB p ew eb w1 HS.out.rf Hne.out).mono ?_
    rintro e w2 ⟨rfl, hbl⟩
    refine ⟨.tuple #[.int .i64 0, .agg (erA ew eb)], rfl, ?_⟩
    have H2 := Keep.mk (HS.out.below hbl)
    clear hbl HS
    simp only [Act.put, List.setIfInBounds_toArray, List.set_cons_zero, List.set_cons_succ]
    refine WL.val (by kernel_rfl) (.tuple #[.int .i64 0, .agg (erA ew eb)]) (by go_simp) ?_
    simp only [Act.put, List.setIfInBounds_toArray, List.set_cons_zero, List.set_cons_succ]
    refine WL.val (by kernel_rfl) (.int .i64 0) (by go_simp) ?_
    simp only [Act.put, List.setIfInBounds_toArray, List.set_cons_zero, List.set_cons_succ]
    refine WL.val (by kernel_rfl) (.agg (erA ew eb)) (by go_simp) ?_
    simp only [Act.put, List.setIfInBounds_toArray, List.set_cons_zero, List.set_cons_succ]
    refine WL.val (by kernel_rfl) (.pointer (some ⟨g6, 3, none⟩)) (by go_simp) ?_
    simp only [Act.put, List.setIfInBounds_toArray, List.set_cons_zero, List.set_cons_succ]
    have c_o := H2.out.o.c 3 (opA_3 _)
    have f_o := H2.out.o.frozen 3
    refine WL.cell (by kernel_rfl) (w2.setCell ⟨g6, 3, none⟩ (.int .i64 0)) (by go_simp) ?_
    clear c_o f_o
    obtain ⟨yn, hyn⟩ : ∃ y' : OpV, y' = { y with n := 0 } := ⟨_, rfl⟩
    have Eyn := Keep.mk hyn
    clear hyn
    have H3 : Keep (OS w x g4 g5 g6 g9 vB yn ew eb p ew eb (w2.setCell ⟨g6, 3, none⟩ (.int .i64 0))) := ⟨H2.out.setO yn (by rw [Eyn.out]; have h := H2.out.o.set 3 (.int .i64 0); rw [set_3] at h; exact h) (Grown.setCell w2 g6 3 _ fun _ => rfl)⟩
    generalize w2.setCell ⟨g6, 3, none⟩ (.int .i64 0) = w3 at *
    clear H2
    simp only [Act.put]
    refine WL.storeR (by kernel_rfl) 27 (.tmp 9) (.tmp 70) rfl g9 (erA ew eb) rfl rfl 27 (erA ew eb) H3.out.e (Try.size27B _ _) (erA_sizes _ _ _ _) (erA_one _ _) ?_
    have H4 := Keep.mk (H3.out.setE ew eb)
    generalize w3.setRow g9 (erA ew eb) = w4 at *
    clear H3
    simp only [Act.put]
    refine WL.nil ?_
    exact hQ (.tuple #[.int .i64 0, .agg (erA ew eb)]) (.pointer (some ⟨x, 0, none⟩)) (.tuple #[.int .i64 0, .agg (erA ew eb)]) (.int .i64 0) (.agg (erA ew eb)) (.pointer (some ⟨g6, 3, none⟩)) w4 (OI.stuck H4.out Hp.out (by rw [Eyn.out]; exact Hk.out) Hne.out HEb.out HG1.out HG2.out)
  · have Hok := Keep.mk hok
    have HG := Keep.mk hG
    clear hok hG
    obtain ⟨D2, hD2⟩ : ∃ z, Keep (z = L.drop p) := ⟨_, ⟨rfl⟩⟩
    obtain ⟨X2, N2, W2, hM2', hN2'⟩ := fst_tri D2 18446744073709551615
    have hM2 := Keep.mk hM2'
    have hN2 := Keep.mk hN2'
    obtain ⟨s2, hs2⟩ : ∃ z, Keep (z = if W2 = 0 then zag X2 else 0) := ⟨_, ⟨rfl⟩⟩
    have hrg2 : Keep (0 ≤ X2 ∧ X2 ≤ 18446744073709551615) := ⟨by have h := fst_rng D2 (by rw [hD2.out]; exact HBy.out.drop _) 18446744073709551615 (by decide); rw [hM2'] at h; exact h⟩
    clear hM2' hN2'
    refine wp_region_list (WL.out ?_)
    refine WL.val (by kernel_rfl) (.pointer (some ⟨x, 0, none⟩)) (by go_simp) ?_
    simp only [Act.put, List.setIfInBounds_toArray, List.set_cons_zero, List.set_cons_succ]
    refine WL.callF (by kernel_rfl) 56 _ _ rfl Try.in56 #[ptr x] (by simp [Act.eval]) ?_
    refine (xsigned_good x vB L p w1 HS.out.rf (fun wx hx => HRow.out wx (HS.out.gr.trans hx)) Hp.out Hb.out HBy.out D2 hD2.out W2 X2 N2 hM2.out s2 hs2.out hrg2.out.1 (by have := hrg2.out.2; omega)).mono ?_
    rintro e w2 ⟨b2, hE, rfl, h1, h2⟩
    refine ⟨.tuple #[.int .i64 s2, .agg (erA W2 b2)], rfl, ?_⟩
    have hEb := Keep.mk hE
    have H2 := Keep.mk (HS.out.call h1 h2)
    clear h1 h2 hE HS
    simp only [Act.put, List.setIfInBounds_toArray, List.set_cons_zero, List.set_cons_succ]
    refine WL.val (by kernel_rfl) (.tuple #[.int .i64 s2, .agg (erA W2 b2)]) (by go_simp) ?_
    simp only [Act.put, List.setIfInBounds_toArray, List.set_cons_zero, List.set_cons_succ]
    refine WL.val (by kernel_rfl) (.int .i64 s2) (by go_simp) ?_
    simp only [Act.put, List.setIfInBounds_toArray, List.set_cons_zero, List.set_cons_succ]
    refine WL.val (by kernel_rfl) (.agg (erA W2 b2)) (by go_simp) ?_
    simp only [Act.put, List.setIfInBounds_toArray, List.set_cons_zero, List.set_cons_succ]
    refine WL.val (by kernel_rfl) (.pointer (some ⟨g6, 3, none⟩)) (by go_simp) ?_
    simp only [Act.put, List.setIfInBounds_toArray, List.set_cons_zero, List.set_cons_succ]
    have c_o := H2.out.o.c 3 (opA_3 _)
    have f_o := H2.out.o.frozen 3
    refine WL.cell (by kernel_rfl) (w2.setCell ⟨g6, 3, none⟩ (.int .i64 s2)) (by go_simp) ?_
    clear c_o f_o
    obtain ⟨yn, hyn⟩ : ∃ y' : OpV, y' = { y with n := s2 } := ⟨_, rfl⟩
    have Eyn := Keep.mk hyn
    clear hyn
    have H3 : Keep (OS w x g4 g5 g6 g9 vB yn 0 0 (p + N2) W2 b2 (w2.setCell ⟨g6, 3, none⟩ (.int .i64 s2))) := ⟨H2.out.setO yn (by rw [Eyn.out]; have h := H2.out.o.set 3 (.int .i64 s2); rw [set_3] at h; exact h) (Grown.setCell w2 g6 3 _ fun _ => rfl)⟩
    generalize w2.setCell ⟨g6, 3, none⟩ (.int .i64 s2) = w3 at *
    clear H2
    simp only [Act.put]
    refine WL.storeR (by kernel_rfl) 27 (.tmp 9) (.tmp 70) rfl g9 (erA W2 b2) rfl rfl 27 (erA 0 0) H3.out.e (Try.size27B _ _) (erA_sizes _ _ _ _) (erA_one _ _) ?_
    have H4 := Keep.mk (H3.out.setE W2 b2)
    generalize w3.setRow g9 (erA W2 b2) = w4 at *
    clear H3
    simp only [Act.put]
    refine WL.nil ?_
    exact hQ (.tuple #[.int .i64 s2, .agg (erA W2 b2)]) (.pointer (some ⟨x, 0, none⟩)) (.tuple #[.int .i64 s2, .agg (erA W2 b2)]) (.int .i64 s2) (.agg (erA W2 b2)) (.pointer (some ⟨g6, 3, none⟩)) w4 (OI.next HG.out (by
      rw [Eyn.out]
      show ((fstM (L.drop p) 18446744073709551615).2.2, p + (fstM (L.drop p) 18446744073709551615).2.1.toNat, _) = _
      rw [← hD2.out, hM2.out, hs2.out]; rfl) H4.out (adv Hp.out (by rw [hD2.out] at hN2; exact hN2.out)) (by rw [Eyn.out]; exact Hk.out) hEb.out (by rw [Eyn.out]; exact ok_n Hok.out (by rw [hs2.out]; have := hrg2.out; split <;> (try unfold zag) <;> (try split) <;> omega) (by rw [hs2.out]; have := hrg2.out; split <;> (try unfold zag) <;> (try split) <;> omega)))
theorem OS.done {w : World} {x g4 g5 g6 g9 : Nat} {vB : Value} {y : OpV} {ew eb : Int} {p : Nat} {rw' rb : Int} {w1 : World} (h : OS w x g4 g5 g6 g9 vB y ew eb p rw' rb w1) (G : Int × Nat × OpV) (h1 : G.1 = rw') (h2 : G.2.1 = p) (h3 : ew = rw') (h4 : eb = rb) (hE : ErrB rw' p rb) (hok : rw' = 0 → y = G.2.2 ∧ OpOk y) :
    ROne x vB G w (.returned (.tuple #[.agg (opA y), .agg (erA ew eb)])) ((w1.drew.setRow g4 (opA y)).setRow g5 (erA ew eb)) := by
  have n4 : x ≠ g4 := blk_ne h.rf h.r4 (by decide)
  have n5 : x ≠ g5 := blk_ne h.rf h.r5 (by decide)
  refine ⟨y, rb, by rw [h1, h3, h4], by rw [h1, h2]; exact hE, ?_, ?_, by rw [h1]; exact hok⟩
  · rw [h1, h2]
    exact Blk.setRow_ne (Blk.setRow_ne (Blk.drew h.rf) n4 _) n5 _
  · exact (h.gr.drew.next (Grown.setRow w1.drew g4 (opA y) (S := fun k => k = g4) fun _ => rfl) (fun k hk e => by have := h.lo.1; omega)).next (Grown.setRow _ g5 (erA ew eb) (S := fun k => k = g5) fun _ => rfl) (fun k hk e => by have := h.lo.2.1; omega)
set_option maxRecDepth 8000 in
set_option maxHeartbeats 1000000 in
theorem hash_step {u2 u3 u7 u8 u10 u11 u12 u13 u14 u15 u16 u17 u18 u19 u20 u21 u22 u23 u24 u25 u26 u27 u28 u29 u30 u31 u32 u33 u34 u35 u36 u37 u38 u39 u40 u41 u42 u43 u44 u45 u46 u47 u48 u49 u50 u51 u52 u53 u54 u55 u56 u57 u58 u59 u60 u61 u62 u63 u64 u65 u66 u67 u68 u69 u70 u71 u72 u73 u74 u75 u76 u77 u78 u79 u80 u81 u82 u83 u84 u85 u86 u87 u88 u89 u90 u91 u92 u93 u94 u95 u96 u97 u98 u99 u100 u101 u102 u103 u104 u105 u106 u107 u108 u109 u110 u111 u112 u113 u114 u115 u116 u117 u118 u119 u120 u121 u122 u123 u124 u125 u126 : Value} {Q : Exit → Act → World → Prop} (x g4 g5 g6 g9 : Nat) (vB : Value) (L : List Int) (vl : Value) (l : List OpV) (w w1 : World) (G : Int × Nat × OpV) (hR : ∀ wx, (Grown w wx fun k => k = x) → RowAt wx vB L) (hb : L.length ≤ 140737488355328) (hby : Byts L) (y : OpV) (p : Nat) (hS : OS w x g4 g5 g6 g9 vB y 0 0 p 0 0 w1) (hp : p ≤ L.length) (D2 : List Int) (hD2 : Keep (D2 = L.drop p)) (W2 : Int) (hW2 : Keep (W2 = nextW D2 32)) (N2 : Nat) (hN2 : Keep (N2 = nextN D2 32))
    (hQ : ∀ (v99 v100 v101 v102 v103 v104 v105 : Value) (y2 : OpV) (b2 : Int) (w2 : World), OS w x g4 g5 g6 g9 vB y2 W2 b2 (p + N2) W2 b2 w2 → ErrB W2 (p + N2) b2 → (W2 = 0 → y2 = { y with node := D2.take 32 }) → Q .normal { tmps := #[.pointer (some ⟨x, 0, none⟩), vl, u2, u3, .pointer (some ⟨g4, 0, none⟩), .pointer (some ⟨g5, 0, none⟩), .pointer (some ⟨g6, 0, none⟩), u7, u8, .pointer (some ⟨g9, 0, none⟩), u10, u11, u12, u13, u14, u15, u16, u17, u18, u19, u20, u21, u22, u23, u24, u25, u26, u27, u28, u29, u30, u31, u32, u33, u34, u35, u36, u37, u38, u39, u40, u41, u42, u43, u44, u45, u46, u47, u48, u49, u50, u51, u52, u53, u54, u55, u56, u57, u58, u59, u60, u61, u62, u63, u64, u65, u66, u67, u68, u69, u70, u71, u72, u73, u74, u75, u76, u77, u78, u79, u80, u81, u82, u83, u84, u85, u86, u87, u88, u89, u90, u91, u92, u93, u94, u95, u96, u97, u98, v99, v100, v101, v102, v103, v104, v105, u106, u107, u108, u109, u110, u111, u112, u113, u114, u115, u116, u117, u118, u119, u120, u121, u122, u123, u124, u125, u126], defers := [] } w2) : Code.wp Try.prog (cT (cS (cF (cS (cS (cS (cS (cS (cS (cS (cS (cS (cS (cS (cS (cS (cS (cS (cS (Try.f36.body.getD Code.skip)))))))))))))))))))) Q { tmps := #[.pointer (some ⟨x, 0, none⟩), vl, u2, u3, .pointer (some ⟨g4, 0, none⟩), .pointer (some ⟨g5, 0, none⟩), .pointer (some ⟨g6, 0, none⟩), u7, u8, .pointer (some ⟨g9, 0, none⟩), u10, u11, u12, u13, u14, u15, u16, u17, u18, u19, u20, u21, u22, u23, u24, u25, u26, u27, u28, u29, u30, u31, u32, u33, u34, u35, u36, u37, u38, u39, u40, u41, u42, u43, u44, u45, u46, u47, u48, u49, u50, u51, u52, u53, u54, u55, u56, u57, u58, u59, u60, u61, u62, u63, u64, u65, u66, u67, u68, u69, u70, u71, u72, u73, u74, u75, u76, u77, u78, u79, u80, u81, u82, u83, u84, u85, u86, u87, u88, u89, u90, u91, u92, u93, u94, u95, u96, u97, u98, u99, u100, u101, u102, u103, u104, u105, u106, u107, u108, u109, u110, u111, u112, u113, u114, u115, u116, u117, u118, u119, u120, u121, u122, u123, u124, u125, u126], defers := [] } w1 := by
  have HRow := Keep.mk hR
  have Hb := Keep.mk hb
  have HBy := Keep.mk hby
  clear hR hb hby
  have HS := Keep.mk hS
  have Hp := Keep.mk hp
  clear hS hp
  have HY : Keep (W2 = 0 → { y with node := hl 32 (hrd D2 W2) } = { y with node := D2.take 32 }) := ⟨fun h => by rw [hash_take D2 W2 h (by have h := (nextN_0 D2 32 (by rw [← hW2.out]; exact h)).2.2; rw [List.length_take]; omega)]⟩
  refine wp_region_list (WL.out ?_)
  refine WL.val (by kernel_rfl) (.pointer (some ⟨x, 0, none⟩)) (by go_simp) ?_
  simp only [Act.put, List.setIfInBounds_toArray, List.set_cons_zero, List.set_cons_succ]
  refine WL.callF (by kernel_rfl) 57 _ _ rfl Try.in57 #[ptr x] (by simp [Act.eval]) ?_
  refine (xhash_good x vB L p w1 HS.out.rf (fun wx hx => HRow.out wx (HS.out.gr.trans hx)) Hp.out Hb.out D2 hD2.out W2 hW2.out N2 hN2.out).mono ?_
  rintro e w2 ⟨b2, hE, rfl, h1, h2⟩
  refine ⟨.tuple #[.agg (bytesA 32 (hrd D2 W2)), .agg (erA W2 b2)], rfl, ?_⟩
  have hEb := Keep.mk hE
  have H2 := Keep.mk (HS.out.call h1 h2)
  clear h1 h2 hE HS
  obtain ⟨A, hA⟩ : ∃ A, bytesA 32 (hrd D2 W2) = A := ⟨_, rfl⟩
  have HA1 : Keep ((Try.prog.info? 55).map (·.size) = some A.size) := ⟨by rw [← hA]; exact Try.size55B _⟩
  have HA2 : Keep (4 + A.size ≤ (opA y).size) := ⟨by rw [← hA, bytesA_size, opA_size]; decide⟩
  have HA3 : Keep (A.all (·.oneCell') = true) := ⟨by rw [← hA]; exact bytesA_one _ _⟩
  have HA4 : Keep (((opA y).toList.take 4 ++ A.toList ++ (opA y).toList.drop (4 + A.size)).toArray = opA { y with node := hl 32 (hrd D2 W2) }) := ⟨by rw [← hA]; exact put_node y (hrd D2 W2)⟩
  rw [hA]
  clear hA
  simp only [Act.put, List.setIfInBounds_toArray, List.set_cons_zero, List.set_cons_succ]
  refine WL.val (by kernel_rfl) (.tuple #[.agg A, .agg (erA W2 b2)]) (by go_simp) ?_
  simp only [Act.put, List.setIfInBounds_toArray, List.set_cons_zero, List.set_cons_succ]
  refine WL.val (by kernel_rfl) (.agg A) (by go_simp) ?_
  simp only [Act.put, List.setIfInBounds_toArray, List.set_cons_zero, List.set_cons_succ]
  refine WL.val (by kernel_rfl) (.agg (erA W2 b2)) (by go_simp) ?_
  simp only [Act.put, List.setIfInBounds_toArray, List.set_cons_zero, List.set_cons_succ]
  refine WL.val (by kernel_rfl) (.pointer (some ⟨g6, 4, none⟩)) (by go_simp) ?_
  simp only [Act.put, List.setIfInBounds_toArray, List.set_cons_zero, List.set_cons_succ]
  refine WL.val (by kernel_rfl) (.pointer (some ⟨g6, 4, none⟩)) (by go_simp) ?_
  simp only [Act.put, List.setIfInBounds_toArray, List.set_cons_zero, List.set_cons_succ]
  refine WL.part (by kernel_rfl) 55 (.tmp 105) (.tmp 102) rfl g6 4 A rfl rfl 59 (opA y) H2.out.o HA1.out HA2.out HA3.out _ HA4.out ?_
  obtain ⟨yn, hyn⟩ : ∃ y' : OpV, y' = { y with node := hl 32 (hrd D2 W2) } := ⟨_, rfl⟩
  have Eyn := Keep.mk hyn
  rw [← hyn] at HY ⊢
  clear hyn
  have H3 : Keep (OS w x g4 g5 g6 g9 vB yn 0 0 (p + N2) W2 b2 (w2.setRow g6 (opA yn))) := ⟨H2.out.setO yn (H2.out.o.setRow _) (Grown.setRow w2 g6 _ fun _ => rfl)⟩
  generalize w2.setRow g6 (opA yn) = w3 at *
  clear H2
  simp only [Act.put]
  refine WL.storeR (by kernel_rfl) 27 (.tmp 9) (.tmp 103) rfl g9 (erA W2 b2) rfl rfl 27 (erA 0 0) H3.out.e (Try.size27B _ _) (erA_sizes _ _ _ _) (erA_one _ _) ?_
  have H4 := Keep.mk (H3.out.setE W2 b2)
  generalize w3.setRow g9 (erA W2 b2) = w4 at *
  clear H3
  simp only [Act.put]
  refine WL.nil ?_
  exact hQ (.tuple #[.agg A, .agg (erA W2 b2)]) (.pointer (some ⟨x, 0, none⟩)) (.tuple #[.agg A, .agg (erA W2 b2)]) (.agg A) (.agg (erA W2 b2)) (.pointer (some ⟨g6, 4, none⟩)) (.pointer (some ⟨g6, 4, none⟩)) yn b2 w4 H4.out hEb.out HY.out
set_option maxRecDepth 8000 in
set_option maxHeartbeats 1000000 in
theorem all_step {u2 u3 u7 u8 u10 u11 u12 u13 u14 u15 u16 u17 u18 u19 u20 u21 u22 u23 u24 u25 u26 u27 u28 u29 u30 u31 u32 u33 u34 u35 u36 u37 u38 u39 u40 u41 u42 u43 u44 u45 u46 u47 u48 u49 u50 u51 u52 u53 u54 u55 u56 u57 u58 u59 u60 u61 u62 u63 u64 u65 u66 u67 u68 u69 u70 u71 u72 u73 u74 u75 u76 u77 u78 u79 u80 u81 u82 u83 u84 u85 u86 u87 u88 u89 u90 u91 u92 u93 u94 u95 u96 u97 u98 u99 u100 u101 u102 u103 u104 u105 u106 u107 u108 u109 u110 u111 u112 u113 u114 u115 u116 u117 u118 u119 u120 u121 u122 u123 u124 u125 u126 : Value} {Q : Exit → Act → World → Prop} (hP : ∀ e (a : Act) d (v : Value) (w : World), Q (.panic e) (a.put d v) w → Q (.panic e) a w) (x g4 g5 g6 g9 : Nat) (vB : Value) (vl : Value) (l : List OpV) (w w1 : World) (y : OpV) (p : Nat) (hS : OS w x g4 g5 g6 g9 vB y 0 0 p 0 0 w1) (hv : ∀ wx, (Grown w wx fun k => k = x) → OwnO wx vl l) (hln : l.length ≤ 1024)
    (hQ : ∀ (v13 v111 v112 v113 v114 v115 : Value) (w2 : World), OwnO w2 v13 (l ++ [y]) → OS w x g4 g5 g6 g9 vB y 0 0 p 0 0 w2 → Q .normal { tmps := #[.pointer (some ⟨x, 0, none⟩), vl, u2, u3, .pointer (some ⟨g4, 0, none⟩), .pointer (some ⟨g5, 0, none⟩), .pointer (some ⟨g6, 0, none⟩), u7, u8, .pointer (some ⟨g9, 0, none⟩), u10, u11, u12, v13, u14, u15, u16, u17, u18, u19, u20, u21, u22, u23, u24, u25, u26, u27, u28, u29, u30, u31, u32, u33, u34, u35, u36, u37, u38, u39, u40, u41, u42, u43, u44, u45, u46, u47, u48, u49, u50, u51, u52, u53, u54, u55, u56, u57, u58, u59, u60, u61, u62, u63, u64, u65, u66, u67, u68, u69, u70, u71, u72, u73, u74, u75, u76, u77, u78, u79, u80, u81, u82, u83, u84, u85, u86, u87, u88, u89, u90, u91, u92, u93, u94, u95, u96, u97, u98, u99, u100, u101, u102, u103, u104, u105, u106, u107, u108, u109, u110, v111, v112, v113, v114, v115, u116, u117, u118, u119, u120, u121, u122, u123, u124, u125, u126], defers := [] } w2) : Code.wp Try.prog (cF (cS (cS (cS (cS (cS (cS (cS (cS (cS (cS (cS (cS (cS (cS (cS (cS (cS (cS (Try.f36.body.getD Code.skip)))))))))))))))))))) Q { tmps := #[.pointer (some ⟨x, 0, none⟩), vl, u2, u3, .pointer (some ⟨g4, 0, none⟩), .pointer (some ⟨g5, 0, none⟩), .pointer (some ⟨g6, 0, none⟩), u7, u8, .pointer (some ⟨g9, 0, none⟩), u10, u11, u12, u13, u14, u15, u16, u17, u18, u19, u20, u21, u22, u23, u24, u25, u26, u27, u28, u29, u30, u31, u32, u33, u34, u35, u36, u37, u38, u39, u40, u41, u42, u43, u44, u45, u46, u47, u48, u49, u50, u51, u52, u53, u54, u55, u56, u57, u58, u59, u60, u61, u62, u63, u64, u65, u66, u67, u68, u69, u70, u71, u72, u73, u74, u75, u76, u77, u78, u79, u80, u81, u82, u83, u84, u85, u86, u87, u88, u89, u90, u91, u92, u93, u94, u95, u96, u97, u98, u99, u100, u101, u102, u103, u104, u105, u106, u107, u108, u109, u110, u111, u112, u113, u114, u115, u116, u117, u118, u119, u120, u121, u122, u123, u124, u125, u126], defers := [] } w1 := by
  have HS := Keep.mk hS
  have HVl := Keep.mk hv
  have Hln := Keep.mk hln
  clear hS hv hln
  have hD0 : Below w1.heap.size w1 w1.drew := (Below.refl _ _).drew
  have HS0 : Keep (∀ wx, Below w1.heap.size w1 wx → wx.rangeAt g6 0 (opL y)) := ⟨fun wx hx => blk_range (HS.out.o.below hx HS.out.o.lt)⟩
  refine wp_region_held_drew (S := fun wx => wx.rangeAt g6 0 (opL y)) (by kernel_rfl) (HS0.out _ hD0) (fun hHeld => ?_)
  refine wpAnyH_take (i := 0) (oi := ⟨some 111, Op.move (Operand.tmp 1), 36, _, _, none⟩) (v := vl) rfl (by kernel_rfl) (by kernel_rfl) (by kernel_rfl) (fun _ _ _ h => hP _ _ _ _ _ h) (Or.inl ⟨by rfl, fun w hS => by go_simp⟩) hHeld ?_
  simp only [Act.put, List.setIfInBounds_toArray, List.set_cons_zero, List.set_cons_succ]
  refine wpAnyH_take (i := 2) (oi := ⟨some 113, Op.load 59 (Operand.tmp 6), 59, _, _, none⟩) (v := .agg (opL y).toArray) rfl (by kernel_rfl) (by kernel_rfl) (by kernel_rfl) (fun _ _ _ h => hP _ _ _ _ _ h) (yieldsIf_load_mid (by rfl) 59 (Operand.tmp 6) rfl g6 0 rfl (opL y) _ (fun w hS => hS) Try.underlying59 rfl (Try.size59L y)) hHeld ?_
  simp only [Act.put, List.setIfInBounds_toArray, List.set_cons_zero, List.set_cons_succ]
  refine wpAnyH_ready (rs := [1, 3]) (by kernel_rfl) (by simp) ?_
  refine AllReadyH.cons (o := ⟨some 112, Op.call { callee := Callee.builtin Builtin.append, args := #[Operand.const (Value.slice none 0 0), Operand.tmp 111], argTypes := #[36, 36] }, 36, _, _, none⟩) rfl (fun K hK => ?_) (AllReadyH.cons (o := ⟨some 114, Op.buildSlice 36 1 #[(0, Operand.tmp 113)], 36, _, _, none⟩) rfl (fun K hK => ?_) AllReadyH.nil)
  all_goals rw [if_pos (by rfl)]
  · refine wp_appL _ (.tmp 111) rfl vl l rfl rfl (HVl.out w1.drew (HS.out.gr.trans (Grown.below hD0))) (by have := Hln.out; omega) ?_
    intro v2 wA ho2 hb2 hn2
    have B_wA : Below w1.heap.size w1 wA := (hD0).trans (hb2.mono (hD0).size)
    refine hK.out _ _ (HS0.out _ B_wA) fun hH_wA => ?_
    clear hK
    simp only [Act.put, List.setIfInBounds_toArray, List.set_cons_zero, List.set_cons_succ]
    refine wpAnyH_ready (rs := [3]) (by kernel_rfl) (by simp) ?_
    refine AllReadyH.cons (o := ⟨some 114, Op.buildSlice 36 1 #[(0, Operand.tmp 113)], 36, _, _, none⟩) rfl (fun K hK => ?_) AllReadyH.nil
    rw [if_pos (by rfl)]
    refine wp_bsO 36 1 _ rfl #[(0, .agg (opA y))] (by simp [Act.eval, rng_load]) _ _ (bsO y wA) ?_
    have hbs := Blk.new wA 59 (opA y)
    have hbb := below_new wA (.cells (opA y) 59)
    obtain ⟨wB, hw_wB⟩ : ∃ w', Keep ((wA).alloc (.cells (opA y) 59) = w') := ⟨_, ⟨rfl⟩⟩
    rw [hw_wB.out] at hbs hbb ⊢
    have B_wB : Below w1.heap.size w1 wB := (B_wA).trans (hbb.mono (B_wA).size)
    refine hK.out _ _ (HS0.out _ B_wB) fun hH_wB => ?_
    clear hK
    simp only [Act.put, List.setIfInBounds_toArray, List.set_cons_zero, List.set_cons_succ]
    refine wpAnyH_ready (rs := [4]) (by kernel_rfl) (by simp) ?_
    refine AllReadyH.cons (o := ⟨some 115, Op.call { callee := Callee.builtin Builtin.append, args := #[Operand.tmp 112, Operand.tmp 114], argTypes := #[36, 36] }, 36, _, _, none⟩) rfl (fun K hK => ?_) AllReadyH.nil
    rw [if_pos (by rfl)]
    refine wp_appO1 (.tmp 112) (.tmp 114) rfl v2 l (wA.heap.size) y rfl rfl (ho2.below hbb) (hbs) (by have := Hln.out; omega) ?_
    intro v5 w5 ho5 hg5' hm5
    have hS5 : OS w x g4 g5 g6 g9 vB y 0 0 p 0 0 w5 := by
      have h0 := HS.out.below B_wB
      have nn : ∀ k, k < w1.heap.size → v2.ownBlock ≠ some k := fun k hk e => by have h1 : w1.heap.size ≤ k := hn2 k e; omega
      exact ⟨hg5'.blk h0.o (nn _ HS.out.o.lt), hg5'.blk h0.e (nn _ HS.out.e.lt), hg5'.blk h0.r4 (nn _ HS.out.r4.lt), hg5'.blk h0.r5 (nn _ HS.out.r5.lt), hg5'.blk h0.rf (nn _ (Blk.lt HS.out.rf)), h0.gr.next hg5' (fun k hk e => absurd e (nn k (Nat.lt_of_lt_of_le hk HS.out.gr.size))), h0.n46, h0.n59, h0.lo⟩
    refine hK.out _ _ (blk_range hS5.o) fun hH5 => ?_
    clear hK
    simp only [Act.put, List.setIfInBounds_toArray, List.set_cons_zero, List.set_cons_succ]
    refine wpAnyH_take (i := 5) (oi := ⟨some 13, Op.assign (Operand.tmp 115), 36, _, _, none⟩) (v := v5) rfl (by kernel_rfl) (by kernel_rfl) (by kernel_rfl) (fun _ _ _ h => hP _ _ _ _ _ h) (Or.inl ⟨by rfl, fun w hS => by go_simp⟩) hH5 ?_
    simp only [Act.put, List.setIfInBounds_toArray, List.set_cons_zero, List.set_cons_succ]
    refine wpAnyH_done (by kernel_rfl) ?_ _
    exact hQ _ _ _ _ _ _ w5 ho5 hS5
  · refine wp_bsO 36 1 _ rfl #[(0, .agg (opA y))] (by simp [Act.eval, rng_load]) _ _ (bsO y w1.drew) ?_
    have hbs := Blk.new w1.drew 59 (opA y)
    have hbb := below_new w1.drew (.cells (opA y) 59)
    obtain ⟨wA, hw_wA⟩ : ∃ w', Keep ((w1.drew).alloc (.cells (opA y) 59) = w') := ⟨_, ⟨rfl⟩⟩
    rw [hw_wA.out] at hbs hbb ⊢
    have B_wA : Below w1.heap.size w1 wA := (hD0).trans (hbb.mono (hD0).size)
    refine hK.out _ _ (HS0.out _ B_wA) fun hH_wA => ?_
    clear hK
    simp only [Act.put, List.setIfInBounds_toArray, List.set_cons_zero, List.set_cons_succ]
    refine wpAnyH_ready (rs := [1]) (by kernel_rfl) (by simp) ?_
    refine AllReadyH.cons (o := ⟨some 112, Op.call { callee := Callee.builtin Builtin.append, args := #[Operand.const (Value.slice none 0 0), Operand.tmp 111], argTypes := #[36, 36] }, 36, _, _, none⟩) rfl (fun K hK => ?_) AllReadyH.nil
    rw [if_pos (by rfl)]
    refine wp_appL _ (.tmp 111) rfl vl l rfl rfl (HVl.out wA (HS.out.gr.trans (Grown.below B_wA))) (by have := Hln.out; omega) ?_
    intro v2 wB ho2 hb2 hn2
    have B_wB : Below w1.heap.size w1 wB := (B_wA).trans (hb2.mono (B_wA).size)
    refine hK.out _ _ (HS0.out _ B_wB) fun hH_wB => ?_
    clear hK
    simp only [Act.put, List.setIfInBounds_toArray, List.set_cons_zero, List.set_cons_succ]
    have hn2' : ∀ k, v2.ownBlock = some k → w1.heap.size ≤ k := fun k hk => Nat.le_trans B_wA.size (hn2 k hk)
    refine wpAnyH_ready (rs := [4]) (by kernel_rfl) (by simp) ?_
    refine AllReadyH.cons (o := ⟨some 115, Op.call { callee := Callee.builtin Builtin.append, args := #[Operand.tmp 112, Operand.tmp 114], argTypes := #[36, 36] }, 36, _, _, none⟩) rfl (fun K hK => ?_) AllReadyH.nil
    rw [if_pos (by rfl)]
    refine wp_appO1 (.tmp 112) (.tmp 114) rfl v2 l (w1.drew.heap.size) y rfl rfl (ho2) (hbs.below hb2 hbs.lt) (by have := Hln.out; omega) ?_
    intro v5 w5 ho5 hg5' hm5
    have hS5 : OS w x g4 g5 g6 g9 vB y 0 0 p 0 0 w5 := by
      have h0 := HS.out.below B_wB
      have nn : ∀ k, k < w1.heap.size → v2.ownBlock ≠ some k := fun k hk e => by have h1 : w1.heap.size ≤ k := hn2' k e; omega
      exact ⟨hg5'.blk h0.o (nn _ HS.out.o.lt), hg5'.blk h0.e (nn _ HS.out.e.lt), hg5'.blk h0.r4 (nn _ HS.out.r4.lt), hg5'.blk h0.r5 (nn _ HS.out.r5.lt), hg5'.blk h0.rf (nn _ (Blk.lt HS.out.rf)), h0.gr.next hg5' (fun k hk e => absurd e (nn k (Nat.lt_of_lt_of_le hk HS.out.gr.size))), h0.n46, h0.n59, h0.lo⟩
    refine hK.out _ _ (blk_range hS5.o) fun hH5 => ?_
    clear hK
    simp only [Act.put, List.setIfInBounds_toArray, List.set_cons_zero, List.set_cons_succ]
    refine wpAnyH_take (i := 5) (oi := ⟨some 13, Op.assign (Operand.tmp 115), 36, _, _, none⟩) (v := v5) rfl (by kernel_rfl) (by kernel_rfl) (by kernel_rfl) (fun _ _ _ h => hP _ _ _ _ _ h) (Or.inl ⟨by rfl, fun w hS => by go_simp⟩) hH5 ?_
    simp only [Act.put, List.setIfInBounds_toArray, List.set_cons_zero, List.set_cons_succ]
    refine wpAnyH_done (by kernel_rfl) ?_ _
    exact hQ _ _ _ _ _ _ w5 ho5 hS5
set_option maxRecDepth 8000 in
set_option maxHeartbeats 1000000 in
theorem ret_step7 {u2 u3 u7 u8 u10 u11 u12 u13 u14 u15 u16 u17 u18 u19 u20 u21 u22 u23 u24 u25 u26 u27 u28 u29 u30 u31 u32 u33 u34 u35 u36 u37 u38 u39 u40 u41 u42 u43 u44 u45 u46 u47 u48 u49 u50 u51 u52 u53 u54 u55 u56 u57 u58 u59 u60 u61 u62 u63 u64 u65 u66 u67 u68 u69 u70 u71 u72 u73 u74 u75 u76 u77 u78 u79 u80 u81 u82 u83 u84 u85 u86 u87 u88 u89 u90 u91 u92 u93 u94 u95 u96 u97 u98 u99 u100 u101 u102 u103 u104 u105 u106 u107 u108 u109 u110 u111 u112 u113 u114 u115 u116 u117 u118 u119 u120 u121 u122 u123 u124 u125 u126 : Value} {Q : Exit → Act → World → Prop} (hP : ∀ e (a : Act) d (v : Value) (w : World), Q (.panic e) (a.put d v) w → Q (.panic e) a w) (x g4 g5 g6 g9 : Nat) (vB vl : Value) (w w1 : World) (y : OpV) (ew eb : Int) (p : Nat) (hS : OS w x g4 g5 g6 g9 vB y ew eb p ew eb w1)
    (hQ : ∀ (v42 v43 : Value) (w2 : World), Blk w2 g4 59 (opA y) → Blk w2 g5 27 (erA ew eb) → (∀ G : Int × Nat × OpV, G.1 = ew → G.2.1 = p → ErrB ew p eb → (ew = 0 → y = G.2.2 ∧ OpOk y) → ROne x vB G w (.returned (.tuple #[.agg (opA y), .agg (erA ew eb)])) w2) → Q .normal { tmps := #[.pointer (some ⟨x, 0, none⟩), vl, u2, u3, .pointer (some ⟨g4, 0, none⟩), .pointer (some ⟨g5, 0, none⟩), .pointer (some ⟨g6, 0, none⟩), u7, u8, .pointer (some ⟨g9, 0, none⟩), u10, u11, u12, u13, u14, u15, u16, u17, u18, u19, u20, u21, u22, u23, u24, u25, u26, u27, u28, u29, u30, u31, u32, u33, u34, u35, u36, u37, u38, u39, u40, u41, v42, v43, u44, u45, u46, u47, u48, u49, u50, u51, u52, u53, u54, u55, u56, u57, u58, u59, u60, u61, u62, u63, u64, u65, u66, u67, u68, u69, u70, u71, u72, u73, u74, u75, u76, u77, u78, u79, u80, u81, u82, u83, u84, u85, u86, u87, u88, u89, u90, u91, u92, u93, u94, u95, u96, u97, u98, u99, u100, u101, u102, u103, u104, u105, u106, u107, u108, u109, u110, u111, u112, u113, u114, u115, u116, u117, u118, u119, u120, u121, u122, u123, u124, u125, u126], defers := [] } w2) : Code.wp Try.prog (cF (cT (cS (cF (cS (cS (cS (cS (cS (Try.f36.body.getD Code.skip)))))))))) Q { tmps := #[.pointer (some ⟨x, 0, none⟩), vl, u2, u3, .pointer (some ⟨g4, 0, none⟩), .pointer (some ⟨g5, 0, none⟩), .pointer (some ⟨g6, 0, none⟩), u7, u8, .pointer (some ⟨g9, 0, none⟩), u10, u11, u12, u13, u14, u15, u16, u17, u18, u19, u20, u21, u22, u23, u24, u25, u26, u27, u28, u29, u30, u31, u32, u33, u34, u35, u36, u37, u38, u39, u40, u41, u42, u43, u44, u45, u46, u47, u48, u49, u50, u51, u52, u53, u54, u55, u56, u57, u58, u59, u60, u61, u62, u63, u64, u65, u66, u67, u68, u69, u70, u71, u72, u73, u74, u75, u76, u77, u78, u79, u80, u81, u82, u83, u84, u85, u86, u87, u88, u89, u90, u91, u92, u93, u94, u95, u96, u97, u98, u99, u100, u101, u102, u103, u104, u105, u106, u107, u108, u109, u110, u111, u112, u113, u114, u115, u116, u117, u118, u119, u120, u121, u122, u123, u124, u125, u126], defers := [] } w1 := by
  have HS := Keep.mk hS
  clear hS
  have k4 := HS.out.r4.drew
  have k5 := HS.out.r5.drew
  have k6 := HS.out.o.drew
  have k9 := HS.out.e.drew
  have n64 : g6 ≠ g4 := fun e => HS.out.n46 e.symm
  have n94 : g9 ≠ g4 := blk_ne k9 k4 (by decide)
  have n65 : g6 ≠ g5 := blk_ne k6 k5 (by decide)
  have n95 : g9 ≠ g5 := fun e => HS.out.n59 e.symm
  refine wp_region_held_drew (S := fun wx => wx.rangeAt g6 0 (opL y) ∧ wx.rangeAt g9 0 (erA ew eb).toList) (by kernel_rfl) (⟨blk_range k6, blk_range k9⟩) (fun hHeld => ?_)
  refine wpAnyH_take (i := 0) (oi := ⟨some 42, Op.load 59 (Operand.tmp 6), 59, _, _, none⟩) (v := .agg (opL y).toArray) rfl (by kernel_rfl) (by kernel_rfl) (by kernel_rfl) (fun _ _ _ h => hP _ _ _ _ _ h) (yieldsIf_load_mid (by rfl) 59 (Operand.tmp 6) rfl g6 0 rfl (opL y) _ (fun w hS => hS.1) Try.underlying59 rfl (Try.size59L y)) hHeld ?_
  simp only [Act.put, List.setIfInBounds_toArray, List.set_cons_zero, List.set_cons_succ]
  refine wpAnyH_take (i := 1) (oi := ⟨some 43, Op.load 27 (Operand.tmp 9), 27, _, _, none⟩) (v := .agg (erA ew eb).toList.toArray) rfl (by kernel_rfl) (by kernel_rfl) (by kernel_rfl) (fun _ _ _ h => hP _ _ _ _ _ h) (yieldsIf_load_mid (by rfl) 27 (Operand.tmp 9) rfl g9 0 rfl (erA ew eb).toList _ (fun w hS => hS.2) Try.underlying27 rfl (Try.size27B ew eb)) hHeld ?_
  simp only [Act.put, List.setIfInBounds_toArray, List.set_cons_zero, List.set_cons_succ]
  refine wpAnyH_ready (rs := [2]) (by kernel_rfl) (by simp) ?_
  refine AllReadyH.cons (o := ⟨none, Op.store 59 (Operand.tmp 4) (Operand.tmp 42), 0, _, _, none⟩) rfl (fun K hK => ?_) AllReadyH.nil
  rw [if_pos (by rfl)]
  refine wp_store_row 59 (.tmp 4) (.tmp 42) rfl g4 (opA y) rfl rfl 59 (opA zeroOp) k4 (Try.size59B _) (opA_sizes _ _) (opA_one _) ?_
  refine hK.out _ _ ⟨blk_range (k6.setRow_ne n64 _), blk_range (k9.setRow_ne n94 _)⟩ fun hH2 => ?_
  clear hK
  simp only [Act.put, List.setIfInBounds_toArray, List.set_cons_zero, List.set_cons_succ]
  refine wpAnyH_ready (rs := [3]) (by kernel_rfl) (by simp) ?_
  refine AllReadyH.cons (o := ⟨none, Op.store 27 (Operand.tmp 5) (Operand.tmp 43), 0, _, _, none⟩) rfl (fun K hK => ?_) AllReadyH.nil
  rw [if_pos (by rfl)]
  refine wp_store_row 27 (.tmp 5) (.tmp 43) rfl g5 (erA ew eb) rfl rfl 27 (erA 0 0) (k5.setRow_ne (blk_ne k5 k4 (by decide)) _) (Try.size27B _ _) (erA_sizes _ _ _ _) (erA_one _ _) ?_
  refine hK.out _ _ ⟨blk_range ((k6.setRow_ne n64 _).setRow_ne n65 _), blk_range ((k9.setRow_ne n94 _).setRow_ne n95 _)⟩ fun hH3 => ?_
  clear hK
  simp only [Act.put, List.setIfInBounds_toArray, List.set_cons_zero, List.set_cons_succ]
  refine wpAnyH_done (by kernel_rfl) ?_ _
  exact hQ (.agg (opL y).toArray) (.agg (erA ew eb).toList.toArray) _ ((k4.setRow _).setRow_ne (blk_ne k4 k5 (by decide)) _) ((k5.setRow_ne (blk_ne k5 k4 (by decide)) _).setRow _) (fun G h1 h2 hE hok => OS.done HS.out G h1 h2 rfl rfl hE hok)
set_option maxRecDepth 8000 in
set_option maxHeartbeats 1000000 in
theorem ret_step17 {u2 u3 u7 u8 u10 u11 u12 u13 u14 u15 u16 u17 u18 u19 u20 u21 u22 u23 u24 u25 u26 u27 u28 u29 u30 u31 u32 u33 u34 u35 u36 u37 u38 u39 u40 u41 u42 u43 u44 u45 u46 u47 u48 u49 u50 u51 u52 u53 u54 u55 u56 u57 u58 u59 u60 u61 u62 u63 u64 u65 u66 u67 u68 u69 u70 u71 u72 u73 u74 u75 u76 u77 u78 u79 u80 u81 u82 u83 u84 u85 u86 u87 u88 u89 u90 u91 u92 u93 u94 u95 u96 u97 u98 u99 u100 u101 u102 u103 u104 u105 u106 u107 u108 u109 u110 u111 u112 u113 u114 u115 u116 u117 u118 u119 u120 u121 u122 u123 u124 u125 u126 : Value} {Q : Exit → Act → World → Prop} (hP : ∀ e (a : Act) d (v : Value) (w : World), Q (.panic e) (a.put d v) w → Q (.panic e) a w) (x g4 g5 g6 g9 : Nat) (vB vl : Value) (w w1 : World) (y : OpV) (ew eb : Int) (p : Nat) (hS : OS w x g4 g5 g6 g9 vB y ew eb p ew eb w1)
    (hQ : ∀ (v82 v83 : Value) (w2 : World), Blk w2 g4 59 (opA y) → Blk w2 g5 27 (erA ew eb) → (∀ G : Int × Nat × OpV, G.1 = ew → G.2.1 = p → ErrB ew p eb → (ew = 0 → y = G.2.2 ∧ OpOk y) → ROne x vB G w (.returned (.tuple #[.agg (opA y), .agg (erA ew eb)])) w2) → Q .normal { tmps := #[.pointer (some ⟨x, 0, none⟩), vl, u2, u3, .pointer (some ⟨g4, 0, none⟩), .pointer (some ⟨g5, 0, none⟩), .pointer (some ⟨g6, 0, none⟩), u7, u8, .pointer (some ⟨g9, 0, none⟩), u10, u11, u12, u13, u14, u15, u16, u17, u18, u19, u20, u21, u22, u23, u24, u25, u26, u27, u28, u29, u30, u31, u32, u33, u34, u35, u36, u37, u38, u39, u40, u41, u42, u43, u44, u45, u46, u47, u48, u49, u50, u51, u52, u53, u54, u55, u56, u57, u58, u59, u60, u61, u62, u63, u64, u65, u66, u67, u68, u69, u70, u71, u72, u73, u74, u75, u76, u77, u78, u79, u80, u81, v82, v83, u84, u85, u86, u87, u88, u89, u90, u91, u92, u93, u94, u95, u96, u97, u98, u99, u100, u101, u102, u103, u104, u105, u106, u107, u108, u109, u110, u111, u112, u113, u114, u115, u116, u117, u118, u119, u120, u121, u122, u123, u124, u125, u126], defers := [] } w2) : Code.wp Try.prog (cF (cT (cS (cF (cS (cS (cS (cS (cS (cS (cS (cS (cS (cS (cS (cS (Try.f36.body.getD Code.skip))))))))))))))))) Q { tmps := #[.pointer (some ⟨x, 0, none⟩), vl, u2, u3, .pointer (some ⟨g4, 0, none⟩), .pointer (some ⟨g5, 0, none⟩), .pointer (some ⟨g6, 0, none⟩), u7, u8, .pointer (some ⟨g9, 0, none⟩), u10, u11, u12, u13, u14, u15, u16, u17, u18, u19, u20, u21, u22, u23, u24, u25, u26, u27, u28, u29, u30, u31, u32, u33, u34, u35, u36, u37, u38, u39, u40, u41, u42, u43, u44, u45, u46, u47, u48, u49, u50, u51, u52, u53, u54, u55, u56, u57, u58, u59, u60, u61, u62, u63, u64, u65, u66, u67, u68, u69, u70, u71, u72, u73, u74, u75, u76, u77, u78, u79, u80, u81, u82, u83, u84, u85, u86, u87, u88, u89, u90, u91, u92, u93, u94, u95, u96, u97, u98, u99, u100, u101, u102, u103, u104, u105, u106, u107, u108, u109, u110, u111, u112, u113, u114, u115, u116, u117, u118, u119, u120, u121, u122, u123, u124, u125, u126], defers := [] } w1 := by
  have HS := Keep.mk hS
  clear hS
  have k4 := HS.out.r4.drew
  have k5 := HS.out.r5.drew
  have k6 := HS.out.o.drew
  have k9 := HS.out.e.drew
  have n64 : g6 ≠ g4 := fun e => HS.out.n46 e.symm
  have n94 : g9 ≠ g4 := blk_ne k9 k4 (by decide)
  have n65 : g6 ≠ g5 := blk_ne k6 k5 (by decide)
  have n95 : g9 ≠ g5 := fun e => HS.out.n59 e.symm
  refine wp_region_held_drew (S := fun wx => wx.rangeAt g6 0 (opL y) ∧ wx.rangeAt g9 0 (erA ew eb).toList) (by kernel_rfl) (⟨blk_range k6, blk_range k9⟩) (fun hHeld => ?_)
  refine wpAnyH_take (i := 0) (oi := ⟨some 82, Op.load 59 (Operand.tmp 6), 59, _, _, none⟩) (v := .agg (opL y).toArray) rfl (by kernel_rfl) (by kernel_rfl) (by kernel_rfl) (fun _ _ _ h => hP _ _ _ _ _ h) (yieldsIf_load_mid (by rfl) 59 (Operand.tmp 6) rfl g6 0 rfl (opL y) _ (fun w hS => hS.1) Try.underlying59 rfl (Try.size59L y)) hHeld ?_
  simp only [Act.put, List.setIfInBounds_toArray, List.set_cons_zero, List.set_cons_succ]
  refine wpAnyH_take (i := 1) (oi := ⟨some 83, Op.load 27 (Operand.tmp 9), 27, _, _, none⟩) (v := .agg (erA ew eb).toList.toArray) rfl (by kernel_rfl) (by kernel_rfl) (by kernel_rfl) (fun _ _ _ h => hP _ _ _ _ _ h) (yieldsIf_load_mid (by rfl) 27 (Operand.tmp 9) rfl g9 0 rfl (erA ew eb).toList _ (fun w hS => hS.2) Try.underlying27 rfl (Try.size27B ew eb)) hHeld ?_
  simp only [Act.put, List.setIfInBounds_toArray, List.set_cons_zero, List.set_cons_succ]
  refine wpAnyH_ready (rs := [2]) (by kernel_rfl) (by simp) ?_
  refine AllReadyH.cons (o := ⟨none, Op.store 59 (Operand.tmp 4) (Operand.tmp 82), 0, _, _, none⟩) rfl (fun K hK => ?_) AllReadyH.nil
  rw [if_pos (by rfl)]
  refine wp_store_row 59 (.tmp 4) (.tmp 82) rfl g4 (opA y) rfl rfl 59 (opA zeroOp) k4 (Try.size59B _) (opA_sizes _ _) (opA_one _) ?_
  refine hK.out _ _ ⟨blk_range (k6.setRow_ne n64 _), blk_range (k9.setRow_ne n94 _)⟩ fun hH2 => ?_
  clear hK
  simp only [Act.put, List.setIfInBounds_toArray, List.set_cons_zero, List.set_cons_succ]
  refine wpAnyH_ready (rs := [3]) (by kernel_rfl) (by simp) ?_
  refine AllReadyH.cons (o := ⟨none, Op.store 27 (Operand.tmp 5) (Operand.tmp 83), 0, _, _, none⟩) rfl (fun K hK => ?_) AllReadyH.nil
  rw [if_pos (by rfl)]
  refine wp_store_row 27 (.tmp 5) (.tmp 83) rfl g5 (erA ew eb) rfl rfl 27 (erA 0 0) (k5.setRow_ne (blk_ne k5 k4 (by decide)) _) (Try.size27B _ _) (erA_sizes _ _ _ _) (erA_one _ _) ?_
  refine hK.out _ _ ⟨blk_range ((k6.setRow_ne n64 _).setRow_ne n65 _), blk_range ((k9.setRow_ne n94 _).setRow_ne n95 _)⟩ fun hH3 => ?_
  clear hK
  simp only [Act.put, List.setIfInBounds_toArray, List.set_cons_zero, List.set_cons_succ]
  refine wpAnyH_done (by kernel_rfl) ?_ _
  exact hQ (.agg (opL y).toArray) (.agg (erA ew eb).toList.toArray) _ ((k4.setRow _).setRow_ne (blk_ne k4 k5 (by decide)) _) ((k5.setRow_ne (blk_ne k5 k4 (by decide)) _).setRow _) (fun G h1 h2 hE hok => OS.done HS.out G h1 h2 rfl rfl hE hok)
set_option maxRecDepth 8000 in
set_option maxHeartbeats 1000000 in
theorem ret_step24 {u2 u3 u7 u8 u10 u11 u12 u13 u14 u15 u16 u17 u18 u19 u20 u21 u22 u23 u24 u25 u26 u27 u28 u29 u30 u31 u32 u33 u34 u35 u36 u37 u38 u39 u40 u41 u42 u43 u44 u45 u46 u47 u48 u49 u50 u51 u52 u53 u54 u55 u56 u57 u58 u59 u60 u61 u62 u63 u64 u65 u66 u67 u68 u69 u70 u71 u72 u73 u74 u75 u76 u77 u78 u79 u80 u81 u82 u83 u84 u85 u86 u87 u88 u89 u90 u91 u92 u93 u94 u95 u96 u97 u98 u99 u100 u101 u102 u103 u104 u105 u106 u107 u108 u109 u110 u111 u112 u113 u114 u115 u116 u117 u118 u119 u120 u121 u122 u123 u124 u125 u126 : Value} {Q : Exit → Act → World → Prop} (hP : ∀ e (a : Act) d (v : Value) (w : World), Q (.panic e) (a.put d v) w → Q (.panic e) a w) (x g4 g5 g6 g9 : Nat) (vB vl : Value) (w w1 : World) (y : OpV) (ew eb : Int) (p : Nat) (hS : OS w x g4 g5 g6 g9 vB y ew eb p ew eb w1)
    (hQ : ∀ (v109 v110 : Value) (w2 : World), Blk w2 g4 59 (opA y) → Blk w2 g5 27 (erA ew eb) → (∀ G : Int × Nat × OpV, G.1 = ew → G.2.1 = p → ErrB ew p eb → (ew = 0 → y = G.2.2 ∧ OpOk y) → ROne x vB G w (.returned (.tuple #[.agg (opA y), .agg (erA ew eb)])) w2) → Q .normal { tmps := #[.pointer (some ⟨x, 0, none⟩), vl, u2, u3, .pointer (some ⟨g4, 0, none⟩), .pointer (some ⟨g5, 0, none⟩), .pointer (some ⟨g6, 0, none⟩), u7, u8, .pointer (some ⟨g9, 0, none⟩), u10, u11, u12, u13, u14, u15, u16, u17, u18, u19, u20, u21, u22, u23, u24, u25, u26, u27, u28, u29, u30, u31, u32, u33, u34, u35, u36, u37, u38, u39, u40, u41, u42, u43, u44, u45, u46, u47, u48, u49, u50, u51, u52, u53, u54, u55, u56, u57, u58, u59, u60, u61, u62, u63, u64, u65, u66, u67, u68, u69, u70, u71, u72, u73, u74, u75, u76, u77, u78, u79, u80, u81, u82, u83, u84, u85, u86, u87, u88, u89, u90, u91, u92, u93, u94, u95, u96, u97, u98, u99, u100, u101, u102, u103, u104, u105, u106, u107, u108, v109, v110, u111, u112, u113, u114, u115, u116, u117, u118, u119, u120, u121, u122, u123, u124, u125, u126], defers := [] } w2) : Code.wp Try.prog (cF (cT (cS (cF (cS (cS (cS (cS (cS (cS (cS (cS (cS (cS (cS (cS (cS (cS (cS (cS (cS (Try.f36.body.getD Code.skip)))))))))))))))))))))) Q { tmps := #[.pointer (some ⟨x, 0, none⟩), vl, u2, u3, .pointer (some ⟨g4, 0, none⟩), .pointer (some ⟨g5, 0, none⟩), .pointer (some ⟨g6, 0, none⟩), u7, u8, .pointer (some ⟨g9, 0, none⟩), u10, u11, u12, u13, u14, u15, u16, u17, u18, u19, u20, u21, u22, u23, u24, u25, u26, u27, u28, u29, u30, u31, u32, u33, u34, u35, u36, u37, u38, u39, u40, u41, u42, u43, u44, u45, u46, u47, u48, u49, u50, u51, u52, u53, u54, u55, u56, u57, u58, u59, u60, u61, u62, u63, u64, u65, u66, u67, u68, u69, u70, u71, u72, u73, u74, u75, u76, u77, u78, u79, u80, u81, u82, u83, u84, u85, u86, u87, u88, u89, u90, u91, u92, u93, u94, u95, u96, u97, u98, u99, u100, u101, u102, u103, u104, u105, u106, u107, u108, u109, u110, u111, u112, u113, u114, u115, u116, u117, u118, u119, u120, u121, u122, u123, u124, u125, u126], defers := [] } w1 := by
  have HS := Keep.mk hS
  clear hS
  have k4 := HS.out.r4.drew
  have k5 := HS.out.r5.drew
  have k6 := HS.out.o.drew
  have k9 := HS.out.e.drew
  have n64 : g6 ≠ g4 := fun e => HS.out.n46 e.symm
  have n94 : g9 ≠ g4 := blk_ne k9 k4 (by decide)
  have n65 : g6 ≠ g5 := blk_ne k6 k5 (by decide)
  have n95 : g9 ≠ g5 := fun e => HS.out.n59 e.symm
  refine wp_region_held_drew (S := fun wx => wx.rangeAt g6 0 (opL y) ∧ wx.rangeAt g9 0 (erA ew eb).toList) (by kernel_rfl) (⟨blk_range k6, blk_range k9⟩) (fun hHeld => ?_)
  refine wpAnyH_take (i := 0) (oi := ⟨some 109, Op.load 59 (Operand.tmp 6), 59, _, _, none⟩) (v := .agg (opL y).toArray) rfl (by kernel_rfl) (by kernel_rfl) (by kernel_rfl) (fun _ _ _ h => hP _ _ _ _ _ h) (yieldsIf_load_mid (by rfl) 59 (Operand.tmp 6) rfl g6 0 rfl (opL y) _ (fun w hS => hS.1) Try.underlying59 rfl (Try.size59L y)) hHeld ?_
  simp only [Act.put, List.setIfInBounds_toArray, List.set_cons_zero, List.set_cons_succ]
  refine wpAnyH_take (i := 1) (oi := ⟨some 110, Op.load 27 (Operand.tmp 9), 27, _, _, none⟩) (v := .agg (erA ew eb).toList.toArray) rfl (by kernel_rfl) (by kernel_rfl) (by kernel_rfl) (fun _ _ _ h => hP _ _ _ _ _ h) (yieldsIf_load_mid (by rfl) 27 (Operand.tmp 9) rfl g9 0 rfl (erA ew eb).toList _ (fun w hS => hS.2) Try.underlying27 rfl (Try.size27B ew eb)) hHeld ?_
  simp only [Act.put, List.setIfInBounds_toArray, List.set_cons_zero, List.set_cons_succ]
  refine wpAnyH_ready (rs := [2]) (by kernel_rfl) (by simp) ?_
  refine AllReadyH.cons (o := ⟨none, Op.store 59 (Operand.tmp 4) (Operand.tmp 109), 0, _, _, none⟩) rfl (fun K hK => ?_) AllReadyH.nil
  rw [if_pos (by rfl)]
  refine wp_store_row 59 (.tmp 4) (.tmp 109) rfl g4 (opA y) rfl rfl 59 (opA zeroOp) k4 (Try.size59B _) (opA_sizes _ _) (opA_one _) ?_
  refine hK.out _ _ ⟨blk_range (k6.setRow_ne n64 _), blk_range (k9.setRow_ne n94 _)⟩ fun hH2 => ?_
  clear hK
  simp only [Act.put, List.setIfInBounds_toArray, List.set_cons_zero, List.set_cons_succ]
  refine wpAnyH_ready (rs := [3]) (by kernel_rfl) (by simp) ?_
  refine AllReadyH.cons (o := ⟨none, Op.store 27 (Operand.tmp 5) (Operand.tmp 110), 0, _, _, none⟩) rfl (fun K hK => ?_) AllReadyH.nil
  rw [if_pos (by rfl)]
  refine wp_store_row 27 (.tmp 5) (.tmp 110) rfl g5 (erA ew eb) rfl rfl 27 (erA 0 0) (k5.setRow_ne (blk_ne k5 k4 (by decide)) _) (Try.size27B _ _) (erA_sizes _ _ _ _) (erA_one _ _) ?_
  refine hK.out _ _ ⟨blk_range ((k6.setRow_ne n64 _).setRow_ne n65 _), blk_range ((k9.setRow_ne n94 _).setRow_ne n95 _)⟩ fun hH3 => ?_
  clear hK
  simp only [Act.put, List.setIfInBounds_toArray, List.set_cons_zero, List.set_cons_succ]
  refine wpAnyH_done (by kernel_rfl) ?_ _
  exact hQ (.agg (opL y).toArray) (.agg (erA ew eb).toList.toArray) _ ((k4.setRow _).setRow_ne (blk_ne k4 k5 (by decide)) _) ((k5.setRow_ne (blk_ne k5 k4 (by decide)) _).setRow _) (fun G h1 h2 hE hok => OS.done HS.out G h1 h2 rfl rfl hE hok)
set_option maxRecDepth 8000 in
set_option maxHeartbeats 1000000 in
theorem ret_step29 {u2 u3 u7 u8 u10 u11 u12 u13 u14 u15 u16 u17 u18 u19 u20 u21 u22 u23 u24 u25 u26 u27 u28 u29 u30 u31 u32 u33 u34 u35 u36 u37 u38 u39 u40 u41 u42 u43 u44 u45 u46 u47 u48 u49 u50 u51 u52 u53 u54 u55 u56 u57 u58 u59 u60 u61 u62 u63 u64 u65 u66 u67 u68 u69 u70 u71 u72 u73 u74 u75 u76 u77 u78 u79 u80 u81 u82 u83 u84 u85 u86 u87 u88 u89 u90 u91 u92 u93 u94 u95 u96 u97 u98 u99 u100 u101 u102 u103 u104 u105 u106 u107 u108 u109 u110 u111 u112 u113 u114 u115 u116 u117 u118 u119 u120 u121 u122 u123 u124 u125 u126 : Value} {Q : Exit → Act → World → Prop} (hP : ∀ e (a : Act) d (v : Value) (w : World), Q (.panic e) (a.put d v) w → Q (.panic e) a w) (x g4 g5 g6 g9 : Nat) (vB vl : Value) (w w1 : World) (y : OpV) (ew eb : Int) (p : Nat) (hS : OS w x g4 g5 g6 g9 vB y ew eb p ew eb w1)
    (hQ : ∀ (v125 v126 : Value) (w2 : World), Blk w2 g4 59 (opA y) → Blk w2 g5 27 (erA ew eb) → (∀ G : Int × Nat × OpV, G.1 = ew → G.2.1 = p → ErrB ew p eb → (ew = 0 → y = G.2.2 ∧ OpOk y) → ROne x vB G w (.returned (.tuple #[.agg (opA y), .agg (erA ew eb)])) w2) → Q .normal { tmps := #[.pointer (some ⟨x, 0, none⟩), vl, u2, u3, .pointer (some ⟨g4, 0, none⟩), .pointer (some ⟨g5, 0, none⟩), .pointer (some ⟨g6, 0, none⟩), u7, u8, .pointer (some ⟨g9, 0, none⟩), u10, u11, u12, u13, u14, u15, u16, u17, u18, u19, u20, u21, u22, u23, u24, u25, u26, u27, u28, u29, u30, u31, u32, u33, u34, u35, u36, u37, u38, u39, u40, u41, u42, u43, u44, u45, u46, u47, u48, u49, u50, u51, u52, u53, u54, u55, u56, u57, u58, u59, u60, u61, u62, u63, u64, u65, u66, u67, u68, u69, u70, u71, u72, u73, u74, u75, u76, u77, u78, u79, u80, u81, u82, u83, u84, u85, u86, u87, u88, u89, u90, u91, u92, u93, u94, u95, u96, u97, u98, u99, u100, u101, u102, u103, u104, u105, u106, u107, u108, u109, u110, u111, u112, u113, u114, u115, u116, u117, u118, u119, u120, u121, u122, u123, u124, v125, v126], defers := [] } w2) : Code.wp Try.prog (cF (cS (cS (cS (cS (cS (cS (cS (cS (cS (cS (cS (cS (cS (cS (cS (cS (cS (cS (cS (cS (cS (Try.f36.body.getD Code.skip))))))))))))))))))))))) Q { tmps := #[.pointer (some ⟨x, 0, none⟩), vl, u2, u3, .pointer (some ⟨g4, 0, none⟩), .pointer (some ⟨g5, 0, none⟩), .pointer (some ⟨g6, 0, none⟩), u7, u8, .pointer (some ⟨g9, 0, none⟩), u10, u11, u12, u13, u14, u15, u16, u17, u18, u19, u20, u21, u22, u23, u24, u25, u26, u27, u28, u29, u30, u31, u32, u33, u34, u35, u36, u37, u38, u39, u40, u41, u42, u43, u44, u45, u46, u47, u48, u49, u50, u51, u52, u53, u54, u55, u56, u57, u58, u59, u60, u61, u62, u63, u64, u65, u66, u67, u68, u69, u70, u71, u72, u73, u74, u75, u76, u77, u78, u79, u80, u81, u82, u83, u84, u85, u86, u87, u88, u89, u90, u91, u92, u93, u94, u95, u96, u97, u98, u99, u100, u101, u102, u103, u104, u105, u106, u107, u108, u109, u110, u111, u112, u113, u114, u115, u116, u117, u118, u119, u120, u121, u122, u123, u124, u125, u126], defers := [] } w1 := by
  have HS := Keep.mk hS
  clear hS
  have k4 := HS.out.r4.drew
  have k5 := HS.out.r5.drew
  have k6 := HS.out.o.drew
  have k9 := HS.out.e.drew
  have n64 : g6 ≠ g4 := fun e => HS.out.n46 e.symm
  have n94 : g9 ≠ g4 := blk_ne k9 k4 (by decide)
  have n65 : g6 ≠ g5 := blk_ne k6 k5 (by decide)
  have n95 : g9 ≠ g5 := fun e => HS.out.n59 e.symm
  refine wp_region_held_drew (S := fun wx => wx.rangeAt g6 0 (opL y) ∧ wx.rangeAt g9 0 (erA ew eb).toList) (by kernel_rfl) (⟨blk_range k6, blk_range k9⟩) (fun hHeld => ?_)
  refine wpAnyH_take (i := 0) (oi := ⟨some 125, Op.load 59 (Operand.tmp 6), 59, _, _, none⟩) (v := .agg (opL y).toArray) rfl (by kernel_rfl) (by kernel_rfl) (by kernel_rfl) (fun _ _ _ h => hP _ _ _ _ _ h) (yieldsIf_load_mid (by rfl) 59 (Operand.tmp 6) rfl g6 0 rfl (opL y) _ (fun w hS => hS.1) Try.underlying59 rfl (Try.size59L y)) hHeld ?_
  simp only [Act.put, List.setIfInBounds_toArray, List.set_cons_zero, List.set_cons_succ]
  refine wpAnyH_take (i := 1) (oi := ⟨some 126, Op.load 27 (Operand.tmp 9), 27, _, _, none⟩) (v := .agg (erA ew eb).toList.toArray) rfl (by kernel_rfl) (by kernel_rfl) (by kernel_rfl) (fun _ _ _ h => hP _ _ _ _ _ h) (yieldsIf_load_mid (by rfl) 27 (Operand.tmp 9) rfl g9 0 rfl (erA ew eb).toList _ (fun w hS => hS.2) Try.underlying27 rfl (Try.size27B ew eb)) hHeld ?_
  simp only [Act.put, List.setIfInBounds_toArray, List.set_cons_zero, List.set_cons_succ]
  refine wpAnyH_ready (rs := [2]) (by kernel_rfl) (by simp) ?_
  refine AllReadyH.cons (o := ⟨none, Op.store 59 (Operand.tmp 4) (Operand.tmp 125), 0, _, _, none⟩) rfl (fun K hK => ?_) AllReadyH.nil
  rw [if_pos (by rfl)]
  refine wp_store_row 59 (.tmp 4) (.tmp 125) rfl g4 (opA y) rfl rfl 59 (opA zeroOp) k4 (Try.size59B _) (opA_sizes _ _) (opA_one _) ?_
  refine hK.out _ _ ⟨blk_range (k6.setRow_ne n64 _), blk_range (k9.setRow_ne n94 _)⟩ fun hH2 => ?_
  clear hK
  simp only [Act.put, List.setIfInBounds_toArray, List.set_cons_zero, List.set_cons_succ]
  refine wpAnyH_ready (rs := [3]) (by kernel_rfl) (by simp) ?_
  refine AllReadyH.cons (o := ⟨none, Op.store 27 (Operand.tmp 5) (Operand.tmp 126), 0, _, _, none⟩) rfl (fun K hK => ?_) AllReadyH.nil
  rw [if_pos (by rfl)]
  refine wp_store_row 27 (.tmp 5) (.tmp 126) rfl g5 (erA ew eb) rfl rfl 27 (erA 0 0) (k5.setRow_ne (blk_ne k5 k4 (by decide)) _) (Try.size27B _ _) (erA_sizes _ _ _ _) (erA_one _ _) ?_
  refine hK.out _ _ ⟨blk_range ((k6.setRow_ne n64 _).setRow_ne n65 _), blk_range ((k9.setRow_ne n94 _).setRow_ne n95 _)⟩ fun hH3 => ?_
  clear hK
  simp only [Act.put, List.setIfInBounds_toArray, List.set_cons_zero, List.set_cons_succ]
  refine wpAnyH_done (by kernel_rfl) ?_ _
  exact hQ (.agg (opL y).toArray) (.agg (erA ew eb).toList.toArray) _ ((k4.setRow _).setRow_ne (blk_ne k4 k5 (by decide)) _) ((k5.setRow_ne (blk_ne k5 k4 (by decide)) _).setRow _) (fun G h1 h2 hE hok => OS.done HS.out G h1 h2 rfl rfl hE hok)
end Go.Proofs.Ytkjjlfpghhefcab
namespace Go.Proofs.Ytkjjlfpghhefcab
open Go.RowKit
set_option linter.unusedSimpArgs false

theorem Try.new57 (w : World) : (Instr.alloc 57 true (.tuple #[])).run Try.prog w = .ok (.pointer (some ⟨w.heap.size, 0, none⟩)) (w.alloc (.cells (idA z32 0) 57)) := by kernel_rfl
theorem idA_sizes (c e : List Int) (o p : Int) : (idA c o).size = (idA e p).size := by rw [idA_size, idA_size]
theorem idA_32 (c : List Int) (o : Int) : (idA c o)[32]? = some (.int .i64 o) := by unfold idA; rw [List.getElem?_toArray]; exact idL_op c o
theorem opL_range {w : World} {g of : Nat} {x : OpV} (h : w.rangeAt g of (opL x)) : w.rangeAt g (of + 4) (idA x.node x.op).toList := fun j v hv => by
  have := h (4 + j) v (by rw [← List.getElem?_drop, opL_at]; exact hv)
  rw [← Nat.add_assoc] at this; exact this
set_option maxRecDepth 8000 in
set_option maxHeartbeats 2000000 in
theorem rmay_any (v : Value) (l : List OpV) (i : Nat) (w : World) (hl : OpsAt w v l) (hi : i < l.length) (hb : l.length ≤ 4398046511104) (hok : OpOk (l.getD i zeroOp)) :
    Calls Try.prog 58 #[v, .int .i64 (i : Int)] w fun e w' => e = .returned (.bool (mayAt (l.take i) (l.getD i zeroOp))) ∧ Below w.heap.size w w' := by
  obtain ⟨va, vc, rfl⟩ := hl.form
  obtain ⟨gL, ofL, hva, hr⟩ := hl.at hi
  obtain ⟨R, hR⟩ : ∃ R, R = mayAt (l.take i) (l.getD i zeroOp) := ⟨_, rfl⟩
  rw [← hR]
  generalize l.getD i zeroOp = x at *
  unfold mayAt at hR
  have HM := Keep.mk hR
  have HRx := Keep.mk hr
  have HRi := Keep.mk (opL_range hr)
  have Hi := Keep.mk hi
  have Hlt : Keep ((l.take i).length = i) := ⟨by rw [List.length_take]; omega⟩
  have hi' : (i : Int) < (l.length : Int) := by omega
  have hb' : (l.length : Int) ≤ 4398046511104 := by omega
  have he := run_eqlH x.node z32
  have ho1 := hok.o1
  have ho2 := hok.o2
  have HA := Keep.mk ((Blk.new w 57 (idA z32 0)).setRow (idA x.node x.op))
  have HW1 : Keep (Below w.heap.size w ((w.alloc (.cells (idA z32 0) 57)).setRow w.heap.size (idA x.node x.op))) := ⟨below_setRow (below_new w _) (Nat.le_refl _) _⟩
  have hL1 := hl.below HW1.out
  obtain ⟨w1, hw1⟩ : ∃ w1, Keep ((w.alloc (.cells (idA z32 0) 57)).setRow w.heap.size (idA x.node x.op) = w1) := ⟨_, ⟨rfl⟩⟩
  rw [hw1.out] at HA HW1 hL1
  have HL1 := Keep.mk hL1
  have c32 := HA.out.c 32 (idA_32 _ _)
  have hrx1 := range_grown hr (Grown.below (S := fun _ => False) HW1.out) (fun h => h)
  have ck : w1.cell? ⟨gL, ofL + i * 37, none⟩ = some (.int .i64 x.kind) := hrx1 0 _ (by simp [opL])
  clear hl hi hb hok hr hR hL1 hrx1
  go_enter Try.func58, Try.ntmps58
  refine wp_seq_k fun K1 hK1 => ?_
  refine wp_region_list (WL.out ?_)
  refine WL.val (by kernel_rfl) (.bool false) (by go_simp) ?_
  simp only [Act.put, List.setIfInBounds_toArray, List.set_cons_zero, List.set_cons_succ]
  refine WL.nil ?_
  refine hK1 _ _ ?_
  refine wp_seq_k fun K2 hK2 => ?_
  refine wp_region_list (WL.out ?_)
  refine WL.val (by kernel_rfl) (.slice va l.length vc) (by go_simp) ?_
  simp only [Act.put, List.setIfInBounds_toArray, List.set_cons_zero, List.set_cons_succ]
  refine WL.val (by kernel_rfl) (.int .i64 (i : Int)) (by go_simp) ?_
  simp only [Act.put, List.setIfInBounds_toArray, List.set_cons_zero, List.set_cons_succ]
  refine WL.val (by kernel_rfl) (.pointer (some ⟨gL, ofL + i * 37, none⟩)) (by go_simp) ?_
  simp only [Act.put, List.setIfInBounds_toArray, List.set_cons_zero, List.set_cons_succ]
  refine WL.val (by kernel_rfl) (.pointer (some ⟨gL, ofL + i * 37 + 4, none⟩)) (by go_simp) ?_
  simp only [Act.put, List.setIfInBounds_toArray, List.set_cons_zero, List.set_cons_succ]
  refine WL.midA (by kernel_rfl) 57 (.tmp 11) rfl gL (ofL + i * 37 + 4) rfl (idA x.node x.op) _ HRi.out Try.underlying57 rfl (Try.size57B _ _) ?_
  simp only [Act.put, List.setIfInBounds_toArray, List.set_cons_zero, List.set_cons_succ]
  refine WL.new (by kernel_rfl) 57 rfl _ Try.new57 ?_
  simp only [Act.put, List.setIfInBounds_toArray, List.set_cons_zero, List.set_cons_succ]
  refine WL.storeR (by kernel_rfl) 57 (.tmp 5) (.tmp 12) rfl w.heap.size (idA x.node x.op) rfl rfl 57 (idA z32 0) (Blk.new w 57 _) (Try.size57B _ _) (idA_sizes _ _ _ _) (idA_one _ _) ?_
  rw [hw1.out]
  simp only [Act.put]
  refine WL.nil ?_
  refine hK2 _ _ ?_
  refine wp_seq_k fun K3 hK3 => ?_
  refine wp_region_list (WL.out ?_)
  refine WL.val (by kernel_rfl) (.pointer (some ⟨w.heap.size, 0, none⟩)) (by go_simp) ?_
  simp only [Act.put, List.setIfInBounds_toArray, List.set_cons_zero, List.set_cons_succ]
  refine WL.midA (by kernel_rfl) 55 (.tmp 13) rfl w.heap.size 0 rfl (bytesA 32 (hof x.node)) _ (idA_range HA.out) Try.underlying55 rfl (Try.size55B _) ?_
  simp only [Act.put, List.setIfInBounds_toArray, List.set_cons_zero, List.set_cons_succ]
  refine WL.bld (by kernel_rfl) 55 _ rfl [] (by simp) (bytesA 32 (hof z32)) Try.built55 ?_
  simp only [Act.put, List.setIfInBounds_toArray, List.set_cons_zero, List.set_cons_succ]
  rcases Bool.eq_false_or_eq_true (nd x.node z32) with h2_3 | h2_3
  · rw [h2_3] at he HM
    refine WL.val (by kernel_rfl) (.bool true) (by go_simp) ?_
    simp only [Act.put, List.setIfInBounds_toArray, List.set_cons_zero, List.set_cons_succ]
    refine WL.val (by kernel_rfl) (.bool true) (by go_simp) ?_
    simp only [Act.put, List.setIfInBounds_toArray, List.set_cons_zero, List.set_cons_succ]
    refine WL.nil ?_
    refine hK3 _ _ ?_
    refine wp_seq_k fun K4 hK4 => ?_
    refine wp_block ?_
    refine wp_seq_k fun K5 hK5 => ?_
    refine wp_region_list (WL.out ?_)
    refine WL.val (by kernel_rfl) (.bool true) (by go_simp) ?_
    simp only [Act.put, List.setIfInBounds_toArray, List.set_cons_zero, List.set_cons_succ]
    refine WL.val (by kernel_rfl) (.bool true) (by go_simp) ?_
    simp only [Act.put, List.setIfInBounds_toArray, List.set_cons_zero, List.set_cons_succ]
    refine WL.val (by kernel_rfl) (.pointer (some ⟨w.heap.size, 32, none⟩)) (by go_simp) ?_
    simp only [Act.put, List.setIfInBounds_toArray, List.set_cons_zero, List.set_cons_succ]
    refine WL.val (by kernel_rfl) (.int .i64 x.op) (by go_simp) ?_
    simp only [Act.put, List.setIfInBounds_toArray, List.set_cons_zero, List.set_cons_succ]
    by_cases h3_4 : x.op = 0
    · skip
      refine WL.val (by kernel_rfl) (.bool true) (by go_simp) ?_
      simp only [Act.put, List.setIfInBounds_toArray, List.set_cons_zero, List.set_cons_succ]
      refine WL.val (by kernel_rfl) (.bool true) (by go_simp) ?_
      simp only [Act.put, List.setIfInBounds_toArray, List.set_cons_zero, List.set_cons_succ]
      refine WL.val (by kernel_rfl) (.bool true) (by go_simp) ?_
      simp only [Act.put, List.setIfInBounds_toArray, List.set_cons_zero, List.set_cons_succ]
      refine WL.nil ?_
      refine hK5 _ _ ?_
      refine wp_cond_true rfl ?_
      refine wp_seq_k fun K6 hK6 => ?_
      refine wp_region_list (WL.out ?_)
      refine WL.val (by kernel_rfl) (.slice va l.length vc) (by go_simp) ?_
      simp only [Act.put, List.setIfInBounds_toArray, List.set_cons_zero, List.set_cons_succ]
      refine WL.val (by kernel_rfl) (.int .i64 (i : Int)) (by go_simp) ?_
      simp only [Act.put, List.setIfInBounds_toArray, List.set_cons_zero, List.set_cons_succ]
      refine WL.val (by kernel_rfl) (.pointer (some ⟨gL, ofL + i * 37, none⟩)) (by go_simp) ?_
      simp only [Act.put, List.setIfInBounds_toArray, List.set_cons_zero, List.set_cons_succ]
      refine WL.val (by kernel_rfl) (.pointer (some ⟨gL, ofL + i * 37, none⟩)) (by go_simp) ?_
      simp only [Act.put, List.setIfInBounds_toArray, List.set_cons_zero, List.set_cons_succ]
      refine WL.val (by kernel_rfl) (.int .i64 x.kind) (by go_simp) ?_
      simp only [Act.put, List.setIfInBounds_toArray, List.set_cons_zero, List.set_cons_succ]
      refine WL.val (by kernel_rfl) (.bool (x.kind == 8)) (by go_simp) ?_
      simp only [Act.put, List.setIfInBounds_toArray, List.set_cons_zero, List.set_cons_succ]
      refine WL.val (by kernel_rfl) (.bool (x.kind == 8)) (by go_simp) ?_
      simp only [Act.put, List.setIfInBounds_toArray, List.set_cons_zero, List.set_cons_succ]
      refine WL.nil ?_
      refine hK6 _ _ ?_
      refine wp_ret ?_
      go_ret
      exact ⟨by rw [HM.out, if_pos (by simp; omega)]; rfl, HW1.out⟩
    · skip
      refine WL.val (by kernel_rfl) (.bool false) (by go_simp) ?_
      simp only [Act.put, List.setIfInBounds_toArray, List.set_cons_zero, List.set_cons_succ]
      refine WL.val (by kernel_rfl) (.bool false) (by go_simp) ?_
      simp only [Act.put, List.setIfInBounds_toArray, List.set_cons_zero, List.set_cons_succ]
      refine WL.val (by kernel_rfl) (.bool false) (by go_simp) ?_
      simp only [Act.put, List.setIfInBounds_toArray, List.set_cons_zero, List.set_cons_succ]
      refine WL.nil ?_
      refine hK5 _ _ ?_
      refine wp_cond_false rfl ?_
      refine wp_seq_k fun K7 hK7 => ?_
      refine wp_region_list (WL.out ?_)
      refine WL.val (by kernel_rfl) (.bool true) (by go_simp) ?_
      simp only [Act.put, List.setIfInBounds_toArray, List.set_cons_zero, List.set_cons_succ]
      refine WL.val (by kernel_rfl) (.bool true) (by go_simp) ?_
      simp only [Act.put, List.setIfInBounds_toArray, List.set_cons_zero, List.set_cons_succ]
      refine WL.val (by kernel_rfl) (.pointer (some ⟨w.heap.size, 32, none⟩)) (by go_simp) ?_
      simp only [Act.put, List.setIfInBounds_toArray, List.set_cons_zero, List.set_cons_succ]
      refine WL.val (by kernel_rfl) (.int .i64 x.op) (by go_simp) ?_
      simp only [Act.put, List.setIfInBounds_toArray, List.set_cons_zero, List.set_cons_succ]
      by_cases h5_4 : 1 ≤ x.op
      · skip
        refine WL.val (by kernel_rfl) (.bool true) (by go_simp) ?_
        simp only [Act.put, List.setIfInBounds_toArray, List.set_cons_zero, List.set_cons_succ]
        refine WL.val (by kernel_rfl) (.bool true) (by go_simp) ?_
        simp only [Act.put, List.setIfInBounds_toArray, List.set_cons_zero, List.set_cons_succ]
        refine WL.val (by kernel_rfl) (.bool true) (by go_simp) ?_
        simp only [Act.put, List.setIfInBounds_toArray, List.set_cons_zero, List.set_cons_succ]
        refine WL.val (by kernel_rfl) (.pointer (some ⟨w.heap.size, 32, none⟩)) (by go_simp) ?_
        simp only [Act.put, List.setIfInBounds_toArray, List.set_cons_zero, List.set_cons_succ]
        refine WL.val (by kernel_rfl) (.int .i64 x.op) (by go_simp) ?_
        simp only [Act.put, List.setIfInBounds_toArray, List.set_cons_zero, List.set_cons_succ]
        refine WL.val (by kernel_rfl) (.int .i64 (i : Int)) (by go_simp) ?_
        simp only [Act.put, List.setIfInBounds_toArray, List.set_cons_zero, List.set_cons_succ]
        by_cases h5_10 : x.op ≤ (i : Int)
        · skip
          refine WL.val (by kernel_rfl) (.bool true) (by go_simp) ?_
          simp only [Act.put, List.setIfInBounds_toArray, List.set_cons_zero, List.set_cons_succ]
          refine WL.val (by kernel_rfl) (.bool true) (by go_simp) ?_
          simp only [Act.put, List.setIfInBounds_toArray, List.set_cons_zero, List.set_cons_succ]
          refine WL.val (by kernel_rfl) (.bool true) (by go_simp) ?_
          simp only [Act.put, List.setIfInBounds_toArray, List.set_cons_zero, List.set_cons_succ]
          refine WL.nil ?_
          refine hK7 _ _ ?_
          refine wp_cond_true rfl ?_
          refine wp_seq_k fun K8 hK8 => ?_
          refine wp_region_list (WL.out ?_)
          refine WL.val (by kernel_rfl) (.slice va l.length vc) (by go_simp) ?_
          simp only [Act.put, List.setIfInBounds_toArray, List.set_cons_zero, List.set_cons_succ]
          refine WL.val (by kernel_rfl) (.pointer (some ⟨w.heap.size, 32, none⟩)) (by go_simp) ?_
          simp only [Act.put, List.setIfInBounds_toArray, List.set_cons_zero, List.set_cons_succ]
          refine WL.val (by kernel_rfl) (.int .i64 x.op) (by go_simp) ?_
          simp only [Act.put, List.setIfInBounds_toArray, List.set_cons_zero, List.set_cons_succ]
          have hws : IntKind.i64.wrap (x.op - 1) = x.op - 1 := by rw [IntKind.wrap_i64]; omega
          refine WL.val (by kernel_rfl) (.int .i64 (x.op - 1)) (by go_simp) ?_
          simp only [Act.put, List.setIfInBounds_toArray, List.set_cons_zero, List.set_cons_succ]
          obtain ⟨t, ht⟩ : ∃ t : Nat, x.op = (t : Int) + 1 := ⟨(x.op - 1).toNat, by omega⟩
          have hti : t < i := by omega
          obtain ⟨g2, of2, hva2, hr2⟩ := HL1.out.at (show t < l.length by have := Hi.out; omega)
          obtain ⟨e1, e2⟩ : g2 = gL ∧ of2 = ofL := by rw [hva] at hva2; simp at hva2; exact ⟨hva2.1.symm, hva2.2.symm⟩
          subst e1 e2
          have htn : (x.op - 1) = (t : Int) := by omega
          rw [show x.op - 1 = (t : Int) from htn]
          have HR2 := Keep.mk hr2
          obtain ⟨it, hit⟩ : ∃ it, Keep (it = l.getD t zeroOp) := ⟨_, ⟨rfl⟩⟩
          rw [← hit.out] at HR2
          have hlt : t < l.length := by have := Hi.out; omega
          have hlt' : (t : Int) < (l.length : Int) := by omega
          clear hr2 hva2 htn
          refine WL.val (by kernel_rfl) (.pointer (some ⟨g2, of2 + t * 37, none⟩)) (by go_simp) ?_
          simp only [Act.put, List.setIfInBounds_toArray, List.set_cons_zero, List.set_cons_succ]
          refine WL.mid (by kernel_rfl) 59 (.tmp 47) rfl g2 (of2 + t * 37) rfl (opL it) _ HR2.out Try.underlying59 rfl (Try.size59L it) ?_
          rw [rng_load]
          simp only [Act.put, List.setIfInBounds_toArray, List.set_cons_zero, List.set_cons_succ]
          refine WL.new (by kernel_rfl) 59 rfl _ Try.new59 ?_
          simp only [Act.put, List.setIfInBounds_toArray, List.set_cons_zero, List.set_cons_succ]
          refine WL.storeR (by kernel_rfl) 59 (.tmp 7) (.tmp 48) rfl w1.heap.size (opA it) rfl rfl 59 (opA zeroOp) (Blk.new w1 59 _) (Try.size59B it) (opA_sizes _ _) (opA_one it) ?_
          have HX := Keep.mk ((Blk.new w1 59 (opA zeroOp)).setRow (opA it))
          have HG : Keep (Below w1.heap.size w1 ((w1.alloc (.cells (opA zeroOp) 59)).setRow w1.heap.size (opA it))) := ⟨below_setRow (below_new w1 _) (Nat.le_refl _) _⟩
          generalize (w1.alloc (.cells (opA zeroOp) 59)).setRow w1.heap.size (opA it) = w2 at *
          have HS2 : Keep (w2.drew.cell? ⟨w1.heap.size, 0, none⟩ = some (.int .i64 it.kind) ∧ w2.drew.cell? ⟨w1.heap.size, 1, none⟩ = some (.string it.key) ∧ w2.drew.cell? ⟨g2, of2 + i * 37 + 1, none⟩ = some (.string x.key)) := ⟨HX.out.drew.c 0 (opA_0 it), HX.out.drew.c 1 (opA_1 it), by
            have h := range_grown HRx.out (Grown.below (S := fun _ => False) ((HW1.out.trans (HG.out.mono HW1.out.size)))) (fun h => h)
            exact h 1 _ (by simp [opL])⟩
          simp only [Act.put]
          refine WL.nil ?_
          refine hK8 _ _ ?_
          refine wp_seq_k fun K9 hK9 => ?_
          by_cases hk8 : it.kind = 8
          · skip
            refine wp_region_held_drew (S := fun wx => wx.cell? ⟨w1.heap.size, 0, none⟩ = some (.int .i64 it.kind) ∧ wx.cell? ⟨w1.heap.size, 1, none⟩ = some (.string it.key) ∧ wx.cell? ⟨g2, of2 + i * 37 + 1, none⟩ = some (.string x.key)) (by kernel_rfl) (HS2.out) (fun hHeld => ?_)
            refine wpAnyH_take (i := 0) (oi := ⟨some 49, Op.fieldAddr 59 (Operand.tmp 7) 0, 0, _, _, none⟩) (v := .pointer (some ⟨w1.heap.size, 0, none⟩)) rfl (by kernel_rfl) (by kernel_rfl) (by kernel_rfl) (fun _ _ _ h => h) (Or.inl ⟨by rfl, fun w hS => by obtain ⟨hs1, hs2, hs3⟩ := hS; go_simp⟩) hHeld ?_
            simp only [Act.put, List.setIfInBounds_toArray, List.set_cons_zero, List.set_cons_succ]
            refine wpAnyH_take (i := 1) (oi := ⟨some 50, Op.load 3 (Operand.tmp 49), 3, _, _, none⟩) (v := .int .i64 it.kind) rfl (by kernel_rfl) (by kernel_rfl) (by kernel_rfl) (fun _ _ _ h => h) (Or.inl ⟨by rfl, fun w hS => by obtain ⟨hs1, hs2, hs3⟩ := hS; go_simp⟩) hHeld ?_
            simp only [Act.put, List.setIfInBounds_toArray, List.set_cons_zero, List.set_cons_succ]
            refine wpAnyH_take (i := 2) (oi := ⟨some 51, Op.binOp BinOp.eql 3 (Operand.tmp 50) (Operand.const (Value.int IntKind.i64 8)) 3, 4, _, _, none⟩) (v := .bool true) rfl (by kernel_rfl) (by kernel_rfl) (by kernel_rfl) (fun _ _ _ h => h) (Or.inl ⟨by rfl, fun w hS => by obtain ⟨hs1, hs2, hs3⟩ := hS; go_simp⟩) hHeld ?_
            simp only [Act.put, List.setIfInBounds_toArray, List.set_cons_zero, List.set_cons_succ]
            refine wpAnyH_take (i := 3) (oi := ⟨some 52, Op.move (Operand.tmp 51), 4, _, _, none⟩) (v := .bool true) rfl (by kernel_rfl) (by kernel_rfl) (by kernel_rfl) (fun _ _ _ h => h) (Or.inl ⟨by rfl, fun w hS => by obtain ⟨hs1, hs2, hs3⟩ := hS; go_simp⟩) hHeld ?_
            simp only [Act.put, List.setIfInBounds_toArray, List.set_cons_zero, List.set_cons_succ]
            refine wpAnyH_take (i := 4) (oi := ⟨some 53, Op.fieldAddr 59 (Operand.tmp 7) 1, 0, _, _, some (3, true)⟩) (v := .pointer (some ⟨w1.heap.size, 1, none⟩)) rfl (by kernel_rfl) (by kernel_rfl) (by kernel_rfl) (fun _ _ _ h => h) (Or.inl ⟨by rfl, fun w hS => by obtain ⟨hs1, hs2, hs3⟩ := hS; go_simp⟩) hHeld ?_
            simp only [Act.put, List.setIfInBounds_toArray, List.set_cons_zero, List.set_cons_succ]
            refine wpAnyH_take (i := 5) (oi := ⟨some 54, Op.load 9 (Operand.tmp 53), 9, _, _, some (3, true)⟩) (v := .string it.key) rfl (by kernel_rfl) (by kernel_rfl) (by kernel_rfl) (fun _ _ _ h => h) (Or.inl ⟨by rfl, fun w hS => by obtain ⟨hs1, hs2, hs3⟩ := hS; go_simp⟩) hHeld ?_
            simp only [Act.put, List.setIfInBounds_toArray, List.set_cons_zero, List.set_cons_succ]
            refine wpAnyH_take (i := 6) (oi := ⟨some 55, Op.move (Operand.tmp 0), 36, _, _, some (3, true)⟩) (v := .slice va l.length vc) rfl (by kernel_rfl) (by kernel_rfl) (by kernel_rfl) (fun _ _ _ h => h) (Or.inl ⟨by rfl, fun w hS => by obtain ⟨hs1, hs2, hs3⟩ := hS; go_simp⟩) hHeld ?_
            simp only [Act.put, List.setIfInBounds_toArray, List.set_cons_zero, List.set_cons_succ]
            refine wpAnyH_take (i := 7) (oi := ⟨some 56, Op.move (Operand.tmp 1), 3, _, _, some (3, true)⟩) (v := .int .i64 (i : Int)) rfl (by kernel_rfl) (by kernel_rfl) (by kernel_rfl) (fun _ _ _ h => h) (Or.inl ⟨by rfl, fun w hS => by obtain ⟨hs1, hs2, hs3⟩ := hS; go_simp⟩) hHeld ?_
            simp only [Act.put, List.setIfInBounds_toArray, List.set_cons_zero, List.set_cons_succ]
            refine wpAnyH_take (i := 8) (oi := ⟨some 57, Op.indexAddr 36 (Operand.tmp 55) (Operand.tmp 56), 0, _, _, some (3, true)⟩) (v := .pointer (some ⟨g2, of2 + i * 37, none⟩)) rfl (by kernel_rfl) (by kernel_rfl) (by kernel_rfl) (fun _ _ _ h => h) (Or.inl ⟨by rfl, fun w hS => by obtain ⟨hs1, hs2, hs3⟩ := hS; go_simp⟩) hHeld ?_
            simp only [Act.put, List.setIfInBounds_toArray, List.set_cons_zero, List.set_cons_succ]
            refine wpAnyH_take (i := 9) (oi := ⟨some 58, Op.fieldAddr 59 (Operand.tmp 57) 1, 0, _, _, some (3, true)⟩) (v := .pointer (some ⟨g2, of2 + i * 37 + 1, none⟩)) rfl (by kernel_rfl) (by kernel_rfl) (by kernel_rfl) (fun _ _ _ h => h) (Or.inl ⟨by rfl, fun w hS => by obtain ⟨hs1, hs2, hs3⟩ := hS; go_simp⟩) hHeld ?_
            simp only [Act.put, List.setIfInBounds_toArray, List.set_cons_zero, List.set_cons_succ]
            refine wpAnyH_take (i := 10) (oi := ⟨some 59, Op.load 9 (Operand.tmp 58), 9, _, _, some (3, true)⟩) (v := .string x.key) rfl (by kernel_rfl) (by kernel_rfl) (by kernel_rfl) (fun _ _ _ h => h) (Or.inl ⟨by rfl, fun w hS => by obtain ⟨hs1, hs2, hs3⟩ := hS; go_simp⟩) hHeld ?_
            simp only [Act.put, List.setIfInBounds_toArray, List.set_cons_zero, List.set_cons_succ]
            refine wpAnyH_take (i := 11) (oi := ⟨some 60, Op.binOp BinOp.eql 9 (Operand.tmp 54) (Operand.tmp 59) 9, 4, _, _, some (3, true)⟩) (v := .bool (it.key.toList == x.key.toList)) rfl (by kernel_rfl) (by kernel_rfl) (by kernel_rfl) (fun _ _ _ h => h) (Or.inl ⟨by rfl, fun w hS => by obtain ⟨hs1, hs2, hs3⟩ := hS; go_simp⟩) hHeld ?_
            simp only [Act.put, List.setIfInBounds_toArray, List.set_cons_zero, List.set_cons_succ]
            refine wpAnyH_take (i := 12) (oi := ⟨some 61, Op.pick (Operand.tmp 52) (Operand.tmp 60) (Operand.const (Value.bool false)), 4, _, _, none⟩) (v := .bool (it.key.toList == x.key.toList)) rfl (by kernel_rfl) (by kernel_rfl) (by kernel_rfl) (fun _ _ _ h => h) (Or.inl ⟨by rfl, fun w hS => by obtain ⟨hs1, hs2, hs3⟩ := hS; go_simp⟩) hHeld ?_
            simp only [Act.put, List.setIfInBounds_toArray, List.set_cons_zero, List.set_cons_succ]
            refine wpAnyH_take (i := 13) (oi := ⟨some 4, Op.assign (Operand.tmp 61), 4, _, _, none⟩) (v := .bool (it.key.toList == x.key.toList)) rfl (by kernel_rfl) (by kernel_rfl) (by kernel_rfl) (fun _ _ _ h => h) (Or.inl ⟨by rfl, fun w hS => by obtain ⟨hs1, hs2, hs3⟩ := hS; go_simp⟩) hHeld ?_
            simp only [Act.put, List.setIfInBounds_toArray, List.set_cons_zero, List.set_cons_succ]
            refine wpAnyH_done (by kernel_rfl) ?_ _
            refine hK9 _ _ ?_
            refine wp_ret ?_
            go_ret
            have e : (x.op - 1).toNat = t := by omega
            have hgt : (l.take i).getD t zeroOp = it := by rw [hit.out]; simp [List.getD_eq_getElem?_getD, hti, List.getElem?_take]
            exact ⟨by rw [HM.out, if_neg (by simp; omega), if_neg (by simp), if_neg (by have := Hlt.out; omega), e, hgt, hk8, beq_toListBytes]; rfl, HW1.out.trans ((HG.out.drew).mono HW1.out.size)⟩
          · skip
            refine wp_region_held_drew (S := fun wx => wx.cell? ⟨w1.heap.size, 0, none⟩ = some (.int .i64 it.kind) ∧ wx.cell? ⟨w1.heap.size, 1, none⟩ = some (.string it.key) ∧ wx.cell? ⟨g2, of2 + i * 37 + 1, none⟩ = some (.string x.key)) (by kernel_rfl) (HS2.out) (fun hHeld => ?_)
            refine wpAnyH_take (i := 0) (oi := ⟨some 49, Op.fieldAddr 59 (Operand.tmp 7) 0, 0, _, _, none⟩) (v := .pointer (some ⟨w1.heap.size, 0, none⟩)) rfl (by kernel_rfl) (by kernel_rfl) (by kernel_rfl) (fun _ _ _ h => h) (Or.inl ⟨by rfl, fun w hS => by obtain ⟨hs1, hs2, hs3⟩ := hS; go_simp⟩) hHeld ?_
            simp only [Act.put, List.setIfInBounds_toArray, List.set_cons_zero, List.set_cons_succ]
            refine wpAnyH_take (i := 1) (oi := ⟨some 50, Op.load 3 (Operand.tmp 49), 3, _, _, none⟩) (v := .int .i64 it.kind) rfl (by kernel_rfl) (by kernel_rfl) (by kernel_rfl) (fun _ _ _ h => h) (Or.inl ⟨by rfl, fun w hS => by obtain ⟨hs1, hs2, hs3⟩ := hS; go_simp⟩) hHeld ?_
            simp only [Act.put, List.setIfInBounds_toArray, List.set_cons_zero, List.set_cons_succ]
            refine wpAnyH_take (i := 2) (oi := ⟨some 51, Op.binOp BinOp.eql 3 (Operand.tmp 50) (Operand.const (Value.int IntKind.i64 8)) 3, 4, _, _, none⟩) (v := .bool false) rfl (by kernel_rfl) (by kernel_rfl) (by kernel_rfl) (fun _ _ _ h => h) (Or.inl ⟨by rfl, fun w hS => by obtain ⟨hs1, hs2, hs3⟩ := hS; go_simp⟩) hHeld ?_
            simp only [Act.put, List.setIfInBounds_toArray, List.set_cons_zero, List.set_cons_succ]
            refine wpAnyH_take (i := 3) (oi := ⟨some 52, Op.move (Operand.tmp 51), 4, _, _, none⟩) (v := .bool false) rfl (by kernel_rfl) (by kernel_rfl) (by kernel_rfl) (fun _ _ _ h => h) (Or.inl ⟨by rfl, fun w hS => by obtain ⟨hs1, hs2, hs3⟩ := hS; go_simp⟩) hHeld ?_
            simp only [Act.put, List.setIfInBounds_toArray, List.set_cons_zero, List.set_cons_succ]
            refine wpAnyH_take (i := 4) (oi := ⟨some 53, Op.fieldAddr 59 (Operand.tmp 7) 1, 0, _, _, some (3, true)⟩) (v := undef) rfl (by kernel_rfl) (by kernel_rfl) (by kernel_rfl) (fun _ _ _ h => h) (Or.inr ⟨by rfl, rfl⟩) hHeld ?_
            simp only [Act.put, List.setIfInBounds_toArray, List.set_cons_zero, List.set_cons_succ]
            refine wpAnyH_take (i := 5) (oi := ⟨some 54, Op.load 9 (Operand.tmp 53), 9, _, _, some (3, true)⟩) (v := undef) rfl (by kernel_rfl) (by kernel_rfl) (by kernel_rfl) (fun _ _ _ h => h) (Or.inr ⟨by rfl, rfl⟩) hHeld ?_
            simp only [Act.put, List.setIfInBounds_toArray, List.set_cons_zero, List.set_cons_succ]
            refine wpAnyH_take (i := 6) (oi := ⟨some 55, Op.move (Operand.tmp 0), 36, _, _, some (3, true)⟩) (v := undef) rfl (by kernel_rfl) (by kernel_rfl) (by kernel_rfl) (fun _ _ _ h => h) (Or.inr ⟨by rfl, rfl⟩) hHeld ?_
            simp only [Act.put, List.setIfInBounds_toArray, List.set_cons_zero, List.set_cons_succ]
            refine wpAnyH_take (i := 7) (oi := ⟨some 56, Op.move (Operand.tmp 1), 3, _, _, some (3, true)⟩) (v := undef) rfl (by kernel_rfl) (by kernel_rfl) (by kernel_rfl) (fun _ _ _ h => h) (Or.inr ⟨by rfl, rfl⟩) hHeld ?_
            simp only [Act.put, List.setIfInBounds_toArray, List.set_cons_zero, List.set_cons_succ]
            refine wpAnyH_take (i := 8) (oi := ⟨some 57, Op.indexAddr 36 (Operand.tmp 55) (Operand.tmp 56), 0, _, _, some (3, true)⟩) (v := undef) rfl (by kernel_rfl) (by kernel_rfl) (by kernel_rfl) (fun _ _ _ h => h) (Or.inr ⟨by rfl, rfl⟩) hHeld ?_
            simp only [Act.put, List.setIfInBounds_toArray, List.set_cons_zero, List.set_cons_succ]
            refine wpAnyH_take (i := 9) (oi := ⟨some 58, Op.fieldAddr 59 (Operand.tmp 57) 1, 0, _, _, some (3, true)⟩) (v := undef) rfl (by kernel_rfl) (by kernel_rfl) (by kernel_rfl) (fun _ _ _ h => h) (Or.inr ⟨by rfl, rfl⟩) hHeld ?_
            simp only [Act.put, List.setIfInBounds_toArray, List.set_cons_zero, List.set_cons_succ]
            refine wpAnyH_take (i := 10) (oi := ⟨some 59, Op.load 9 (Operand.tmp 58), 9, _, _, some (3, true)⟩) (v := undef) rfl (by kernel_rfl) (by kernel_rfl) (by kernel_rfl) (fun _ _ _ h => h) (Or.inr ⟨by rfl, rfl⟩) hHeld ?_
            simp only [Act.put, List.setIfInBounds_toArray, List.set_cons_zero, List.set_cons_succ]
            refine wpAnyH_take (i := 11) (oi := ⟨some 60, Op.binOp BinOp.eql 9 (Operand.tmp 54) (Operand.tmp 59) 9, 4, _, _, some (3, true)⟩) (v := undef) rfl (by kernel_rfl) (by kernel_rfl) (by kernel_rfl) (fun _ _ _ h => h) (Or.inr ⟨by rfl, rfl⟩) hHeld ?_
            simp only [Act.put, List.setIfInBounds_toArray, List.set_cons_zero, List.set_cons_succ]
            refine wpAnyH_take (i := 12) (oi := ⟨some 61, Op.pick (Operand.tmp 52) (Operand.tmp 60) (Operand.const (Value.bool false)), 4, _, _, none⟩) (v := .bool false) rfl (by kernel_rfl) (by kernel_rfl) (by kernel_rfl) (fun _ _ _ h => h) (Or.inl ⟨by rfl, fun w hS => by obtain ⟨hs1, hs2, hs3⟩ := hS; go_simp⟩) hHeld ?_
            simp only [Act.put, List.setIfInBounds_toArray, List.set_cons_zero, List.set_cons_succ]
            refine wpAnyH_take (i := 13) (oi := ⟨some 4, Op.assign (Operand.tmp 61), 4, _, _, none⟩) (v := .bool false) rfl (by kernel_rfl) (by kernel_rfl) (by kernel_rfl) (fun _ _ _ h => h) (Or.inl ⟨by rfl, fun w hS => by obtain ⟨hs1, hs2, hs3⟩ := hS; go_simp⟩) hHeld ?_
            simp only [Act.put, List.setIfInBounds_toArray, List.set_cons_zero, List.set_cons_succ]
            refine wpAnyH_done (by kernel_rfl) ?_ _
            refine hK9 _ _ ?_
            refine wp_ret ?_
            go_ret
            have e : (x.op - 1).toNat = t := by omega
            have hgt : (l.take i).getD t zeroOp = it := by rw [hit.out]; simp [List.getD_eq_getElem?_getD, hti, List.getElem?_take]
            exact ⟨by rw [HM.out, if_neg (by simp; omega), if_neg (by simp), if_neg (by have := Hlt.out; omega), e, hgt, show (it.kind == 8) = false by simpa using hk8]; rfl, HW1.out.trans ((HG.out.drew).mono HW1.out.size)⟩
        · skip
          refine WL.val (by kernel_rfl) (.bool false) (by go_simp) ?_
          simp only [Act.put, List.setIfInBounds_toArray, List.set_cons_zero, List.set_cons_succ]
          refine WL.val (by kernel_rfl) (.bool false) (by go_simp) ?_
          simp only [Act.put, List.setIfInBounds_toArray, List.set_cons_zero, List.set_cons_succ]
          refine WL.val (by kernel_rfl) (.bool false) (by go_simp) ?_
          simp only [Act.put, List.setIfInBounds_toArray, List.set_cons_zero, List.set_cons_succ]
          refine WL.nil ?_
          refine hK7 _ _ ?_
          refine wp_cond_false rfl ?_
          refine wp_seq_k fun K10 hK10 => ?_
          refine wp_region_list (WL.out ?_)
          refine WL.val (by kernel_rfl) (.bool true) (by go_simp) ?_
          simp only [Act.put, List.setIfInBounds_toArray, List.set_cons_zero, List.set_cons_succ]
          refine WL.val (by kernel_rfl) (.bool true) (by go_simp) ?_
          simp only [Act.put, List.setIfInBounds_toArray, List.set_cons_zero, List.set_cons_succ]
          refine WL.nil ?_
          refine hK10 _ _ ?_
          refine wp_cond_true rfl ?_
          refine wp_seq_k fun K11 hK11 => ?_
          refine wp_region_list (WL.out ?_)
          refine WL.val (by kernel_rfl) (.bool false) (by go_simp) ?_
          simp only [Act.put, List.setIfInBounds_toArray, List.set_cons_zero, List.set_cons_succ]
          refine WL.nil ?_
          refine hK11 _ _ ?_
          refine wp_ret ?_
          go_ret
          exact ⟨by rw [HM.out, if_neg (by simp; omega), if_neg (by simp), if_pos (by have := Hlt.out; omega)]; rfl, HW1.out⟩
      · skip
        refine WL.val (by kernel_rfl) (.bool false) (by go_simp) ?_
        simp only [Act.put, List.setIfInBounds_toArray, List.set_cons_zero, List.set_cons_succ]
        refine WL.val (by kernel_rfl) (.bool false) (by go_simp) ?_
        simp only [Act.put, List.setIfInBounds_toArray, List.set_cons_zero, List.set_cons_succ]
        refine WL.val (by kernel_rfl) (.bool false) (by go_simp) ?_
        simp only [Act.put, List.setIfInBounds_toArray, List.set_cons_zero, List.set_cons_succ]
        refine WL.skip (by kernel_rfl) ?_
        simp only [Act.put, List.setIfInBounds_toArray, List.set_cons_zero, List.set_cons_succ]
        refine WL.skip (by kernel_rfl) ?_
        simp only [Act.put, List.setIfInBounds_toArray, List.set_cons_zero, List.set_cons_succ]
        refine WL.skip (by kernel_rfl) ?_
        simp only [Act.put, List.setIfInBounds_toArray, List.set_cons_zero, List.set_cons_succ]
        refine WL.skip (by kernel_rfl) ?_
        simp only [Act.put, List.setIfInBounds_toArray, List.set_cons_zero, List.set_cons_succ]
        refine WL.val (by kernel_rfl) (.bool false) (by go_simp) ?_
        simp only [Act.put, List.setIfInBounds_toArray, List.set_cons_zero, List.set_cons_succ]
        refine WL.val (by kernel_rfl) (.bool false) (by go_simp) ?_
        simp only [Act.put, List.setIfInBounds_toArray, List.set_cons_zero, List.set_cons_succ]
        refine WL.nil ?_
        refine hK7 _ _ ?_
        refine wp_cond_false rfl ?_
        refine wp_seq_k fun K12 hK12 => ?_
        refine wp_region_list (WL.out ?_)
        refine WL.val (by kernel_rfl) (.bool true) (by go_simp) ?_
        simp only [Act.put, List.setIfInBounds_toArray, List.set_cons_zero, List.set_cons_succ]
        refine WL.val (by kernel_rfl) (.bool true) (by go_simp) ?_
        simp only [Act.put, List.setIfInBounds_toArray, List.set_cons_zero, List.set_cons_succ]
        refine WL.nil ?_
        refine hK12 _ _ ?_
        refine wp_cond_true rfl ?_
        refine wp_seq_k fun K13 hK13 => ?_
        refine wp_region_list (WL.out ?_)
        refine WL.val (by kernel_rfl) (.bool false) (by go_simp) ?_
        simp only [Act.put, List.setIfInBounds_toArray, List.set_cons_zero, List.set_cons_succ]
        refine WL.nil ?_
        refine hK13 _ _ ?_
        refine wp_ret ?_
        go_ret
        exact ⟨by rw [HM.out, if_neg (by simp; omega), if_neg (by simp), if_pos (by have := Hlt.out; omega)]; rfl, HW1.out⟩
  · rw [h2_3] at he HM
    refine WL.val (by kernel_rfl) (.bool false) (by go_simp) ?_
    simp only [Act.put, List.setIfInBounds_toArray, List.set_cons_zero, List.set_cons_succ]
    refine WL.val (by kernel_rfl) (.bool false) (by go_simp) ?_
    simp only [Act.put, List.setIfInBounds_toArray, List.set_cons_zero, List.set_cons_succ]
    refine WL.nil ?_
    refine hK3 _ _ ?_
    refine wp_seq_k fun K14 hK14 => ?_
    refine wp_block ?_
    refine wp_seq_k fun K15 hK15 => ?_
    refine wp_region_list (WL.out ?_)
    refine WL.val (by kernel_rfl) (.bool false) (by go_simp) ?_
    simp only [Act.put, List.setIfInBounds_toArray, List.set_cons_zero, List.set_cons_succ]
    refine WL.val (by kernel_rfl) (.bool false) (by go_simp) ?_
    simp only [Act.put, List.setIfInBounds_toArray, List.set_cons_zero, List.set_cons_succ]
    refine WL.skip (by kernel_rfl) ?_
    simp only [Act.put, List.setIfInBounds_toArray, List.set_cons_zero, List.set_cons_succ]
    refine WL.skip (by kernel_rfl) ?_
    simp only [Act.put, List.setIfInBounds_toArray, List.set_cons_zero, List.set_cons_succ]
    refine WL.skip (by kernel_rfl) ?_
    simp only [Act.put, List.setIfInBounds_toArray, List.set_cons_zero, List.set_cons_succ]
    refine WL.val (by kernel_rfl) (.bool false) (by go_simp) ?_
    simp only [Act.put, List.setIfInBounds_toArray, List.set_cons_zero, List.set_cons_succ]
    refine WL.val (by kernel_rfl) (.bool false) (by go_simp) ?_
    simp only [Act.put, List.setIfInBounds_toArray, List.set_cons_zero, List.set_cons_succ]
    refine WL.nil ?_
    refine hK15 _ _ ?_
    refine wp_cond_false rfl ?_
    refine wp_seq_k fun K16 hK16 => ?_
    refine wp_region_list (WL.out ?_)
    refine WL.val (by kernel_rfl) (.bool false) (by go_simp) ?_
    simp only [Act.put, List.setIfInBounds_toArray, List.set_cons_zero, List.set_cons_succ]
    refine WL.val (by kernel_rfl) (.bool false) (by go_simp) ?_
    simp only [Act.put, List.setIfInBounds_toArray, List.set_cons_zero, List.set_cons_succ]
    refine WL.skip (by kernel_rfl) ?_
    simp only [Act.put, List.setIfInBounds_toArray, List.set_cons_zero, List.set_cons_succ]
    refine WL.skip (by kernel_rfl) ?_
    simp only [Act.put, List.setIfInBounds_toArray, List.set_cons_zero, List.set_cons_succ]
    refine WL.skip (by kernel_rfl) ?_
    simp only [Act.put, List.setIfInBounds_toArray, List.set_cons_zero, List.set_cons_succ]
    refine WL.val (by kernel_rfl) (.bool false) (by go_simp) ?_
    simp only [Act.put, List.setIfInBounds_toArray, List.set_cons_zero, List.set_cons_succ]
    refine WL.val (by kernel_rfl) (.bool false) (by go_simp) ?_
    simp only [Act.put, List.setIfInBounds_toArray, List.set_cons_zero, List.set_cons_succ]
    refine WL.skip (by kernel_rfl) ?_
    simp only [Act.put, List.setIfInBounds_toArray, List.set_cons_zero, List.set_cons_succ]
    refine WL.skip (by kernel_rfl) ?_
    simp only [Act.put, List.setIfInBounds_toArray, List.set_cons_zero, List.set_cons_succ]
    refine WL.skip (by kernel_rfl) ?_
    simp only [Act.put, List.setIfInBounds_toArray, List.set_cons_zero, List.set_cons_succ]
    refine WL.skip (by kernel_rfl) ?_
    simp only [Act.put, List.setIfInBounds_toArray, List.set_cons_zero, List.set_cons_succ]
    refine WL.val (by kernel_rfl) (.bool false) (by go_simp) ?_
    simp only [Act.put, List.setIfInBounds_toArray, List.set_cons_zero, List.set_cons_succ]
    refine WL.val (by kernel_rfl) (.bool false) (by go_simp) ?_
    simp only [Act.put, List.setIfInBounds_toArray, List.set_cons_zero, List.set_cons_succ]
    refine WL.nil ?_
    refine hK16 _ _ ?_
    refine wp_cond_false rfl ?_
    refine wp_seq_k fun K17 hK17 => ?_
    refine wp_region_list (WL.out ?_)
    refine WL.val (by kernel_rfl) (.bool false) (by go_simp) ?_
    simp only [Act.put, List.setIfInBounds_toArray, List.set_cons_zero, List.set_cons_succ]
    refine WL.val (by kernel_rfl) (.bool false) (by go_simp) ?_
    simp only [Act.put, List.setIfInBounds_toArray, List.set_cons_zero, List.set_cons_succ]
    refine WL.nil ?_
    refine hK17 _ _ ?_
    refine wp_cond_false rfl ?_
    refine wp_skip ?_
    refine hK14 _ _ ?_
    refine wp_seq_k fun K18 hK18 => ?_
    refine wp_region_list (WL.out ?_)
    refine WL.val (by kernel_rfl) (.pointer (some ⟨w.heap.size, 32, none⟩)) (by go_simp) ?_
    simp only [Act.put, List.setIfInBounds_toArray, List.set_cons_zero, List.set_cons_succ]
    refine WL.val (by kernel_rfl) (.int .i64 x.op) (by go_simp) ?_
    simp only [Act.put, List.setIfInBounds_toArray, List.set_cons_zero, List.set_cons_succ]
    by_cases h10_2 : 1 ≤ x.op
    · skip
      refine WL.val (by kernel_rfl) (.bool true) (by go_simp) ?_
      simp only [Act.put, List.setIfInBounds_toArray, List.set_cons_zero, List.set_cons_succ]
      refine WL.val (by kernel_rfl) (.bool true) (by go_simp) ?_
      simp only [Act.put, List.setIfInBounds_toArray, List.set_cons_zero, List.set_cons_succ]
      refine WL.val (by kernel_rfl) (.pointer (some ⟨w.heap.size, 32, none⟩)) (by go_simp) ?_
      simp only [Act.put, List.setIfInBounds_toArray, List.set_cons_zero, List.set_cons_succ]
      refine WL.val (by kernel_rfl) (.int .i64 x.op) (by go_simp) ?_
      simp only [Act.put, List.setIfInBounds_toArray, List.set_cons_zero, List.set_cons_succ]
      by_cases h10_6 : x.op ≤ 1024
      · skip
        refine WL.val (by kernel_rfl) (.bool true) (by go_simp) ?_
        simp only [Act.put, List.setIfInBounds_toArray, List.set_cons_zero, List.set_cons_succ]
        refine WL.val (by kernel_rfl) (.bool true) (by go_simp) ?_
        simp only [Act.put, List.setIfInBounds_toArray, List.set_cons_zero, List.set_cons_succ]
        refine WL.val (by kernel_rfl) (.bool true) (by go_simp) ?_
        simp only [Act.put, List.setIfInBounds_toArray, List.set_cons_zero, List.set_cons_succ]
        refine WL.nil ?_
        refine hK18 _ _ ?_
        refine wp_ret ?_
        go_ret
        exact ⟨by rw [HM.out, if_neg (by simp), if_pos rfl, decide_eq_true (show 1 ≤ x.op by omega), decide_eq_true (show x.op ≤ 1024 by omega)]; rfl, HW1.out⟩
      · skip
        refine WL.val (by kernel_rfl) (.bool false) (by go_simp) ?_
        simp only [Act.put, List.setIfInBounds_toArray, List.set_cons_zero, List.set_cons_succ]
        refine WL.val (by kernel_rfl) (.bool false) (by go_simp) ?_
        simp only [Act.put, List.setIfInBounds_toArray, List.set_cons_zero, List.set_cons_succ]
        refine WL.val (by kernel_rfl) (.bool false) (by go_simp) ?_
        simp only [Act.put, List.setIfInBounds_toArray, List.set_cons_zero, List.set_cons_succ]
        refine WL.nil ?_
        refine hK18 _ _ ?_
        refine wp_ret ?_
        go_ret
        exact ⟨by rw [HM.out, if_neg (by simp), if_pos rfl, decide_eq_true (show 1 ≤ x.op by omega), decide_eq_false (show ¬ x.op ≤ 1024 by omega)]; rfl, HW1.out⟩
    · skip
      refine WL.val (by kernel_rfl) (.bool false) (by go_simp) ?_
      simp only [Act.put, List.setIfInBounds_toArray, List.set_cons_zero, List.set_cons_succ]
      refine WL.val (by kernel_rfl) (.bool false) (by go_simp) ?_
      simp only [Act.put, List.setIfInBounds_toArray, List.set_cons_zero, List.set_cons_succ]
      refine WL.skip (by kernel_rfl) ?_
      simp only [Act.put, List.setIfInBounds_toArray, List.set_cons_zero, List.set_cons_succ]
      refine WL.skip (by kernel_rfl) ?_
      simp only [Act.put, List.setIfInBounds_toArray, List.set_cons_zero, List.set_cons_succ]
      refine WL.skip (by kernel_rfl) ?_
      simp only [Act.put, List.setIfInBounds_toArray, List.set_cons_zero, List.set_cons_succ]
      refine WL.val (by kernel_rfl) (.bool false) (by go_simp) ?_
      simp only [Act.put, List.setIfInBounds_toArray, List.set_cons_zero, List.set_cons_succ]
      refine WL.val (by kernel_rfl) (.bool false) (by go_simp) ?_
      simp only [Act.put, List.setIfInBounds_toArray, List.set_cons_zero, List.set_cons_succ]
      refine WL.nil ?_
      refine hK18 _ _ ?_
      refine wp_ret ?_
      go_ret
      exact ⟨by rw [HM.out, if_neg (by simp), if_pos rfl, decide_eq_false (show ¬ 1 ≤ x.op by omega)]; rfl, HW1.out⟩

end Go.Proofs.Ytkjjlfpghhefcab
namespace Go.Proofs.Ytkjjlfpghhefcab
open Go.RowKit
set_option linter.unusedSimpArgs false
set_option linter.unusedVariables false

theorem Try.results36 : Try.f36.results = #[.cell 4 59, .cell 5 27] := by kernel_rfl
set_option maxRecDepth 8000 in
set_option maxHeartbeats 1000000 in
theorem may_end {u2 u3 u8 u10 u11 u12 u13 u14 u15 u16 u17 u18 u19 u20 u21 u22 u23 u24 u25 u26 u27 u28 u29 u30 u31 u32 u33 u34 u35 u36 u37 u38 u39 u40 u41 u42 u43 u44 u45 u46 u47 u48 u49 u50 u51 u52 u53 u54 u55 u56 u57 u58 u59 u60 u61 u62 u63 u64 u65 u66 u67 u68 u69 u70 u71 u72 u73 u74 u75 u76 u77 u78 u79 u80 u81 u82 u83 u84 u85 u86 u87 u88 u89 u90 u91 u92 u93 u94 u95 u96 u97 u98 u99 u100 u101 u102 u103 u104 u105 u106 u107 u108 u109 u110 u111 u112 u113 u114 u115 u116 u117 u118 u119 u120 u121 u122 u123 u124 u125 u126 : Value} (x g4 g5 g6 g9 : Nat) (vB : Value) (L : List Int) (vl : Value) (l : List OpV) (w w1 : World) (G : Int × Nat × OpV) (hR : ∀ wx, (Grown w wx fun k => k = x) → RowAt wx vB L) (hb : L.length ≤ 140737488355328) (hby : Byts L) (hv : ∀ wx, (Grown w wx fun k => k = x) → OwnO wx vl l) (hln : l.length ≤ 1024) (y : OpV) (p pA : Nat) (hS : OS w x g4 g5 g6 g9 vB y 0 0 p 0 0 w1) (hok : OpOk y) (hGy : mayAt l y = true → G = (0, p, y)) (hGn : mayAt l y = false → G.1 = 42 ∧ G.2.1 = pA) :
    Code.wp Try.prog (cS (cS (cS (cS (cS (cS (cS (cS (cS (cS (cS (cS (cS (cS (cS (cS (cS (cS (Try.f36.body.getD Code.skip))))))))))))))))))) (bodyPost Try.prog Try.f36 (ROne x vB G w)) { tmps := #[.pointer (some ⟨x, 0, none⟩), vl, u2, u3, .pointer (some ⟨g4, 0, none⟩), .pointer (some ⟨g5, 0, none⟩), .pointer (some ⟨g6, 0, none⟩), .int .i64 (pA : Int), u8, .pointer (some ⟨g9, 0, none⟩), u10, u11, u12, u13, u14, u15, u16, u17, u18, u19, u20, u21, u22, u23, u24, u25, u26, u27, u28, u29, u30, u31, u32, u33, u34, u35, u36, u37, u38, u39, u40, u41, u42, u43, u44, u45, u46, u47, u48, u49, u50, u51, u52, u53, u54, u55, u56, u57, u58, u59, u60, u61, u62, u63, u64, u65, u66, u67, u68, u69, u70, u71, u72, u73, u74, u75, u76, u77, u78, u79, u80, u81, u82, u83, u84, u85, u86, u87, u88, u89, u90, u91, u92, u93, u94, u95, u96, u97, u98, u99, u100, u101, u102, u103, u104, u105, u106, u107, u108, u109, u110, u111, u112, u113, u114, u115, u116, u117, u118, u119, u120, u121, u122, u123, u124, u125, u126], defers := [] } w1 := by
  obtain ⟨la, lc, rfl⟩ := (hv w1 hS.gr).sl
  have HVl := Keep.mk hv
  have Hln := Keep.mk hln
  have hl' : (l.length : Int) ≤ 9223372036854775807 := by omega
  have HS := Keep.mk hS
  have Hok := Keep.mk hok
  have HGy := Keep.mk hGy
  have HGn := Keep.mk hGn
  clear hR hb hby hv hln hS hok hGy hGn
  refine wp_seq_k fun K1 hK1 => ?_
  refine all_step (fun _ _ d _ _ h => by cases d <;> exact h) x g4 g5 g6 g9 vB _ l w w1 y p HS.out HVl.out Hln.out ?_
  rintro v13 v111 v112 v113 v114 v115 w2 hO hS2
  have HO := Keep.mk hO
  have H2 := Keep.mk hS2
  clear hO hS2
  obtain ⟨va5, vc5, rfl⟩ := HO.out.sl
  refine hK1 _ _ ?_
  refine wp_seq_k fun K2 hK2 => ?_
  refine wp_region_list (WL.out ?_)
  refine WL.val (by kernel_rfl) (.slice va5 (l ++ [y]).length vc5) (by go_simp) ?_
  simp only [Act.put, List.setIfInBounds_toArray, List.set_cons_zero, List.set_cons_succ]
  refine WL.val (by kernel_rfl) (.slice la l.length lc) (by go_simp) ?_
  simp only [Act.put, List.setIfInBounds_toArray, List.set_cons_zero, List.set_cons_succ]
  refine WL.val (by kernel_rfl) (.int .i64 (l.length : Int)) (by go_simp) ?_
  simp only [Act.put, List.setIfInBounds_toArray, List.set_cons_zero, List.set_cons_succ]
  have hgd : (l ++ [y]).getD l.length zeroOp = y := by simp [List.getD_eq_getElem?_getD]
  have htk : (l ++ [y]).take l.length = l := by simp
  have hrm := rmay_any (.slice va5 (l ++ [y]).length vc5) (l ++ [y]) l.length w2 HO.out.ops (by simp) (by have := Hln.out; simp; omega) (by rw [hgd]; exact Hok.out)
  rw [hgd, htk] at hrm
  refine WL.callF (by kernel_rfl) 58 _ _ rfl Try.in58 #[.slice va5 (l ++ [y]).length vc5, .int .i64 (l.length : Int)] (by simp [Act.eval]) ?_
  refine (hrm).mono ?_
  rintro e w3 ⟨rfl, hbl⟩
  refine ⟨_, rfl, ?_⟩
  have H3 := Keep.mk (H2.out.below hbl)
  clear hbl hrm hgd htk H2
  simp only [Act.put, List.setIfInBounds_toArray, List.set_cons_zero, List.set_cons_succ]
  refine WL.val (by kernel_rfl) (.bool (mayAt l y)) (by go_simp) ?_
  simp only [Act.put, List.setIfInBounds_toArray, List.set_cons_zero, List.set_cons_succ]
  refine WL.nil ?_
  refine hK2 _ _ ?_
  refine wp_seq_k fun K3 hK3 => ?_
  refine wp_seq_k fun K4 hK4 => ?_
  rcases Bool.eq_false_or_eq_true (mayAt l y) with hmy | hmy
  · rw [hmy]
    refine wp_region_list (WL.out ?_)
    refine WL.val (by kernel_rfl) (.bool true) (by go_simp) ?_
    simp only [Act.put, List.setIfInBounds_toArray, List.set_cons_zero, List.set_cons_succ]
    refine WL.val (by kernel_rfl) (.bool false) (by go_simp) ?_
    simp only [Act.put, List.setIfInBounds_toArray, List.set_cons_zero, List.set_cons_succ]
    refine WL.nil ?_
    refine hK4 _ _ ?_
    refine wp_cond_false rfl ?_
    refine wp_skip ?_
    refine hK3 _ _ ?_
    refine wp_seq_k fun K5 hK5 => ?_
    refine ret_step29 (fun _ _ d _ _ h => by cases d <;> exact h) x g4 g5 g6 g9 vB _ w w3 y 0 0 p H3.out ?_
    rintro v125 v126 wz hk4 hk5 hR
    refine hK5 _ _ ?_
    refine wp_ret ?_
    try simp only [Exit.then]
    refine bodyPost_ret (v := .tuple #[.agg (opA y), .agg (erA 0 0)]) (results_cell_cell_row Try.results36 _ _ g4 g5 59 27 _ _ (0, 0) (0, 0) _ _ rfl rfl hk4 hk5 Try.underlying59 rfl (Try.size59B _) Try.underlying27 rfl (Try.size27B _ _)) rfl ?_
    exact hR G (by rw [HGy.out hmy]) (by rw [HGy.out hmy]) (Or.inl ⟨rfl, rfl⟩) (fun _ => ⟨by rw [HGy.out hmy], Hok.out⟩)
  · rw [hmy]
    refine wp_region_list (WL.out ?_)
    refine WL.val (by kernel_rfl) (.bool false) (by go_simp) ?_
    simp only [Act.put, List.setIfInBounds_toArray, List.set_cons_zero, List.set_cons_succ]
    refine WL.val (by kernel_rfl) (.bool true) (by go_simp) ?_
    simp only [Act.put, List.setIfInBounds_toArray, List.set_cons_zero, List.set_cons_succ]
    refine WL.nil ?_
    refine hK4 _ _ ?_
    refine wp_cond_true rfl ?_
    refine wp_region_list (WL.out ?_)
    refine WL.val (by kernel_rfl) (.pointer (some ⟨x, 0, none⟩)) (by go_simp) ?_
    simp only [Act.put, List.setIfInBounds_toArray, List.set_cons_zero, List.set_cons_succ]
    refine WL.val (by kernel_rfl) (.int .i64 (pA : Int)) (by go_simp) ?_
    simp only [Act.put, List.setIfInBounds_toArray, List.set_cons_zero, List.set_cons_succ]
    refine WL.callF (by kernel_rfl) 31 _ _ rfl Try.in31 #[ptr x, .int .i64 42, .int .i64 (pA : Int)] (by simp [Act.eval]) ?_
    refine (xwrongG x vB _ pA 42 w3 H3.out.rf).mono ?_
    rintro e w4 ⟨rfl, h1, h2⟩
    refine ⟨_, rfl, ?_⟩
    have H4 := Keep.mk (H3.out.call h1 h2)
    clear h1 h2 H3
    simp only [Act.put, List.setIfInBounds_toArray, List.set_cons_zero, List.set_cons_succ]
    refine WL.storeR (by kernel_rfl) 27 (.tmp 9) (.tmp 124) rfl g9 (erA 42 (pA : Int)) rfl rfl 27 (erA 0 0) H4.out.e (Try.size27B _ _) (erA_sizes _ _ _ _) (erA_one _ _) ?_
    have H5 := Keep.mk (H4.out.setE 42 (pA : Int))
    generalize w4.setRow g9 (erA 42 (pA : Int)) = w5 at *
    clear H4
    simp only [Act.put]
    refine WL.nil ?_
    refine hK3 _ _ ?_
    refine wp_seq_k fun K6 hK6 => ?_
    refine ret_step29 (fun _ _ d _ _ h => by cases d <;> exact h) x g4 g5 g6 g9 vB _ w w5 y 42 (pA : Int) pA H5.out ?_
    rintro v125 v126 wz hk4 hk5 hR
    refine hK6 _ _ ?_
    refine wp_ret ?_
    try simp only [Exit.then]
    refine bodyPost_ret (v := .tuple #[.agg (opA y), .agg (erA 42 (pA : Int))]) (results_cell_cell_row Try.results36 _ _ g4 g5 59 27 _ _ (0, 0) (0, 0) _ _ rfl rfl hk4 hk5 Try.underlying59 rfl (Try.size59B _) Try.underlying27 rfl (Try.size27B _ _)) rfl ?_
    exact hR G (HGn.out hmy).1 (HGn.out hmy).2 (Or.inr ⟨by decide, rfl⟩) (fun h => absurd h (by decide))
set_option maxRecDepth 8000 in
set_option maxHeartbeats 2000000 in
theorem at_end {u2 u3 u7 u8 u10 u11 u12 u13 u14 u15 u16 u17 u18 u19 u20 u21 u22 u23 u24 u25 u26 u27 u28 u29 u30 u31 u32 u33 u34 u35 u36 u37 u38 u39 u40 u41 u42 u43 u44 u45 u46 u47 u48 u49 u50 u51 u52 u53 u54 u55 u56 u57 u58 u59 u60 u61 u62 u63 u64 u65 u66 u67 u68 u69 u70 u71 u72 u73 u74 u75 u76 u77 u78 u79 u80 u81 u82 u83 u84 u85 u86 u87 u88 u89 u90 u91 u92 u93 u94 u95 u96 u97 u98 u99 u100 u101 u102 u103 u104 u105 u106 u107 u108 u109 u110 u111 u112 u113 u114 u115 u116 u117 u118 u119 u120 u121 u122 u123 u124 u125 u126 : Value} (x g4 g5 g6 g9 : Nat) (vB : Value) (L : List Int) (vl : Value) (l : List OpV) (w w1 : World) (G : Int × Nat × OpV) (hR : ∀ wx, (Grown w wx fun k => k = x) → RowAt wx vB L) (hb : L.length ≤ 140737488355328) (hby : Byts L) (hv : ∀ wx, (Grown w wx fun k => k = x) → OwnO wx vl l) (hln : l.length ≤ 1024) (y : OpV) (p : Nat) (hS : OS w x g4 g5 g6 g9 vB y 0 0 p 0 0 w1) (hok : OpOk y) (hp : p ≤ L.length) (hG : G = getF L l 3 y p) :
    Code.wp Try.prog (cS (cS (cS (cS (cS (cS (cS (cS (cS (cS (cS (cS (cS (Try.f36.body.getD Code.skip)))))))))))))) (bodyPost Try.prog Try.f36 (ROne x vB G w)) { tmps := #[.pointer (some ⟨x, 0, none⟩), vl, u2, u3, .pointer (some ⟨g4, 0, none⟩), .pointer (some ⟨g5, 0, none⟩), .pointer (some ⟨g6, 0, none⟩), u7, u8, .pointer (some ⟨g9, 0, none⟩), u10, u11, u12, u13, u14, u15, u16, u17, u18, u19, u20, u21, u22, u23, u24, u25, u26, u27, u28, u29, u30, u31, u32, u33, u34, u35, u36, u37, u38, u39, u40, u41, u42, u43, u44, u45, u46, u47, u48, u49, u50, u51, u52, u53, u54, u55, u56, u57, u58, u59, u60, u61, u62, u63, u64, u65, u66, u67, u68, u69, u70, u71, u72, u73, u74, u75, u76, u77, u78, u79, u80, u81, u82, u83, u84, u85, u86, u87, u88, u89, u90, u91, u92, u93, u94, u95, u96, u97, u98, u99, u100, u101, u102, u103, u104, u105, u106, u107, u108, u109, u110, u111, u112, u113, u114, u115, u116, u117, u118, u119, u120, u121, u122, u123, u124, u125, u126], defers := [] } w1 := by
  have HRow := Keep.mk hR
  have Hb := Keep.mk hb
  have HBy := Keep.mk hby
  clear hR hb hby
  have HVl := Keep.mk hv
  have Hln := Keep.mk hln
  have HS := Keep.mk hS
  have Hok := Keep.mk hok
  have Hp := Keep.mk hp
  have HG := Keep.mk hG
  have cx := hS.rf.c1
  clear hv hln hS hok hp hG
  obtain ⟨D5, hD5⟩ : ∃ z, Keep (z = L.drop p) := ⟨_, ⟨rfl⟩⟩
  obtain ⟨X5, N5, W5, hM5', hN5'⟩ := fst_tri D5 1024
  have hM5 := Keep.mk hM5'
  have hN5 := Keep.mk hN5'
  have hrg5 : Keep (0 ≤ X5 ∧ X5 ≤ 1024) := ⟨by have h := fst_rng D5 (by rw [hD5.out]; exact HBy.out.drop _) 1024 (by decide); rw [hM5'] at h; exact h⟩
  have hx50 : Keep (¬ W5 = 0 → X5 = 0) := ⟨fun h => by have h2 := (fstM_shape D5 1024).1; rw [hM5'] at h2; exact (h2 h).1⟩
  have hwx5 : IntKind.i64.wrap X5 = X5 := by rw [IntKind.wrap_i64]; have := hrg5.out; omega
  clear hM5' hN5'
  refine wp_seq_k fun K1 hK1 => ?_
  refine wp_region_list (WL.out ?_)
  refine WL.val (by kernel_rfl) (.pointer (some ⟨x, 0, none⟩)) (by go_simp) ?_
  simp only [Act.put, List.setIfInBounds_toArray, List.set_cons_zero, List.set_cons_succ]
  refine WL.val (by kernel_rfl) (.pointer (some ⟨x, 0, none⟩)) (by go_simp) ?_
  simp only [Act.put, List.setIfInBounds_toArray, List.set_cons_zero, List.set_cons_succ]
  refine WL.val (by kernel_rfl) (.pointer (some ⟨x, 1, none⟩)) (by go_simp) ?_
  simp only [Act.put, List.setIfInBounds_toArray, List.set_cons_zero, List.set_cons_succ]
  refine WL.val (by kernel_rfl) (.int .i64 (p : Int)) (by go_simp) ?_
  simp only [Act.put, List.setIfInBounds_toArray, List.set_cons_zero, List.set_cons_succ]
  refine WL.val (by kernel_rfl) (.int .i64 (p : Int)) (by go_simp) ?_
  simp only [Act.put, List.setIfInBounds_toArray, List.set_cons_zero, List.set_cons_succ]
  refine WL.nil ?_
  refine hK1 _ _ ?_
  refine wp_seq_k fun K2 hK2 => ?_
  refine wp_region_list (WL.out ?_)
  refine WL.val (by kernel_rfl) (.pointer (some ⟨x, 0, none⟩)) (by go_simp) ?_
  simp only [Act.put, List.setIfInBounds_toArray, List.set_cons_zero, List.set_cons_succ]
  refine WL.callF (by kernel_rfl) 35 _ _ rfl Try.in35 #[ptr x, .int .u64 1024] (by simp [Act.eval]) ?_
  refine (xnum_good x vB L p 1024 w1 HS.out.rf (fun wx hx => HRow.out wx (HS.out.gr.trans hx)) Hp.out Hb.out HBy.out D5 hD5.out W5 X5 N5 hM5.out).mono ?_
  rintro e w2 ⟨b5, hE, rfl, h1, h2⟩
  refine ⟨.tuple #[.int .u64 X5, .agg (erA W5 b5)], rfl, ?_⟩
  have hEb := Keep.mk hE
  have H2 := Keep.mk (HS.out.call h1 h2)
  clear h1 h2 hE HS cx
  simp only [Act.put, List.setIfInBounds_toArray, List.set_cons_zero, List.set_cons_succ]
  refine WL.val (by kernel_rfl) (.tuple #[.int .u64 X5, .agg (erA W5 b5)]) (by go_simp) ?_
  simp only [Act.put, List.setIfInBounds_toArray, List.set_cons_zero, List.set_cons_succ]
  refine WL.val (by kernel_rfl) (.int .u64 X5) (by go_simp) ?_
  simp only [Act.put, List.setIfInBounds_toArray, List.set_cons_zero, List.set_cons_succ]
  refine WL.val (by kernel_rfl) (.agg (erA W5 b5)) (by go_simp) ?_
  simp only [Act.put, List.setIfInBounds_toArray, List.set_cons_zero, List.set_cons_succ]
  refine WL.val (by kernel_rfl) (.int .u64 X5) (by go_simp) ?_
  simp only [Act.put, List.setIfInBounds_toArray, List.set_cons_zero, List.set_cons_succ]
  refine WL.storeR (by kernel_rfl) 27 (.tmp 9) (.tmp 92) rfl g9 (erA W5 b5) rfl rfl 27 (erA 0 0) H2.out.e (Try.size27B _ _) (erA_sizes _ _ _ _) (erA_one _ _) ?_
  have H3 := Keep.mk (H2.out.setE W5 b5)
  generalize w2.setRow g9 (erA W5 b5) = w3 at *
  clear H2
  simp only [Act.put]
  refine WL.nil ?_
  refine hK2 _ _ ?_
  refine wp_seq_k fun K3 hK3 => ?_
  refine wp_region_list (WL.out ?_)
  refine WL.val (by kernel_rfl) (.int .u64 X5) (by go_simp) ?_
  simp only [Act.put, List.setIfInBounds_toArray, List.set_cons_zero, List.set_cons_succ]
  refine WL.val (by kernel_rfl) (.int .i64 X5) (by go_simp) ?_
  simp only [Act.put, List.setIfInBounds_toArray, List.set_cons_zero, List.set_cons_succ]
  refine WL.val (by kernel_rfl) (.pointer (some ⟨g6, 4, none⟩)) (by go_simp) ?_
  simp only [Act.put, List.setIfInBounds_toArray, List.set_cons_zero, List.set_cons_succ]
  refine WL.val (by kernel_rfl) (.pointer (some ⟨g6, 36, none⟩)) (by go_simp) ?_
  simp only [Act.put, List.setIfInBounds_toArray, List.set_cons_zero, List.set_cons_succ]
  have c_o := H3.out.o.c 36 (opA_36 _)
  have f_o := H3.out.o.frozen 36
  refine WL.cell (by kernel_rfl) (w3.setCell ⟨g6, 36, none⟩ (.int .i64 X5)) (by go_simp) ?_
  clear c_o f_o
  obtain ⟨y1, hy1⟩ : ∃ y' : OpV, y' = { y with op := X5 } := ⟨_, rfl⟩
  have Ey1 := Keep.mk hy1
  clear hy1
  have H4 : Keep (OS w x g4 g5 g6 g9 vB y1 W5 b5 (p + N5) W5 b5 (w3.setCell ⟨g6, 36, none⟩ (.int .i64 X5))) := ⟨H3.out.setO y1 (by rw [Ey1.out]; have h := H3.out.o.set 36 (.int .i64 X5); rw [set_36] at h; exact h) (Grown.setCell w3 g6 36 _ fun _ => rfl)⟩
  generalize w3.setCell ⟨g6, 36, none⟩ (.int .i64 X5) = w4 at *
  clear H3
  simp only [Act.put]
  refine WL.nil ?_
  refine hK3 _ _ ?_
  refine wp_seq_k fun K4 hK4 => ?_
  refine wp_seq_k fun K5 hK5 => ?_
  have e0 := H4.out.e.c 0 (erA_0 _ _)
  have Hp5 : Keep (p + N5 ≤ L.length) := ⟨adv Hp.out (by rw [hD5.out] at hN5; exact hN5.out)⟩
  have hGA := HG.out
  rw [show getF L l 3 y p = getA L l y p from rfl] at hGA
  unfold getA at hGA
  rw [← hD5.out, hM5.out] at hGA
  simp only [Int.toNat_natCast] at hGA
  have HGA := Keep.mk hGA
  clear hGA
  by_cases hW5 : W5 = 0
  · have hb5 : b5 = 0 := by rcases hEb.out with ⟨_, h⟩ | ⟨h, _⟩; exact h; exact absurd hW5 h
    rw [hW5, hb5] at H4
    rw [hW5] at e0
    have HGB := Keep.mk HGA.out
    rw [if_neg (by simp [hW5])] at HGB
    have E5 := Keep.mk hW5
    try rw [hW5, hb5]
    clear hW5 hb5
    have Hok1 : Keep (OpOk y1) := ⟨by rw [Ey1.out]; exact ok_op Hok.out hrg5.out.1 hrg5.out.2⟩
    by_cases hX5 : X5 = 0
    · have HGC := Keep.mk HGB.out
      rw [if_pos hX5] at HGC
      have e9 : Keep (y1 = { y with op := 0 }) := ⟨by rw [Ey1.out, hX5]⟩
      refine wp_region_list (WL.out ?_)
      refine WL.val (by kernel_rfl) (.int .u64 X5) (by go_simp) ?_
      simp only [Act.put, List.setIfInBounds_toArray, List.set_cons_zero, List.set_cons_succ]
      refine WL.val (by kernel_rfl) (.bool false) (by go_simp) ?_
      simp only [Act.put, List.setIfInBounds_toArray, List.set_cons_zero, List.set_cons_succ]
      refine WL.nil ?_
      refine hK5 _ _ ?_
      refine wp_cond_false rfl ?_
      refine wp_skip ?_
      refine hK4 _ _ ?_
      refine wp_seq_k fun K6 hK6 => ?_
      refine wp_seq_k fun K7 hK7 => ?_
      refine wp_region_list (WL.out ?_)
      refine WL.val (by kernel_rfl) (.pointer (some ⟨g9, 0, none⟩)) (by go_simp) ?_
      simp only [Act.put, List.setIfInBounds_toArray, List.set_cons_zero, List.set_cons_succ]
      refine WL.val (by kernel_rfl) (.int .i64 0) (by go_simp) ?_
      simp only [Act.put, List.setIfInBounds_toArray, List.set_cons_zero, List.set_cons_succ]
      refine WL.val (by kernel_rfl) (.bool false) (by go_simp) ?_
      simp only [Act.put, List.setIfInBounds_toArray, List.set_cons_zero, List.set_cons_succ]
      refine WL.nil ?_
      refine hK7 _ _ ?_
      refine wp_cond_false rfl ?_
      refine wp_skip ?_
      refine hK6 _ _ ?_
      refine may_end x g4 g5 g6 g9 vB L vl l w w4 G HRow.out Hb.out HBy.out HVl.out Hln.out y1 (p + N5) p H4.out Hok1.out (fun h => by rw [HGC.out, ← e9.out, if_pos h]) (fun h => by rw [HGC.out, ← e9.out, if_neg (by rw [h]; decide)]; exact ⟨rfl, rfl⟩)
    · have HGC := Keep.mk HGB.out
      rw [if_neg hX5] at HGC
      obtain ⟨D6, hD6⟩ : ∃ z, Keep (z = L.drop (p + N5)) := ⟨_, ⟨rfl⟩⟩
      obtain ⟨W6, hW6⟩ : ∃ z, Keep (z = nextW D6 32) := ⟨_, ⟨rfl⟩⟩
      obtain ⟨N6, hN6⟩ : ∃ z, Keep (z = nextN D6 32) := ⟨_, ⟨rfl⟩⟩
      rw [← hD6.out, ← hW6.out, ← hN6.out] at HGC
      refine wp_region_list (WL.out ?_)
      refine WL.val (by kernel_rfl) (.int .u64 X5) (by go_simp) ?_
      simp only [Act.put, List.setIfInBounds_toArray, List.set_cons_zero, List.set_cons_succ]
      refine WL.val (by kernel_rfl) (.bool true) (by go_simp) ?_
      simp only [Act.put, List.setIfInBounds_toArray, List.set_cons_zero, List.set_cons_succ]
      refine WL.nil ?_
      refine hK5 _ _ ?_
      refine wp_cond_true rfl ?_
      refine hash_step x g4 g5 g6 g9 vB L _ l w w4 G HRow.out Hb.out HBy.out y1 (p + N5) H4.out Hp5.out D6 hD6 W6 hW6 N6 hN6 ?_
      rintro v99 v100 v101 v102 v103 v104 v105 y2 b6 w5 hS5 hE6 hy2
      have H5 := Keep.mk hS5
      have HE6 := Keep.mk hE6
      have HY2 := Keep.mk hy2
      clear hS5 hE6 hy2 e0
      have e0 := H5.out.e.c 0 (erA_0 _ _)
      by_cases hW6' : W6 = 0
      · have hb6 : b6 = 0 := by rcases HE6.out with ⟨_, h⟩ | ⟨h, _⟩; exact h; exact absurd hW6' h
        have HGD := Keep.mk HGC.out
        rw [if_neg (by simp [hW6'])] at HGD
        have hN32 : N6 = 32 := by rw [hN6.out, (nextN_0 D6 32 (by rw [← hW6.out]; exact hW6')).1]; rfl
        have hl6 : (D6.take 32).length = 32 := by have h := (nextN_0 D6 32 (by rw [← hW6.out]; exact hW6')).2.2; rw [List.length_take]; omega
        have e9 : Keep (y2 = { y with op := X5, node := D6.take 32 }) := ⟨by rw [HY2.out hW6', Ey1.out]⟩
        have Hok2 : Keep (OpOk y2) := ⟨by rw [HY2.out hW6']; exact ok_node Hok1.out hl6 (by rw [hD6.out]; exact (HBy.out.drop _).take 32)⟩
        have HN6 := Keep.mk hN32
        clear hN32 hl6
        rw [hW6', hb6] at H5
        rw [hW6'] at e0
        clear hW6' hb6
        refine hK4 _ _ ?_
        refine wp_seq_k fun K8 hK8 => ?_
        refine wp_seq_k fun K9 hK9 => ?_
        refine wp_region_list (WL.out ?_)
        refine WL.val (by kernel_rfl) (.pointer (some ⟨g9, 0, none⟩)) (by go_simp) ?_
        simp only [Act.put, List.setIfInBounds_toArray, List.set_cons_zero, List.set_cons_succ]
        refine WL.val (by kernel_rfl) (.int .i64 0) (by go_simp) ?_
        simp only [Act.put, List.setIfInBounds_toArray, List.set_cons_zero, List.set_cons_succ]
        refine WL.val (by kernel_rfl) (.bool false) (by go_simp) ?_
        simp only [Act.put, List.setIfInBounds_toArray, List.set_cons_zero, List.set_cons_succ]
        refine WL.nil ?_
        refine hK9 _ _ ?_
        refine wp_cond_false rfl ?_
        refine wp_skip ?_
        refine hK8 _ _ ?_
        refine may_end x g4 g5 g6 g9 vB L vl l w w5 G HRow.out Hb.out HBy.out HVl.out Hln.out y2 (p + N5 + N6) p H5.out Hok2.out (fun h => by rw [HGD.out, ← e9.out, if_pos h, HN6.out]) (fun h => by rw [HGD.out, ← e9.out, if_neg (by rw [h]; decide)]; exact ⟨rfl, rfl⟩)
      · have HGD := Keep.mk HGC.out
        rw [if_pos hW6'] at HGD
        refine hK4 _ _ ?_
        refine wp_seq_k fun K10 hK10 => ?_
        refine wp_seq_k fun K11 hK11 => ?_
        refine wp_region_list (WL.out ?_)
        refine WL.val (by kernel_rfl) (.pointer (some ⟨g9, 0, none⟩)) (by go_simp) ?_
        simp only [Act.put, List.setIfInBounds_toArray, List.set_cons_zero, List.set_cons_succ]
        refine WL.val (by kernel_rfl) (.int .i64 W6) (by go_simp) ?_
        simp only [Act.put, List.setIfInBounds_toArray, List.set_cons_zero, List.set_cons_succ]
        refine WL.val (by kernel_rfl) (.bool true) (by go_simp) ?_
        simp only [Act.put, List.setIfInBounds_toArray, List.set_cons_zero, List.set_cons_succ]
        refine WL.nil ?_
        refine hK11 _ _ ?_
        refine wp_cond_true rfl ?_
        refine wp_seq_k fun K12 hK12 => ?_
        refine ret_step24 (fun _ _ d _ _ h => by cases d <;> exact h) x g4 g5 g6 g9 vB _ w w5 y2 W6 b6 (p + N5 + N6) H5.out ?_
        rintro v109 v110 wz hk4 hk5 hR
        refine hK12 _ _ ?_
        refine wp_ret ?_
        try simp only [Exit.then]
        refine bodyPost_ret (v := .tuple #[.agg (opA y2), .agg (erA W6 b6)]) (results_cell_cell_row Try.results36 _ _ g4 g5 59 27 _ _ (0, 0) (0, 0) _ _ rfl rfl hk4 hk5 Try.underlying59 rfl (Try.size59B _) Try.underlying27 rfl (Try.size27B _ _)) rfl ?_
        exact hR G (by rw [HGD.out]) (by rw [HGD.out]) HE6.out (fun h => absurd h hW6')
  · have HGB := Keep.mk HGA.out
    rw [if_pos hW5] at HGB
    have hX5 := hx50.out hW5
    refine wp_region_list (WL.out ?_)
    refine WL.val (by kernel_rfl) (.int .u64 X5) (by go_simp) ?_
    simp only [Act.put, List.setIfInBounds_toArray, List.set_cons_zero, List.set_cons_succ]
    refine WL.val (by kernel_rfl) (.bool false) (by go_simp) ?_
    simp only [Act.put, List.setIfInBounds_toArray, List.set_cons_zero, List.set_cons_succ]
    refine WL.nil ?_
    refine hK5 _ _ ?_
    refine wp_cond_false rfl ?_
    refine wp_skip ?_
    refine hK4 _ _ ?_
    refine wp_seq_k fun K13 hK13 => ?_
    refine wp_seq_k fun K14 hK14 => ?_
    refine wp_region_list (WL.out ?_)
    refine WL.val (by kernel_rfl) (.pointer (some ⟨g9, 0, none⟩)) (by go_simp) ?_
    simp only [Act.put, List.setIfInBounds_toArray, List.set_cons_zero, List.set_cons_succ]
    refine WL.val (by kernel_rfl) (.int .i64 W5) (by go_simp) ?_
    simp only [Act.put, List.setIfInBounds_toArray, List.set_cons_zero, List.set_cons_succ]
    refine WL.val (by kernel_rfl) (.bool true) (by go_simp) ?_
    simp only [Act.put, List.setIfInBounds_toArray, List.set_cons_zero, List.set_cons_succ]
    refine WL.nil ?_
    refine hK14 _ _ ?_
    refine wp_cond_true rfl ?_
    refine wp_seq_k fun K15 hK15 => ?_
    refine ret_step24 (fun _ _ d _ _ h => by cases d <;> exact h) x g4 g5 g6 g9 vB _ w w4 y1 W5 b5 (p + N5) H4.out ?_
    rintro v109 v110 wz hk4 hk5 hR
    refine hK15 _ _ ?_
    refine wp_ret ?_
    try simp only [Exit.then]
    refine bodyPost_ret (v := .tuple #[.agg (opA y1), .agg (erA W5 b5)]) (results_cell_cell_row Try.results36 _ _ g4 g5 59 27 _ _ (0, 0) (0, 0) _ _ rfl rfl hk4 hk5 Try.underlying59 rfl (Try.size59B _) Try.underlying27 rfl (Try.size27B _ _)) rfl ?_
    exact hR G (by rw [HGB.out]) (by rw [HGB.out]) hEb.out (fun h => absurd h hW5)
theorem getFs_1 (L : List Int) (l : List OpV) (i : Nat) (y : OpV) (p : Nat) : getFs L l [i] y p = getF L l i y p := by
  show (if (getF L l i y p).1 = 0 then getFs L l [] (getF L l i y p).2.2 (getF L l i y p).2.1 else getF L l i y p) = _
  generalize getF L l i y p = R
  obtain ⟨a, b, c⟩ := R
  show (if a = 0 then (0, b, c) else (a, b, c)) = (a, b, c)
  split
  · rename_i h
    rw [h]
  · rfl
theorem OI.kind {w : World} {x g4 g5 g6 g9 : Nat} {vB : Value} {L : List Int} {l : List OpV} {c : Int} {G : Int × Nat × OpV} {is : List Nat} {w1 : World} (h : OI w x g4 g5 g6 g9 vB L l c G is w1) : w1.cell? ⟨g6, 0, none⟩ = some (.int .i64 c) := by
  obtain ⟨y, ew, eb, p, hS, hp, hk, hc⟩ := h
  rw [← hk]
  exact hS.o.c 0 (opA_0 _)
set_option maxRecDepth 8000 in
set_option maxHeartbeats 4000000 in
theorem one_any (x : Nat) (vB : Value) (L : List Int) (a : Nat) (vl : Value) (l : List OpV) (w : World) (hF : RfAt w x vB a 0 0) (hR : ∀ wx, (Grown w wx fun k => k = x) → RowAt wx vB L) (ha : a ≤ L.length) (hb : L.length ≤ 140737488355328) (hby : Byts L) (hv : ∀ wx, (Grown w wx fun k => k = x) → OwnO wx vl l) (hln : l.length ≤ 1024) :
    Calls Try.prog 36 #[ptr x, vl] w (ROne x vB (getO L l a) w) := by
  obtain ⟨D1, hD1⟩ : ∃ z, Keep (z = L.drop a) := ⟨_, ⟨rfl⟩⟩
  obtain ⟨W1, hW1⟩ : ∃ z, Keep (z = nextW D1 1) := ⟨_, ⟨rfl⟩⟩
  obtain ⟨N1, hN1⟩ : ∃ z, Keep (z = nextN D1 1) := ⟨_, ⟨rfl⟩⟩
  obtain ⟨c, hc⟩ : ∃ z, Keep (z = if W1 = 0 then D1.getD 0 0 else 0) := ⟨_, ⟨rfl⟩⟩
  obtain ⟨G, hG⟩ : ∃ G, Keep (G = getO L l a) := ⟨_, ⟨rfl⟩⟩
  rw [← hG.out]
  have hG' := hG.out
  unfold getO at hG'
  rw [← hD1.out, ← hW1.out, ← hN1.out] at hG'
  have HG := Keep.mk hG'
  have HF := Keep.mk hF
  have Ha := Keep.mk ha
  have HVl := Keep.mk hv
  have Hln := Keep.mk hln
  have HRow := Keep.mk hR
  have Hb := Keep.mk hb
  have HBy := Keep.mk hby
  clear hR hb hby
  clear hG hG' hF ha hv hln
  go_enter Try.func36, Try.ntmps36
  refine wp_seq_k fun K1 hK1 => ?_
  refine wp_region_list (WL.out ?_)
  refine WL.new (by kernel_rfl) 59 rfl _ Try.new59 ?_
  have b4 := Blk.new w 59 (opA zeroOp)
  have bl0 := below_new w (.cells (opA zeroOp) 59)
  obtain ⟨g4, hg4⟩ : ∃ g4, Keep (g4 = w.heap.size) := ⟨_, ⟨rfl⟩⟩
  generalize w.alloc (.cells (opA zeroOp) 59) = wa at *
  rw [← hg4.out] at b4 ⊢
  simp only [Act.put, List.setIfInBounds_toArray, List.set_cons_zero, List.set_cons_succ]
  refine WL.new (by kernel_rfl) 27 rfl _ Try.new27E ?_
  have b5 := Blk.new wa 27 (erA 0 0)
  have b4' := b4.alloc (.cells (erA 0 0) 27)
  have bl1 := bl0.trans ((below_new wa (.cells (erA 0 0) 27)).mono bl0.size)
  obtain ⟨g5, hg5⟩ : ∃ g5, Keep (g5 = wa.heap.size) := ⟨_, ⟨rfl⟩⟩
  have hz5 : w.heap.size ≤ wa.heap.size := bl0.size
  generalize wa.alloc (.cells (erA 0 0) 27) = wb at *
  rw [← hg5.out] at b5 ⊢
  simp only [Act.put, List.setIfInBounds_toArray, List.set_cons_zero, List.set_cons_succ]
  refine WL.nil ?_
  refine hK1 _ _ ?_
  refine wp_seq_k fun K2 hK2 => ?_
  refine wp_region_list (WL.out ?_)
  refine WL.bld (by kernel_rfl) 59 _ rfl [] (by simp) (opA zeroOp) Try.built59 ?_
  simp only [Act.put, List.setIfInBounds_toArray, List.set_cons_zero, List.set_cons_succ]
  refine WL.new (by kernel_rfl) 59 rfl _ Try.new59 ?_
  have b6 := Blk.new wb 59 (opA zeroOp)
  have b4'' := b4'.alloc (.cells (opA zeroOp) 59)
  have b5' := b5.alloc (.cells (opA zeroOp) 59)
  have h46 : g4 ≠ wb.heap.size := fun e => by have := b4'.lt; omega
  have bl2 := bl1.trans ((below_new wb (.cells (opA zeroOp) 59)).mono bl1.size)
  have hz6 : w.heap.size ≤ wb.heap.size := bl1.size
  obtain ⟨g6, hg6⟩ : ∃ g6, Keep (g6 = wb.heap.size) := ⟨_, ⟨rfl⟩⟩
  generalize wb.alloc (.cells (opA zeroOp) 59) = wc at *
  rw [← hg6.out] at b6 h46 ⊢
  simp only [Act.put, List.setIfInBounds_toArray, List.set_cons_zero, List.set_cons_succ]
  refine WL.storeR (by kernel_rfl) 59 (.tmp 6) (.tmp 15) rfl g6 (opA zeroOp) rfl rfl 59 (opA zeroOp) b6 (Try.size59B _) rfl (opA_one _) ?_
  have b6' := b6.setRow (opA zeroOp)
  have b4s := b4''.setRow_ne (b' := g6) h46 (opA zeroOp)
  have b5s := b5'.setRow_ne (b' := g6) (blk_ne b5' b6 (by decide)) (opA zeroOp)
  have bl3 := below_setRow bl2 (b := g6) (by rw [hg6.out]; exact hz6) (opA zeroOp)
  generalize wc.setRow g6 (opA zeroOp) = wd at *
  have HRf : Keep (RfAt wd x vB a 0 0) := ⟨Blk.below HF.out bl3 (Blk.lt HF.out)⟩
  have kx := HRf.out.c1
  simp only [Act.put]
  refine WL.nil ?_
  refine hK2 _ _ ?_
  refine wp_seq_k fun K3 hK3 => ?_
  refine wp_region_list (WL.out ?_)
  refine WL.val (by kernel_rfl) (.pointer (some ⟨x, 0, none⟩)) (by go_simp) ?_
  simp only [Act.put, List.setIfInBounds_toArray, List.set_cons_zero, List.set_cons_succ]
  refine WL.val (by kernel_rfl) (.pointer (some ⟨x, 0, none⟩)) (by go_simp) ?_
  simp only [Act.put, List.setIfInBounds_toArray, List.set_cons_zero, List.set_cons_succ]
  refine WL.val (by kernel_rfl) (.pointer (some ⟨x, 1, none⟩)) (by go_simp) ?_
  simp only [Act.put, List.setIfInBounds_toArray, List.set_cons_zero, List.set_cons_succ]
  refine WL.val (by kernel_rfl) (.int .i64 (a : Int)) (by go_simp) ?_
  simp only [Act.put, List.setIfInBounds_toArray, List.set_cons_zero, List.set_cons_succ]
  refine WL.val (by kernel_rfl) (.int .i64 (a : Int)) (by go_simp) ?_
  simp only [Act.put, List.setIfInBounds_toArray, List.set_cons_zero, List.set_cons_succ]
  refine WL.nil ?_
  refine hK3 _ _ ?_
  refine wp_seq_k fun K4 hK4 => ?_
  refine wp_region_list (WL.out ?_)
  refine WL.val (by kernel_rfl) (.pointer (some ⟨x, 0, none⟩)) (by go_simp) ?_
  simp only [Act.put, List.setIfInBounds_toArray, List.set_cons_zero, List.set_cons_succ]
  refine WL.callF (by kernel_rfl) 54 _ _ rfl Try.in54 #[ptr x] (by simp [Act.eval]) ?_
  refine (xbyte_good x vB L a wd HRf.out (fun wx hx => HRow.out wx ((Grown.below bl3).trans hx)) Ha.out Hb.out D1 hD1.out W1 hW1.out N1 hN1.out c hc.out).mono ?_
  rintro e we ⟨b1, hE1b, rfl, h1, h2⟩
  refine ⟨.tuple #[.int .u8 c, .agg (erA W1 b1)], rfl, ?_⟩
  have b6e := h2.blk b6' (blk_ne b6' HRf.out (by decide))
  have b4e := h2.blk b4s (blk_ne b4s HRf.out (by decide))
  have b5e := h2.blk b5s (blk_ne b5s HRf.out (by decide))
  have gre : Grown w we fun k => k = x := (Grown.below bl3).trans h2
  have HEb := Keep.mk hE1b
  clear kx hE1b
  simp only [Act.put, List.setIfInBounds_toArray, List.set_cons_zero, List.set_cons_succ]
  refine WL.val (by kernel_rfl) (.tuple #[.int .u8 c, .agg (erA W1 b1)]) (by go_simp) ?_
  simp only [Act.put, List.setIfInBounds_toArray, List.set_cons_zero, List.set_cons_succ]
  refine WL.val (by kernel_rfl) (.int .u8 c) (by go_simp) ?_
  simp only [Act.put, List.setIfInBounds_toArray, List.set_cons_zero, List.set_cons_succ]
  refine WL.val (by kernel_rfl) (.agg (erA W1 b1)) (by go_simp) ?_
  simp only [Act.put, List.setIfInBounds_toArray, List.set_cons_zero, List.set_cons_succ]
  refine WL.new (by kernel_rfl) 27 rfl _ Try.new27E ?_
  simp only [Act.put, List.setIfInBounds_toArray, List.set_cons_zero, List.set_cons_succ]
  refine WL.val (by kernel_rfl) (.int .u8 c) (by go_simp) ?_
  simp only [Act.put, List.setIfInBounds_toArray, List.set_cons_zero, List.set_cons_succ]
  refine WL.storeR (by kernel_rfl) 27 (.tmp 9) (.tmp 24) rfl we.heap.size (erA W1 b1) rfl rfl 27 (erA 0 0) (Blk.new we 27 _) (Try.size27B _ _) (erA_sizes _ _ _ _) (erA_one _ _) ?_
  obtain ⟨g9, hg9⟩ : ∃ g9, Keep (g9 = we.heap.size) := ⟨_, ⟨rfl⟩⟩
  rw [← hg9.out]
  have H0 : Keep (OS w x g4 g5 g6 g9 vB zeroOp W1 b1 (a + N1) W1 b1 ((we.alloc (.cells (erA 0 0) 27)).setRow g9 (erA W1 b1))) := ⟨by
    rw [hg9.out]
    have bq := below_setRow (below_new we (.cells (erA 0 0) 27)) (Nat.le_refl we.heap.size) (erA W1 b1)
    exact ⟨b6e.below bq b6e.lt, (Blk.new we 27 _).setRow _, b4e.below bq b4e.lt, b5e.below bq b5e.lt, Blk.below h1 bq (Blk.lt h1), gre.trans (Grown.below bq), h46, fun e => by have := b5e.lt; omega, ⟨by rw [hg4.out]; exact Nat.le_refl _, by rw [hg5.out]; exact hz5, by rw [hg6.out]; exact hz6, gre.size⟩⟩⟩
  generalize (we.alloc (.cells (erA 0 0) 27)).setRow g9 (erA W1 b1) = w1 at *
  clear b4 b4' b4'' b4s b4e b5 b5' b5s b5e b6 b6' b6e bl0 bl1 bl2 bl3 gre h1 h2 h46 hz5 hz6
  skip
  simp only [Act.put]
  refine WL.nil ?_
  refine hK4 _ _ ?_
  refine wp_seq_k fun K5 hK5 => ?_
  refine wp_seq_k fun K6 hK6 => ?_
  have e0 := H0.out.e.c 0 (erA_0 _ _)
  by_cases hE1 : W1 = 0
  · have hb1 : b1 = 0 := by rcases HEb.out with ⟨_, h⟩ | ⟨h, _⟩; exact h; exact absurd hE1 h
    have hN1' : N1 = 1 := by rw [hN1.out, (nextN_0 D1 1 (by rw [← hW1.out]; exact hE1)).1]; rfl
    have hcr : Keep (0 ≤ c ∧ c < 256) := ⟨by rw [hc.out, if_pos hE1]; exact Byts.getD (by rw [hD1.out]; exact HBy.out.drop a) 0⟩
    have hp1 : Keep (a + 1 ≤ L.length) := ⟨by have := next_n D1 1; rw [← hN1.out, hN1', hD1.out, List.length_drop] at this; have := Ha.out; omega⟩
    have HGB := Keep.mk HG.out
    rw [if_neg (by simp [hE1]), show D1.getD 0 0 = c by rw [hc.out, if_pos hE1]] at HGB
    rw [hE1] at e0
    rw [hE1, hb1, hN1'] at H0
    rw [hE1, hb1]
    clear hb1 hN1' hE1
    by_cases hc1 : c < 1
    · skip
      have HN : Keep (hasI c = []) := ⟨hasI_none c (by simp only [List.mem_cons, List.not_mem_nil, or_false]; omega)⟩
      rw [if_pos HN.out] at HGB
      refine wp_region_list (WL.out ?_)
      refine WL.val (by kernel_rfl) (.pointer (some ⟨g9, 0, none⟩)) (by go_simp) ?_
      simp only [Act.put, List.setIfInBounds_toArray, List.set_cons_zero, List.set_cons_succ]
      refine WL.val (by kernel_rfl) (.int .i64 0) (by go_simp) ?_
      simp only [Act.put, List.setIfInBounds_toArray, List.set_cons_zero, List.set_cons_succ]
      refine WL.val (by kernel_rfl) (.bool true) (by go_simp) ?_
      simp only [Act.put, List.setIfInBounds_toArray, List.set_cons_zero, List.set_cons_succ]
      refine WL.val (by kernel_rfl) (.bool true) (by go_simp) ?_
      simp only [Act.put, List.setIfInBounds_toArray, List.set_cons_zero, List.set_cons_succ]
      refine WL.val (by kernel_rfl) (.int .u8 c) (by go_simp) ?_
      simp only [Act.put, List.setIfInBounds_toArray, List.set_cons_zero, List.set_cons_succ]
      refine WL.val (by kernel_rfl) (.bool true) (by go_simp) ?_
      simp only [Act.put, List.setIfInBounds_toArray, List.set_cons_zero, List.set_cons_succ]
      refine WL.val (by kernel_rfl) (.bool true) (by go_simp) ?_
      simp only [Act.put, List.setIfInBounds_toArray, List.set_cons_zero, List.set_cons_succ]
      refine WL.skip (by kernel_rfl) ?_
      simp only [Act.put, List.setIfInBounds_toArray, List.set_cons_zero, List.set_cons_succ]
      refine WL.skip (by kernel_rfl) ?_
      simp only [Act.put, List.setIfInBounds_toArray, List.set_cons_zero, List.set_cons_succ]
      refine WL.val (by kernel_rfl) (.bool true) (by go_simp) ?_
      simp only [Act.put, List.setIfInBounds_toArray, List.set_cons_zero, List.set_cons_succ]
      refine WL.val (by kernel_rfl) (.bool true) (by go_simp) ?_
      simp only [Act.put, List.setIfInBounds_toArray, List.set_cons_zero, List.set_cons_succ]
      refine WL.nil ?_
      refine hK6 _ _ ?_
      refine wp_cond_true rfl ?_
      refine wp_region_list (WL.out ?_)
      refine WL.val (by kernel_rfl) (.pointer (some ⟨x, 0, none⟩)) (by go_simp) ?_
      simp only [Act.put, List.setIfInBounds_toArray, List.set_cons_zero, List.set_cons_succ]
      refine WL.val (by kernel_rfl) (.int .i64 (a : Int)) (by go_simp) ?_
      simp only [Act.put, List.setIfInBounds_toArray, List.set_cons_zero, List.set_cons_succ]
      refine WL.callF (by kernel_rfl) 31 _ _ rfl Try.in31 #[ptr x, .int .i64 40, .int .i64 (a : Int)] (by simp [Act.eval]) ?_
      refine (xwrongG x vB _ a 40 w1 H0.out.rf).mono ?_
      rintro e w2 ⟨rfl, h1, h2⟩
      refine ⟨_, rfl, ?_⟩
      have H2 := Keep.mk (H0.out.call h1 h2)
      clear h1 h2 H0 e0
      simp only [Act.put, List.setIfInBounds_toArray, List.set_cons_zero, List.set_cons_succ]
      refine WL.storeR (by kernel_rfl) 27 (.tmp 9) (.tmp 38) rfl g9 (erA 40 (a : Int)) rfl rfl 27 (erA 0 0) H2.out.e (Try.size27B _ _) (erA_sizes _ _ _ _) (erA_one _ _) ?_
      have H3 := Keep.mk (H2.out.setE 40 (a : Int))
      generalize w2.setRow g9 (erA 40 (a : Int)) = w3 at *
      clear H2
      have e0 := H3.out.e.c 0 (erA_0 _ _)
      simp only [Act.put]
      refine WL.nil ?_
      refine hK5 _ _ ?_
      refine wp_seq_k fun K7 hK7 => ?_
      refine wp_seq_k fun K8 hK8 => ?_
      refine wp_region_list (WL.out ?_)
      refine WL.val (by kernel_rfl) (.pointer (some ⟨g9, 0, none⟩)) (by go_simp) ?_
      simp only [Act.put, List.setIfInBounds_toArray, List.set_cons_zero, List.set_cons_succ]
      refine WL.val (by kernel_rfl) (.int .i64 40) (by go_simp) ?_
      simp only [Act.put, List.setIfInBounds_toArray, List.set_cons_zero, List.set_cons_succ]
      refine WL.val (by kernel_rfl) (.bool true) (by go_simp) ?_
      simp only [Act.put, List.setIfInBounds_toArray, List.set_cons_zero, List.set_cons_succ]
      refine WL.nil ?_
      refine hK8 _ _ ?_
      refine wp_cond_true rfl ?_
      refine wp_seq_k fun K9 hK9 => ?_
      refine ret_step7 (fun _ _ d _ _ h => by cases d <;> exact h) x g4 g5 g6 g9 vB _ w w3 zeroOp 40 (a : Int) a H3.out ?_
      rintro v42 v43 wz hk4 hk5 hR
      refine hK9 _ _ ?_
      refine wp_ret ?_
      try simp only [Exit.then]
      refine bodyPost_ret (v := .tuple #[.agg (opA zeroOp), .agg (erA 40 (a : Int))]) (results_cell_cell_row Try.results36 _ _ g4 g5 59 27 _ _ (0, 0) (0, 0) _ _ rfl rfl hk4 hk5 Try.underlying59 rfl (Try.size59B _) Try.underlying27 rfl (Try.size27B _ _)) rfl ?_
      exact hR G (by rw [HGB.out]) (by rw [HGB.out]) (Or.inr ⟨by decide, rfl⟩) (fun h => absurd h (by decide))
    · by_cases hc9 : 9 < c
      · skip
        have HN : Keep (hasI c = []) := ⟨hasI_none c (by simp only [List.mem_cons, List.not_mem_nil, or_false]; omega)⟩
        rw [if_pos HN.out] at HGB
        refine wp_region_list (WL.out ?_)
        refine WL.val (by kernel_rfl) (.pointer (some ⟨g9, 0, none⟩)) (by go_simp) ?_
        simp only [Act.put, List.setIfInBounds_toArray, List.set_cons_zero, List.set_cons_succ]
        refine WL.val (by kernel_rfl) (.int .i64 0) (by go_simp) ?_
        simp only [Act.put, List.setIfInBounds_toArray, List.set_cons_zero, List.set_cons_succ]
        refine WL.val (by kernel_rfl) (.bool true) (by go_simp) ?_
        simp only [Act.put, List.setIfInBounds_toArray, List.set_cons_zero, List.set_cons_succ]
        refine WL.val (by kernel_rfl) (.bool true) (by go_simp) ?_
        simp only [Act.put, List.setIfInBounds_toArray, List.set_cons_zero, List.set_cons_succ]
        refine WL.val (by kernel_rfl) (.int .u8 c) (by go_simp) ?_
        simp only [Act.put, List.setIfInBounds_toArray, List.set_cons_zero, List.set_cons_succ]
        refine WL.val (by kernel_rfl) (.bool false) (by go_simp) ?_
        simp only [Act.put, List.setIfInBounds_toArray, List.set_cons_zero, List.set_cons_succ]
        refine WL.val (by kernel_rfl) (.bool false) (by go_simp) ?_
        simp only [Act.put, List.setIfInBounds_toArray, List.set_cons_zero, List.set_cons_succ]
        refine WL.val (by kernel_rfl) (.int .u8 c) (by go_simp) ?_
        simp only [Act.put, List.setIfInBounds_toArray, List.set_cons_zero, List.set_cons_succ]
        refine WL.val (by kernel_rfl) (.bool true) (by go_simp) ?_
        simp only [Act.put, List.setIfInBounds_toArray, List.set_cons_zero, List.set_cons_succ]
        refine WL.val (by kernel_rfl) (.bool true) (by go_simp) ?_
        simp only [Act.put, List.setIfInBounds_toArray, List.set_cons_zero, List.set_cons_succ]
        refine WL.val (by kernel_rfl) (.bool true) (by go_simp) ?_
        simp only [Act.put, List.setIfInBounds_toArray, List.set_cons_zero, List.set_cons_succ]
        refine WL.nil ?_
        refine hK6 _ _ ?_
        refine wp_cond_true rfl ?_
        refine wp_region_list (WL.out ?_)
        refine WL.val (by kernel_rfl) (.pointer (some ⟨x, 0, none⟩)) (by go_simp) ?_
        simp only [Act.put, List.setIfInBounds_toArray, List.set_cons_zero, List.set_cons_succ]
        refine WL.val (by kernel_rfl) (.int .i64 (a : Int)) (by go_simp) ?_
        simp only [Act.put, List.setIfInBounds_toArray, List.set_cons_zero, List.set_cons_succ]
        refine WL.callF (by kernel_rfl) 31 _ _ rfl Try.in31 #[ptr x, .int .i64 40, .int .i64 (a : Int)] (by simp [Act.eval]) ?_
        refine (xwrongG x vB _ a 40 w1 H0.out.rf).mono ?_
        rintro e w2 ⟨rfl, h1, h2⟩
        refine ⟨_, rfl, ?_⟩
        have H2 := Keep.mk (H0.out.call h1 h2)
        clear h1 h2 H0 e0
        simp only [Act.put, List.setIfInBounds_toArray, List.set_cons_zero, List.set_cons_succ]
        refine WL.storeR (by kernel_rfl) 27 (.tmp 9) (.tmp 38) rfl g9 (erA 40 (a : Int)) rfl rfl 27 (erA 0 0) H2.out.e (Try.size27B _ _) (erA_sizes _ _ _ _) (erA_one _ _) ?_
        have H3 := Keep.mk (H2.out.setE 40 (a : Int))
        generalize w2.setRow g9 (erA 40 (a : Int)) = w3 at *
        clear H2
        have e0 := H3.out.e.c 0 (erA_0 _ _)
        simp only [Act.put]
        refine WL.nil ?_
        refine hK5 _ _ ?_
        refine wp_seq_k fun K10 hK10 => ?_
        refine wp_seq_k fun K11 hK11 => ?_
        refine wp_region_list (WL.out ?_)
        refine WL.val (by kernel_rfl) (.pointer (some ⟨g9, 0, none⟩)) (by go_simp) ?_
        simp only [Act.put, List.setIfInBounds_toArray, List.set_cons_zero, List.set_cons_succ]
        refine WL.val (by kernel_rfl) (.int .i64 40) (by go_simp) ?_
        simp only [Act.put, List.setIfInBounds_toArray, List.set_cons_zero, List.set_cons_succ]
        refine WL.val (by kernel_rfl) (.bool true) (by go_simp) ?_
        simp only [Act.put, List.setIfInBounds_toArray, List.set_cons_zero, List.set_cons_succ]
        refine WL.nil ?_
        refine hK11 _ _ ?_
        refine wp_cond_true rfl ?_
        refine wp_seq_k fun K12 hK12 => ?_
        refine ret_step7 (fun _ _ d _ _ h => by cases d <;> exact h) x g4 g5 g6 g9 vB _ w w3 zeroOp 40 (a : Int) a H3.out ?_
        rintro v42 v43 wz hk4 hk5 hR
        refine hK12 _ _ ?_
        refine wp_ret ?_
        try simp only [Exit.then]
        refine bodyPost_ret (v := .tuple #[.agg (opA zeroOp), .agg (erA 40 (a : Int))]) (results_cell_cell_row Try.results36 _ _ g4 g5 59 27 _ _ (0, 0) (0, 0) _ _ rfl rfl hk4 hk5 Try.underlying59 rfl (Try.size59B _) Try.underlying27 rfl (Try.size27B _ _)) rfl ?_
        exact hR G (by rw [HGB.out]) (by rw [HGB.out]) (Or.inr ⟨by decide, rfl⟩) (fun h => absurd h (by decide))
      · have HI : Keep (hasI c ≠ []) := ⟨hasI_of c (by omega) (by omega)⟩
        rw [if_neg HI.out, hasI_flags c HI.out] at HGB
        refine wp_region_list (WL.out ?_)
        refine WL.val (by kernel_rfl) (.pointer (some ⟨g9, 0, none⟩)) (by go_simp) ?_
        simp only [Act.put, List.setIfInBounds_toArray, List.set_cons_zero, List.set_cons_succ]
        refine WL.val (by kernel_rfl) (.int .i64 0) (by go_simp) ?_
        simp only [Act.put, List.setIfInBounds_toArray, List.set_cons_zero, List.set_cons_succ]
        refine WL.val (by kernel_rfl) (.bool true) (by go_simp) ?_
        simp only [Act.put, List.setIfInBounds_toArray, List.set_cons_zero, List.set_cons_succ]
        refine WL.val (by kernel_rfl) (.bool true) (by go_simp) ?_
        simp only [Act.put, List.setIfInBounds_toArray, List.set_cons_zero, List.set_cons_succ]
        refine WL.val (by kernel_rfl) (.int .u8 c) (by go_simp) ?_
        simp only [Act.put, List.setIfInBounds_toArray, List.set_cons_zero, List.set_cons_succ]
        refine WL.val (by kernel_rfl) (.bool false) (by go_simp) ?_
        simp only [Act.put, List.setIfInBounds_toArray, List.set_cons_zero, List.set_cons_succ]
        refine WL.val (by kernel_rfl) (.bool false) (by go_simp) ?_
        simp only [Act.put, List.setIfInBounds_toArray, List.set_cons_zero, List.set_cons_succ]
        refine WL.val (by kernel_rfl) (.int .u8 c) (by go_simp) ?_
        simp only [Act.put, List.setIfInBounds_toArray, List.set_cons_zero, List.set_cons_succ]
        refine WL.val (by kernel_rfl) (.bool false) (by go_simp) ?_
        simp only [Act.put, List.setIfInBounds_toArray, List.set_cons_zero, List.set_cons_succ]
        refine WL.val (by kernel_rfl) (.bool false) (by go_simp) ?_
        simp only [Act.put, List.setIfInBounds_toArray, List.set_cons_zero, List.set_cons_succ]
        refine WL.val (by kernel_rfl) (.bool false) (by go_simp) ?_
        simp only [Act.put, List.setIfInBounds_toArray, List.set_cons_zero, List.set_cons_succ]
        refine WL.nil ?_
        refine hK6 _ _ ?_
        refine wp_cond_false rfl ?_
        refine wp_skip ?_
        refine hK5 _ _ ?_
        refine wp_seq_k fun K13 hK13 => ?_
        refine wp_seq_k fun K14 hK14 => ?_
        refine wp_region_list (WL.out ?_)
        refine WL.val (by kernel_rfl) (.pointer (some ⟨g9, 0, none⟩)) (by go_simp) ?_
        simp only [Act.put, List.setIfInBounds_toArray, List.set_cons_zero, List.set_cons_succ]
        refine WL.val (by kernel_rfl) (.int .i64 0) (by go_simp) ?_
        simp only [Act.put, List.setIfInBounds_toArray, List.set_cons_zero, List.set_cons_succ]
        refine WL.val (by kernel_rfl) (.bool false) (by go_simp) ?_
        simp only [Act.put, List.setIfInBounds_toArray, List.set_cons_zero, List.set_cons_succ]
        refine WL.nil ?_
        refine hK14 _ _ ?_
        refine wp_cond_false rfl ?_
        refine wp_skip ?_
        refine hK13 _ _ ?_
        refine wp_seq_k fun K15 hK15 => ?_
        refine wp_region_list (WL.out ?_)
        refine WL.val (by kernel_rfl) (.int .u8 c) (by go_simp) ?_
        simp only [Act.put, List.setIfInBounds_toArray, List.set_cons_zero, List.set_cons_succ]
        have hwc : IntKind.i64.wrap c = c := by rw [IntKind.wrap_i64]; have := hcr.out; omega
        refine WL.val (by kernel_rfl) (.int .i64 c) (by go_simp) ?_
        clear hwc
        simp only [Act.put, List.setIfInBounds_toArray, List.set_cons_zero, List.set_cons_succ]
        refine WL.val (by kernel_rfl) (.pointer (some ⟨g6, 0, none⟩)) (by go_simp) ?_
        simp only [Act.put, List.setIfInBounds_toArray, List.set_cons_zero, List.set_cons_succ]
        have c_o := H0.out.o.c 0 (opA_0 _)
        have f_o := H0.out.o.frozen 0
        refine WL.cell (by kernel_rfl) (w1.setCell ⟨g6, 0, none⟩ (.int .i64 c)) (by go_simp) ?_
        clear c_o f_o
        obtain ⟨y1, hy1⟩ : ∃ y' : OpV, y' = { zeroOp with kind := c } := ⟨_, rfl⟩
        have Ey1 := Keep.mk hy1
        clear hy1
        have H2 : Keep (OS w x g4 g5 g6 g9 vB y1 0 0 (a + 1) 0 0 (w1.setCell ⟨g6, 0, none⟩ (.int .i64 c))) := ⟨H0.out.setO y1 (by rw [Ey1.out]; have h := H0.out.o.set 0 (.int .i64 c); rw [set_0] at h; exact h) (Grown.setCell w1 g6 0 _ fun _ => rfl)⟩
        generalize w1.setCell ⟨g6, 0, none⟩ (.int .i64 c) = w2 at *
        clear H0
        have HI2 : Keep (OI w x g4 g5 g6 g9 vB L l c G (0 :: ((if txt c = true then [1] else []) ++ ((if c = 6 then [2] else []) ++ (if hat c = true then [3] else [])))) w2) := ⟨⟨y1, 0, 0, a + 1, H2.out, hp1.out, by rw [Ey1.out], .inl ⟨rfl, rfl, by rw [Ey1.out]; exact ok_kind zero_ok hcr.out.1 hcr.out.2, by rw [HGB.out, Ey1.out]⟩⟩⟩
        clear H2 e0
        simp only [Act.put]
        refine WL.nil ?_
        refine hK15 _ _ ?_
        refine wp_seq_k fun K16 hK16 => ?_
        refine key_step x g4 g5 g6 g9 vB L vl l w w2 G HRow.out Hb.out HBy.out HI2.out ?_
        rintro v47 v48 v49 v50 v51 v52 w3 hI
        have HI3 := Keep.mk hI
        clear hI
        have k_w3 := HI3.out.kind
        refine hK16 _ _ ?_
        refine wp_seq_k fun K17 hK17 => ?_
        refine wp_region_list (WL.out ?_)
        refine WL.val (by kernel_rfl) (.pointer (some ⟨g6, 0, none⟩)) (by go_simp) ?_
        simp only [Act.put, List.setIfInBounds_toArray, List.set_cons_zero, List.set_cons_succ]
        refine WL.val (by kernel_rfl) (.int .i64 c) (by go_simp) ?_
        simp only [Act.put, List.setIfInBounds_toArray, List.set_cons_zero, List.set_cons_succ]
        refine WL.callF (by kernel_rfl) 43 _ _ rfl Try.in43 #[.int .i64 c] (by simp [Act.eval]) ?_
        refine (hasText_any c w3).mono ?_
        rintro e w_y ⟨rfl, hwy⟩
        rw [hwy]
        clear hwy w_y
        refine ⟨_, rfl, ?_⟩
        simp only [Act.put, List.setIfInBounds_toArray, List.set_cons_zero, List.set_cons_succ]
        refine WL.val (by kernel_rfl) (.bool (txt c)) (by go_simp) ?_
        simp only [Act.put, List.setIfInBounds_toArray, List.set_cons_zero, List.set_cons_succ]
        refine WL.nil ?_
        refine hK17 _ _ ?_
        refine wp_seq_k fun K18 hK18 => ?_
        refine wp_seq_k fun K19 hK19 => ?_
        rcases Bool.eq_false_or_eq_true (txt c) with hq11 | hq11
        · rw [hq11]
          have hJ11 := HI3.out
          rw [if_pos (hq11)] at hJ11
          have HJ11 := Keep.mk hJ11
          clear hJ11
          refine wp_region_list (WL.out ?_)
          refine WL.val (by kernel_rfl) (.bool true) (by go_simp) ?_
          simp only [Act.put, List.setIfInBounds_toArray, List.set_cons_zero, List.set_cons_succ]
          refine WL.nil ?_
          refine hK19 _ _ ?_
          refine wp_cond_true rfl ?_
          refine text_step x g4 g5 g6 g9 vB L vl l w w3 G HRow.out Hb.out HBy.out HJ11.out ?_
          rintro v57 v58 v59 v60 v61 v62 w4 hI
          have HI4 := Keep.mk hI
          clear hI
          have k_w4 := HI4.out.kind
          refine hK18 _ _ ?_
          refine wp_seq_k fun K20 hK20 => ?_
          refine wp_seq_k fun K21 hK21 => ?_
          by_cases hq13 : c = 6
          · have hJ13 := HI4.out
            rw [if_pos (hq13)] at hJ13
            have HJ13 := Keep.mk hJ13
            clear hJ13
            refine wp_region_list (WL.out ?_)
            refine WL.val (by kernel_rfl) (.pointer (some ⟨g6, 0, none⟩)) (by go_simp) ?_
            simp only [Act.put, List.setIfInBounds_toArray, List.set_cons_zero, List.set_cons_succ]
            refine WL.val (by kernel_rfl) (.int .i64 c) (by go_simp) ?_
            simp only [Act.put, List.setIfInBounds_toArray, List.set_cons_zero, List.set_cons_succ]
            refine WL.val (by kernel_rfl) (.bool true) (by go_simp) ?_
            simp only [Act.put, List.setIfInBounds_toArray, List.set_cons_zero, List.set_cons_succ]
            refine WL.nil ?_
            refine hK21 _ _ ?_
            refine wp_cond_true rfl ?_
            refine n_step x g4 g5 g6 g9 vB L vl l w w4 G HRow.out Hb.out HBy.out HJ13.out ?_
            rintro v66 v67 v68 v69 v70 v71 w5 hI
            have HI5 := Keep.mk hI
            clear hI
            have k_w5 := HI5.out.kind
            refine hK20 _ _ ?_
            refine wp_seq_k fun K22 hK22 => ?_
            refine wp_region_list (WL.out ?_)
            refine WL.val (by kernel_rfl) (.pointer (some ⟨g6, 0, none⟩)) (by go_simp) ?_
            simp only [Act.put, List.setIfInBounds_toArray, List.set_cons_zero, List.set_cons_succ]
            refine WL.val (by kernel_rfl) (.int .i64 c) (by go_simp) ?_
            simp only [Act.put, List.setIfInBounds_toArray, List.set_cons_zero, List.set_cons_succ]
            refine WL.callF (by kernel_rfl) 45 _ _ rfl Try.in45 #[.int .i64 c] (by simp [Act.eval]) ?_
            refine (hasAt_any c w5).mono ?_
            rintro e w_y ⟨rfl, hwy⟩
            rw [hwy]
            clear hwy w_y
            refine ⟨_, rfl, ?_⟩
            simp only [Act.put, List.setIfInBounds_toArray, List.set_cons_zero, List.set_cons_succ]
            refine WL.val (by kernel_rfl) (.bool (hat c)) (by go_simp) ?_
            simp only [Act.put, List.setIfInBounds_toArray, List.set_cons_zero, List.set_cons_succ]
            refine WL.nil ?_
            refine hK22 _ _ ?_
            refine wp_seq_k fun K23 hK23 => ?_
            refine wp_seq_k fun K24 hK24 => ?_
            rcases Bool.eq_false_or_eq_true (hat c) with hq16 | hq16
            · rw [hq16]
              have hJ := HI5.out
              rw [if_pos hq16] at hJ
              obtain ⟨y, ew, eb, p, hS, hp, hk, hcc⟩ := hJ
              have HS := Keep.mk hS
              have Hp := Keep.mk hp
              have e0 := hS.e.c 0 (erA_0 _ _)
              clear hS hp hk
              rcases hcc with ⟨rfl, rfl, hok, hGx⟩ | ⟨hne, hE, hG1, hG2⟩
              · have Hok := Keep.mk hok
                have HGx := Keep.mk hGx
                clear hok hGx
                refine wp_region_list (WL.out ?_)
                refine WL.val (by kernel_rfl) (.bool true) (by go_simp) ?_
                simp only [Act.put, List.setIfInBounds_toArray, List.set_cons_zero, List.set_cons_succ]
                refine WL.val (by kernel_rfl) (.bool false) (by go_simp) ?_
                simp only [Act.put, List.setIfInBounds_toArray, List.set_cons_zero, List.set_cons_succ]
                refine WL.val (by kernel_rfl) (.bool false) (by go_simp) ?_
                simp only [Act.put, List.setIfInBounds_toArray, List.set_cons_zero, List.set_cons_succ]
                refine WL.val (by kernel_rfl) (.pointer (some ⟨g9, 0, none⟩)) (by go_simp) ?_
                simp only [Act.put, List.setIfInBounds_toArray, List.set_cons_zero, List.set_cons_succ]
                refine WL.val (by kernel_rfl) (.int .i64 0) (by go_simp) ?_
                simp only [Act.put, List.setIfInBounds_toArray, List.set_cons_zero, List.set_cons_succ]
                refine WL.val (by kernel_rfl) (.bool false) (by go_simp) ?_
                simp only [Act.put, List.setIfInBounds_toArray, List.set_cons_zero, List.set_cons_succ]
                refine WL.val (by kernel_rfl) (.bool false) (by go_simp) ?_
                simp only [Act.put, List.setIfInBounds_toArray, List.set_cons_zero, List.set_cons_succ]
                refine WL.nil ?_
                refine hK24 _ _ ?_
                refine wp_cond_false rfl ?_
                refine wp_skip ?_
                refine hK23 _ _ ?_
                refine at_end x g4 g5 g6 g9 vB L vl l w w5 G HRow.out Hb.out HBy.out HVl.out Hln.out y p HS.out Hok.out Hp.out ?_
                rw [HGx.out]
                exact getFs_1 L l 3 y p
              · skip
                refine wp_region_list (WL.out ?_)
                refine WL.val (by kernel_rfl) (.bool true) (by go_simp) ?_
                simp only [Act.put, List.setIfInBounds_toArray, List.set_cons_zero, List.set_cons_succ]
                refine WL.val (by kernel_rfl) (.bool false) (by go_simp) ?_
                simp only [Act.put, List.setIfInBounds_toArray, List.set_cons_zero, List.set_cons_succ]
                refine WL.val (by kernel_rfl) (.bool false) (by go_simp) ?_
                simp only [Act.put, List.setIfInBounds_toArray, List.set_cons_zero, List.set_cons_succ]
                refine WL.val (by kernel_rfl) (.pointer (some ⟨g9, 0, none⟩)) (by go_simp) ?_
                simp only [Act.put, List.setIfInBounds_toArray, List.set_cons_zero, List.set_cons_succ]
                refine WL.val (by kernel_rfl) (.int .i64 ew) (by go_simp) ?_
                simp only [Act.put, List.setIfInBounds_toArray, List.set_cons_zero, List.set_cons_succ]
                refine WL.val (by kernel_rfl) (.bool true) (by go_simp) ?_
                simp only [Act.put, List.setIfInBounds_toArray, List.set_cons_zero, List.set_cons_succ]
                refine WL.val (by kernel_rfl) (.bool true) (by go_simp) ?_
                simp only [Act.put, List.setIfInBounds_toArray, List.set_cons_zero, List.set_cons_succ]
                refine WL.nil ?_
                refine hK24 _ _ ?_
                refine wp_cond_true rfl ?_
                refine wp_seq_k fun K25 hK25 => ?_
                refine ret_step17 (fun _ _ d _ _ h => by cases d <;> exact h) x g4 g5 g6 g9 vB _ w w5 y ew eb p HS.out ?_
                rintro v82 v83 wz hk4 hk5 hR
                refine hK25 _ _ ?_
                refine wp_ret ?_
                try simp only [Exit.then]
                refine bodyPost_ret (v := .tuple #[.agg (opA y), .agg (erA ew eb)]) (results_cell_cell_row Try.results36 _ _ g4 g5 59 27 _ _ (0, 0) (0, 0) _ _ rfl rfl hk4 hk5 Try.underlying59 rfl (Try.size59B _) Try.underlying27 rfl (Try.size27B _ _)) rfl ?_
                exact hR G hG1 hG2 hE (fun h => absurd h hne)
            · rw [hq16]
              have hJ := HI5.out
              rw [if_neg (by rw [hq16]; decide)] at hJ
              obtain ⟨y, ew, eb, p, hS, hp, hk, hcc⟩ := hJ
              have HS := Keep.mk hS
              have Hp := Keep.mk hp
              have e0 := hS.e.c 0 (erA_0 _ _)
              clear hS hp hk
              rcases hcc with ⟨rfl, rfl, hok, hGx⟩ | ⟨hne, hE, hG1, hG2⟩
              · have Hok := Keep.mk hok
                have HGx := Keep.mk hGx
                clear hok hGx
                refine wp_region_list (WL.out ?_)
                refine WL.val (by kernel_rfl) (.bool false) (by go_simp) ?_
                simp only [Act.put, List.setIfInBounds_toArray, List.set_cons_zero, List.set_cons_succ]
                refine WL.val (by kernel_rfl) (.bool true) (by go_simp) ?_
                simp only [Act.put, List.setIfInBounds_toArray, List.set_cons_zero, List.set_cons_succ]
                refine WL.val (by kernel_rfl) (.bool true) (by go_simp) ?_
                simp only [Act.put, List.setIfInBounds_toArray, List.set_cons_zero, List.set_cons_succ]
                refine WL.skip (by kernel_rfl) ?_
                simp only [Act.put, List.setIfInBounds_toArray, List.set_cons_zero, List.set_cons_succ]
                refine WL.skip (by kernel_rfl) ?_
                simp only [Act.put, List.setIfInBounds_toArray, List.set_cons_zero, List.set_cons_succ]
                refine WL.skip (by kernel_rfl) ?_
                simp only [Act.put, List.setIfInBounds_toArray, List.set_cons_zero, List.set_cons_succ]
                refine WL.val (by kernel_rfl) (.bool true) (by go_simp) ?_
                simp only [Act.put, List.setIfInBounds_toArray, List.set_cons_zero, List.set_cons_succ]
                refine WL.nil ?_
                refine hK24 _ _ ?_
                refine wp_cond_true rfl ?_
                refine wp_seq_k fun K26 hK26 => ?_
                refine ret_step17 (fun _ _ d _ _ h => by cases d <;> exact h) x g4 g5 g6 g9 vB _ w w5 y 0 0 p HS.out ?_
                rintro v82 v83 wz hk4 hk5 hR
                refine hK26 _ _ ?_
                refine wp_ret ?_
                try simp only [Exit.then]
                refine bodyPost_ret (v := .tuple #[.agg (opA y), .agg (erA 0 0)]) (results_cell_cell_row Try.results36 _ _ g4 g5 59 27 _ _ (0, 0) (0, 0) _ _ rfl rfl hk4 hk5 Try.underlying59 rfl (Try.size59B _) Try.underlying27 rfl (Try.size27B _ _)) rfl ?_
                exact hR G (by rw [HGx.out]; rfl) (by rw [HGx.out]; rfl) (Or.inl ⟨rfl, rfl⟩) (fun _ => ⟨by rw [HGx.out]; rfl, Hok.out⟩)
              · skip
                refine wp_region_list (WL.out ?_)
                refine WL.val (by kernel_rfl) (.bool false) (by go_simp) ?_
                simp only [Act.put, List.setIfInBounds_toArray, List.set_cons_zero, List.set_cons_succ]
                refine WL.val (by kernel_rfl) (.bool true) (by go_simp) ?_
                simp only [Act.put, List.setIfInBounds_toArray, List.set_cons_zero, List.set_cons_succ]
                refine WL.val (by kernel_rfl) (.bool true) (by go_simp) ?_
                simp only [Act.put, List.setIfInBounds_toArray, List.set_cons_zero, List.set_cons_succ]
                refine WL.skip (by kernel_rfl) ?_
                simp only [Act.put, List.setIfInBounds_toArray, List.set_cons_zero, List.set_cons_succ]
                refine WL.skip (by kernel_rfl) ?_
                simp only [Act.put, List.setIfInBounds_toArray, List.set_cons_zero, List.set_cons_succ]
                refine WL.skip (by kernel_rfl) ?_
                simp only [Act.put, List.setIfInBounds_toArray, List.set_cons_zero, List.set_cons_succ]
                refine WL.val (by kernel_rfl) (.bool true) (by go_simp) ?_
                simp only [Act.put, List.setIfInBounds_toArray, List.set_cons_zero, List.set_cons_succ]
                refine WL.nil ?_
                refine hK24 _ _ ?_
                refine wp_cond_true rfl ?_
                refine wp_seq_k fun K27 hK27 => ?_
                refine ret_step17 (fun _ _ d _ _ h => by cases d <;> exact h) x g4 g5 g6 g9 vB _ w w5 y ew eb p HS.out ?_
                rintro v82 v83 wz hk4 hk5 hR
                refine hK27 _ _ ?_
                refine wp_ret ?_
                try simp only [Exit.then]
                refine bodyPost_ret (v := .tuple #[.agg (opA y), .agg (erA ew eb)]) (results_cell_cell_row Try.results36 _ _ g4 g5 59 27 _ _ (0, 0) (0, 0) _ _ rfl rfl hk4 hk5 Try.underlying59 rfl (Try.size59B _) Try.underlying27 rfl (Try.size27B _ _)) rfl ?_
                exact hR G hG1 hG2 hE (fun h => absurd h hne)
          · have hJ13 := HI4.out
            rw [if_neg (hq13)] at hJ13
            have HJ13 := Keep.mk hJ13
            clear hJ13
            refine wp_region_list (WL.out ?_)
            refine WL.val (by kernel_rfl) (.pointer (some ⟨g6, 0, none⟩)) (by go_simp) ?_
            simp only [Act.put, List.setIfInBounds_toArray, List.set_cons_zero, List.set_cons_succ]
            refine WL.val (by kernel_rfl) (.int .i64 c) (by go_simp) ?_
            simp only [Act.put, List.setIfInBounds_toArray, List.set_cons_zero, List.set_cons_succ]
            refine WL.val (by kernel_rfl) (.bool false) (by go_simp) ?_
            simp only [Act.put, List.setIfInBounds_toArray, List.set_cons_zero, List.set_cons_succ]
            refine WL.nil ?_
            refine hK21 _ _ ?_
            refine wp_cond_false rfl ?_
            refine wp_skip ?_
            refine hK20 _ _ ?_
            refine wp_seq_k fun K28 hK28 => ?_
            refine wp_region_list (WL.out ?_)
            refine WL.val (by kernel_rfl) (.pointer (some ⟨g6, 0, none⟩)) (by go_simp) ?_
            simp only [Act.put, List.setIfInBounds_toArray, List.set_cons_zero, List.set_cons_succ]
            refine WL.val (by kernel_rfl) (.int .i64 c) (by go_simp) ?_
            simp only [Act.put, List.setIfInBounds_toArray, List.set_cons_zero, List.set_cons_succ]
            refine WL.callF (by kernel_rfl) 45 _ _ rfl Try.in45 #[.int .i64 c] (by simp [Act.eval]) ?_
            refine (hasAt_any c w4).mono ?_
            rintro e w_y ⟨rfl, hwy⟩
            rw [hwy]
            clear hwy w_y
            refine ⟨_, rfl, ?_⟩
            simp only [Act.put, List.setIfInBounds_toArray, List.set_cons_zero, List.set_cons_succ]
            refine WL.val (by kernel_rfl) (.bool (hat c)) (by go_simp) ?_
            simp only [Act.put, List.setIfInBounds_toArray, List.set_cons_zero, List.set_cons_succ]
            refine WL.nil ?_
            refine hK28 _ _ ?_
            refine wp_seq_k fun K29 hK29 => ?_
            refine wp_seq_k fun K30 hK30 => ?_
            rcases Bool.eq_false_or_eq_true (hat c) with hq16 | hq16
            · rw [hq16]
              have hJ := HJ13.out
              rw [if_pos hq16] at hJ
              obtain ⟨y, ew, eb, p, hS, hp, hk, hcc⟩ := hJ
              have HS := Keep.mk hS
              have Hp := Keep.mk hp
              have e0 := hS.e.c 0 (erA_0 _ _)
              clear hS hp hk
              rcases hcc with ⟨rfl, rfl, hok, hGx⟩ | ⟨hne, hE, hG1, hG2⟩
              · have Hok := Keep.mk hok
                have HGx := Keep.mk hGx
                clear hok hGx
                refine wp_region_list (WL.out ?_)
                refine WL.val (by kernel_rfl) (.bool true) (by go_simp) ?_
                simp only [Act.put, List.setIfInBounds_toArray, List.set_cons_zero, List.set_cons_succ]
                refine WL.val (by kernel_rfl) (.bool false) (by go_simp) ?_
                simp only [Act.put, List.setIfInBounds_toArray, List.set_cons_zero, List.set_cons_succ]
                refine WL.val (by kernel_rfl) (.bool false) (by go_simp) ?_
                simp only [Act.put, List.setIfInBounds_toArray, List.set_cons_zero, List.set_cons_succ]
                refine WL.val (by kernel_rfl) (.pointer (some ⟨g9, 0, none⟩)) (by go_simp) ?_
                simp only [Act.put, List.setIfInBounds_toArray, List.set_cons_zero, List.set_cons_succ]
                refine WL.val (by kernel_rfl) (.int .i64 0) (by go_simp) ?_
                simp only [Act.put, List.setIfInBounds_toArray, List.set_cons_zero, List.set_cons_succ]
                refine WL.val (by kernel_rfl) (.bool false) (by go_simp) ?_
                simp only [Act.put, List.setIfInBounds_toArray, List.set_cons_zero, List.set_cons_succ]
                refine WL.val (by kernel_rfl) (.bool false) (by go_simp) ?_
                simp only [Act.put, List.setIfInBounds_toArray, List.set_cons_zero, List.set_cons_succ]
                refine WL.nil ?_
                refine hK30 _ _ ?_
                refine wp_cond_false rfl ?_
                refine wp_skip ?_
                refine hK29 _ _ ?_
                refine at_end x g4 g5 g6 g9 vB L vl l w w4 G HRow.out Hb.out HBy.out HVl.out Hln.out y p HS.out Hok.out Hp.out ?_
                rw [HGx.out]
                exact getFs_1 L l 3 y p
              · skip
                refine wp_region_list (WL.out ?_)
                refine WL.val (by kernel_rfl) (.bool true) (by go_simp) ?_
                simp only [Act.put, List.setIfInBounds_toArray, List.set_cons_zero, List.set_cons_succ]
                refine WL.val (by kernel_rfl) (.bool false) (by go_simp) ?_
                simp only [Act.put, List.setIfInBounds_toArray, List.set_cons_zero, List.set_cons_succ]
                refine WL.val (by kernel_rfl) (.bool false) (by go_simp) ?_
                simp only [Act.put, List.setIfInBounds_toArray, List.set_cons_zero, List.set_cons_succ]
                refine WL.val (by kernel_rfl) (.pointer (some ⟨g9, 0, none⟩)) (by go_simp) ?_
                simp only [Act.put, List.setIfInBounds_toArray, List.set_cons_zero, List.set_cons_succ]
                refine WL.val (by kernel_rfl) (.int .i64 ew) (by go_simp) ?_
                simp only [Act.put, List.setIfInBounds_toArray, List.set_cons_zero, List.set_cons_succ]
                refine WL.val (by kernel_rfl) (.bool true) (by go_simp) ?_
                simp only [Act.put, List.setIfInBounds_toArray, List.set_cons_zero, List.set_cons_succ]
                refine WL.val (by kernel_rfl) (.bool true) (by go_simp) ?_
                simp only [Act.put, List.setIfInBounds_toArray, List.set_cons_zero, List.set_cons_succ]
                refine WL.nil ?_
                refine hK30 _ _ ?_
                refine wp_cond_true rfl ?_
                refine wp_seq_k fun K31 hK31 => ?_
                refine ret_step17 (fun _ _ d _ _ h => by cases d <;> exact h) x g4 g5 g6 g9 vB _ w w4 y ew eb p HS.out ?_
                rintro v82 v83 wz hk4 hk5 hR
                refine hK31 _ _ ?_
                refine wp_ret ?_
                try simp only [Exit.then]
                refine bodyPost_ret (v := .tuple #[.agg (opA y), .agg (erA ew eb)]) (results_cell_cell_row Try.results36 _ _ g4 g5 59 27 _ _ (0, 0) (0, 0) _ _ rfl rfl hk4 hk5 Try.underlying59 rfl (Try.size59B _) Try.underlying27 rfl (Try.size27B _ _)) rfl ?_
                exact hR G hG1 hG2 hE (fun h => absurd h hne)
            · rw [hq16]
              have hJ := HJ13.out
              rw [if_neg (by rw [hq16]; decide)] at hJ
              obtain ⟨y, ew, eb, p, hS, hp, hk, hcc⟩ := hJ
              have HS := Keep.mk hS
              have Hp := Keep.mk hp
              have e0 := hS.e.c 0 (erA_0 _ _)
              clear hS hp hk
              rcases hcc with ⟨rfl, rfl, hok, hGx⟩ | ⟨hne, hE, hG1, hG2⟩
              · have Hok := Keep.mk hok
                have HGx := Keep.mk hGx
                clear hok hGx
                refine wp_region_list (WL.out ?_)
                refine WL.val (by kernel_rfl) (.bool false) (by go_simp) ?_
                simp only [Act.put, List.setIfInBounds_toArray, List.set_cons_zero, List.set_cons_succ]
                refine WL.val (by kernel_rfl) (.bool true) (by go_simp) ?_
                simp only [Act.put, List.setIfInBounds_toArray, List.set_cons_zero, List.set_cons_succ]
                refine WL.val (by kernel_rfl) (.bool true) (by go_simp) ?_
                simp only [Act.put, List.setIfInBounds_toArray, List.set_cons_zero, List.set_cons_succ]
                refine WL.skip (by kernel_rfl) ?_
                simp only [Act.put, List.setIfInBounds_toArray, List.set_cons_zero, List.set_cons_succ]
                refine WL.skip (by kernel_rfl) ?_
                simp only [Act.put, List.setIfInBounds_toArray, List.set_cons_zero, List.set_cons_succ]
                refine WL.skip (by kernel_rfl) ?_
                simp only [Act.put, List.setIfInBounds_toArray, List.set_cons_zero, List.set_cons_succ]
                refine WL.val (by kernel_rfl) (.bool true) (by go_simp) ?_
                simp only [Act.put, List.setIfInBounds_toArray, List.set_cons_zero, List.set_cons_succ]
                refine WL.nil ?_
                refine hK30 _ _ ?_
                refine wp_cond_true rfl ?_
                refine wp_seq_k fun K32 hK32 => ?_
                refine ret_step17 (fun _ _ d _ _ h => by cases d <;> exact h) x g4 g5 g6 g9 vB _ w w4 y 0 0 p HS.out ?_
                rintro v82 v83 wz hk4 hk5 hR
                refine hK32 _ _ ?_
                refine wp_ret ?_
                try simp only [Exit.then]
                refine bodyPost_ret (v := .tuple #[.agg (opA y), .agg (erA 0 0)]) (results_cell_cell_row Try.results36 _ _ g4 g5 59 27 _ _ (0, 0) (0, 0) _ _ rfl rfl hk4 hk5 Try.underlying59 rfl (Try.size59B _) Try.underlying27 rfl (Try.size27B _ _)) rfl ?_
                exact hR G (by rw [HGx.out]; rfl) (by rw [HGx.out]; rfl) (Or.inl ⟨rfl, rfl⟩) (fun _ => ⟨by rw [HGx.out]; rfl, Hok.out⟩)
              · skip
                refine wp_region_list (WL.out ?_)
                refine WL.val (by kernel_rfl) (.bool false) (by go_simp) ?_
                simp only [Act.put, List.setIfInBounds_toArray, List.set_cons_zero, List.set_cons_succ]
                refine WL.val (by kernel_rfl) (.bool true) (by go_simp) ?_
                simp only [Act.put, List.setIfInBounds_toArray, List.set_cons_zero, List.set_cons_succ]
                refine WL.val (by kernel_rfl) (.bool true) (by go_simp) ?_
                simp only [Act.put, List.setIfInBounds_toArray, List.set_cons_zero, List.set_cons_succ]
                refine WL.skip (by kernel_rfl) ?_
                simp only [Act.put, List.setIfInBounds_toArray, List.set_cons_zero, List.set_cons_succ]
                refine WL.skip (by kernel_rfl) ?_
                simp only [Act.put, List.setIfInBounds_toArray, List.set_cons_zero, List.set_cons_succ]
                refine WL.skip (by kernel_rfl) ?_
                simp only [Act.put, List.setIfInBounds_toArray, List.set_cons_zero, List.set_cons_succ]
                refine WL.val (by kernel_rfl) (.bool true) (by go_simp) ?_
                simp only [Act.put, List.setIfInBounds_toArray, List.set_cons_zero, List.set_cons_succ]
                refine WL.nil ?_
                refine hK30 _ _ ?_
                refine wp_cond_true rfl ?_
                refine wp_seq_k fun K33 hK33 => ?_
                refine ret_step17 (fun _ _ d _ _ h => by cases d <;> exact h) x g4 g5 g6 g9 vB _ w w4 y ew eb p HS.out ?_
                rintro v82 v83 wz hk4 hk5 hR
                refine hK33 _ _ ?_
                refine wp_ret ?_
                try simp only [Exit.then]
                refine bodyPost_ret (v := .tuple #[.agg (opA y), .agg (erA ew eb)]) (results_cell_cell_row Try.results36 _ _ g4 g5 59 27 _ _ (0, 0) (0, 0) _ _ rfl rfl hk4 hk5 Try.underlying59 rfl (Try.size59B _) Try.underlying27 rfl (Try.size27B _ _)) rfl ?_
                exact hR G hG1 hG2 hE (fun h => absurd h hne)
        · rw [hq11]
          have hJ11 := HI3.out
          rw [if_neg ((by rw [hq11]; decide))] at hJ11
          have HJ11 := Keep.mk hJ11
          clear hJ11
          refine wp_region_list (WL.out ?_)
          refine WL.val (by kernel_rfl) (.bool false) (by go_simp) ?_
          simp only [Act.put, List.setIfInBounds_toArray, List.set_cons_zero, List.set_cons_succ]
          refine WL.nil ?_
          refine hK19 _ _ ?_
          refine wp_cond_false rfl ?_
          refine wp_skip ?_
          refine hK18 _ _ ?_
          refine wp_seq_k fun K34 hK34 => ?_
          refine wp_seq_k fun K35 hK35 => ?_
          by_cases hq13 : c = 6
          · have hJ13 := HJ11.out
            rw [if_pos (hq13)] at hJ13
            have HJ13 := Keep.mk hJ13
            clear hJ13
            refine wp_region_list (WL.out ?_)
            refine WL.val (by kernel_rfl) (.pointer (some ⟨g6, 0, none⟩)) (by go_simp) ?_
            simp only [Act.put, List.setIfInBounds_toArray, List.set_cons_zero, List.set_cons_succ]
            refine WL.val (by kernel_rfl) (.int .i64 c) (by go_simp) ?_
            simp only [Act.put, List.setIfInBounds_toArray, List.set_cons_zero, List.set_cons_succ]
            refine WL.val (by kernel_rfl) (.bool true) (by go_simp) ?_
            simp only [Act.put, List.setIfInBounds_toArray, List.set_cons_zero, List.set_cons_succ]
            refine WL.nil ?_
            refine hK35 _ _ ?_
            refine wp_cond_true rfl ?_
            refine n_step x g4 g5 g6 g9 vB L vl l w w3 G HRow.out Hb.out HBy.out HJ13.out ?_
            rintro v66 v67 v68 v69 v70 v71 w5 hI
            have HI5 := Keep.mk hI
            clear hI
            have k_w5 := HI5.out.kind
            refine hK34 _ _ ?_
            refine wp_seq_k fun K36 hK36 => ?_
            refine wp_region_list (WL.out ?_)
            refine WL.val (by kernel_rfl) (.pointer (some ⟨g6, 0, none⟩)) (by go_simp) ?_
            simp only [Act.put, List.setIfInBounds_toArray, List.set_cons_zero, List.set_cons_succ]
            refine WL.val (by kernel_rfl) (.int .i64 c) (by go_simp) ?_
            simp only [Act.put, List.setIfInBounds_toArray, List.set_cons_zero, List.set_cons_succ]
            refine WL.callF (by kernel_rfl) 45 _ _ rfl Try.in45 #[.int .i64 c] (by simp [Act.eval]) ?_
            refine (hasAt_any c w5).mono ?_
            rintro e w_y ⟨rfl, hwy⟩
            rw [hwy]
            clear hwy w_y
            refine ⟨_, rfl, ?_⟩
            simp only [Act.put, List.setIfInBounds_toArray, List.set_cons_zero, List.set_cons_succ]
            refine WL.val (by kernel_rfl) (.bool (hat c)) (by go_simp) ?_
            simp only [Act.put, List.setIfInBounds_toArray, List.set_cons_zero, List.set_cons_succ]
            refine WL.nil ?_
            refine hK36 _ _ ?_
            refine wp_seq_k fun K37 hK37 => ?_
            refine wp_seq_k fun K38 hK38 => ?_
            rcases Bool.eq_false_or_eq_true (hat c) with hq16 | hq16
            · rw [hq16]
              have hJ := HI5.out
              rw [if_pos hq16] at hJ
              obtain ⟨y, ew, eb, p, hS, hp, hk, hcc⟩ := hJ
              have HS := Keep.mk hS
              have Hp := Keep.mk hp
              have e0 := hS.e.c 0 (erA_0 _ _)
              clear hS hp hk
              rcases hcc with ⟨rfl, rfl, hok, hGx⟩ | ⟨hne, hE, hG1, hG2⟩
              · have Hok := Keep.mk hok
                have HGx := Keep.mk hGx
                clear hok hGx
                refine wp_region_list (WL.out ?_)
                refine WL.val (by kernel_rfl) (.bool true) (by go_simp) ?_
                simp only [Act.put, List.setIfInBounds_toArray, List.set_cons_zero, List.set_cons_succ]
                refine WL.val (by kernel_rfl) (.bool false) (by go_simp) ?_
                simp only [Act.put, List.setIfInBounds_toArray, List.set_cons_zero, List.set_cons_succ]
                refine WL.val (by kernel_rfl) (.bool false) (by go_simp) ?_
                simp only [Act.put, List.setIfInBounds_toArray, List.set_cons_zero, List.set_cons_succ]
                refine WL.val (by kernel_rfl) (.pointer (some ⟨g9, 0, none⟩)) (by go_simp) ?_
                simp only [Act.put, List.setIfInBounds_toArray, List.set_cons_zero, List.set_cons_succ]
                refine WL.val (by kernel_rfl) (.int .i64 0) (by go_simp) ?_
                simp only [Act.put, List.setIfInBounds_toArray, List.set_cons_zero, List.set_cons_succ]
                refine WL.val (by kernel_rfl) (.bool false) (by go_simp) ?_
                simp only [Act.put, List.setIfInBounds_toArray, List.set_cons_zero, List.set_cons_succ]
                refine WL.val (by kernel_rfl) (.bool false) (by go_simp) ?_
                simp only [Act.put, List.setIfInBounds_toArray, List.set_cons_zero, List.set_cons_succ]
                refine WL.nil ?_
                refine hK38 _ _ ?_
                refine wp_cond_false rfl ?_
                refine wp_skip ?_
                refine hK37 _ _ ?_
                refine at_end x g4 g5 g6 g9 vB L vl l w w5 G HRow.out Hb.out HBy.out HVl.out Hln.out y p HS.out Hok.out Hp.out ?_
                rw [HGx.out]
                exact getFs_1 L l 3 y p
              · skip
                refine wp_region_list (WL.out ?_)
                refine WL.val (by kernel_rfl) (.bool true) (by go_simp) ?_
                simp only [Act.put, List.setIfInBounds_toArray, List.set_cons_zero, List.set_cons_succ]
                refine WL.val (by kernel_rfl) (.bool false) (by go_simp) ?_
                simp only [Act.put, List.setIfInBounds_toArray, List.set_cons_zero, List.set_cons_succ]
                refine WL.val (by kernel_rfl) (.bool false) (by go_simp) ?_
                simp only [Act.put, List.setIfInBounds_toArray, List.set_cons_zero, List.set_cons_succ]
                refine WL.val (by kernel_rfl) (.pointer (some ⟨g9, 0, none⟩)) (by go_simp) ?_
                simp only [Act.put, List.setIfInBounds_toArray, List.set_cons_zero, List.set_cons_succ]
                refine WL.val (by kernel_rfl) (.int .i64 ew) (by go_simp) ?_
                simp only [Act.put, List.setIfInBounds_toArray, List.set_cons_zero, List.set_cons_succ]
                refine WL.val (by kernel_rfl) (.bool true) (by go_simp) ?_
                simp only [Act.put, List.setIfInBounds_toArray, List.set_cons_zero, List.set_cons_succ]
                refine WL.val (by kernel_rfl) (.bool true) (by go_simp) ?_
                simp only [Act.put, List.setIfInBounds_toArray, List.set_cons_zero, List.set_cons_succ]
                refine WL.nil ?_
                refine hK38 _ _ ?_
                refine wp_cond_true rfl ?_
                refine wp_seq_k fun K39 hK39 => ?_
                refine ret_step17 (fun _ _ d _ _ h => by cases d <;> exact h) x g4 g5 g6 g9 vB _ w w5 y ew eb p HS.out ?_
                rintro v82 v83 wz hk4 hk5 hR
                refine hK39 _ _ ?_
                refine wp_ret ?_
                try simp only [Exit.then]
                refine bodyPost_ret (v := .tuple #[.agg (opA y), .agg (erA ew eb)]) (results_cell_cell_row Try.results36 _ _ g4 g5 59 27 _ _ (0, 0) (0, 0) _ _ rfl rfl hk4 hk5 Try.underlying59 rfl (Try.size59B _) Try.underlying27 rfl (Try.size27B _ _)) rfl ?_
                exact hR G hG1 hG2 hE (fun h => absurd h hne)
            · rw [hq16]
              have hJ := HI5.out
              rw [if_neg (by rw [hq16]; decide)] at hJ
              obtain ⟨y, ew, eb, p, hS, hp, hk, hcc⟩ := hJ
              have HS := Keep.mk hS
              have Hp := Keep.mk hp
              have e0 := hS.e.c 0 (erA_0 _ _)
              clear hS hp hk
              rcases hcc with ⟨rfl, rfl, hok, hGx⟩ | ⟨hne, hE, hG1, hG2⟩
              · have Hok := Keep.mk hok
                have HGx := Keep.mk hGx
                clear hok hGx
                refine wp_region_list (WL.out ?_)
                refine WL.val (by kernel_rfl) (.bool false) (by go_simp) ?_
                simp only [Act.put, List.setIfInBounds_toArray, List.set_cons_zero, List.set_cons_succ]
                refine WL.val (by kernel_rfl) (.bool true) (by go_simp) ?_
                simp only [Act.put, List.setIfInBounds_toArray, List.set_cons_zero, List.set_cons_succ]
                refine WL.val (by kernel_rfl) (.bool true) (by go_simp) ?_
                simp only [Act.put, List.setIfInBounds_toArray, List.set_cons_zero, List.set_cons_succ]
                refine WL.skip (by kernel_rfl) ?_
                simp only [Act.put, List.setIfInBounds_toArray, List.set_cons_zero, List.set_cons_succ]
                refine WL.skip (by kernel_rfl) ?_
                simp only [Act.put, List.setIfInBounds_toArray, List.set_cons_zero, List.set_cons_succ]
                refine WL.skip (by kernel_rfl) ?_
                simp only [Act.put, List.setIfInBounds_toArray, List.set_cons_zero, List.set_cons_succ]
                refine WL.val (by kernel_rfl) (.bool true) (by go_simp) ?_
                simp only [Act.put, List.setIfInBounds_toArray, List.set_cons_zero, List.set_cons_succ]
                refine WL.nil ?_
                refine hK38 _ _ ?_
                refine wp_cond_true rfl ?_
                refine wp_seq_k fun K40 hK40 => ?_
                refine ret_step17 (fun _ _ d _ _ h => by cases d <;> exact h) x g4 g5 g6 g9 vB _ w w5 y 0 0 p HS.out ?_
                rintro v82 v83 wz hk4 hk5 hR
                refine hK40 _ _ ?_
                refine wp_ret ?_
                try simp only [Exit.then]
                refine bodyPost_ret (v := .tuple #[.agg (opA y), .agg (erA 0 0)]) (results_cell_cell_row Try.results36 _ _ g4 g5 59 27 _ _ (0, 0) (0, 0) _ _ rfl rfl hk4 hk5 Try.underlying59 rfl (Try.size59B _) Try.underlying27 rfl (Try.size27B _ _)) rfl ?_
                exact hR G (by rw [HGx.out]; rfl) (by rw [HGx.out]; rfl) (Or.inl ⟨rfl, rfl⟩) (fun _ => ⟨by rw [HGx.out]; rfl, Hok.out⟩)
              · skip
                refine wp_region_list (WL.out ?_)
                refine WL.val (by kernel_rfl) (.bool false) (by go_simp) ?_
                simp only [Act.put, List.setIfInBounds_toArray, List.set_cons_zero, List.set_cons_succ]
                refine WL.val (by kernel_rfl) (.bool true) (by go_simp) ?_
                simp only [Act.put, List.setIfInBounds_toArray, List.set_cons_zero, List.set_cons_succ]
                refine WL.val (by kernel_rfl) (.bool true) (by go_simp) ?_
                simp only [Act.put, List.setIfInBounds_toArray, List.set_cons_zero, List.set_cons_succ]
                refine WL.skip (by kernel_rfl) ?_
                simp only [Act.put, List.setIfInBounds_toArray, List.set_cons_zero, List.set_cons_succ]
                refine WL.skip (by kernel_rfl) ?_
                simp only [Act.put, List.setIfInBounds_toArray, List.set_cons_zero, List.set_cons_succ]
                refine WL.skip (by kernel_rfl) ?_
                simp only [Act.put, List.setIfInBounds_toArray, List.set_cons_zero, List.set_cons_succ]
                refine WL.val (by kernel_rfl) (.bool true) (by go_simp) ?_
                simp only [Act.put, List.setIfInBounds_toArray, List.set_cons_zero, List.set_cons_succ]
                refine WL.nil ?_
                refine hK38 _ _ ?_
                refine wp_cond_true rfl ?_
                refine wp_seq_k fun K41 hK41 => ?_
                refine ret_step17 (fun _ _ d _ _ h => by cases d <;> exact h) x g4 g5 g6 g9 vB _ w w5 y ew eb p HS.out ?_
                rintro v82 v83 wz hk4 hk5 hR
                refine hK41 _ _ ?_
                refine wp_ret ?_
                try simp only [Exit.then]
                refine bodyPost_ret (v := .tuple #[.agg (opA y), .agg (erA ew eb)]) (results_cell_cell_row Try.results36 _ _ g4 g5 59 27 _ _ (0, 0) (0, 0) _ _ rfl rfl hk4 hk5 Try.underlying59 rfl (Try.size59B _) Try.underlying27 rfl (Try.size27B _ _)) rfl ?_
                exact hR G hG1 hG2 hE (fun h => absurd h hne)
          · have hJ13 := HJ11.out
            rw [if_neg (hq13)] at hJ13
            have HJ13 := Keep.mk hJ13
            clear hJ13
            refine wp_region_list (WL.out ?_)
            refine WL.val (by kernel_rfl) (.pointer (some ⟨g6, 0, none⟩)) (by go_simp) ?_
            simp only [Act.put, List.setIfInBounds_toArray, List.set_cons_zero, List.set_cons_succ]
            refine WL.val (by kernel_rfl) (.int .i64 c) (by go_simp) ?_
            simp only [Act.put, List.setIfInBounds_toArray, List.set_cons_zero, List.set_cons_succ]
            refine WL.val (by kernel_rfl) (.bool false) (by go_simp) ?_
            simp only [Act.put, List.setIfInBounds_toArray, List.set_cons_zero, List.set_cons_succ]
            refine WL.nil ?_
            refine hK35 _ _ ?_
            refine wp_cond_false rfl ?_
            refine wp_skip ?_
            refine hK34 _ _ ?_
            refine wp_seq_k fun K42 hK42 => ?_
            refine wp_region_list (WL.out ?_)
            refine WL.val (by kernel_rfl) (.pointer (some ⟨g6, 0, none⟩)) (by go_simp) ?_
            simp only [Act.put, List.setIfInBounds_toArray, List.set_cons_zero, List.set_cons_succ]
            refine WL.val (by kernel_rfl) (.int .i64 c) (by go_simp) ?_
            simp only [Act.put, List.setIfInBounds_toArray, List.set_cons_zero, List.set_cons_succ]
            refine WL.callF (by kernel_rfl) 45 _ _ rfl Try.in45 #[.int .i64 c] (by simp [Act.eval]) ?_
            refine (hasAt_any c w3).mono ?_
            rintro e w_y ⟨rfl, hwy⟩
            rw [hwy]
            clear hwy w_y
            refine ⟨_, rfl, ?_⟩
            simp only [Act.put, List.setIfInBounds_toArray, List.set_cons_zero, List.set_cons_succ]
            refine WL.val (by kernel_rfl) (.bool (hat c)) (by go_simp) ?_
            simp only [Act.put, List.setIfInBounds_toArray, List.set_cons_zero, List.set_cons_succ]
            refine WL.nil ?_
            refine hK42 _ _ ?_
            refine wp_seq_k fun K43 hK43 => ?_
            refine wp_seq_k fun K44 hK44 => ?_
            rcases Bool.eq_false_or_eq_true (hat c) with hq16 | hq16
            · rw [hq16]
              have hJ := HJ13.out
              rw [if_pos hq16] at hJ
              obtain ⟨y, ew, eb, p, hS, hp, hk, hcc⟩ := hJ
              have HS := Keep.mk hS
              have Hp := Keep.mk hp
              have e0 := hS.e.c 0 (erA_0 _ _)
              clear hS hp hk
              rcases hcc with ⟨rfl, rfl, hok, hGx⟩ | ⟨hne, hE, hG1, hG2⟩
              · have Hok := Keep.mk hok
                have HGx := Keep.mk hGx
                clear hok hGx
                refine wp_region_list (WL.out ?_)
                refine WL.val (by kernel_rfl) (.bool true) (by go_simp) ?_
                simp only [Act.put, List.setIfInBounds_toArray, List.set_cons_zero, List.set_cons_succ]
                refine WL.val (by kernel_rfl) (.bool false) (by go_simp) ?_
                simp only [Act.put, List.setIfInBounds_toArray, List.set_cons_zero, List.set_cons_succ]
                refine WL.val (by kernel_rfl) (.bool false) (by go_simp) ?_
                simp only [Act.put, List.setIfInBounds_toArray, List.set_cons_zero, List.set_cons_succ]
                refine WL.val (by kernel_rfl) (.pointer (some ⟨g9, 0, none⟩)) (by go_simp) ?_
                simp only [Act.put, List.setIfInBounds_toArray, List.set_cons_zero, List.set_cons_succ]
                refine WL.val (by kernel_rfl) (.int .i64 0) (by go_simp) ?_
                simp only [Act.put, List.setIfInBounds_toArray, List.set_cons_zero, List.set_cons_succ]
                refine WL.val (by kernel_rfl) (.bool false) (by go_simp) ?_
                simp only [Act.put, List.setIfInBounds_toArray, List.set_cons_zero, List.set_cons_succ]
                refine WL.val (by kernel_rfl) (.bool false) (by go_simp) ?_
                simp only [Act.put, List.setIfInBounds_toArray, List.set_cons_zero, List.set_cons_succ]
                refine WL.nil ?_
                refine hK44 _ _ ?_
                refine wp_cond_false rfl ?_
                refine wp_skip ?_
                refine hK43 _ _ ?_
                refine at_end x g4 g5 g6 g9 vB L vl l w w3 G HRow.out Hb.out HBy.out HVl.out Hln.out y p HS.out Hok.out Hp.out ?_
                rw [HGx.out]
                exact getFs_1 L l 3 y p
              · skip
                refine wp_region_list (WL.out ?_)
                refine WL.val (by kernel_rfl) (.bool true) (by go_simp) ?_
                simp only [Act.put, List.setIfInBounds_toArray, List.set_cons_zero, List.set_cons_succ]
                refine WL.val (by kernel_rfl) (.bool false) (by go_simp) ?_
                simp only [Act.put, List.setIfInBounds_toArray, List.set_cons_zero, List.set_cons_succ]
                refine WL.val (by kernel_rfl) (.bool false) (by go_simp) ?_
                simp only [Act.put, List.setIfInBounds_toArray, List.set_cons_zero, List.set_cons_succ]
                refine WL.val (by kernel_rfl) (.pointer (some ⟨g9, 0, none⟩)) (by go_simp) ?_
                simp only [Act.put, List.setIfInBounds_toArray, List.set_cons_zero, List.set_cons_succ]
                refine WL.val (by kernel_rfl) (.int .i64 ew) (by go_simp) ?_
                simp only [Act.put, List.setIfInBounds_toArray, List.set_cons_zero, List.set_cons_succ]
                refine WL.val (by kernel_rfl) (.bool true) (by go_simp) ?_
                simp only [Act.put, List.setIfInBounds_toArray, List.set_cons_zero, List.set_cons_succ]
                refine WL.val (by kernel_rfl) (.bool true) (by go_simp) ?_
                simp only [Act.put, List.setIfInBounds_toArray, List.set_cons_zero, List.set_cons_succ]
                refine WL.nil ?_
                refine hK44 _ _ ?_
                refine wp_cond_true rfl ?_
                refine wp_seq_k fun K45 hK45 => ?_
                refine ret_step17 (fun _ _ d _ _ h => by cases d <;> exact h) x g4 g5 g6 g9 vB _ w w3 y ew eb p HS.out ?_
                rintro v82 v83 wz hk4 hk5 hR
                refine hK45 _ _ ?_
                refine wp_ret ?_
                try simp only [Exit.then]
                refine bodyPost_ret (v := .tuple #[.agg (opA y), .agg (erA ew eb)]) (results_cell_cell_row Try.results36 _ _ g4 g5 59 27 _ _ (0, 0) (0, 0) _ _ rfl rfl hk4 hk5 Try.underlying59 rfl (Try.size59B _) Try.underlying27 rfl (Try.size27B _ _)) rfl ?_
                exact hR G hG1 hG2 hE (fun h => absurd h hne)
            · rw [hq16]
              have hJ := HJ13.out
              rw [if_neg (by rw [hq16]; decide)] at hJ
              obtain ⟨y, ew, eb, p, hS, hp, hk, hcc⟩ := hJ
              have HS := Keep.mk hS
              have Hp := Keep.mk hp
              have e0 := hS.e.c 0 (erA_0 _ _)
              clear hS hp hk
              rcases hcc with ⟨rfl, rfl, hok, hGx⟩ | ⟨hne, hE, hG1, hG2⟩
              · have Hok := Keep.mk hok
                have HGx := Keep.mk hGx
                clear hok hGx
                refine wp_region_list (WL.out ?_)
                refine WL.val (by kernel_rfl) (.bool false) (by go_simp) ?_
                simp only [Act.put, List.setIfInBounds_toArray, List.set_cons_zero, List.set_cons_succ]
                refine WL.val (by kernel_rfl) (.bool true) (by go_simp) ?_
                simp only [Act.put, List.setIfInBounds_toArray, List.set_cons_zero, List.set_cons_succ]
                refine WL.val (by kernel_rfl) (.bool true) (by go_simp) ?_
                simp only [Act.put, List.setIfInBounds_toArray, List.set_cons_zero, List.set_cons_succ]
                refine WL.skip (by kernel_rfl) ?_
                simp only [Act.put, List.setIfInBounds_toArray, List.set_cons_zero, List.set_cons_succ]
                refine WL.skip (by kernel_rfl) ?_
                simp only [Act.put, List.setIfInBounds_toArray, List.set_cons_zero, List.set_cons_succ]
                refine WL.skip (by kernel_rfl) ?_
                simp only [Act.put, List.setIfInBounds_toArray, List.set_cons_zero, List.set_cons_succ]
                refine WL.val (by kernel_rfl) (.bool true) (by go_simp) ?_
                simp only [Act.put, List.setIfInBounds_toArray, List.set_cons_zero, List.set_cons_succ]
                refine WL.nil ?_
                refine hK44 _ _ ?_
                refine wp_cond_true rfl ?_
                refine wp_seq_k fun K46 hK46 => ?_
                refine ret_step17 (fun _ _ d _ _ h => by cases d <;> exact h) x g4 g5 g6 g9 vB _ w w3 y 0 0 p HS.out ?_
                rintro v82 v83 wz hk4 hk5 hR
                refine hK46 _ _ ?_
                refine wp_ret ?_
                try simp only [Exit.then]
                refine bodyPost_ret (v := .tuple #[.agg (opA y), .agg (erA 0 0)]) (results_cell_cell_row Try.results36 _ _ g4 g5 59 27 _ _ (0, 0) (0, 0) _ _ rfl rfl hk4 hk5 Try.underlying59 rfl (Try.size59B _) Try.underlying27 rfl (Try.size27B _ _)) rfl ?_
                exact hR G (by rw [HGx.out]; rfl) (by rw [HGx.out]; rfl) (Or.inl ⟨rfl, rfl⟩) (fun _ => ⟨by rw [HGx.out]; rfl, Hok.out⟩)
              · skip
                refine wp_region_list (WL.out ?_)
                refine WL.val (by kernel_rfl) (.bool false) (by go_simp) ?_
                simp only [Act.put, List.setIfInBounds_toArray, List.set_cons_zero, List.set_cons_succ]
                refine WL.val (by kernel_rfl) (.bool true) (by go_simp) ?_
                simp only [Act.put, List.setIfInBounds_toArray, List.set_cons_zero, List.set_cons_succ]
                refine WL.val (by kernel_rfl) (.bool true) (by go_simp) ?_
                simp only [Act.put, List.setIfInBounds_toArray, List.set_cons_zero, List.set_cons_succ]
                refine WL.skip (by kernel_rfl) ?_
                simp only [Act.put, List.setIfInBounds_toArray, List.set_cons_zero, List.set_cons_succ]
                refine WL.skip (by kernel_rfl) ?_
                simp only [Act.put, List.setIfInBounds_toArray, List.set_cons_zero, List.set_cons_succ]
                refine WL.skip (by kernel_rfl) ?_
                simp only [Act.put, List.setIfInBounds_toArray, List.set_cons_zero, List.set_cons_succ]
                refine WL.val (by kernel_rfl) (.bool true) (by go_simp) ?_
                simp only [Act.put, List.setIfInBounds_toArray, List.set_cons_zero, List.set_cons_succ]
                refine WL.nil ?_
                refine hK44 _ _ ?_
                refine wp_cond_true rfl ?_
                refine wp_seq_k fun K47 hK47 => ?_
                refine ret_step17 (fun _ _ d _ _ h => by cases d <;> exact h) x g4 g5 g6 g9 vB _ w w3 y ew eb p HS.out ?_
                rintro v82 v83 wz hk4 hk5 hR
                refine hK47 _ _ ?_
                refine wp_ret ?_
                try simp only [Exit.then]
                refine bodyPost_ret (v := .tuple #[.agg (opA y), .agg (erA ew eb)]) (results_cell_cell_row Try.results36 _ _ g4 g5 59 27 _ _ (0, 0) (0, 0) _ _ rfl rfl hk4 hk5 Try.underlying59 rfl (Try.size59B _) Try.underlying27 rfl (Try.size27B _ _)) rfl ?_
                exact hR G hG1 hG2 hE (fun h => absurd h hne)
  · have HGB := Keep.mk HG.out
    rw [if_pos hE1] at HGB
    refine wp_region_list (WL.out ?_)
    refine WL.val (by kernel_rfl) (.pointer (some ⟨g9, 0, none⟩)) (by go_simp) ?_
    simp only [Act.put, List.setIfInBounds_toArray, List.set_cons_zero, List.set_cons_succ]
    refine WL.val (by kernel_rfl) (.int .i64 W1) (by go_simp) ?_
    simp only [Act.put, List.setIfInBounds_toArray, List.set_cons_zero, List.set_cons_succ]
    refine WL.val (by kernel_rfl) (.bool false) (by go_simp) ?_
    simp only [Act.put, List.setIfInBounds_toArray, List.set_cons_zero, List.set_cons_succ]
    refine WL.val (by kernel_rfl) (.bool false) (by go_simp) ?_
    simp only [Act.put, List.setIfInBounds_toArray, List.set_cons_zero, List.set_cons_succ]
    refine WL.skip (by kernel_rfl) ?_
    simp only [Act.put, List.setIfInBounds_toArray, List.set_cons_zero, List.set_cons_succ]
    refine WL.skip (by kernel_rfl) ?_
    simp only [Act.put, List.setIfInBounds_toArray, List.set_cons_zero, List.set_cons_succ]
    refine WL.skip (by kernel_rfl) ?_
    simp only [Act.put, List.setIfInBounds_toArray, List.set_cons_zero, List.set_cons_succ]
    refine WL.skip (by kernel_rfl) ?_
    simp only [Act.put, List.setIfInBounds_toArray, List.set_cons_zero, List.set_cons_succ]
    refine WL.skip (by kernel_rfl) ?_
    simp only [Act.put, List.setIfInBounds_toArray, List.set_cons_zero, List.set_cons_succ]
    refine WL.skip (by kernel_rfl) ?_
    simp only [Act.put, List.setIfInBounds_toArray, List.set_cons_zero, List.set_cons_succ]
    refine WL.val (by kernel_rfl) (.bool false) (by go_simp) ?_
    simp only [Act.put, List.setIfInBounds_toArray, List.set_cons_zero, List.set_cons_succ]
    refine WL.nil ?_
    refine hK6 _ _ ?_
    refine wp_cond_false rfl ?_
    refine wp_skip ?_
    refine hK5 _ _ ?_
    refine wp_seq_k fun K48 hK48 => ?_
    refine wp_seq_k fun K49 hK49 => ?_
    refine wp_region_list (WL.out ?_)
    refine WL.val (by kernel_rfl) (.pointer (some ⟨g9, 0, none⟩)) (by go_simp) ?_
    simp only [Act.put, List.setIfInBounds_toArray, List.set_cons_zero, List.set_cons_succ]
    refine WL.val (by kernel_rfl) (.int .i64 W1) (by go_simp) ?_
    simp only [Act.put, List.setIfInBounds_toArray, List.set_cons_zero, List.set_cons_succ]
    refine WL.val (by kernel_rfl) (.bool true) (by go_simp) ?_
    simp only [Act.put, List.setIfInBounds_toArray, List.set_cons_zero, List.set_cons_succ]
    refine WL.nil ?_
    refine hK49 _ _ ?_
    refine wp_cond_true rfl ?_
    refine wp_seq_k fun K50 hK50 => ?_
    refine ret_step7 (fun _ _ d _ _ h => by cases d <;> exact h) x g4 g5 g6 g9 vB _ w w1 zeroOp W1 b1 (a + N1) H0.out ?_
    rintro v42 v43 wz hk4 hk5 hR
    refine hK50 _ _ ?_
    refine wp_ret ?_
    try simp only [Exit.then]
    refine bodyPost_ret (v := .tuple #[.agg (opA zeroOp), .agg (erA W1 b1)]) (results_cell_cell_row Try.results36 _ _ g4 g5 59 27 _ _ (0, 0) (0, 0) _ _ rfl rfl hk4 hk5 Try.underlying59 rfl (Try.size59B _) Try.underlying27 rfl (Try.size27B _ _)) rfl ?_
    exact hR G (by rw [HGB.out]) (by rw [HGB.out]) HEb.out (fun h => absurd h hE1)
theorem bs0 (w : World) : (Instr.buildSlice 36 0 #[]).run Try.prog w = .ok (.slice (some ⟨w.heap.size, 0, none⟩) 0 0) (w.alloc (.cells #[] 59)) := by kernel_rfl
theorem getF_le {L : List Int} {l : List OpV} {i : Nat} {y : OpV} {a : Nat} (ha : a ≤ L.length) : (getF L l i y a).2.1 ≤ L.length := by
  unfold getF
  split
  · exact adv ha (byt_n _ _)
  split
  · exact adv ha (byt_n _ _)
  split
  · exact adv ha (fst_n _ _)
  unfold getA
  split
  · exact adv ha (fst_n _ _)
  split
  · split
    · exact adv ha (fst_n _ _)
    · exact ha
  split
  · exact adv (adv ha (fst_n _ _)) (next_n _ _)
  · rename_i h
    split
    · have h1 := (nextN_0 _ 32 (by simpa using h)).2.2
      exact adv (adv ha (fst_n _ _)) h1
    · exact ha
theorem getFs_le {L : List Int} {l : List OpV} : ∀ (is : List Nat) {y : OpV} {a : Nat}, a ≤ L.length → (getFs L l is y a).2.1 ≤ L.length
  | [], _, _, ha => ha
  | i :: is, y, a, ha => by
    rw [getFs]
    split
    · exact getFs_le is (getF_le ha)
    · exact getF_le ha
theorem getO_le {L : List Int} {l : List OpV} {a : Nat} (ha : a ≤ L.length) : (getO L l a).2.1 ≤ L.length := by
  unfold getO
  split
  · exact adv ha (next_n _ _)
  split
  · exact ha
  · rename_i h _
    have h1 := (nextN_0 _ 1 (by simpa using h)).2.2
    exact getFs_le _ (adv ha (by simpa using h1))
theorem Try.results11 : Try.f11.results = #[.tmp 2, .cell 3 27] := by kernel_rfl
theorem OwnO.bs0 (w : World) : OwnO (w.alloc (.cells #[] 59)) (.slice (some ⟨w.heap.size, 0, none⟩) 0 0) [] := ⟨rfl, .inr ⟨w.heap.size, 0, #[], rfl, Nat.zero_le _, Blk.new w 59 #[], Nat.le_refl _, Nat.zero_le _, rfl, rfl⟩⟩
def RGet (x : Nat) (vB : Value) (R : Int × Nat × List OpV) (w : World) (e : Ending) (w' : World) : Prop :=
  ∃ v b, e = .returned (.tuple #[v, .agg (erA R.1 b)]) ∧ ErrB R.1 R.2.1 b ∧ RfAt w' x vB R.2.1 R.1 b ∧ (Grown w w' fun k => k = x) ∧ (R.1 = 0 → OwnO w' v R.2.2 ∧ ∀ k, v.ownBlock = some k → w.heap.size ≤ k) ∧ (R.1 ≠ 0 → v = .slice none 0 0)
def RL (w : World) (x g3 g5 : Nat) (vB : Value) (L : List Int) (n : Nat) (G : Int × Nat × List OpV) (t : Nat) (v : Value) (w1 : World) : Prop :=
  Blk w1 g3 27 (erA 0 0) ∧ (Grown w w1 fun k => k = x) ∧
    ((∃ l p, Blk w1 g5 27 (erA 0 0) ∧ RfAt w1 x vB p 0 0 ∧ p ≤ L.length ∧ OwnO w1 v l ∧ (∀ k, v.ownBlock = some k → w.heap.size ≤ k) ∧ l.length = t ∧ t ≤ n ∧ G = getN L (n - t) l p)
      ∨ (∃ ew eb p, ew ≠ 0 ∧ Blk w1 g5 27 (erA ew eb) ∧ RfAt w1 x vB p ew eb ∧ ErrB ew p eb ∧ G.1 = ew ∧ G.2.1 = p))
theorem RGet.mk0 {w w1 : World} {x g3 : Nat} {vB v : Value} {G : Int × Nat × List OpV} {l : List OpV} {p : Nat} (hG : G = (0, p, l)) (hf : RfAt w1 x vB p 0 0) (hg : Grown w w1 fun k => k = x) (ho : OwnO w1 v l) (hz : Blk w1 g3 27 (erA 0 0)) (hn : v.ownBlock ≠ some g3) (h3 : w.heap.size ≤ g3) (hfr : ∀ k, v.ownBlock = some k → w.heap.size ≤ k) :
    RGet x vB G w (.returned (.tuple #[v, .agg (erA 0 0)])) (w1.drew.setRow g3 (erA 0 0)) := by
  have gs : Grown w1.drew (w1.drew.setRow g3 (erA 0 0)) fun k => k = g3 := Grown.setRow w1.drew g3 _ fun _ => rfl
  refine ⟨v, 0, by rw [hG], by rw [hG]; exact .inl ⟨rfl, rfl⟩, ?_, hg.drew.next gs (fun k hk e => by omega), fun _ => ⟨?_, hfr⟩, fun h => absurd (by rw [hG]) h⟩
  · rw [hG]; exact Blk.setRow_ne (Blk.drew hf) (blk_ne hf hz (by decide)) _
  · rw [hG]; exact (ho.below (Below.refl _ _).drew).grown gs (fun k hk e => by rw [e] at hk; exact hn hk)
theorem RGet.mk1 {w w1 : World} {x g3 : Nat} {vB : Value} {G : Int × Nat × List OpV} {p : Nat} {ew eb : Int} (h1 : G.1 = ew) (h2 : G.2.1 = p) (hne : ew ≠ 0) (hE : ErrB ew p eb) (hf : RfAt w1 x vB p ew eb) (hg : Grown w w1 fun k => k = x) (hz : Blk w1 g3 27 (erA 0 0)) (h3 : w.heap.size ≤ g3) :
    RGet x vB G w (.returned (.tuple #[.slice none 0 0, .agg (erA ew eb)])) (w1.drew.setRow g3 (erA ew eb)) := by
  have gs : Grown w1.drew (w1.drew.setRow g3 (erA ew eb)) fun k => k = g3 := Grown.setRow w1.drew g3 _ fun _ => rfl
  refine ⟨.slice none 0 0, eb, by rw [h1], by rw [h1, h2]; exact hE, ?_, hg.drew.next gs (fun k hk e => by omega), fun h => absurd (h1 ▸ h) hne, fun _ => rfl⟩
  rw [h1, h2]; exact Blk.setRow_ne (Blk.drew hf) (blk_ne hf hz (by decide)) _
set_option maxRecDepth 8000 in
set_option maxHeartbeats 4000000 in
theorem rget_any (x : Nat) (vB : Value) (L : List Int) (a : Nat) (w : World) (hF : RfAt w x vB a 0 0) (hR : ∀ wx, (Grown w wx fun k => k = x) → RowAt wx vB L) (ha : a ≤ L.length) (hb : L.length ≤ 140737488355328) (hby : Byts L) :
    Calls Try.prog 11 #[ptr x] w (RGet x vB (getL L a) w) := by
  obtain ⟨D1, hD1⟩ : ∃ z, Keep (z = L.drop a) := ⟨_, ⟨rfl⟩⟩
  obtain ⟨X1, N1, W1, hM1', hN1'⟩ := fst_tri D1 1024
  obtain ⟨G, hG⟩ : ∃ G, G = getL L a := ⟨_, rfl⟩
  rw [← hG]
  unfold getL at hG
  rw [← hD1.out, hM1'] at hG
  simp only [Int.toNat_natCast] at hG
  have hM1 := Keep.mk hM1'
  have hrg1 : Keep (0 ≤ X1 ∧ X1 ≤ 1024) := ⟨by have h := fst_rng D1 (by rw [hD1.out]; exact hby.drop _) 1024 (by decide); rw [hM1'] at h; exact h⟩
  obtain ⟨n, rfl⟩ : ∃ n : Nat, X1 = (n : Int) := ⟨X1.toNat, by have := hrg1.out; omega⟩
  have Hnn : Keep (n ≤ 1024) := ⟨by have := hrg1.out; omega⟩
  have hwn : IntKind.i64.wrap (n : Int) = (n : Int) := by rw [IntKind.wrap_i64]; have := Hnn.out; omega
  have hN1 := Keep.mk hN1'
  have Hp1 : Keep (a + N1 ≤ L.length) := ⟨adv ha (by rw [hD1.out] at hN1'; exact hN1')⟩
  have HStart : Keep (∀ (g5 : Nat) (b1 : Int) (v : Value) (w4 : World), ErrB W1 (a + N1) b1 → Blk w4 g5 27 (erA W1 b1) → RfAt w4 x vB (a + N1) W1 b1 → OwnO w4 v [] → (∀ k, v.ownBlock = some k → w.heap.size ≤ k) → ((∃ l p, Blk w4 g5 27 (erA 0 0) ∧ RfAt w4 x vB p 0 0 ∧ p ≤ L.length ∧ OwnO w4 v l ∧ (∀ k, v.ownBlock = some k → w.heap.size ≤ k) ∧ l.length = 0 ∧ 0 ≤ n ∧ G = getN L (n - 0) l p) ∨ (∃ ew eb p, ew ≠ 0 ∧ Blk w4 g5 27 (erA ew eb) ∧ RfAt w4 x vB p ew eb ∧ ErrB ew p eb ∧ G.1 = ew ∧ G.2.1 = p))) := ⟨fun g5 b1 v w4 hE h5 hf ho hk => by
    by_cases hz : W1 = 0
    · have hb0 : b1 = 0 := by
        rcases hE with ⟨_, h⟩ | ⟨h, _⟩
        · exact h
        · exact absurd hz h
      rw [hz, hb0] at h5 hf
      rw [if_neg (by simp [hz])] at hG
      try rw [Int.toNat_natCast] at hG
      exact .inl ⟨[], a + N1, h5, hf, Hp1.out, ho, hk, rfl, Nat.zero_le _, hG⟩
    · rw [if_pos hz] at hG
      exact .inr ⟨W1, b1, a + N1, hz, h5, hf, hE, by rw [hG], by rw [hG]⟩⟩
  have HF := Keep.mk hF
  have Ha := Keep.mk ha
  have HRow := Keep.mk hR
  have Hb := Keep.mk hb
  have HBy := Keep.mk hby
  clear hR hb hby
  clear hG hF ha hM1' hN1'
  go_enter Try.func11, Try.ntmps11
  refine wp_seq_k fun K1 hK1 => ?_
  refine wp_region_list (WL.out ?_)
  refine WL.val (by kernel_rfl) (.slice none 0 0) (by go_simp) ?_
  simp only [Act.put, List.setIfInBounds_toArray, List.set_cons_zero, List.set_cons_succ]
  refine WL.new (by kernel_rfl) 27 rfl _ Try.new27E ?_
  have Z3 := Keep.mk (Blk.new w 27 (erA 0 0))
  have B1 : Keep (Below w.heap.size w (w.alloc (.cells (erA 0 0) 27))) := ⟨below_new w _⟩
  generalize w.alloc (.cells (erA 0 0) 27) = w1 at *
  obtain ⟨g3, hg3⟩ : ∃ g, g = w.heap.size := ⟨_, rfl⟩
  have Hg3 := Keep.mk hg3
  rw [← hg3] at Z3 ⊢
  clear hg3
  have HF1 : Keep (RfAt w1 x vB a 0 0) := ⟨Blk.below HF.out B1.out (Blk.lt HF.out)⟩
  simp only [Act.put, List.setIfInBounds_toArray, List.set_cons_zero, List.set_cons_succ]
  refine WL.nil ?_
  refine hK1 _ _ ?_
  refine wp_seq_k fun K2 hK2 => ?_
  refine wp_region_list (WL.out ?_)
  refine WL.val (by kernel_rfl) (.pointer (some ⟨x, 0, none⟩)) (by go_simp) ?_
  simp only [Act.put, List.setIfInBounds_toArray, List.set_cons_zero, List.set_cons_succ]
  refine WL.callF (by kernel_rfl) 35 _ _ rfl Try.in35 #[ptr x, .int .u64 1024] (by simp [Act.eval]) ?_
  refine (xnum_good x vB L a 1024 w1 HF1.out (fun wx hx => HRow.out wx ((Grown.below B1.out).trans hx)) Ha.out Hb.out HBy.out D1 hD1.out W1 (n : Int) N1 hM1.out).mono ?_
  rintro e w2 ⟨b1, hE, rfl, h1, h2⟩
  refine ⟨.tuple #[.int .u64 (n : Int), .agg (erA W1 b1)], rfl, ?_⟩
  have HEb := Keep.mk hE
  have HF2 := Keep.mk h1
  have Z32 := Keep.mk (h2.blk Z3.out (blk_ne Z3.out HF1.out (by decide)))
  have G2 : Keep (Grown w w2 fun k => k = x) := ⟨(Grown.below B1.out).trans h2⟩
  clear h1 h2 hE Z3 HF1 B1
  simp only [Act.put, List.setIfInBounds_toArray, List.set_cons_zero, List.set_cons_succ]
  refine WL.val (by kernel_rfl) (.tuple #[.int .u64 (n : Int), .agg (erA W1 b1)]) (by go_simp) ?_
  simp only [Act.put, List.setIfInBounds_toArray, List.set_cons_zero, List.set_cons_succ]
  refine WL.val (by kernel_rfl) (.int .u64 (n : Int)) (by go_simp) ?_
  simp only [Act.put, List.setIfInBounds_toArray, List.set_cons_zero, List.set_cons_succ]
  refine WL.val (by kernel_rfl) (.agg (erA W1 b1)) (by go_simp) ?_
  simp only [Act.put, List.setIfInBounds_toArray, List.set_cons_zero, List.set_cons_succ]
  refine WL.new (by kernel_rfl) 27 rfl _ Try.new27E ?_
  simp only [Act.put, List.setIfInBounds_toArray, List.set_cons_zero, List.set_cons_succ]
  refine WL.val (by kernel_rfl) (.int .u64 (n : Int)) (by go_simp) ?_
  simp only [Act.put, List.setIfInBounds_toArray, List.set_cons_zero, List.set_cons_succ]
  refine WL.storeR (by kernel_rfl) 27 (.tmp 5) (.tmp 14) rfl w2.heap.size (erA W1 b1) rfl rfl 27 (erA 0 0) (Blk.new w2 27 _) (Try.size27B _ _) (erA_sizes _ _ _ _) (erA_one _ _) ?_
  have bq := below_setRow (below_new w2 (.cells (erA 0 0) 27)) (Nat.le_refl w2.heap.size) (erA W1 b1)
  have Z5 := Keep.mk ((Blk.new w2 27 (erA 0 0)).setRow (erA W1 b1))
  generalize (w2.alloc (.cells (erA 0 0) 27)).setRow w2.heap.size (erA W1 b1) = w3 at *
  have Z33 := Keep.mk (Z32.out.below bq Z32.out.lt)
  have HF3 : Keep (RfAt w3 x vB (a + N1) W1 b1) := ⟨Blk.below HF2.out bq (Blk.lt HF2.out)⟩
  have G3 : Keep (Grown w w3 fun k => k = x) := ⟨G2.out.trans (Grown.below bq)⟩
  have H35 : Keep (g3 ≠ w2.heap.size) := ⟨fun e => by have := Z32.out.lt; omega⟩
  have H5 : Keep (w.heap.size ≤ w2.heap.size) := ⟨G2.out.size⟩
  clear bq Z32 HF2 G2
  generalize w2.heap.size = g5 at *
  skip
  simp only [Act.put]
  refine WL.nil ?_
  refine hK2 _ _ ?_
  refine wp_seq_k fun K3 hK3 => ?_
  refine wp_region_list (WL.out ?_)
  refine WL.bs (by kernel_rfl) 36 0 _ rfl #[] (by simp) _ _ (bs0 w3) ?_
  have HO4 := Keep.mk (OwnO.bs0 w3)
  have bq := below_new w3 (.cells #[] 59)
  have Hk4 : Keep (w.heap.size ≤ w3.heap.size) := ⟨G3.out.size⟩
  obtain ⟨v4, hv4⟩ : ∃ v, v = Value.slice (some ⟨w3.heap.size, 0, none⟩) 0 0 := ⟨_, rfl⟩
  have Hn4 : Keep (∀ k, v4.ownBlock = some k → w.heap.size ≤ k) := ⟨fun k hk => by rw [hv4] at hk; simp [Value.ownBlock] at hk; have := Hk4.out; omega⟩
  rw [← hv4] at HO4 ⊢
  clear hv4
  generalize w3.alloc (.cells #[] 59) = w4 at *
  have Z34 := Keep.mk (Z33.out.below bq Z33.out.lt)
  have Z54 := Keep.mk (Z5.out.below bq Z5.out.lt)
  have HF4 : Keep (RfAt w4 x vB (a + N1) W1 b1) := ⟨Blk.below HF3.out bq (Blk.lt HF3.out)⟩
  have G4 : Keep (Grown w w4 fun k => k = x) := ⟨G3.out.trans (Grown.below bq)⟩
  clear bq Z33 Z5 HF3 G3 Hk4
  have HL0 : Keep (RL w x g3 g5 vB L n G 0 v4 w4) := ⟨⟨Z34.out, G4.out, HStart.out g5 b1 v4 w4 HEb.out Z54.out HF4.out HO4.out Hn4.out⟩⟩
  clear Z34 Z54 HF4 G4 HO4 Hn4
  simp only [Act.put, List.setIfInBounds_toArray, List.set_cons_zero, List.set_cons_succ]
  refine WL.val (by kernel_rfl) (v4) (by go_simp) ?_
  simp only [Act.put, List.setIfInBounds_toArray, List.set_cons_zero, List.set_cons_succ]
  refine WL.nil ?_
  refine hK3 _ _ ?_
  refine wp_seq_k fun K4 hK4 => ?_
  refine wp_seq_k fun K5 hK5 => ?_
  refine wp_region_list (WL.out ?_)
  refine WL.val (by kernel_rfl) (.int .i64 0) (by go_simp) ?_
  simp only [Act.put, List.setIfInBounds_toArray, List.set_cons_zero, List.set_cons_succ]
  refine WL.nil ?_
  refine hK5 _ _ ?_
  refine wp_block ?_
  refine wp_loop (fun ac wr => ∃ (t : Nat) (u6 u8 u9 u16 u17 u18 u19 u20 u21 u22 u23 u24 u25 u26 u27 u28 u29 u30 u31 u32 u33 u34 u35 u36 u37 : Value), ac = { tmps := #[.pointer (some ⟨x, 0, none⟩), undef, .slice none 0 0, .pointer (some ⟨g3, 0, none⟩), .int .u64 (n : Int), .pointer (some ⟨g5, 0, none⟩), u6, .int .i64 (t : Int), u8, u9, .tuple #[.int .u64 (n : Int), .agg (erA W1 b1)], .pointer (some ⟨x, 0, none⟩), .tuple #[.int .u64 (n : Int), .agg (erA W1 b1)], .int .u64 (n : Int), .agg (erA W1 b1), v4, u16, u17, u18, u19, u20, u21, u22, u23, u24, u25, u26, u27, u28, u29, u30, u31, u32, u33, u34, u35, u36, u37, undef, undef, undef, undef, undef, undef], defers := [] } ∧ RL w x g3 g5 vB L n G t u6 wr) (fun a _ => n - (intOf (a.tmps.getD 7 undef)).toNat) ⟨0, v4, undef, undef, undef, undef, undef, undef, undef, undef, undef, undef, undef, undef, undef, undef, undef, undef, undef, undef, undef, undef, undef, undef, undef, undef, rfl, HL0.out⟩ ?_
  rintro ac wr ⟨t, u6, u8, u9, u16, u17, u18, u19, u20, u21, u22, u23, u24, u25, u26, u27, u28, u29, u30, u31, u32, u33, u34, u35, u36, u37, rfl, hL⟩
  obtain ⟨hz3, hgr, hh⟩ := hL
  have Z3 := Keep.mk hz3
  have GR := Keep.mk hgr
  clear hz3 hgr
  rcases hh with ⟨l, p, h5, hf, hp, ho, hn, hlt, htn, hG⟩ | ⟨ew, eb, p, hne, h5, hf, hE, hG1, hG2⟩
  · have Z5 := Keep.mk h5
    have HFr := Keep.mk hf
    have Hp := Keep.mk hp
    have HO := Keep.mk ho
    have Hn := Keep.mk hn
    have Hlt := Keep.mk hlt
    have HGn := Keep.mk hG
    have e0 := h5.c 0 (erA_0 _ _)
    clear h5 hf hp ho hn hlt hG
    by_cases htl : t < n
    · have htl' : (t : Int) < (n : Int) := by omega
      have hwr1 : IntKind.i64.wrap ((t : Int) + 1) = (t : Int) + 1 := by rw [IntKind.wrap_i64]; have := Hnn.out; omega
      have Hx : Keep (u6.ownBlock ≠ some x) := ⟨fun e => by have := Hn.out x e; have := Blk.lt HF.out; omega⟩
      refine wp_seq_k fun K6 hK6 => ?_
      refine wp_seq_k fun K7 hK7 => ?_
      refine wp_region_list (WL.out ?_)
      refine WL.val (by kernel_rfl) (.int .i64 (t : Int)) (by go_simp) ?_
      simp only [Act.put, List.setIfInBounds_toArray, List.set_cons_zero, List.set_cons_succ]
      refine WL.val (by kernel_rfl) (.int .u64 (n : Int)) (by go_simp) ?_
      simp only [Act.put, List.setIfInBounds_toArray, List.set_cons_zero, List.set_cons_succ]
      refine WL.val (by kernel_rfl) (.int .i64 (n : Int)) (by go_simp) ?_
      simp only [Act.put, List.setIfInBounds_toArray, List.set_cons_zero, List.set_cons_succ]
      refine WL.val (by kernel_rfl) (.bool true) (by go_simp) ?_
      simp only [Act.put, List.setIfInBounds_toArray, List.set_cons_zero, List.set_cons_succ]
      refine WL.val (by kernel_rfl) (.bool true) (by go_simp) ?_
      simp only [Act.put, List.setIfInBounds_toArray, List.set_cons_zero, List.set_cons_succ]
      refine WL.val (by kernel_rfl) (.pointer (some ⟨g5, 0, none⟩)) (by go_simp) ?_
      simp only [Act.put, List.setIfInBounds_toArray, List.set_cons_zero, List.set_cons_succ]
      refine WL.val (by kernel_rfl) (.int .i64 0) (by go_simp) ?_
      simp only [Act.put, List.setIfInBounds_toArray, List.set_cons_zero, List.set_cons_succ]
      refine WL.val (by kernel_rfl) (.bool true) (by go_simp) ?_
      simp only [Act.put, List.setIfInBounds_toArray, List.set_cons_zero, List.set_cons_succ]
      refine WL.val (by kernel_rfl) (.bool true) (by go_simp) ?_
      simp only [Act.put, List.setIfInBounds_toArray, List.set_cons_zero, List.set_cons_succ]
      refine WL.nil ?_
      refine hK7 _ _ ?_
      refine wp_cond_true rfl ?_
      refine wp_skip ?_
      refine hK6 _ _ ?_
      refine wp_seq_k fun K8 hK8 => ?_
      refine wp_block ?_
      refine wp_seq_k fun K9 hK9 => ?_
      refine wp_region_list (WL.out ?_)
      refine WL.val (by kernel_rfl) (.pointer (some ⟨x, 0, none⟩)) (by go_simp) ?_
      simp only [Act.put, List.setIfInBounds_toArray, List.set_cons_zero, List.set_cons_succ]
      refine WL.val (by kernel_rfl) (u6) (by go_simp) ?_
      simp only [Act.put, List.setIfInBounds_toArray, List.set_cons_zero, List.set_cons_succ]
      refine WL.callF (by kernel_rfl) 36 _ _ rfl Try.in36 #[ptr x, u6] (by simp [Act.eval]) ?_
      refine (one_any x vB L p u6 l wr HFr.out (fun wx hx => HRow.out wx (GR.out.trans hx)) Hp.out Hb.out HBy.out (fun wx hx => HO.out.grown hx (fun k hk e => Hx.out (by rw [hk, e]))) (by have := Hlt.out; have := Hnn.out; omega)).mono ?_
      rintro e w5 ⟨y, b5, rfl, hE, h1, h2, hok⟩
      refine ⟨_, rfl, ?_⟩
      obtain ⟨R1, hR1⟩ : ∃ r, r = (getO L l p).1 := ⟨_, rfl⟩
      obtain ⟨R2, hR2⟩ : ∃ r, r = (getO L l p).2.1 := ⟨_, rfl⟩
      have HR1 := Keep.mk hR1
      have HR2 := Keep.mk hR2
      rw [← hR1] at hE h1 hok ⊢
      rw [← hR2] at hE h1
      clear hR1 hR2
      have HE5 := Keep.mk hE
      have HF5 := Keep.mk h1
      have Hok5 := Keep.mk hok
      have Z35 := Keep.mk (h2.blk Z3.out (blk_ne Z3.out HFr.out (by decide)))
      have Z55 := Keep.mk (h2.blk Z5.out (blk_ne Z5.out HFr.out (by decide)))
      have HO5 := Keep.mk (HO.out.grown h2 (fun k hk e => Hx.out (by rw [hk, e])))
      have GR5 : Keep (Grown w w5 fun k => k = x) := ⟨GR.out.trans h2⟩
      clear hE h1 h2 hok e0 Z3 Z5 HO
      simp only [Act.put, List.setIfInBounds_toArray, List.set_cons_zero, List.set_cons_succ]
      refine WL.val (by kernel_rfl) (.tuple #[.agg (opA y), .agg (erA R1 b5)]) (by go_simp) ?_
      simp only [Act.put, List.setIfInBounds_toArray, List.set_cons_zero, List.set_cons_succ]
      refine WL.val (by kernel_rfl) (.agg (opA y)) (by go_simp) ?_
      simp only [Act.put, List.setIfInBounds_toArray, List.set_cons_zero, List.set_cons_succ]
      refine WL.val (by kernel_rfl) (.agg (erA R1 b5)) (by go_simp) ?_
      simp only [Act.put, List.setIfInBounds_toArray, List.set_cons_zero, List.set_cons_succ]
      refine WL.new (by kernel_rfl) 59 rfl _ Try.new59 ?_
      have Y8 := Keep.mk (Blk.new w5 59 (opA zeroOp))
      have b56 := below_new w5 (.cells (opA zeroOp) 59)
      generalize w5.alloc (.cells (opA zeroOp) 59) = w6 at *
      obtain ⟨g8, hg8⟩ : ∃ g, g = w5.heap.size := ⟨_, rfl⟩
      have Hg8 := Keep.mk hg8
      rw [← hg8] at Y8 ⊢
      clear hg8
      simp only [Act.put, List.setIfInBounds_toArray, List.set_cons_zero, List.set_cons_succ]
      refine WL.new (by kernel_rfl) 27 rfl _ Try.new27E ?_
      have Y9 := Keep.mk (Blk.new w6 27 (erA 0 0))
      have Y87 := Keep.mk (Y8.out.alloc (.cells (erA 0 0) 27))
      have b57 := b56.trans ((below_new w6 (.cells (erA 0 0) 27)).mono b56.size)
      have hz : w5.heap.size ≤ w6.heap.size := b56.size
      generalize w6.alloc (.cells (erA 0 0) 27) = w7 at *
      obtain ⟨g9, hg9⟩ : ∃ g, g = w6.heap.size := ⟨_, rfl⟩
      have Hg9 : Keep (w5.heap.size ≤ g9) := ⟨by rw [hg9]; exact hz⟩
      rw [← hg9] at Y9 ⊢
      clear hg9 hz b56 Y8
      simp only [Act.put, List.setIfInBounds_toArray, List.set_cons_zero, List.set_cons_succ]
      refine WL.storeR (by kernel_rfl) 59 (.tmp 8) (.tmp 31) rfl g8 (opA y) rfl rfl 59 (opA zeroOp) Y87.out (Try.size59B _) (opA_sizes _ _) (opA_one _) ?_
      have Y8 := Keep.mk (Y87.out.setRow (opA y))
      have Y98 := Keep.mk (Y9.out.setRow_ne (b' := g8) (blk_ne Y9.out Y87.out (by decide)) (opA y))
      have b58 := below_setRow b57 (b := g8) (by rw [Hg8.out]; exact Nat.le_refl _) (opA y)
      generalize w7.setRow g8 (opA y) = w8 at *
      clear b57 Y87 Y9
      simp only [Act.put]
      refine WL.storeR (by kernel_rfl) 27 (.tmp 9) (.tmp 32) rfl g9 (erA R1 b5) rfl rfl 27 (erA 0 0) Y98.out (Try.size27B _ _) (erA_sizes _ _ _ _) (erA_one _ _) ?_
      have Y9 := Keep.mk (Y98.out.setRow (erA R1 b5))
      have Y89 := Keep.mk (Y8.out.setRow_ne (b' := g9) (blk_ne Y8.out Y98.out (by decide)) (erA R1 b5))
      have b59 := below_setRow b58 (b := g9) Hg9.out (erA R1 b5)
      generalize w8.setRow g9 (erA R1 b5) = w9 at *
      have Z39 := Keep.mk (Z35.out.below b59 Z35.out.lt)
      have Z59 := Keep.mk (Z55.out.below b59 Z55.out.lt)
      have HF9 : Keep (RfAt w9 x vB R2 R1 b5) := ⟨Blk.below HF5.out b59 (Blk.lt HF5.out)⟩
      have HO9 := Keep.mk (HO5.out.below b59)
      have GR9 : Keep (Grown w w9 fun k => k = x) := ⟨GR5.out.trans (Grown.below b59)⟩
      clear b58 b59 Y8 Y98 Z35 Z55 HF5 HO5
      simp only [Act.put]
      refine WL.nil ?_
      refine hK9 _ _ ?_
      refine wp_seq_k fun K10 hK10 => ?_
      refine wp_region_list (WL.out ?_)
      refine WL.row (by kernel_rfl) 27 (.tmp 9) rfl g9 rfl 27 (erA R1 b5) _ Y9.out Try.underlying27 rfl (Try.size27B _ _) ?_
      simp only [Act.put, List.setIfInBounds_toArray, List.set_cons_zero, List.set_cons_succ]
      refine WL.storeR (by kernel_rfl) 27 (.tmp 5) (.tmp 33) rfl g5 (erA R1 b5) rfl rfl 27 (erA 0 0) Z59.out (Try.size27B _ _) (erA_sizes _ _ _ _) (erA_one _ _) ?_
      have gs : Grown w9 (w9.setRow g5 (erA R1 b5)) fun k => k = g5 := Grown.setRow w9 g5 _ fun _ => rfl
      have Z5a := Keep.mk (Z59.out.setRow (erA R1 b5))
      have Z3a := Keep.mk (gs.blk Z39.out H35.out)
      have Y8a := Keep.mk (gs.blk Y89.out (blk_ne Y89.out Z59.out (by decide)))
      have HFa : Keep (RfAt (w9.setRow g5 (erA R1 b5)) x vB R2 R1 b5) := ⟨gs.blk HF9.out (blk_ne HF9.out Z59.out (by decide))⟩
      have HOa := Keep.mk (HO9.out.grown gs (fun k hk e => by rw [e] at hk; exact HO9.out.ne Z59.out (by decide) hk))
      have GRa : Keep (Grown w (w9.setRow g5 (erA R1 b5)) fun k => k = x) := ⟨GR9.out.next gs (fun k hk e => by have := H5.out; omega)⟩
      generalize w9.setRow g5 (erA R1 b5) = wa at *
      clear gs Z59 Z39 Y89 HF9 HO9 Y9
      simp only [Act.put]
      refine WL.nil ?_
      refine hK10 _ _ ?_
      refine wp_region_list (WL.out ?_)
      refine WL.val (by kernel_rfl) (u6) (by go_simp) ?_
      simp only [Act.put, List.setIfInBounds_toArray, List.set_cons_zero, List.set_cons_succ]
      refine WL.row (by kernel_rfl) 59 (.tmp 8) rfl g8 rfl 59 (opA y) _ Y8a.out Try.underlying59 rfl (Try.size59B _) ?_
      simp only [Act.put, List.setIfInBounds_toArray, List.set_cons_zero, List.set_cons_succ]
      refine WL.bs (by kernel_rfl) 36 1 _ rfl #[(0, .agg (opA y))] (by simp [Act.eval]) _ _ (bsO y wa) ?_
      have hbs := Blk.new wa 59 (opA y)
      have hbb := below_new wa (.cells (opA y) 59)
      have HOb := Keep.mk (HOa.out.below hbb)
      have Z3b := Keep.mk (Z3a.out.below hbb Z3a.out.lt)
      have Z5b := Keep.mk (Z5a.out.below hbb Z5a.out.lt)
      have HFb : Keep (RfAt (wa.alloc (.cells (opA y) 59)) x vB R2 R1 b5) := ⟨Blk.below HFa.out hbb (Blk.lt HFa.out)⟩
      have GRb : Keep (Grown w (wa.alloc (.cells (opA y) 59)) fun k => k = x) := ⟨GRa.out.trans (Grown.below hbb)⟩
      have Hbs := Keep.mk hbs
      generalize wa.alloc (.cells (opA y) 59) = wb at *
      generalize wa.heap.size = gb at *
      clear hbs hbb HOa Z3a Z5a HFa GRa
      simp only [Act.put, List.setIfInBounds_toArray, List.set_cons_zero, List.set_cons_succ]
      refine WL.appO (by kernel_rfl) (.tmp 34) (.tmp 36) rfl u6 l gb y rfl rfl HOb.out Hbs.out (by have := Hlt.out; have := Hnn.out; omega) ?_
      intro v5 wc ho hg hm
      have HOc := Keep.mk ho
      have Z3c := Keep.mk (hg.blk Z3b.out (HOb.out.ne Z3b.out (by decide)))
      have Z5c := Keep.mk (hg.blk Z5b.out (HOb.out.ne Z5b.out (by decide)))
      have HFc : Keep (RfAt wc x vB R2 R1 b5) := ⟨hg.blk HFb.out Hx.out⟩
      have GRc : Keep (Grown w wc fun k => k = x) := ⟨GRb.out.next hg (fun k hk e => by have := Hn.out k e; omega)⟩
      have Hnc : Keep (∀ k, v5.ownBlock = some k → w.heap.size ≤ k) := ⟨fun k hk => by
        rcases hm with e | ⟨j, e1, e2⟩
        · rw [e] at hk; exact Hn.out k hk
        · rw [e1] at hk; cases hk; exact Nat.le_trans GRb.out.size e2⟩
      clear ho hg hm
      simp only [Act.put, List.setIfInBounds_toArray, List.set_cons_zero, List.set_cons_succ]
      refine WL.val (by kernel_rfl) (v5) (by go_simp) ?_
      simp only [Act.put, List.setIfInBounds_toArray, List.set_cons_zero, List.set_cons_succ]
      refine WL.nil ?_
      refine hK8 _ _ ?_
      refine wp_region_list (WL.out ?_)
      refine WL.val (by kernel_rfl) (.int .i64 (t : Int)) (by go_simp) ?_
      simp only [Act.put, List.setIfInBounds_toArray, List.set_cons_zero, List.set_cons_succ]
      refine WL.val (by kernel_rfl) (.int .i64 ((t : Int) + 1)) (by go_simp) ?_
      simp only [Act.put, List.setIfInBounds_toArray, List.set_cons_zero, List.set_cons_succ]
      refine WL.val (by kernel_rfl) (.int .i64 ((t : Int) + 1)) (by go_simp) ?_
      simp only [Act.put, List.setIfInBounds_toArray, List.set_cons_zero, List.set_cons_succ]
      refine WL.nil ?_
      refine ⟨⟨t + 1, v5, .pointer (some ⟨g8, 0, none⟩), .pointer (some ⟨g9, 0, none⟩), .int .i64 (t : Int), .int .u64 (n : Int), .int .i64 (n : Int), .bool true, .bool true, .pointer (some ⟨g5, 0, none⟩), .int .i64 0, .bool true, .bool true, .int .i64 (t : Int), .int .i64 ((t : Int) + 1), .tuple #[.agg (opA y), .agg (erA R1 b5)], .pointer (some ⟨x, 0, none⟩), u6, .tuple #[.agg (opA y), .agg (erA R1 b5)], .agg (opA y), .agg (erA R1 b5), .agg (erA R1 b5), u6, .agg (opA y), .slice (some ⟨gb, 0, none⟩) 1 1, v5, rfl, Z3c.out, GRc.out, ?_⟩, ?_⟩
      · have hGs := HGn.out
        rw [show n - t = (n - (t + 1)) + 1 by omega, getN] at hGs
        by_cases hz : R1 = 0
        · have hb0 : b5 = 0 := by rcases HE5.out with ⟨_, h⟩ | ⟨h, _⟩; exact h; exact absurd hz h
          obtain ⟨hy, _⟩ := Hok5.out hz
          rw [← HR1.out, if_pos hz, ← HR2.out, ← hy] at hGs
          refine .inl ⟨l ++ [y], R2, ?_, ?_, ?_, HOc.out, Hnc.out, ?_, ?_, hGs⟩
          · have := Z5c.out; rwa [hz, hb0] at this
          · have := HFc.out; rwa [hz, hb0] at this
          · rw [HR2.out]; exact getO_le Hp.out
          · rw [List.length_append, Hlt.out]; rfl
          · omega
        · rw [← HR1.out, if_neg hz, ← HR2.out] at hGs
          exact .inr ⟨R1, b5, R2, hz, Z5c.out, HFc.out, HE5.out, by rw [hGs], by rw [hGs]⟩
      · simp only [intOf]; show n - ((t : Int) + 1).toNat < n - ((t : Int)).toNat; omega
    · have htl' : ¬ (t : Int) < (n : Int) := by omega
      have hGs := HGn.out
      rw [show n - t = 0 by omega, getN] at hGs
      have HGs := Keep.mk hGs
      clear hGs
      refine wp_seq_k fun K11 hK11 => ?_
      refine wp_seq_k fun K12 hK12 => ?_
      refine wp_region_list (WL.out ?_)
      refine WL.val (by kernel_rfl) (.int .i64 (t : Int)) (by go_simp) ?_
      simp only [Act.put, List.setIfInBounds_toArray, List.set_cons_zero, List.set_cons_succ]
      refine WL.val (by kernel_rfl) (.int .u64 (n : Int)) (by go_simp) ?_
      simp only [Act.put, List.setIfInBounds_toArray, List.set_cons_zero, List.set_cons_succ]
      refine WL.val (by kernel_rfl) (.int .i64 (n : Int)) (by go_simp) ?_
      simp only [Act.put, List.setIfInBounds_toArray, List.set_cons_zero, List.set_cons_succ]
      refine WL.val (by kernel_rfl) (.bool false) (by go_simp) ?_
      simp only [Act.put, List.setIfInBounds_toArray, List.set_cons_zero, List.set_cons_succ]
      refine WL.val (by kernel_rfl) (.bool false) (by go_simp) ?_
      simp only [Act.put, List.setIfInBounds_toArray, List.set_cons_zero, List.set_cons_succ]
      refine WL.skip (by kernel_rfl) ?_
      simp only [Act.put, List.setIfInBounds_toArray, List.set_cons_zero, List.set_cons_succ]
      refine WL.skip (by kernel_rfl) ?_
      simp only [Act.put, List.setIfInBounds_toArray, List.set_cons_zero, List.set_cons_succ]
      refine WL.skip (by kernel_rfl) ?_
      simp only [Act.put, List.setIfInBounds_toArray, List.set_cons_zero, List.set_cons_succ]
      refine WL.val (by kernel_rfl) (.bool false) (by go_simp) ?_
      simp only [Act.put, List.setIfInBounds_toArray, List.set_cons_zero, List.set_cons_succ]
      refine WL.nil ?_
      refine hK12 _ _ ?_
      refine wp_cond_false rfl ?_
      refine wp_exit ?_
      refine hK4 _ _ ?_
      refine wp_seq_k fun K13 hK13 => ?_
      refine wp_seq_k fun K14 hK14 => ?_
      refine wp_region_list (WL.out ?_)
      refine WL.val (by kernel_rfl) (.pointer (some ⟨g5, 0, none⟩)) (by go_simp) ?_
      simp only [Act.put, List.setIfInBounds_toArray, List.set_cons_zero, List.set_cons_succ]
      refine WL.val (by kernel_rfl) (.int .i64 0) (by go_simp) ?_
      simp only [Act.put, List.setIfInBounds_toArray, List.set_cons_zero, List.set_cons_succ]
      refine WL.val (by kernel_rfl) (.bool false) (by go_simp) ?_
      simp only [Act.put, List.setIfInBounds_toArray, List.set_cons_zero, List.set_cons_succ]
      refine WL.nil ?_
      refine hK14 _ _ ?_
      refine wp_cond_false rfl ?_
      refine wp_skip ?_
      refine hK13 _ _ ?_
      refine wp_seq_k fun K15 hK15 => ?_
      have k3 := Z3.out.drew
      have k5 := Z5.out.drew
      refine wp_region_held_drew (S := fun wx => wx.rangeAt g5 0 (erA 0 0).toList) (by kernel_rfl) (blk_range k5) (fun hHeld => ?_)
      refine wpAnyH_take (i := 0) (oi := ⟨some 42, Op.move (Operand.tmp 6), 36, _, _, none⟩) (v := u6) rfl (by kernel_rfl) (by kernel_rfl) (by kernel_rfl) (fun _ _ _ h => h) (Or.inl ⟨by rfl, fun w hS => by go_simp⟩) hHeld ?_
      simp only [Act.put, List.setIfInBounds_toArray, List.set_cons_zero, List.set_cons_succ]
      refine wpAnyH_take (i := 1) (oi := ⟨some 43, Op.load 27 (Operand.tmp 5), 27, _, _, none⟩) (v := .agg (erA 0 0).toList.toArray) rfl (by kernel_rfl) (by kernel_rfl) (by kernel_rfl) (fun _ _ _ h => h) (yieldsIf_load_mid (by rfl) 27 (Operand.tmp 5) rfl g5 0 rfl (erA 0 0).toList _ (fun w hS => hS) Try.underlying27 rfl (Try.size27B 0 0)) hHeld ?_
      simp only [Act.put, List.setIfInBounds_toArray, List.set_cons_zero, List.set_cons_succ]
      refine wpAnyH_take (i := 2) (oi := ⟨some 2, Op.assign (Operand.tmp 42), 36, _, _, none⟩) (v := u6) rfl (by kernel_rfl) (by kernel_rfl) (by kernel_rfl) (fun _ _ _ h => h) (Or.inl ⟨by rfl, fun w hS => by go_simp⟩) hHeld ?_
      simp only [Act.put, List.setIfInBounds_toArray, List.set_cons_zero, List.set_cons_succ]
      refine wpAnyH_ready (rs := [3]) (by kernel_rfl) (by simp) ?_
      refine AllReadyH.cons (o := ⟨none, Op.store 27 (Operand.tmp 3) (Operand.tmp 43), 0, _, _, none⟩) rfl (fun K hK => ?_) AllReadyH.nil
      rw [if_pos (by rfl)]
      refine wp_store_row 27 (.tmp 3) (.tmp 43) rfl g3 (erA 0 0) rfl rfl 27 (erA 0 0) k3 (Try.size27B _ _) (erA_sizes _ _ _ _) (erA_one _ _) ?_
      refine hK.out _ _ (blk_range (k5.setRow_ne (fun e => H35.out e.symm) _)) fun hH3 => ?_
      clear hK
      simp only [Act.put, List.setIfInBounds_toArray, List.set_cons_zero, List.set_cons_succ]
      refine wpAnyH_done (by kernel_rfl) ?_ _
      refine hK15 _ _ ?_
      refine wp_ret ?_
      try simp only [Exit.then]
      refine bodyPost_ret (v := .tuple #[u6, .agg (erA 0 0)]) (results_tmp_cell_row Try.results11 _ _ g3 27 _ (0, 0) _ _ rfl rfl (k3.setRow _) Try.underlying27 rfl (Try.size27B _ _)) rfl ?_
      exact RGet.mk0 HGs.out HFr.out GR.out HO.out Z3.out (fun e => by have := Hn.out g3 e; exact HO.out.ne Z3.out (by decide) e) (by have := Hg3.out; omega) Hn.out
  · have Z5 := Keep.mk h5
    have HFr := Keep.mk hf
    have HE := Keep.mk hE
    have HG1 := Keep.mk hG1
    have HG2 := Keep.mk hG2
    have e0 := h5.c 0 (erA_0 _ _)
    clear h5 hf hE hG1 hG2
    by_cases htl : t < n
    · have htl' : (t : Int) < (n : Int) := by omega
      refine wp_seq_k fun K16 hK16 => ?_
      refine wp_seq_k fun K17 hK17 => ?_
      refine wp_region_list (WL.out ?_)
      refine WL.val (by kernel_rfl) (.int .i64 (t : Int)) (by go_simp) ?_
      simp only [Act.put, List.setIfInBounds_toArray, List.set_cons_zero, List.set_cons_succ]
      refine WL.val (by kernel_rfl) (.int .u64 (n : Int)) (by go_simp) ?_
      simp only [Act.put, List.setIfInBounds_toArray, List.set_cons_zero, List.set_cons_succ]
      refine WL.val (by kernel_rfl) (.int .i64 (n : Int)) (by go_simp) ?_
      simp only [Act.put, List.setIfInBounds_toArray, List.set_cons_zero, List.set_cons_succ]
      refine WL.val (by kernel_rfl) (.bool true) (by go_simp) ?_
      simp only [Act.put, List.setIfInBounds_toArray, List.set_cons_zero, List.set_cons_succ]
      refine WL.val (by kernel_rfl) (.bool true) (by go_simp) ?_
      simp only [Act.put, List.setIfInBounds_toArray, List.set_cons_zero, List.set_cons_succ]
      refine WL.val (by kernel_rfl) (.pointer (some ⟨g5, 0, none⟩)) (by go_simp) ?_
      simp only [Act.put, List.setIfInBounds_toArray, List.set_cons_zero, List.set_cons_succ]
      refine WL.val (by kernel_rfl) (.int .i64 ew) (by go_simp) ?_
      simp only [Act.put, List.setIfInBounds_toArray, List.set_cons_zero, List.set_cons_succ]
      refine WL.val (by kernel_rfl) (.bool false) (by go_simp) ?_
      simp only [Act.put, List.setIfInBounds_toArray, List.set_cons_zero, List.set_cons_succ]
      refine WL.val (by kernel_rfl) (.bool false) (by go_simp) ?_
      simp only [Act.put, List.setIfInBounds_toArray, List.set_cons_zero, List.set_cons_succ]
      refine WL.nil ?_
      refine hK17 _ _ ?_
      refine wp_cond_false rfl ?_
      refine wp_exit ?_
      refine hK4 _ _ ?_
      refine wp_seq_k fun K18 hK18 => ?_
      refine wp_seq_k fun K19 hK19 => ?_
      refine wp_region_list (WL.out ?_)
      refine WL.val (by kernel_rfl) (.pointer (some ⟨g5, 0, none⟩)) (by go_simp) ?_
      simp only [Act.put, List.setIfInBounds_toArray, List.set_cons_zero, List.set_cons_succ]
      refine WL.val (by kernel_rfl) (.int .i64 ew) (by go_simp) ?_
      simp only [Act.put, List.setIfInBounds_toArray, List.set_cons_zero, List.set_cons_succ]
      refine WL.val (by kernel_rfl) (.bool true) (by go_simp) ?_
      simp only [Act.put, List.setIfInBounds_toArray, List.set_cons_zero, List.set_cons_succ]
      refine WL.nil ?_
      refine hK19 _ _ ?_
      refine wp_cond_true rfl ?_
      refine wp_seq_k fun K20 hK20 => ?_
      have k3 := Z3.out.drew
      have k5 := Z5.out.drew
      refine wp_region_held_drew (S := fun wx => wx.rangeAt g5 0 (erA ew eb).toList) (by kernel_rfl) (blk_range k5) (fun hHeld => ?_)
      refine wpAnyH_take (i := 0) (oi := ⟨some 41, Op.load 27 (Operand.tmp 5), 27, _, _, none⟩) (v := .agg (erA ew eb).toList.toArray) rfl (by kernel_rfl) (by kernel_rfl) (by kernel_rfl) (fun _ _ _ h => h) (yieldsIf_load_mid (by rfl) 27 (Operand.tmp 5) rfl g5 0 rfl (erA ew eb).toList _ (fun w hS => hS) Try.underlying27 rfl (Try.size27B ew eb)) hHeld ?_
      simp only [Act.put, List.setIfInBounds_toArray, List.set_cons_zero, List.set_cons_succ]
      refine wpAnyH_take (i := 1) (oi := ⟨some 2, Op.assign (Operand.const (Value.slice none 0 0)), 36, _, _, none⟩) (v := .slice none 0 0) rfl (by kernel_rfl) (by kernel_rfl) (by kernel_rfl) (fun _ _ _ h => h) (Or.inl ⟨by rfl, fun w hS => by go_simp⟩) hHeld ?_
      simp only [Act.put, List.setIfInBounds_toArray, List.set_cons_zero, List.set_cons_succ]
      refine wpAnyH_ready (rs := [2]) (by kernel_rfl) (by simp) ?_
      refine AllReadyH.cons (o := ⟨none, Op.store 27 (Operand.tmp 3) (Operand.tmp 41), 0, _, _, none⟩) rfl (fun K hK => ?_) AllReadyH.nil
      rw [if_pos (by rfl)]
      refine wp_store_row 27 (.tmp 3) (.tmp 41) rfl g3 (erA ew eb) rfl rfl 27 (erA 0 0) k3 (Try.size27B _ _) (erA_sizes _ _ _ _) (erA_one _ _) ?_
      refine hK.out _ _ (blk_range (k5.setRow_ne (fun e => H35.out e.symm) _)) fun hH3 => ?_
      clear hK
      simp only [Act.put, List.setIfInBounds_toArray, List.set_cons_zero, List.set_cons_succ]
      refine wpAnyH_done (by kernel_rfl) ?_ _
      refine hK20 _ _ ?_
      refine wp_ret ?_
      try simp only [Exit.then]
      refine bodyPost_ret (v := .tuple #[.slice none 0 0, .agg (erA ew eb)]) (results_tmp_cell_row Try.results11 _ _ g3 27 _ (0, 0) _ _ rfl rfl (k3.setRow _) Try.underlying27 rfl (Try.size27B _ _)) rfl ?_
      exact RGet.mk1 HG1.out HG2.out hne HE.out HFr.out GR.out Z3.out (by have := Hg3.out; omega)
    · have htl' : ¬ (t : Int) < (n : Int) := by omega
      refine wp_seq_k fun K21 hK21 => ?_
      refine wp_seq_k fun K22 hK22 => ?_
      refine wp_region_list (WL.out ?_)
      refine WL.val (by kernel_rfl) (.int .i64 (t : Int)) (by go_simp) ?_
      simp only [Act.put, List.setIfInBounds_toArray, List.set_cons_zero, List.set_cons_succ]
      refine WL.val (by kernel_rfl) (.int .u64 (n : Int)) (by go_simp) ?_
      simp only [Act.put, List.setIfInBounds_toArray, List.set_cons_zero, List.set_cons_succ]
      refine WL.val (by kernel_rfl) (.int .i64 (n : Int)) (by go_simp) ?_
      simp only [Act.put, List.setIfInBounds_toArray, List.set_cons_zero, List.set_cons_succ]
      refine WL.val (by kernel_rfl) (.bool false) (by go_simp) ?_
      simp only [Act.put, List.setIfInBounds_toArray, List.set_cons_zero, List.set_cons_succ]
      refine WL.val (by kernel_rfl) (.bool false) (by go_simp) ?_
      simp only [Act.put, List.setIfInBounds_toArray, List.set_cons_zero, List.set_cons_succ]
      refine WL.skip (by kernel_rfl) ?_
      simp only [Act.put, List.setIfInBounds_toArray, List.set_cons_zero, List.set_cons_succ]
      refine WL.skip (by kernel_rfl) ?_
      simp only [Act.put, List.setIfInBounds_toArray, List.set_cons_zero, List.set_cons_succ]
      refine WL.skip (by kernel_rfl) ?_
      simp only [Act.put, List.setIfInBounds_toArray, List.set_cons_zero, List.set_cons_succ]
      refine WL.val (by kernel_rfl) (.bool false) (by go_simp) ?_
      simp only [Act.put, List.setIfInBounds_toArray, List.set_cons_zero, List.set_cons_succ]
      refine WL.nil ?_
      refine hK22 _ _ ?_
      refine wp_cond_false rfl ?_
      refine wp_exit ?_
      refine hK4 _ _ ?_
      refine wp_seq_k fun K23 hK23 => ?_
      refine wp_seq_k fun K24 hK24 => ?_
      refine wp_region_list (WL.out ?_)
      refine WL.val (by kernel_rfl) (.pointer (some ⟨g5, 0, none⟩)) (by go_simp) ?_
      simp only [Act.put, List.setIfInBounds_toArray, List.set_cons_zero, List.set_cons_succ]
      refine WL.val (by kernel_rfl) (.int .i64 ew) (by go_simp) ?_
      simp only [Act.put, List.setIfInBounds_toArray, List.set_cons_zero, List.set_cons_succ]
      refine WL.val (by kernel_rfl) (.bool true) (by go_simp) ?_
      simp only [Act.put, List.setIfInBounds_toArray, List.set_cons_zero, List.set_cons_succ]
      refine WL.nil ?_
      refine hK24 _ _ ?_
      refine wp_cond_true rfl ?_
      refine wp_seq_k fun K25 hK25 => ?_
      have k3 := Z3.out.drew
      have k5 := Z5.out.drew
      refine wp_region_held_drew (S := fun wx => wx.rangeAt g5 0 (erA ew eb).toList) (by kernel_rfl) (blk_range k5) (fun hHeld => ?_)
      refine wpAnyH_take (i := 0) (oi := ⟨some 41, Op.load 27 (Operand.tmp 5), 27, _, _, none⟩) (v := .agg (erA ew eb).toList.toArray) rfl (by kernel_rfl) (by kernel_rfl) (by kernel_rfl) (fun _ _ _ h => h) (yieldsIf_load_mid (by rfl) 27 (Operand.tmp 5) rfl g5 0 rfl (erA ew eb).toList _ (fun w hS => hS) Try.underlying27 rfl (Try.size27B ew eb)) hHeld ?_
      simp only [Act.put, List.setIfInBounds_toArray, List.set_cons_zero, List.set_cons_succ]
      refine wpAnyH_take (i := 1) (oi := ⟨some 2, Op.assign (Operand.const (Value.slice none 0 0)), 36, _, _, none⟩) (v := .slice none 0 0) rfl (by kernel_rfl) (by kernel_rfl) (by kernel_rfl) (fun _ _ _ h => h) (Or.inl ⟨by rfl, fun w hS => by go_simp⟩) hHeld ?_
      simp only [Act.put, List.setIfInBounds_toArray, List.set_cons_zero, List.set_cons_succ]
      refine wpAnyH_ready (rs := [2]) (by kernel_rfl) (by simp) ?_
      refine AllReadyH.cons (o := ⟨none, Op.store 27 (Operand.tmp 3) (Operand.tmp 41), 0, _, _, none⟩) rfl (fun K hK => ?_) AllReadyH.nil
      rw [if_pos (by rfl)]
      refine wp_store_row 27 (.tmp 3) (.tmp 41) rfl g3 (erA ew eb) rfl rfl 27 (erA 0 0) k3 (Try.size27B _ _) (erA_sizes _ _ _ _) (erA_one _ _) ?_
      refine hK.out _ _ (blk_range (k5.setRow_ne (fun e => H35.out e.symm) _)) fun hH3 => ?_
      clear hK
      simp only [Act.put, List.setIfInBounds_toArray, List.set_cons_zero, List.set_cons_succ]
      refine wpAnyH_done (by kernel_rfl) ?_ _
      refine hK25 _ _ ?_
      refine wp_ret ?_
      try simp only [Exit.then]
      refine bodyPost_ret (v := .tuple #[.slice none 0 0, .agg (erA ew eb)]) (results_tmp_cell_row Try.results11 _ _ g3 27 _ (0, 0) _ _ rfl rfl (k3.setRow _) Try.underlying27 rfl (Try.size27B _ _)) rfl ?_
      exact RGet.mk1 HG1.out HG2.out hne HE.out HFr.out GR.out Z3.out (by have := Hg3.out; omega)
theorem oka_in11 (w : World) (vs : Array Value) : (callFunc 11 vs).run Try.prog w = .ok (.enter 11 vs) w := by kernel_rfl
theorem oka_in13 (w : World) (vs : Array Value) : (callFunc 13 vs).run Try.prog w = .ok (.enter 13 vs) w := by kernel_rfl
theorem ri_built (va : Option Addr) (n vc : Nat) : Try.prog.built 29 [(0, .slice va n vc)] = some #[.slice va n vc, .int .i64 0, .int .i64 0, .int .i64 0] := by kernel_rfl
def opK (k i : Int) : OpV := { zeroOp with kind := k, n := i }
theorem opK_built (k i : Int) : Try.prog.built 59 [(0, .int .i64 k), (3, .int .i64 i)] = some (opA (opK k i)) := by kernel_rfl
theorem opK_built1 (k : Int) : Try.prog.built 59 [(0, .int .i64 k)] = some (opA (opK k 0)) := by kernel_rfl
theorem opK_bs (k : Int) (w : World) : (Instr.buildSlice 36 1 #[(0, .agg (opA (opK k 0)))]).run Try.prog w = .ok (.slice (some ⟨w.heap.size, 0, none⟩) 1 1) (w.alloc (.cells (opA (opK k 0)) 59)) := by kernel_rfl
theorem flatO_take (l : List OpV) (t : Nat) : (flatO l).take (t * 37) = flatO (l.take t) := by
  have h1 : flatO l = flatO (l.take t) ++ flatO (l.drop t) := by
    unfold flatO; rw [← List.flatMap_append, List.take_append_drop]
  by_cases ht : t ≤ l.length
  · rw [h1, List.take_append_of_le_length (by rw [flatO_len, List.length_take]; omega), List.take_of_length_le (by rw [flatO_len, List.length_take]; omega)]
  · rw [List.take_of_length_le (by rw [flatO_len]; omega), List.take_of_length_le (by omega)]
theorem flatO_set (l : List OpV) (t : Nat) (x : OpV) (ht : t < l.length) : (flatO l).take (t * 37) ++ opL x ++ (flatO l).drop (t * 37 + 37) = flatO (l.set t x) := by
  rw [flatO_take, show t * 37 + 37 = (t + 1) * 37 by omega, flatO_drop, List.set_eq_take_append_cons_drop, if_pos ht]
  simp [flatO]
theorem take3 (A X D : List Value) (k p n : Nat) (hA : A.length = k) (hX : X.length = p) (h : k + p ≤ n) : (A ++ X ++ D).take n = A ++ X ++ D.take (n - (k + p)) := by
  rw [List.take_append, List.take_of_length_le (by simp; omega), List.length_append, hA, hX]
theorem OwnO.put {w : World} {g n cap : Nat} {m : List OpV} (h : OwnO w (.slice (some ⟨g, 0, none⟩) n cap) m) {t : Nat} (ht : t < m.length) (x : OpV) :
    ∃ cur new, Blk w g 59 cur ∧ t * 37 + (opA x).size ≤ cur.size ∧ (cur.toList.take (t * 37) ++ (opA x).toList ++ cur.toList.drop (t * 37 + (opA x).size)).toArray = new ∧ OwnO (w.setRow g new) (.slice (some ⟨g, 0, none⟩) n cap) (m.set t x) := by
  rcases h.2 with ⟨e, _⟩ | ⟨g', cap', cur, e, hb, hg, h1, h2, h3, h4⟩
  · cases e
  · injection e with e1 e2 e3
    injection e1 with e1
    injection e1 with e1
    subst e1 e2 e3
    have hsz : t * 37 + 37 ≤ cur.size := by rw [h3]; omega
    refine ⟨cur, _, hg, by rw [opA_size]; exact hsz, rfl, ?_⟩
    refine ⟨by rw [flatO_len, List.length_set], .inr ⟨g, cap, _, by rw [List.length_set], Nat.zero_le _, Blk.setRow hg _, by rw [List.length_set]; exact h1, h2, ?_, ?_⟩⟩
    · simp only [List.size_toArray, List.length_append, List.length_take, List.length_drop, Array.length_toList, opA_size]
      omega
    · rw [List.length_set]
      have hA : (cur.toList.take (t * 37)) = (flatO m).take (t * 37) := by rw [← h4, List.take_take, Nat.min_eq_left (by omega)]
      have hD : (cur.toList.drop (t * 37 + 37)).take (m.length * 37 - (t * 37 + 37)) = (flatO m).drop (t * 37 + 37) := by rw [← h4, List.drop_take]
      have hlA : (cur.toList.take (t * 37)).length = t * 37 := by rw [List.length_take, Array.length_toList]; omega
      rw [opA_size, opA_list, ← flatO_set m t x ht, ← hA, ← hD]
      rw [take3 _ _ _ (t * 37) 37 _ hlA (opL_len x) (by omega)]

end Go.Proofs.Ytkjjlfpghhefcab
