import Derived.Test.YtjklmkeedhgncaaU06
import Derived.Deep.RegionHeld3
namespace Go.Proofs.Ytjklmkeedhgncaa
open Go.RowKit
set_option linter.unusedSimpArgs false
set_option linter.unusedVariables false
theorem TN.box {w w' : World} {E : TE} {Ps Ps' : List PX} {r : Nat} (h : TN w w' E Ps Ps') (hr : w.heap.size ≤ r) (c : Array Value) : TN w (w'.setRow r c) E Ps Ps' :=
  ⟨h.gr.next (Grown.setRow w' r c (S := fun k => k = r) fun _ => rfl) fun k hk e => by omega, h.nw⟩
def UP2 (i m j : Nat) (L : List CV) (ns : List Nat) (k : Nat) (Ps P2 : List PX) : Prop := ∃ P1 : List PX, P1.length = ns.length ∧ UP k L i m ns Ps P1 ∧ UP k L m j ns P1 P2
theorem bsX (h : Array Value) (x : Hs) (w : World) (e : h = bytesA 32 x.f) : (Instr.buildSlice 67 1 #[(0, .agg h)]).run Try.prog w = .ok (.slice (some ⟨w.heap.size, 0, none⟩) 1 1) (w.alloc (.cells h 25)) := by
  have h1 := bs1H x w
  rw [encH_arr, ← e] at h1
  exact h1
theorem lastP_lo {a m b n : Nat} {x y : Hs} (h : a ≤ n ∧ n < m) : lastP a m b n x y = [y] := by unfold lastP; rw [if_pos h]
theorem lastP_hi {a m b n : Nat} {x y : Hs} (h : m ≤ n ∧ n < b) : lastP a m b n x y = [x] := by unfold lastP; rw [if_neg (by omega), if_pos h]
theorem lastP_no {a m b n : Nat} {x y : Hs} (h : ¬ (a ≤ n ∧ n < m)) (h2 : ¬ (m ≤ n ∧ n < b)) : lastP a m b n x y = [] := by unfold lastP; rw [if_neg h, if_neg h2]
def bodyC (f : Func) : Code := match f.body with
  | some c => c
  | none => .skip
def sndS : Code → Code
  | .seq _ y => y
  | c => c
set_option maxRecDepth 8000 in
set_option maxHeartbeats 2000000 in
theorem down_tail (B k : Nat) (E : TE) (b off n cap : Nat) (L : List CV) (ns : List Nat) (na : Option Addr) (nl nc : Nat) (hnv : Keep (E.nv = .slice na nl nc)) (hnl : Keep (ns.length = nl)) (hnlb : Keep (nl ≤ 3600000000000)) (hn : Keep (L.length = n)) (hnb : n ≤ 3600000000000) (i j q m : Nat) (Ps : List PX) (w : World) (hij : i + 2 ≤ j) (hjk : j - i ≤ k + 1) (hjn : j ≤ n) (hq : Keep (RtP.half (j - i) = q)) (hh : 1 ≤ q ∧ q < j - i) (hm : Keep (m = i + q)) (hmi : i < m) (hmj : m < j) (x1 x2 : Hs) (X1e : Keep (hsL x1 = treeL k (sub L i m))) (X2e : Keep (hsL x2 = treeL k (sub L m j))) (h1 h2 : Array Value) (h1e : Keep (h1 = bytesA 32 x1.f)) (h2e : Keep (h2 = bytesA 32 x2.f)) (HT : Keep (TS B w E ns Ps)) (HB : Keep (B ≤ w.heap.size)) (r : Nat) (hrw : Keep (w.heap.size ≤ r))
    (ra rb : Nat) (P2 : List PX) (wz : World) (hT2 : TS B wz E ns P2) (hU2 : UP2 i m j L ns k Ps P2) (hR2 : Rm P2 1) (hXr : Bx wz E P2 r (bytesA 32 fun _ => 0)) (hXa : Bx wz E P2 ra h1) (hXb : Bx wz E P2 rb h2) (hne : r ≠ ra ∧ r ≠ rb ∧ ra ≠ rb) (hN2 : TN w wz E Ps P2) :
    Code.wp Try.prog (sndS (sndS (sndS (sndS (bodyC Try.f48))))) (bodyPost Try.prog Try.f48 (DP B (k + 1) E L ns Ps i j w)) { tmps := #[.int .i64 (i : Int), .int .i64 (j : Int), .pointer (some ⟨E.pl, 0, none⟩), .pointer (some ⟨E.pd, 0, none⟩), .pointer (some ⟨E.pn, 0, none⟩), .pointer (some ⟨E.pp, 0, none⟩), undef, undef, .pointer (some ⟨r, 0, none⟩), .int .i64 (m : Int), .pointer (some ⟨ra, 0, none⟩), .pointer (some ⟨rb, 0, none⟩), undef, undef, .int .i64 (j : Int), .int .i64 (i : Int), .int .i64 ((j - i : Nat) : Int), .bool false, undef, undef, undef, undef, undef, .int .i64 (i : Int), .int .i64 (j : Int), .int .i64 (i : Int), .int .i64 ((j - i : Nat) : Int), .int .i64 (q : Int), .int .i64 (m : Int), E.cl, .int .i64 (i : Int), .int .i64 (m : Int), .agg h1, E.cl, .int .i64 (m : Int), .int .i64 (j : Int), .agg h2, undef, undef, undef, undef, undef, undef, undef, undef, undef, undef, undef, undef, undef, undef, undef, undef, undef, undef, undef, undef, undef, undef, undef, undef, undef, undef, undef, undef, undef, undef, undef, undef, undef, undef, undef, undef, undef, undef, undef, undef, undef, undef, undef, undef, undef, undef, undef], defers := [] } wz := by
  have T3 := Keep.mk hT2
  have U3 := Keep.mk hU2
  have R3 := Keep.mk hR2
  have X3 := Keep.mk hXr
  have A3 := Keep.mk hXa
  have B3 := Keep.mk hXb
  have NE := Keep.mk hne
  have N3 := Keep.mk hN2
  have hl2 : Keep (P2.length = ns.length) := ⟨hT2.len⟩
  clear hT2 hU2 hR2 hXr hXa hXb hne hN2
  generalize hg : bodyPost Try.prog Try.f48 _ = QQ
  unfold Try.f48
  simp only [bodyC, sndS]
  subst hg
  refine wp_seq_k fun K1 hK1 => ?_
  refine wp_seq_k fun K2 hK2 => ?_
  refine wp_region_list (WL.out ?_)
  have cn_ : wz.cell? ⟨E.pn, 0, none⟩ = some (.slice na nl nc) := by rw [← hnv.out]; exact T3.out.bn.c 0 rfl
  refine WL.val (by kernel_rfl) (.slice na nl nc) (by go_simp) ?_
  clear cn_
  simp only [Act.put, List.setIfInBounds_toArray, List.set_cons_zero, List.set_cons_succ]
  refine WL.val (by kernel_rfl) (.int .i64 (nl : Int)) (by go_simp) ?_
  simp only [Act.put, List.setIfInBounds_toArray, List.set_cons_zero, List.set_cons_succ]
  refine WL.val (by kernel_rfl) (.int .i64 0) (by go_simp) ?_
  simp only [Act.put, List.setIfInBounds_toArray, List.set_cons_zero, List.set_cons_succ]
  refine WL.nil ?_
  refine hK2 _ _ ?_
  refine wp_block ?_
  refine wp_loop (fun ac wr => ∃ (t : Nat) (f : Nat → Value), ac = { tmps := #[.int .i64 (i : Int), .int .i64 (j : Int), .pointer (some ⟨E.pl, 0, none⟩), .pointer (some ⟨E.pd, 0, none⟩), .pointer (some ⟨E.pn, 0, none⟩), .pointer (some ⟨E.pp, 0, none⟩), undef, undef, .pointer (some ⟨r, 0, none⟩), .int .i64 (m : Int), .pointer (some ⟨ra, 0, none⟩), .pointer (some ⟨rb, 0, none⟩), f 12, f 13, .int .i64 (j : Int), .int .i64 (i : Int), .int .i64 ((j - i : Nat) : Int), .bool false, undef, undef, undef, undef, undef, .int .i64 (i : Int), .int .i64 (j : Int), .int .i64 (i : Int), .int .i64 ((j - i : Nat) : Int), .int .i64 (q : Int), .int .i64 (m : Int), E.cl, .int .i64 (i : Int), .int .i64 (m : Int), .agg h1, E.cl, .int .i64 (m : Int), .int .i64 (j : Int), .agg h2, .slice na nl nc, .int .i64 (nl : Int), .int .i64 (t : Int), f 40, f 41, f 42, f 43, f 44, f 45, f 46, f 47, f 48, f 49, f 50, f 51, f 52, f 53, f 54, f 55, f 56, f 57, f 58, f 59, f 60, f 61, f 62, f 63, f 64, f 65, f 66, f 67, f 68, f 69, f 70, f 71, f 72, f 73, f 74, f 75, f 76, f 77, f 78, f 79, f 80, undef, undef, undef], defers := [] } ∧ t ≤ nl ∧ ∃ Qs, TS B wr E ns Qs ∧ (∀ (jj nn : Nat) (P P' : PX), ns[jj]? = some nn → P2[jj]? = some P → Qs[jj]? = some P' → P'.ps = P.ps ++ (if jj < t then lastP i m j nn x1 x2 else [])) ∧ Bx wr E Qs r (bytesA 32 fun _ => 0) ∧ Bx wr E Qs ra h1 ∧ Bx wr E Qs rb h2 ∧ TN w wr E Ps Qs) (fun a _ => nl - (intOf (a.tmps.getD 39 undef)).toNat) ⟨0, fun zz => [.int .i64 (i : Int), .int .i64 (j : Int), .pointer (some ⟨E.pl, 0, none⟩), .pointer (some ⟨E.pd, 0, none⟩), .pointer (some ⟨E.pn, 0, none⟩), .pointer (some ⟨E.pp, 0, none⟩), undef, undef, .pointer (some ⟨r, 0, none⟩), .int .i64 (m : Int), .pointer (some ⟨ra, 0, none⟩), .pointer (some ⟨rb, 0, none⟩), undef, undef, .int .i64 (j : Int), .int .i64 (i : Int), .int .i64 ((j - i : Nat) : Int), .bool false, undef, undef, undef, undef, undef, .int .i64 (i : Int), .int .i64 (j : Int), .int .i64 (i : Int), .int .i64 ((j - i : Nat) : Int), .int .i64 (q : Int), .int .i64 (m : Int), E.cl, .int .i64 (i : Int), .int .i64 (m : Int), .agg h1, E.cl, .int .i64 (m : Int), .int .i64 (j : Int), .agg h2, .slice na nl nc, .int .i64 (nl : Int), .int .i64 0, undef, undef, undef, undef, undef, undef, undef, undef, undef, undef, undef, undef, undef, undef, undef, undef, undef, undef, undef, undef, undef, undef, undef, undef, undef, undef, undef, undef, undef, undef, undef, undef, undef, undef, undef, undef, undef, undef, undef, undef, undef, undef, undef, undef].getD zz undef, rfl, by omega, P2, T3.out, (fun jj nn P P' _ hP hP' => by rw [hP] at hP'; injection hP' with hP'; subst hP'; simp), X3.out, A3.out, B3.out, N3.out⟩ ?_
  rintro ac wr ⟨t, f, rfl, ht, Qs, hT, hQ, hX, hA, hBx, hN⟩
  have T4 := Keep.mk hT
  have HQ := Keep.mk hQ
  have X4 := Keep.mk hX
  have A4 := Keep.mk hA
  have B4 := Keep.mk hBx
  have N4 := Keep.mk hN
  clear hT hQ hX hA hBx hN T3 X3 A3 B3 N3
  by_cases htl : t < nl
  · have htl' : (t : Int) < (nl : Int) := by omega
    have hw3 : IntKind.i64.wrap ((t : Int) + 1) = ((t + 1 : Nat) : Int) := by rw [IntKind.wrap_i64]; have := hnlb.out; omega
    obtain ⟨nn, Hn⟩ : ∃ z, Keep (ns[t]? = some z) := ⟨ns[t]'(by rw [hnl.out]; exact htl), ⟨List.getElem?_eq_getElem _⟩⟩
    obtain ⟨P_, HP_⟩ : ∃ z, Keep (Qs[t]? = some z) := ⟨Qs[t]'(by rw [T4.out.len, hnl.out]; exact htl), ⟨List.getElem?_eq_getElem _⟩⟩
    obtain ⟨Q_, HQ_⟩ : ∃ z, Keep (P2[t]? = some z) := ⟨P2[t]'(by rw [hl2.out, hnl.out]; exact htl), ⟨List.getElem?_eq_getElem _⟩⟩
    have HPe : Keep (P_.ps = Q_.ps) := ⟨by have h := HQ.out t nn Q_ P_ Hn.out HQ_.out HP_.out; rw [if_neg (Nat.lt_irrefl t), List.append_nil] at h; exact h⟩
    have HPb : Keep (P_.ps.length + 1 ≤ 4398046511104) := ⟨by rw [HPe.out]; exact R3.out Q_ (List.mem_of_getElem? HQ_.out)⟩
    obtain ⟨gn, hgn, cnn⟩ : ∃ gn, na = some ⟨gn, 0, none⟩ ∧ wr.cell? ⟨gn, t, none⟩ = some (.int .i64 (nn : Int)) := by
      have h1 := T4.out.num
      have h2 := Hn.out
      rcases h1 with ⟨a_, c_, _, e_⟩ | ⟨g_, c_, e_, _, hc_⟩
      · rw [e_] at h2; simp at h2
      · rw [hnv.out] at e_
        injection e_ with e_ _ _
        exact ⟨g_, e_, hc_ t nn h2⟩
    subst hgn
    by_cases g1 : i ≤ nn
    · have g1' : (i : Int) ≤ (nn : Int) := by omega
      by_cases g2 : nn < m
      · have g2' : (nn : Int) < (m : Int) := by omega
        have g3' : ¬ (m : Int) ≤ (nn : Int) := by omega
        refine wp_seq_k fun K3 hK3 => ?_
        refine wp_region_list (WL.out ?_)
        refine WL.val (by kernel_rfl) (.bool true) (by go_simp) ?_
        simp only [Act.put, List.setIfInBounds_toArray, List.set_cons_zero, List.set_cons_succ]
        refine WL.nil ?_
        refine hK3 _ _ ?_
        refine wp_seq_k fun K4 hK4 => ?_
        refine wp_cond_true rfl ?_
        refine wp_skip ?_
        refine hK4 _ _ ?_
        refine wp_seq_k fun K5 hK5 => ?_
        refine wp_block ?_
        refine wp_seq_k fun K6 hK6 => ?_
        refine wp_region_list (WL.out ?_)
        refine WL.val (by kernel_rfl) (.int .i64 (t : Int)) (by go_simp) ?_
        simp only [Act.put, List.setIfInBounds_toArray, List.set_cons_zero, List.set_cons_succ]
        refine WL.val (by kernel_rfl) (.pointer (some ⟨gn, t, none⟩)) (by go_simp) ?_
        simp only [Act.put, List.setIfInBounds_toArray, List.set_cons_zero, List.set_cons_succ]
        refine WL.val (by kernel_rfl) (.int .i64 (nn : Int)) (by go_simp) ?_
        clear cnn
        simp only [Act.put, List.setIfInBounds_toArray, List.set_cons_zero, List.set_cons_succ]
        refine WL.val (by kernel_rfl) (.int .i64 (t : Int)) (by go_simp) ?_
        simp only [Act.put, List.setIfInBounds_toArray, List.set_cons_zero, List.set_cons_succ]
        refine WL.val (by kernel_rfl) (.int .i64 (nn : Int)) (by go_simp) ?_
        simp only [Act.put, List.setIfInBounds_toArray, List.set_cons_zero, List.set_cons_succ]
        refine WL.nil ?_
        refine hK6 _ _ ?_
        refine wp_seq_k fun K7 hK7 => ?_
        refine wp_seq_k fun K8 hK8 => ?_
        refine wp_region_list (WL.out ?_)
        refine WL.val (by kernel_rfl) (.int .i64 (i : Int)) (by go_simp) ?_
        simp only [Act.put, List.setIfInBounds_toArray, List.set_cons_zero, List.set_cons_succ]
        refine WL.val (by kernel_rfl) (.int .i64 (nn : Int)) (by go_simp) ?_
        simp only [Act.put, List.setIfInBounds_toArray, List.set_cons_zero, List.set_cons_succ]
        refine WL.val (by kernel_rfl) (.bool true) (by go_simp) ?_
        simp only [Act.put, List.setIfInBounds_toArray, List.set_cons_zero, List.set_cons_succ]
        refine WL.val (by kernel_rfl) (.bool true) (by go_simp) ?_
        simp only [Act.put, List.setIfInBounds_toArray, List.set_cons_zero, List.set_cons_succ]
        refine WL.val (by kernel_rfl) (.int .i64 (nn : Int)) (by go_simp) ?_
        simp only [Act.put, List.setIfInBounds_toArray, List.set_cons_zero, List.set_cons_succ]
        refine WL.val (by kernel_rfl) (.int .i64 (m : Int)) (by go_simp) ?_
        simp only [Act.put, List.setIfInBounds_toArray, List.set_cons_zero, List.set_cons_succ]
        refine WL.val (by kernel_rfl) (.bool true) (by go_simp) ?_
        simp only [Act.put, List.setIfInBounds_toArray, List.set_cons_zero, List.set_cons_succ]
        refine WL.val (by kernel_rfl) (.bool true) (by go_simp) ?_
        simp only [Act.put, List.setIfInBounds_toArray, List.set_cons_zero, List.set_cons_succ]
        refine WL.nil ?_
        refine hK8 _ _ ?_
        refine wp_cond_true rfl ?_
        have bq : Keep (Below wr.heap.size wr wr.drew) := ⟨(Below.refl _ _).drew⟩
        have T5 := Keep.mk (T4.out.below bq.out)
        have N5 : Keep (TN w wr.drew E Ps Qs) := ⟨N4.out.trans (TN.below bq.out)⟩
        have X5 := Keep.mk (X4.out.below bq.out)
        have A5 := Keep.mk (A4.out.below bq.out)
        have B5 := Keep.mk (B4.out.below bq.out)
        clear bq T4 N4 X4 A4 B4
        have hS0 : Keep (∀ (wx : World) (Rs : List PX), Rs.length = nl → TS B wx E ns Rs → Bx wx E Rs rb h2 → (fun wx => wx.cell? ⟨E.pp, 0, none⟩ = some (.slice (some ⟨E.gp, 0, none⟩) nl nl) ∧ wx.rangeAt rb 0 h2.toList) wx) := ⟨fun wx Rs hl ht hb => ⟨by have h := ht.bp.c 0 rfl; rw [hl] at h; exact h, blk_range hb.blk⟩⟩
        have restR : ∀ (g : Nat) (v9 : Value) (w9 : World), TS B w9 E ns (Qs.set t ⟨v9, P_.ps ++ [x2]⟩) → TN w w9 E Ps (Qs.set t ⟨v9, P_.ps ++ [x2]⟩) → Bx w9 E (Qs.set t ⟨v9, P_.ps ++ [x2]⟩) r (bytesA 32 fun _ => 0) → Bx w9 E (Qs.set t ⟨v9, P_.ps ++ [x2]⟩) ra h1 → Bx w9 E (Qs.set t ⟨v9, P_.ps ++ [x2]⟩) rb h2 → K7 { tmps := #[.int .i64 (i : Int), .int .i64 (j : Int), .pointer (some ⟨E.pl, 0, none⟩), .pointer (some ⟨E.pd, 0, none⟩), .pointer (some ⟨E.pn, 0, none⟩), .pointer (some ⟨E.pp, 0, none⟩), undef, undef, .pointer (some ⟨r, 0, none⟩), .int .i64 (m : Int), .pointer (some ⟨ra, 0, none⟩), .pointer (some ⟨rb, 0, none⟩), .int .i64 (t : Int), .int .i64 (nn : Int), .int .i64 (j : Int), .int .i64 (i : Int), .int .i64 ((j - i : Nat) : Int), .bool false, undef, undef, undef, undef, undef, .int .i64 (i : Int), .int .i64 (j : Int), .int .i64 (i : Int), .int .i64 ((j - i : Nat) : Int), .int .i64 (q : Int), .int .i64 (m : Int), E.cl, .int .i64 (i : Int), .int .i64 (m : Int), .agg h1, E.cl, .int .i64 (m : Int), .int .i64 (j : Int), .agg h2, .slice (some ⟨gn, 0, none⟩) nl nc, .int .i64 (nl : Int), .int .i64 (t : Int), .bool true, .int .i64 (t : Int), .pointer (some ⟨gn, t, none⟩), .int .i64 (nn : Int), .int .i64 (i : Int), .int .i64 (nn : Int), .bool true, .bool true, .int .i64 (nn : Int), .int .i64 (m : Int), .bool true, .bool true, .slice (some ⟨E.gp, 0, none⟩) nl nl, .int .i64 (t : Int), .slice (some ⟨E.gp, 0, none⟩) nl nl, .int .i64 (t : Int), .pointer (some ⟨E.gp, t, none⟩), P_.v, .agg h2, .slice (some ⟨g, 0, none⟩) 1 1, v9, .pointer (some ⟨E.gp, t, none⟩), f 62, f 63, f 64, f 65, f 66, f 67, f 68, f 69, f 70, f 71, f 72, f 73, f 74, f 75, f 76, f 77, f 78, f 79, f 80, undef, undef, undef], defers := [] } w9 := by
          intro g v9 w9 hT9 hN9 hX9 hA9 hB9
          have T9 := Keep.mk hT9
          have N9 := Keep.mk hN9
          have X9 := Keep.mk hX9
          have A9 := Keep.mk hA9
          have B9 := Keep.mk hB9
          clear hT9 hN9 hX9 hA9 hB9 T5 N5 X5 A5 B5
          refine hK7 _ _ ?_
          refine wp_seq_k fun K9 hK9 => ?_
          refine wp_region_list (WL.out ?_)
          refine WL.val (by kernel_rfl) (.int .i64 (m : Int)) (by go_simp) ?_
          simp only [Act.put, List.setIfInBounds_toArray, List.set_cons_zero, List.set_cons_succ]
          refine WL.val (by kernel_rfl) (.int .i64 (nn : Int)) (by go_simp) ?_
          simp only [Act.put, List.setIfInBounds_toArray, List.set_cons_zero, List.set_cons_succ]
          refine WL.val (by kernel_rfl) (.bool false) (by go_simp) ?_
          simp only [Act.put, List.setIfInBounds_toArray, List.set_cons_zero, List.set_cons_succ]
          refine WL.val (by kernel_rfl) (.bool false) (by go_simp) ?_
          simp only [Act.put, List.setIfInBounds_toArray, List.set_cons_zero, List.set_cons_succ]
          refine WL.skip (by kernel_rfl) ?_
          simp only [Act.put, List.setIfInBounds_toArray, List.set_cons_zero, List.set_cons_succ]
          refine WL.skip (by kernel_rfl) ?_
          simp only [Act.put, List.setIfInBounds_toArray, List.set_cons_zero, List.set_cons_succ]
          refine WL.skip (by kernel_rfl) ?_
          simp only [Act.put, List.setIfInBounds_toArray, List.set_cons_zero, List.set_cons_succ]
          refine WL.val (by kernel_rfl) (.bool false) (by go_simp) ?_
          simp only [Act.put, List.setIfInBounds_toArray, List.set_cons_zero, List.set_cons_succ]
          refine WL.nil ?_
          refine hK9 _ _ ?_
          refine wp_cond_false rfl ?_
          refine wp_skip ?_
          refine hK5 _ _ ?_
          refine wp_region_list (WL.out ?_)
          refine WL.val (by kernel_rfl) (.int .i64 ((t + 1 : Nat) : Int)) (by go_simp) ?_
          simp only [Act.put, List.setIfInBounds_toArray, List.set_cons_zero, List.set_cons_succ]
          refine WL.val (by kernel_rfl) (.int .i64 ((t + 1 : Nat) : Int)) (by go_simp) ?_
          simp only [Act.put, List.setIfInBounds_toArray, List.set_cons_zero, List.set_cons_succ]
          refine WL.nil ?_
          refine ⟨⟨t + 1, fun zz => [.int .i64 (i : Int), .int .i64 (j : Int), .pointer (some ⟨E.pl, 0, none⟩), .pointer (some ⟨E.pd, 0, none⟩), .pointer (some ⟨E.pn, 0, none⟩), .pointer (some ⟨E.pp, 0, none⟩), undef, undef, .pointer (some ⟨r, 0, none⟩), .int .i64 (m : Int), .pointer (some ⟨ra, 0, none⟩), .pointer (some ⟨rb, 0, none⟩), .int .i64 (t : Int), .int .i64 (nn : Int), .int .i64 (j : Int), .int .i64 (i : Int), .int .i64 ((j - i : Nat) : Int), .bool false, undef, undef, undef, undef, undef, .int .i64 (i : Int), .int .i64 (j : Int), .int .i64 (i : Int), .int .i64 ((j - i : Nat) : Int), .int .i64 (q : Int), .int .i64 (m : Int), E.cl, .int .i64 (i : Int), .int .i64 (m : Int), .agg h1, E.cl, .int .i64 (m : Int), .int .i64 (j : Int), .agg h2, .slice (some ⟨gn, 0, none⟩) nl nc, .int .i64 (nl : Int), .int .i64 ((t + 1 : Nat) : Int), .bool true, .int .i64 (t : Int), .pointer (some ⟨gn, t, none⟩), .int .i64 (nn : Int), .int .i64 (i : Int), .int .i64 (nn : Int), .bool true, .bool true, .int .i64 (nn : Int), .int .i64 (m : Int), .bool true, .bool true, .slice (some ⟨E.gp, 0, none⟩) nl nl, .int .i64 (t : Int), .slice (some ⟨E.gp, 0, none⟩) nl nl, .int .i64 (t : Int), .pointer (some ⟨E.gp, t, none⟩), P_.v, .agg h2, .slice (some ⟨g, 0, none⟩) 1 1, v9, .pointer (some ⟨E.gp, t, none⟩), .int .i64 (m : Int), .int .i64 (nn : Int), .bool false, .bool false, undef, undef, undef, .bool false, f 70, f 71, f 72, f 73, f 74, f 75, f 76, f 77, f 78, f 79, .int .i64 ((t + 1 : Nat) : Int), undef, undef, undef].getD zz undef, rfl, by omega, Qs.set t ⟨v9, P_.ps ++ [x2]⟩, T9.out, fun jj n' P P' hn' hP hP' => ?_, X9.out, A9.out, B9.out, N9.out⟩, ?_⟩
          · rw [List.getElem?_set] at hP'
            by_cases e : t = jj
            · subst e
              rw [if_pos rfl, if_pos (List.getElem?_eq_some_iff.1 HP_.out).1] at hP'
              injection hP' with hP'
              subst hP'
              rw [Hn.out] at hn'
              injection hn' with hn'
              subst hn'
              rw [HQ_.out] at hP
              injection hP with hP
              subst hP
              rw [if_pos (Nat.lt_succ_self _), lastP_lo (by omega), HPe.out]
            · rw [if_neg e] at hP'
              have h := HQ.out jj n' P P' hn' hP hP'
              by_cases e2 : jj < t
              · rw [if_pos e2] at h; rw [if_pos (by omega)]; exact h
              · rw [if_neg e2] at h; rw [if_neg (by omega)]; exact h
          · simp only [intOf]; show nl - (((t + 1 : Nat) : Int)).toNat < nl - ((t : Int)).toNat; omega
        refine wp_region_held_drew (S := fun wx => wx.cell? ⟨E.pp, 0, none⟩ = some (.slice (some ⟨E.gp, 0, none⟩) nl nl) ∧ wx.rangeAt rb 0 h2.toList) (by kernel_rfl) (hS0.out _ Qs (by have := T5.out.len; have := hnl.out; omega) T5.out B5.out) (fun hH0 => ?_)
        generalize wr.drew = w5 at *
        refine wpAnyH_take (i := 0) (oi := ⟨some 52, Op.load 55 (Operand.tmp 5), 55, _, _, none⟩) (v := .slice (some ⟨E.gp, 0, none⟩) nl nl) rfl (by kernel_rfl) (by kernel_rfl) (by kernel_rfl) (fun _ _ _ h => h) (Or.inl ⟨by rfl, fun w hS => by obtain ⟨hS1, hS2⟩ := hS; go_simp⟩) hH0 ?_
        simp only [Act.put, List.setIfInBounds_toArray, List.set_cons_zero, List.set_cons_succ]
        refine wpAnyH_take (i := 1) (oi := ⟨some 53, Op.move (Operand.tmp 12), 3, _, _, none⟩) (v := .int .i64 (t : Int)) rfl (by kernel_rfl) (by kernel_rfl) (by kernel_rfl) (fun _ _ _ h => h) (Or.inl ⟨by rfl, fun w hS => by obtain ⟨hS1, hS2⟩ := hS; go_simp⟩) hH0 ?_
        simp only [Act.put, List.setIfInBounds_toArray, List.set_cons_zero, List.set_cons_succ]
        refine wpAnyH_take (i := 2) (oi := ⟨some 54, Op.load 55 (Operand.tmp 5), 55, _, _, none⟩) (v := .slice (some ⟨E.gp, 0, none⟩) nl nl) rfl (by kernel_rfl) (by kernel_rfl) (by kernel_rfl) (fun _ _ _ h => h) (Or.inl ⟨by rfl, fun w hS => by obtain ⟨hS1, hS2⟩ := hS; go_simp⟩) hH0 ?_
        simp only [Act.put, List.setIfInBounds_toArray, List.set_cons_zero, List.set_cons_succ]
        refine wpAnyH_take (i := 3) (oi := ⟨some 55, Op.move (Operand.tmp 12), 3, _, _, none⟩) (v := .int .i64 (t : Int)) rfl (by kernel_rfl) (by kernel_rfl) (by kernel_rfl) (fun _ _ _ h => h) (Or.inl ⟨by rfl, fun w hS => by obtain ⟨hS1, hS2⟩ := hS; go_simp⟩) hH0 ?_
        simp only [Act.put, List.setIfInBounds_toArray, List.set_cons_zero, List.set_cons_succ]
        refine wpAnyH_take (i := 6) (oi := ⟨some 58, Op.load 25 (Operand.tmp 11), 25, _, _, none⟩) (v := .agg h2) rfl (by kernel_rfl) (by kernel_rfl) (by kernel_rfl) (fun _ _ _ h => h) (yieldsIf_ld (by rfl) (Operand.tmp 11) 25 rfl rb 0 rfl h2 _ Try.underlying25 rfl (by rw [h2e.out]; exact Try.size25B _) fun w hS => hS.2) hH0 ?_
        simp only [Act.put, List.setIfInBounds_toArray, List.set_cons_zero, List.set_cons_succ]
        refine wpAnyH_take (i := 4) (oi := ⟨some 56, Op.indexAddr 55 (Operand.tmp 54) (Operand.tmp 55), 0, _, _, none⟩) (v := .pointer (some ⟨E.gp, t, none⟩)) rfl (by kernel_rfl) (by kernel_rfl) (by kernel_rfl) (fun _ _ _ h => h) (Or.inl ⟨by rfl, fun w hS => by obtain ⟨hS1, hS2⟩ := hS; go_simp⟩) hH0 ?_
        simp only [Act.put, List.setIfInBounds_toArray, List.set_cons_zero, List.set_cons_succ]
        refine wpAnyH_ready (rs := [5, 7]) (by kernel_rfl) (by simp) ?_
        refine AllReadyH.cons (o := ⟨some 57, Op.load 67 (Operand.tmp 56), 67, _, _, none⟩) rfl (fun K hK => ?_) (AllReadyH.cons (o := ⟨some 59, Op.buildSlice 67 1 #[(0, Operand.tmp 58)], 67, _, _, none⟩) rfl (fun K hK => ?_) AllReadyH.nil)
        · rw [if_pos (by rfl)]
          have c_ : w5.cell? ⟨E.gp, t, none⟩ = some P_.v := T5.out.bg.c t (by simp [HP_.out])
          refine wp_val P_.v (by go_simp) ?_
          clear c_
          refine hK _ _ (hS0.out _ Qs (by have := T5.out.len; have := hnl.out; omega) T5.out B5.out) fun hH1 => ?_
          clear hK
          simp only [Act.put, List.setIfInBounds_toArray, List.set_cons_zero, List.set_cons_succ]
          refine wpAnyH_ready (rs := [7]) (by kernel_rfl) (by simp) ?_
          refine AllReadyH.cons (o := ⟨some 59, Op.buildSlice 67 1 #[(0, Operand.tmp 58)], 67, _, _, none⟩) rfl (fun K hK => ?_) AllReadyH.nil
          rw [if_pos (by rfl)]
          refine wp_bs 67 1 _ rfl #[(0, .agg h2)] (by simp [Act.eval]) _ _ (bsX h2 x2 w5 h2e.out) ?_
          have b6 := below_new w5 (.cells h2 25)
          have Q6 := Keep.mk (Blk.new w5 25 h2)
          generalize w5.alloc (.cells h2 25) = w6 at *
          obtain ⟨g, hg⟩ : ∃ z, Keep (z = w5.heap.size) := ⟨_, ⟨rfl⟩⟩
          rw [← hg.out] at Q6 ⊢
          have T6 := Keep.mk (T5.out.below b6)
          have N6 : Keep (TN w w6 E Ps Qs) := ⟨N5.out.trans (TN.below b6)⟩
          have X6 := Keep.mk (X5.out.below b6)
          have A6 := Keep.mk (A5.out.below b6)
          have B6 := Keep.mk (B5.out.below b6)
          clear b6 hg
          refine hK _ _ (hS0.out _ Qs (by have := T5.out.len; have := hnl.out; omega) T6.out B6.out) fun hH1 => ?_
          clear hK
          simp only [Act.put, List.setIfInBounds_toArray, List.set_cons_zero, List.set_cons_succ]
          refine wpAnyH_ready (rs := [8]) (by kernel_rfl) (by simp) ?_
          refine AllReadyH.cons (o := ⟨some 60, Op.call { callee := Callee.builtin Builtin.append, args := #[Operand.tmp 57, Operand.tmp 59], argTypes := #[67, 67] }, 67, _, _, none⟩) rfl (fun K hK => ?_) AllReadyH.nil
          rw [if_pos (by rfl)]
          refine wp_appX (.tmp 57) (.tmp 59) rfl B P_.v P_.ps x2 g 1 rfl rfl (T6.out.own P_ (List.mem_of_getElem? HP_.out)) (by have h := blk_range Q6.out; rw [h2e.out] at h; exact h) HPb.out (Nat.le_trans HB.out N6.out.gr.size) ?_
          intro v9 w7 k1 k2 k3
          obtain ⟨hTa, hNa⟩ := T6.out.add HP_.out k1 k2 k3
          have T9 := Keep.mk hTa
          have N9 : Keep (TN w _ E Ps _) := ⟨N6.out.trans hNa⟩
          have X9 := Keep.mk (X6.out.next hNa)
          have A9 := Keep.mk (A6.out.next hNa)
          have B9 := Keep.mk (B6.out.next hNa)
          have hno : ∀ {k T : Nat} {cs : Array Value}, Blk w6 k T cs → T ≠ 25 → ¬ P_.v.ownBlock = some k := fun hk ht e => absurd ((owns_typ (T6.out.own P_ (List.mem_of_getElem? HP_.out)) e).one hk.typ) (fun e' => ht e'.symm)
          have pp7 : w7.cell? ⟨E.pp, 0, none⟩ = some (.slice (some ⟨E.gp, 0, none⟩) nl nl) := by
            have h := (k2.blk T6.out.bp (hno T6.out.bp (by decide))).c 0 rfl
            rw [show Qs.length = nl from by have := T5.out.len; have := hnl.out; omega] at h
            exact h
          have rb7 : w7.rangeAt rb 0 h2.toList := blk_range (k2.blk B6.out.blk fun e => B6.out.off (.inr ⟨P_, List.mem_of_getElem? HP_.out, e⟩))
          have gb7 := k2.blk T6.out.bg (hno T6.out.bg (by decide))
          have f_ := gb7.frozen t
          have c_ : w7.cell? ⟨E.gp, t, none⟩ = some P_.v := gb7.c t (by simp [HP_.out])
          have v9f : ∃ va vn vc, v9 = .slice va vn vc := by obtain ⟨a_, c_, e_⟩ := owns_sl k1; exact ⟨_, _, _, e_⟩
          clear k1 k2 k3 hTa hNa hno gb7 T6 N6 X6 A6 B6 T5 N5 X5 A5 B5 Q6
          refine hK _ _ ⟨pp7, rb7⟩ fun hH2 => ?_
          clear hK
          simp only [Act.put, List.setIfInBounds_toArray, List.set_cons_zero, List.set_cons_succ]
          refine wpAnyH_take (i := 9) (oi := ⟨some 61, Op.indexAddr 55 (Operand.tmp 52) (Operand.tmp 53), 0, _, _, none⟩) (v := .pointer (some ⟨E.gp, t, none⟩)) rfl (by kernel_rfl) (by kernel_rfl) (by kernel_rfl) (fun _ _ _ h => h) (Or.inl ⟨by rfl, fun w hS => by obtain ⟨hS1, hS2⟩ := hS; go_simp⟩) hH2 ?_
          simp only [Act.put, List.setIfInBounds_toArray, List.set_cons_zero, List.set_cons_succ]
          refine wpAnyH_ready (rs := [10]) (by kernel_rfl) (by simp) ?_
          refine AllReadyH.cons (o := ⟨none, Op.store 67 (Operand.tmp 61) (Operand.tmp 60), 0, _, _, none⟩) rfl (fun K hK => ?_) AllReadyH.nil
          rw [if_pos (by rfl)]
          refine wp_cellS (w7.setCell ⟨E.gp, t, none⟩ v9) (by obtain ⟨va, vn, vc, rfl⟩ := v9f; go_simp) ?_
          refine hK _ _ (hS0.out _ _ (by rw [List.length_set]; have := T9.out.len; rw [List.length_set] at this; have := hnl.out; omega) T9.out B9.out) fun hH3 => ?_
          clear hK
          simp only [Act.put]
          refine wpAnyH_done (by kernel_rfl) ?_ _
          exact restR g v9 _ T9.out N9.out X9.out A9.out B9.out
        · rw [if_pos (by rfl)]
          refine wp_bs 67 1 _ rfl #[(0, .agg h2)] (by simp [Act.eval]) _ _ (bsX h2 x2 w5 h2e.out) ?_
          have b6 := below_new w5 (.cells h2 25)
          have Q6 := Keep.mk (Blk.new w5 25 h2)
          generalize w5.alloc (.cells h2 25) = w6 at *
          obtain ⟨g, hg⟩ : ∃ z, Keep (z = w5.heap.size) := ⟨_, ⟨rfl⟩⟩
          rw [← hg.out] at Q6 ⊢
          have T6 := Keep.mk (T5.out.below b6)
          have N6 : Keep (TN w w6 E Ps Qs) := ⟨N5.out.trans (TN.below b6)⟩
          have X6 := Keep.mk (X5.out.below b6)
          have A6 := Keep.mk (A5.out.below b6)
          have B6 := Keep.mk (B5.out.below b6)
          clear b6 hg
          refine hK _ _ (hS0.out _ Qs (by have := T5.out.len; have := hnl.out; omega) T6.out B6.out) fun hH1 => ?_
          clear hK
          simp only [Act.put, List.setIfInBounds_toArray, List.set_cons_zero, List.set_cons_succ]
          refine wpAnyH_ready (rs := [5]) (by kernel_rfl) (by simp) ?_
          refine AllReadyH.cons (o := ⟨some 57, Op.load 67 (Operand.tmp 56), 67, _, _, none⟩) rfl (fun K hK => ?_) AllReadyH.nil
          rw [if_pos (by rfl)]
          have c_ : w6.cell? ⟨E.gp, t, none⟩ = some P_.v := T6.out.bg.c t (by simp [HP_.out])
          refine wp_val P_.v (by go_simp) ?_
          clear c_
          refine hK _ _ (hS0.out _ Qs (by have := T5.out.len; have := hnl.out; omega) T6.out B6.out) fun hH1 => ?_
          clear hK
          simp only [Act.put, List.setIfInBounds_toArray, List.set_cons_zero, List.set_cons_succ]
          refine wpAnyH_ready (rs := [8]) (by kernel_rfl) (by simp) ?_
          refine AllReadyH.cons (o := ⟨some 60, Op.call { callee := Callee.builtin Builtin.append, args := #[Operand.tmp 57, Operand.tmp 59], argTypes := #[67, 67] }, 67, _, _, none⟩) rfl (fun K hK => ?_) AllReadyH.nil
          rw [if_pos (by rfl)]
          refine wp_appX (.tmp 57) (.tmp 59) rfl B P_.v P_.ps x2 g 1 rfl rfl (T6.out.own P_ (List.mem_of_getElem? HP_.out)) (by have h := blk_range Q6.out; rw [h2e.out] at h; exact h) HPb.out (Nat.le_trans HB.out N6.out.gr.size) ?_
          intro v9 w7 k1 k2 k3
          obtain ⟨hTa, hNa⟩ := T6.out.add HP_.out k1 k2 k3
          have T9 := Keep.mk hTa
          have N9 : Keep (TN w _ E Ps _) := ⟨N6.out.trans hNa⟩
          have X9 := Keep.mk (X6.out.next hNa)
          have A9 := Keep.mk (A6.out.next hNa)
          have B9 := Keep.mk (B6.out.next hNa)
          have hno : ∀ {k T : Nat} {cs : Array Value}, Blk w6 k T cs → T ≠ 25 → ¬ P_.v.ownBlock = some k := fun hk ht e => absurd ((owns_typ (T6.out.own P_ (List.mem_of_getElem? HP_.out)) e).one hk.typ) (fun e' => ht e'.symm)
          have pp7 : w7.cell? ⟨E.pp, 0, none⟩ = some (.slice (some ⟨E.gp, 0, none⟩) nl nl) := by
            have h := (k2.blk T6.out.bp (hno T6.out.bp (by decide))).c 0 rfl
            rw [show Qs.length = nl from by have := T5.out.len; have := hnl.out; omega] at h
            exact h
          have rb7 : w7.rangeAt rb 0 h2.toList := blk_range (k2.blk B6.out.blk fun e => B6.out.off (.inr ⟨P_, List.mem_of_getElem? HP_.out, e⟩))
          have gb7 := k2.blk T6.out.bg (hno T6.out.bg (by decide))
          have f_ := gb7.frozen t
          have c_ : w7.cell? ⟨E.gp, t, none⟩ = some P_.v := gb7.c t (by simp [HP_.out])
          have v9f : ∃ va vn vc, v9 = .slice va vn vc := by obtain ⟨a_, c_, e_⟩ := owns_sl k1; exact ⟨_, _, _, e_⟩
          clear k1 k2 k3 hTa hNa hno gb7 T6 N6 X6 A6 B6 T5 N5 X5 A5 B5 Q6
          refine hK _ _ ⟨pp7, rb7⟩ fun hH2 => ?_
          clear hK
          simp only [Act.put, List.setIfInBounds_toArray, List.set_cons_zero, List.set_cons_succ]
          refine wpAnyH_take (i := 9) (oi := ⟨some 61, Op.indexAddr 55 (Operand.tmp 52) (Operand.tmp 53), 0, _, _, none⟩) (v := .pointer (some ⟨E.gp, t, none⟩)) rfl (by kernel_rfl) (by kernel_rfl) (by kernel_rfl) (fun _ _ _ h => h) (Or.inl ⟨by rfl, fun w hS => by obtain ⟨hS1, hS2⟩ := hS; go_simp⟩) hH2 ?_
          simp only [Act.put, List.setIfInBounds_toArray, List.set_cons_zero, List.set_cons_succ]
          refine wpAnyH_ready (rs := [10]) (by kernel_rfl) (by simp) ?_
          refine AllReadyH.cons (o := ⟨none, Op.store 67 (Operand.tmp 61) (Operand.tmp 60), 0, _, _, none⟩) rfl (fun K hK => ?_) AllReadyH.nil
          rw [if_pos (by rfl)]
          refine wp_cellS (w7.setCell ⟨E.gp, t, none⟩ v9) (by obtain ⟨va, vn, vc, rfl⟩ := v9f; go_simp) ?_
          refine hK _ _ (hS0.out _ _ (by rw [List.length_set]; have := T9.out.len; rw [List.length_set] at this; have := hnl.out; omega) T9.out B9.out) fun hH3 => ?_
          clear hK
          simp only [Act.put]
          refine wpAnyH_done (by kernel_rfl) ?_ _
          exact restR g v9 _ T9.out N9.out X9.out A9.out B9.out
      · have g2' : ¬ (nn : Int) < (m : Int) := by omega
        have g3' : (m : Int) ≤ (nn : Int) := by omega
        by_cases g4 : nn < j
        · have g4' : (nn : Int) < (j : Int) := by omega
          refine wp_seq_k fun K9 hK9 => ?_
          refine wp_region_list (WL.out ?_)
          refine WL.val (by kernel_rfl) (.bool true) (by go_simp) ?_
          simp only [Act.put, List.setIfInBounds_toArray, List.set_cons_zero, List.set_cons_succ]
          refine WL.nil ?_
          refine hK9 _ _ ?_
          refine wp_seq_k fun K10 hK10 => ?_
          refine wp_cond_true rfl ?_
          refine wp_skip ?_
          refine hK10 _ _ ?_
          refine wp_seq_k fun K11 hK11 => ?_
          refine wp_block ?_
          refine wp_seq_k fun K12 hK12 => ?_
          refine wp_region_list (WL.out ?_)
          refine WL.val (by kernel_rfl) (.int .i64 (t : Int)) (by go_simp) ?_
          simp only [Act.put, List.setIfInBounds_toArray, List.set_cons_zero, List.set_cons_succ]
          refine WL.val (by kernel_rfl) (.pointer (some ⟨gn, t, none⟩)) (by go_simp) ?_
          simp only [Act.put, List.setIfInBounds_toArray, List.set_cons_zero, List.set_cons_succ]
          refine WL.val (by kernel_rfl) (.int .i64 (nn : Int)) (by go_simp) ?_
          clear cnn
          simp only [Act.put, List.setIfInBounds_toArray, List.set_cons_zero, List.set_cons_succ]
          refine WL.val (by kernel_rfl) (.int .i64 (t : Int)) (by go_simp) ?_
          simp only [Act.put, List.setIfInBounds_toArray, List.set_cons_zero, List.set_cons_succ]
          refine WL.val (by kernel_rfl) (.int .i64 (nn : Int)) (by go_simp) ?_
          simp only [Act.put, List.setIfInBounds_toArray, List.set_cons_zero, List.set_cons_succ]
          refine WL.nil ?_
          refine hK12 _ _ ?_
          refine wp_seq_k fun K13 hK13 => ?_
          refine wp_seq_k fun K14 hK14 => ?_
          refine wp_region_list (WL.out ?_)
          refine WL.val (by kernel_rfl) (.int .i64 (i : Int)) (by go_simp) ?_
          simp only [Act.put, List.setIfInBounds_toArray, List.set_cons_zero, List.set_cons_succ]
          refine WL.val (by kernel_rfl) (.int .i64 (nn : Int)) (by go_simp) ?_
          simp only [Act.put, List.setIfInBounds_toArray, List.set_cons_zero, List.set_cons_succ]
          refine WL.val (by kernel_rfl) (.bool true) (by go_simp) ?_
          simp only [Act.put, List.setIfInBounds_toArray, List.set_cons_zero, List.set_cons_succ]
          refine WL.val (by kernel_rfl) (.bool true) (by go_simp) ?_
          simp only [Act.put, List.setIfInBounds_toArray, List.set_cons_zero, List.set_cons_succ]
          refine WL.val (by kernel_rfl) (.int .i64 (nn : Int)) (by go_simp) ?_
          simp only [Act.put, List.setIfInBounds_toArray, List.set_cons_zero, List.set_cons_succ]
          refine WL.val (by kernel_rfl) (.int .i64 (m : Int)) (by go_simp) ?_
          simp only [Act.put, List.setIfInBounds_toArray, List.set_cons_zero, List.set_cons_succ]
          refine WL.val (by kernel_rfl) (.bool false) (by go_simp) ?_
          simp only [Act.put, List.setIfInBounds_toArray, List.set_cons_zero, List.set_cons_succ]
          refine WL.val (by kernel_rfl) (.bool false) (by go_simp) ?_
          simp only [Act.put, List.setIfInBounds_toArray, List.set_cons_zero, List.set_cons_succ]
          refine WL.nil ?_
          refine hK14 _ _ ?_
          refine wp_cond_false rfl ?_
          refine wp_skip ?_
          refine hK13 _ _ ?_
          refine wp_seq_k fun K15 hK15 => ?_
          refine wp_region_list (WL.out ?_)
          refine WL.val (by kernel_rfl) (.int .i64 (m : Int)) (by go_simp) ?_
          simp only [Act.put, List.setIfInBounds_toArray, List.set_cons_zero, List.set_cons_succ]
          refine WL.val (by kernel_rfl) (.int .i64 (nn : Int)) (by go_simp) ?_
          simp only [Act.put, List.setIfInBounds_toArray, List.set_cons_zero, List.set_cons_succ]
          refine WL.val (by kernel_rfl) (.bool true) (by go_simp) ?_
          simp only [Act.put, List.setIfInBounds_toArray, List.set_cons_zero, List.set_cons_succ]
          refine WL.val (by kernel_rfl) (.bool true) (by go_simp) ?_
          simp only [Act.put, List.setIfInBounds_toArray, List.set_cons_zero, List.set_cons_succ]
          refine WL.val (by kernel_rfl) (.int .i64 (nn : Int)) (by go_simp) ?_
          simp only [Act.put, List.setIfInBounds_toArray, List.set_cons_zero, List.set_cons_succ]
          refine WL.val (by kernel_rfl) (.int .i64 (j : Int)) (by go_simp) ?_
          simp only [Act.put, List.setIfInBounds_toArray, List.set_cons_zero, List.set_cons_succ]
          refine WL.val (by kernel_rfl) (.bool true) (by go_simp) ?_
          simp only [Act.put, List.setIfInBounds_toArray, List.set_cons_zero, List.set_cons_succ]
          refine WL.val (by kernel_rfl) (.bool true) (by go_simp) ?_
          simp only [Act.put, List.setIfInBounds_toArray, List.set_cons_zero, List.set_cons_succ]
          refine WL.nil ?_
          refine hK15 _ _ ?_
          refine wp_cond_true rfl ?_
          have bq : Keep (Below wr.heap.size wr wr.drew) := ⟨(Below.refl _ _).drew⟩
          have T5 := Keep.mk (T4.out.below bq.out)
          have N5 : Keep (TN w wr.drew E Ps Qs) := ⟨N4.out.trans (TN.below bq.out)⟩
          have X5 := Keep.mk (X4.out.below bq.out)
          have A5 := Keep.mk (A4.out.below bq.out)
          have B5 := Keep.mk (B4.out.below bq.out)
          clear bq T4 N4 X4 A4 B4
          have hS0 : Keep (∀ (wx : World) (Rs : List PX), Rs.length = nl → TS B wx E ns Rs → Bx wx E Rs ra h1 → (fun wx => wx.cell? ⟨E.pp, 0, none⟩ = some (.slice (some ⟨E.gp, 0, none⟩) nl nl) ∧ wx.rangeAt ra 0 h1.toList) wx) := ⟨fun wx Rs hl ht hb => ⟨by have h := ht.bp.c 0 rfl; rw [hl] at h; exact h, blk_range hb.blk⟩⟩
          have restR : ∀ (g : Nat) (v9 : Value) (w9 : World), TS B w9 E ns (Qs.set t ⟨v9, P_.ps ++ [x1]⟩) → TN w w9 E Ps (Qs.set t ⟨v9, P_.ps ++ [x1]⟩) → Bx w9 E (Qs.set t ⟨v9, P_.ps ++ [x1]⟩) r (bytesA 32 fun _ => 0) → Bx w9 E (Qs.set t ⟨v9, P_.ps ++ [x1]⟩) ra h1 → Bx w9 E (Qs.set t ⟨v9, P_.ps ++ [x1]⟩) rb h2 → K11 { tmps := #[.int .i64 (i : Int), .int .i64 (j : Int), .pointer (some ⟨E.pl, 0, none⟩), .pointer (some ⟨E.pd, 0, none⟩), .pointer (some ⟨E.pn, 0, none⟩), .pointer (some ⟨E.pp, 0, none⟩), undef, undef, .pointer (some ⟨r, 0, none⟩), .int .i64 (m : Int), .pointer (some ⟨ra, 0, none⟩), .pointer (some ⟨rb, 0, none⟩), .int .i64 (t : Int), .int .i64 (nn : Int), .int .i64 (j : Int), .int .i64 (i : Int), .int .i64 ((j - i : Nat) : Int), .bool false, undef, undef, undef, undef, undef, .int .i64 (i : Int), .int .i64 (j : Int), .int .i64 (i : Int), .int .i64 ((j - i : Nat) : Int), .int .i64 (q : Int), .int .i64 (m : Int), E.cl, .int .i64 (i : Int), .int .i64 (m : Int), .agg h1, E.cl, .int .i64 (m : Int), .int .i64 (j : Int), .agg h2, .slice (some ⟨gn, 0, none⟩) nl nc, .int .i64 (nl : Int), .int .i64 (t : Int), .bool true, .int .i64 (t : Int), .pointer (some ⟨gn, t, none⟩), .int .i64 (nn : Int), .int .i64 (i : Int), .int .i64 (nn : Int), .bool true, .bool true, .int .i64 (nn : Int), .int .i64 (m : Int), .bool false, .bool false, f 52, f 53, f 54, f 55, f 56, f 57, f 58, f 59, f 60, f 61, .int .i64 (m : Int), .int .i64 (nn : Int), .bool true, .bool true, .int .i64 (nn : Int), .int .i64 (j : Int), .bool true, .bool true, .slice (some ⟨E.gp, 0, none⟩) nl nl, .int .i64 (t : Int), .slice (some ⟨E.gp, 0, none⟩) nl nl, .int .i64 (t : Int), .pointer (some ⟨E.gp, t, none⟩), P_.v, .agg h1, .slice (some ⟨g, 0, none⟩) 1 1, v9, .pointer (some ⟨E.gp, t, none⟩), f 80, undef, undef, undef], defers := [] } w9 := by
            intro g v9 w9 hT9 hN9 hX9 hA9 hB9
            have T9 := Keep.mk hT9
            have N9 := Keep.mk hN9
            have X9 := Keep.mk hX9
            have A9 := Keep.mk hA9
            have B9 := Keep.mk hB9
            clear hT9 hN9 hX9 hA9 hB9 T5 N5 X5 A5 B5
            refine hK11 _ _ ?_
            refine wp_region_list (WL.out ?_)
            refine WL.val (by kernel_rfl) (.int .i64 ((t + 1 : Nat) : Int)) (by go_simp) ?_
            simp only [Act.put, List.setIfInBounds_toArray, List.set_cons_zero, List.set_cons_succ]
            refine WL.val (by kernel_rfl) (.int .i64 ((t + 1 : Nat) : Int)) (by go_simp) ?_
            simp only [Act.put, List.setIfInBounds_toArray, List.set_cons_zero, List.set_cons_succ]
            refine WL.nil ?_
            refine ⟨⟨t + 1, fun zz => [.int .i64 (i : Int), .int .i64 (j : Int), .pointer (some ⟨E.pl, 0, none⟩), .pointer (some ⟨E.pd, 0, none⟩), .pointer (some ⟨E.pn, 0, none⟩), .pointer (some ⟨E.pp, 0, none⟩), undef, undef, .pointer (some ⟨r, 0, none⟩), .int .i64 (m : Int), .pointer (some ⟨ra, 0, none⟩), .pointer (some ⟨rb, 0, none⟩), .int .i64 (t : Int), .int .i64 (nn : Int), .int .i64 (j : Int), .int .i64 (i : Int), .int .i64 ((j - i : Nat) : Int), .bool false, undef, undef, undef, undef, undef, .int .i64 (i : Int), .int .i64 (j : Int), .int .i64 (i : Int), .int .i64 ((j - i : Nat) : Int), .int .i64 (q : Int), .int .i64 (m : Int), E.cl, .int .i64 (i : Int), .int .i64 (m : Int), .agg h1, E.cl, .int .i64 (m : Int), .int .i64 (j : Int), .agg h2, .slice (some ⟨gn, 0, none⟩) nl nc, .int .i64 (nl : Int), .int .i64 ((t + 1 : Nat) : Int), .bool true, .int .i64 (t : Int), .pointer (some ⟨gn, t, none⟩), .int .i64 (nn : Int), .int .i64 (i : Int), .int .i64 (nn : Int), .bool true, .bool true, .int .i64 (nn : Int), .int .i64 (m : Int), .bool false, .bool false, f 52, f 53, f 54, f 55, f 56, f 57, f 58, f 59, f 60, f 61, .int .i64 (m : Int), .int .i64 (nn : Int), .bool true, .bool true, .int .i64 (nn : Int), .int .i64 (j : Int), .bool true, .bool true, .slice (some ⟨E.gp, 0, none⟩) nl nl, .int .i64 (t : Int), .slice (some ⟨E.gp, 0, none⟩) nl nl, .int .i64 (t : Int), .pointer (some ⟨E.gp, t, none⟩), P_.v, .agg h1, .slice (some ⟨g, 0, none⟩) 1 1, v9, .pointer (some ⟨E.gp, t, none⟩), .int .i64 ((t + 1 : Nat) : Int), undef, undef, undef].getD zz undef, rfl, by omega, Qs.set t ⟨v9, P_.ps ++ [x1]⟩, T9.out, fun jj n' P P' hn' hP hP' => ?_, X9.out, A9.out, B9.out, N9.out⟩, ?_⟩
            · rw [List.getElem?_set] at hP'
              by_cases e : t = jj
              · subst e
                rw [if_pos rfl, if_pos (List.getElem?_eq_some_iff.1 HP_.out).1] at hP'
                injection hP' with hP'
                subst hP'
                rw [Hn.out] at hn'
                injection hn' with hn'
                subst hn'
                rw [HQ_.out] at hP
                injection hP with hP
                subst hP
                rw [if_pos (Nat.lt_succ_self _), lastP_hi (by omega), HPe.out]
              · rw [if_neg e] at hP'
                have h := HQ.out jj n' P P' hn' hP hP'
                by_cases e2 : jj < t
                · rw [if_pos e2] at h; rw [if_pos (by omega)]; exact h
                · rw [if_neg e2] at h; rw [if_neg (by omega)]; exact h
            · simp only [intOf]; show nl - (((t + 1 : Nat) : Int)).toNat < nl - ((t : Int)).toNat; omega
          refine wp_region_held_drew (S := fun wx => wx.cell? ⟨E.pp, 0, none⟩ = some (.slice (some ⟨E.gp, 0, none⟩) nl nl) ∧ wx.rangeAt ra 0 h1.toList) (by kernel_rfl) (hS0.out _ Qs (by have := T5.out.len; have := hnl.out; omega) T5.out A5.out) (fun hH0 => ?_)
          generalize wr.drew = w5 at *
          refine wpAnyH_take (i := 0) (oi := ⟨some 70, Op.load 55 (Operand.tmp 5), 55, _, _, none⟩) (v := .slice (some ⟨E.gp, 0, none⟩) nl nl) rfl (by kernel_rfl) (by kernel_rfl) (by kernel_rfl) (fun _ _ _ h => h) (Or.inl ⟨by rfl, fun w hS => by obtain ⟨hS1, hS2⟩ := hS; go_simp⟩) hH0 ?_
          simp only [Act.put, List.setIfInBounds_toArray, List.set_cons_zero, List.set_cons_succ]
          refine wpAnyH_take (i := 1) (oi := ⟨some 71, Op.move (Operand.tmp 12), 3, _, _, none⟩) (v := .int .i64 (t : Int)) rfl (by kernel_rfl) (by kernel_rfl) (by kernel_rfl) (fun _ _ _ h => h) (Or.inl ⟨by rfl, fun w hS => by obtain ⟨hS1, hS2⟩ := hS; go_simp⟩) hH0 ?_
          simp only [Act.put, List.setIfInBounds_toArray, List.set_cons_zero, List.set_cons_succ]
          refine wpAnyH_take (i := 2) (oi := ⟨some 72, Op.load 55 (Operand.tmp 5), 55, _, _, none⟩) (v := .slice (some ⟨E.gp, 0, none⟩) nl nl) rfl (by kernel_rfl) (by kernel_rfl) (by kernel_rfl) (fun _ _ _ h => h) (Or.inl ⟨by rfl, fun w hS => by obtain ⟨hS1, hS2⟩ := hS; go_simp⟩) hH0 ?_
          simp only [Act.put, List.setIfInBounds_toArray, List.set_cons_zero, List.set_cons_succ]
          refine wpAnyH_take (i := 3) (oi := ⟨some 73, Op.move (Operand.tmp 12), 3, _, _, none⟩) (v := .int .i64 (t : Int)) rfl (by kernel_rfl) (by kernel_rfl) (by kernel_rfl) (fun _ _ _ h => h) (Or.inl ⟨by rfl, fun w hS => by obtain ⟨hS1, hS2⟩ := hS; go_simp⟩) hH0 ?_
          simp only [Act.put, List.setIfInBounds_toArray, List.set_cons_zero, List.set_cons_succ]
          refine wpAnyH_take (i := 6) (oi := ⟨some 76, Op.load 25 (Operand.tmp 10), 25, _, _, none⟩) (v := .agg h1) rfl (by kernel_rfl) (by kernel_rfl) (by kernel_rfl) (fun _ _ _ h => h) (yieldsIf_ld (by rfl) (Operand.tmp 10) 25 rfl ra 0 rfl h1 _ Try.underlying25 rfl (by rw [h1e.out]; exact Try.size25B _) fun w hS => hS.2) hH0 ?_
          simp only [Act.put, List.setIfInBounds_toArray, List.set_cons_zero, List.set_cons_succ]
          refine wpAnyH_take (i := 4) (oi := ⟨some 74, Op.indexAddr 55 (Operand.tmp 72) (Operand.tmp 73), 0, _, _, none⟩) (v := .pointer (some ⟨E.gp, t, none⟩)) rfl (by kernel_rfl) (by kernel_rfl) (by kernel_rfl) (fun _ _ _ h => h) (Or.inl ⟨by rfl, fun w hS => by obtain ⟨hS1, hS2⟩ := hS; go_simp⟩) hH0 ?_
          simp only [Act.put, List.setIfInBounds_toArray, List.set_cons_zero, List.set_cons_succ]
          refine wpAnyH_ready (rs := [5, 7]) (by kernel_rfl) (by simp) ?_
          refine AllReadyH.cons (o := ⟨some 75, Op.load 67 (Operand.tmp 74), 67, _, _, none⟩) rfl (fun K hK => ?_) (AllReadyH.cons (o := ⟨some 77, Op.buildSlice 67 1 #[(0, Operand.tmp 76)], 67, _, _, none⟩) rfl (fun K hK => ?_) AllReadyH.nil)
          · rw [if_pos (by rfl)]
            have c_ : w5.cell? ⟨E.gp, t, none⟩ = some P_.v := T5.out.bg.c t (by simp [HP_.out])
            refine wp_val P_.v (by go_simp) ?_
            clear c_
            refine hK _ _ (hS0.out _ Qs (by have := T5.out.len; have := hnl.out; omega) T5.out A5.out) fun hH1 => ?_
            clear hK
            simp only [Act.put, List.setIfInBounds_toArray, List.set_cons_zero, List.set_cons_succ]
            refine wpAnyH_ready (rs := [7]) (by kernel_rfl) (by simp) ?_
            refine AllReadyH.cons (o := ⟨some 77, Op.buildSlice 67 1 #[(0, Operand.tmp 76)], 67, _, _, none⟩) rfl (fun K hK => ?_) AllReadyH.nil
            rw [if_pos (by rfl)]
            refine wp_bs 67 1 _ rfl #[(0, .agg h1)] (by simp [Act.eval]) _ _ (bsX h1 x1 w5 h1e.out) ?_
            have b6 := below_new w5 (.cells h1 25)
            have Q6 := Keep.mk (Blk.new w5 25 h1)
            generalize w5.alloc (.cells h1 25) = w6 at *
            obtain ⟨g, hg⟩ : ∃ z, Keep (z = w5.heap.size) := ⟨_, ⟨rfl⟩⟩
            rw [← hg.out] at Q6 ⊢
            have T6 := Keep.mk (T5.out.below b6)
            have N6 : Keep (TN w w6 E Ps Qs) := ⟨N5.out.trans (TN.below b6)⟩
            have X6 := Keep.mk (X5.out.below b6)
            have A6 := Keep.mk (A5.out.below b6)
            have B6 := Keep.mk (B5.out.below b6)
            clear b6 hg
            refine hK _ _ (hS0.out _ Qs (by have := T5.out.len; have := hnl.out; omega) T6.out A6.out) fun hH1 => ?_
            clear hK
            simp only [Act.put, List.setIfInBounds_toArray, List.set_cons_zero, List.set_cons_succ]
            refine wpAnyH_ready (rs := [8]) (by kernel_rfl) (by simp) ?_
            refine AllReadyH.cons (o := ⟨some 78, Op.call { callee := Callee.builtin Builtin.append, args := #[Operand.tmp 75, Operand.tmp 77], argTypes := #[67, 67] }, 67, _, _, none⟩) rfl (fun K hK => ?_) AllReadyH.nil
            rw [if_pos (by rfl)]
            refine wp_appX (.tmp 75) (.tmp 77) rfl B P_.v P_.ps x1 g 1 rfl rfl (T6.out.own P_ (List.mem_of_getElem? HP_.out)) (by have h := blk_range Q6.out; rw [h1e.out] at h; exact h) HPb.out (Nat.le_trans HB.out N6.out.gr.size) ?_
            intro v9 w7 k1 k2 k3
            obtain ⟨hTa, hNa⟩ := T6.out.add HP_.out k1 k2 k3
            have T9 := Keep.mk hTa
            have N9 : Keep (TN w _ E Ps _) := ⟨N6.out.trans hNa⟩
            have X9 := Keep.mk (X6.out.next hNa)
            have A9 := Keep.mk (A6.out.next hNa)
            have B9 := Keep.mk (B6.out.next hNa)
            have hno : ∀ {k T : Nat} {cs : Array Value}, Blk w6 k T cs → T ≠ 25 → ¬ P_.v.ownBlock = some k := fun hk ht e => absurd ((owns_typ (T6.out.own P_ (List.mem_of_getElem? HP_.out)) e).one hk.typ) (fun e' => ht e'.symm)
            have pp7 : w7.cell? ⟨E.pp, 0, none⟩ = some (.slice (some ⟨E.gp, 0, none⟩) nl nl) := by
              have h := (k2.blk T6.out.bp (hno T6.out.bp (by decide))).c 0 rfl
              rw [show Qs.length = nl from by have := T5.out.len; have := hnl.out; omega] at h
              exact h
            have rb7 : w7.rangeAt ra 0 h1.toList := blk_range (k2.blk A6.out.blk fun e => A6.out.off (.inr ⟨P_, List.mem_of_getElem? HP_.out, e⟩))
            have gb7 := k2.blk T6.out.bg (hno T6.out.bg (by decide))
            have f_ := gb7.frozen t
            have c_ : w7.cell? ⟨E.gp, t, none⟩ = some P_.v := gb7.c t (by simp [HP_.out])
            have v9f : ∃ va vn vc, v9 = .slice va vn vc := by obtain ⟨a_, c_, e_⟩ := owns_sl k1; exact ⟨_, _, _, e_⟩
            clear k1 k2 k3 hTa hNa hno gb7 T6 N6 X6 A6 B6 T5 N5 X5 A5 B5 Q6
            refine hK _ _ ⟨pp7, rb7⟩ fun hH2 => ?_
            clear hK
            simp only [Act.put, List.setIfInBounds_toArray, List.set_cons_zero, List.set_cons_succ]
            refine wpAnyH_take (i := 9) (oi := ⟨some 79, Op.indexAddr 55 (Operand.tmp 70) (Operand.tmp 71), 0, _, _, none⟩) (v := .pointer (some ⟨E.gp, t, none⟩)) rfl (by kernel_rfl) (by kernel_rfl) (by kernel_rfl) (fun _ _ _ h => h) (Or.inl ⟨by rfl, fun w hS => by obtain ⟨hS1, hS2⟩ := hS; go_simp⟩) hH2 ?_
            simp only [Act.put, List.setIfInBounds_toArray, List.set_cons_zero, List.set_cons_succ]
            refine wpAnyH_ready (rs := [10]) (by kernel_rfl) (by simp) ?_
            refine AllReadyH.cons (o := ⟨none, Op.store 67 (Operand.tmp 79) (Operand.tmp 78), 0, _, _, none⟩) rfl (fun K hK => ?_) AllReadyH.nil
            rw [if_pos (by rfl)]
            refine wp_cellS (w7.setCell ⟨E.gp, t, none⟩ v9) (by obtain ⟨va, vn, vc, rfl⟩ := v9f; go_simp) ?_
            refine hK _ _ (hS0.out _ _ (by rw [List.length_set]; have := T9.out.len; rw [List.length_set] at this; have := hnl.out; omega) T9.out A9.out) fun hH3 => ?_
            clear hK
            simp only [Act.put]
            refine wpAnyH_done (by kernel_rfl) ?_ _
            exact restR g v9 _ T9.out N9.out X9.out A9.out B9.out
          · rw [if_pos (by rfl)]
            refine wp_bs 67 1 _ rfl #[(0, .agg h1)] (by simp [Act.eval]) _ _ (bsX h1 x1 w5 h1e.out) ?_
            have b6 := below_new w5 (.cells h1 25)
            have Q6 := Keep.mk (Blk.new w5 25 h1)
            generalize w5.alloc (.cells h1 25) = w6 at *
            obtain ⟨g, hg⟩ : ∃ z, Keep (z = w5.heap.size) := ⟨_, ⟨rfl⟩⟩
            rw [← hg.out] at Q6 ⊢
            have T6 := Keep.mk (T5.out.below b6)
            have N6 : Keep (TN w w6 E Ps Qs) := ⟨N5.out.trans (TN.below b6)⟩
            have X6 := Keep.mk (X5.out.below b6)
            have A6 := Keep.mk (A5.out.below b6)
            have B6 := Keep.mk (B5.out.below b6)
            clear b6 hg
            refine hK _ _ (hS0.out _ Qs (by have := T5.out.len; have := hnl.out; omega) T6.out A6.out) fun hH1 => ?_
            clear hK
            simp only [Act.put, List.setIfInBounds_toArray, List.set_cons_zero, List.set_cons_succ]
            refine wpAnyH_ready (rs := [5]) (by kernel_rfl) (by simp) ?_
            refine AllReadyH.cons (o := ⟨some 75, Op.load 67 (Operand.tmp 74), 67, _, _, none⟩) rfl (fun K hK => ?_) AllReadyH.nil
            rw [if_pos (by rfl)]
            have c_ : w6.cell? ⟨E.gp, t, none⟩ = some P_.v := T6.out.bg.c t (by simp [HP_.out])
            refine wp_val P_.v (by go_simp) ?_
            clear c_
            refine hK _ _ (hS0.out _ Qs (by have := T5.out.len; have := hnl.out; omega) T6.out A6.out) fun hH1 => ?_
            clear hK
            simp only [Act.put, List.setIfInBounds_toArray, List.set_cons_zero, List.set_cons_succ]
            refine wpAnyH_ready (rs := [8]) (by kernel_rfl) (by simp) ?_
            refine AllReadyH.cons (o := ⟨some 78, Op.call { callee := Callee.builtin Builtin.append, args := #[Operand.tmp 75, Operand.tmp 77], argTypes := #[67, 67] }, 67, _, _, none⟩) rfl (fun K hK => ?_) AllReadyH.nil
            rw [if_pos (by rfl)]
            refine wp_appX (.tmp 75) (.tmp 77) rfl B P_.v P_.ps x1 g 1 rfl rfl (T6.out.own P_ (List.mem_of_getElem? HP_.out)) (by have h := blk_range Q6.out; rw [h1e.out] at h; exact h) HPb.out (Nat.le_trans HB.out N6.out.gr.size) ?_
            intro v9 w7 k1 k2 k3
            obtain ⟨hTa, hNa⟩ := T6.out.add HP_.out k1 k2 k3
            have T9 := Keep.mk hTa
            have N9 : Keep (TN w _ E Ps _) := ⟨N6.out.trans hNa⟩
            have X9 := Keep.mk (X6.out.next hNa)
            have A9 := Keep.mk (A6.out.next hNa)
            have B9 := Keep.mk (B6.out.next hNa)
            have hno : ∀ {k T : Nat} {cs : Array Value}, Blk w6 k T cs → T ≠ 25 → ¬ P_.v.ownBlock = some k := fun hk ht e => absurd ((owns_typ (T6.out.own P_ (List.mem_of_getElem? HP_.out)) e).one hk.typ) (fun e' => ht e'.symm)
            have pp7 : w7.cell? ⟨E.pp, 0, none⟩ = some (.slice (some ⟨E.gp, 0, none⟩) nl nl) := by
              have h := (k2.blk T6.out.bp (hno T6.out.bp (by decide))).c 0 rfl
              rw [show Qs.length = nl from by have := T5.out.len; have := hnl.out; omega] at h
              exact h
            have rb7 : w7.rangeAt ra 0 h1.toList := blk_range (k2.blk A6.out.blk fun e => A6.out.off (.inr ⟨P_, List.mem_of_getElem? HP_.out, e⟩))
            have gb7 := k2.blk T6.out.bg (hno T6.out.bg (by decide))
            have f_ := gb7.frozen t
            have c_ : w7.cell? ⟨E.gp, t, none⟩ = some P_.v := gb7.c t (by simp [HP_.out])
            have v9f : ∃ va vn vc, v9 = .slice va vn vc := by obtain ⟨a_, c_, e_⟩ := owns_sl k1; exact ⟨_, _, _, e_⟩
            clear k1 k2 k3 hTa hNa hno gb7 T6 N6 X6 A6 B6 T5 N5 X5 A5 B5 Q6
            refine hK _ _ ⟨pp7, rb7⟩ fun hH2 => ?_
            clear hK
            simp only [Act.put, List.setIfInBounds_toArray, List.set_cons_zero, List.set_cons_succ]
            refine wpAnyH_take (i := 9) (oi := ⟨some 79, Op.indexAddr 55 (Operand.tmp 70) (Operand.tmp 71), 0, _, _, none⟩) (v := .pointer (some ⟨E.gp, t, none⟩)) rfl (by kernel_rfl) (by kernel_rfl) (by kernel_rfl) (fun _ _ _ h => h) (Or.inl ⟨by rfl, fun w hS => by obtain ⟨hS1, hS2⟩ := hS; go_simp⟩) hH2 ?_
            simp only [Act.put, List.setIfInBounds_toArray, List.set_cons_zero, List.set_cons_succ]
            refine wpAnyH_ready (rs := [10]) (by kernel_rfl) (by simp) ?_
            refine AllReadyH.cons (o := ⟨none, Op.store 67 (Operand.tmp 79) (Operand.tmp 78), 0, _, _, none⟩) rfl (fun K hK => ?_) AllReadyH.nil
            rw [if_pos (by rfl)]
            refine wp_cellS (w7.setCell ⟨E.gp, t, none⟩ v9) (by obtain ⟨va, vn, vc, rfl⟩ := v9f; go_simp) ?_
            refine hK _ _ (hS0.out _ _ (by rw [List.length_set]; have := T9.out.len; rw [List.length_set] at this; have := hnl.out; omega) T9.out A9.out) fun hH3 => ?_
            clear hK
            simp only [Act.put]
            refine wpAnyH_done (by kernel_rfl) ?_ _
            exact restR g v9 _ T9.out N9.out X9.out A9.out B9.out
        · have g4' : ¬ (nn : Int) < (j : Int) := by omega
          refine wp_seq_k fun K16 hK16 => ?_
          refine wp_region_list (WL.out ?_)
          refine WL.val (by kernel_rfl) (.bool true) (by go_simp) ?_
          simp only [Act.put, List.setIfInBounds_toArray, List.set_cons_zero, List.set_cons_succ]
          refine WL.nil ?_
          refine hK16 _ _ ?_
          refine wp_seq_k fun K17 hK17 => ?_
          refine wp_cond_true rfl ?_
          refine wp_skip ?_
          refine hK17 _ _ ?_
          refine wp_seq_k fun K18 hK18 => ?_
          refine wp_block ?_
          refine wp_seq_k fun K19 hK19 => ?_
          refine wp_region_list (WL.out ?_)
          refine WL.val (by kernel_rfl) (.int .i64 (t : Int)) (by go_simp) ?_
          simp only [Act.put, List.setIfInBounds_toArray, List.set_cons_zero, List.set_cons_succ]
          refine WL.val (by kernel_rfl) (.pointer (some ⟨gn, t, none⟩)) (by go_simp) ?_
          simp only [Act.put, List.setIfInBounds_toArray, List.set_cons_zero, List.set_cons_succ]
          refine WL.val (by kernel_rfl) (.int .i64 (nn : Int)) (by go_simp) ?_
          clear cnn
          simp only [Act.put, List.setIfInBounds_toArray, List.set_cons_zero, List.set_cons_succ]
          refine WL.val (by kernel_rfl) (.int .i64 (t : Int)) (by go_simp) ?_
          simp only [Act.put, List.setIfInBounds_toArray, List.set_cons_zero, List.set_cons_succ]
          refine WL.val (by kernel_rfl) (.int .i64 (nn : Int)) (by go_simp) ?_
          simp only [Act.put, List.setIfInBounds_toArray, List.set_cons_zero, List.set_cons_succ]
          refine WL.nil ?_
          refine hK19 _ _ ?_
          refine wp_seq_k fun K20 hK20 => ?_
          refine wp_seq_k fun K21 hK21 => ?_
          refine wp_region_list (WL.out ?_)
          refine WL.val (by kernel_rfl) (.int .i64 (i : Int)) (by go_simp) ?_
          simp only [Act.put, List.setIfInBounds_toArray, List.set_cons_zero, List.set_cons_succ]
          refine WL.val (by kernel_rfl) (.int .i64 (nn : Int)) (by go_simp) ?_
          simp only [Act.put, List.setIfInBounds_toArray, List.set_cons_zero, List.set_cons_succ]
          refine WL.val (by kernel_rfl) (.bool true) (by go_simp) ?_
          simp only [Act.put, List.setIfInBounds_toArray, List.set_cons_zero, List.set_cons_succ]
          refine WL.val (by kernel_rfl) (.bool true) (by go_simp) ?_
          simp only [Act.put, List.setIfInBounds_toArray, List.set_cons_zero, List.set_cons_succ]
          refine WL.val (by kernel_rfl) (.int .i64 (nn : Int)) (by go_simp) ?_
          simp only [Act.put, List.setIfInBounds_toArray, List.set_cons_zero, List.set_cons_succ]
          refine WL.val (by kernel_rfl) (.int .i64 (m : Int)) (by go_simp) ?_
          simp only [Act.put, List.setIfInBounds_toArray, List.set_cons_zero, List.set_cons_succ]
          refine WL.val (by kernel_rfl) (.bool false) (by go_simp) ?_
          simp only [Act.put, List.setIfInBounds_toArray, List.set_cons_zero, List.set_cons_succ]
          refine WL.val (by kernel_rfl) (.bool false) (by go_simp) ?_
          simp only [Act.put, List.setIfInBounds_toArray, List.set_cons_zero, List.set_cons_succ]
          refine WL.nil ?_
          refine hK21 _ _ ?_
          refine wp_cond_false rfl ?_
          refine wp_skip ?_
          refine hK20 _ _ ?_
          refine wp_seq_k fun K22 hK22 => ?_
          refine wp_region_list (WL.out ?_)
          refine WL.val (by kernel_rfl) (.int .i64 (m : Int)) (by go_simp) ?_
          simp only [Act.put, List.setIfInBounds_toArray, List.set_cons_zero, List.set_cons_succ]
          refine WL.val (by kernel_rfl) (.int .i64 (nn : Int)) (by go_simp) ?_
          simp only [Act.put, List.setIfInBounds_toArray, List.set_cons_zero, List.set_cons_succ]
          refine WL.val (by kernel_rfl) (.bool true) (by go_simp) ?_
          simp only [Act.put, List.setIfInBounds_toArray, List.set_cons_zero, List.set_cons_succ]
          refine WL.val (by kernel_rfl) (.bool true) (by go_simp) ?_
          simp only [Act.put, List.setIfInBounds_toArray, List.set_cons_zero, List.set_cons_succ]
          refine WL.val (by kernel_rfl) (.int .i64 (nn : Int)) (by go_simp) ?_
          simp only [Act.put, List.setIfInBounds_toArray, List.set_cons_zero, List.set_cons_succ]
          refine WL.val (by kernel_rfl) (.int .i64 (j : Int)) (by go_simp) ?_
          simp only [Act.put, List.setIfInBounds_toArray, List.set_cons_zero, List.set_cons_succ]
          refine WL.val (by kernel_rfl) (.bool false) (by go_simp) ?_
          simp only [Act.put, List.setIfInBounds_toArray, List.set_cons_zero, List.set_cons_succ]
          refine WL.val (by kernel_rfl) (.bool false) (by go_simp) ?_
          simp only [Act.put, List.setIfInBounds_toArray, List.set_cons_zero, List.set_cons_succ]
          refine WL.nil ?_
          refine hK22 _ _ ?_
          refine wp_cond_false rfl ?_
          refine wp_skip ?_
          refine hK18 _ _ ?_
          refine wp_region_list (WL.out ?_)
          refine WL.val (by kernel_rfl) (.int .i64 ((t + 1 : Nat) : Int)) (by go_simp) ?_
          simp only [Act.put, List.setIfInBounds_toArray, List.set_cons_zero, List.set_cons_succ]
          refine WL.val (by kernel_rfl) (.int .i64 ((t + 1 : Nat) : Int)) (by go_simp) ?_
          simp only [Act.put, List.setIfInBounds_toArray, List.set_cons_zero, List.set_cons_succ]
          refine WL.nil ?_
          refine ⟨⟨t + 1, fun zz => [.int .i64 (i : Int), .int .i64 (j : Int), .pointer (some ⟨E.pl, 0, none⟩), .pointer (some ⟨E.pd, 0, none⟩), .pointer (some ⟨E.pn, 0, none⟩), .pointer (some ⟨E.pp, 0, none⟩), undef, undef, .pointer (some ⟨r, 0, none⟩), .int .i64 (m : Int), .pointer (some ⟨ra, 0, none⟩), .pointer (some ⟨rb, 0, none⟩), .int .i64 (t : Int), .int .i64 (nn : Int), .int .i64 (j : Int), .int .i64 (i : Int), .int .i64 ((j - i : Nat) : Int), .bool false, undef, undef, undef, undef, undef, .int .i64 (i : Int), .int .i64 (j : Int), .int .i64 (i : Int), .int .i64 ((j - i : Nat) : Int), .int .i64 (q : Int), .int .i64 (m : Int), E.cl, .int .i64 (i : Int), .int .i64 (m : Int), .agg h1, E.cl, .int .i64 (m : Int), .int .i64 (j : Int), .agg h2, .slice (some ⟨gn, 0, none⟩) nl nc, .int .i64 (nl : Int), .int .i64 ((t + 1 : Nat) : Int), .bool true, .int .i64 (t : Int), .pointer (some ⟨gn, t, none⟩), .int .i64 (nn : Int), .int .i64 (i : Int), .int .i64 (nn : Int), .bool true, .bool true, .int .i64 (nn : Int), .int .i64 (m : Int), .bool false, .bool false, f 52, f 53, f 54, f 55, f 56, f 57, f 58, f 59, f 60, f 61, .int .i64 (m : Int), .int .i64 (nn : Int), .bool true, .bool true, .int .i64 (nn : Int), .int .i64 (j : Int), .bool false, .bool false, f 70, f 71, f 72, f 73, f 74, f 75, f 76, f 77, f 78, f 79, .int .i64 ((t + 1 : Nat) : Int), undef, undef, undef].getD zz undef, rfl, by omega, Qs, T4.out, fun jj n' P P' hn' hP hP' => ?_, X4.out, A4.out, B4.out, N4.out⟩, ?_⟩
          · have h := HQ.out jj n' P P' hn' hP hP'
            by_cases e : jj = t
            · subst e
              rw [Hn.out] at hn'
              injection hn' with hn'
              subst hn'
              rw [if_neg (Nat.lt_irrefl _)] at h
              rw [if_pos (Nat.lt_succ_self _), lastP_no (by omega) (by omega)]
              exact h
            · by_cases e2 : jj < t
              · rw [if_pos e2] at h; rw [if_pos (by omega)]; exact h
              · rw [if_neg e2] at h; rw [if_neg (by omega)]; exact h
          · simp only [intOf]; show nl - (((t + 1 : Nat) : Int)).toNat < nl - ((t : Int)).toNat; omega
    · have g1' : ¬ (i : Int) ≤ (nn : Int) := by omega
      have g3' : ¬ (m : Int) ≤ (nn : Int) := by omega
      refine wp_seq_k fun K23 hK23 => ?_
      refine wp_region_list (WL.out ?_)
      refine WL.val (by kernel_rfl) (.bool true) (by go_simp) ?_
      simp only [Act.put, List.setIfInBounds_toArray, List.set_cons_zero, List.set_cons_succ]
      refine WL.nil ?_
      refine hK23 _ _ ?_
      refine wp_seq_k fun K24 hK24 => ?_
      refine wp_cond_true rfl ?_
      refine wp_skip ?_
      refine hK24 _ _ ?_
      refine wp_seq_k fun K25 hK25 => ?_
      refine wp_block ?_
      refine wp_seq_k fun K26 hK26 => ?_
      refine wp_region_list (WL.out ?_)
      refine WL.val (by kernel_rfl) (.int .i64 (t : Int)) (by go_simp) ?_
      simp only [Act.put, List.setIfInBounds_toArray, List.set_cons_zero, List.set_cons_succ]
      refine WL.val (by kernel_rfl) (.pointer (some ⟨gn, t, none⟩)) (by go_simp) ?_
      simp only [Act.put, List.setIfInBounds_toArray, List.set_cons_zero, List.set_cons_succ]
      refine WL.val (by kernel_rfl) (.int .i64 (nn : Int)) (by go_simp) ?_
      clear cnn
      simp only [Act.put, List.setIfInBounds_toArray, List.set_cons_zero, List.set_cons_succ]
      refine WL.val (by kernel_rfl) (.int .i64 (t : Int)) (by go_simp) ?_
      simp only [Act.put, List.setIfInBounds_toArray, List.set_cons_zero, List.set_cons_succ]
      refine WL.val (by kernel_rfl) (.int .i64 (nn : Int)) (by go_simp) ?_
      simp only [Act.put, List.setIfInBounds_toArray, List.set_cons_zero, List.set_cons_succ]
      refine WL.nil ?_
      refine hK26 _ _ ?_
      refine wp_seq_k fun K27 hK27 => ?_
      refine wp_seq_k fun K28 hK28 => ?_
      refine wp_region_list (WL.out ?_)
      refine WL.val (by kernel_rfl) (.int .i64 (i : Int)) (by go_simp) ?_
      simp only [Act.put, List.setIfInBounds_toArray, List.set_cons_zero, List.set_cons_succ]
      refine WL.val (by kernel_rfl) (.int .i64 (nn : Int)) (by go_simp) ?_
      simp only [Act.put, List.setIfInBounds_toArray, List.set_cons_zero, List.set_cons_succ]
      refine WL.val (by kernel_rfl) (.bool false) (by go_simp) ?_
      simp only [Act.put, List.setIfInBounds_toArray, List.set_cons_zero, List.set_cons_succ]
      refine WL.val (by kernel_rfl) (.bool false) (by go_simp) ?_
      simp only [Act.put, List.setIfInBounds_toArray, List.set_cons_zero, List.set_cons_succ]
      refine WL.skip (by kernel_rfl) ?_
      simp only [Act.put, List.setIfInBounds_toArray, List.set_cons_zero, List.set_cons_succ]
      refine WL.skip (by kernel_rfl) ?_
      simp only [Act.put, List.setIfInBounds_toArray, List.set_cons_zero, List.set_cons_succ]
      refine WL.skip (by kernel_rfl) ?_
      simp only [Act.put, List.setIfInBounds_toArray, List.set_cons_zero, List.set_cons_succ]
      refine WL.val (by kernel_rfl) (.bool false) (by go_simp) ?_
      simp only [Act.put, List.setIfInBounds_toArray, List.set_cons_zero, List.set_cons_succ]
      refine WL.nil ?_
      refine hK28 _ _ ?_
      refine wp_cond_false rfl ?_
      refine wp_skip ?_
      refine hK27 _ _ ?_
      refine wp_seq_k fun K29 hK29 => ?_
      refine wp_region_list (WL.out ?_)
      refine WL.val (by kernel_rfl) (.int .i64 (m : Int)) (by go_simp) ?_
      simp only [Act.put, List.setIfInBounds_toArray, List.set_cons_zero, List.set_cons_succ]
      refine WL.val (by kernel_rfl) (.int .i64 (nn : Int)) (by go_simp) ?_
      simp only [Act.put, List.setIfInBounds_toArray, List.set_cons_zero, List.set_cons_succ]
      refine WL.val (by kernel_rfl) (.bool false) (by go_simp) ?_
      simp only [Act.put, List.setIfInBounds_toArray, List.set_cons_zero, List.set_cons_succ]
      refine WL.val (by kernel_rfl) (.bool false) (by go_simp) ?_
      simp only [Act.put, List.setIfInBounds_toArray, List.set_cons_zero, List.set_cons_succ]
      refine WL.skip (by kernel_rfl) ?_
      simp only [Act.put, List.setIfInBounds_toArray, List.set_cons_zero, List.set_cons_succ]
      refine WL.skip (by kernel_rfl) ?_
      simp only [Act.put, List.setIfInBounds_toArray, List.set_cons_zero, List.set_cons_succ]
      refine WL.skip (by kernel_rfl) ?_
      simp only [Act.put, List.setIfInBounds_toArray, List.set_cons_zero, List.set_cons_succ]
      refine WL.val (by kernel_rfl) (.bool false) (by go_simp) ?_
      simp only [Act.put, List.setIfInBounds_toArray, List.set_cons_zero, List.set_cons_succ]
      refine WL.nil ?_
      refine hK29 _ _ ?_
      refine wp_cond_false rfl ?_
      refine wp_skip ?_
      refine hK25 _ _ ?_
      refine wp_region_list (WL.out ?_)
      refine WL.val (by kernel_rfl) (.int .i64 ((t + 1 : Nat) : Int)) (by go_simp) ?_
      simp only [Act.put, List.setIfInBounds_toArray, List.set_cons_zero, List.set_cons_succ]
      refine WL.val (by kernel_rfl) (.int .i64 ((t + 1 : Nat) : Int)) (by go_simp) ?_
      simp only [Act.put, List.setIfInBounds_toArray, List.set_cons_zero, List.set_cons_succ]
      refine WL.nil ?_
      refine ⟨⟨t + 1, fun zz => [.int .i64 (i : Int), .int .i64 (j : Int), .pointer (some ⟨E.pl, 0, none⟩), .pointer (some ⟨E.pd, 0, none⟩), .pointer (some ⟨E.pn, 0, none⟩), .pointer (some ⟨E.pp, 0, none⟩), undef, undef, .pointer (some ⟨r, 0, none⟩), .int .i64 (m : Int), .pointer (some ⟨ra, 0, none⟩), .pointer (some ⟨rb, 0, none⟩), .int .i64 (t : Int), .int .i64 (nn : Int), .int .i64 (j : Int), .int .i64 (i : Int), .int .i64 ((j - i : Nat) : Int), .bool false, undef, undef, undef, undef, undef, .int .i64 (i : Int), .int .i64 (j : Int), .int .i64 (i : Int), .int .i64 ((j - i : Nat) : Int), .int .i64 (q : Int), .int .i64 (m : Int), E.cl, .int .i64 (i : Int), .int .i64 (m : Int), .agg h1, E.cl, .int .i64 (m : Int), .int .i64 (j : Int), .agg h2, .slice (some ⟨gn, 0, none⟩) nl nc, .int .i64 (nl : Int), .int .i64 ((t + 1 : Nat) : Int), .bool true, .int .i64 (t : Int), .pointer (some ⟨gn, t, none⟩), .int .i64 (nn : Int), .int .i64 (i : Int), .int .i64 (nn : Int), .bool false, .bool false, undef, undef, undef, .bool false, f 52, f 53, f 54, f 55, f 56, f 57, f 58, f 59, f 60, f 61, .int .i64 (m : Int), .int .i64 (nn : Int), .bool false, .bool false, undef, undef, undef, .bool false, f 70, f 71, f 72, f 73, f 74, f 75, f 76, f 77, f 78, f 79, .int .i64 ((t + 1 : Nat) : Int), undef, undef, undef].getD zz undef, rfl, by omega, Qs, T4.out, fun jj n' P P' hn' hP hP' => ?_, X4.out, A4.out, B4.out, N4.out⟩, ?_⟩
      · have h := HQ.out jj n' P P' hn' hP hP'
        by_cases e : jj = t
        · subst e
          rw [Hn.out] at hn'
          injection hn' with hn'
          subst hn'
          rw [if_neg (Nat.lt_irrefl _)] at h
          rw [if_pos (Nat.lt_succ_self _), lastP_no (by omega) (by omega)]
          exact h
        · by_cases e2 : jj < t
          · rw [if_pos e2] at h; rw [if_pos (by omega)]; exact h
          · rw [if_neg e2] at h; rw [if_neg (by omega)]; exact h
      · simp only [intOf]; show nl - (((t + 1 : Nat) : Int)).toNat < nl - ((t : Int)).toNat; omega
  · have e8 : t = nl := by omega
    have htl' : ¬ (t : Int) < (nl : Int) := by omega
    have U4 : Keep (UP (k + 1) L i j ns Ps Qs) := ⟨by
      obtain ⟨P1, p1, p2, p3⟩ := U3.out
      exact UP.two (by rw [hq.out]; exact hm.out) (by omega) (by rw [hn.out]; omega) (by omega) HT.out.len p1 hl2.out p2 p3 X1e.out X2e.out fun jj n' P P' hn' hP hP' => by
        have h := HQ.out jj n' P P' hn' hP hP'
        rw [if_pos (by have := (List.getElem?_eq_some_iff.1 hn').1; rw [hnl.out] at this; omega)] at h
        exact h⟩
    have hin := pinner_any x1.f x2.f wr
    rw [← h1e.out, ← h2e.out] at hin
    have HIN := Keep.mk hin
    clear hin
    refine wp_seq_k fun K30 hK30 => ?_
    refine wp_region_list (WL.out ?_)
    refine WL.val (by kernel_rfl) (.bool false) (by go_simp) ?_
    simp only [Act.put, List.setIfInBounds_toArray, List.set_cons_zero, List.set_cons_succ]
    refine WL.nil ?_
    refine hK30 _ _ ?_
    refine wp_seq_k fun K31 hK31 => ?_
    refine wp_cond_false rfl ?_
    refine wp_exit ?_
    refine hK1 _ _ ?_
    refine wp_seq_k fun K32 hK32 => ?_
    refine wp_region_list (WL.out ?_)
    refine WL.row (by kernel_rfl) 25 (.tmp 10) rfl ra rfl 25 h1 _ A4.out.blk Try.underlying25 rfl (by rw [h1e.out]; exact Try.size25B _) ?_
    simp only [Act.put, List.setIfInBounds_toArray, List.set_cons_zero, List.set_cons_succ]
    refine WL.row (by kernel_rfl) 25 (.tmp 11) rfl rb rfl 25 h2 _ B4.out.blk Try.underlying25 rfl (by rw [h2e.out]; exact Try.size25B _) ?_
    simp only [Act.put, List.setIfInBounds_toArray, List.set_cons_zero, List.set_cons_succ]
    refine WL.callF (by kernel_rfl) 51 _ _ rfl Try.in51 #[.agg h1, .agg h2] (by simp [Act.eval]) ?_
    refine (HIN.out).mono ?_
    rintro e w8 ⟨rfl, k1⟩
    refine ⟨_, rfl, ?_⟩
    have T8 := Keep.mk (T4.out.below k1)
    have N8 : Keep (TN w w8 E Ps Qs) := ⟨N4.out.trans (TN.below k1)⟩
    have X8 := Keep.mk (X4.out.below k1)
    clear k1 T4 N4 X4 A4 B4
    simp only [Act.put, List.setIfInBounds_toArray, List.set_cons_zero, List.set_cons_succ]
    refine WL.storeR (by kernel_rfl) 25 (.tmp 8) (.tmp 83) rfl r (bytesA 32 (shaP (RtP.innR (hl 32 x1.f) (hl 32 x2.f)))) rfl rfl 25 (bytesA 32 fun _ => 0) X8.out.blk (Try.size25B _) (bytesA_sizes _ _ _) (bytesA_one _ _) ?_
    have T9 := Keep.mk (T8.out.box X8.out (bytesA 32 (shaP (RtP.innR (hl 32 x1.f) (hl 32 x2.f)))))
    have X9 := Keep.mk (X8.out.set (bytesA 32 (shaP (RtP.innR (hl 32 x1.f) (hl 32 x2.f)))))
    have N9 := Keep.mk (N8.out.box hrw.out (bytesA 32 (shaP (RtP.innR (hl 32 x1.f) (hl 32 x2.f)))))
    generalize w8.setRow r (bytesA 32 (shaP (RtP.innR (hl 32 x1.f) (hl 32 x2.f)))) = w9 at *
    simp only [Act.put]
    refine WL.nil ?_
    refine hK32 _ _ ?_
    refine wp_ret ?_
    try simp only [Exit.inBlock, Exit.then]
    refine bodyPost_ret (v := .agg (bytesA 32 (shaP (RtP.innR (hl 32 x1.f) (hl 32 x2.f))))) (results_cell_row Try.results48 _ _ r 25 _ (0, 0) _ rfl X9.out.blk Try.underlying25 rfl (Try.size25B _)) rfl ⟨?_, Qs, T9.out, U4.out, N9.out⟩
    have hl_ : (sub L i j).length = j - i := sub_len (by omega) (by rw [hn.out]; omega)
    have hm_ : i + q = m := hm.out.symm
    rw [treeL_two (by omega), hl_, hq.out, sub_take (by omega), sub_drop (by omega), hm_, ← X1e.out, ← X2e.out, shaL, hof_hl]
    rfl

end Go.Proofs.Ytjklmkeedhgncaa
