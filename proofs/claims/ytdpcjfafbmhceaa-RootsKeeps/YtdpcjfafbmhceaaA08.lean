import Derived.Test.YtdpcjfafbmhceaaA07
import Derived.Deep.RegionHeld3
import Derived.Laws.EntriesVeiled
set_option maxRecDepth 8000
set_option maxHeartbeats 2000000
namespace Go.Proofs.Ytdpcjfafbmhceaa
open Go.RowKit
set_option linter.unusedSimpArgs false
set_option linter.unusedVariables false
theorem TN.box {w w' : World} {E : TE} {Ps Ps' : List PX} {r : Nat} (h : TN w w' E Ps Ps') (hr : w.heap.size ≤ r) (c : Array Value) : TN w (w'.setRow r c) E Ps Ps' :=
 ⟨h.gr.next (Grown.setRow w' r c (S := fun k => k = r) fun _ => rfl) fun k hk e => by omega, h.nw⟩
def UP2 (i m j : Nat) (L : List CV) (ns : List Nat) (k : Nat) (Ps P2 : List PX) : Prop := ∃ P1 : List PX, P1.length = ns.length ∧ UP k L i m ns Ps P1 ∧ UP k L m j ns P1 P2
theorem bsX (h : Array Value) (x : Hs) (w : World) (e : h = qb 32 x.f) : (Instr.buildSlice 52 1 #[(0, .agg h)]).run Try.prog w = .ok (.slice (some ⟨w.heap.size, 0, none⟩) 1 1) (w.alloc (.cells h 32)) := by
 have h1 := GO x w
 rw [zT, ← e] at h1
 exact h1
theorem ZT {a m b n : Nat} {x y : Hs} (h : a ≤ n ∧ n < m) : yD a m b n x y = [y] := by unfold yD; rw [if_pos h]
theorem ZU {a m b n : Nat} {x y : Hs} (h : m ≤ n ∧ n < b) : yD a m b n x y = [x] := by unfold yD; rw [if_neg (by omega), if_pos h]
theorem KU {a m b n : Nat} {x y : Hs} (h : ¬ (a ≤ n ∧ n < m)) (h2 : ¬ (m ≤ n ∧ n < b)) : yD a m b n x y = [] := by unfold yD; rw [if_neg h, if_neg h2]
def Gf (f : Func) : Code := match f.body with
 | some c => c
 | none => .skip
def Zr : Code → Code
 | .seq _ y => y
 | c => c
theorem zt (B k : Nat) (E : TE) (b off n cap : Nat) (L : List CV) (ns : List Nat) (na : Option Addr) (nl nc : Nat) (hnv : Keep (E.nv = .slice na nl nc)) (hnl : Keep (ns.length = nl)) (hnlb : Keep (nl ≤ 1099511627776)) (hn : Keep (L.length = n)) (hnb : n ≤ 1099511627776) (i j q m : Nat) (Ps : List PX) (w : World) (hij : i + 2 ≤ j) (hjk : j - i ≤ k + 1) (hjn : j ≤ n) (hq : Keep (RtP.half (j - i) = q)) (hh : 1 ≤ q ∧ q < j - i) (hm : Keep (m = i + q)) (hmi : i < m) (hmj : m < j) (x1 x2 : Hs) (X1e : Keep (hsL x1 = qx k (sub L i m))) (X2e : Keep (hsL x2 = qx k (sub L m j))) (h1 h2 : Array Value) (h1e : Keep (h1 = qb 32 x1.f)) (h2e : Keep (h2 = qb 32 x2.f)) (HT : Keep (TS B w E ns Ps)) (HB : Keep (B ≤ w.heap.size)) (r : Nat) (hrw : Keep (w.heap.size ≤ r))
  (ra rb : Nat) (P2 : List PX) (wz : World) (hT2 : TS B wz E ns P2) (hU2 : UP2 i m j L ns k Ps P2) (hR2 : Rm P2 1) (hXr : Bx wz E P2 r (qb 32 fun _ => 0)) (hXa : Bx wz E P2 ra h1) (hXb : Bx wz E P2 rb h2) (hne : r ≠ ra ∧ r ≠ rb ∧ ra ≠ rb) (hN2 : TN w wz E Ps P2) :
  Code.wp Try.prog (Zr (Zr (Zr (Zr (Gf Try.f48))))) (bodyPost Try.prog Try.f48 (DP B (k + 1) E L ns Ps i j w)) { tmps := #[.int .i64 (i : Int), .int .i64 (j : Int), .pointer (some ⟨E.pl, 0, none⟩), .pointer (some ⟨E.pd, 0, none⟩), .pointer (some ⟨E.pn, 0, none⟩), .pointer (some ⟨E.pp, 0, none⟩), undef, undef, .pointer (some ⟨r, 0, none⟩), .int .i64 (m : Int), .pointer (some ⟨ra, 0, none⟩), .pointer (some ⟨rb, 0, none⟩), undef, undef, .int .i64 (j : Int), .int .i64 (i : Int), .int .i64 ((j - i : Nat) : Int), .bool false, undef, undef, undef, undef, undef, .int .i64 (i : Int), .int .i64 (j : Int), .int .i64 (i : Int), .int .i64 ((j - i : Nat) : Int), .int .i64 (q : Int), .int .i64 (m : Int), E.cl, .int .i64 (i : Int), .int .i64 (m : Int), .agg h1, E.cl, .int .i64 (m : Int), .int .i64 (j : Int), .agg h2, undef, undef, undef, undef, undef, undef, undef, undef, undef, undef, undef, undef, undef, undef, undef, undef, undef, undef, undef, undef, undef, undef, undef, undef, undef, undef, undef, undef, undef, undef, undef, undef, undef, undef, undef, undef, undef, undef, undef, undef, undef, undef, undef, undef, undef, undef, undef], defers := [] } wz := by
 have T3 := kk hT2
 have U3 := kk hU2
 have R3 := kk hR2
 have X3 := kk hXr
 have A3 := kk hXa
 have B3 := kk hXb
 have NE := kk hne
 have N3 := kk hN2
 have hl2 : Keep (P2.length = ns.length) := ⟨hT2.len⟩
 clear hT2 hU2 hR2 hXr hXa hXb hne hN2
 generalize hg : bodyPost Try.prog Try.f48 _ = QQ
 unfold Try.f48
 simp only [Gf, Zr]
 subst hg
 refine wp_seq_k fun K1 hK1 => wp_seq_k fun K2 hK2 => rgn ?_
 refine CeS (.slice na nl nc) (show wz.cell? ⟨E.pn, 0, none⟩ = some (.slice na nl nc) from by rw [← hnv.o]; exact T3.o.bn.c 0 rfl) ?_
 refine Vv (.int .i64 (nl : Int)) (h:=Vv (.int .i64 0) (h:=WL.nil (hK2 _ _ (wp_block (?_)))))
 refine wp_loop (fun ac wr => ∃ (t : Nat), ac = apF (fun f => { tmps := #[.int .i64 (i : Int), .int .i64 (j : Int), .pointer (some ⟨E.pl, 0, none⟩), .pointer (some ⟨E.pd, 0, none⟩), .pointer (some ⟨E.pn, 0, none⟩), .pointer (some ⟨E.pp, 0, none⟩), undef, undef, .pointer (some ⟨r, 0, none⟩), .int .i64 (m : Int), .pointer (some ⟨ra, 0, none⟩), .pointer (some ⟨rb, 0, none⟩), f 12, f 13, .int .i64 (j : Int), .int .i64 (i : Int), .int .i64 ((j - i : Nat) : Int), .bool false, undef, undef, undef, undef, undef, .int .i64 (i : Int), .int .i64 (j : Int), .int .i64 (i : Int), .int .i64 ((j - i : Nat) : Int), .int .i64 (q : Int), .int .i64 (m : Int), E.cl, .int .i64 (i : Int), .int .i64 (m : Int), .agg h1, E.cl, .int .i64 (m : Int), .int .i64 (j : Int), .agg h2, .slice na nl nc, .int .i64 (nl : Int), .int .i64 (t : Int), f 40, f 41, f 42, f 43, f 44, f 45, f 46, f 47, f 48, f 49, f 50, f 51, f 52, f 53, f 54, f 55, f 56, f 57, f 58, f 59, f 60, f 61, f 62, f 63, f 64, f 65, f 66, f 67, f 68, f 69, f 70, f 71, f 72, f 73, f 74, f 75, f 76, f 77, f 78, f 79, f 80, undef, undef, undef], defers := [] }) ac ∧ t ≤ nl ∧ ∃ Qs, TS B wr E ns Qs ∧ (∀ (jj nn : Nat) (P P' : PX), ns[jj]? = some nn → P2[jj]? = some P → Qs[jj]? = some P' → P'.ps = P.ps ++ (if jj < t then yD i m j nn x1 x2 else [])) ∧ Bx wr E Qs r (qb 32 fun _ => 0) ∧ Bx wr E Qs ra h1 ∧ Bx wr E Qs rb h2 ∧ TN w wr E Ps Qs) (fun a _ => nl - (intOf (a.tmps.getD 39 undef)).toNat) ⟨0, rfl, by omega, P2, T3.o, (fun jj nn P P' _ hP hP' => by rw [hP] at hP'; injection hP' with hP'; subst hP'; simp), X3.o, A3.o, B3.o, N3.o⟩ ?_
 rintro ac wr ⟨t, hac, ht, Qs, hT, hQ, hX, hA, hBx, hN⟩
 obtain ⟨f, rfl⟩ := unF hac
 have T4 := kk hT
 have HQ := kk hQ
 have X4 := kk hX
 have A4 := kk hA
 have B4 := kk hBx
 have N4 := kk hN
 clear hT hQ hX hA hBx hN T3 X3 A3 B3 N3
 by_cases htl : t < nl
 ·have htl' : (t : Int) < (nl : Int) := by omega
  have hw3 : IntKind.i64.wrap ((t : Int) + 1) = ((t + 1 : Nat) : Int) := by rw [IntKind.wrap_i64]; have := hnlb.o; omega
  obtain ⟨nn, Hn⟩ : ∃ z, Keep (ns[t]? = some z) := ⟨ns[t]'(by rw [hnl.o]; exact htl), ⟨List.getElem?_eq_getElem _⟩⟩
  obtain ⟨P_, HP_⟩ : ∃ z, Keep (Qs[t]? = some z) := ⟨Qs[t]'(by rw [T4.o.len, hnl.o]; exact htl), ⟨List.getElem?_eq_getElem _⟩⟩
  obtain ⟨Q_, HQ_⟩ : ∃ z, Keep (P2[t]? = some z) := ⟨P2[t]'(by rw [hl2.o, hnl.o]; exact htl), ⟨List.getElem?_eq_getElem _⟩⟩
  have HPe : Keep (P_.ps = Q_.ps) := ⟨by have h := HQ.o t nn Q_ P_ Hn.o HQ_.o HP_.o; rw [if_neg (Nat.lt_irrefl t), List.append_nil] at h; exact h⟩
  have HPb : Keep (P_.ps.length + 1 ≤ 4398046511104) := ⟨by rw [HPe.o]; exact R3.o Q_ (List.mem_of_getElem? HQ_.o)⟩
  obtain ⟨gn, hgn, cnn⟩ : ∃ gn, na = some ⟨gn, 0, none⟩ ∧ wr.cell? ⟨gn, t, none⟩ = some (.int .i64 (nn : Int)) := by
   have h1 := T4.o.num
   have h2 := Hn.o
   rcases h1 with ⟨a_, c_, _, e_⟩ | ⟨g_, c_, e_, _, hc_⟩
   ·rw [e_] at h2; simp at h2
   ·rw [hnv.o] at e_
    injection e_ with e_ _ _
    exact ⟨g_, e_, hc_ t nn h2⟩
  subst hgn
  by_cases g1 : i ≤ nn
  ·have g1' : (i : Int) ≤ (nn : Int) := by omega
   by_cases g2 : nn < m
   ·have g2' : (nn : Int) < (m : Int) := by omega
    have g3' : ¬ (m : Int) ≤ (nn : Int) := by omega
    refine wp_seq_k fun K3 hK3 => rgn (Vt (h:=WL.nil (hK3 _ _ (wp_seq_k fun K4 hK4 => Ct (h:=wp_skip (hK4 _ _ (wp_seq_k fun K5 hK5 => wp_block (wp_seq_k fun K6 hK6 => rgn (Vv (.int .i64 (t : Int)) (h:=Vv (.pointer (some ⟨gn, t, none⟩)) (h:=?_)))))))))))
    refine WL.val (by kernel_rfl) (.int .i64 (nn : Int)) (by go_simp) ?_
    clear cnn
    simp only [Act.put, pqA, pqB, pqC]
    refine Vv (.int .i64 (t : Int)) (h:=Vv (.int .i64 (nn : Int)) (h:=WL.nil (hK6 _ _ (wp_seq_k fun K7 hK7 => wp_seq_k fun K8 hK8 => rgn (Vv (.int .i64 (i : Int)) (h:=Vv (.int .i64 (nn : Int)) (h:=Vt (h:=Vt (h:=Vv (.int .i64 (nn : Int)) (h:=Vv (.int .i64 (m : Int)) (h:=Vt (h:=Vt (h:=WL.nil (hK8 _ _ (Ct (h:=?_))))))))))))))))
    have bq : Keep (Below wr.heap.size wr wr.drew) := ⟨(Below.refl _ _).drew⟩
    have T5 := kk (T4.o.below bq.o)
    have N5 : Keep (TN w wr.drew E Ps Qs) := ⟨N4.o.trans (TN.below bq.o)⟩
    have X5 := kk (X4.o.below bq.o)
    have A5 := kk (A4.o.below bq.o)
    have B5 := kk (B4.o.below bq.o)
    clear bq T4 N4 X4 A4 B4
    have hS0 : Keep (∀ (wx : World) (Rs : List PX), Rs.length = nl → TS B wx E ns Rs → Bx wx E Rs rb h2 → (fun wx => wx.cell? ⟨E.pp, 0, none⟩ = some (.slice (some ⟨E.gp, 0, none⟩) nl nl) ∧ wx.rangeAt rb 0 h2.toList) wx) := ⟨fun wx Rs hl ht hb => ⟨by have h := ht.bp.c 0 rfl; rw [hl] at h; exact h, ql hb.blk⟩⟩
    have restR : ∀ (g : Nat) (v9 : Value) (w9 : World), TS B w9 E ns (Qs.set t ⟨v9, P_.ps ++ [x2]⟩) → TN w w9 E Ps (Qs.set t ⟨v9, P_.ps ++ [x2]⟩) → Bx w9 E (Qs.set t ⟨v9, P_.ps ++ [x2]⟩) r (qb 32 fun _ => 0) → Bx w9 E (Qs.set t ⟨v9, P_.ps ++ [x2]⟩) ra h1 → Bx w9 E (Qs.set t ⟨v9, P_.ps ++ [x2]⟩) rb h2 → K7 { tmps := #[.int .i64 (i : Int), .int .i64 (j : Int), .pointer (some ⟨E.pl, 0, none⟩), .pointer (some ⟨E.pd, 0, none⟩), .pointer (some ⟨E.pn, 0, none⟩), .pointer (some ⟨E.pp, 0, none⟩), undef, undef, .pointer (some ⟨r, 0, none⟩), .int .i64 (m : Int), .pointer (some ⟨ra, 0, none⟩), .pointer (some ⟨rb, 0, none⟩), .int .i64 (t : Int), .int .i64 (nn : Int), .int .i64 (j : Int), .int .i64 (i : Int), .int .i64 ((j - i : Nat) : Int), .bool false, undef, undef, undef, undef, undef, .int .i64 (i : Int), .int .i64 (j : Int), .int .i64 (i : Int), .int .i64 ((j - i : Nat) : Int), .int .i64 (q : Int), .int .i64 (m : Int), E.cl, .int .i64 (i : Int), .int .i64 (m : Int), .agg h1, E.cl, .int .i64 (m : Int), .int .i64 (j : Int), .agg h2, .slice (some ⟨gn, 0, none⟩) nl nc, .int .i64 (nl : Int), .int .i64 (t : Int), .bool true, .int .i64 (t : Int), .pointer (some ⟨gn, t, none⟩), .int .i64 (nn : Int), .int .i64 (i : Int), .int .i64 (nn : Int), .bool true, .bool true, .int .i64 (nn : Int), .int .i64 (m : Int), .bool true, .bool true, .slice (some ⟨E.gp, 0, none⟩) nl nl, .int .i64 (t : Int), .slice (some ⟨E.gp, 0, none⟩) nl nl, .int .i64 (t : Int), .pointer (some ⟨E.gp, t, none⟩), P_.v, .agg h2, .slice (some ⟨g, 0, none⟩) 1 1, v9, .pointer (some ⟨E.gp, t, none⟩), f 62, f 63, f 64, f 65, f 66, f 67, f 68, f 69, f 70, f 71, f 72, f 73, f 74, f 75, f 76, f 77, f 78, f 79, f 80, undef, undef, undef], defers := [] } w9 := by
     intro g v9 w9 hT9 hN9 hX9 hA9 hB9
     have T9 := kk hT9
     have N9 := kk hN9
     have X9 := kk hX9
     have A9 := kk hA9
     have B9 := kk hB9
     clear hT9 hN9 hX9 hA9 hB9 T5 N5 X5 A5 B5
     refine hK7 _ _ (wp_seq_k fun K9 hK9 => rgn (Vv (.int .i64 (m : Int)) (h:=Vv (.int .i64 (nn : Int)) (h:=Vf (h:=Vf (h:=Vs (h:=Vs (h:=Vs (h:=Vf (h:=WL.nil (hK9 _ _ (Cf (h:=wp_skip (hK5 _ _ (?_)))))))))))))))
     refine rgn (Vv (.int .i64 ((t + 1 : Nat) : Int)) (h:=Vv (.int .i64 ((t + 1 : Nat) : Int)) (h:=?_)))
     refine WL.nil ?_
     refine ⟨⟨t + 1, rfl, by omega, Qs.set t ⟨v9, P_.ps ++ [x2]⟩, T9.o, fun jj n' P P' hn' hP hP' => ?_, X9.o, A9.o, B9.o, N9.o⟩, ?_⟩
     ·rw [List.getElem?_set] at hP'
      by_cases e : t = jj
      ·subst e
       rw [if_pos rfl, if_pos (List.getElem?_eq_some_iff.1 HP_.o).1] at hP'
       injection hP' with hP'
       subst hP'
       rw [Hn.o] at hn'
       injection hn' with hn'
       subst hn'
       rw [HQ_.o] at hP
       injection hP with hP
       subst hP
       rw [if_pos (Nat.lt_succ_self _), ZT (by omega), HPe.o]
      ·rw [if_neg e] at hP'
       have h := HQ.o jj n' P P' hn' hP hP'
       by_cases e2 : jj < t
       ·rw [if_pos e2] at h; rw [if_pos (by omega)]; exact h
       ·rw [if_neg e2] at h; rw [if_neg (by omega)]; exact h
     ·simp only [intOf]; show nl - (((t + 1 : Nat) : Int)).toNat < nl - ((t : Int)).toNat; omega
    refine wp_region_held_drew (S := fun wx => wx.cell? ⟨E.pp, 0, none⟩ = some (.slice (some ⟨E.gp, 0, none⟩) nl nl) ∧ wx.rangeAt rb 0 h2.toList) (by kernel_rfl) (hS0.o _ Qs (by have := T5.o.len; have := hnl.o; omega) T5.o B5.o) (fun hH0 => ?_)
    generalize wr.drew = w5 at *
    refine uJ 0 ⟨some 52, .load 61 (.tmp 5), 61, _, _, none⟩ (.slice (some ⟨E.gp, 0, none⟩) nl nl) rfl hH0 ?_
    refine uJ 1 ⟨some 53, .move (.tmp 12), 3, _, _, none⟩ (.int .i64 (t : Int)) rfl hH0 ?_
    refine uJ 2 ⟨some 54, .load 61 (.tmp 5), 61, _, _, none⟩ (.slice (some ⟨E.gp, 0, none⟩) nl nl) rfl hH0 ?_
    refine uJ 3 ⟨some 55, .move (.tmp 12), 3, _, _, none⟩ (.int .i64 (t : Int)) rfl hH0 ?_
    refine uS 6 ⟨some 58, .load 32 (.tmp 11), 32, _, _, none⟩ (.agg h2) rfl (qv (by rfl) (.tmp 11) 32 rfl rb 0 rfl h2 _ Try.underlying32 rfl (by rw [h2e.o]; exact qd _) fun w hS => hS.2) hH0 ?_
    refine uJ 4 ⟨some 56, .indexAddr 61 (.tmp 54) (.tmp 55), 0, _, _, none⟩ (.pointer (some ⟨E.gp, t, none⟩)) rfl hH0 ?_
    refine wpAnyH_ready (rs := [5, 7]) (by kernel_rfl) (by simp) ?_
    refine AllReadyH.cons (o := ⟨some 57, .load 52 (.tmp 56), 52, _, _, none⟩) rfl (fun K hK => ?_) (AllReadyH.cons (o := ⟨some 59, .buildSlice 52 1 #[(0, .tmp 58)], 52, _, _, none⟩) rfl (fun K hK => ?_) AllReadyH.nil)
    ·rw [if_pos (by rfl)]
     have c_ : w5.cell? ⟨E.gp, t, none⟩ = some P_.v := T5.o.bg.c t (by simp [HP_.o])
     refine zq P_.v (by go_simp) ?_
     clear c_
     refine hK _ _ (hS0.o _ Qs (by have := T5.o.len; have := hnl.o; omega) T5.o B5.o) fun hH1 => kNx ?_
     clear hK
     refine rd1 7 ⟨some 59, .buildSlice 52 1 #[(0, .tmp 58)], 52, _, _, none⟩ rfl fun K hK => ?_
     refine zI 52 1 _ rfl #[(0, .agg h2)] (by simp [Act.eval]) _ _ (bsX h2 x2 w5 h2e.o) ?_
     have b6 := qg w5 (.cells h2 32)
     have Q6 := kk (Blk.new w5 32 h2)
     generalize w5.alloc (.cells h2 32) = w6 at *
     obtain ⟨g, hg⟩ := nm w5
     rw [← hg.o] at Q6 ⊢
     have T6 := kk (T5.o.below b6)
     have N6 : Keep (TN w w6 E Ps Qs) := ⟨N5.o.trans (TN.below b6)⟩
     have X6 := kk (X5.o.below b6)
     have A6 := kk (A5.o.below b6)
     have B6 := kk (B5.o.below b6)
     clear b6 hg
     refine hK _ _ (hS0.o _ Qs (by have := T5.o.len; have := hnl.o; omega) T6.o B6.o) fun hH1 => kNx ?_
     clear hK
     refine rd1 8 ⟨some 60, .call { callee := .builtin .append, args := #[.tmp 57, .tmp 59], argTypes := #[52, 52] }, 52, _, _, none⟩ rfl fun K hK => ?_
     refine vA (.tmp 57) (.tmp 59) rfl B P_.v P_.ps x2 g 1 rfl rfl (T6.o.own P_ (List.mem_of_getElem? HP_.o)) (by have h := ql Q6.o; rw [h2e.o] at h; exact h) HPb.o (Nat.le_trans HB.o N6.o.gr.size) ?_
     intro v9 w7 k1 k2 k3
     obtain ⟨hTa, hNa⟩ := T6.o.add HP_.o k1 k2 k3
     have T9 := kk hTa
     have N9 : Keep (TN w _ E Ps _) := ⟨N6.o.trans hNa⟩
     have X9 := kk (X6.o.next hNa)
     have A9 := kk (A6.o.next hNa)
     have B9 := kk (B6.o.next hNa)
     have hno : ∀ {k T : Nat} {cs : Array Value}, Blk w6 k T cs → T ≠ 32 → ¬ P_.v.ownBlock = some k := fun hk ht e => absurd ((qn (T6.o.own P_ (List.mem_of_getElem? HP_.o)) e).one hk.typ) (fun e' => ht e'.symm)
     have pp7 : w7.cell? ⟨E.pp, 0, none⟩ = some (.slice (some ⟨E.gp, 0, none⟩) nl nl) := by
      have h := (k2.blk T6.o.bp (hno T6.o.bp (by decide))).c 0 rfl
      rw [show Qs.length = nl from by have := T5.o.len; have := hnl.o; omega] at h
      exact h
     have rb7 : w7.rangeAt rb 0 h2.toList := ql (k2.blk B6.o.blk fun e => B6.o.off (.inr ⟨P_, List.mem_of_getElem? HP_.o, e⟩))
     have gb7 := k2.blk T6.o.bg (hno T6.o.bg (by decide))
     have f_ := gb7.frozen t
     have c_ : w7.cell? ⟨E.gp, t, none⟩ = some P_.v := gb7.c t (by simp [HP_.o])
     have v9f : ∃ va vn vc, v9 = .slice va vn vc := by obtain ⟨a_, c_, e_⟩ := qE k1; exact ⟨_, _, _, e_⟩
     clear k1 k2 k3 hTa hNa hno gb7 T6 N6 X6 A6 B6 T5 N5 X5 A5 B5 Q6
     refine hK _ _ ⟨pp7, rb7⟩ fun hH2 => kNx ?_
     clear hK
     refine uJ 9 ⟨some 61, .indexAddr 61 (.tmp 52) (.tmp 53), 0, _, _, none⟩ (.pointer (some ⟨E.gp, t, none⟩)) rfl hH2 ?_
     refine rd1 10 ⟨none, .store 52 (.tmp 61) (.tmp 60), 0, _, _, none⟩ rfl fun K hK => ?_
     refine zm (w7.setCell ⟨E.gp, t, none⟩ v9) (by obtain ⟨va, vn, vc, rfl⟩ := v9f; go_simp) ?_
     refine hK _ _ (hS0.o _ _ (by rw [List.length_set]; have := T9.o.len; rw [List.length_set] at this; have := hnl.o; omega) T9.o B9.o) fun hH3 => kNx ?_
     clear hK
     refine wpAnyH_done (by kernel_rfl) ?_ _
     exact restR g v9 _ T9.o N9.o X9.o A9.o B9.o
    ·rw [if_pos (by rfl)]
     refine zI 52 1 _ rfl #[(0, .agg h2)] (by simp [Act.eval]) _ _ (bsX h2 x2 w5 h2e.o) ?_
     have b6 := qg w5 (.cells h2 32)
     have Q6 := kk (Blk.new w5 32 h2)
     generalize w5.alloc (.cells h2 32) = w6 at *
     obtain ⟨g, hg⟩ := nm w5
     rw [← hg.o] at Q6 ⊢
     have T6 := kk (T5.o.below b6)
     have N6 : Keep (TN w w6 E Ps Qs) := ⟨N5.o.trans (TN.below b6)⟩
     have X6 := kk (X5.o.below b6)
     have A6 := kk (A5.o.below b6)
     have B6 := kk (B5.o.below b6)
     clear b6 hg
     refine hK _ _ (hS0.o _ Qs (by have := T5.o.len; have := hnl.o; omega) T6.o B6.o) fun hH1 => kNx ?_
     clear hK
     refine rd1 5 ⟨some 57, .load 52 (.tmp 56), 52, _, _, none⟩ rfl fun K hK => ?_
     have c_ : w6.cell? ⟨E.gp, t, none⟩ = some P_.v := T6.o.bg.c t (by simp [HP_.o])
     refine zq P_.v (by go_simp) ?_
     clear c_
     refine hK _ _ (hS0.o _ Qs (by have := T5.o.len; have := hnl.o; omega) T6.o B6.o) fun hH1 => kNx ?_
     clear hK
     refine rd1 8 ⟨some 60, .call { callee := .builtin .append, args := #[.tmp 57, .tmp 59], argTypes := #[52, 52] }, 52, _, _, none⟩ rfl fun K hK => ?_
     refine vA (.tmp 57) (.tmp 59) rfl B P_.v P_.ps x2 g 1 rfl rfl (T6.o.own P_ (List.mem_of_getElem? HP_.o)) (by have h := ql Q6.o; rw [h2e.o] at h; exact h) HPb.o (Nat.le_trans HB.o N6.o.gr.size) ?_
     intro v9 w7 k1 k2 k3
     obtain ⟨hTa, hNa⟩ := T6.o.add HP_.o k1 k2 k3
     have T9 := kk hTa
     have N9 : Keep (TN w _ E Ps _) := ⟨N6.o.trans hNa⟩
     have X9 := kk (X6.o.next hNa)
     have A9 := kk (A6.o.next hNa)
     have B9 := kk (B6.o.next hNa)
     have hno : ∀ {k T : Nat} {cs : Array Value}, Blk w6 k T cs → T ≠ 32 → ¬ P_.v.ownBlock = some k := fun hk ht e => absurd ((qn (T6.o.own P_ (List.mem_of_getElem? HP_.o)) e).one hk.typ) (fun e' => ht e'.symm)
     have pp7 : w7.cell? ⟨E.pp, 0, none⟩ = some (.slice (some ⟨E.gp, 0, none⟩) nl nl) := by
      have h := (k2.blk T6.o.bp (hno T6.o.bp (by decide))).c 0 rfl
      rw [show Qs.length = nl from by have := T5.o.len; have := hnl.o; omega] at h
      exact h
     have rb7 : w7.rangeAt rb 0 h2.toList := ql (k2.blk B6.o.blk fun e => B6.o.off (.inr ⟨P_, List.mem_of_getElem? HP_.o, e⟩))
     have gb7 := k2.blk T6.o.bg (hno T6.o.bg (by decide))
     have f_ := gb7.frozen t
     have c_ : w7.cell? ⟨E.gp, t, none⟩ = some P_.v := gb7.c t (by simp [HP_.o])
     have v9f : ∃ va vn vc, v9 = .slice va vn vc := by obtain ⟨a_, c_, e_⟩ := qE k1; exact ⟨_, _, _, e_⟩
     clear k1 k2 k3 hTa hNa hno gb7 T6 N6 X6 A6 B6 T5 N5 X5 A5 B5 Q6
     refine hK _ _ ⟨pp7, rb7⟩ fun hH2 => kNx ?_
     clear hK
     refine uJ 9 ⟨some 61, .indexAddr 61 (.tmp 52) (.tmp 53), 0, _, _, none⟩ (.pointer (some ⟨E.gp, t, none⟩)) rfl hH2 ?_
     refine rd1 10 ⟨none, .store 52 (.tmp 61) (.tmp 60), 0, _, _, none⟩ rfl fun K hK => ?_
     refine zm (w7.setCell ⟨E.gp, t, none⟩ v9) (by obtain ⟨va, vn, vc, rfl⟩ := v9f; go_simp) ?_
     refine hK _ _ (hS0.o _ _ (by rw [List.length_set]; have := T9.o.len; rw [List.length_set] at this; have := hnl.o; omega) T9.o B9.o) fun hH3 => kNx ?_
     clear hK
     refine wpAnyH_done (by kernel_rfl) ?_ _
     exact restR g v9 _ T9.o N9.o X9.o A9.o B9.o
   ·have g2' : ¬ (nn : Int) < (m : Int) := by omega
    have g3' : (m : Int) ≤ (nn : Int) := by omega
    by_cases g4 : nn < j
    ·have g4' : (nn : Int) < (j : Int) := by omega
     refine wp_seq_k fun K9 hK9 => rgn (Vt (h:=WL.nil (hK9 _ _ (wp_seq_k fun K10 hK10 => Ct (h:=wp_skip (hK10 _ _ (wp_seq_k fun K11 hK11 => wp_block (wp_seq_k fun K12 hK12 => rgn (Vv (.int .i64 (t : Int)) (h:=Vv (.pointer (some ⟨gn, t, none⟩)) (h:=?_)))))))))))
     refine WL.val (by kernel_rfl) (.int .i64 (nn : Int)) (by go_simp) ?_
     clear cnn
     simp only [Act.put, pqA, pqB, pqC]
     refine Vv (.int .i64 (t : Int)) (h:=Vv (.int .i64 (nn : Int)) (h:=WL.nil (hK12 _ _ (wp_seq_k fun K13 hK13 => wp_seq_k fun K14 hK14 => rgn (Vv (.int .i64 (i : Int)) (h:=Vv (.int .i64 (nn : Int)) (h:=Vt (h:=Vt (h:=Vv (.int .i64 (nn : Int)) (h:=Vv (.int .i64 (m : Int)) (h:=Vf (h:=Vf (h:=WL.nil (hK14 _ _ (Cf (h:=?_))))))))))))))))
     refine wp_skip (hK13 _ _ (wp_seq_k fun K15 hK15 => rgn (Vv (.int .i64 (m : Int)) (h:=Vv (.int .i64 (nn : Int)) (h:=Vt (h:=Vt (h:=Vv (.int .i64 (nn : Int)) (h:=Vv (.int .i64 (j : Int)) (h:=Vt (h:=Vt (h:=WL.nil (hK15 _ _ (Ct (h:=?_))))))))))))))
     have bq : Keep (Below wr.heap.size wr wr.drew) := ⟨(Below.refl _ _).drew⟩
     have T5 := kk (T4.o.below bq.o)
     have N5 : Keep (TN w wr.drew E Ps Qs) := ⟨N4.o.trans (TN.below bq.o)⟩
     have X5 := kk (X4.o.below bq.o)
     have A5 := kk (A4.o.below bq.o)
     have B5 := kk (B4.o.below bq.o)
     clear bq T4 N4 X4 A4 B4
     have hS0 : Keep (∀ (wx : World) (Rs : List PX), Rs.length = nl → TS B wx E ns Rs → Bx wx E Rs ra h1 → (fun wx => wx.cell? ⟨E.pp, 0, none⟩ = some (.slice (some ⟨E.gp, 0, none⟩) nl nl) ∧ wx.rangeAt ra 0 h1.toList) wx) := ⟨fun wx Rs hl ht hb => ⟨by have h := ht.bp.c 0 rfl; rw [hl] at h; exact h, ql hb.blk⟩⟩
     have restR : ∀ (g : Nat) (v9 : Value) (w9 : World), TS B w9 E ns (Qs.set t ⟨v9, P_.ps ++ [x1]⟩) → TN w w9 E Ps (Qs.set t ⟨v9, P_.ps ++ [x1]⟩) → Bx w9 E (Qs.set t ⟨v9, P_.ps ++ [x1]⟩) r (qb 32 fun _ => 0) → Bx w9 E (Qs.set t ⟨v9, P_.ps ++ [x1]⟩) ra h1 → Bx w9 E (Qs.set t ⟨v9, P_.ps ++ [x1]⟩) rb h2 → K11 { tmps := #[.int .i64 (i : Int), .int .i64 (j : Int), .pointer (some ⟨E.pl, 0, none⟩), .pointer (some ⟨E.pd, 0, none⟩), .pointer (some ⟨E.pn, 0, none⟩), .pointer (some ⟨E.pp, 0, none⟩), undef, undef, .pointer (some ⟨r, 0, none⟩), .int .i64 (m : Int), .pointer (some ⟨ra, 0, none⟩), .pointer (some ⟨rb, 0, none⟩), .int .i64 (t : Int), .int .i64 (nn : Int), .int .i64 (j : Int), .int .i64 (i : Int), .int .i64 ((j - i : Nat) : Int), .bool false, undef, undef, undef, undef, undef, .int .i64 (i : Int), .int .i64 (j : Int), .int .i64 (i : Int), .int .i64 ((j - i : Nat) : Int), .int .i64 (q : Int), .int .i64 (m : Int), E.cl, .int .i64 (i : Int), .int .i64 (m : Int), .agg h1, E.cl, .int .i64 (m : Int), .int .i64 (j : Int), .agg h2, .slice (some ⟨gn, 0, none⟩) nl nc, .int .i64 (nl : Int), .int .i64 (t : Int), .bool true, .int .i64 (t : Int), .pointer (some ⟨gn, t, none⟩), .int .i64 (nn : Int), .int .i64 (i : Int), .int .i64 (nn : Int), .bool true, .bool true, .int .i64 (nn : Int), .int .i64 (m : Int), .bool false, .bool false, f 52, f 53, f 54, f 55, f 56, f 57, f 58, f 59, f 60, f 61, .int .i64 (m : Int), .int .i64 (nn : Int), .bool true, .bool true, .int .i64 (nn : Int), .int .i64 (j : Int), .bool true, .bool true, .slice (some ⟨E.gp, 0, none⟩) nl nl, .int .i64 (t : Int), .slice (some ⟨E.gp, 0, none⟩) nl nl, .int .i64 (t : Int), .pointer (some ⟨E.gp, t, none⟩), P_.v, .agg h1, .slice (some ⟨g, 0, none⟩) 1 1, v9, .pointer (some ⟨E.gp, t, none⟩), f 80, undef, undef, undef], defers := [] } w9 := by
      intro g v9 w9 hT9 hN9 hX9 hA9 hB9
      have T9 := kk hT9
      have N9 := kk hN9
      have X9 := kk hX9
      have A9 := kk hA9
      have B9 := kk hB9
      clear hT9 hN9 hX9 hA9 hB9 T5 N5 X5 A5 B5
      refine hK11 _ _ (rgn (Vv (.int .i64 ((t + 1 : Nat) : Int)) (h:=Vv (.int .i64 ((t + 1 : Nat) : Int)) (h:=?_))))
      refine WL.nil ?_
      refine ⟨⟨t + 1, rfl, by omega, Qs.set t ⟨v9, P_.ps ++ [x1]⟩, T9.o, fun jj n' P P' hn' hP hP' => ?_, X9.o, A9.o, B9.o, N9.o⟩, ?_⟩
      ·rw [List.getElem?_set] at hP'
       by_cases e : t = jj
       ·subst e
        rw [if_pos rfl, if_pos (List.getElem?_eq_some_iff.1 HP_.o).1] at hP'
        injection hP' with hP'
        subst hP'
        rw [Hn.o] at hn'
        injection hn' with hn'
        subst hn'
        rw [HQ_.o] at hP
        injection hP with hP
        subst hP
        rw [if_pos (Nat.lt_succ_self _), ZU (by omega), HPe.o]
       ·rw [if_neg e] at hP'
        have h := HQ.o jj n' P P' hn' hP hP'
        by_cases e2 : jj < t
        ·rw [if_pos e2] at h; rw [if_pos (by omega)]; exact h
        ·rw [if_neg e2] at h; rw [if_neg (by omega)]; exact h
      ·simp only [intOf]; show nl - (((t + 1 : Nat) : Int)).toNat < nl - ((t : Int)).toNat; omega
     refine wp_region_held_drew (S := fun wx => wx.cell? ⟨E.pp, 0, none⟩ = some (.slice (some ⟨E.gp, 0, none⟩) nl nl) ∧ wx.rangeAt ra 0 h1.toList) (by kernel_rfl) (hS0.o _ Qs (by have := T5.o.len; have := hnl.o; omega) T5.o A5.o) (fun hH0 => ?_)
     generalize wr.drew = w5 at *
     refine uJ 0 ⟨some 70, .load 61 (.tmp 5), 61, _, _, none⟩ (.slice (some ⟨E.gp, 0, none⟩) nl nl) rfl hH0 ?_
     refine uJ 1 ⟨some 71, .move (.tmp 12), 3, _, _, none⟩ (.int .i64 (t : Int)) rfl hH0 ?_
     refine uJ 2 ⟨some 72, .load 61 (.tmp 5), 61, _, _, none⟩ (.slice (some ⟨E.gp, 0, none⟩) nl nl) rfl hH0 ?_
     refine uJ 3 ⟨some 73, .move (.tmp 12), 3, _, _, none⟩ (.int .i64 (t : Int)) rfl hH0 ?_
     refine uS 6 ⟨some 76, .load 32 (.tmp 10), 32, _, _, none⟩ (.agg h1) rfl (qv (by rfl) (.tmp 10) 32 rfl ra 0 rfl h1 _ Try.underlying32 rfl (by rw [h1e.o]; exact qd _) fun w hS => hS.2) hH0 ?_
     refine uJ 4 ⟨some 74, .indexAddr 61 (.tmp 72) (.tmp 73), 0, _, _, none⟩ (.pointer (some ⟨E.gp, t, none⟩)) rfl hH0 ?_
     refine wpAnyH_ready (rs := [5, 7]) (by kernel_rfl) (by simp) ?_
     refine AllReadyH.cons (o := ⟨some 75, .load 52 (.tmp 74), 52, _, _, none⟩) rfl (fun K hK => ?_) (AllReadyH.cons (o := ⟨some 77, .buildSlice 52 1 #[(0, .tmp 76)], 52, _, _, none⟩) rfl (fun K hK => ?_) AllReadyH.nil)
     ·rw [if_pos (by rfl)]
      have c_ : w5.cell? ⟨E.gp, t, none⟩ = some P_.v := T5.o.bg.c t (by simp [HP_.o])
      refine zq P_.v (by go_simp) ?_
      clear c_
      refine hK _ _ (hS0.o _ Qs (by have := T5.o.len; have := hnl.o; omega) T5.o A5.o) fun hH1 => kNx ?_
      clear hK
      refine rd1 7 ⟨some 77, .buildSlice 52 1 #[(0, .tmp 76)], 52, _, _, none⟩ rfl fun K hK => ?_
      refine zI 52 1 _ rfl #[(0, .agg h1)] (by simp [Act.eval]) _ _ (bsX h1 x1 w5 h1e.o) ?_
      have b6 := qg w5 (.cells h1 32)
      have Q6 := kk (Blk.new w5 32 h1)
      generalize w5.alloc (.cells h1 32) = w6 at *
      obtain ⟨g, hg⟩ := nm w5
      rw [← hg.o] at Q6 ⊢
      have T6 := kk (T5.o.below b6)
      have N6 : Keep (TN w w6 E Ps Qs) := ⟨N5.o.trans (TN.below b6)⟩
      have X6 := kk (X5.o.below b6)
      have A6 := kk (A5.o.below b6)
      have B6 := kk (B5.o.below b6)
      clear b6 hg
      refine hK _ _ (hS0.o _ Qs (by have := T5.o.len; have := hnl.o; omega) T6.o A6.o) fun hH1 => kNx ?_
      clear hK
      refine rd1 8 ⟨some 78, .call { callee := .builtin .append, args := #[.tmp 75, .tmp 77], argTypes := #[52, 52] }, 52, _, _, none⟩ rfl fun K hK => ?_
      refine vA (.tmp 75) (.tmp 77) rfl B P_.v P_.ps x1 g 1 rfl rfl (T6.o.own P_ (List.mem_of_getElem? HP_.o)) (by have h := ql Q6.o; rw [h1e.o] at h; exact h) HPb.o (Nat.le_trans HB.o N6.o.gr.size) ?_
      intro v9 w7 k1 k2 k3
      obtain ⟨hTa, hNa⟩ := T6.o.add HP_.o k1 k2 k3
      have T9 := kk hTa
      have N9 : Keep (TN w _ E Ps _) := ⟨N6.o.trans hNa⟩
      have X9 := kk (X6.o.next hNa)
      have A9 := kk (A6.o.next hNa)
      have B9 := kk (B6.o.next hNa)
      have hno : ∀ {k T : Nat} {cs : Array Value}, Blk w6 k T cs → T ≠ 32 → ¬ P_.v.ownBlock = some k := fun hk ht e => absurd ((qn (T6.o.own P_ (List.mem_of_getElem? HP_.o)) e).one hk.typ) (fun e' => ht e'.symm)
      have pp7 : w7.cell? ⟨E.pp, 0, none⟩ = some (.slice (some ⟨E.gp, 0, none⟩) nl nl) := by
       have h := (k2.blk T6.o.bp (hno T6.o.bp (by decide))).c 0 rfl
       rw [show Qs.length = nl from by have := T5.o.len; have := hnl.o; omega] at h
       exact h
      have rb7 : w7.rangeAt ra 0 h1.toList := ql (k2.blk A6.o.blk fun e => A6.o.off (.inr ⟨P_, List.mem_of_getElem? HP_.o, e⟩))
      have gb7 := k2.blk T6.o.bg (hno T6.o.bg (by decide))
      have f_ := gb7.frozen t
      have c_ : w7.cell? ⟨E.gp, t, none⟩ = some P_.v := gb7.c t (by simp [HP_.o])
      have v9f : ∃ va vn vc, v9 = .slice va vn vc := by obtain ⟨a_, c_, e_⟩ := qE k1; exact ⟨_, _, _, e_⟩
      clear k1 k2 k3 hTa hNa hno gb7 T6 N6 X6 A6 B6 T5 N5 X5 A5 B5 Q6
      refine hK _ _ ⟨pp7, rb7⟩ fun hH2 => kNx ?_
      clear hK
      refine uJ 9 ⟨some 79, .indexAddr 61 (.tmp 70) (.tmp 71), 0, _, _, none⟩ (.pointer (some ⟨E.gp, t, none⟩)) rfl hH2 ?_
      refine rd1 10 ⟨none, .store 52 (.tmp 79) (.tmp 78), 0, _, _, none⟩ rfl fun K hK => ?_
      refine zm (w7.setCell ⟨E.gp, t, none⟩ v9) (by obtain ⟨va, vn, vc, rfl⟩ := v9f; go_simp) ?_
      refine hK _ _ (hS0.o _ _ (by rw [List.length_set]; have := T9.o.len; rw [List.length_set] at this; have := hnl.o; omega) T9.o A9.o) fun hH3 => kNx ?_
      clear hK
      refine wpAnyH_done (by kernel_rfl) ?_ _
      exact restR g v9 _ T9.o N9.o X9.o A9.o B9.o
     ·rw [if_pos (by rfl)]
      refine zI 52 1 _ rfl #[(0, .agg h1)] (by simp [Act.eval]) _ _ (bsX h1 x1 w5 h1e.o) ?_
      have b6 := qg w5 (.cells h1 32)
      have Q6 := kk (Blk.new w5 32 h1)
      generalize w5.alloc (.cells h1 32) = w6 at *
      obtain ⟨g, hg⟩ := nm w5
      rw [← hg.o] at Q6 ⊢
      have T6 := kk (T5.o.below b6)
      have N6 : Keep (TN w w6 E Ps Qs) := ⟨N5.o.trans (TN.below b6)⟩
      have X6 := kk (X5.o.below b6)
      have A6 := kk (A5.o.below b6)
      have B6 := kk (B5.o.below b6)
      clear b6 hg
      refine hK _ _ (hS0.o _ Qs (by have := T5.o.len; have := hnl.o; omega) T6.o A6.o) fun hH1 => kNx ?_
      clear hK
      refine rd1 5 ⟨some 75, .load 52 (.tmp 74), 52, _, _, none⟩ rfl fun K hK => ?_
      have c_ : w6.cell? ⟨E.gp, t, none⟩ = some P_.v := T6.o.bg.c t (by simp [HP_.o])
      refine zq P_.v (by go_simp) ?_
      clear c_
      refine hK _ _ (hS0.o _ Qs (by have := T5.o.len; have := hnl.o; omega) T6.o A6.o) fun hH1 => kNx ?_
      clear hK
      refine rd1 8 ⟨some 78, .call { callee := .builtin .append, args := #[.tmp 75, .tmp 77], argTypes := #[52, 52] }, 52, _, _, none⟩ rfl fun K hK => ?_
      refine vA (.tmp 75) (.tmp 77) rfl B P_.v P_.ps x1 g 1 rfl rfl (T6.o.own P_ (List.mem_of_getElem? HP_.o)) (by have h := ql Q6.o; rw [h1e.o] at h; exact h) HPb.o (Nat.le_trans HB.o N6.o.gr.size) ?_
      intro v9 w7 k1 k2 k3
      obtain ⟨hTa, hNa⟩ := T6.o.add HP_.o k1 k2 k3
      have T9 := kk hTa
      have N9 : Keep (TN w _ E Ps _) := ⟨N6.o.trans hNa⟩
      have X9 := kk (X6.o.next hNa)
      have A9 := kk (A6.o.next hNa)
      have B9 := kk (B6.o.next hNa)
      have hno : ∀ {k T : Nat} {cs : Array Value}, Blk w6 k T cs → T ≠ 32 → ¬ P_.v.ownBlock = some k := fun hk ht e => absurd ((qn (T6.o.own P_ (List.mem_of_getElem? HP_.o)) e).one hk.typ) (fun e' => ht e'.symm)
      have pp7 : w7.cell? ⟨E.pp, 0, none⟩ = some (.slice (some ⟨E.gp, 0, none⟩) nl nl) := by
       have h := (k2.blk T6.o.bp (hno T6.o.bp (by decide))).c 0 rfl
       rw [show Qs.length = nl from by have := T5.o.len; have := hnl.o; omega] at h
       exact h
      have rb7 : w7.rangeAt ra 0 h1.toList := ql (k2.blk A6.o.blk fun e => A6.o.off (.inr ⟨P_, List.mem_of_getElem? HP_.o, e⟩))
      have gb7 := k2.blk T6.o.bg (hno T6.o.bg (by decide))
      have f_ := gb7.frozen t
      have c_ : w7.cell? ⟨E.gp, t, none⟩ = some P_.v := gb7.c t (by simp [HP_.o])
      have v9f : ∃ va vn vc, v9 = .slice va vn vc := by obtain ⟨a_, c_, e_⟩ := qE k1; exact ⟨_, _, _, e_⟩
      clear k1 k2 k3 hTa hNa hno gb7 T6 N6 X6 A6 B6 T5 N5 X5 A5 B5 Q6
      refine hK _ _ ⟨pp7, rb7⟩ fun hH2 => kNx ?_
      clear hK
      refine uJ 9 ⟨some 79, .indexAddr 61 (.tmp 70) (.tmp 71), 0, _, _, none⟩ (.pointer (some ⟨E.gp, t, none⟩)) rfl hH2 ?_
      refine rd1 10 ⟨none, .store 52 (.tmp 79) (.tmp 78), 0, _, _, none⟩ rfl fun K hK => ?_
      refine zm (w7.setCell ⟨E.gp, t, none⟩ v9) (by obtain ⟨va, vn, vc, rfl⟩ := v9f; go_simp) ?_
      refine hK _ _ (hS0.o _ _ (by rw [List.length_set]; have := T9.o.len; rw [List.length_set] at this; have := hnl.o; omega) T9.o A9.o) fun hH3 => kNx ?_
      clear hK
      refine wpAnyH_done (by kernel_rfl) ?_ _
      exact restR g v9 _ T9.o N9.o X9.o A9.o B9.o
    ·have g4' : ¬ (nn : Int) < (j : Int) := by omega
     refine wp_seq_k fun K16 hK16 => rgn (Vt (h:=WL.nil (hK16 _ _ (wp_seq_k fun K17 hK17 => Ct (h:=wp_skip (hK17 _ _ (wp_seq_k fun K18 hK18 => wp_block (wp_seq_k fun K19 hK19 => rgn (Vv (.int .i64 (t : Int)) (h:=Vv (.pointer (some ⟨gn, t, none⟩)) (h:=?_)))))))))))
     refine WL.val (by kernel_rfl) (.int .i64 (nn : Int)) (by go_simp) ?_
     clear cnn
     simp only [Act.put, pqA, pqB, pqC]
     refine Vv (.int .i64 (t : Int)) (h:=Vv (.int .i64 (nn : Int)) (h:=WL.nil (hK19 _ _ (wp_seq_k fun K20 hK20 => wp_seq_k fun K21 hK21 => rgn (Vv (.int .i64 (i : Int)) (h:=Vv (.int .i64 (nn : Int)) (h:=Vt (h:=Vt (h:=Vv (.int .i64 (nn : Int)) (h:=Vv (.int .i64 (m : Int)) (h:=Vf (h:=Vf (h:=WL.nil (hK21 _ _ (Cf (h:=?_))))))))))))))))
     refine wp_skip (hK20 _ _ (wp_seq_k fun K22 hK22 => rgn (Vv (.int .i64 (m : Int)) (h:=Vv (.int .i64 (nn : Int)) (h:=Vt (h:=Vt (h:=Vv (.int .i64 (nn : Int)) (h:=Vv (.int .i64 (j : Int)) (h:=Vf (h:=Vf (h:=WL.nil (hK22 _ _ (Cf (h:=wp_skip (?_)))))))))))))))
     refine hK18 _ _ (rgn (Vv (.int .i64 ((t + 1 : Nat) : Int)) (h:=Vv (.int .i64 ((t + 1 : Nat) : Int)) (h:=?_))))
     refine WL.nil ?_
     refine ⟨⟨t + 1, rfl, by omega, Qs, T4.o, fun jj n' P P' hn' hP hP' => ?_, X4.o, A4.o, B4.o, N4.o⟩, ?_⟩
     ·have h := HQ.o jj n' P P' hn' hP hP'
      by_cases e : jj = t
      ·subst e
       rw [Hn.o] at hn'
       injection hn' with hn'
       subst hn'
       rw [if_neg (Nat.lt_irrefl _)] at h
       rw [if_pos (Nat.lt_succ_self _), KU (by omega) (by omega)]
       exact h
      ·by_cases e2 : jj < t
       ·rw [if_pos e2] at h; rw [if_pos (by omega)]; exact h
       ·rw [if_neg e2] at h; rw [if_neg (by omega)]; exact h
     ·simp only [intOf]; show nl - (((t + 1 : Nat) : Int)).toNat < nl - ((t : Int)).toNat; omega
  ·have g1' : ¬ (i : Int) ≤ (nn : Int) := by omega
   have g3' : ¬ (m : Int) ≤ (nn : Int) := by omega
   refine wp_seq_k fun K23 hK23 => rgn (Vt (h:=WL.nil (hK23 _ _ (wp_seq_k fun K24 hK24 => Ct (h:=wp_skip (hK24 _ _ (wp_seq_k fun K25 hK25 => wp_block (wp_seq_k fun K26 hK26 => rgn (Vv (.int .i64 (t : Int)) (h:=Vv (.pointer (some ⟨gn, t, none⟩)) (h:=?_)))))))))))
   refine WL.val (by kernel_rfl) (.int .i64 (nn : Int)) (by go_simp) ?_
   clear cnn
   simp only [Act.put, pqA, pqB, pqC]
   refine Vv (.int .i64 (t : Int)) (h:=Vv (.int .i64 (nn : Int)) (h:=WL.nil (hK26 _ _ (wp_seq_k fun K27 hK27 => wp_seq_k fun K28 hK28 => rgn (Vv (.int .i64 (i : Int)) (h:=Vv (.int .i64 (nn : Int)) (h:=Vf (h:=Vf (h:=Vs (h:=Vs (h:=Vs (h:=Vf (h:=WL.nil (hK28 _ _ (Cf (h:=?_))))))))))))))))
   refine wp_skip (hK27 _ _ (wp_seq_k fun K29 hK29 => rgn (Vv (.int .i64 (m : Int)) (h:=Vv (.int .i64 (nn : Int)) (h:=Vf (h:=Vf (h:=Vs (h:=Vs (h:=Vs (h:=Vf (h:=WL.nil (hK29 _ _ (Cf (h:=wp_skip (?_)))))))))))))))
   refine hK25 _ _ (rgn (Vv (.int .i64 ((t + 1 : Nat) : Int)) (h:=Vv (.int .i64 ((t + 1 : Nat) : Int)) (h:=?_))))
   refine WL.nil ?_
   refine ⟨⟨t + 1, rfl, by omega, Qs, T4.o, fun jj n' P P' hn' hP hP' => ?_, X4.o, A4.o, B4.o, N4.o⟩, ?_⟩
   ·have h := HQ.o jj n' P P' hn' hP hP'
    by_cases e : jj = t
    ·subst e
     rw [Hn.o] at hn'
     injection hn' with hn'
     subst hn'
     rw [if_neg (Nat.lt_irrefl _)] at h
     rw [if_pos (Nat.lt_succ_self _), KU (by omega) (by omega)]
     exact h
    ·by_cases e2 : jj < t
     ·rw [if_pos e2] at h; rw [if_pos (by omega)]; exact h
     ·rw [if_neg e2] at h; rw [if_neg (by omega)]; exact h
   ·simp only [intOf]; show nl - (((t + 1 : Nat) : Int)).toNat < nl - ((t : Int)).toNat; omega
 ·have e8 : t = nl := by omega
  have htl' : ¬ (t : Int) < (nl : Int) := by omega
  have U4 : Keep (UP (k + 1) L i j ns Ps Qs) := ⟨by
   obtain ⟨P1, p1, p2, p3⟩ := U3.o
   exact UP.two (by rw [hq.o]; exact hm.o) (by omega) (by rw [hn.o]; omega) (by omega) HT.o.len p1 hl2.o p2 p3 X1e.o X2e.o fun jj n' P P' hn' hP hP' => by
    have h := HQ.o jj n' P P' hn' hP hP'
    rw [if_pos (by have := (List.getElem?_eq_some_iff.1 hn').1; rw [hnl.o] at this; omega)] at h
    exact h⟩
  have hin := yl x1.f x2.f wr
  rw [← h1e.o, ← h2e.o] at hin
  have HIN := kk hin
  clear hin
  refine wp_seq_k fun K30 hK30 => rgn (Vf (h:=WL.nil (hK30 _ _ (wp_seq_k fun K31 hK31 => Cf (h:=wp_exit (hK1 _ _ (wp_seq_k fun K32 hK32 => rgn (Vr A4.o.blk (by rw [h1e.o]; exact qd _) (h:=Vr B4.o.blk (by rw [h2e.o]; exact qd _) (h:=ClS (HIN.o) ?_))))))))))
  rintro e w8 ⟨rfl, k1⟩
  refine ⟨_, rfl, ?_⟩
  have T8 := kk (T4.o.below k1)
  have N8 : Keep (TN w w8 E Ps Qs) := ⟨N4.o.trans (TN.below k1)⟩
  have X8 := kk (X4.o.below k1)
  clear k1 T4 N4 X4 A4 B4
  refine StR (qb 32 (qy (RtP.innR (hl 32 x1.f) (hl 32 x2.f)))) X8.o.blk (qd _) (qh _ _ _) (qi _ _) ?_
  have T9 := kk (T8.o.box X8.o (qb 32 (qy (RtP.innR (hl 32 x1.f) (hl 32 x2.f)))))
  have X9 := kk (X8.o.set (qb 32 (qy (RtP.innR (hl 32 x1.f) (hl 32 x2.f)))))
  have N9 := kk (N8.o.box hrw.o (qb 32 (qy (RtP.innR (hl 32 x1.f) (hl 32 x2.f)))))
  generalize w8.setRow r (qb 32 (qy (RtP.innR (hl 32 x1.f) (hl 32 x2.f)))) = w9 at *
  refine WL.nil (hK32 _ _ (wp_ret ?_))
  try simp only [Exit.inBlock, Exit.then]
  refine bodyPost_ret (v := .agg (qb 32 (qy (RtP.innR (hl 32 x1.f) (hl 32 x2.f))))) (results_cell_row Try.results48 _ _ r 32 _ (0, 0) _ rfl X9.o.blk Try.underlying32 rfl (qd _)) rfl ⟨?_, Qs, T9.o, U4.o, N9.o⟩
  have hl_ : (sub L i j).length = j - i := js (by omega) (by rw [hn.o]; omega)
  have hm_ : i + q = m := hm.o.symm
  rw [Jf (by omega), hl_, hq.o, vN (by omega), vO (by omega), hm_, ← X1e.o, ← X2e.o, zR, xE]
  rfl
theorem DX (w : World) (vs : Array Value) : (callFunc 25 vs).run Try.prog w = .ok (.enter 25 vs) w := by kernel_rfl
theorem WL.boxV {ops : Array Oper} {rest : List Oper} {o : Oper} {a : Act} {w : World} {Q : Exit → Act → World → Prop} (hw : Region.wanted o (yielded ops a.tmps) = true) (t : TypeId) (x : Operand) (ho : o.op = .box t x) (v : Value) (hx : a.eval x = v) (hb : (Instr.box t v).run Try.prog w = .ok (.pointer (some ⟨w.heap.size, 0, none⟩)) (w.alloc (.cells #[v] t)))
  (h : WL Try.prog ops Q rest (a.put o.dst (.pointer (some ⟨w.heap.size, 0, none⟩))) (w.alloc (.cells #[v] t))) : WL Try.prog ops Q (o :: rest) a w := by
 refine WL.valW hw _ _ ?_ h
 unfold execOp
 simp only [ho, hx, Sem.run_bind, hb, Result.andThen_ok]
 rfl
theorem Zd (w : World) : (Instr.alloc 61 true (.tuple #[])).run Try.prog w = .ok (.pointer (some ⟨w.heap.size, 0, none⟩)) (w.alloc (.cells #[.slice none 0 0] 61)) := by kernel_rfl
theorem Ze (w : World) : (Instr.alloc 89 true (.tuple #[])).run Try.prog w = .ok (.pointer (some ⟨w.heap.size, 0, none⟩)) (w.alloc (.cells #[.nilFunc] 89)) := by kernel_rfl
theorem GA : (Try.prog.info? 52).map (fun i => (i.zero, i.size, i.bytes)) = some (some (.slice none 0 0), 1, 24) := by kernel_rfl
theorem Vk (n : Nat) : madeCells #[.slice none 0 0] n = (List.replicate n (Value.slice none 0 0)).toArray := by
 apply Array.ext_getElem?
 intro i
 by_cases h : i < n <;> simp [madeCells, h, Nat.mod_one]
theorem QJ (n : Nat) (hn : n ≤ 1099511627776) (w : World) : (Instr.makeSlice 61 (.int .i64 (n : Int)) (.int .i64 (n : Int))).run Try.prog w = .ok (.slice (some ⟨w.heap.size, 0, none⟩) n n) (w.alloc (.cells (List.replicate n (Value.slice none 0 0)).toArray 52)) := by
 obtain ⟨i, hi, hzz⟩ := Option.map_eq_some_iff.1 GA
 simp only [Prod.mk.injEq] at hzz
 obtain ⟨hz, hs, hb⟩ := hzz
 have hr := run_make (P := Try.prog) w 61 52 i _ Try.underlying61 hi hz .i64 .i64 (n : Int) (n : Int) (by omega) (by omega) (by rw [hb]; omega) (by omega)
 simp only [Int.toNat_natCast, hs, Value.cells, Nat.mul_one] at hr
 rw [Vk] at hr
 exact hr
def P0 (n : Nat) : List PX := List.replicate n ⟨.slice none 0 0, []⟩
structure TR (B : Nat) (w : World) (gp : Nat) (L : List CV) (ns : List Nat) (Ps : List PX) : Prop where
 bg : Blk w gp 52 (Ps.map (·.v)).toArray
 len : Ps.length = ns.length
 own : ∀ P ∈ Ps, w.ownsRow B 32 32 P.v P.ps.length (qF P.ps)
 apt : ∀ (i j : Nat) (P Q : PX), Ps[i]? = some P → Ps[j]? = some Q → i ≠ j → ∀ k, P.v.ownBlock = some k → Q.v.ownBlock ≠ some k
 ge : B ≤ gp
 is : ∀ (j n : Nat) (P : PX), ns[j]? = some n → Ps[j]? = some P → n < L.length → P.ps.map hsL = zG L.length L n
theorem Zl (b off n cap : Nat) (L : List CV) (ns : List Nat) (na : Option Addr) (nl nc : Nat) (w : World) (hnse : Keep (ns.length = nl)) (hnl : Keep (nl ≤ 1099511627776)) (hn : Keep (L.length = n)) (hn1 : 1 ≤ n) (hnb : n ≤ 1099511627776)
  (DOWN : ∀ (E : TE) (i j : Nat) (Ps : List PX) (w' : World), E.lv = .slice (some ⟨b, off, none⟩) n cap → E.nv = .slice na nl nc → i < j → j - i ≤ n → j ≤ n → TS w.heap.size w' E ns Ps → CsAt w.heap.size w' b off L → Rm Ps (j - i + 1) → w.heap.size ≤ w'.heap.size → Calls Try.prog 48 #[.int .i64 (i : Int), .int .i64 (j : Int), ptr E.pl, ptr E.pd, ptr E.pn, ptr E.pp] w' (DP w.heap.size n E L ns Ps i j w'))
  (hC : CsAt w.heap.size w b off L) (hNs : NsV w (.slice na nl nc) ns) :
  Calls Try.prog 25 #[.slice (some ⟨b, off, none⟩) n cap, .slice na nl nc] w fun e w' => ∃ (gp : Nat) (Ps : List PX), e = .returned (.tuple #[.agg (qb 32 (hof (qx n L))), .slice (some ⟨gp, 0, none⟩) nl nl]) ∧ TR w.heap.size w' gp L ns Ps ∧ Below w.heap.size w w' := by
 obtain ⟨hh, hhe⟩ : ∃ z : Array Value, Keep (z = (qb 32 (hof (qx n L)))) := ⟨_, ⟨rfl⟩⟩
 have HC := kk hC
 have HNs := kk hNs
 clear hC hNs
 go_enter Try.func25, Try.ntmps25
 refine wp_seq_k fun K1 hK1 => rgn ?_
 refine WL.boxV (by kernel_rfl) 22 (.tmp 0) rfl (.slice (some ⟨b, off, none⟩) n cap) rfl (by rfl) ?_
 have L1 := kk (Blk.new w 22 #[.slice (some ⟨b, off, none⟩) n cap])
 have b_ := qg w (.cells #[.slice (some ⟨b, off, none⟩) n cap] 22)
 change WL _ _ _ _ _ (w.alloc (.cells #[.slice (some ⟨b, off, none⟩) n cap] 22))
 generalize w.alloc (.cells #[.slice (some ⟨b, off, none⟩) n cap] 22) = w1 at *
 obtain ⟨pl, hpl0⟩ := nm w
 rw [← hpl0.o] at L1 ⊢
 have Be1 : Keep (Below w.heap.size w w1) := ⟨b_⟩
 have gl := lh hpl0
 clear b_
 simp only [Act.put, pqA, pqB, pqC]
 refine WL.boxV (by kernel_rfl) 65 (.tmp 1) rfl (.slice na nl nc) rfl (by rfl) ?_
 have N2 := kk (Blk.new w1 65 #[.slice na nl nc])
 have b_ := qg w1 (.cells #[.slice na nl nc] 65)
 change WL _ _ _ _ _ (w1.alloc (.cells #[.slice na nl nc] 65))
 generalize w1.alloc (.cells #[.slice na nl nc] 65) = w2 at *
 obtain ⟨pn, hpn0⟩ := nm w1
 rw [← hpn0.o] at N2 ⊢
 have L2 := kbx L1 b_
 have Be2 := tb Be1 b_
 have gn : Keep (w.heap.size ≤ pn) := ⟨by rw [hpn0.o]; exact Be1.o.size⟩
 clear b_ L1
 simp only [Act.put, pqA, pqB, pqC]
 refine zU 32 qm fun r w3 hr0 R3 b_ => ?_
 have L3 := kbx L2 b_
 have N3 := kbx N2 b_
 have Be3 := tb Be2 b_
 have grr : Keep (w.heap.size ≤ r) := ⟨by rw [hr0.o]; exact Be2.o.size⟩
 have cn := N3.o.c 0 (by rfl : (#[.slice na nl nc] : Array Value)[0]? = some (.slice na nl nc))
 clear b_ L2 N2
 refine Vv (.slice none 0 0) (h:=WL.nil (hK1 _ _ (wp_seq_k fun K2 hK2 => rgn (Vv (.slice na nl nc) (h:=Vv (.int .i64 (nl : Int)) (h:=?_))))))
 refine WL.valW (by kernel_rfl) (.slice (some ⟨w3.heap.size, 0, none⟩) nl nl) (w3.alloc (.cells (List.replicate nl (Value.slice none 0 0)).toArray 52)) (by
  unfold execOp
  simp only [Act.eval]
  have h := QJ nl hnl.o w3
  go_simp) ?_
 have G4 := kk (Blk.new w3 52 (List.replicate nl (Value.slice none 0 0)).toArray)
 have b_ := qg w3 (.cells (List.replicate nl (Value.slice none 0 0)).toArray 52)
 generalize w3.alloc (.cells (List.replicate nl (Value.slice none 0 0)).toArray 52) = w4 at *
 obtain ⟨gp, hgp0⟩ := nm w3
 rw [← hgp0.o] at G4 ⊢
 have L4 := kbx L3 b_
 have N4 := kbx N3 b_
 have R4 := kbx R3 b_
 have Be4 := tb Be3 b_
 have gg : Keep (w.heap.size ≤ gp) := ⟨by rw [hgp0.o]; exact Be3.o.size⟩
 clear b_ L3 N3 R3 cn
 simp only [Act.put, pqA, pqB, pqC]
 refine zU 61 Zd fun pp w5 hpp0 Q5 b_ => ?_
 have L5 := kbx L4 b_
 have N5 := kbx N4 b_
 have R5 := kbx R4 b_
 have G5 := kbx G4 b_
 have Be5 := tb Be4 b_
 have gq : Keep (w.heap.size ≤ pp) := ⟨by rw [hpp0.o]; exact Be4.o.size⟩
 have f_o := Q5.o.frozen 0
 have c_o := Q5.o.c 0 (by rfl : (#[.slice none 0 0] : Array Value)[0]? = some (.slice none 0 0))
 clear b_ L4 N4 R4 G4
 refine WL.cell (by kernel_rfl) (w5.setCell ⟨pp, 0, none⟩ (.slice (some ⟨gp, 0, none⟩) nl nl)) (by go_simp) ?_
 clear f_o c_o
 have Q6 : Keep (Blk (w5.setCell ⟨pp, 0, none⟩ (.slice (some ⟨gp, 0, none⟩) nl nl)) pp 61 #[.slice (some ⟨gp, 0, none⟩) nl nl]) := ⟨by have h := Q5.o.set 0 (.slice (some ⟨gp, 0, none⟩) nl nl); exact h⟩
 have g_ : Grown w5 (w5.setCell ⟨pp, 0, none⟩ (.slice (some ⟨gp, 0, none⟩) nl nl)) (fun k => k = pp) := Grown.setCell w5 pp 0 _ fun _ => rfl
 have Be6 : Keep (Below w.heap.size w (w5.setCell ⟨pp, 0, none⟩ (.slice (some ⟨gp, 0, none⟩) nl nl))) := ⟨Be5.o.trans (g_.to_below (fun k hk e => by have := gq.o; omega) Be5.o.size)⟩
 have L6 := kk (g_.blk L5.o (zr L5.o Q5.o (by decide)))
 have N6 := kk (g_.blk N5.o (zr N5.o Q5.o (by decide)))
 have R6 := kk (g_.blk R5.o (zr R5.o Q5.o (by decide)))
 have G6 := kk (g_.blk G5.o (zr G5.o Q5.o (by decide)))
 generalize w5.setCell ⟨pp, 0, none⟩ (.slice (some ⟨gp, 0, none⟩) nl nl) = w6 at *
 clear g_ Q5 L5 N5 R5 G5
 simp only [Act.put]
 refine WL.nil (hK2 _ _ (wp_seq_k fun K3 hK3 => rgn (zU 89 Ze fun pd w7 hpd0 D7 b_ => ?_)))
 have L7 := kbx L6 b_
 have N7 := kbx N6 b_
 have R7 := kbx R6 b_
 have G7 := kbx G6 b_
 have Q7 := kbx Q6 b_
 have Be7 := tb Be6 b_
 have gd : Keep (w.heap.size ≤ pd) := ⟨by rw [hpd0.o]; exact Be6.o.size⟩
 have f_o := D7.o.frozen 0
 have c_o := D7.o.c 0 (by rfl : (#[.nilFunc] : Array Value)[0]? = some .nilFunc)
 clear b_ L6 N6 R6 G6 Q6
 refine WL.nil (hK3 _ _ (wp_seq_k fun K4 hK4 => rgn (Vv (.func (.func 48) #[] #[ptr pl, ptr pd, ptr pn, ptr pp]) (h:=?_))))
 refine WL.cell (by kernel_rfl) (w7.setCell ⟨pd, 0, none⟩ (.func (.func 48) #[] #[ptr pl, ptr pd, ptr pn, ptr pp])) (by go_simp) ?_
 clear f_o c_o
 have D8 : Keep (Blk (w7.setCell ⟨pd, 0, none⟩ (.func (.func 48) #[] #[ptr pl, ptr pd, ptr pn, ptr pp])) pd 89 #[.func (.func 48) #[] #[ptr pl, ptr pd, ptr pn, ptr pp]]) := ⟨by have h := D7.o.set 0 (.func (.func 48) #[] #[ptr pl, ptr pd, ptr pn, ptr pp]); exact h⟩
 have g_ : Grown w7 (w7.setCell ⟨pd, 0, none⟩ (.func (.func 48) #[] #[ptr pl, ptr pd, ptr pn, ptr pp])) (fun k => k = pd) := Grown.setCell w7 pd 0 _ fun _ => rfl
 have Be8 : Keep (Below w.heap.size w (w7.setCell ⟨pd, 0, none⟩ (.func (.func 48) #[] #[ptr pl, ptr pd, ptr pn, ptr pp]))) := ⟨Be7.o.trans (g_.to_below (fun k hk e => by have := gd.o; omega) Be7.o.size)⟩
 have L8 := kk (g_.blk L7.o (zr L7.o D7.o (by decide)))
 have N8 := kk (g_.blk N7.o (zr N7.o D7.o (by decide)))
 have R8 := kk (g_.blk R7.o (zr R7.o D7.o (by decide)))
 have G8 := kk (g_.blk G7.o (zr G7.o D7.o (by decide)))
 have Q8 := kk (g_.blk Q7.o (zr Q7.o D7.o (by decide)))
 generalize w7.setCell ⟨pd, 0, none⟩ (.func (.func 48) #[] #[ptr pl, ptr pd, ptr pn, ptr pp]) = w8 at *
 clear g_ D7 L7 N7 R7 G7 Q7
 simp only [Act.put]
 refine WL.nil (hK4 _ _ (wp_seq_k fun K5 hK5 => ?_))
 have T8 : Keep (TS w.heap.size w8.drew (⟨pl, pd, pn, pp, gp, .slice (some ⟨b, off, none⟩) n cap, .slice na nl nc⟩ : TE) ns (P0 nl)) := ⟨⟨L8.o, D8.o, N8.o, (by have h := Q8.o; simp only [P0, List.length_replicate]; exact h), (by have h := G8.o; simp only [P0, List.map_replicate]; exact h), HNs.o.grown (Grown.below Be8.o.drew : Grown w w8.drew (fun k => False)) (fun _ _ e => e), (by simp only [P0, List.length_replicate]; exact hnse.o.symm), (fun P hP => by simp only [P0, List.mem_replicate] at hP; rw [hP.2]; exact ⟨rfl, .inl ⟨rfl, rfl⟩⟩), (fun i j P Q hP hQ _ k hk => by simp only [P0, List.getElem?_replicate] at hP; split at hP <;> simp at hP; subst hP; simp [Value.ownBlock] at hk), gg.o⟩⟩
 have X8 : Keep (Bx w8.drew (⟨pl, pd, pn, pp, gp, .slice (some ⟨b, off, none⟩) n cap, .slice na nl nc⟩ : TE) (P0 nl) r (qb 32 fun _ => 0)) := ⟨R8.o, fun e => by
  rcases e with e | ⟨P, hP, e⟩
  ·exact absurd (jX R8.o (show Blk w8 r 52 _ from by rw [show r = gp from e]; exact G8.o)) (by decide)
  ·simp only [P0, List.mem_replicate] at hP; rw [hP.2] at e; simp [Value.ownBlock] at e⟩
 have Bd : Keep (Below w.heap.size w w8.drew) := ⟨Be8.o.drew⟩
 clear L8 D8 N8 Q8 G8 R8
 
 have hS0 : Keep (∀ (wx : World) (Ps : List PX), TS w.heap.size wx (⟨pl, pd, pn, pp, gp, .slice (some ⟨b, off, none⟩) n cap, .slice na nl nc⟩ : TE) ns Ps → (fun wx => wx.cell? ⟨pd, 0, none⟩ = some (.func (.func 48) #[] #[ptr pl, ptr pd, ptr pn, ptr pp]) ∧ wx.cell? ⟨pl, 0, none⟩ = some (.slice (some ⟨b, off, none⟩) n cap) ∧ wx.cell? ⟨pp, 0, none⟩ = some (.slice (some ⟨gp, 0, none⟩) nl nl)) wx) := ⟨fun wx Ps ht => ⟨ht.bd.c 0 rfl, ht.bl.c 0 rfl, by have h := ht.bp.c 0 rfl; rw [ht.len, hnse.o] at h; exact h⟩⟩
 refine wp_region_held_drew (S := fun wx => wx.cell? ⟨pd, 0, none⟩ = some (.func (.func 48) #[] #[ptr pl, ptr pd, ptr pn, ptr pp]) ∧ wx.cell? ⟨pl, 0, none⟩ = some (.slice (some ⟨b, off, none⟩) n cap) ∧ wx.cell? ⟨pp, 0, none⟩ = some (.slice (some ⟨gp, 0, none⟩) nl nl)) (by kernel_rfl) (hS0.o _ _ T8.o) (fun hHeld => ?_)
 refine uS 0 ⟨some 12, .load 89 (.tmp 7), 89, _, _, none⟩ (.func (.func 48) #[] #[ptr pl, ptr pd, ptr pn, ptr pp]) rfl (yi (by rintro w ⟨hS1, hS2, hS3⟩; go_simp)) hHeld ?_
 refine uS 1 ⟨some 13, .load 22 (.tmp 2), 22, _, _, none⟩ (.slice (some ⟨b, off, none⟩) n cap) rfl (yi (by rintro w ⟨hS1, hS2, hS3⟩; go_simp)) hHeld ?_
 refine uS 4 ⟨some 16, .load 61 (.tmp 6), 61, _, _, none⟩ (.slice (some ⟨gp, 0, none⟩) nl nl) rfl (yi (by rintro w ⟨hS1, hS2, hS3⟩; go_simp)) hHeld ?_
 refine uS 2 ⟨some 14, .call { callee := .builtin .len, args := #[.tmp 13], argTypes := #[22] }, 3, _, _, none⟩ (.int .i64 (n : Int)) rfl (yi (by rintro w ⟨hS1, hS2, hS3⟩; go_simp)) hHeld ?_
 refine rd1 3 ⟨some 15, .call { callee := .value (.tmp 12), args := #[.const (Value.int IntKind.i64 0), .tmp 14], argTypes := #[3, 3] }, 32, _, _, none⟩ rfl fun K hK => ?_
 refine qX 48 (.tmp 12) _ _ #[ptr pl, ptr pd, ptr pn, ptr pp] rfl rfl zk #[.int .i64 ((0 : Nat) : Int), .int .i64 (n : Int), ptr pl, ptr pd, ptr pn, ptr pp] (by simp [Act.eval]) (fun vz wz => vz = .agg hh ∧ ∃ Ps', TS w.heap.size wz (⟨pl, pd, pn, pp, gp, .slice (some ⟨b, off, none⟩) n cap, .slice na nl nc⟩ : TE) ns Ps' ∧ UP n L 0 n ns (P0 nl) Ps' ∧ TN w8.drew wz (⟨pl, pd, pn, pp, gp, .slice (some ⟨b, off, none⟩) n cap, .slice na nl nc⟩ : TE) (P0 nl) Ps') ?_ ?_
 ·refine (DOWN (⟨pl, pd, pn, pp, gp, .slice (some ⟨b, off, none⟩) n cap, .slice na nl nc⟩ : TE) 0 n (P0 nl) w8.drew rfl rfl (by omega) (by omega) (by omega) T8.o (HC.o.below Bd.o) (fun P hP => by simp only [P0, List.mem_replicate] at hP; rw [hP.2]; simp; omega) Bd.o.size).mono ?_
  rintro e wz ⟨rfl, hz⟩
  refine ⟨_, rfl, ?_, hz⟩
  rw [show sub L 0 n = L from by simp [sub, ← hn.o], hhe.o]
 rintro vz wa ⟨rfl, Ps, k1, k2, k3⟩
 have Ta := kk k1
 have Ua := kk k2
 have Xa := kk (X8.o.next k3)
 have Ba : Keep (Below w.heap.size w wa) := ⟨Bd.o.trans (k3.bel T8.o Bd.o.size)⟩
 clear k1 k2 k3
 refine hK _ _ (hS0.o _ _ Ta.o) fun hH1 => kNx ?_
 clear hK
 refine rd1 5 ⟨none, .store 32 (.tmp 4) (.tmp 15), 0, _, _, none⟩ rfl fun K hK => ?_
 refine wp_store_row 32 (.tmp 4) (.tmp 15) rfl r hh rfl rfl 32 _ Xa.o.blk (by rw [hhe.o]; exact qd _) (by rw [hhe.o]; exact qh _ _ _) (by rw [hhe.o]; exact qi _ _) ?_
 have Tb := kk (Ta.o.box Xa.o hh)
 have Xb := kk (Xa.o.set hh)
 have Bb : Keep (Below w.heap.size w (wa.setRow r hh)) := ⟨qf Ba.o grr.o _⟩
 generalize wa.setRow r hh = wb at *
 refine hK _ _ (hS0.o _ _ Tb.o) fun hH2 => kNx ?_
 clear hK
 refine uS 6 ⟨some 5, .assign (.tmp 16), 61, _, _, none⟩ (.slice (some ⟨gp, 0, none⟩) nl nl) rfl (yi (by rintro w ⟨hS1, hS2, hS3⟩; go_simp)) hH2 ?_
 refine wpAnyH_done (by kernel_rfl) ?_ _
 refine hK5 _ _ (wp_ret ?_)
 try simp only [Exit.inBlock, Exit.then]
 refine bodyPost_ret (v := .tuple #[.agg hh, .slice (some ⟨gp, 0, none⟩) nl nl]) (qp Try.results25 _ _ r 32 _ (0, 0) _ _ rfl rfl Xb.o.blk Try.underlying32 rfl (by rw [hhe.o]; exact qd _)) rfl ⟨gp, Ps, by rw [hhe.o], ⟨Tb.o.bg, Tb.o.len, Tb.o.own, Tb.o.apt, Tb.o.ge, fun j n' P hj hP hl => ?_⟩, Bb.o⟩
 have hj' := (List.getElem?_eq_some_iff.1 hj).1
 have h := Ua.o j n' ⟨.slice none 0 0, []⟩ P hj (by simp only [P0, List.getElem?_replicate]; rw [if_pos (by rw [← hnse.o]; exact hj')]) hP
 rw [h, hn.o]
 unfold YZ
 rw [if_pos ⟨Nat.zero_le _, by rw [← hn.o]; exact hl⟩, show sub L 0 n = L from by simp [sub, ← hn.o]]
 rfl
end Go.Proofs.Ytdpcjfafbmhceaa
