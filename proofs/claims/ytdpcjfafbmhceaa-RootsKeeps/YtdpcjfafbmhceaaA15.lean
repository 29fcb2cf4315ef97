import Derived.Test.YtdpcjfafbmhceaaA14
import Derived.Test.YtdpcjfafbmhceaaA10
set_option maxRecDepth 8000
set_option maxHeartbeats 1000000
namespace Go.Proofs.Ytdpcjfafbmhceaa
open Go.RowKit
set_option linter.unusedSimpArgs false
set_option linter.unusedVariables false
theorem VC (b off n cap at_ m : Nat) (L : List CV) (ns : List Nat) (kind : Int) (key : ByteArray) (hh : Array Value) (w : World) (hkm : zi kind = true) (hwi : Keep (qt L = 0)) (hn : Keep (L.length = n)) (hn1 : 1 ≤ n) (HN : Keep (n ≤ 1099511627776)) (HC : Keep (CsAt w.heap.size w b off L)) (HCv : Keep (CsV w.heap.size w (.slice (some ⟨b, off, none⟩) n cap) L)) (HF : Keep (Fit L)) (hhe : Keep (hh = (qb 32 (hof (qx n L)))))
  (HA : Keep (at_ ≤ n)) (HAt : Keep (∀ (i : Nat) (c : CV), L[i]? = some c → (stI c.k c.s kind key < 0 ↔ i < at_))) (hns : Keep (fnd n at_ (fndB L at_ kind key) = ns)) (hm : Keep (ns.length = m)) (hm1 : 1 ≤ m) (HM : Keep (m ≤ 2)) (HNn : Keep (∀ k ∈ ns, k < n)) (HSz : Keep (∀ c ∈ L, c.l.length ≤ 140737488355328)) : Calls Try.prog 8 #[.slice (some ⟨b, off, none⟩) n cap, .int .i64 kind, .string key] w (FdQ L kind at_ key w) := by
 have hn0 : ((n : Int) == 0) = false := by simp; omega
 have hn0' : ¬ n = 0 := by omega
 go_enter Try.func8, Try.ntmps8
 refine wp_seq_k fun K1 hK1 => rgn (zU 25 zb fun r w1 hr0 R1 b_ => ?_)
 have B1 : Keep (Below w.heap.size w w1) := ⟨b_⟩
 have gr := lh hr0
 clear b_
 refine Vv (.int .i64 0) (h:=WL.nil (hK1 _ _ (wp_seq_k fun K2 hK2 => wp_seq_k fun K3 hK3 => rgn (Vv (.int .i64 kind) (h:=ClS (vs := #[.int .i64 kind]) (zL kind _) ?_)))))
 rintro e w1_z ⟨rfl, hw_⟩
 refine ⟨_, rfl, ?_⟩
 have hw_ := hw_.symm
 subst hw_
 rw [hkm]
 refine Vf (h:=WL.nil (hK3 _ _ (Cf (h:=wp_skip (hK2 _ _ (wp_seq_k fun K4 hK4 => wp_seq_k fun K5 hK5 => rgn (Vv (.slice (some ⟨b, off, none⟩) n cap) (h:=ClS (vs := #[.slice (some ⟨b, off, none⟩) n cap]) (jx w.heap.size _ L w1 (HCv.o.below B1.o) B1.o.size (by rw [hn.o]; have := HN.o; omega)) ?_))))))))
 rintro e w2 ⟨rfl, k1⟩
 refine ⟨_, rfl, ?_⟩
 rw [hwi.o]
 have R2 := kbx R1 k1
 have B2 := tb B1 k1
 clear k1
 refine Vv (.int .i64 0) (h:=WL.nil (hK5 _ _ (wp_seq_k fun K6 hK6 => rgn (Vv (.int .i64 0) (h:=Vf (h:=WL.nil (hK6 _ _ (Cf (h:=wp_skip (hK4 _ _ (wp_seq_k fun K7 hK7 => rgn (Vv (.slice (some ⟨b, off, none⟩) n cap) (h:=Vv (.int .i64 (n : Int)) (h:=?_))))))))))))))
 refine WL.bld (by kernel_rfl) 25 #[(0, .tmp 26)] rfl [(0, .int .i64 (n : Int))] (by simp [Act.eval]) #[.int .i64 (n : Int), .slice none 0 0] (XN (n : Int)) ?_
 simp only [Act.put, pqA, pqB, pqC]
 refine zU 25 zb fun d w3 hd0 D3 b_ => ?_
 have R3 := kbx R2 b_
 have B3 := tb B2 b_
 have gd : Keep (w.heap.size ≤ d) := ⟨by rw [hd0.o]; exact B2.o.size⟩
 clear b_
 have hrd : Keep (r ≠ d) := ⟨by have := R2.o.lt; have := hd0.o; omega⟩
 refine WL.storeR (by kernel_rfl) 25 (.tmp 9) (.tmp 27) rfl d #[.int .i64 (n : Int), .slice none 0 0] rfl rfl 25 #[.int .i64 0, .slice none 0 0] D3.o (by rfl) rfl (by simp [Value.oneCell']) ?_
 have D4 := kk (D3.o.setRow #[.int .i64 (n : Int), .slice none 0 0])
 have B4 : Keep (Below w.heap.size w (w3.setRow d #[.int .i64 (n : Int), .slice none 0 0])) := ⟨qf B3.o gd.o _⟩
 have R4 := kk (R3.o.setRow_ne hrd.o #[.int .i64 (n : Int), .slice none 0 0])
 generalize w3.setRow d #[.int .i64 (n : Int), .slice none 0 0] = w4 at *
 simp only [Act.put]
 refine WL.nil (hK7 _ _ (wp_seq_k fun K8 hK8 => wp_seq_k fun K9 hK9 => rgn (Vv (.slice (some ⟨b, off, none⟩) n cap) (h:=Vv (.int .i64 (n : Int)) (h:=Vf (h:=WL.nil (hK9 _ _ (Cf (h:=wp_skip (hK8 _ _ (wp_seq_k fun K10 hK10 => rgn (Vv (.slice (some ⟨b, off, none⟩) n cap) (h:=Vv (.int .i64 kind) (h:=Vv (.string key) (h:=?_)))))))))))))))
 refine WL.callF (by kernel_rfl) 27 _ _ rfl UA #[.slice (some ⟨b, off, none⟩) n cap, .int .i64 kind, .string key] (by simp [Act.eval]) ?_
 refine (GR (some ⟨b, off, none⟩) n cap at_ L kind key w4 hn.o hn1 HN.o (fun _ => ⟨b, off, rfl, (HC.o.below B4.o).mono B4.o.size⟩) HA.o HAt.o).mono ?_
 rintro e w5 ⟨vn, rfl, k0, k1⟩
 refine ⟨_, rfl, ?_⟩
 rw [hns.o] at k0
 have D5 := kbx D4 k1
 have R5 := kbx R4 k1
 have B5 := tb B4 k1
 have NS5 := kk k0
 obtain ⟨gn, cn, hvn⟩ : ∃ g c, vn = .slice (some ⟨g, 0, none⟩) m c := by
  rcases k0 with ⟨a, c, _, h⟩ | ⟨g, c, h, _⟩
  ·rw [h] at hm; have := hm.o; simp at this; omega
  ·exact ⟨g, c, by rw [h, hm.o]⟩
 subst hvn
 clear k0 k1
 simp only [Act.put, pqA, pqB, pqC]
 refine Vv (.slice (some ⟨gn, 0, none⟩) m cn) (h:=WL.nil (hK10 _ _ (wp_seq_k fun K11 hK11 => rgn (Vv (.slice (some ⟨b, off, none⟩) n cap) (h:=Vv (.slice (some ⟨gn, 0, none⟩) m cn) (h:=ClS (vs := #[.slice (some ⟨b, off, none⟩) n cap, .slice (some ⟨gn, 0, none⟩) m cn]) (Jq b off n cap L ns _ w5 hn.o hn1 HN.o (by rw [hm.o]; have := HM.o; omega) HF.o ((HC.o.below B5.o).mono B5.o.size) NS5.o) ?_))))))
 rintro e w6 ⟨gp, Ps, rfl, k0, k1⟩
 refine ⟨_, rfl, ?_⟩
 rw [hm.o, ← hhe.o]
 have T6 := kk k0
 have D6 := kbx D5 k1
 have R6 := kbx R5 k1
 have NS6 := kk (NS5.o.below k1)
 have hgp5 : Keep (w5.heap.size ≤ gp) := ⟨k0.ge⟩
 have B6 := tb B5 k1
 clear k0 k1 NS5
 refine Vv (.tuple #[.agg hh, .slice (some ⟨gp, 0, none⟩) m m]) (h:=Vv (.agg hh) (h:=Vv (.slice (some ⟨gp, 0, none⟩) m m) (h:=zU 32 qm fun y w7 hy0 Y7 b_ => ?_)))
 have R7 := kbx R6 b_
 have D7 := kbx D6 b_
 have B7 := tb B6 b_
 have gy : Keep (w.heap.size ≤ y) := ⟨by rw [hy0.o]; exact B6.o.size⟩
 have bb_ := b_
 clear b_
 have n7 : Keep (Below w6.heap.size w6 w7) := ⟨bb_⟩
 clear bb_
 refine WL.storeR (by kernel_rfl) 32 (.tmp 11) (.tmp 40) rfl y hh rfl rfl 32 (qb 32 fun _ => 0) Y7.o (by rw [hhe.o]; exact qd _) (by rw [hhe.o]; exact qh _ _ _) (by rw [hhe.o]; exact qi _ _) ?_
 have b8 : Keep (Below w6.heap.size w6 (w7.setRow y hh)) := ⟨qf n7.o (by rw [hy0.o]; exact Nat.le_refl _) _⟩
 have B8 : Keep (Below w.heap.size w (w7.setRow y hh)) := ⟨qf B7.o gy.o _⟩
 generalize w7.setRow y hh = w8 at *
 clear Y7 n7 R7 D7
 have R8 := kbx R6 b8.o
 have D8 := kbx D6 b8.o
 have NS8 := kk (NS6.o.below b8.o)
 have T8 : Keep (Blk w8 gp 52 (Ps.map (·.v)).toArray ∧ ∀ P ∈ Ps, w8.ownsRow w5.heap.size 32 32 P.v P.ps.length (qF P.ps)) := ⟨T6.o.bg.below b8.o T6.o.bg.lt, fun P hP => qj (T6.o.own P hP) b8.o⟩
 have hFI0 := Ue (B := w5.heap.size) (L := L) (ns := ns) D8.o
 have APT : Keep (∀ (i j : Nat) (P Q : PX), Ps[i]? = some P → Ps[j]? = some Q → i ≠ j → ∀ k, P.v.ownBlock = some k → Q.v.ownBlock ≠ some k) := ⟨T6.o.apt⟩
 have HPl : Keep (Ps.length = m) := ⟨by have h1 := T6.o.len; have h2 := hm.o; omega⟩
 clear R6 D6 NS6 b8
 simp only [Act.put]
 refine Vv (.slice (some ⟨gp, 0, none⟩) m m) (h:=WL.nil (hK11 _ _ (wp_seq_k fun K12 hK12 => wp_seq_k fun K13 hK13 => rgn (Vv (.slice (some ⟨gn, 0, none⟩) m cn) (h:=Vv (.int .i64 (m : Int)) (h:=Vv (.int .i64 0) (h:=WL.nil (hK13 _ _ (wp_block (?_))))))))))
 refine wp_loop (fun ac wr => ∃ (t : Nat) (vl : Value), ac = apF (fun f => { tmps := #[.slice (some ⟨b, off, none⟩) n cap, .int .i64 kind, .string key, undef, undef, undef, .pointer (some ⟨r, 0, none⟩), .int .i64 0, .int .i64 0, .pointer (some ⟨d, 0, none⟩), .slice (some ⟨gn, 0, none⟩) m cn, .pointer (some ⟨y, 0, none⟩), .slice (some ⟨gp, 0, none⟩) m m, f 13, f 14, .int .i64 kind, .bool true, .bool false, undef, .slice (some ⟨b, off, none⟩) n cap, .int .i64 0, .int .i64 0, .bool false, undef, undef, .slice (some ⟨b, off, none⟩) n cap, .int .i64 (n : Int), .agg #[.int .i64 (n : Int), .slice none 0 0], .slice (some ⟨b, off, none⟩) n cap, .int .i64 (n : Int), .bool false, undef, .slice (some ⟨b, off, none⟩) n cap, .int .i64 kind, .string key, .slice (some ⟨gn, 0, none⟩) m cn, .tuple #[.agg hh, .slice (some ⟨gp, 0, none⟩) m m], .slice (some ⟨b, off, none⟩) n cap, .slice (some ⟨gn, 0, none⟩) m cn, .tuple #[.agg hh, .slice (some ⟨gp, 0, none⟩) m m], .agg hh, .slice (some ⟨gp, 0, none⟩) m m, .slice (some ⟨gn, 0, none⟩) m cn, .int .i64 (m : Int), .int .i64 (t : Int), f 45, f 46, f 47, f 48, f 49, f 50, f 51, f 52, f 53, f 54, f 55, f 56, f 57, f 58, f 59, f 60, f 61, f 62, f 63, f 64, f 65, undef], defers := [] }) ac ∧ t ≤ m ∧ ∃ ls, FI w5.heap.size w8 wr d n vl L ns t ls ∧ FX w8.heap.size Ps ls) (fun a _ => m - (intOf (a.tmps.getD 44 undef)).toNat) ⟨0, .slice none 0 0, rfl, by omega, [], hFI0, GD _ _⟩ ?_
 rintro ac wr ⟨t, vl, hac, htm0, hrel⟩
 obtain ⟨f, rfl⟩ := unF hac
 obtain ⟨ls, hfi, hfx⟩ := hrel
 have JF := kk hfi
 have JX := kk hfx
 clear hfi hfx
 by_cases htm : t < m
 ·have htm' : (t : Int) < (m : Int) := by omega
  have hw9 : IntKind.i64.wrap ((t : Int) + 1) = ((t + 1 : Nat) : Int) := by rw [IntKind.wrap_i64]; have := HM.o; omega
  obtain ⟨k, Hk⟩ : ∃ z, Keep (ns[t]? = some z) := ⟨ns[t]'(by rw [hm.o]; exact htm), ⟨List.getElem?_eq_getElem _⟩⟩
  have hkn : k < n := HNn.o k (List.mem_of_getElem? Hk.o)
  have hkn' : (k : Int) < (n : Int) := by omega
  obtain ⟨c, Hc⟩ : ∃ z, Keep (L[k]? = some z) := ⟨L[k]'(by rw [hn.o]; exact hkn), ⟨List.getElem?_eq_getElem _⟩⟩
  obtain ⟨P_, HP_⟩ : ∃ z, Keep (Ps[t]? = some z) := ⟨Ps[t]'(by have := T6.o.len; have := hm.o; omega), ⟨List.getElem?_eq_getElem _⟩⟩
  obtain ⟨pa, pc, hpv⟩ := qE (T8.o.2 P_ (List.mem_of_getElem? HP_.o))
  have HPv := kk hpv
  clear hpv
  have hnd : Keep (∀ (g T : Nat), Typ w8 g T → T ≠ 25 → g ≠ d) := ⟨fun g T h hT e => hT (by subst e; exact h.one D8.o.typ)⟩
  have cN : wr.cell? ⟨gn, t, none⟩ = some (.int .i64 (k : Int)) := by
   rcases NS8.o with ⟨a, c', h, h2⟩ | ⟨g, c', h, h2, h3⟩
   ·rw [h2] at hm; have := hm.o; simp at this; omega
   ·injection h with e1 e2 e3
    injection e1 with e1
    injection e1 with e1
    subst e1
    exact JF.o.gr.cell (h3 t k Hk.o) (hnd.o _ _ h2 (by decide))
  refine wp_seq_k fun K14 hK14 => rgn (Vt (h:=WL.nil (hK14 _ _ (wp_seq_k fun K15 hK15 => Ct (h:=wp_skip (hK15 _ _ (wp_seq_k fun K16 hK16 => wp_block (wp_seq_k fun K17 hK17 => rgn (Vv (.int .i64 (t : Int)) (h:=Vv (.pointer (some ⟨gn, t, none⟩)) (h:=?_)))))))))))
  refine WL.val (by kernel_rfl) (.int .i64 (k : Int)) (by go_simp) ?_
  clear cN
  simp only [Act.put, pqA, pqB, pqC]
  refine Vv (.int .i64 (t : Int)) (h:=Vv (.int .i64 (k : Int)) (h:=WL.nil (hK17 _ _ (?_))))
  have hS0 : Keep (∀ wx : World, Grown wr wx (fun k => k = d ∨ w8.heap.size ≤ k) → (fun wx => wx.rangeAt b (off + k * 3) (cvA c).toList ∧ wx.cell? ⟨gp, t, none⟩ = some (.slice pa P_.ps.length pc)) wx) := ⟨fun wx hg => ⟨fun j u hu => hg.cell (JF.o.gr.cell ((HC.o.below B8.o).at_ k c Hc.o j u hu) (fun e => by have := HC.o.lt; have := gd.o; omega)) (fun e => by have := HC.o.lt; have := B8.o.size; have := gd.o; omega), hg.cell (JF.o.gr.cell (T8.o.1.c t (by simp [HP_.o, HPv.o])) (hnd.o _ _ T8.o.1.typ (by decide))) (fun e => by
   rcases e with e | e
   ·exact hnd.o _ _ T8.o.1.typ (by decide) e
   ·have := T8.o.1.lt; omega)⟩⟩
  have Hrow : Keep (RowAt wr.drew c.v c.l) := ⟨by
   have h := (HC.o.below B8.o).row c (List.mem_of_getElem? Hc.o)
   by_cases h0 : c.l = []
   ·have h1 := h.1
    rw [h0] at h1 ⊢
    exact vD h1
   ·exact (h.1.grown JF.o.gr.drew fun k hk _ e => by have := h.2 h0 k hk; have := gd.o; omega)⟩
  have hG0 : Keep (Grown wr wr.drew (fun k => k ≠ d ∧ w8.heap.size ≤ k)) := ⟨(Grown.refl _ _).drew⟩
  refine wp_region_held_drew (S := fun wx => wx.rangeAt b (off + k * 3) (cvA c).toList ∧ wx.cell? ⟨gp, t, none⟩ = some (.slice pa P_.ps.length pc)) (by kernel_rfl) (hS0.o _ (hG0.o.mono fun _ _ e => .inr e.2)) (fun hHeld => ?_)
  refine uJ 0 ⟨some 49, .fieldAddr 25 (.tmp 9) 1, 0, _, _, none⟩ (.pointer (some ⟨d, 1, none⟩)) rfl hHeld ?_
  refine uJ 2 ⟨some 51, .move (.tmp 14), 3, _, _, none⟩ (.int .i64 (k : Int)) rfl hHeld ?_
  refine uJ 3 ⟨some 52, .move (.tmp 0), 22, _, _, none⟩ (.slice (some ⟨b, off, none⟩) n cap) rfl hHeld ?_
  refine uJ 4 ⟨some 53, .move (.tmp 14), 3, _, _, none⟩ (.int .i64 (k : Int)) rfl hHeld ?_
  refine uJ 8 ⟨some 57, .move (.tmp 12), 61, _, _, none⟩ (.slice (some ⟨gp, 0, none⟩) m m) rfl hHeld ?_
  refine uJ 9 ⟨some 58, .move (.tmp 13), 3, _, _, none⟩ (.int .i64 (t : Int)) rfl hHeld ?_
  refine uJ 5 ⟨some 54, .indexAddr 22 (.tmp 52) (.tmp 53), 0, _, _, none⟩ (.pointer (some ⟨b, off + k * 3, none⟩)) rfl hHeld ?_
  refine uJ 10 ⟨some 59, .indexAddr 61 (.tmp 57) (.tmp 58), 0, _, _, none⟩ (.pointer (some ⟨gp, t, none⟩)) rfl hHeld ?_
  refine uS 6 ⟨some 55, .load 44 (.tmp 54), 44, _, _, none⟩ (.agg (cvA c)) rfl (qv (by rfl) (.tmp 54) 44 rfl b (off + k * 3) rfl (cvA c) _ Try.underlying44 rfl (qw _ _ _) fun w hS => hS.1) hHeld ?_
  refine uJ 11 ⟨some 60, .load 52 (.tmp 59), 52, _, _, none⟩ (.slice pa P_.ps.length pc) rfl hHeld ?_
  refine wpAnyH_ready (rs := [1, 7]) (by kernel_rfl) (by simp) ?_
  refine AllReadyH.cons (o := ⟨some 50, .load 23 (.tmp 49), 23, _, _, none⟩) rfl (fun K hK => ?_) (AllReadyH.cons (o := ⟨some 56, .call { callee := .value (.func 28), args := #[.tmp 55], argTypes := #[44] }, 44, _, _, none⟩) rfl (fun K hK => ?_) AllReadyH.nil)
  all_goals rw [if_pos (by rfl)]
  ·have c_ : wr.drew.cell? ⟨d, 1, none⟩ = some vl := hG0.o.cell (JF.o.bd.c 1 rfl) (fun e => e.1 rfl)
   refine zq vl (by go_simp) ?_
   clear c_
   refine hK _ _ (hS0.o _ (hG0.o.mono fun _ _ e => .inr e.2)) fun hHl => kNx ?_
   clear hK
   refine rd1 7 ⟨some 56, .call { callee := .value (.func 28), args := #[.tmp 55], argTypes := #[44] }, 44, _, _, none⟩ rfl fun K hK => ?_
   refine qz 28 _ _ rfl Qv #[.agg (cvA c)] (by simp [Act.eval]) (fun vz wz => ∃ v, vz = .agg #[.int .i64 c.k, .string c.s, v] ∧ Own wz v c.l ∧ (∀ k, v.ownBlock = some k → wr.heap.size ≤ k) ∧ Below wr.drew.heap.size wr.drew wz) ?_ ?_
   ·refine (Ke c wr.drew Hrow.o (HSz.o c (List.mem_of_getElem? Hc.o))).mono ?_
    rintro e wz ⟨v, rfl, k1, k2, k3⟩
    exact ⟨_, rfl, v, rfl, k1, k2, k3⟩
   rintro vz wa ⟨vo, rfl, k1, k2, k3⟩
   have Oa := kk k1
   have Nv := kk k2
   have ba := kk k3
   have hGa : Keep (Grown wr wa (fun k => k ≠ d ∧ w8.heap.size ≤ k)) := ⟨hG0.o.trans (Grown.below k3)⟩
   obtain ⟨xa, xn, xc, hvo⟩ := k1.sl
   subst hvo
   clear k1 k2 k3
   refine hK _ _ (hS0.o _ (hGa.o.mono fun _ _ e => .inr e.2)) fun hHa => kNx ?_
   clear hK
   refine rd1 12 ⟨some 61, .build 54 #[(0, .tmp 51), (1, .tmp 56), (2, .tmp 60)], 54, _, _, none⟩ rfl fun K hK => ?_
   refine jZ 54 #[(0, .tmp 51), (1, .tmp 56), (2, .tmp 60)] rfl #[.int .i64 (k : Int), .int .i64 c.k, .string c.s, .slice xa xn xc, .slice pa P_.ps.length pc] (by simpa [Act.eval] using XO (k : Int) c.k c.s xa xn xc pa P_.ps.length pc) ?_
   refine hK _ _ (hS0.o _ (hGa.o.mono fun _ _ e => .inr e.2)) fun hHb => kNx ?_
   clear hK
   refine rd1 13 ⟨some 62, .buildSlice 23 1 #[(0, .tmp 61)], 23, _, _, none⟩ rfl fun K hK => ?_
   refine zI 23 1 _ rfl #[(0, .agg #[.int .i64 (k : Int), .int .i64 c.k, .string c.s, .slice xa xn xc, .slice pa P_.ps.length pc])] (by simp [Act.eval]) _ _ (Um (k : Int) c.k c.s xa xn xc pa P_.ps.length pc wa) ?_
   have bb := qg wa (.cells #[.int .i64 (k : Int), .int .i64 c.k, .string c.s, .slice xa xn xc, .slice pa P_.ps.length pc] 54)
   have Qb := kk (Blk.new wa 54 #[.int .i64 (k : Int), .int .i64 c.k, .string c.s, .slice xa xn xc, .slice pa P_.ps.length pc])
   generalize wa.alloc (.cells #[.int .i64 (k : Int), .int .i64 c.k, .string c.s, .slice xa xn xc, .slice pa P_.ps.length pc] 54) = wb at *
   obtain ⟨g, hg⟩ := nm wa
   rw [← hg.o] at Qb ⊢
   have Ob := kk (qj Oa.o bb)
   have bb2 : Keep (Below wr.heap.size wr wb) := ⟨(Below.refl wr.heap.size wr).drew.trans (ba.o.trans (bb.mono ba.o.size))⟩
   have hGb : Keep (Grown wr wb (fun k => k ≠ d ∧ w8.heap.size ≤ k)) := ⟨hGa.o.trans (Grown.below bb)⟩
   clear bb hg
   refine hK _ _ (hS0.o _ (hGb.o.mono fun _ _ e => .inr e.2)) fun hHc => kNx ?_
   clear hK
   refine rd1 14 ⟨some 63, .call { callee := .builtin .append, args := #[.tmp 50, .tmp 62], argTypes := #[23, 23] }, 23, _, _, none⟩ rfl fun K hK => ?_
   refine zP (.tmp 50) (.tmp 62) rfl w8.heap.size vl t _ (⟨(k : Int), ⟨c.k, c.s, .slice xa xn xc, c.l⟩, .slice pa P_.ps.length pc, P_.ps⟩ : LV) g rfl rfl (qj JF.o.own bb2.o) (ql Qb.o) (by simp [lvA, Value.oneCell']) (by have := HM.o; omega) (Nat.le_trans JF.o.gr.size (Nat.le_trans (Nat.le_refl _) bb2.o.size)) ?_
   intro v9 wc k1 k2 k3
   have Oc := kk k1
   have hvb : Keep (∀ k, vl.ownBlock = some k → w8.heap.size ≤ k ∧ Typ wb k 54) := ⟨fun k hk => ⟨by
    rcases JF.o.own.2 with ⟨h1, _⟩ | ⟨g9, c9, cur9, h1, h2, _⟩
    ·rw [h1] at hk; cases hk
    ·rw [h1] at hk; injection hk with hk; subst hk; exact h2, qn (qj JF.o.own bb2.o) hk⟩⟩
   have Gc : Keep (Grown wb wc (fun k => vl.ownBlock = some k)) := ⟨k2⟩
   have hDb : Keep (Blk wb d 25 #[.int .i64 (n : Int), vl]) := ⟨JF.o.bd.below bb2.o JF.o.bd.lt⟩
   have hGc : Keep (Grown wr wc (fun k => k ≠ d ∧ w8.heap.size ≤ k)) := ⟨hGb.o.next k2 fun i _ e => ⟨fun ed => by subst ed; exact absurd ((hvb.o _ e).2.one hDb.o.typ) (by decide), (hvb.o i e).1⟩⟩
   have hDc : Keep (Blk wc d 25 #[.int .i64 (n : Int), vl]) := ⟨k2.blk hDb.o fun e => absurd ((hvb.o _ e).2.one hDb.o.typ) (by decide)⟩
   have f_o := hDc.o.frozen 1
   have c_o := hDc.o.c 1 (by rfl : (#[.int .i64 (n : Int), vl] : Array Value)[1]? = some vl)
   obtain ⟨za, zc, hv9⟩ := qE k1
   subst hv9
   clear k1 k2 k3
   refine hK _ _ (hS0.o _ (hGc.o.mono fun _ _ e => .inr e.2)) fun hHd => kNx ?_
   clear hK
   refine uJ 15 ⟨some 64, .fieldAddr 25 (.tmp 9) 1, 0, _, _, none⟩ (.pointer (some ⟨d, 1, none⟩)) rfl hHd ?_
   refine rd1 16 ⟨none, .store 23 (.tmp 64) (.tmp 63), 0, _, _, none⟩ rfl fun K hK => ?_
   refine zm (wc.setCell ⟨d, 1, none⟩ (.slice za (t + 1) zc)) (by go_simp) ?_
   clear f_o c_o
   have Dd : Keep (Blk (wc.setCell ⟨d, 1, none⟩ (.slice za (t + 1) zc)) d 25 #[.int .i64 (n : Int), .slice za (t + 1) zc]) := ⟨by have h := hDc.o.set 1 (.slice za (t + 1) zc); exact h⟩
   have g_ : Grown wc (wc.setCell ⟨d, 1, none⟩ (.slice za (t + 1) zc)) (fun k => k = d) := Grown.setCell wc d 1 _ fun _ => rfl
   have FIe : Keep (FI w5.heap.size w8 (wc.setCell ⟨d, 1, none⟩ (.slice za (t + 1) zc)) d n (.slice za (t + 1) zc) L ns (t + 1) (ls ++ [(⟨(k : Int), ⟨c.k, c.s, .slice xa xn xc, c.l⟩, .slice pa P_.ps.length pc, P_.ps⟩ : LV)])) := ⟨by
    have hall : ∀ {B T s n' : Nat} {v : Value} {xs : List Value}, wb.ownsRow B T s v n' xs → T ≠ 54 → T ≠ 25 → (wc.setCell ⟨d, 1, none⟩ (.slice za (t + 1) zc)).ownsRow B T s v n' xs := fun h h1 h2 =>
     qo (qo h Gc.o fun k hk e => h1 ((qn h hk).one (hvb.o k e).2)) g_ fun k hk e => by
      subst e
      exact h2 ((qn h hk).one hDb.o.typ)
    have hnx : ∀ x ∈ ls, Own (wc.setCell ⟨d, 1, none⟩ (.slice za (t + 1) zc)) x.c.v x.c.l ∧ (wc.setCell ⟨d, 1, none⟩ (.slice za (t + 1) zc)).ownsRow w5.heap.size 32 32 x.pv x.ps.length (qF x.ps) := fun x hx =>
     ⟨hall (qj (JF.o.rows x hx).1 bb2.o) (by decide) (by decide), hall (qj (JF.o.rows x hx).2 bb2.o) (by decide) (by decide)⟩
    refine ⟨(JF.o.gr.next hGc.o fun i hi e => by have := e.2; omega).trans g_, Dd.o, ?_, by rw [List.length_append, JF.o.len]; rfl, fun x hx => ?_, fun j k' x hj hx => ?_⟩
    ·rw [List.flatMap_append, show List.flatMap (fun x => (lvA x).toList) [(⟨(k : Int), ⟨c.k, c.s, .slice xa xn xc, c.l⟩, .slice pa P_.ps.length pc, P_.ps⟩ : LV)] = (lvA (⟨(k : Int), ⟨c.k, c.s, .slice xa xn xc, c.l⟩, .slice pa P_.ps.length pc, P_.ps⟩ : LV)).toList from by simp]
     exact qo Oc.o g_ fun k hk e => by
      subst e
      exact absurd ((qn Oc.o hk).one hDc.o.typ) (by decide)
    ·rcases List.mem_append.mp hx with hx | hx
     ·exact hnx x hx
     ·rw [List.mem_singleton.mp hx]
      refine ⟨hall Ob.o (by decide) (by decide), hall (qj (qo ?_ JF.o.gr fun k hk e => ?_) bb2.o) (by decide) (by decide)⟩
      ·have h := T8.o.2 P_ (List.mem_of_getElem? HP_.o)
       rw [HPv.o] at h
       exact h
      ·have h := T8.o.2 P_ (List.mem_of_getElem? HP_.o)
       rw [HPv.o] at h
       subst e
       exact absurd ((qn h hk).one D8.o.typ) (by decide)
    ·by_cases hjt : j < t
     ·exact JF.o.is j k' x hj (by rw [List.getElem?_append_left (by rw [JF.o.len]; exact hjt)] at hx; exact hx)
     ·rw [List.getElem?_append_right (by rw [JF.o.len]; omega), JF.o.len] at hx
      obtain rfl : j = t := by
       have := (List.getElem?_eq_some_iff.mp hx).1
       simp at this; omega
      rw [Nat.sub_self] at hx
      simp at hx
      subst hx
      obtain rfl : k = k' := Option.some.inj (Hk.o.symm.trans hj)
      exact ⟨rfl, ⟨c, Hc.o, rfl, rfl, rfl⟩, T6.o.is j k P_ Hk.o HP_.o (by rw [hn.o]; exact hkn)⟩⟩
   have FXe : Keep (FX w8.heap.size Ps (ls ++ [(⟨(k : Int), ⟨c.k, c.s, .slice xa xn xc, c.l⟩, .slice pa P_.ps.length pc, P_.ps⟩ : LV)])) := ⟨JX.o.add (⟨(k : Int), ⟨c.k, c.s, .slice xa xn xc, c.l⟩, .slice pa P_.ps.length pc, P_.ps⟩ : LV) P_ (by rw [JF.o.len]; exact HP_.o) HPv.o.symm fun kk hkk => ⟨Nat.le_trans JF.o.gr.size (Nv.o kk hkk), fun y hy e => by have h1 := (zV (JF.o.rows y hy).1 kk e).2; have h2 := Nv.o kk hkk; omega⟩⟩
   have hGe : Keep (Grown wr (wc.setCell ⟨d, 1, none⟩ (.slice za (t + 1) zc)) (fun k => k = d ∨ w8.heap.size ≤ k)) := ⟨(hGc.o.mono fun _ _ e => .inr e.2).trans (g_.mono fun _ _ e => .inl e)⟩
   generalize wc.setCell ⟨d, 1, none⟩ (.slice za (t + 1) zc) = wd at *
   clear g_
   refine hK _ _ (hS0.o _ hGe.o) fun hHe => kNx ?_
   clear hK
   refine wpAnyH_done (by kernel_rfl) ?_ _
   refine hK16 _ _ (rgn (Vv (.int .i64 ((t + 1 : Nat) : Int)) (h:=Vv (.int .i64 ((t + 1 : Nat) : Int)) (h:=?_))))
   refine WL.nil ?_
   refine ⟨⟨t + 1, .slice za (t + 1) zc, rfl, by omega, _, FIe.o, FXe.o⟩, ?_⟩
   ·simp only [intOf]; show m - (((t + 1 : Nat) : Int)).toNat < m - ((t : Int)).toNat; omega
  ·refine qz 28 _ _ rfl Qv #[.agg (cvA c)] (by simp [Act.eval]) (fun vz wz => ∃ v, vz = .agg #[.int .i64 c.k, .string c.s, v] ∧ Own wz v c.l ∧ (∀ k, v.ownBlock = some k → wr.heap.size ≤ k) ∧ Below wr.drew.heap.size wr.drew wz) ?_ ?_
   ·refine (Ke c wr.drew Hrow.o (HSz.o c (List.mem_of_getElem? Hc.o))).mono ?_
    rintro e wz ⟨v, rfl, k1, k2, k3⟩
    exact ⟨_, rfl, v, rfl, k1, k2, k3⟩
   rintro vz wa ⟨vo, rfl, k1, k2, k3⟩
   have Oa := kk k1
   have Nv := kk k2
   have ba := kk k3
   have hGa : Keep (Grown wr wa (fun k => k ≠ d ∧ w8.heap.size ≤ k)) := ⟨hG0.o.trans (Grown.below k3)⟩
   obtain ⟨xa, xn, xc, hvo⟩ := k1.sl
   subst hvo
   clear k1 k2 k3
   refine hK _ _ (hS0.o _ (hGa.o.mono fun _ _ e => .inr e.2)) fun hHa => kNx ?_
   clear hK
   refine wpAnyH_ready (rs := [1, 12]) (by kernel_rfl) (by simp) ?_
   refine AllReadyH.cons (o := ⟨some 50, .load 23 (.tmp 49), 23, _, _, none⟩) rfl (fun K hK => ?_) (AllReadyH.cons (o := ⟨some 61, .build 54 #[(0, .tmp 51), (1, .tmp 56), (2, .tmp 60)], 54, _, _, none⟩) rfl (fun K hK => ?_) AllReadyH.nil)
   all_goals rw [if_pos (by rfl)]
   ·have c_ : wa.cell? ⟨d, 1, none⟩ = some vl := hGa.o.cell (JF.o.bd.c 1 rfl) (fun e => e.1 rfl)
    refine zq vl (by go_simp) ?_
    clear c_
    refine hK _ _ (hS0.o _ (hGa.o.mono fun _ _ e => .inr e.2)) fun hHl => kNx ?_
    clear hK
    refine rd1 12 ⟨some 61, .build 54 #[(0, .tmp 51), (1, .tmp 56), (2, .tmp 60)], 54, _, _, none⟩ rfl fun K hK => ?_
    refine jZ 54 #[(0, .tmp 51), (1, .tmp 56), (2, .tmp 60)] rfl #[.int .i64 (k : Int), .int .i64 c.k, .string c.s, .slice xa xn xc, .slice pa P_.ps.length pc] (by simpa [Act.eval] using XO (k : Int) c.k c.s xa xn xc pa P_.ps.length pc) ?_
    refine hK _ _ (hS0.o _ (hGa.o.mono fun _ _ e => .inr e.2)) fun hHb => kNx ?_
    clear hK
    refine rd1 13 ⟨some 62, .buildSlice 23 1 #[(0, .tmp 61)], 23, _, _, none⟩ rfl fun K hK => ?_
    refine zI 23 1 _ rfl #[(0, .agg #[.int .i64 (k : Int), .int .i64 c.k, .string c.s, .slice xa xn xc, .slice pa P_.ps.length pc])] (by simp [Act.eval]) _ _ (Um (k : Int) c.k c.s xa xn xc pa P_.ps.length pc wa) ?_
    have bb := qg wa (.cells #[.int .i64 (k : Int), .int .i64 c.k, .string c.s, .slice xa xn xc, .slice pa P_.ps.length pc] 54)
    have Qb := kk (Blk.new wa 54 #[.int .i64 (k : Int), .int .i64 c.k, .string c.s, .slice xa xn xc, .slice pa P_.ps.length pc])
    generalize wa.alloc (.cells #[.int .i64 (k : Int), .int .i64 c.k, .string c.s, .slice xa xn xc, .slice pa P_.ps.length pc] 54) = wb at *
    obtain ⟨g, hg⟩ := nm wa
    rw [← hg.o] at Qb ⊢
    have Ob := kk (qj Oa.o bb)
    have bb2 : Keep (Below wr.heap.size wr wb) := ⟨(Below.refl wr.heap.size wr).drew.trans (ba.o.trans (bb.mono ba.o.size))⟩
    have hGb : Keep (Grown wr wb (fun k => k ≠ d ∧ w8.heap.size ≤ k)) := ⟨hGa.o.trans (Grown.below bb)⟩
    clear bb hg
    refine hK _ _ (hS0.o _ (hGb.o.mono fun _ _ e => .inr e.2)) fun hHc => kNx ?_
    clear hK
    refine rd1 14 ⟨some 63, .call { callee := .builtin .append, args := #[.tmp 50, .tmp 62], argTypes := #[23, 23] }, 23, _, _, none⟩ rfl fun K hK => ?_
    refine zP (.tmp 50) (.tmp 62) rfl w8.heap.size vl t _ (⟨(k : Int), ⟨c.k, c.s, .slice xa xn xc, c.l⟩, .slice pa P_.ps.length pc, P_.ps⟩ : LV) g rfl rfl (qj JF.o.own bb2.o) (ql Qb.o) (by simp [lvA, Value.oneCell']) (by have := HM.o; omega) (Nat.le_trans JF.o.gr.size (Nat.le_trans (Nat.le_refl _) bb2.o.size)) ?_
    intro v9 wc k1 k2 k3
    have Oc := kk k1
    have hvb : Keep (∀ k, vl.ownBlock = some k → w8.heap.size ≤ k ∧ Typ wb k 54) := ⟨fun k hk => ⟨by
     rcases JF.o.own.2 with ⟨h1, _⟩ | ⟨g9, c9, cur9, h1, h2, _⟩
     ·rw [h1] at hk; cases hk
     ·rw [h1] at hk; injection hk with hk; subst hk; exact h2, qn (qj JF.o.own bb2.o) hk⟩⟩
    have Gc : Keep (Grown wb wc (fun k => vl.ownBlock = some k)) := ⟨k2⟩
    have hDb : Keep (Blk wb d 25 #[.int .i64 (n : Int), vl]) := ⟨JF.o.bd.below bb2.o JF.o.bd.lt⟩
    have hGc : Keep (Grown wr wc (fun k => k ≠ d ∧ w8.heap.size ≤ k)) := ⟨hGb.o.next k2 fun i _ e => ⟨fun ed => by subst ed; exact absurd ((hvb.o _ e).2.one hDb.o.typ) (by decide), (hvb.o i e).1⟩⟩
    have hDc : Keep (Blk wc d 25 #[.int .i64 (n : Int), vl]) := ⟨k2.blk hDb.o fun e => absurd ((hvb.o _ e).2.one hDb.o.typ) (by decide)⟩
    have f_o := hDc.o.frozen 1
    have c_o := hDc.o.c 1 (by rfl : (#[.int .i64 (n : Int), vl] : Array Value)[1]? = some vl)
    obtain ⟨za, zc, hv9⟩ := qE k1
    subst hv9
    clear k1 k2 k3
    refine hK _ _ (hS0.o _ (hGc.o.mono fun _ _ e => .inr e.2)) fun hHd => kNx ?_
    clear hK
    refine uJ 15 ⟨some 64, .fieldAddr 25 (.tmp 9) 1, 0, _, _, none⟩ (.pointer (some ⟨d, 1, none⟩)) rfl hHd ?_
    refine rd1 16 ⟨none, .store 23 (.tmp 64) (.tmp 63), 0, _, _, none⟩ rfl fun K hK => ?_
    refine zm (wc.setCell ⟨d, 1, none⟩ (.slice za (t + 1) zc)) (by go_simp) ?_
    clear f_o c_o
    have Dd : Keep (Blk (wc.setCell ⟨d, 1, none⟩ (.slice za (t + 1) zc)) d 25 #[.int .i64 (n : Int), .slice za (t + 1) zc]) := ⟨by have h := hDc.o.set 1 (.slice za (t + 1) zc); exact h⟩
    have g_ : Grown wc (wc.setCell ⟨d, 1, none⟩ (.slice za (t + 1) zc)) (fun k => k = d) := Grown.setCell wc d 1 _ fun _ => rfl
    have FIe : Keep (FI w5.heap.size w8 (wc.setCell ⟨d, 1, none⟩ (.slice za (t + 1) zc)) d n (.slice za (t + 1) zc) L ns (t + 1) (ls ++ [(⟨(k : Int), ⟨c.k, c.s, .slice xa xn xc, c.l⟩, .slice pa P_.ps.length pc, P_.ps⟩ : LV)])) := ⟨by
     have hall : ∀ {B T s n' : Nat} {v : Value} {xs : List Value}, wb.ownsRow B T s v n' xs → T ≠ 54 → T ≠ 25 → (wc.setCell ⟨d, 1, none⟩ (.slice za (t + 1) zc)).ownsRow B T s v n' xs := fun h h1 h2 =>
      qo (qo h Gc.o fun k hk e => h1 ((qn h hk).one (hvb.o k e).2)) g_ fun k hk e => by
       subst e
       exact h2 ((qn h hk).one hDb.o.typ)
     have hnx : ∀ x ∈ ls, Own (wc.setCell ⟨d, 1, none⟩ (.slice za (t + 1) zc)) x.c.v x.c.l ∧ (wc.setCell ⟨d, 1, none⟩ (.slice za (t + 1) zc)).ownsRow w5.heap.size 32 32 x.pv x.ps.length (qF x.ps) := fun x hx =>
      ⟨hall (qj (JF.o.rows x hx).1 bb2.o) (by decide) (by decide), hall (qj (JF.o.rows x hx).2 bb2.o) (by decide) (by decide)⟩
     refine ⟨(JF.o.gr.next hGc.o fun i hi e => by have := e.2; omega).trans g_, Dd.o, ?_, by rw [List.length_append, JF.o.len]; rfl, fun x hx => ?_, fun j k' x hj hx => ?_⟩
     ·rw [List.flatMap_append, show List.flatMap (fun x => (lvA x).toList) [(⟨(k : Int), ⟨c.k, c.s, .slice xa xn xc, c.l⟩, .slice pa P_.ps.length pc, P_.ps⟩ : LV)] = (lvA (⟨(k : Int), ⟨c.k, c.s, .slice xa xn xc, c.l⟩, .slice pa P_.ps.length pc, P_.ps⟩ : LV)).toList from by simp]
      exact qo Oc.o g_ fun k hk e => by
       subst e
       exact absurd ((qn Oc.o hk).one hDc.o.typ) (by decide)
     ·rcases List.mem_append.mp hx with hx | hx
      ·exact hnx x hx
      ·rw [List.mem_singleton.mp hx]
       refine ⟨hall Ob.o (by decide) (by decide), hall (qj (qo ?_ JF.o.gr fun k hk e => ?_) bb2.o) (by decide) (by decide)⟩
       ·have h := T8.o.2 P_ (List.mem_of_getElem? HP_.o)
        rw [HPv.o] at h
        exact h
       ·have h := T8.o.2 P_ (List.mem_of_getElem? HP_.o)
        rw [HPv.o] at h
        subst e
        exact absurd ((qn h hk).one D8.o.typ) (by decide)
     ·by_cases hjt : j < t
      ·exact JF.o.is j k' x hj (by rw [List.getElem?_append_left (by rw [JF.o.len]; exact hjt)] at hx; exact hx)
      ·rw [List.getElem?_append_right (by rw [JF.o.len]; omega), JF.o.len] at hx
       obtain rfl : j = t := by
        have := (List.getElem?_eq_some_iff.mp hx).1
        simp at this; omega
       rw [Nat.sub_self] at hx
       simp at hx
       subst hx
       obtain rfl : k = k' := Option.some.inj (Hk.o.symm.trans hj)
       exact ⟨rfl, ⟨c, Hc.o, rfl, rfl, rfl⟩, T6.o.is j k P_ Hk.o HP_.o (by rw [hn.o]; exact hkn)⟩⟩
    have FXe : Keep (FX w8.heap.size Ps (ls ++ [(⟨(k : Int), ⟨c.k, c.s, .slice xa xn xc, c.l⟩, .slice pa P_.ps.length pc, P_.ps⟩ : LV)])) := ⟨JX.o.add (⟨(k : Int), ⟨c.k, c.s, .slice xa xn xc, c.l⟩, .slice pa P_.ps.length pc, P_.ps⟩ : LV) P_ (by rw [JF.o.len]; exact HP_.o) HPv.o.symm fun kk hkk => ⟨Nat.le_trans JF.o.gr.size (Nv.o kk hkk), fun y hy e => by have h1 := (zV (JF.o.rows y hy).1 kk e).2; have h2 := Nv.o kk hkk; omega⟩⟩
    have hGe : Keep (Grown wr (wc.setCell ⟨d, 1, none⟩ (.slice za (t + 1) zc)) (fun k => k = d ∨ w8.heap.size ≤ k)) := ⟨(hGc.o.mono fun _ _ e => .inr e.2).trans (g_.mono fun _ _ e => .inl e)⟩
    generalize wc.setCell ⟨d, 1, none⟩ (.slice za (t + 1) zc) = wd at *
    clear g_
    refine hK _ _ (hS0.o _ hGe.o) fun hHe => kNx ?_
    clear hK
    refine wpAnyH_done (by kernel_rfl) ?_ _
    refine hK16 _ _ (rgn (Vv (.int .i64 ((t + 1 : Nat) : Int)) (h:=Vv (.int .i64 ((t + 1 : Nat) : Int)) (h:=?_))))
    refine WL.nil ?_
    refine ⟨⟨t + 1, .slice za (t + 1) zc, rfl, by omega, _, FIe.o, FXe.o⟩, ?_⟩
    ·simp only [intOf]; show m - (((t + 1 : Nat) : Int)).toNat < m - ((t : Int)).toNat; omega
   ·refine jZ 54 #[(0, .tmp 51), (1, .tmp 56), (2, .tmp 60)] rfl #[.int .i64 (k : Int), .int .i64 c.k, .string c.s, .slice xa xn xc, .slice pa P_.ps.length pc] (by simpa [Act.eval] using XO (k : Int) c.k c.s xa xn xc pa P_.ps.length pc) ?_
    refine hK _ _ (hS0.o _ (hGa.o.mono fun _ _ e => .inr e.2)) fun hHb => kNx ?_
    clear hK
    refine wpAnyH_ready (rs := [1, 13]) (by kernel_rfl) (by simp) ?_
    refine AllReadyH.cons (o := ⟨some 50, .load 23 (.tmp 49), 23, _, _, none⟩) rfl (fun K hK => ?_) (AllReadyH.cons (o := ⟨some 62, .buildSlice 23 1 #[(0, .tmp 61)], 23, _, _, none⟩) rfl (fun K hK => ?_) AllReadyH.nil)
    all_goals rw [if_pos (by rfl)]
    ·have c_ : wa.cell? ⟨d, 1, none⟩ = some vl := hGa.o.cell (JF.o.bd.c 1 rfl) (fun e => e.1 rfl)
     refine zq vl (by go_simp) ?_
     clear c_
     refine hK _ _ (hS0.o _ (hGa.o.mono fun _ _ e => .inr e.2)) fun hHl => kNx ?_
     clear hK
     refine rd1 13 ⟨some 62, .buildSlice 23 1 #[(0, .tmp 61)], 23, _, _, none⟩ rfl fun K hK => ?_
     refine zI 23 1 _ rfl #[(0, .agg #[.int .i64 (k : Int), .int .i64 c.k, .string c.s, .slice xa xn xc, .slice pa P_.ps.length pc])] (by simp [Act.eval]) _ _ (Um (k : Int) c.k c.s xa xn xc pa P_.ps.length pc wa) ?_
     have bb := qg wa (.cells #[.int .i64 (k : Int), .int .i64 c.k, .string c.s, .slice xa xn xc, .slice pa P_.ps.length pc] 54)
     have Qb := kk (Blk.new wa 54 #[.int .i64 (k : Int), .int .i64 c.k, .string c.s, .slice xa xn xc, .slice pa P_.ps.length pc])
     generalize wa.alloc (.cells #[.int .i64 (k : Int), .int .i64 c.k, .string c.s, .slice xa xn xc, .slice pa P_.ps.length pc] 54) = wb at *
     obtain ⟨g, hg⟩ := nm wa
     rw [← hg.o] at Qb ⊢
     have Ob := kk (qj Oa.o bb)
     have bb2 : Keep (Below wr.heap.size wr wb) := ⟨(Below.refl wr.heap.size wr).drew.trans (ba.o.trans (bb.mono ba.o.size))⟩
     have hGb : Keep (Grown wr wb (fun k => k ≠ d ∧ w8.heap.size ≤ k)) := ⟨hGa.o.trans (Grown.below bb)⟩
     clear bb hg
     refine hK _ _ (hS0.o _ (hGb.o.mono fun _ _ e => .inr e.2)) fun hHc => kNx ?_
     clear hK
     refine rd1 14 ⟨some 63, .call { callee := .builtin .append, args := #[.tmp 50, .tmp 62], argTypes := #[23, 23] }, 23, _, _, none⟩ rfl fun K hK => ?_
     refine zP (.tmp 50) (.tmp 62) rfl w8.heap.size vl t _ (⟨(k : Int), ⟨c.k, c.s, .slice xa xn xc, c.l⟩, .slice pa P_.ps.length pc, P_.ps⟩ : LV) g rfl rfl (qj JF.o.own bb2.o) (ql Qb.o) (by simp [lvA, Value.oneCell']) (by have := HM.o; omega) (Nat.le_trans JF.o.gr.size (Nat.le_trans (Nat.le_refl _) bb2.o.size)) ?_
     intro v9 wc k1 k2 k3
     have Oc := kk k1
     have hvb : Keep (∀ k, vl.ownBlock = some k → w8.heap.size ≤ k ∧ Typ wb k 54) := ⟨fun k hk => ⟨by
      rcases JF.o.own.2 with ⟨h1, _⟩ | ⟨g9, c9, cur9, h1, h2, _⟩
      ·rw [h1] at hk; cases hk
      ·rw [h1] at hk; injection hk with hk; subst hk; exact h2, qn (qj JF.o.own bb2.o) hk⟩⟩
     have Gc : Keep (Grown wb wc (fun k => vl.ownBlock = some k)) := ⟨k2⟩
     have hDb : Keep (Blk wb d 25 #[.int .i64 (n : Int), vl]) := ⟨JF.o.bd.below bb2.o JF.o.bd.lt⟩
     have hGc : Keep (Grown wr wc (fun k => k ≠ d ∧ w8.heap.size ≤ k)) := ⟨hGb.o.next k2 fun i _ e => ⟨fun ed => by subst ed; exact absurd ((hvb.o _ e).2.one hDb.o.typ) (by decide), (hvb.o i e).1⟩⟩
     have hDc : Keep (Blk wc d 25 #[.int .i64 (n : Int), vl]) := ⟨k2.blk hDb.o fun e => absurd ((hvb.o _ e).2.one hDb.o.typ) (by decide)⟩
     have f_o := hDc.o.frozen 1
     have c_o := hDc.o.c 1 (by rfl : (#[.int .i64 (n : Int), vl] : Array Value)[1]? = some vl)
     obtain ⟨za, zc, hv9⟩ := qE k1
     subst hv9
     clear k1 k2 k3
     refine hK _ _ (hS0.o _ (hGc.o.mono fun _ _ e => .inr e.2)) fun hHd => kNx ?_
     clear hK
     refine uJ 15 ⟨some 64, .fieldAddr 25 (.tmp 9) 1, 0, _, _, none⟩ (.pointer (some ⟨d, 1, none⟩)) rfl hHd ?_
     refine rd1 16 ⟨none, .store 23 (.tmp 64) (.tmp 63), 0, _, _, none⟩ rfl fun K hK => ?_
     refine zm (wc.setCell ⟨d, 1, none⟩ (.slice za (t + 1) zc)) (by go_simp) ?_
     clear f_o c_o
     have Dd : Keep (Blk (wc.setCell ⟨d, 1, none⟩ (.slice za (t + 1) zc)) d 25 #[.int .i64 (n : Int), .slice za (t + 1) zc]) := ⟨by have h := hDc.o.set 1 (.slice za (t + 1) zc); exact h⟩
     have g_ : Grown wc (wc.setCell ⟨d, 1, none⟩ (.slice za (t + 1) zc)) (fun k => k = d) := Grown.setCell wc d 1 _ fun _ => rfl
     have FIe : Keep (FI w5.heap.size w8 (wc.setCell ⟨d, 1, none⟩ (.slice za (t + 1) zc)) d n (.slice za (t + 1) zc) L ns (t + 1) (ls ++ [(⟨(k : Int), ⟨c.k, c.s, .slice xa xn xc, c.l⟩, .slice pa P_.ps.length pc, P_.ps⟩ : LV)])) := ⟨by
      have hall : ∀ {B T s n' : Nat} {v : Value} {xs : List Value}, wb.ownsRow B T s v n' xs → T ≠ 54 → T ≠ 25 → (wc.setCell ⟨d, 1, none⟩ (.slice za (t + 1) zc)).ownsRow B T s v n' xs := fun h h1 h2 =>
       qo (qo h Gc.o fun k hk e => h1 ((qn h hk).one (hvb.o k e).2)) g_ fun k hk e => by
        subst e
        exact h2 ((qn h hk).one hDb.o.typ)
      have hnx : ∀ x ∈ ls, Own (wc.setCell ⟨d, 1, none⟩ (.slice za (t + 1) zc)) x.c.v x.c.l ∧ (wc.setCell ⟨d, 1, none⟩ (.slice za (t + 1) zc)).ownsRow w5.heap.size 32 32 x.pv x.ps.length (qF x.ps) := fun x hx =>
       ⟨hall (qj (JF.o.rows x hx).1 bb2.o) (by decide) (by decide), hall (qj (JF.o.rows x hx).2 bb2.o) (by decide) (by decide)⟩
      refine ⟨(JF.o.gr.next hGc.o fun i hi e => by have := e.2; omega).trans g_, Dd.o, ?_, by rw [List.length_append, JF.o.len]; rfl, fun x hx => ?_, fun j k' x hj hx => ?_⟩
      ·rw [List.flatMap_append, show List.flatMap (fun x => (lvA x).toList) [(⟨(k : Int), ⟨c.k, c.s, .slice xa xn xc, c.l⟩, .slice pa P_.ps.length pc, P_.ps⟩ : LV)] = (lvA (⟨(k : Int), ⟨c.k, c.s, .slice xa xn xc, c.l⟩, .slice pa P_.ps.length pc, P_.ps⟩ : LV)).toList from by simp]
       exact qo Oc.o g_ fun k hk e => by
        subst e
        exact absurd ((qn Oc.o hk).one hDc.o.typ) (by decide)
      ·rcases List.mem_append.mp hx with hx | hx
       ·exact hnx x hx
       ·rw [List.mem_singleton.mp hx]
        refine ⟨hall Ob.o (by decide) (by decide), hall (qj (qo ?_ JF.o.gr fun k hk e => ?_) bb2.o) (by decide) (by decide)⟩
        ·have h := T8.o.2 P_ (List.mem_of_getElem? HP_.o)
         rw [HPv.o] at h
         exact h
        ·have h := T8.o.2 P_ (List.mem_of_getElem? HP_.o)
         rw [HPv.o] at h
         subst e
         exact absurd ((qn h hk).one D8.o.typ) (by decide)
      ·by_cases hjt : j < t
       ·exact JF.o.is j k' x hj (by rw [List.getElem?_append_left (by rw [JF.o.len]; exact hjt)] at hx; exact hx)
       ·rw [List.getElem?_append_right (by rw [JF.o.len]; omega), JF.o.len] at hx
        obtain rfl : j = t := by
         have := (List.getElem?_eq_some_iff.mp hx).1
         simp at this; omega
        rw [Nat.sub_self] at hx
        simp at hx
        subst hx
        obtain rfl : k = k' := Option.some.inj (Hk.o.symm.trans hj)
        exact ⟨rfl, ⟨c, Hc.o, rfl, rfl, rfl⟩, T6.o.is j k P_ Hk.o HP_.o (by rw [hn.o]; exact hkn)⟩⟩
     have FXe : Keep (FX w8.heap.size Ps (ls ++ [(⟨(k : Int), ⟨c.k, c.s, .slice xa xn xc, c.l⟩, .slice pa P_.ps.length pc, P_.ps⟩ : LV)])) := ⟨JX.o.add (⟨(k : Int), ⟨c.k, c.s, .slice xa xn xc, c.l⟩, .slice pa P_.ps.length pc, P_.ps⟩ : LV) P_ (by rw [JF.o.len]; exact HP_.o) HPv.o.symm fun kk hkk => ⟨Nat.le_trans JF.o.gr.size (Nv.o kk hkk), fun y hy e => by have h1 := (zV (JF.o.rows y hy).1 kk e).2; have h2 := Nv.o kk hkk; omega⟩⟩
     have hGe : Keep (Grown wr (wc.setCell ⟨d, 1, none⟩ (.slice za (t + 1) zc)) (fun k => k = d ∨ w8.heap.size ≤ k)) := ⟨(hGc.o.mono fun _ _ e => .inr e.2).trans (g_.mono fun _ _ e => .inl e)⟩
     generalize wc.setCell ⟨d, 1, none⟩ (.slice za (t + 1) zc) = wd at *
     clear g_
     refine hK _ _ (hS0.o _ hGe.o) fun hHe => kNx ?_
     clear hK
     refine wpAnyH_done (by kernel_rfl) ?_ _
     refine hK16 _ _ (rgn (Vv (.int .i64 ((t + 1 : Nat) : Int)) (h:=Vv (.int .i64 ((t + 1 : Nat) : Int)) (h:=?_))))
     refine WL.nil ?_
     refine ⟨⟨t + 1, .slice za (t + 1) zc, rfl, by omega, _, FIe.o, FXe.o⟩, ?_⟩
     ·simp only [intOf]; show m - (((t + 1 : Nat) : Int)).toNat < m - ((t : Int)).toNat; omega
    ·refine zI 23 1 _ rfl #[(0, .agg #[.int .i64 (k : Int), .int .i64 c.k, .string c.s, .slice xa xn xc, .slice pa P_.ps.length pc])] (by simp [Act.eval]) _ _ (Um (k : Int) c.k c.s xa xn xc pa P_.ps.length pc wa) ?_
     have bb := qg wa (.cells #[.int .i64 (k : Int), .int .i64 c.k, .string c.s, .slice xa xn xc, .slice pa P_.ps.length pc] 54)
     have Qb := kk (Blk.new wa 54 #[.int .i64 (k : Int), .int .i64 c.k, .string c.s, .slice xa xn xc, .slice pa P_.ps.length pc])
     generalize wa.alloc (.cells #[.int .i64 (k : Int), .int .i64 c.k, .string c.s, .slice xa xn xc, .slice pa P_.ps.length pc] 54) = wb at *
     obtain ⟨g, hg⟩ := nm wa
     rw [← hg.o] at Qb ⊢
     have Ob := kk (qj Oa.o bb)
     have bb2 : Keep (Below wr.heap.size wr wb) := ⟨(Below.refl wr.heap.size wr).drew.trans (ba.o.trans (bb.mono ba.o.size))⟩
     have hGb : Keep (Grown wr wb (fun k => k ≠ d ∧ w8.heap.size ≤ k)) := ⟨hGa.o.trans (Grown.below bb)⟩
     clear bb hg
     refine hK _ _ (hS0.o _ (hGb.o.mono fun _ _ e => .inr e.2)) fun hHc => kNx ?_
     clear hK
     refine rd1 1 ⟨some 50, .load 23 (.tmp 49), 23, _, _, none⟩ rfl fun K hK => ?_
     have c_ : wb.cell? ⟨d, 1, none⟩ = some vl := hGb.o.cell (JF.o.bd.c 1 rfl) (fun e => e.1 rfl)
     refine zq vl (by go_simp) ?_
     clear c_
     refine hK _ _ (hS0.o _ (hGb.o.mono fun _ _ e => .inr e.2)) fun hHl => kNx ?_
     clear hK
     refine rd1 14 ⟨some 63, .call { callee := .builtin .append, args := #[.tmp 50, .tmp 62], argTypes := #[23, 23] }, 23, _, _, none⟩ rfl fun K hK => ?_
     refine zP (.tmp 50) (.tmp 62) rfl w8.heap.size vl t _ (⟨(k : Int), ⟨c.k, c.s, .slice xa xn xc, c.l⟩, .slice pa P_.ps.length pc, P_.ps⟩ : LV) g rfl rfl (qj JF.o.own bb2.o) (ql Qb.o) (by simp [lvA, Value.oneCell']) (by have := HM.o; omega) (Nat.le_trans JF.o.gr.size (Nat.le_trans (Nat.le_refl _) bb2.o.size)) ?_
     intro v9 wc k1 k2 k3
     have Oc := kk k1
     have hvb : Keep (∀ k, vl.ownBlock = some k → w8.heap.size ≤ k ∧ Typ wb k 54) := ⟨fun k hk => ⟨by
      rcases JF.o.own.2 with ⟨h1, _⟩ | ⟨g9, c9, cur9, h1, h2, _⟩
      ·rw [h1] at hk; cases hk
      ·rw [h1] at hk; injection hk with hk; subst hk; exact h2, qn (qj JF.o.own bb2.o) hk⟩⟩
     have Gc : Keep (Grown wb wc (fun k => vl.ownBlock = some k)) := ⟨k2⟩
     have hDb : Keep (Blk wb d 25 #[.int .i64 (n : Int), vl]) := ⟨JF.o.bd.below bb2.o JF.o.bd.lt⟩
     have hGc : Keep (Grown wr wc (fun k => k ≠ d ∧ w8.heap.size ≤ k)) := ⟨hGb.o.next k2 fun i _ e => ⟨fun ed => by subst ed; exact absurd ((hvb.o _ e).2.one hDb.o.typ) (by decide), (hvb.o i e).1⟩⟩
     have hDc : Keep (Blk wc d 25 #[.int .i64 (n : Int), vl]) := ⟨k2.blk hDb.o fun e => absurd ((hvb.o _ e).2.one hDb.o.typ) (by decide)⟩
     have f_o := hDc.o.frozen 1
     have c_o := hDc.o.c 1 (by rfl : (#[.int .i64 (n : Int), vl] : Array Value)[1]? = some vl)
     obtain ⟨za, zc, hv9⟩ := qE k1
     subst hv9
     clear k1 k2 k3
     refine hK _ _ (hS0.o _ (hGc.o.mono fun _ _ e => .inr e.2)) fun hHd => kNx ?_
     clear hK
     refine uJ 15 ⟨some 64, .fieldAddr 25 (.tmp 9) 1, 0, _, _, none⟩ (.pointer (some ⟨d, 1, none⟩)) rfl hHd ?_
     refine rd1 16 ⟨none, .store 23 (.tmp 64) (.tmp 63), 0, _, _, none⟩ rfl fun K hK => ?_
     refine zm (wc.setCell ⟨d, 1, none⟩ (.slice za (t + 1) zc)) (by go_simp) ?_
     clear f_o c_o
     have Dd : Keep (Blk (wc.setCell ⟨d, 1, none⟩ (.slice za (t + 1) zc)) d 25 #[.int .i64 (n : Int), .slice za (t + 1) zc]) := ⟨by have h := hDc.o.set 1 (.slice za (t + 1) zc); exact h⟩
     have g_ : Grown wc (wc.setCell ⟨d, 1, none⟩ (.slice za (t + 1) zc)) (fun k => k = d) := Grown.setCell wc d 1 _ fun _ => rfl
     have FIe : Keep (FI w5.heap.size w8 (wc.setCell ⟨d, 1, none⟩ (.slice za (t + 1) zc)) d n (.slice za (t + 1) zc) L ns (t + 1) (ls ++ [(⟨(k : Int), ⟨c.k, c.s, .slice xa xn xc, c.l⟩, .slice pa P_.ps.length pc, P_.ps⟩ : LV)])) := ⟨by
      have hall : ∀ {B T s n' : Nat} {v : Value} {xs : List Value}, wb.ownsRow B T s v n' xs → T ≠ 54 → T ≠ 25 → (wc.setCell ⟨d, 1, none⟩ (.slice za (t + 1) zc)).ownsRow B T s v n' xs := fun h h1 h2 =>
       qo (qo h Gc.o fun k hk e => h1 ((qn h hk).one (hvb.o k e).2)) g_ fun k hk e => by
        subst e
        exact h2 ((qn h hk).one hDb.o.typ)
      have hnx : ∀ x ∈ ls, Own (wc.setCell ⟨d, 1, none⟩ (.slice za (t + 1) zc)) x.c.v x.c.l ∧ (wc.setCell ⟨d, 1, none⟩ (.slice za (t + 1) zc)).ownsRow w5.heap.size 32 32 x.pv x.ps.length (qF x.ps) := fun x hx =>
       ⟨hall (qj (JF.o.rows x hx).1 bb2.o) (by decide) (by decide), hall (qj (JF.o.rows x hx).2 bb2.o) (by decide) (by decide)⟩
      refine ⟨(JF.o.gr.next hGc.o fun i hi e => by have := e.2; omega).trans g_, Dd.o, ?_, by rw [List.length_append, JF.o.len]; rfl, fun x hx => ?_, fun j k' x hj hx => ?_⟩
      ·rw [List.flatMap_append, show List.flatMap (fun x => (lvA x).toList) [(⟨(k : Int), ⟨c.k, c.s, .slice xa xn xc, c.l⟩, .slice pa P_.ps.length pc, P_.ps⟩ : LV)] = (lvA (⟨(k : Int), ⟨c.k, c.s, .slice xa xn xc, c.l⟩, .slice pa P_.ps.length pc, P_.ps⟩ : LV)).toList from by simp]
       exact qo Oc.o g_ fun k hk e => by
        subst e
        exact absurd ((qn Oc.o hk).one hDc.o.typ) (by decide)
      ·rcases List.mem_append.mp hx with hx | hx
       ·exact hnx x hx
       ·rw [List.mem_singleton.mp hx]
        refine ⟨hall Ob.o (by decide) (by decide), hall (qj (qo ?_ JF.o.gr fun k hk e => ?_) bb2.o) (by decide) (by decide)⟩
        ·have h := T8.o.2 P_ (List.mem_of_getElem? HP_.o)
         rw [HPv.o] at h
         exact h
        ·have h := T8.o.2 P_ (List.mem_of_getElem? HP_.o)
         rw [HPv.o] at h
         subst e
         exact absurd ((qn h hk).one D8.o.typ) (by decide)
      ·by_cases hjt : j < t
       ·exact JF.o.is j k' x hj (by rw [List.getElem?_append_left (by rw [JF.o.len]; exact hjt)] at hx; exact hx)
       ·rw [List.getElem?_append_right (by rw [JF.o.len]; omega), JF.o.len] at hx
        obtain rfl : j = t := by
         have := (List.getElem?_eq_some_iff.mp hx).1
         simp at this; omega
        rw [Nat.sub_self] at hx
        simp at hx
        subst hx
        obtain rfl : k = k' := Option.some.inj (Hk.o.symm.trans hj)
        exact ⟨rfl, ⟨c, Hc.o, rfl, rfl, rfl⟩, T6.o.is j k P_ Hk.o HP_.o (by rw [hn.o]; exact hkn)⟩⟩
     have FXe : Keep (FX w8.heap.size Ps (ls ++ [(⟨(k : Int), ⟨c.k, c.s, .slice xa xn xc, c.l⟩, .slice pa P_.ps.length pc, P_.ps⟩ : LV)])) := ⟨JX.o.add (⟨(k : Int), ⟨c.k, c.s, .slice xa xn xc, c.l⟩, .slice pa P_.ps.length pc, P_.ps⟩ : LV) P_ (by rw [JF.o.len]; exact HP_.o) HPv.o.symm fun kk hkk => ⟨Nat.le_trans JF.o.gr.size (Nv.o kk hkk), fun y hy e => by have h1 := (zV (JF.o.rows y hy).1 kk e).2; have h2 := Nv.o kk hkk; omega⟩⟩
     have hGe : Keep (Grown wr (wc.setCell ⟨d, 1, none⟩ (.slice za (t + 1) zc)) (fun k => k = d ∨ w8.heap.size ≤ k)) := ⟨(hGc.o.mono fun _ _ e => .inr e.2).trans (g_.mono fun _ _ e => .inl e)⟩
     generalize wc.setCell ⟨d, 1, none⟩ (.slice za (t + 1) zc) = wd at *
     clear g_
     refine hK _ _ (hS0.o _ hGe.o) fun hHe => kNx ?_
     clear hK
     refine wpAnyH_done (by kernel_rfl) ?_ _
     refine hK16 _ _ (rgn (Vv (.int .i64 ((t + 1 : Nat) : Int)) (h:=Vv (.int .i64 ((t + 1 : Nat) : Int)) (h:=?_))))
     refine WL.nil ?_
     refine ⟨⟨t + 1, .slice za (t + 1) zc, rfl, by omega, _, FIe.o, FXe.o⟩, ?_⟩
     ·simp only [intOf]; show m - (((t + 1 : Nat) : Int)).toNat < m - ((t : Int)).toNat; omega
 ·have htm' : ¬ (t : Int) < (m : Int) := by omega
  have htm2 : t = m := by omega
  subst htm2
  obtain ⟨va, vc, hvl⟩ := qE JF.o.own
  subst hvl
  have Dr := kk JF.o.bd
  have Rr := kk (JF.o.gr.blk R8.o hrd.o)
  have Br : Keep (Below w.heap.size w wr) := ⟨B8.o.trans (JF.o.gr.to_below (fun k hk e => by have := gd.o; omega) B8.o.size)⟩
  refine wp_seq_k fun K18 hK18 => rgn (Vf (h:=WL.nil (hK18 _ _ (wp_seq_k fun K19 hK19 => Cf (h:=wp_exit (hK12 _ _ (wp_seq_k fun K20 hK20 => rgn (?_))))))))
  refine WL.row (by kernel_rfl) 25 (.tmp 9) rfl d rfl 25 #[.int .i64 (n : Int), .slice va t vc] _ Dr.o Try.underlying25 rfl (by rfl) ?_
  simp only [Act.put, pqA, pqB, pqC]
  refine WL.storeR (by kernel_rfl) 25 (.tmp 6) (.tmp 66) rfl r #[.int .i64 (n : Int), .slice va t vc] rfl rfl 25 #[.int .i64 0, .slice none 0 0] Rr.o (by rfl) rfl (by simp [Value.oneCell']) ?_
  have R9 := kk (Rr.o.setRow #[.int .i64 (n : Int), .slice va t vc])
  have B9 : Keep (Below w.heap.size w (wr.setRow r #[.int .i64 (n : Int), .slice va t vc])) := ⟨qf Br.o gr.o _⟩
  have g_ : Grown wr (wr.setRow r #[.int .i64 (n : Int), .slice va t vc]) (fun k => k = r) := Grown.setRow _ r #[.int .i64 (n : Int), .slice va t vc] fun _ => rfl
  have hall : ∀ {B T s n' : Nat} {v : Value} {xs : List Value}, wr.ownsRow B T s v n' xs → T ≠ 25 → (wr.setRow r #[.int .i64 (n : Int), .slice va t vc]).ownsRow B T s v n' xs := fun h h2 => qo h g_ fun k hk e => by
   subst e
   exact h2 ((qn h hk).one Rr.o.typ)
  have LS9 : Keep (WtN (wr.setRow r #[.int .i64 (n : Int), .slice va t vc]) w.heap.size (.slice va t vc) ls) := ⟨by
   have h8 := B8.o.size
   have h5 := B5.o.size
   refine ⟨by rw [JF.o.len]; exact zo (hall JF.o.own (by decide)) h8, fun x hx => ⟨hall (JF.o.rows x hx).1 (by decide), zo (hall (JF.o.rows x hx).2 (by decide)) h5⟩, fun x hx k hk => Nat.le_trans h8 (JX.o.nv x hx k hk), JX.o.av, fun i j x y hx hy hij k hk hk2 => ?_⟩
   have hi : i < Ps.length := by have h1 := (List.getElem?_eq_some_iff.mp hx).1; have h2 := JF.o.len; have h3 := HPl.o; omega
   have hj : j < Ps.length := by have h1 := (List.getElem?_eq_some_iff.mp hy).1; have h2 := JF.o.len; have h3 := HPl.o; omega
   rw [JX.o.px i x _ hx (List.getElem?_eq_getElem hi)] at hk
   rw [JX.o.px j y _ hy (List.getElem?_eq_getElem hj)] at hk2
   exact APT.o i j _ _ (List.getElem?_eq_getElem hi) (List.getElem?_eq_getElem hj) hij k hk hk2⟩
  clear hall g_
  generalize wr.setRow r #[.int .i64 (n : Int), .slice va t vc] = w9 at *
  simp only [Act.put]
  refine Vv (.int .i64 0) (h:=WL.nil (hK20 _ _ (wp_ret ?_)))
  try simp only [Exit.inBlock, Exit.then]
  refine bodyPost_ret (v := .tuple #[.agg #[.int .i64 (n : Int), .slice va t vc], .int .i64 0]) (qp Try.results8 _ _ r 25 _ (0, 0) _ _ rfl rfl R9.o Try.underlying25 rfl (by rfl)) rfl ⟨(n : Int), .slice va t vc, ls, 0, rfl, LS9.o, B9.o, (fun h => by rw [hkm] at h; cases h), (fun _ h => absurd hwi.o h), (fun _ _ => ⟨by rw [hn.o], rfl, (fun h => by rw [h] at hn; have := hn.o; simp at this; omega), fun _ => ⟨by rw [hn.o, hns.o, hm.o, JF.o.len], by rw [hn.o, hns.o]; exact JF.o.is⟩⟩)⟩
theorem kB {a b c : Int} {s t r : ByteArray} (h : zC a s b t = true) (k : zC b t c r = true) : zC a s c r = true := by
 unfold zC at *
 simp only [Bool.or_eq_true, Bool.and_eq_true, decide_eq_true_eq] at *
 rcases h with h | ⟨h1, h2⟩
 ·rcases k with k | ⟨k1, k2⟩
  ·exact .inl (by omega)
  ·exact .inl (by omega)
 ·rcases k with k | ⟨k1, k2⟩
  ·exact .inl (by omega)
  ·exact .inr ⟨by omega, RtP.bl_trans _ _ _ h2 k2⟩
theorem ZK {L : List CV} (h : qt L = 0) : okO L = true := by
 unfold qt at h
 cases hk : okK L
 ·rw [hk] at h; cases h
 ·cases ho : okO L
  ·rw [hk, ho] at h; cases h
  ·rfl
theorem ord_of {L : List CV} (h : qt L = 0) : ∀ (m i : Nat) (c d : CV), L[i]? = some c → L[i + m + 1]? = some d → zC c.k c.s d.k d.s = true
 | 0, i, c, d, hc, hd => by
  cases ha : zC c.k c.s d.k d.s
  ·have := kf hc hd ha; rw [ZK h] at this; cases this
  ·rfl
 | m + 1, i, c, d, hc, hd => by
  have hl : i + m + 1 < L.length := by have := (List.getElem?_eq_some_iff.mp hd).1; omega
  have h1 := ord_of h m i c L[i + m + 1] hc (List.getElem?_eq_getElem hl)
  have h2 : zC L[i + m + 1].k L[i + m + 1].s d.k d.s = true := by
   cases ha : zC L[i + m + 1].k L[i + m + 1].s d.k d.s
   ·have := kf (List.getElem?_eq_getElem hl) hd ha; rw [ZK h] at this; cases this
   ·rfl
  exact kB h1 h2
theorem Dt {L : List CV} (kind : Int) (key : ByteArray) (h : qt L = 0) : ∃ at_, at_ ≤ L.length ∧ ∀ (i : Nat) (c : CV), L[i]? = some c → (stI c.k c.s kind key < 0 ↔ i < at_) := by
 have main : ∀ m, m ≤ L.length → ∃ at_, at_ ≤ m ∧ ∀ (i : Nat) (c : CV), i < m → L[i]? = some c → (stI c.k c.s kind key < 0 ↔ i < at_) := by
  intro m
  induction m with
  | zero => intro _; exact ⟨0, by omega, fun i c hi _ => by omega⟩
  | succ m ih =>
   intro hm
   obtain ⟨a, ha, hi⟩ := ih (by omega)
   by_cases hc : stI L[m].k L[m].s kind key < 0
   ·refine ⟨m + 1, by omega, fun i c him hic => ⟨fun _ => him, fun _ => ?_⟩⟩
    by_cases e : i = m
    ·subst e
     rw [List.getElem?_eq_getElem (by omega)] at hic
     injection hic with hic
     rw [← hic]; exact hc
    ·rw [QG] at hc ⊢
     exact kB (ord_of h (m - i - 1) i c L[m] hic (by rw [show i + (m - i - 1) + 1 = m from by omega]; exact List.getElem?_eq_getElem (by omega))) hc
   ·refine ⟨a, by omega, fun i c him hic => ?_⟩
    by_cases e : i = m
    ·subst e
     rw [List.getElem?_eq_getElem (by omega)] at hic
     injection hic with hic
     rw [← hic]
     exact ⟨fun z => absurd z hc, fun z => by omega⟩
    ·exact hi i c (by omega) hic
 obtain ⟨a, h1, h2⟩ := main L.length (Nat.le_refl _)
 exact ⟨a, h1, fun i c hc => h2 i c (List.getElem?_eq_some_iff.mp hc).1 hc⟩
theorem VB {n a : Nat} {b : Bool} (ha : a ≤ n) (hb : b = true → a < n) : ∀ k ∈ fnd n a b, k < n := by
 intro k hk
 unfold fnd at hk
 cases b
 ·simp only [Bool.false_eq_true, if_false, List.mem_append] at hk
  rcases hk with hk | hk
  ·split at hk
   ·simp at hk; omega
   ·simp at hk
  ·split at hk
   ·simp at hk; omega
   ·simp at hk
 ·simp at hk
  have := hb rfl
  omega
theorem XC {n a : Nat} {b : Bool} (hn : 1 ≤ n) (ha : a ≤ n) : 1 ≤ (fnd n a b).length ∧ (fnd n a b).length ≤ 2 := by
 unfold fnd
 cases b
 ·by_cases h0 : 0 < a <;> by_cases h1 : a < n <;> simp [h0, h1]
  omega
 ·simp
theorem Kj {L : List CV} {a : Nat} {kind : Int} {key : ByteArray} (h : fndB L a kind key = true) : a < L.length := by
 unfold fndB at h
 split at h
 ·rename_i e; exact (List.getElem?_eq_some_iff.mp e).1
 ·cases h
theorem QZ (v : Value) (L : List CV) (kind : Int) (key : ByteArray) (at_ : Nat) (w : World) (hC : CsV w.heap.size w v L) (hS : Sml L) (hN : L.length ≤ 1099511627776) (ha : at_ ≤ L.length) (hAt : qt L = 0 → ∀ (i : Nat) (c : CV), L[i]? = some c → (stI c.k c.s kind key < 0 ↔ i < at_)) : Calls Try.prog 8 #[v, .int .i64 kind, .string key] w (FdQ L kind at_ key w) := by
 have hC0 := hC
 obtain ⟨la, cap, rfl⟩ : ∃ la cap, v = .slice la L.length cap := by
  rcases hC with ⟨a, c, rfl, rfl⟩ | ⟨b, off, cap, rfl, _⟩
  ·exact ⟨a, c, rfl⟩
  ·exact ⟨_, cap, rfl⟩
 cases hk : zi kind
 ·exact VE la _ cap at_ L kind key w hk
 ·by_cases hW : qt L = 0
  ·by_cases h1 : 1 ≤ L.length
   ·rcases hC with ⟨a, c, e, rfl⟩ | ⟨b, off, cap', e, h2, h3⟩
    ·simp at h1
    ·injection e with e1 e2 e3
     subst e1 e3
     have hl := XC (b := fndB L at_ kind key) h1 ha
     exact VC b off _ cap at_ _ L _ kind key _ w hk ⟨hW⟩ ⟨rfl⟩ h1 ⟨hN⟩ ⟨h3⟩ ⟨hC0⟩ ⟨Kk (Kg hW) hS⟩ ⟨rfl⟩ ⟨ha⟩ ⟨hAt hW⟩ ⟨rfl⟩ ⟨rfl⟩ hl.1 ⟨hl.2⟩ ⟨VB ha Kj⟩ ⟨fun c hc => by have := hS c hc; omega⟩
   ·have : L = [] := List.eq_nil_of_length_eq_zero (by omega)
    subst this
    exact VD la cap at_ kind key w hk ⟨hC0⟩
  ·exact Uf la _ cap at_ L kind key w _ hk ⟨rfl⟩ hW ⟨hC0⟩ ⟨by omega⟩
theorem Qx (w : World) (vs : Array Value) : (callFunc 16 vs).run Try.prog w = .ok (.enter 16 vs) w := by kernel_rfl
theorem UF (w : World) (vs : Array Value) : (callFunc 17 vs).run Try.prog w = .ok (.enter 17 vs) w := by kernel_rfl
theorem Jl (tS tE sz bt : Nat) (zv : Value) (hU : Try.prog.underlying tS = some (.slice tE)) (hI : (Try.prog.info? tE).map (fun i => (i.zero, i.size, i.bytes)) = some (some zv, sz, bt)) (hzs : zv.cells.size = sz) (h0 : 0 < sz)
  (w : World) (ty : TypeId) (base : Nat) (v : Value) (a : Addr) (n m c : Nat) (xs ys : List Value) (hown : w.ownsRow base tE sz v n xs) (hl : ys.length = m * sz) (hys : ∀ j u, ys[j]? = some u → w.cell? (a.add j) = some u) (h1 : ∀ u ∈ ys, u.oneCell' = true) (hb : n + m ≤ 100000000) (hbt : bt ≤ 1000) (hbase : base ≤ w.heap.size) :
  ∃ v' w', (Builtin.append_ #[tS, tS] ty #[v, .slice (some a) m c]).run Try.prog w = .ok v' w' ∧ w'.ownsRow base tE sz v' (n + m) (xs ++ ys) ∧ ((v'.ownBlock = v.ownBlock ∧ Grown w w' fun k => v.ownBlock = some k) ∨ (v'.ownBlock = some w.heap.size ∧ Below w.heap.size w w')) := by
 obtain ⟨i, hi, hzz⟩ := Option.map_eq_some_iff.1 hI
 simp only [Prod.mk.injEq] at hzz
 obtain ⟨hz, hsz, hby⟩ := hzz
 have hbb : (n + m) * bt ≤ 100000000000 := Nat.mul_le_mul hb hbt
 have h63 : n + m ≤ maxLen := by unfold maxLen; omega
 have hlm : ys.length = m * i.size := by rw [hl, hsz]
 obtain ⟨v', w', hr, k1, h2, _, h3⟩ := run_append_own_at (P := Try.prog) w base tS ty tE i zv sz bt hU hi hz hsz hby hzs h0 v n xs hown a m c ys hl hys h1 h63 (by omega) hbase
 refine ⟨v', w', hr, k1, ?_⟩
 have hxl := hown.1
 rcases hown.2 with ⟨rfl, rfl⟩ | ⟨g, cap, cur, rfl, hg0, hg, hnc, hcm, hcs, htake⟩
 ·rcases h3 with h3 | h3
  ·exact .inl ⟨h3, Grown.of h2 fun k _ e => by simp [Value.ownBlock] at e⟩
  ·exact .inr ⟨h3, h2.os, h2.tape, h2.output, h2.size, fun k hk => h2.block k hk (by simp [Value.ownBlock])⟩
 ·by_cases hroom : n + m ≤ cap
  ·have hr2 := run_append_room (P := Try.prog) w tS ty tE i hU hi g n cap cur hg a m c ys hlm hys h1 hroom (by rw [hsz, hl, hcs, ← Nat.add_mul]; exact Nat.mul_le_mul_right _ hroom)
   have e := hr.symm.trans hr2
   injection e with e1 e2
   subst e1
   exact .inl ⟨rfl, Grown.of h2 fun k _ e => e⟩
  ·have holds : ∀ j u, xs[j]? = some u → w.cell? ((⟨g, 0, none⟩ : Addr).add j) = some u := World.ownsRow.cells (g := g) hown rfl
   have hr2 := run_append_grow (P := Try.prog) w tS ty tE i zv hU hi hz ⟨g, 0, none⟩ n cap xs (by rw [hxl, hsz]) holds a m c ys hlm hys (by omega) (by omega) (by rw [hby]; exact growslice_fits (by unfold maxLen at hcm; omega) (by omega))
   have e := hr.symm.trans hr2
   injection e with e1 e2
   subst e1 e2
   exact .inr ⟨rfl, ⟨rfl, rfl, rfl, by simp, fun k hk => Below.heap_alloc w.drew _ k hk⟩⟩
theorem WL.appG2 {ops : Array Oper} {rest : List Oper} {o : Oper} {a : Act} {w : World} {Q : Exit → Act → World → Prop} (hw : Region.wanted o (yielded ops a.tmps) = true) (tS tE sz bt : Nat) (zv : Value) (hU : Try.prog.underlying tS = some (.slice tE)) (hI : (Try.prog.info? tE).map (fun i => (i.zero, i.size, i.bytes)) = some (some zv, sz, bt)) (hzs : zv.cells.size = sz) (h0 : 0 < sz) (s x : Operand)
  (ho : o.op = .call { callee := .builtin .append, args := #[s, x], argTypes := #[tS, tS] }) (base : Nat) (v : Value) (ad : Addr) (n m c : Nat) (xs ys : List Value)
  (hs : a.eval s = v) (hx : a.eval x = .slice (some ad) m c) (hown : w.ownsRow base tE sz v n xs) (hl : ys.length = m * sz) (hys : ∀ j u, ys[j]? = some u → w.cell? (ad.add j) = some u) (h1 : ∀ u ∈ ys, u.oneCell' = true) (hb : n + m ≤ 100000000) (hbt : bt ≤ 1000) (hbase : base ≤ w.heap.size)
  (h : ∀ v' w', w'.ownsRow base tE sz v' (n + m) (xs ++ ys) → ((v'.ownBlock = v.ownBlock ∧ Grown w w' fun k => v.ownBlock = some k) ∨ (v'.ownBlock = some w.heap.size ∧ Below w.heap.size w w')) → WL Try.prog ops Q rest (a.put o.dst v') w') : WL Try.prog ops Q (o :: rest) a w :=
 ⟨qC hw fun K hK => by
  obtain ⟨v', w', hr, h2, h3⟩ := Jl tS tE sz bt zv hU hI hzs h0 w o.type base v ad n m c xs ys hown hl hys h1 hb hbt hbase
  unfold Oper.wp execOp
  simp only [ho, resolve, invoke, builtin, Sem.run_bind, Sem.run_pure, Result.andThen_ok, List.map_toArray, List.map_cons, List.map_nil, hs, hx, hr]
  exact hK _ _ (h v' w' h2 h3).o⟩
def mkF (m : Int) : Nat → Int := fun j => if j = 0 then m else 0
def yy (m : Int) : Nat → List Value
 | 0 => []
 | t + 1 => yy m t ++ (qb 32 (mkF m)).toList
theorem jD (m : Int) : ∀ t, (yy m t).length = t * 32
 | 0 => rfl
 | t + 1 => by rw [yy, List.length_append, jD m t, Array.length_toList, qB]; omega
theorem ZD (m : Int) (t : Nat) : ∀ (i : Nat), i < t → ∀ (j : Nat) (u : Value), (qb 32 (mkF m)).toList[j]? = some u → (yy m t)[i * 32 + j]? = some u := by
 obtain ⟨X, hX⟩ : ∃ z, z = (qb 32 (mkF m)).toList := ⟨_, rfl⟩
 have hxl : X.length = 32 := by rw [hX, Array.length_toList, qB]
 induction t with
 | zero => intro i h; omega
 | succ t ih =>
  intro i h j u hu
  have hj : j < 32 := by have := (List.getElem?_eq_some_iff.1 hu).1; rwa [Array.length_toList, qB] at this
  show (yy m t ++ (qb 32 (mkF m)).toList)[i * 32 + j]? = some u
  by_cases hi : i < t
  ·rw [List.getElem?_append_left (by rw [jD]; omega)]
   exact ih i hi j u hu
  ·have e : i = t := by omega
   subst e
   rw [List.getElem?_append_right (by rw [jD]; omega), jD, Nat.add_sub_cancel_left]
   exact hu
theorem Xk (m : Int) : Try.prog.built 32 [(0, .int .u8 m)] = some (qb 32 (mkF m)) := by kernel_rfl
theorem Yu {w : World} {B T s n g cap : Nat} {xs : List Value} (h : w.ownsRow B T s (.slice (some ⟨g, 0, none⟩) n cap) n xs) (cells : List Value) (hc : cells.length = s) {u : Nat} (hu : u < n) :
  ∃ cur, Blk w g T cur ∧ u * s + s ≤ cur.size ∧ (w.setRow g (cur.toList.take (u * s) ++ cells ++ cur.toList.drop (u * s + s)).toArray).ownsRow B T s (.slice (some ⟨g, 0, none⟩) n cap) n (xs.take (u * s) ++ cells ++ xs.drop (u * s + s)) := by
 rcases h.2 with ⟨h1, _⟩ | ⟨g', cap', cur, h1, h2, h3, h4, h5, h6, h7⟩
 ·cases h1
 ·cases h1
  have hus : u * s + s ≤ n * s := by rw [← Nat.succ_mul]; exact Nat.mul_le_mul_right _ hu
  have hcs : n * s ≤ cur.size := by rw [h6]; exact Nat.mul_le_mul_right _ h4
  have hxl := h.1
  have e1 : xs.take (u * s) = cur.toList.take (u * s) := by rw [← h7, List.take_take, Nat.min_eq_left (by omega)]
  refine ⟨cur, h3, by omega, by simp only [List.length_append, List.length_take, List.length_drop, hc, hxl]; omega, .inr ⟨g, cap, _, rfl, h2, Blk.setRow h3 _, h4, h5, by simp only [List.size_toArray, List.length_append, List.length_take, List.length_drop, Array.length_toList, hc]; omega, ?_⟩⟩
  have hl1 : (cur.toList.take (u * s) ++ cells).length = u * s + s := by rw [List.length_append, List.length_take, Array.length_toList, hc, Nat.min_eq_left (by omega)]
  rw [show (List.toArray (cur.toList.take (u * s) ++ cells ++ cur.toList.drop (u * s + s))).toList = cur.toList.take (u * s) ++ cells ++ cur.toList.drop (u * s + s) from rfl, List.take_append, hl1, List.take_of_length_le (by omega), e1, ← h7, List.drop_take]
structure PM (w : World) (v : Value) (n : Nat) (m : Int) : Prop where
 ex : n = 0 ∨ ∃ g cap cur, v = .slice (some ⟨g, 0, none⟩) n cap ∧ Blk w g 32 cur ∧ cur.toList.take (n * 32) = yy m n
theorem VX {w : World} {B n k : Nat} {v : Value} {m : Int} {ys : List Value} {q : Value} (h : w.ownsRow B 32 32 q (n + k) (yy m n ++ ys)) (hv : ∃ g cap, v = .slice (some ⟨g, 0, none⟩) n cap ∧ q.ownBlock = some g) : PM w v n m := by
 obtain ⟨g, cap, rfl, hq⟩ := hv
 rcases h.2 with ⟨rfl, _⟩ | ⟨g', cap', cur, rfl, h2, h3, h4, h5, h6, h7⟩
 ·simp [Value.ownBlock] at hq
 ·simp [Value.ownBlock] at hq
  subst hq
  refine ⟨.inr ⟨g', cap, cur, rfl, h3, ?_⟩⟩
  have h8 := congrArg (List.take (n * 32)) h7
  have e : List.take (n * 32) (yy m n ++ ys) = yy m n := by rw [List.take_append_of_le_length (by rw [jD]; exact Nat.le_refl _), List.take_of_length_le (by rw [jD]; exact Nat.le_refl _)]
  rw [e, List.take_take, Nat.min_eq_left (by rw [Nat.add_mul]; omega)] at h8
  exact h8
theorem PM.grown {w w' : World} {v : Value} {n : Nat} {m : Int} {S : Nat → Prop} (h : PM w v n m) (hg : Grown w w' S) (hs : ∀ k, v.ownBlock = some k → ¬ S k) : PM w' v n m := by
 rcases h.ex with h0 | ⟨g, cap, cur, rfl, h2, h3⟩
 ·exact ⟨.inl h0⟩
 ·exact ⟨.inr ⟨g, cap, cur, rfl, hg.blk h2 (hs g (by simp [Value.ownBlock])), h3⟩⟩
theorem PM.rng {w : World} {v : Value} {n t : Nat} {m : Int} (h : PM w v n m) (ht : t < n) : ∃ g cap, v = .slice (some ⟨g, 0, none⟩) n cap ∧ w.rangeAt g (t * 32) (qb 32 (mkF m)).toList := by
 rcases h.ex with h0 | ⟨g, cap, cur, rfl, h2, h3⟩
 ·omega
 ·refine ⟨g, cap, rfl, fun j u hu => ?_⟩
  have hj : j < 32 := by have := (List.getElem?_eq_some_iff.1 hu).1; rwa [Array.length_toList, qB] at this
  have e2 : (cur.toList.take (n * 32))[t * 32 + j]? = some u := by rw [h3]; exact ZD m n t ht j u hu
  rw [List.getElem?_take, if_pos (by omega), Array.getElem?_toList] at e2
  exact h2.c _ e2
def kxB (a b : Value) (n : Int) : Array Value := #[a, b, .int .i64 n, .bool false]
theorem Dl : Box 0 kxB where
 g0 _ _ _ := rfl
 g1 _ _ _ := rfl
 g2 _ _ _ := rfl
 g3 _ _ _ := rfl
 s0 _ _ _ _ := rfl
 s1 _ _ _ _ := rfl
 s2 _ _ _ _ := rfl
 s3 _ _ _ := rfl
theorem BookIn.grown {kb T : Nat} {kx : Value → Value → Int → Array Value} {F S : Nat → Prop} {w w' : World} (h : BookIn kb T kx F w) (hg : Grown w w' S) (hk : ¬ S kb) (hF : ∀ k, F k → ¬ S k) : BookIn kb T kx F w' := by
 obtain ⟨lv, gv, N, A, B, n, h1, h2, h3, h4, h5⟩ := h
 exact ⟨lv, gv, N, A, B, n, hg.blk h1 hk, h2.grown hg hF, h3, h4, h5⟩
theorem BookIn.mono {kb T : Nat} {kx : Value → Value → Int → Array Value} {F G : Nat → Prop} {w : World} (h : BookIn kb T kx F w) (hF : ∀ k, F k → G k) : BookIn kb T kx G w := by
 obtain ⟨lv, gv, N, A, B, n, h1, h2, h3⟩ := h
 exact ⟨lv, gv, N, A, B, n, h1, ⟨h2.l, h2.g, h2.fa, h2.fb, fun k e => hF k (h2.F1 k e), fun k e => hF k (h2.F2 k e), fun i hi k e => hF k (h2.F3 i hi k e), fun i hi k e => hF k (h2.F4 i hi k e), h2.ne, h2.ta, h2.tb⟩, h3⟩
theorem Qi (w : World) (F : Nat → Prop) : BookIn w.heap.size 50 kxB F (w.alloc (.cells #[.slice none 0 0, .slice none 0 0, .int .i64 0, .bool false] 50)) :=
 ⟨.slice none 0 0, .slice none 0 0, 0, fun _ => .nilFunc, fun _ => .nilFunc, 0, Blk.new w 50 _, BkL.nil _ _ _ _, by decide, Int.le_refl _, by decide⟩
theorem Ur : Try.prog.built 50 [] = some #[.slice none 0 0, .slice none 0 0, .int .i64 0, .bool false] := by kernel_rfl
theorem Qj {kb : Nat} {F : Nat → Prop} {w : World} {vb : Value} {lb : List Int} (h : BookIn kb 50 kxB F w) (hF : ¬ F kb) (hvb : OwnT w vb lb) (hsep : ∀ k, vb.ownBlock = some k → ¬ F k) (hb : lb.length + 60 ≤ 140737488355328) : Calls Try.prog 16 #[.pointer (some ⟨kb, 0, none⟩), vb] w (Kw kb 50 kxB vb F w) := by
 obtain ⟨lv, gv, N, A, B, n, h1, h2, h3, h4, h5⟩ := h
 exact VP kb 0 50 kxB Dl (by decide) (by decide) lv gv N A B n F vb lb w h1 h2 h3 h4 h5 hF hvb hsep hb
theorem kw {kb : Nat} {F : Nat → Prop} {w : World} (h : BookIn kb 50 kxB F w) : Calls Try.prog 17 #[.pointer (some ⟨kb, 0, none⟩)] w fun e w' => e = .returned (.bool true) ∧ w' = w := by
 obtain ⟨lv, gv, N, A, B, n, h1, h2, h3, h4, h5⟩ := h
 exact yQ kb 0 50 kxB Dl lv gv N A B n F w h1 h2 h3
theorem vH {w : World} {B g n cap : Nat} {ls : List LV} (h : w.ownsRow B 54 5 (.slice (some ⟨g, 0, none⟩) n cap) n (ls.flatMap fun x => (lvA x).toList)) {i : Nat} {x : LV} (hx : ls[i]? = some x) (hi : i < n) : w.cell? ⟨g, i * 5 + 3, none⟩ = some x.c.v ∧ w.cell? ⟨g, i * 5 + 4, none⟩ = some x.pv := by
 rcases h.2 with ⟨h1, _⟩ | ⟨g', cap', cur, h1, h2, h3, h4, h5, h6, h7⟩
 ·cases h1
 ·cases h1
  have get : ∀ (j : Nat) (u : Value), (lvA x).toList[j]? = some u → w.cell? ⟨g, i * 5 + j, none⟩ = some u := fun j u hu => by
   have hj : j < 5 := (List.getElem?_eq_some_iff.mp hu).1
   have e2 : (cur.toList.take (n * 5))[i * 5 + j]? = some u := by rw [h7]; exact KX ls i x hx j u hu
   rw [List.getElem?_take, if_pos (by omega), Array.getElem?_toList] at e2
   exact (show Blk w g 54 cur from h3).c _ e2
  exact ⟨get 3 _ rfl, get 4 _ rfl⟩
def spS (v : Value) (ls : List LV) (k : Nat) : Prop := v.ownBlock = some k ∨ ∃ x ∈ ls, x.c.v.ownBlock = some k ∨ x.pv.ownBlock = some k
def spF (ls : List LV) (i lo hi : Nat) (k : Nat) : Prop := (∃ (j : Nat) (x : LV), j < i ∧ ls[j]? = some x ∧ x.c.v.ownBlock = some k) ∨ (lo ≤ k ∧ k < hi)
structure Sep (w : World) (v : Value) (ls : List LV) (b1 kb lo : Nat) : Prop where
 lv : ∀ k, v.ownBlock = some k → k < w.heap.size ∧ ∀ x ∈ ls, x.c.v.ownBlock ≠ some k ∧ x.pv.ownBlock ≠ some k
 lc : ∀ x ∈ ls, ∀ k, x.c.v.ownBlock = some k → k < w.heap.size ∧ ∀ y ∈ ls, y.pv.ownBlock ≠ some k
 lp : ∀ x ∈ ls, ∀ k, x.pv.ownBlock = some k → k < w.heap.size
 av : ∀ (i j : Nat) (x y : LV), ls[i]? = some x → ls[j]? = some y → i ≠ j → ∀ k, x.c.v.ownBlock = some k → y.c.v.ownBlock ≠ some k
 ap : ∀ (i j : Nat) (x y : LV), ls[i]? = some x → ls[j]? = some y → i ≠ j → ∀ k, x.pv.ownBlock = some k → y.pv.ownBlock ≠ some k
 hb1 : w.heap.size ≤ b1 ∧ b1 < lo
 hkb : w.heap.size ≤ kb ∧ kb < lo ∧ b1 ≠ kb
theorem WtN.sep {w : World} {B : Nat} {v : Value} {ls : List LV} {b1 kb lo : Nat} (h : WtN w B v ls) (h1 : w.heap.size ≤ b1 ∧ b1 < lo) (h2 : w.heap.size ≤ kb ∧ kb < lo ∧ b1 ≠ kb) : Sep w v ls b1 kb lo := by
 have tv : ∀ k, v.ownBlock = some k → Typ w k 54 := fun k hk => qn h.own hk
 have tc : ∀ x ∈ ls, ∀ k, x.c.v.ownBlock = some k → Typ w k 5 := fun x hx k hk => qn (h.rows x hx).1 hk
 have tp : ∀ x ∈ ls, ∀ k, x.pv.ownBlock = some k → Typ w k 32 := fun x hx k hk => qn (h.rows x hx).2 hk
 exact ⟨fun k hk => ⟨(tv k hk).lt, fun x hx => ⟨fun e => absurd ((tv k hk).one (tc x hx k e)) (by decide), fun e => absurd ((tv k hk).one (tp x hx k e)) (by decide)⟩⟩,
  fun x hx k hk => ⟨(tc x hx k hk).lt, fun y hy e => absurd ((tc x hx k hk).one (tp y hy k e)) (by decide)⟩, fun x hx k hk => (tp x hx k hk).lt, h.av, h.ap, h1, h2⟩
structure P1 (B : Nat) (w : World) (v : Value) (ls : List LV) (b1 kb lo : Nat) (N : Int) (ib ip ex : Nat) (wr : World) : Prop where
 gr : Grown w wr (spS v ls)
 bx : Blk wr b1 25 (wtA N v)
 lw : lo ≤ wr.heap.size
 bk : BookIn kb 50 kxB (spF ls ib lo wr.heap.size) wr
 own : wr.ownsRow B 54 5 v ls.length (ls.flatMap fun x => (lvA x).toList)
 val : ∀ (j : Nat) (x : LV), ls[j]? = some x → ib ≤ j → Own wr x.c.v x.c.l
 pth : ∀ (j : Nat) (x : LV), ls[j]? = some x → j ≠ ex → wr.ownsRow B 32 32 x.pv x.ps.length (if j < ip then yy ((j + 1 : Nat) : Int) x.ps.length else qF x.ps)
theorem P1.add {B : Nat} {w wr w1 : World} {v : Value} {ls : List LV} {b1 kb lo : Nat} {N : Int} {i ex : Nat} {e : Ending} (hS : Sep w v ls b1 kb lo) (h : P1 B w v ls b1 kb lo N i i ex wr) {x : LV} (hx : ls[i]? = some x) (hA : Kw kb 50 kxB x.c.v (spF ls i lo wr.heap.size) wr e w1) : P1 B w v ls b1 kb lo N (i + 1) i ex w1 := by
 obtain ⟨_, hb, hg⟩ := hA
 have hxm := List.mem_of_getElem? hx
 have hlo : w.heap.size ≤ lo := Nat.le_trans hS.hkb.1 (Nat.le_of_lt hS.hkb.2.1)
 have hz := hg.size
 have hlw := h.lw
 refine ⟨h.gr.next hg fun k hk he => ?_, hg.blk h.bx fun he => ?_, by omega, hb.mono fun k hk => ?_, qo h.own hg fun k hk he => ?_, fun j y hy hj => qo (h.val j y hy (by omega)) hg fun k hk he => ?_, fun j y hy hj => qo (h.pth j y hy hj) hg fun k hk he => ?_⟩
 ·rcases he with rfl | (⟨j, y, _, hy, e2⟩ | ⟨h1, _⟩) | e2
  ·have := hS.hkb.1; omega
  ·exact .inr ⟨y, List.mem_of_getElem? hy, .inl e2⟩
  ·omega
  ·exact .inr ⟨x, hxm, .inl e2⟩
 ·have hb1 := hS.hb1
  rcases he with e2 | (⟨j, y, _, hy, e2⟩ | ⟨h1, _⟩) | e2
  ·exact hS.hkb.2.2 e2
  ·have := (hS.lc y (List.mem_of_getElem? hy) _ e2).1; omega
  ·omega
  ·have := (hS.lc x hxm _ e2).1; omega
 ·rcases hk with (⟨j, y, h1, h2, h3⟩ | ⟨h1, h2⟩) | e2 | ⟨h1, h2⟩
  ·exact .inl ⟨j, y, by omega, h2, h3⟩
  ·exact .inr ⟨h1, by omega⟩
  ·exact .inl ⟨i, x, by omega, hx, e2⟩
  ·exact .inr ⟨by omega, h2⟩
 ·have h1 := hS.lv k hk
  rcases he with rfl | (⟨j, y, _, hy, e2⟩ | ⟨h2, _⟩) | e2
  ·have := hS.hkb.1; omega
  ·exact (h1.2 y (List.mem_of_getElem? hy)).1 e2
  ·omega
  ·exact (h1.2 x hxm).1 e2
 ·have h1 := hS.lc y (List.mem_of_getElem? hy) k hk
  rcases he with rfl | (⟨j', y', hj', hy', e2⟩ | ⟨h2, _⟩) | e2
  ·have := hS.hkb.1; omega
  ·exact hS.av j j' y y' hy hy' (by omega) k hk e2
  ·omega
  ·exact hS.av j i y x hy hx (by omega) k hk e2
 ·have h1 := hS.lp y (List.mem_of_getElem? hy) k hk
  rcases he with rfl | (⟨j', y', hj', hy', e2⟩ | ⟨h2, _⟩) | e2
  ·have := hS.hkb.1; omega
  ·exact (hS.lc y' (List.mem_of_getElem? hy') k e2).2 y (List.mem_of_getElem? hy) hk
  ·omega
  ·exact (hS.lc x hxm k e2).2 y (List.mem_of_getElem? hy) hk
theorem Sep.off {w : World} {v : Value} {ls : List LV} {b1 kb lo i hi : Nat} (hS : Sep w v ls b1 kb lo) : ¬ spF ls i lo hi kb := fun hF => by
 have h3 := hS.hkb
 rcases hF with ⟨j, y, _, hy, e2⟩ | ⟨h1, _⟩
 ·have h2 := (hS.lc y (List.mem_of_getElem? hy) _ e2).1
  omega
 ·omega
theorem Sep.sepv {w : World} {v : Value} {ls : List LV} {b1 kb lo i hi : Nat} (hS : Sep w v ls b1 kb lo) {x : LV} (hx : ls[i]? = some x) : ∀ k, x.c.v.ownBlock = some k → ¬ spF ls i lo hi k := fun k hk hF => by
 have h3 := hS.hkb
 rcases hF with ⟨j, y, hj, hy, e2⟩ | ⟨h1, _⟩
 ·exact hS.av i j x y hx hy (by omega) k hk e2
 ·have h2 := (hS.lc x (List.mem_of_getElem? hx) k hk).1
  omega
theorem P1.row {B : Nat} {w wr w1 : World} {v : Value} {ls : List LV} {b1 kb lo : Nat} {N : Int} {ib ip i g : Nat} (hS : Sep w v ls b1 kb lo) (h : P1 B w v ls b1 kb lo N ib ip i wr) {x : LV} (hx : ls[i]? = some x) (hp : x.pv.ownBlock = some g) (hg : Grown wr w1 fun k => k = g) : P1 B w v ls b1 kb lo N ib ip i w1 := by
 have hxm := List.mem_of_getElem? hx
 have hlg := hS.lp x hxm g hp
 have hlo : w.heap.size ≤ lo := Nat.le_trans hS.hkb.1 (Nat.le_of_lt hS.hkb.2.1)
 have hz := hg.size
 have hlw := h.lw
 have hF : ∀ k, spF ls ib lo wr.heap.size k → ¬ k = g := fun k hk e => by
  subst e
  rcases hk with ⟨j, y, _, hy, e2⟩ | ⟨h1, _⟩
  ·exact (hS.lc y (List.mem_of_getElem? hy) k e2).2 x hxm hp
  ·omega
 refine ⟨h.gr.next hg fun k hk he => .inr ⟨x, hxm, .inr (by rw [he]; exact hp)⟩, hg.blk h.bx fun he => by have := hS.hb1.1; omega, by omega, (h.bk.grown hg (fun e => by have := hS.hkb.1; omega) hF).mono fun k hk => ?_, qo h.own hg fun k hk he => ?_, fun j y hy hj => qo (h.val j y hy hj) hg fun k hk he => ?_, fun j y hy hj => qo (h.pth j y hy hj) hg fun k hk he => ?_⟩
 ·rcases hk with h1 | ⟨h1, h2⟩
  ·exact .inl h1
  ·exact .inr ⟨h1, by omega⟩
 ·subst he; exact ((hS.lv k hk).2 x hxm).2 hp
 ·subst he; exact (hS.lc y (List.mem_of_getElem? hy) k hk).2 x hxm hp
 ·subst he; exact hS.ap j i y x hy hx hj k hk hp
structure P2 (B : Nat) (w : World) (v : Value) (ls : List LV) (b1 kb lo hi : Nat) (N : Int) (i ex : Nat) (wr : World) : Prop where
 gr : Grown w wr (spS v ls)
 bx : Blk wr b1 25 (wtA N v)
 lw : lo ≤ hi ∧ hi ≤ wr.heap.size
 bk : BookIn kb 50 kxB (spF ls ls.length lo hi) wr
 own : wr.ownsRow B 54 5 v ls.length (ls.flatMap fun x => (lvA x).toList)
 pm : ∀ (j : Nat) (x : LV), ls[j]? = some x → j < i → PM wr x.pv x.ps.length ((j + 1 : Nat) : Int)
 pt : ∀ (j : Nat) (x : LV), ls[j]? = some x → i ≤ j → j ≠ ex → wr.ownsRow B 32 32 x.pv x.ps.length (yy ((j + 1 : Nat) : Int) x.ps.length)
theorem P1.two {B : Nat} {w wr : World} {v : Value} {ls : List LV} {b1 kb lo : Nat} {N : Int} (h : P1 B w v ls b1 kb lo N ls.length ls.length ls.length wr) : P2 B w v ls b1 kb lo wr.heap.size N 0 ls.length wr :=
 ⟨h.gr, h.bx, ⟨h.lw, Nat.le_refl _⟩, h.bk, h.own, fun j x _ hj => by omega, fun j x hx _ hj => by
  have h1 := h.pth j x hx hj
  rw [if_pos (List.getElem?_eq_some_iff.mp hx).1] at h1
  exact h1⟩
theorem P2.step {B : Nat} {w wr w1 : World} {v : Value} {ls : List LV} {b1 kb lo hi : Nat} {N : Int} {i : Nat} {S : Nat → Prop} (hS : Sep w v ls b1 kb lo) (h : P2 B w v ls b1 kb lo hi N i i wr) {x : LV} (hx : ls[i]? = some x) (hg : Grown wr w1 S) (hs : ∀ k, k < wr.heap.size → S k → x.pv.ownBlock = some k ∨ hi ≤ k) : P2 B w v ls b1 kb lo hi N i i w1 := by
 have hxm := List.mem_of_getElem? hx
 have hlo : w.heap.size ≤ lo := Nat.le_trans hS.hkb.1 (Nat.le_of_lt hS.hkb.2.1)
 have hz := hg.size
 have hlw := h.lw
 have hzw := h.gr.size
 have key : ∀ k, k < hi → k < wr.heap.size → S k → x.pv.ownBlock = some k := fun k h1 h2 h3 => by
  rcases hs k h2 h3 with h4 | h4
  ·exact h4
  ·omega
 have hF : ∀ k, spF ls ls.length lo hi k → ¬ S k := fun k hk e => by
  rcases hk with ⟨j, y, _, hy, e2⟩ | ⟨h1, h2⟩
  ·have h3 := hS.lc y (List.mem_of_getElem? hy) k e2
   exact h3.2 x hxm (key k (by omega) (by omega) e)
  ·have := hS.lp x hxm k (key k h2 (by omega) e); omega
 refine ⟨h.gr.next hg fun k hk he => ?_, hg.blk h.bx fun he => ?_, by omega, h.bk.grown hg (fun e => ?_) hF, qo h.own hg fun k hk he => ?_, fun j y hy hj => (h.pm j y hy hj).grown hg fun k hk he => ?_, fun j y hy hj hje => qo (h.pt j y hy hj hje) hg fun k hk he => ?_⟩
 ·exact .inr ⟨x, hxm, .inr (key k (by omega) (by omega) he)⟩
 ·have hb := hS.hb1
  have := hS.lp x hxm _ (key _ (by omega) h.bx.lt he); omega
 ·have hb := hS.hkb
  have := hS.lp x hxm _ (key _ (by omega) (by omega) e); omega
 ·have h1 := hS.lv k hk
  exact (h1.2 x hxm).2 (key k (by omega) (by omega) he)
 ·have h1 := hS.lp y (List.mem_of_getElem? hy) k hk
  exact hS.ap j i y x hy hx (by omega) k hk (key k (by omega) (by omega) he)
 ·have h1 := hS.lp y (List.mem_of_getElem? hy) k hk
  exact hS.ap j i y x hy hx hje k hk (key k (by omega) (by omega) he)
structure P4 (w : World) (v : Value) (ls : List LV) (b1 kb lo hi : Nat) (N : Int) (wr : World) : Prop where
 gr : Grown w wr (spS v ls)
 bx : Blk wr b1 25 (wtA N v)
 lw : lo ≤ hi ∧ hi ≤ wr.heap.size
 bk : BookIn kb 50 kxB (spF ls ls.length lo hi) wr
 lf : ls.length = 0 ∨ ∃ g cap cur, v = .slice (some ⟨g, 0, none⟩) ls.length cap ∧ Blk wr g 54 cur ∧ ls.length * 5 ≤ cur.size
theorem De {w : World} {B n m : Nat} {v l : Value} {xs : List Value} (h : w.ownsRow B 54 5 l (n + m) xs) (hv : ∃ g cap, v = .slice (some ⟨g, 0, none⟩) n cap ∧ l.ownBlock = some g) : ∃ g cap cur, v = .slice (some ⟨g, 0, none⟩) n cap ∧ Blk w g 54 cur ∧ n * 5 ≤ cur.size := by
 obtain ⟨g, cap, rfl, hq⟩ := hv
 rcases h.2 with ⟨rfl, _⟩ | ⟨g', cap', cur, rfl, h2, h3, h4, h5, h6, h7⟩
 ·simp [Value.ownBlock] at hq
 ·simp [Value.ownBlock] at hq
  subst hq
  exact ⟨g', cap, cur, rfl, h3, by omega⟩
theorem P2.four {B : Nat} {w wr : World} {v : Value} {ls : List LV} {b1 kb lo hi : Nat} {N : Int} {i ex : Nat} (h : P2 B w v ls b1 kb lo hi N i ex wr) : P4 w v ls b1 kb lo hi N wr := by
 refine ⟨h.gr, h.bx, h.lw, h.bk, ?_⟩
 rcases h.own.2 with ⟨_, h0⟩ | ⟨g, cap, cur, hv, _, h3, h4, _, h6, _⟩
 ·exact .inl h0
 ·exact .inr ⟨g, cap, cur, hv, h3, by omega⟩
theorem P4.step {w wr w1 : World} {v : Value} {ls : List LV} {b1 kb lo hi : Nat} {N : Int} {S : Nat → Prop} (hS : Sep w v ls b1 kb lo) (h : P4 w v ls b1 kb lo hi N wr) (hg : Grown wr w1 S) (hs : ∀ k, k < wr.heap.size → S k → v.ownBlock = some k ∨ hi ≤ k) (hl : (∃ k, v.ownBlock = some k ∧ S k) → ls.length = 0 ∨ ∃ g cap cur, v = .slice (some ⟨g, 0, none⟩) ls.length cap ∧ Blk w1 g 54 cur ∧ ls.length * 5 ≤ cur.size) : P4 w v ls b1 kb lo hi N w1 := by
 have hlo : w.heap.size ≤ lo := Nat.le_trans hS.hkb.1 (Nat.le_of_lt hS.hkb.2.1)
 have hz := hg.size
 have hlw := h.lw
 have hzw := h.gr.size
 have key : ∀ k, k < hi → k < wr.heap.size → S k → v.ownBlock = some k := fun k h1 h2 h3 => by
  rcases hs k h2 h3 with h4 | h4
  ·exact h4
  ·omega
 have hF : ∀ k, spF ls ls.length lo hi k → ¬ S k := fun k hk e => by
  rcases hk with ⟨j, y, _, hy, e2⟩ | ⟨h1, h2⟩
  ·have h3 := hS.lc y (List.mem_of_getElem? hy) k e2
   exact ((hS.lv k (key k (by omega) (by omega) e)).2 y (List.mem_of_getElem? hy)).1 e2
  ·have := (hS.lv k (key k h2 (by omega) e)).1; omega
 refine ⟨h.gr.next hg fun k hk he => .inl (key k (by omega) (by omega) he), hg.blk h.bx fun he => ?_, by omega, h.bk.grown hg (fun e => ?_) hF, ?_⟩
 ·have hb := hS.hb1
  have := (hS.lv _ (key _ (by omega) h.bx.lt he)).1; omega
 ·have hb := hS.hkb
  have := (hS.lv _ (key _ (by omega) (by omega) e)).1; omega
 ·by_cases he : ∃ k, v.ownBlock = some k ∧ S k
  ·exact hl he
  ·rcases h.lf with h0 | ⟨g, cap, cur, hv, h1, h2⟩
   ·exact .inl h0
   ·exact .inr ⟨g, cap, cur, hv, hg.blk h1 fun e => he ⟨g, by rw [hv]; simp [Value.ownBlock], e⟩, h2⟩
end Go.Proofs.Ytdpcjfafbmhceaa
