import Derived.Test.YtdpcjfafbmhceaaA06
import Derived.Deep.RegionHeld3
set_option maxRecDepth 8000
namespace Go.Proofs.Ytdpcjfafbmhceaa
open Go.RowKit
set_option linter.unusedSimpArgs false
set_option linter.unusedVariables false
theorem DV (w : World) (vs : Array Value) : (callFunc 23 vs).run Try.prog w = .ok (.enter 23 vs) w := by kernel_rfl
theorem Zg (w : World) : (Instr.alloc 87 true (.tuple #[])).run Try.prog w = .ok (.pointer (some ⟨w.heap.size, 0, none⟩)) (w.alloc (.cells (qb 8 fun _ => 0) 87)) := by kernel_rfl
def leF (n t : Nat) : Nat → Int := fun i => if i < t then (n : Int) / 2 ^ (8 * i) % 256 else 0
theorem ZR (n t : Nat) : qb 8 (upd (leF n t) t ((n : Int) / 2 ^ (8 * t) % 256)) = qb 8 (leF n (t + 1)) := by
 refine jd fun i _ => ?_
 unfold upd leF
 by_cases h : i = t
 ·subst h; simp
 ·rw [if_neg h]
  by_cases h2 : i < t
  ·rw [if_pos h2, if_pos (by omega)]
  ·rw [if_neg h2, if_neg (by omega)]
theorem Vm (n : Nat) : hl 8 (leF n 8) = le8 n := by
 unfold hl le8 leF
 refine List.map_congr_left fun i hi => ?_
 rw [if_pos (List.mem_range.1 hi)]
theorem RsV.of_owns {w : World} {B : Nat} {v : Value} {us : List Value} {rs : List (List Int)} (ho : w.ownsRow B 42 1 v us.length us) (hp : 0 < us.length) (he : us.length = rs.length) (hr : ∀ (j : Nat) (u : Value) (l : List Int), us[j]? = some u → rs[j]? = some l → RowAt w u l) : RsV w v us rs := by
 obtain ⟨a, c, rfl⟩ := qE ho
 obtain ⟨g, rfl, _, _⟩ := vE ho hp (List.getElem?_eq_getElem hp)
 refine ⟨he, hr, .inr ⟨g, c, rfl, fun j u hu => ?_⟩⟩
 obtain ⟨g', e', h1, _⟩ := vE ho (List.getElem?_eq_some_iff.1 hu).1 hu
 injection e' with e'
 injection e' with e'
 subst e'
 exact h1
theorem qv {ops : Array Oper} {S : World → Prop} {op : Oper} {a : Act} (hw : Region.wanted op (yielded ops a.tmps) = true) (x : Operand) (ty : TypeId) (ho : op.op = .load ty x) (b o : Nat) (hx : a.eval x = .pointer (some ⟨b, o, none⟩)) (cs : Array Value) (d : TypeDesc) (hu : Try.prog.underlying ty = some d) (hd : d.isRow = true) (hi : (Try.prog.info? ty).map (·.size) = some cs.size) (hS : ∀ w, S w → w.rangeAt b o cs.toList) : YieldsIf Try.prog ops S op (.agg cs) a := by
 have h := yieldsIf_load_mid (P := Try.prog) (ops := ops) (S := S) (op := op) (a := a) hw ty x ho b o hx cs.toList d hS hu hd (by rw [Array.length_toList]; exact hi)
 rw [Array.toArray_toList] at h
 exact h
theorem jw (n : Nat) (vx : Value) (us : List Value) (rs : List (List Int)) (w : World) (hx : RsV w vx us rs) (hn : us.length ≤ 50) (hl : rs.flatten.length + 9 ≤ 140737650005000) :
  Calls Try.prog 24 #[.int .i64 (n : Int), vx] w fun e w' => e = .returned (.agg (qb 32 (qy (2 :: (le8 n ++ rs.flatten))))) ∧ Below w.heap.size w w' := by
 have HX := kk hx
 have HN := kk hn
 have HL := kk hl
 clear hx hn hl
 go_enter Try.func24, Try.ntmps24
 refine wp_seq_k fun K1 hK1 => rgn (zO 32 qm fun r w1 hr0 R1 b1 => ?_)
 have hrw := lh hr0
 have X1 := kk (HX.o.below b1.o)
 refine WL.nil (hK1 _ _ (wp_seq_k fun K2 hK2 => rgn (zO 87 Zg fun d w2 hd0 D2 b2 => ?_)))
 have R2 := kbx R1 b2.o
 have B2 := tb b1 b2.o
 have hdw : Keep (w.heap.size ≤ d) := ⟨by rw [hd0.o]; exact b1.o.size⟩
 have hrd : Keep (r ≠ d) := ⟨zr R2.o D2.o (by decide)⟩
 clear R1 b1 b2 X1 hd0 hr0
 refine WL.nil (hK2 _ _ (wp_seq_k fun K3 hK3 => wp_seq_k fun K4 hK4 => rgn (Vv (.int .i64 0) (h:=WL.nil (hK4 _ _ (wp_block (?_)))))))
 refine wp_loop (fun ac wr => ∃ (t : Nat), ac = apF (fun f => { tmps := #[.int .i64 (n : Int), vx, undef, undef, .pointer (some ⟨r, 0, none⟩), .pointer (some ⟨d, 0, none⟩), f 6, .int .i64 (t : Int), f 8, f 9, f 10, f 11, f 12, f 13, f 14, f 15, f 16, f 17, undef, undef, undef, undef, undef], defers := [] }) ac ∧ t ≤ 8 ∧ Blk wr d 87 (qb 8 (leF n t)) ∧ Blk wr r 32 (qb 32 fun _ => 0) ∧ Below w.heap.size w wr) (fun a _ => 8 - (intOf (a.tmps.getD 7 undef)).toNat) ⟨0, rfl, by omega, (by have h := D2.o; rw [show (fun _ => 0 : Nat → Int) = leF n 0 from by funext i; simp [leF]] at h; exact h), R2.o, B2.o⟩ ?_
 rintro ac wr ⟨t, hac, ht, hD, hR, hB⟩
 obtain ⟨f, rfl⟩ := unF hac
 have D3 := kk hD
 have R3 := kk hR
 have B3 := kk hB
 clear hD hR hB
 by_cases htl : t < 8
 ·have htl' : (t : Int) < 8 := by omega
  have hs0 : 0 ≤ 8 * (t : Int) := by omega
  have hs1 : 8 * (t : Int) ≤ 64 := by omega
  have hs2 : (8 * (t : Int)).toNat = 8 * t := by omega
  have hw1 : IntKind.i64.wrap (8 * (t : Int)) = 8 * (t : Int) := by rw [IntKind.wrap_i64]; omega
  have hw2 : IntKind.u8.wrap ((n : Int) / 2 ^ (8 * t)) = (n : Int) / 2 ^ (8 * t) % 256 := IntKind.wrap_u8 _
  have hw3 : IntKind.i64.wrap ((t : Int) + 1) = ((t + 1 : Nat) : Int) := by rw [IntKind.wrap_i64]; omega
  refine wp_seq_k fun K5 hK5 => rgn (Vt (h:=WL.nil (hK5 _ _ (wp_seq_k fun K6 hK6 => Ct (h:=wp_skip (hK6 _ _ (wp_seq_k fun K7 hK7 => wp_block (wp_seq_k fun K8 hK8 => rgn (Vv (.int .i64 (t : Int)) (h:=Vv (.int .i64 (t : Int)) (h:=WL.nil (hK8 _ _ (rgn (Vv (.int .i64 (t : Int)) (h:=?_)))))))))))))))
  refine Vv (.int .i64 (n : Int)) (h:=Vv (.int .i64 (t : Int)) (h:=Vv (.int .i64 (8 * (t : Int))) (h:=Vv (.int .i64 ((n : Int) / 2 ^ (8 * t))) (h:=Vv (.int .u8 ((n : Int) / 2 ^ (8 * t) % 256)) (h:=Vv (.pointer (some ⟨d, t, none⟩)) (h:=?_))))))
  have f_o := D3.o.frozen t
  have c_o := D3.o.c t (qN 8 _ t htl)
  refine WL.cell (by kernel_rfl) (wr.setCell ⟨d, t, none⟩ (.int .u8 ((n : Int) / 2 ^ (8 * t) % 256))) (by go_simp) ?_
  clear f_o c_o
  have D4 : Keep (Blk (wr.setCell ⟨d, t, none⟩ (.int .u8 ((n : Int) / 2 ^ (8 * t) % 256))) d 87 (qb 8 (leF n (t + 1)))) := ⟨by have h := D3.o.set t (.int .u8 ((n : Int) / 2 ^ (8 * t) % 256)); rw [zZ, ZR] at h; exact h⟩
  have R4 := kk (R3.o.set_ne (j := t) hrd.o (.int .u8 ((n : Int) / 2 ^ (8 * t) % 256)))
  have B4 : Keep (Below w.heap.size w (wr.setCell ⟨d, t, none⟩ (.int .u8 ((n : Int) / 2 ^ (8 * t) % 256)))) := ⟨B3.o.trans ((Grown.setCell wr d t (.int .u8 ((n : Int) / 2 ^ (8 * t) % 256)) (S := fun k => k = d) fun _ => rfl).to_below (fun k hk e => by have := hdw.o; omega) B3.o.size)⟩
  generalize wr.setCell ⟨d, t, none⟩ (.int .u8 ((n : Int) / 2 ^ (8 * t) % 256)) = w4 at *
  clear D3 R3 B3
  simp only [Act.put]
  refine WL.nil (hK7 _ _ (rgn (Vv (.int .i64 ((t + 1 : Nat) : Int)) (h:=Vv (.int .i64 ((t + 1 : Nat) : Int)) (h:=?_)))))
  refine WL.nil ?_
  refine ⟨⟨t + 1, rfl, by omega, D4.o, R4.o, B4.o⟩, ?_⟩
  simp only [intOf]; show 8 - (((t + 1 : Nat) : Int)).toNat < 8 - ((t : Int)).toNat; omega
 ·have e8 : t = 8 := by omega
  have htl' : ¬ (t : Int) < 8 := by omega
  have Y3 : Keep (RowAt wr (.slice (some ⟨d, 0, none⟩) 8 8) (le8 n)) := ⟨by have h := xR D3.o; rw [e8, Vm] at h; exact h⟩
  have X3 : Keep (RsV wr vx us rs) := ⟨HX.o.below B3.o⟩
  clear D3
  refine wp_seq_k fun K9 hK9 => rgn (Vf (h:=WL.nil (hK9 _ _ (wp_seq_k fun K10 hK10 => Cf (h:=wp_exit (hK3 _ _ (wp_seq_k fun K11 hK11 => rgn (Vv (.slice (some ⟨d, 0, none⟩) 8 8) (h:=?_)))))))))
  refine WL.bs (by kernel_rfl) 48 1 _ rfl #[(0, .slice (some ⟨d, 0, none⟩) 8 8)] (by simp [Act.eval]) _ _ (kv _ _ _ wr) ?_
  have O5 : Keep ((wr.alloc (.cells #[.slice (some ⟨d, 0, none⟩) 8 8] 42)).ownsRow wr.heap.size 42 1 (.slice (some ⟨wr.heap.size, 0, none⟩) 1 1) 1 [.slice (some ⟨d, 0, none⟩) 8 8]) := ⟨rfl, .inr ⟨wr.heap.size, 1, _, rfl, Nat.le_refl _, Blk.new wr 42 _, Nat.le_refl _, by decide, rfl, rfl⟩⟩
  have b5 := kk (qg wr (.cells #[.slice (some ⟨d, 0, none⟩) 8 8] 42))
  have Q5 := kk (Blk.new wr 42 #[.slice (some ⟨d, 0, none⟩) 8 8])
  generalize wr.alloc (.cells #[.slice (some ⟨d, 0, none⟩) 8 8] 42) = w5 at *
  obtain ⟨g2, hg2⟩ := nm wr
  rw [← hg2.o] at O5 Q5 ⊢
  have R5 := kbx R3 b5.o
  have Y5 := kk (Y3.o.below b5.o)
  have X5 := kk (X3.o.below b5.o)
  have B5 := tb B3 b5.o
  have hrg : Keep (r ≠ g2) := ⟨by have := R3.o.lt; have := hg2.o; omega⟩
  have hgw : Keep (w.heap.size ≤ g2) := ⟨by have := B3.o.size; have := hg2.o; omega⟩
  have hgs : Keep (g2 ≤ w5.heap.size) := ⟨by rw [hg2.o]; exact b5.o.size⟩
  have NX5 : Keep (∀ (u : Value) (l : List Int), RowAt w5 u l → l ≠ [] → u.ownBlock ≠ some g2) := ⟨fun u l hu hl => XA Q5.o hu hl⟩
  clear Q5 R3 Y3 X3 b5 B3
  simp only [Act.put, pqA, pqB, pqC]
  refine VlS (vx) ?_
  refine WL.appRs (by kernel_rfl) (.tmp 19) (.tmp 20) rfl (.slice (some ⟨g2, 0, none⟩) 1 1) vx g2 1 _ us rs rfl rfl O5.o X5.o (by have := HN.o; omega) hgs.o ?_
  intro v6 w6 k1 k2 k3
  have R6 := kk (k2.blk R5.o fun e => by simp [Value.ownBlock] at e; exact hrg.o e.symm)
  have B6 : Keep (Below w.heap.size w w6) := ⟨B5.o.trans (k2.to_below (fun k hk e => by simp [Value.ownBlock] at e; have := hgw.o; omega) B5.o.size)⟩
  have T6 : ∀ (u : Value) (l : List Int), RowAt w5 u l → RowAt w6 u l := fun u l hu => by
   by_cases hl : l = []
   ·subst hl
    rcases hu with h | h | ⟨q, off, cap, h1, h2, h3⟩
    ·exact .inl h
    ·exact .inr (.inl h)
    ·exact .inr (.inr ⟨q, off, cap, h1, h2, fun i hi => by simp at hi⟩)
   ·exact hu.grown k2 fun k hk _ e => by simp [Value.ownBlock] at e; rw [← e] at hk; exact NX5.o u l hu hl hk
  have X6 : Keep (RsV w6 v6 ([.slice (some ⟨d, 0, none⟩) 8 8] ++ us) (le8 n :: rs)) := ⟨RsV.of_owns (by rw [List.length_append]; exact k1) (by simp) (by simp [X5.o.1]) (fun j u l hu hl => by
   cases j with
   | zero => simp at hu hl; subst hu hl; exact T6 _ _ Y5.o
   | succ j => simp at hu hl; exact T6 _ _ (X5.o.2.1 j u l hu hl))⟩
  clear k1 k2 k3 T6
  simp only [Act.put, pqA, pqB, pqC]
  refine ClS (vs := #[.int .u8 2, v6]) (yT 2 v6 _ _ w6 X6.o (by simp; have := HN.o; omega) (by rw [List.flatten_cons, List.length_append, xl]; have := HL.o; omega)) ?_
  rintro e w8 ⟨rfl, k1⟩
  refine ⟨_, rfl, ?_⟩
  rw [show 2 :: (le8 n :: rs).flatten = 2 :: (le8 n ++ rs.flatten) from by simp]
  have R8 := kbx R6 k1
  have B8 := tb B6 k1
  clear k1
  refine StR (qb 32 (qy (2 :: (le8 n ++ rs.flatten)))) R8.o (qd _) (qh _ _ _) (qi _ _) ?_
  have R9 := kk (R8.o.setRow (qb 32 (qy (2 :: (le8 n ++ rs.flatten)))))
  have B9 : Keep (Below w.heap.size w (w8.setRow r (qb 32 (qy (2 :: (le8 n ++ rs.flatten)))))) := ⟨qf B8.o hrw.o _⟩
  generalize w8.setRow r (qb 32 (qy (2 :: (le8 n ++ rs.flatten)))) = w9 at *
  refine WL.nil (hK11 _ _ (wp_ret ?_))
  try simp only [Exit.inBlock, Exit.then]
  refine bodyPost_ret (v := .agg (qb 32 (qy (2 :: (le8 n ++ rs.flatten))))) (results_cell_row Try.results24 _ _ r 32 _ (0, 0) _ rfl R9.o Try.underlying32 rfl (qd _)) rfl ⟨rfl, B9.o⟩
theorem zK (w : World) : (Instr.alloc 44 true (.tuple #[])).run Try.prog w = .ok (.pointer (some ⟨w.heap.size, 0, none⟩)) (w.alloc (.cells #[.int .i64 0, .string ByteArray.empty, .slice none 0 0] 44)) := by kernel_rfl
theorem jx (B : Nat) (v : Value) (L : List CV) (w : World) (hC : CsV B w v L) (hB : B ≤ w.heap.size) (hN : L.length ≤ 4398046511104) :
  Calls Try.prog 23 #[v] w fun e w' => e = .returned (.int .i64 (qt L)) ∧ Below w.heap.size w w' := by
 obtain ⟨n, hn⟩ : ∃ z, Keep (L.length = z) := ⟨_, ⟨rfl⟩⟩
 obtain ⟨la, cap, rfl, hC'⟩ : ∃ la cap, v = .slice la n cap ∧ (0 < n → ∃ b off, la = some ⟨b, off, none⟩ ∧ CsAt B w b off L) := by
  rcases hC with ⟨a, c, rfl, rfl⟩ | ⟨b, off, cap, rfl, h2, h3⟩
  ·exact ⟨a, c, by rw [← hn.o]; rfl, fun h => by have := hn.o; simp at this; omega⟩
  ·exact ⟨_, cap, by rw [hn.o], fun _ => ⟨b, off, rfl, h3⟩⟩
 have HC := kk hC'
 have HB := kk hB
 have HN : Keep (n ≤ 4398046511104) := ⟨by rw [← hn.o]; exact hN⟩
 clear hC hC' hB hN
 go_enter Try.func23, Try.ntmps23
 refine wp_seq_k fun K1 hK1 => rgn (Vv (.int .i64 0) (h:=WL.nil (hK1 _ _ (wp_seq_k fun K2 hK2 => wp_seq_k fun K3 hK3 => rgn (Vv (.slice la n cap) (h:=Vv (.int .i64 (n : Int)) (h:=Vv (.int .i64 0) (h:=WL.nil (hK3 _ _ (wp_block (?_)))))))))))
 refine wp_loop (fun ac wr => ∃ (t : Nat), ac = apF (fun f => { tmps := #[.slice la n cap, undef, f 2, undef, f 4, undef, .slice la n cap, .int .i64 (n : Int), .int .i64 (t : Int), f 9, f 10, f 11, f 12, f 13, f 14, f 15, f 16, undef, undef, undef, undef, undef, undef, undef, undef, undef, undef, undef, undef, undef, undef, undef, undef, undef, undef, undef, undef, undef, undef, undef], defers := [] }) ac ∧ t ≤ n ∧ Below w.heap.size w wr ∧ (∀ (i : Nat) (c : CV), i < t → L[i]? = some c → zi c.k = true)) (fun a _ => n - (intOf (a.tmps.getD 8 undef)).toNat) ⟨0, rfl, by omega, Below.refl _ _, fun i c hi _ => by omega⟩ ?_
 rintro ac wr ⟨t, hac, ht, hb, hI⟩
 obtain ⟨f, rfl⟩ := unF hac
 have B1 := kk hb
 have HI := kk hI
 clear hb hI
 by_cases htl : t < n
 ·have htl' : (t : Int) < (n : Int) := by omega
  obtain ⟨b, off, hla, hcx⟩ := HC.o (by omega)
  subst hla
  have HX : Keep (CsAt B wr b off L) := ⟨hcx.below (B1.o.mono HB.o)⟩
  clear hcx
  obtain ⟨c, Hc⟩ : ∃ z, Keep (L[t]? = some z) := ⟨L[t]'(by rw [hn.o]; exact htl), ⟨List.getElem?_eq_getElem _⟩⟩
  have Hco : Keep (∃ a m k, c.v = .slice a m k) := ⟨by
   obtain ⟨a, m, e⟩ := qR (HX.o.row c (List.mem_of_getElem? Hc.o)).1
   exact ⟨_, _, _, e⟩⟩
  refine wp_seq_k fun K4 hK4 => rgn (Vt (h:=WL.nil (hK4 _ _ (wp_seq_k fun K5 hK5 => Ct (h:=wp_skip (hK5 _ _ (wp_seq_k fun K6 hK6 => wp_block (wp_seq_k fun K7 hK7 => rgn (Vv (.pointer (some ⟨b, off + t * 3, none⟩)) (h:=?_))))))))))
  refine WL.midA (by kernel_rfl) 44 (.tmp 10) rfl b (off + t * 3) rfl #[.int .i64 c.k, .string c.s, c.v] _ (HX.o.at_ t c Hc.o) Try.underlying44 rfl (qw _ _ _) ?_
  simp only [Act.put, pqA, pqB, pqC]
  refine zO 44 zK fun z w3 hz0 Z3 b3 => ?_
  refine StR #[.int .i64 c.k, .string c.s, c.v] Z3.o (qw _ _ _) rfl (by obtain ⟨a_, m_, k_, e_⟩ := Hco.o; rw [e_]; simp [Value.oneCell']) ?_
  have Z4 := kk (Z3.o.setRow #[.int .i64 c.k, .string c.s, c.v])
  have B4 : Keep (Below w.heap.size w (w3.setRow z #[.int .i64 c.k, .string c.s, c.v])) := ⟨qf (B1.o.trans (b3.o.mono B1.o.size)) (by rw [hz0.o]; exact B1.o.size) _⟩
  generalize w3.setRow z #[.int .i64 c.k, .string c.s, c.v] = w4 at *
  clear Z3 b3
  have z0 := Z4.o.c 0 (by rfl : (#[.int .i64 c.k, .string c.s, c.v] : Array Value)[0]? = some (.int .i64 c.k))
  refine WL.nil (hK7 _ _ (wp_seq_k fun K8 hK8 => rgn (Vv (.pointer (some ⟨z, 0, none⟩)) (h:=Vv (.int .i64 c.k) (h:=?_)))))
  clear z0
  refine ClS (vs := #[.int .i64 c.k]) (zL c.k _) ?_
  rintro e w1_ ⟨rfl, hw_⟩
  refine ⟨_, rfl, ?_⟩
  have hw_ := hw_.symm
  subst hw_
  refine Vv (.bool (!zi c.k)) (h:=WL.nil (hK8 _ _ (?_)))
  cases hkm : zi c.k
  ·simp only [Bool.not_false]
   refine Ct (h:=wp_seq_k fun K9 hK9 => rgn (Vv (.int .i64 40) (h:=WL.nil (hK9 _ _ (wp_ret ?_)))))
   go_ret
   exact ⟨by rw [qt, ZL Hc.o hkm]; rfl, B4.o⟩
  ·simp only [Bool.not_true]
   have hw3 : IntKind.i64.wrap ((t : Int) + 1) = ((t + 1 : Nat) : Int) := by rw [IntKind.wrap_i64]; have := HN.o; omega
   refine Cf (h:=wp_skip (hK6 _ _ (rgn (Vv (.int .i64 ((t + 1 : Nat) : Int)) (h:=Vv (.int .i64 ((t + 1 : Nat) : Int)) (h:=?_))))))
   refine WL.nil ?_
   refine ⟨⟨t + 1, rfl, by omega, B4.o, fun i d hi hd => ?_⟩, ?_⟩
   ·by_cases e : i = t
    ·subst e; rw [Hc.o] at hd; injection hd with hd; subst hd; exact hkm
    ·exact HI.o i d (by omega) hd
   ·simp only [intOf]; show n - (((t + 1 : Nat) : Int)).toNat < n - ((t : Int)).toNat; omega
 ·have htl' : ¬ (t : Int) < (n : Int) := by omega
  have HKy : Keep (∀ (i : Nat) (c : CV), i < L.length → L[i]? = some c → zi c.k = true) := ⟨fun i c hi hc => HI.o i c (by rw [hn.o] at hi; omega) hc⟩
  refine wp_seq_k fun K10 hK10 => rgn (Vf (h:=WL.nil (hK10 _ _ (wp_seq_k fun K11 hK11 => Cf (h:=wp_exit (hK2 _ _ (wp_seq_k fun K12 hK12 => wp_seq_k fun K13 hK13 => rgn (Vv (.int .i64 1) (h:=WL.nil (hK13 _ _ (wp_block (?_))))))))))))
  refine wp_loop (fun ac wq => ∃ (u : Nat), ac = apF (fun g => { tmps := #[.slice la n cap, undef, g 2, undef, f 4, .int .i64 ((u + 1 : Nat) : Int), .slice la n cap, .int .i64 (n : Int), .int .i64 (t : Int), .bool false, f 10, f 11, f 12, f 13, f 14, f 15, f 16, g 17, g 18, g 19, g 20, g 21, g 22, g 23, g 24, g 25, g 26, g 27, g 28, g 29, g 30, g 31, g 32, g 33, g 34, g 35, g 36, g 37, g 38, g 39], defers := [] }) ac ∧ u ≤ n ∧ Below w.heap.size w wq ∧ (∀ (i : Nat) (c d : CV), i < u → L[i]? = some c → L[i + 1]? = some d → zC c.k c.s d.k d.s = true)) (fun a _ => n + 1 - (intOf (a.tmps.getD 5 undef)).toNat) ⟨0, rfl, by omega, B1.o, fun i c d hi _ _ => by omega⟩ ?_
  rintro ac wq ⟨u, hac, hu, hb2, hJ⟩
  obtain ⟨g, rfl⟩ := unF hac
  have BB := kk hb2
  have HJ := kk hJ
  clear hb2 hJ
  by_cases hul : u + 1 < n
  ·have hul' : ((u + 1 : Nat) : Int) < (n : Int) := by omega
   have hw4 : IntKind.i64.wrap (((u + 1 : Nat) : Int) - 1) = (u : Int) := by rw [IntKind.wrap_i64]; have := HN.o; omega
   have hul2 : (u : Int) < (n : Int) := by omega
   have hul3 : (u : Int) + 1 < (n : Int) := by omega
   have hul4 : ¬ (u : Int) + 1 < 0 := by omega
   have hw8 : IntKind.i64.wrap (u : Int) = (u : Int) := by rw [IntKind.wrap_i64]; have := HN.o; omega
   have hw6 : IntKind.i64.wrap ((u : Int) + 1 - 1) = (u : Int) := by rw [IntKind.wrap_i64]; have := HN.o; omega
   obtain ⟨b, off, hla, hcx⟩ := HC.o (by omega)
   subst hla
   have HX0 := kk hcx
   clear hcx
   obtain ⟨c, Hc⟩ : ∃ z, Keep (L[u]? = some z) := ⟨L[u]'(by rw [hn.o]; omega), ⟨List.getElem?_eq_getElem _⟩⟩
   obtain ⟨d, Hd⟩ : ∃ z, Keep (L[u + 1]? = some z) := ⟨L[u + 1]'(by rw [hn.o]; omega), ⟨List.getElem?_eq_getElem _⟩⟩
   refine wp_seq_k fun K14 hK14 => wp_seq_k fun K15 hK15 => rgn (Vv (.int .i64 ((u + 1 : Nat) : Int)) (h:=Vv (.slice (some ⟨b, off, none⟩) n cap) (h:=Vv (.int .i64 (n : Int)) (h:=Vt (h:=WL.nil (hK15 _ _ (Ct (h:=wp_skip (hK14 _ _ (wp_seq_k fun K16 hK16 => wp_block (wp_seq_k fun K17 hK17 => ?_)))))))))))
   have hS0 : Keep (∀ wx, Below B w wx → (fun wx => Below B w wx ∧ wx.rangeAt b (off + u * 3) (cvL c) ∧ wx.cell? ⟨b, off + (u + 1) * 3, none⟩ = some (.int .i64 d.k) ∧ wx.cell? ⟨b, off + (u + 1) * 3 + 1, none⟩ = some (.string d.s)) wx) := ⟨fun wx hb => by
    have hx := HX0.o.below hb
    exact ⟨hb, hx.at_ u c Hc.o, (hx.c Hd.o).1, (hx.c Hd.o).2.1⟩⟩
   have BE : Keep (Below w.heap.size w wq.drew) := ⟨BB.o.drew⟩
   refine wp_region_held_drew (S := fun wx => Below B w wx ∧ wx.rangeAt b (off + u * 3) (cvL c) ∧ wx.cell? ⟨b, off + (u + 1) * 3, none⟩ = some (.int .i64 d.k) ∧ wx.cell? ⟨b, off + (u + 1) * 3 + 1, none⟩ = some (.string d.s)) (by kernel_rfl) (hS0.o _ (BE.o.mono HB.o)) (fun hHeld => ?_)
   refine uS 0 ⟨some 23, .move (.tmp 0), 22, _, _, none⟩ (.slice (some ⟨b, off, none⟩) n cap) rfl (yi (by rintro w ⟨hS0_, hS1, hS3, hS4⟩; clear hS0_ hS1; go_simp)) hHeld ?_
   refine uS 1 ⟨some 24, .move (.tmp 5), 3, _, _, none⟩ (.int .i64 ((u + 1 : Nat) : Int)) rfl (yi (by rintro w ⟨hS0_, hS1, hS3, hS4⟩; clear hS0_ hS1; go_simp)) hHeld ?_
   refine uS 5 ⟨some 28, .move (.tmp 0), 22, _, _, none⟩ (.slice (some ⟨b, off, none⟩) n cap) rfl (yi (by rintro w ⟨hS0_, hS1, hS3, hS4⟩; clear hS0_ hS1; go_simp)) hHeld ?_
   refine uS 6 ⟨some 29, .move (.tmp 5), 3, _, _, none⟩ (.int .i64 ((u + 1 : Nat) : Int)) rfl (yi (by rintro w ⟨hS0_, hS1, hS3, hS4⟩; clear hS0_ hS1; go_simp)) hHeld ?_
   refine uS 10 ⟨some 33, .move (.tmp 0), 22, _, _, none⟩ (.slice (some ⟨b, off, none⟩) n cap) rfl (yi (by rintro w ⟨hS0_, hS1, hS3, hS4⟩; clear hS0_ hS1; go_simp)) hHeld ?_
   refine uS 11 ⟨some 34, .move (.tmp 5), 3, _, _, none⟩ (.int .i64 ((u + 1 : Nat) : Int)) rfl (yi (by rintro w ⟨hS0_, hS1, hS3, hS4⟩; clear hS0_ hS1; go_simp)) hHeld ?_
   refine uS 2 ⟨some 25, .binOp BinOp.sub 3 (.tmp 24) (.const (Value.int IntKind.i64 1)) 3, 3, _, _, none⟩ (.int .i64 (u : Int)) rfl (yi (by rintro w ⟨hS0_, hS1, hS3, hS4⟩; clear hS0_ hS1; go_simp)) hHeld ?_
   refine uS 7 ⟨some 30, .indexAddr 22 (.tmp 28) (.tmp 29), 0, _, _, none⟩ (.pointer (some ⟨b, off + (u + 1) * 3, none⟩)) rfl (yi (by rintro w ⟨hS0_, hS1, hS3, hS4⟩; clear hS0_ hS1; go_simp)) hHeld ?_
   refine uS 12 ⟨some 35, .indexAddr 22 (.tmp 33) (.tmp 34), 0, _, _, none⟩ (.pointer (some ⟨b, off + (u + 1) * 3, none⟩)) rfl (yi (by rintro w ⟨hS0_, hS1, hS3, hS4⟩; clear hS0_ hS1; go_simp)) hHeld ?_
   refine uS 3 ⟨some 26, .indexAddr 22 (.tmp 23) (.tmp 25), 0, _, _, none⟩ (.pointer (some ⟨b, off + u * 3, none⟩)) rfl (yi (by rintro w ⟨hS0_, hS1, hS3, hS4⟩; clear hS0_ hS1; go_simp)) hHeld ?_
   refine uS 8 ⟨some 31, .fieldAddr 44 (.tmp 30) 0, 0, _, _, none⟩ (.pointer (some ⟨b, off + (u + 1) * 3, none⟩)) rfl (yi (by rintro w ⟨hS0_, hS1, hS3, hS4⟩; clear hS0_ hS1; go_simp)) hHeld ?_
   refine uS 13 ⟨some 36, .fieldAddr 44 (.tmp 35) 1, 0, _, _, none⟩ (.pointer (some ⟨b, off + (u + 1) * 3 + 1, none⟩)) rfl (yi (by rintro w ⟨hS0_, hS1, hS3, hS4⟩; clear hS0_ hS1; go_simp)) hHeld ?_
   refine uS 4 ⟨some 27, .load 44 (.tmp 26), 44, _, _, none⟩ (.agg #[.int .i64 c.k, .string c.s, c.v]) rfl (qv (by rfl) (.tmp 26) 44 rfl b (off + u * 3) rfl #[.int .i64 c.k, .string c.s, c.v] _ Try.underlying44 rfl (qw _ _ _) fun w hS => hS.2.1) hHeld ?_
   refine uS 9 ⟨some 32, .load 3 (.tmp 31), 3, _, _, none⟩ (.int .i64 d.k) rfl (yi (by rintro w ⟨hS0_, hS1, hS3, hS4⟩; clear hS0_ hS1; go_simp)) hHeld ?_
   refine uS 14 ⟨some 37, .load 9 (.tmp 36), 9, _, _, none⟩ (.string d.s) rfl (yi (by rintro w ⟨hS0_, hS1, hS3, hS4⟩; clear hS0_ hS1; go_simp)) hHeld ?_
   refine rd1 15 ⟨some 38, .call { callee := .value (.func 46), args := #[.tmp 27, .tmp 32, .tmp 37], argTypes := #[44, 3, 9] }, 3, _, _, none⟩ rfl fun K hK => ?_
   refine qz 46 _ _ rfl xK #[.agg #[.int .i64 c.k, .string c.s, c.v], .int .i64 d.k, .string d.s] (by simp [Act.eval]) (fun vz wz => vz = .int .i64 (stI c.k c.s d.k d.s) ∧ Below wq.drew.heap.size wq.drew wz) ?_ ?_
   ·refine (zY c.k d.k c.s d.s c.v _).mono ?_
    rintro e wz ⟨rfl, k1⟩
    exact ⟨_, rfl, rfl, k1⟩
   rintro vz wg ⟨rfl, k1⟩
   have BF := tb BE k1
   clear k1
   refine hK _ _ (hS0.o _ (BF.o.mono HB.o)) fun hH1 => kNx ?_
   clear hK
   refine uS 16 ⟨some 39, .binOp BinOp.geq 3 (.tmp 38) (.const (Value.int IntKind.i64 0)) 3, 4, _, _, none⟩ (.bool (decide (0 ≤ stI c.k c.s d.k d.s))) rfl (yi (by rintro w ⟨hS0_, hS1, hS3, hS4⟩; clear hS0_ hS1; go_simp)) hH1 ?_
   refine wpAnyH_done (by kernel_rfl) ?_ _
   refine hK17 _ _ ?_
   have hge : (decide (0 ≤ stI c.k c.s d.k d.s)) = !zC c.k c.s d.k d.s := by
    have h := QG c.k c.s d.k d.s
    cases e : zC c.k c.s d.k d.s
    ·rw [e] at h; have : ¬ stI c.k c.s d.k d.s < 0 := fun x => by simpa using h.1 x
     simp; omega
    ·have := h.2 e; simp; omega
   rw [hge]
   cases hah : zC c.k c.s d.k d.s
   ·simp only [Bool.not_false]
    refine Ct (h:=wp_seq_k fun K18 hK18 => rgn (Vv (.int .i64 130) (h:=WL.nil (hK18 _ _ (wp_ret ?_)))))
    go_ret
    exact ⟨by rw [qt, vG HKy.o, kf Hc.o Hd.o hah]; rfl, BF.o⟩
   ·simp only [Bool.not_true]
    have hw5 : IntKind.i64.wrap (((u + 1 : Nat) : Int) + 1) = ((u + 1 + 1 : Nat) : Int) := by rw [IntKind.wrap_i64]; have := HN.o; omega
    have hw7 : IntKind.i64.wrap ((u : Int) + 1 + 1) = (u : Int) + 1 + 1 := by rw [IntKind.wrap_i64]; have := HN.o; omega
    refine Cf (h:=wp_skip (hK16 _ _ (rgn (Vv (.int .i64 ((u + 1 : Nat) : Int)) (h:=Vv (.int .i64 ((u + 1 + 1 : Nat) : Int)) (h:=Vv (.int .i64 ((u + 1 + 1 : Nat) : Int)) (h:=?_)))))))
    refine WL.nil ?_
    refine ⟨⟨u + 1, rfl, by omega, BF.o, fun i x y hi hx hy => ?_⟩, ?_⟩
    ·by_cases e : i = u
     ·subst e; rw [Hc.o] at hx; rw [Hd.o] at hy; injection hx with hx; injection hy with hy; subst hx hy; exact hah
     ·exact HJ.o i x y (by omega) hx hy
    ·simp only [intOf]; show n + 1 - (((u + 1 + 1 : Nat) : Int)).toNat < n + 1 - (((u + 1 : Nat) : Int)).toNat; omega
  ·have hul' : ¬ ((u + 1 : Nat) : Int) < (n : Int) := by omega
   have hul3 : ¬ (u : Int) + 1 < (n : Int) := by omega
   have HOy : Keep (∀ (i : Nat) (c d : CV), L[i]? = some c → L[i + 1]? = some d → zC c.k c.s d.k d.s = true) := ⟨fun i c d hc hd => HJ.o i c d (by have := (List.getElem?_eq_some_iff.1 hd).1; rw [hn.o] at this; omega) hc hd⟩
   refine wp_seq_k fun K19 hK19 => wp_seq_k fun K20 hK20 => rgn (Vv (.int .i64 ((u + 1 : Nat) : Int)) (h:=Vv (.slice la n cap) (h:=Vv (.int .i64 (n : Int)) (h:=Vf (h:=WL.nil (hK20 _ _ (Cf (h:=wp_exit (hK12 _ _ (wp_seq_k fun K21 hK21 => rgn (Vv (.int .i64 0) (h:=WL.nil (hK21 _ _ (wp_ret ?_))))))))))))))
   go_ret
   exact ⟨by rw [qt, vG HKy.o, Kf HOy.o]; rfl, BB.o⟩
theorem Jk {P : Program} (a : Act) (o : Oper) (f : FuncId) (x : Operand) (args : Array Operand) (ts : Array TypeId) (cs : Array Value) (ho : o.op = .call { callee := .value x, args := args, argTypes := ts }) (hx : a.eval x = .func (.func f) #[] cs)
  (hf : ∀ (w : World) (vs : Array Value), (callFunc f vs).run P w = .ok (.enter f vs) w) (w : World) :
  (execOp a.eval o).run P w = .ok (.enter f (args.map a.eval ++ cs)) w := by
 unfold execOp
 simp only [ho, resolve, hx]
 generalize Array.map a.eval args = vs
 simp [go_sem]
 exact hf w _
theorem WL.callC {P : Program} {ops : Array Oper} {rest : List Oper} {o : Oper} {a : Act} {w : World} {Q : Exit → Act → World → Prop} (hw : Region.wanted o (yielded ops a.tmps) = true) (f : FuncId) (x : Operand) (args : Array Operand) (ts : Array TypeId) (cs : Array Value) (ho : o.op = .call { callee := .value x, args := args, argTypes := ts }) (hx : a.eval x = .func (.func f) #[] cs)
  (hf : ∀ (w : World) (vs : Array Value), (callFunc f vs).run P w = .ok (.enter f vs) w) (vs : Array Value) (hvs : args.map a.eval ++ cs = vs)
  (hc : Calls P f vs w fun e w' => ∃ v, e = .returned v ∧ WL P ops Q rest (a.put o.dst v) w') : WL P ops Q (o :: rest) a w :=
 ⟨qC hw fun K hK => by
  unfold Oper.wp
  rw [Jk a o f x args ts cs ho hx hf w, Oper.upon_enter, hvs]
  refine hc.mono ?_
  rintro e w' ⟨v, rfl, hr⟩
  exact hK _ _ hr.o⟩
theorem qX {P : Program} {Q : Exit → Act → World → Prop} {o : Oper} {a : Act} {w : World} {K : Act → World → Prop} (f : FuncId) (x : Operand) (args : Array Operand) (ts : Array TypeId) (cs : Array Value) (ho : o.op = .call { callee := .value x, args := args, argTypes := ts }) (hx : a.eval x = .func (.func f) #[] cs)
  (hf : ∀ (w : World) (vs : Array Value), (callFunc f vs).run P w = .ok (.enter f vs) w)
  (vs : Array Value) (hvs : args.map a.eval ++ cs = vs)
  (R : Value → World → Prop) (hc : Calls P f vs w fun e w' => ∃ v, e = .returned v ∧ R v w')
  (h : ∀ v w', R v w' → K (a.put o.dst v) w') : o.wp P a w K Q := by
 unfold Oper.wp
 rw [Jk a o f x args ts cs ho hx hf w, Oper.upon_enter, hvs]
 refine hc.mono ?_
 rintro e w' ⟨v, rfl, hr⟩
 exact h v w' hr
structure PX where
 v : Value
 ps : List Hs
structure TE where
 pl : Nat
 pd : Nat
 pn : Nat
 pp : Nat
 gp : Nat
 lv : Value
 nv : Value
def TE.cl (E : TE) : Value := .func (.func 48) #[] #[ptr E.pl, ptr E.pd, ptr E.pn, ptr E.pp]
def NS (E : TE) (Ps : List PX) (k : Nat) : Prop := k = E.gp ∨ ∃ P ∈ Ps, P.v.ownBlock = some k
def NsV (w : World) (v : Value) (ns : List Nat) : Prop :=
 (∃ a c, v = .slice a 0 c ∧ ns = []) ∨ ∃ g c, v = .slice (some ⟨g, 0, none⟩) ns.length c ∧ Typ w g 3 ∧ ∀ (j n : Nat), ns[j]? = some n → w.cell? ⟨g, j, none⟩ = some (.int .i64 (n : Int))
structure TS (B : Nat) (w : World) (E : TE) (ns : List Nat) (Ps : List PX) : Prop where
 bl : Blk w E.pl 22 #[E.lv]
 bd : Blk w E.pd 89 #[E.cl]
 bn : Blk w E.pn 65 #[E.nv]
 bp : Blk w E.pp 61 #[.slice (some ⟨E.gp, 0, none⟩) Ps.length Ps.length]
 bg : Blk w E.gp 52 (Ps.map (·.v)).toArray
 num : NsV w E.nv ns
 len : Ps.length = ns.length
 own : ∀ P ∈ Ps, w.ownsRow B 32 32 P.v P.ps.length (qF P.ps)
 apt : ∀ (i j : Nat) (P Q : PX), Ps[i]? = some P → Ps[j]? = some Q → i ≠ j → ∀ k, P.v.ownBlock = some k → Q.v.ownBlock ≠ some k
 ge : B ≤ E.gp
theorem TS.lt {B : Nat} {w : World} {E : TE} {ns : List Nat} {Ps : List PX} (h : TS B w E ns Ps) {k : Nat} (hk : NS E Ps k) : k < w.heap.size := by
 rcases hk with rfl | ⟨P, hP, e⟩
 ·exact h.bg.lt
 ·exact (zV (h.own P hP) k e).2
theorem TS.geB {B : Nat} {w : World} {E : TE} {ns : List Nat} {Ps : List PX} (h : TS B w E ns Ps) {k : Nat} (hk : NS E Ps k) : B ≤ k := by
 rcases hk with rfl | ⟨P, hP, e⟩
 ·exact h.ge
 ·exact (zV (h.own P hP) k e).1
theorem NsV.grown {w w' : World} {v : Value} {ns : List Nat} {S : Nat → Prop} (h : NsV w v ns) (hg : Grown w w' S) (hs : ∀ k, Typ w k 3 → ¬ S k) : NsV w' v ns := by
 rcases h with h | ⟨g, c, e, ht, hc⟩
 ·exact .inl h
 ·exact .inr ⟨g, c, e, hg.typ ht (hs g ht), fun j n hn => hg.cell (hc j n hn) (hs g ht)⟩
theorem TS.grown {B : Nat} {w w' : World} {E : TE} {ns : List Nat} {Ps : List PX} {S : Nat → Prop} (h : TS B w E ns Ps) (hg : Grown w w' S) (hs : ∀ k, k < w.heap.size → ¬ S k) : TS B w' E ns Ps where
 bl := hg.blk h.bl (hs _ h.bl.lt)
 bd := hg.blk h.bd (hs _ h.bd.lt)
 bn := hg.blk h.bn (hs _ h.bn.lt)
 bp := hg.blk h.bp (hs _ h.bp.lt)
 bg := hg.blk h.bg (hs _ h.bg.lt)
 num := h.num.grown hg fun k hk => hs k hk.lt
 len := h.len
 own := fun P hP => qo (h.own P hP) hg fun k hk => hs k (zV (h.own P hP) k hk).2
 apt := h.apt
 ge := h.ge
theorem TS.below {B : Nat} {w w' : World} {E : TE} {ns : List Nat} {Ps : List PX} (h : TS B w E ns Ps) (hb : Below w.heap.size w w') : TS B w' E ns Ps := h.grown (gF hb) fun _ _ e => e
structure Bx (w : World) (E : TE) (Ps : List PX) (r : Nat) (c : Array Value) : Prop where
 blk : Blk w r 32 c
 off : ¬ NS E Ps r
theorem Bx.below {w w' : World} {E : TE} {Ps : List PX} {r : Nat} {c : Array Value} (h : Bx w E Ps r c) (hb : Below w.heap.size w w') : Bx w' E Ps r c := ⟨h.blk.below hb h.blk.lt, h.off⟩
structure TN (w w' : World) (E : TE) (Ps Ps' : List PX) : Prop where
 gr : Grown w w' (NS E Ps)
 nw : ∀ k, NS E Ps' k → k < w.heap.size → NS E Ps k
theorem TN.below {w w' : World} {E : TE} {Ps : List PX} (hb : Below w.heap.size w w') : TN w w' E Ps Ps := ⟨Grown.below hb, fun _ h _ => h⟩
theorem TN.trans {a b c : World} {E : TE} {P Q R : List PX} (h : TN a b E P Q) (k : TN b c E Q R) : TN a c E P R :=
 ⟨h.gr.next k.gr fun i hi e => h.nw i e hi, fun i hi hl => h.nw i (k.nw i hi (Nat.lt_of_lt_of_le hl h.gr.size)) hl⟩
theorem Bx.next {w w' : World} {E : TE} {Ps Ps' : List PX} {r : Nat} {c : Array Value} (h : Bx w E Ps r c) (hn : TN w w' E Ps Ps') : Bx w' E Ps' r c :=
 ⟨hn.gr.blk h.blk h.off, fun e => h.off (hn.nw r e h.blk.lt)⟩
theorem Bx.new {B : Nat} {w : World} {E : TE} {ns : List Nat} {Ps : List PX} (h : TS B w E ns Ps) (c : Array Value) : Bx (w.alloc (.cells c 32)) E Ps w.heap.size c :=
 ⟨Blk.new w 32 c, fun e => by have := h.lt e; omega⟩
theorem TS.box {B : Nat} {w : World} {E : TE} {ns : List Nat} {Ps : List PX} {r : Nat} {c : Array Value} (h : TS B w E ns Ps) (hr : Bx w E Ps r c) (c' : Array Value) : TS B (w.setRow r c') E ns Ps := by
 have hg : Grown w (w.setRow r c') (fun k => k = r) := Grown.setRow w r c' fun _ => rfl
 have h1 : ∀ {k T : Nat} {cs : Array Value}, Blk w k T cs → T ≠ 32 → ¬ k = r := fun hk ht e => by subst e; exact ht (jX hk hr.blk)
 exact ⟨hg.blk h.bl (h1 h.bl (by decide)), hg.blk h.bd (h1 h.bd (by decide)), hg.blk h.bn (h1 h.bn (by decide)), hg.blk h.bp (h1 h.bp (by decide)), hg.blk h.bg (h1 h.bg (by decide)), h.num.grown hg fun k hk e => by subst e; exact absurd (hk.one hr.blk.typ) (by decide), h.len, fun P hP => qo (h.own P hP) hg fun k hk e => by subst e; exact hr.off (.inr ⟨P, hP, hk⟩), h.apt, h.ge⟩
theorem Bx.set {w : World} {E : TE} {Ps : List PX} {r : Nat} {c : Array Value} (h : Bx w E Ps r c) (c' : Array Value) : Bx (w.setRow r c') E Ps r c' := ⟨h.blk.setRow c', h.off⟩
theorem Bx.ne {w : World} {E : TE} {Ps : List PX} {r q : Nat} {c : Array Value} (h : Bx w E Ps r c) (hn : r ≠ q) (c' : Array Value) : Bx (w.setRow q c') E Ps r c := ⟨h.blk.setRow_ne hn c', h.off⟩
theorem TS.add {B : Nat} {w w1 : World} {E : TE} {ns : List Nat} {Ps : List PX} {t : Nat} {P : PX} {v : Value} {x : Hs} (h : TS B w E ns Ps) (hP : Ps[t]? = some P) (ho : w1.ownsRow B 32 32 v (P.ps ++ [x]).length (qF (P.ps ++ [x]))) (hg : Grown w w1 fun k => P.v.ownBlock = some k) (hm : v.ownBlock = P.v.ownBlock ∨ v.ownBlock = some w.heap.size) :
  TS B (w1.setCell ⟨E.gp, t, none⟩ v) E ns (Ps.set t ⟨v, P.ps ++ [x]⟩) ∧ TN w (w1.setCell ⟨E.gp, t, none⟩ v) E Ps (Ps.set t ⟨v, P.ps ++ [x]⟩) := by
 have hPm : P ∈ Ps := List.mem_of_getElem? hP
 have htl : t < Ps.length := (List.getElem?_eq_some_iff.1 hP).1
 have hS : ∀ {k T : Nat} {cs : Array Value}, Blk w k T cs → T ≠ 32 → ¬ P.v.ownBlock = some k := fun hk ht e => absurd ((qn (h.own P hPm) e).one hk.typ) (fun e' => ht e'.symm)
 have hgp := hg.blk h.bg (hS h.bg (by decide))
 have hc : Grown w1 (w1.setCell ⟨E.gp, t, none⟩ v) (fun k => k = E.gp) := Grown.setCell w1 E.gp t v fun _ => rfl
 have hb : ∀ {k T : Nat} {cs : Array Value}, Blk w k T cs → T ≠ 32 → T ≠ 52 → Blk (w1.setCell ⟨E.gp, t, none⟩ v) k T cs := fun hk h1 h2 => hc.blk (hg.blk hk (hS hk h1)) fun e => by subst e; exact h2 (jX hk h.bg)
 have hvg : ∀ k, v.ownBlock = some k → k ≠ E.gp := fun k hk e => by subst e; exact absurd ((qn ho hk).one hgp.typ) (by decide)
 refine ⟨⟨hb h.bl (by decide) (by decide), hb h.bd (by decide) (by decide), hb h.bn (by decide) (by decide), ?_, ?_, ?_, ?_, ?_, ?_, h.ge⟩, ?_, ?_⟩
 ·rw [List.length_set]; exact hb h.bp (by decide) (by decide)
 ·have h1 := hgp.set t v
  have h2 : (Ps.map (·.v)).toArray.setIfInBounds t v = ((Ps.set t ⟨v, P.ps ++ [x]⟩).map (·.v)).toArray := by
   rw [List.setIfInBounds_toArray, List.map_set]
  rw [h2] at h1
  exact h1
 ·refine (h.num.grown hg fun k hk e => absurd ((qn (h.own P hPm) e).one hk) (by decide)).grown hc fun k hk e => ?_
  subst e
  exact absurd (hk.one hgp.typ) (by decide)
 ·rw [List.length_set]; exact h.len
 ·intro Q hQ
  obtain ⟨j, hj, e⟩ := List.getElem_of_mem hQ
  rw [List.length_set] at hj
  rw [List.getElem_set] at e
  split at e
  ·subst e
   exact qo ho hc hvg
  ·rename_i hne
   subst e
   have hq := h.own Ps[j] (List.getElem_mem hj)
   refine qo (qo hq hg fun k hk e => ?_) hc fun k hk e => ?_
   ·exact h.apt t j P Ps[j] hP (List.getElem?_eq_getElem hj) hne k e hk
   ·subst e; exact absurd ((qn hq hk).one h.bg.typ) (by decide)
 ·intro i j Q R hQ hR hne k hk hk'
  rw [List.getElem?_set] at hQ hR
  have hnew : ∀ (z : Nat) (Z : PX), Ps[z]? = some Z → z ≠ t → ∀ k, v.ownBlock = some k → Z.v.ownBlock ≠ some k := fun z Z hZ hz k hk e => by
   rcases hm with e' | e'
   ·rw [e'] at hk; exact h.apt t z P Z hP hZ (Ne.symm hz) k hk e
   ·rw [e'] at hk
    injection hk with hk
    have := (zV (h.own Z (List.mem_of_getElem? hZ)) k e).2
    omega
  split at hQ
  ·rename_i hi
   injection hQ with hQ
   subst hQ
   rw [if_neg (by omega)] at hR
   exact hnew j R hR (by omega) k hk hk'
  ·rename_i hi
   split at hR
   ·rename_i hj
    injection hR with hR
    subst hR
    exact hnew i Q hQ (by omega) k hk' hk
   ·exact h.apt i j Q R hQ hR hne k hk hk'
 ·refine (Grown.mono hg fun i _ e => .inr ⟨P, hPm, e⟩ : Grown w w1 (NS E Ps)).next hc fun i _ e => .inl e
 ·intro k hk hl
  rcases hk with e | ⟨Q, hQ, e⟩
  ·exact .inl e
  ·obtain ⟨j, hj, e'⟩ := List.getElem_of_mem hQ
   rw [List.length_set] at hj
   rw [List.getElem_set] at e'
   split at e'
   ·subst e'
    rcases hm with e2 | e2
    ·rw [e2] at e; exact .inr ⟨P, hPm, e⟩
    ·rw [e2] at e; injection e with e; omega
   ·subst e'
    exact .inr ⟨Ps[j], List.getElem_mem hj, e⟩
def sub (L : List CV) (a b : Nat) : List CV := (L.drop a).take (b - a)
theorem js {L : List CV} {a b : Nat} (h : a ≤ b) (hb : b ≤ L.length) : (sub L a b).length = b - a := by unfold sub; rw [List.length_take, List.length_drop]; omega
theorem vN {L : List CV} {a b m : Nat} (h : a + m ≤ b) : (sub L a b).take m = sub L a (a + m) := by
 unfold sub; rw [List.take_take]; congr 1; omega
theorem vO {L : List CV} {a b m : Nat} (h : a + m ≤ b) : (sub L a b).drop m = sub L (a + m) b := by
 unfold sub; rw [List.drop_take, List.drop_drop]; congr 1; omega
theorem Xw {L : List CV} {a : Nat} {c : CV} (h : L[a]? = some c) : sub L a (a + 1) = [c] := by
 unfold sub
 rw [show a + 1 - a = 1 by omega]
 have hl := (List.getElem?_eq_some_iff.1 h).1
 rw [List.drop_eq_getElem_cons hl]
 have e := (List.getElem?_eq_some_iff.1 h).2
 rw [e]; rfl
def YZ (k : Nat) (L : List CV) (a b n : Nat) : List (List Int) := if a ≤ n ∧ n < b then zG k (sub L a b) (n - a) else []
def UP (k : Nat) (L : List CV) (a b : Nat) (ns : List Nat) (Ps Ps' : List PX) : Prop :=
 ∀ (j n : Nat) (P P' : PX), ns[j]? = some n → Ps[j]? = some P → Ps'[j]? = some P' → P'.ps.map hsL = P.ps.map hsL ++ YZ k L a b n
def DP (B k : Nat) (E : TE) (L : List CV) (ns : List Nat) (Ps : List PX) (a b : Nat) (w : World) (e : Ending) (w' : World) : Prop :=
 e = .returned (.agg (qb 32 (hof (qx k (sub L a b))))) ∧ ∃ Ps', TS B w' E ns Ps' ∧ UP k L a b ns Ps Ps' ∧ TN w w' E Ps Ps'
theorem zk (w : World) (vs : Array Value) : (callFunc 48 vs).run Try.prog w = .ok (.enter 48 vs) w := by kernel_rfl
theorem Zw (w : World) (ty : TypeId) (B : Nat) (v : Value) (L : List Hs) (x : Hs) (g c : Nat) (hown : w.ownsRow B 32 32 v L.length (qF L)) (hc : w.rangeAt g 0 (jg x)) (hb : L.length + 1 ≤ 4398046511104) (hB : B ≤ w.heap.size) :
  ∃ v' w', (Builtin.append_ #[52, 52] ty #[v, .slice (some ⟨g, 0, none⟩) 1 c]).run Try.prog w = .ok v' w' ∧ w'.ownsRow B 32 32 v' (L ++ [x]).length (qF (L ++ [x])) ∧ (Grown w w' fun k => v.ownBlock = some k) ∧ (v'.ownBlock = v.ownBlock ∨ v'.ownBlock = some w.heap.size) := by
 obtain ⟨i, hi, hzz⟩ := Option.map_eq_some_iff.1 kE
 simp only [Prod.mk.injEq] at hzz
 obtain ⟨hz, hsz, hby⟩ := hzz
 have hzs : (Value.agg (qb 32 fun _ => 0)).cells.size = 32 := by show (qb 32 fun _ => 0).size = 32; exact qB _ _
 obtain ⟨v', w', hr, h1, h2, _, h3⟩ := run_append_own_at (P := Try.prog) w B 52 ty 32 i _ 32 32 Try.underlying52 hi hz hsz hby hzs (by omega) v L.length _ hown ⟨g, 0, none⟩ 1 c (jg x) (jW x) (fun j u hu => by rw [Addr.add_mid]; exact hc j u hu) (Qe x) (by unfold maxLen; omega) (by omega) hB
 refine ⟨v', w', hr, ?_, Grown.of h2 fun k _ e => e, h3⟩
 rw [xU, List.length_append]
 have e : qF [x] = jg x := by simp [qF]
 rw [e]
 exact h1
theorem vA {Q : Exit → Act → World → Prop} {o : Oper} {a : Act} {w : World} {K : Act → World → Prop} (s x : Operand)
  (ho : o.op = .call { callee := .builtin .append, args := #[s, x], argTypes := #[52, 52] }) (B : Nat) (v : Value) (L : List Hs) (y : Hs) (g c : Nat)
  (hs : a.eval s = v) (hx : a.eval x = .slice (some ⟨g, 0, none⟩) 1 c) (hown : w.ownsRow B 32 32 v L.length (qF L)) (hc : w.rangeAt g 0 (jg y)) (hb : L.length + 1 ≤ 4398046511104) (hB : B ≤ w.heap.size)
  (h : ∀ v' w', w'.ownsRow B 32 32 v' (L ++ [y]).length (qF (L ++ [y])) → (Grown w w' fun k => v.ownBlock = some k) → (v'.ownBlock = v.ownBlock ∨ v'.ownBlock = some w.heap.size) → K (a.put o.dst v') w') : o.wp Try.prog a w K Q := by
 obtain ⟨v', w', hr, h1, h2, h3⟩ := Zw w o.type B v L y g c hown hc hb hB
 unfold Oper.wp execOp
 simp only [ho, resolve, invoke, builtin, Sem.run_bind, Sem.run_pure, Result.andThen_ok, List.map_toArray, List.map_cons, List.map_nil, hs, hx, hr]
 exact h v' w' h1 h2 h3
theorem qK {P : Program} {o : Oper} {a : Act} {w : World} {K : Act → World → Prop} {Q : Exit → Act → World → Prop} (t : TypeId) (ho : o.op = .alloc t) (cells : Array Value)
  (hf : ∀ w : World, (Instr.alloc t true (.tuple #[])).run P w = .ok (.pointer (some ⟨w.heap.size, 0, none⟩)) (w.alloc (.cells cells t)))
  (h : K (a.put o.dst (.pointer (some ⟨w.heap.size, 0, none⟩))) (w.alloc (.cells cells t))) : o.wp P a w K Q := by
 have hrun : (execOp a.eval o).run P w = .ok (.value (.pointer (some ⟨w.heap.size, 0, none⟩))) (w.alloc (.cells cells t)) := by
  unfold execOp
  simp only [ho, Sem.run_bind, hf, Result.andThen_ok]
  rfl
 unfold Oper.wp
 rw [hrun, Oper.upon_value]
 exact h
theorem zm {P : Program} {Q : Exit → Act → World → Prop} {o : Oper} {a : Act} {w : World} {K : Act → World → Prop} (w' : World) (hrun : (execOp a.eval o).run P w = .ok .skip w') (h : K (a.put o.dst undef) w') : o.wp P a w K Q := by
 unfold Oper.wp
 rw [hrun]
 exact h
theorem TN.bel {B : Nat} {w w' : World} {E : TE} {ns : List Nat} {Ps Ps' : List PX} (h : TN w w' E Ps Ps') (hT : TS B w E ns Ps) (hB : B ≤ w.heap.size) : Below B w w' :=
 h.gr.to_below (fun k hk e => by have := hT.geB e; omega) hB
theorem vZ : ∀ (k : Nat) (L : List CV) (i : Nat), 1 ≤ L.length → L.length ≤ k → (zG k L i).length + 1 ≤ L.length
 | 0, L, i, h1, h2 => by omega
 | k + 1, L, i, h1, h2 => by
  by_cases h : L.length ≤ 1
  ·match L, h1, h with
   | [c], _, _ => rw [yU]; simp
  ·have hh := RtP.half_le (n := L.length) (by omega)
   by_cases hi : i < RtP.half L.length
   ·rw [yA h hi, List.length_append, List.length_singleton]
    have := vZ k (L.take (RtP.half L.length)) i (by rw [List.length_take]; omega) (by rw [List.length_take]; omega)
    rw [List.length_take] at this
    omega
   ·rw [yB h hi, List.length_append, List.length_singleton]
    have := vZ k (L.drop (RtP.half L.length)) (i - RtP.half L.length) (by rw [List.length_drop]; omega) (by rw [List.length_drop]; omega)
    rw [List.length_drop] at this
    omega
def Rm (Ps : List PX) (s : Nat) : Prop := ∀ P ∈ Ps, P.ps.length + s ≤ 4398046511104
theorem Rm.up {B k : Nat} {w w' : World} {E : TE} {L : List CV} {ns : List Nat} {Ps Ps' : List PX} {a b s : Nat} (h : Rm Ps (s + (b - a))) (hu : UP k L a b ns Ps Ps') (hT : TS B w E ns Ps) (hT' : TS B w' E ns Ps') (hab : a < b) (hb : b ≤ L.length) (hk : b - a ≤ k) : Rm Ps' s := by
 intro P' hP'
 obtain ⟨j, hj, e⟩ := List.getElem_of_mem hP'
 have h1 := hT.len
 have h2 := hT'.len
 have hP : Ps[j]? = some (Ps[j]'(by omega)) := List.getElem?_eq_getElem _
 have hn : ns[j]? = some (ns[j]'(by omega)) := List.getElem?_eq_getElem _
 have h3 := congrArg List.length (hu j _ _ P' hn hP (by rw [← e]; exact List.getElem?_eq_getElem _))
 have h4 := h (Ps[j]'(by omega)) (List.getElem_mem _)
 rw [List.length_map, List.length_append, List.length_map] at h3
 have h5 : (YZ k L a b (ns[j]'(by omega))).length ≤ b - a := by
  unfold YZ
  split
  ·have := vZ k (sub L a b) (ns[j]'(by omega) - a) (by rw [js (by omega) hb]; omega) (by rw [js (by omega) hb]; omega)
   rw [js (by omega) hb] at this
   omega
  ·simp
 omega
def yD (a m b n : Nat) (x y : Hs) : List Hs := if a ≤ n ∧ n < m then [y] else if m ≤ n ∧ n < b then [x] else []
theorem UP.two {k : Nat} {L : List CV} {a b : Nat} {ns : List Nat} {Ps P1 P2 P3 : List PX} {x y : Hs} {m : Nat} (hm : m = a + RtP.half (b - a)) (hab : a + 2 ≤ b) (hb : b ≤ L.length) (hk : b - a ≤ k + 1) (h1 : Ps.length = ns.length) (h2 : P1.length = ns.length) (h3 : P2.length = ns.length)
  (u1 : UP k L a m ns Ps P1) (u2 : UP k L m b ns P1 P2) (hx : hsL x = qx k (sub L a m)) (hy : hsL y = qx k (sub L m b))
  (u3 : ∀ (j n : Nat) (P P' : PX), ns[j]? = some n → P2[j]? = some P → P3[j]? = some P' → P'.ps = P.ps ++ yD a m b n x y) : UP (k + 1) L a b ns Ps P3 := by
 have hh := RtP.half_le (n := b - a) (by omega)
 intro j n P P' hn hP hP'
 have hj : j < ns.length := (List.getElem?_eq_some_iff.1 hn).1
 have e1 : P1[j]? = some (P1[j]'(by omega)) := List.getElem?_eq_getElem _
 have e2 : P2[j]? = some (P2[j]'(by omega)) := List.getElem?_eq_getElem _
 rw [u3 j n _ P' hn e2 hP', List.map_append, u2 j n _ _ hn e1 e2, u1 j n P _ hn hP e1]
 have hl : (sub L a b).length = b - a := js (by omega) hb
 rw [List.append_assoc, List.append_assoc]
 congr 1
 unfold YZ yD
 by_cases c1 : a ≤ n ∧ n < m
 ·rw [if_pos c1, if_neg (by omega), if_pos c1, if_pos (by omega), yA (by omega) (by rw [hl]; omega), hl, vN (by omega), vO (by omega), ← hm]
  simp [hy]
 ·by_cases c2 : m ≤ n ∧ n < b
  ·rw [if_neg c1, if_pos c2, if_neg c1, if_pos c2, if_pos (by omega), yB (by omega) (by rw [hl]; omega), hl, vN (by omega), vO (by omega), ← hm, show n - a - RtP.half (b - a) = n - m by omega]
   simp [hx]
  ·rw [if_neg c1, if_neg c2, if_neg c1, if_neg c2, if_neg (by omega)]
   simp
theorem Uh (B k : Nat) (E : TE) (b off n cap : Nat) (L : List CV) (ns : List Nat) (Ps : List PX) (i : Nat) (c : CV) (w : World) (hlv : Keep (E.lv = .slice (some ⟨b, off, none⟩) n cap)) (hc : Keep (L[i]? = some c)) (hi : i < n) (hn : n ≤ 1099511627776) (hT : TS B w E ns Ps) (hC : CsAt B w b off L) (hF : Fit L) (hB : B ≤ w.heap.size) :
  Calls Try.prog 48 #[.int .i64 (i : Int), .int .i64 ((i + 1 : Nat) : Int), ptr E.pl, ptr E.pd, ptr E.pn, ptr E.pp] w (DP B (k + 1) E L ns Ps i (i + 1) w) := by
 have HT := kk hT
 have HC := kk hC
 have HF := kk hF
 have HB := kk hB
 have hck : Keep ((c.k.toNat : Int) = c.k) := ⟨by have := hF c (List.mem_of_getElem? hc.o); omega⟩
 have hw1 : IntKind.i64.wrap (((i + 1 : Nat) : Int) - (i : Int)) = 1 := by rw [IntKind.wrap_i64]; omega
 have hw1' : IntKind.i64.wrap ((i : Int) + 1 - (i : Int)) = 1 := by rw [IntKind.wrap_i64]; omega
 have hil : (i : Int) < (n : Int) := by omega
 clear hT hC hF hB
 go_enter Try.func48, Try.ntmps48
 refine wp_seq_k fun K1 hK1 => rgn (zO 32 qm fun r w1 hr0 R1 b1 => ?_)
 have T1 := kk (HT.o.below b1.o)
 have C1 := kk (HC.o.below (b1.o.mono HB.o))
 have hrw := lh hr0
 have cl : w1.cell? ⟨E.pl, 0, none⟩ = some (.slice (some ⟨b, off, none⟩) n cap) := by rw [← hlv.o]; exact T1.o.bl.c 0 rfl
 refine WL.nil (hK1 _ _ (wp_seq_k fun K2 hK2 => wp_seq_k fun K3 hK3 => rgn (Vv (.int .i64 ((i + 1 : Nat) : Int)) (h:=Vv (.int .i64 (i : Int)) (h:=Vv (.int .i64 1) (h:=Vt (h:=WL.nil (hK3 _ _ (Ct (h:=wp_seq_k fun K4 hK4 => rgn (Vv (.slice (some ⟨b, off, none⟩) n cap) (h:=Vv (.int .i64 (i : Int)) (h:=?_)))))))))))))
 clear cl
 refine VlS (.pointer (some ⟨b, off + i * 3, none⟩)) ?_
 refine WL.midA (by kernel_rfl) 44 (.tmp 20) rfl b (off + i * 3) rfl #[.int .i64 c.k, .string c.s, c.v] _ (C1.o.at_ i c hc.o) Try.underlying44 rfl (qw _ _ _) ?_
 simp only [Act.put, pqA, pqB, pqC]
 have hpl := Jr c.k.toNat c.s c.v c.l w1 (C1.o.row c (List.mem_of_getElem? hc.o)).1 (by have := HF.o c (List.mem_of_getElem? hc.o); omega) (HF.o c (List.mem_of_getElem? hc.o)).2
 rw [hck.o] at hpl
 refine WL.callF (by kernel_rfl) 49 _ _ rfl DU #[.agg #[.int .i64 c.k, .string c.s, c.v]] (by simp [Act.eval]) ?_
 refine (hpl).mono ?_
 rintro e w8 ⟨rfl, k1⟩
 refine ⟨_, rfl, ?_⟩
 change WL _ _ _ _ (Act.put _ _ (.agg (qb 32 (qy (RtP.leafR qQ c.ce))))) w8
 have R8 := kbx R1 k1
 have B8 := tb b1 k1
 clear hpl k1
 simp only [Act.put, pqA, pqB, pqC]
 refine StR (qb 32 (qy (RtP.leafR qQ c.ce))) R8.o (qd _) (qh _ _ _) (qi _ _) ?_
 have R9 := kk (R8.o.setRow (qb 32 (qy (RtP.leafR qQ c.ce))))
 have B9 : Keep (Below w.heap.size w (w8.setRow r (qb 32 (qy (RtP.leafR qQ c.ce))))) := ⟨qf B8.o hrw.o _⟩
 generalize w8.setRow r (qb 32 (qy (RtP.leafR qQ c.ce))) = w9 at *
 refine WL.nil (hK4 _ _ (wp_ret ?_))
 try simp only [Exit.inBlock, Exit.then]
 refine bodyPost_ret (v := .agg (qb 32 (qy (RtP.leafR qQ c.ce)))) (results_cell_row Try.results48 _ _ r 32 _ (0, 0) _ rfl R9.o Try.underlying32 rfl (qd _)) rfl ⟨?_, Ps, HT.o.below B9.o, fun j n P P' _ hP hP' => ?_, TN.below B9.o⟩
 ·rw [Xw hc.o, Jg, zR, xE]
 ·rw [hP] at hP'; injection hP' with hP'; subst hP'
  unfold YZ
  rw [Xw hc.o, yU]
  split <;> simp
end Go.Proofs.Ytdpcjfafbmhceaa
