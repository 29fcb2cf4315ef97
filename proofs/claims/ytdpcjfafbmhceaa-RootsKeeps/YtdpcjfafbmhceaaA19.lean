import Derived.Test.YtdpcjfafbmhceaaA18
set_option maxRecDepth 8000
set_option maxHeartbeats 4000000
namespace Go.Proofs.Ytdpcjfafbmhceaa
open Go.RowKit
set_option linter.unusedSimpArgs false
set_option linter.unusedVariables false
theorem Uj (b off n cap at_ : Nat) (L : List CV) (ns : List Nat) (kind : Int) (key : ByteArray) (w : World) (hkm : zi kind = true) (hwi : Keep (qt L = 0)) (hn : Keep (L.length = n)) (hn1 : 1 ≤ n) (hcap : n ≤ cap) (HN : Keep (n ≤ 1099511627776)) (HC : Keep (CsAt w.heap.size w b off L)) (HCv : Keep (CsV w.heap.size w (.slice (some ⟨b, off, none⟩) n cap) L)) (HF : Keep (Fit L))
  (HA : Keep (at_ ≤ n)) (HAt : Keep (∀ (i : Nat) (c : CV), L[i]? = some c → (stI c.k c.s kind key < 0 ↔ i < at_))) (hns : Keep (fnd n at_ (fndB L at_ kind key) = ns)) (HSz : Keep (∀ c ∈ L, c.l.length ≤ 140737488355328)) : Calls Try.prog 9 #[.slice (some ⟨b, off, none⟩) n cap, .int .i64 kind, .string key] w (FdR L kind at_ key w) := by
 go_enter Try.func9, Try.ntmps9
 refine wp_seq_k fun K1 hK1 => rgn (zU 25 zb fun r w1 hr0 R1 b_ => ?_)
 have B1 : Keep (Below w.heap.size w w1) := ⟨b_⟩
 have gr := lh hr0
 clear b_
 refine Vv (.int .i64 0) (h:=WL.nil (hK1 _ _ (wp_seq_k fun K2 hK2 => rgn (Vv (.int .i64 kind) (h:=ClS (vs := #[.int .i64 kind]) (xD kind _) ?_)))))
 rintro e w1_z ⟨rfl, hw_⟩
 refine ⟨_, rfl, ?_⟩
 have hw_ := hw_.symm
 subst hw_
 rw [hkm]
 refine Vt (h:=WL.nil (hK2 _ _ (wp_seq_k fun K3 hK3 => wp_seq_k fun K4 hK4 => rgn (Vt (h:=Vf (h:=WL.nil (hK4 _ _ (Cf (h:=wp_skip (hK3 _ _ (wp_seq_k fun K5 hK5 => rgn (Vv (.slice (some ⟨b, off, none⟩) n cap) (h:=ClS (vs := #[.slice (some ⟨b, off, none⟩) n cap]) (jQ w.heap.size _ L w1 (HCv.o.below B1.o) B1.o.size (by rw [hn.o]; have := HN.o; omega)) ?_)))))))))))))
 rintro e w2 ⟨rfl, k1⟩
 refine ⟨_, rfl, ?_⟩
 rw [hwi.o]
 have R2 := kbx R1 k1
 have B2 := tb B1 k1
 clear k1
 refine Vv (.int .i64 0) (h:=WL.nil (hK5 _ _ (wp_seq_k fun K6 hK6 => wp_seq_k fun K7 hK7 => rgn (Vv (.int .i64 0) (h:=Vf (h:=WL.nil (hK7 _ _ (Cf (h:=wp_skip (hK6 _ _ (wp_seq_k fun K8 hK8 => rgn (Vv (.slice (some ⟨b, off, none⟩) n cap) (h:=Vv (.int .i64 (n : Int)) (h:=?_))))))))))))))
 refine WL.bld (by kernel_rfl) 25 #[(0, .tmp 27)] rfl [(0, .int .i64 (n : Int))] (by simp [Act.eval]) #[.int .i64 (n : Int), .slice none 0 0] (XN (n : Int)) ?_
 simp only [Act.put, pqA, pqB, pqC]
 refine zU 25 zb fun d w3 hd0 D3 b_ => ?_
 have R3 := kbx R2 b_
 have B3 := tb B2 b_
 have gd : Keep (w.heap.size ≤ d) := ⟨by rw [hd0.o]; exact B2.o.size⟩
 clear b_
 have hrd : Keep (r ≠ d) := ⟨by have := R2.o.lt; have := hd0.o; omega⟩
 refine WL.storeR (by kernel_rfl) 25 (.tmp 10) (.tmp 28) rfl d #[.int .i64 (n : Int), .slice none 0 0] rfl rfl 25 #[.int .i64 0, .slice none 0 0] D3.o (by rfl) rfl (by simp [Value.oneCell']) ?_
 have D4 := kk (D3.o.setRow #[.int .i64 (n : Int), .slice none 0 0])
 have B4 : Keep (Below w.heap.size w (w3.setRow d #[.int .i64 (n : Int), .slice none 0 0])) := ⟨qf B3.o gd.o _⟩
 have R4 := kk (R3.o.setRow_ne hrd.o #[.int .i64 (n : Int), .slice none 0 0])
 generalize w3.setRow d #[.int .i64 (n : Int), .slice none 0 0] = w4 at *
 have HBX : Keep (∀ (wx : World) {vl : Value} {u : Nat} {ls : List LV}, FJ w.heap.size w4 wx d n vl L ns u ls → Below w.heap.size w wx) := ⟨fun wx vl u ls h => B4.o.trans (h.gr.to_below (fun k hk e => by have := gd.o; omega) B4.o.size)⟩
 have hFI0 : FJ w.heap.size w4 w4 d n (.slice none 0 0) L ns 0 [] := ⟨Ue (B := w.heap.size) (L := L) (ns := ns) D4.o, fun x hx => by simp at hx⟩
 simp only [Act.put]
 refine WL.nil (hK8 _ _ (wp_seq_k fun K9 hK9 => wp_seq_k fun K10 hK10 => rgn (Vv (.int .i64 0) (h:=WL.nil (hK10 _ _ (wp_block (?_)))))))
 refine wp_loop (fun ac wr => ∃ (t : Nat) (vl : Value), ac = apF (fun f => { tmps := #[.slice (some ⟨b, off, none⟩) n cap, .int .i64 kind, .string key, undef, undef, undef, .pointer (some ⟨r, 0, none⟩), f 7, .bool true, .int .i64 0, .pointer (some ⟨d, 0, none⟩), .int .i64 (t : Int), f 12, f 13, f 14, .int .i64 kind, .bool true, .bool true, .bool false, undef, .slice (some ⟨b, off, none⟩) n cap, .int .i64 0, .int .i64 0, .bool false, undef, undef, .slice (some ⟨b, off, none⟩) n cap, .int .i64 (n : Int), .agg #[.int .i64 (n : Int), .slice none 0 0], f 29, f 30, f 31, f 32, f 33, f 34, f 35, f 36, f 37, f 38, f 39, f 40, f 41, f 42, f 43, f 44, f 45, f 46, f 47, f 48, f 49, f 50, f 51, f 52, f 53, f 54, f 55, f 56, f 57, f 58, f 59, f 60, f 61, f 62, f 63, f 64, f 65, f 66, f 67, f 68, f 69, f 70, f 71, f 72, f 73, f 74, f 75, f 76, f 77, f 78, f 79, f 80, f 81, f 82, f 83, f 84, f 85, f 86, f 87, f 88, f 89, f 90, f 91, f 92, f 93, f 94, f 95, f 96, f 97, f 98, f 99, f 100, f 101, f 102, f 103, f 104, f 105, f 106, f 107, f 108, f 109, f 110, f 111, f 112, f 113, f 114, f 115, f 116, f 117, f 118, f 119, f 120, f 121, f 122, f 123, f 124, f 125, f 126, f 127, f 128, f 129, f 130, f 131, f 132, f 133, f 134, f 135, f 136, f 137, f 138, f 139, f 140, undef], defers := [] }) ac ∧ t ≤ at_ ∧ ∃ (u : Nat) (ls : List LV), u = yp at_ (fndB L at_ kind key) t ∧ FJ w.heap.size w4 wr d n vl L ns u ls) (fun a _ => n - (intOf (a.tmps.getD 11 undef)).toNat) ⟨0, .slice none 0 0, rfl, Nat.zero_le _, 0, [], by unfold yp; rw [if_neg (by omega)], hFI0⟩ ?_
 rintro ac wr ⟨t, vl, hac, hta, hrel⟩
 obtain ⟨f, rfl⟩ := unF hac
 obtain ⟨u, ls, hu, hfi⟩ := hrel
 have Hu := kk hu
 have JF := kk hfi
 clear hfi hu
 have Hu1 : Keep (u ≤ 1) := ⟨by rw [Hu.o]; unfold yp; split <;> omega⟩
 by_cases htn : t < n
 ·have htn' : (t : Int) < (n : Int) := by omega
  have hw9 : IntKind.i64.wrap ((t : Int) + 1) = ((t + 1 : Nat) : Int) := by rw [IntKind.wrap_i64]; have := HN.o; omega
  obtain ⟨c, Hc⟩ : ∃ z, Keep (L[t]? = some z) := ⟨L[t]'(by rw [hn.o]; exact htn), ⟨List.getElem?_eq_getElem _⟩⟩
  have c0_ : wr.cell? ⟨b, off + t * 3, none⟩ = some (.int .i64 c.k) := ((HC.o.below (HBX.o _ JF.o)).c Hc.o).1
  have c1_ : wr.cell? ⟨b, off + t * 3 + 1, none⟩ = some (.string c.s) := ((HC.o.below (HBX.o _ JF.o)).c Hc.o).2.1
  by_cases hlt : t < at_
  ·have hno : Keep (¬ (c.k = kind ∧ c.s = key)) := ⟨XB (by have := (HAt.o t c Hc.o).mpr hlt; omega)⟩
   have hbh : Keep (zC kind key c.k c.s = false) := ⟨by
    have h := (HAt.o t c Hc.o).mpr hlt
    cases e : zC kind key c.k c.s
    ·rfl
    ·have := (Zp _ _ _ _).mpr e; omega⟩
   have hu0 : Keep (u = 0) := ⟨by rw [Hu.o]; unfold yp; rw [if_neg (by omega)]⟩
   refine wp_seq_k fun K11 hK11 => wp_seq_k fun K12 hK12 => rgn (Vv (.int .i64 (t : Int)) (h:=Vv (.slice (some ⟨b, off, none⟩) n cap) (h:=Vv (.int .i64 (n : Int)) (h:=Vt (h:=WL.nil (hK12 _ _ (Ct (h:=wp_skip (hK11 _ _ (wp_seq_k fun K13 hK13 => wp_block (wp_seq_k fun K14 hK14 => wp_seq_k fun K15 hK15 => ?_)))))))))))
   have rest11 : ∀ (y35 y36 y37 y38 y39 y40 y41 y42 y43 y44 y45 y46 y47 y48 y49 y50 : Value), K14 { tmps := #[.slice (some ⟨b, off, none⟩) n cap, .int .i64 kind, .string key, undef, undef, undef, .pointer (some ⟨r, 0, none⟩), f 7, .bool true, .int .i64 0, .pointer (some ⟨d, 0, none⟩), .int .i64 (t : Int), f 12, f 13, f 14, .int .i64 kind, .bool true, .bool true, .bool false, undef, .slice (some ⟨b, off, none⟩) n cap, .int .i64 0, .int .i64 0, .bool false, undef, undef, .slice (some ⟨b, off, none⟩) n cap, .int .i64 (n : Int), .agg #[.int .i64 (n : Int), .slice none 0 0], .int .i64 (t : Int), .slice (some ⟨b, off, none⟩) n cap, .int .i64 (n : Int), .bool true, f 33, f 34, y35, y36, y37, y38, y39, y40, y41, y42, y43, y44, y45, y46, y47, y48, y49, y50, f 51, f 52, f 53, f 54, f 55, f 56, f 57, f 58, f 59, f 60, f 61, f 62, f 63, f 64, f 65, f 66, f 67, f 68, f 69, f 70, f 71, f 72, f 73, f 74, f 75, f 76, f 77, f 78, f 79, f 80, f 81, f 82, f 83, f 84, f 85, f 86, f 87, f 88, f 89, f 90, f 91, f 92, f 93, f 94, f 95, f 96, f 97, f 98, f 99, f 100, f 101, f 102, f 103, f 104, f 105, f 106, f 107, f 108, f 109, f 110, f 111, f 112, f 113, f 114, f 115, f 116, f 117, f 118, f 119, f 120, f 121, f 122, f 123, f 124, f 125, f 126, f 127, f 128, f 129, f 130, f 131, f 132, f 133, f 134, f 135, f 136, f 137, f 138, f 139, f 140, undef], defers := [] } wr := by
    intro y35 y36 y37 y38 y39 y40 y41 y42 y43 y44 y45 y46 y47 y48 y49 y50
    clear c0_ c1_
    refine hK14 _ _ (wp_seq_k fun K16 hK16 => ?_)
    have hS0 : Keep (∀ wx, Below w.heap.size w wx → (fun wx => wx.cell? ⟨b, off + t * 3, none⟩ = some (.int .i64 c.k) ∧ wx.cell? ⟨b, off + t * 3 + 1, none⟩ = some (.string c.s)) wx) := ⟨fun wx hb => ⟨((HC.o.below hb).c Hc.o).1, ((HC.o.below hb).c Hc.o).2.1⟩⟩
    have BE : Keep (Below w.heap.size w wr.drew) := ⟨HBX.o _ JF.o.drew⟩
    refine wp_region_held_drew (S := fun wx => wx.cell? ⟨b, off + t * 3, none⟩ = some (.int .i64 c.k) ∧ wx.cell? ⟨b, off + t * 3 + 1, none⟩ = some (.string c.s)) (by kernel_rfl) (hS0.o _ BE.o) (fun hHeld => ?_)
    refine uJ 0 ⟨some 58, .move (.tmp 1), 3, _, _, none⟩ (.int .i64 kind) rfl hHeld ?_
    refine uJ 1 ⟨some 59, .move (.tmp 2), 9, _, _, none⟩ (.string key) rfl hHeld ?_
    refine uJ 2 ⟨some 60, .move (.tmp 0), 22, _, _, none⟩ (.slice (some ⟨b, off, none⟩) n cap) rfl hHeld ?_
    refine uJ 3 ⟨some 61, .move (.tmp 11), 3, _, _, none⟩ (.int .i64 (t : Int)) rfl hHeld ?_
    refine uJ 7 ⟨some 65, .move (.tmp 0), 22, _, _, none⟩ (.slice (some ⟨b, off, none⟩) n cap) rfl hHeld ?_
    refine uJ 8 ⟨some 66, .move (.tmp 11), 3, _, _, none⟩ (.int .i64 (t : Int)) rfl hHeld ?_
    refine uJ 4 ⟨some 62, .indexAddr 22 (.tmp 60) (.tmp 61), 0, _, _, none⟩ (.pointer (some ⟨b, off + t * 3, none⟩)) rfl hHeld ?_
    refine uJ 9 ⟨some 67, .indexAddr 22 (.tmp 65) (.tmp 66), 0, _, _, none⟩ (.pointer (some ⟨b, off + t * 3, none⟩)) rfl hHeld ?_
    refine uJ 5 ⟨some 63, .fieldAddr 44 (.tmp 62) 0, 0, _, _, none⟩ (.pointer (some ⟨b, off + t * 3, none⟩)) rfl hHeld ?_
    refine uJ 10 ⟨some 68, .fieldAddr 44 (.tmp 67) 1, 0, _, _, none⟩ (.pointer (some ⟨b, off + t * 3 + 1, none⟩)) rfl hHeld ?_
    refine uJ 6 ⟨some 64, .load 3 (.tmp 63), 3, _, _, none⟩ (.int .i64 c.k) rfl hHeld ?_
    refine uJ 11 ⟨some 69, .load 9 (.tmp 68), 9, _, _, none⟩ (.string c.s) rfl hHeld ?_
    refine rd1 12 ⟨some 70, .call { callee := .value (.func 32), args := #[.tmp 58, .tmp 59, .tmp 64, .tmp 69], argTypes := #[3, 9, 3, 9] }, 4, _, _, none⟩ rfl fun K hK => ?_
    refine qz 32 _ _ rfl xL #[.int .i64 kind, .string key, .int .i64 c.k, .string c.s] (by simp [Act.eval]) (fun vz wz => vz = .bool (zC kind key c.k c.s) ∧ wr.drew = wz) ((yJ kind key c.k c.s _).mono fun e w' ⟨h1, h2⟩ => ⟨_, h1, rfl, h2.symm⟩) ?_
    rintro _ wg ⟨rfl, hz⟩
    subst hz
    rw [hbh.o]
    refine hK _ _ (hS0.o _ BE.o) fun hH1 => kNx ?_
    clear hK
    refine uJ 13 ⟨some 12, .assign (.tmp 70), 4, _, _, none⟩ (.bool false) rfl hH1 ?_
    refine wpAnyH_done (by kernel_rfl) ?_ _
    refine hK16 _ _ (wp_seq_k fun K17 hK17 => ?_)
    have JQ := kk JF.o.drew
    generalize wr.drew = wq at *
    clear hS0 BE
    obtain ⟨la, hla⟩ : ∃ z, ((t : Int) + 1 == (n : Int)) = z := ⟨_, rfl⟩
    have hla2 : (((t + 1 : Nat) : Int) == (n : Int)) = la := hla
    refine rgn (Vv (.int .i64 (t : Int)) (h:=Vv (.int .i64 ((t + 1 : Nat) : Int)) (h:=Vv (.slice (some ⟨b, off, none⟩) n cap) (h:=Vv (.int .i64 (n : Int)) (h:=Vv (.bool la) (h:=Vv (.bool la) (h:=WL.nil (hK17 _ _ (wp_seq_k fun K18 hK18 => rgn (Vf (h:=WL.nil (hK18 _ _ (wp_seq_k fun K19 hK19 => wp_seq_k fun K20 hK20 => ?_)))))))))))))
    have Hla := kk hla
    clear hla hla2
    have rest17 : ∀ (y76 y77 y78 y79 y80 y81 y82 y83 y84 y85 y86 y87 y88 y89 y90 y91 y92 y93 : Value) (nx : Bool) (wX : World), (t + 1 < n → nx = !decide (t + 1 < at_)) → FJ w.heap.size w4 wX d n vl L ns u ls → K19 { tmps := #[.slice (some ⟨b, off, none⟩) n cap, .int .i64 kind, .string key, undef, undef, undef, .pointer (some ⟨r, 0, none⟩), f 7, .bool true, .int .i64 0, .pointer (some ⟨d, 0, none⟩), .int .i64 (t : Int), .bool false, .bool la, .bool nx, .int .i64 kind, .bool true, .bool true, .bool false, undef, .slice (some ⟨b, off, none⟩) n cap, .int .i64 0, .int .i64 0, .bool false, undef, undef, .slice (some ⟨b, off, none⟩) n cap, .int .i64 (n : Int), .agg #[.int .i64 (n : Int), .slice none 0 0], .int .i64 (t : Int), .slice (some ⟨b, off, none⟩) n cap, .int .i64 (n : Int), .bool true, f 33, f 34, y35, y36, y37, y38, y39, y40, y41, y42, y43, y44, y45, y46, y47, y48, y49, y50, f 51, f 52, f 53, f 54, f 55, f 56, f 57, .int .i64 kind, .string key, .slice (some ⟨b, off, none⟩) n cap, .int .i64 (t : Int), .pointer (some ⟨b, off + t * 3, none⟩), .pointer (some ⟨b, off + t * 3, none⟩), .int .i64 c.k, .slice (some ⟨b, off, none⟩) n cap, .int .i64 (t : Int), .pointer (some ⟨b, off + t * 3, none⟩), .pointer (some ⟨b, off + t * 3 + 1, none⟩), .string c.s, .bool false, .int .i64 (t : Int), .int .i64 ((t + 1 : Nat) : Int), .slice (some ⟨b, off, none⟩) n cap, .int .i64 (n : Int), .bool la, y76, y77, y78, y79, y80, y81, y82, y83, y84, y85, y86, y87, y88, y89, y90, y91, y92, y93, f 94, f 95, f 96, f 97, f 98, f 99, f 100, f 101, f 102, f 103, f 104, f 105, f 106, f 107, f 108, f 109, f 110, f 111, f 112, f 113, f 114, f 115, f 116, f 117, f 118, f 119, f 120, f 121, f 122, f 123, f 124, f 125, f 126, f 127, f 128, f 129, f 130, f 131, f 132, f 133, f 134, f 135, f 136, f 137, f 138, f 139, f 140, undef], defers := [] } wX := by
     intro y76 y77 y78 y79 y80 y81 y82 y83 y84 y85 y86 y87 y88 y89 y90 y91 y92 y93 nx wX hnx hfX
     have HNX := kk hnx
     have JX := kk hfX
     clear hnx hfX JQ JF
     refine hK19 _ _ (wp_seq_k fun K21 hK21 => wp_seq_k fun K22 hK22 => ?_)
     have rest18 : ∀ (y94 y95 y96 y97 y98 y99 y100 y101 y102 y103 y104 y105 y106 y107 y108 y109 y110 y111 y112 y113 y114 y115 y116 y117 y118 y119 y120 y121 : Value), (ns[u]? = some t ∧ u + 1 = yp at_ (fndB L at_ kind key) (t + 1)) → K22 { tmps := #[.slice (some ⟨b, off, none⟩) n cap, .int .i64 kind, .string key, undef, undef, undef, .pointer (some ⟨r, 0, none⟩), f 7, .bool true, .int .i64 0, .pointer (some ⟨d, 0, none⟩), .int .i64 (t : Int), .bool false, .bool la, .bool nx, .int .i64 kind, .bool true, .bool true, .bool false, undef, .slice (some ⟨b, off, none⟩) n cap, .int .i64 0, .int .i64 0, .bool false, undef, undef, .slice (some ⟨b, off, none⟩) n cap, .int .i64 (n : Int), .agg #[.int .i64 (n : Int), .slice none 0 0], .int .i64 (t : Int), .slice (some ⟨b, off, none⟩) n cap, .int .i64 (n : Int), .bool true, f 33, f 34, y35, y36, y37, y38, y39, y40, y41, y42, y43, y44, y45, y46, y47, y48, y49, y50, f 51, f 52, f 53, f 54, f 55, f 56, f 57, .int .i64 kind, .string key, .slice (some ⟨b, off, none⟩) n cap, .int .i64 (t : Int), .pointer (some ⟨b, off + t * 3, none⟩), .pointer (some ⟨b, off + t * 3, none⟩), .int .i64 c.k, .slice (some ⟨b, off, none⟩) n cap, .int .i64 (t : Int), .pointer (some ⟨b, off + t * 3, none⟩), .pointer (some ⟨b, off + t * 3 + 1, none⟩), .string c.s, .bool false, .int .i64 (t : Int), .int .i64 ((t + 1 : Nat) : Int), .slice (some ⟨b, off, none⟩) n cap, .int .i64 (n : Int), .bool la, y76, y77, y78, y79, y80, y81, y82, y83, y84, y85, y86, y87, y88, y89, y90, y91, y92, y93, y94, y95, y96, y97, y98, y99, y100, y101, y102, y103, y104, y105, y106, y107, y108, y109, y110, y111, y112, y113, y114, y115, y116, y117, y118, y119, y120, y121, .bool true, f 123, f 124, f 125, f 126, f 127, f 128, f 129, f 130, f 131, f 132, f 133, f 134, f 135, f 136, f 137, f 138, f 139, f 140, undef], defers := [] } wX := by
      intro y94 y95 y96 y97 y98 y99 y100 y101 y102 y103 y104 y105 y106 y107 y108 y109 y110 y111 y112 y113 y114 y115 y116 y117 y118 y119 y120 y121 hq
      have Hnu := kk hq.1
      have Hq := kk hq.2
      clear hq
      refine hK22 _ _ (Ct (h:=?_))
      have JFd := kk JX.o.drew
      have Bd : Keep (Below w.heap.size w wX.drew) := ⟨HBX.o _ JFd.o⟩
      refine wp_region_held_drew (S := fun _ => True) (by kernel_rfl) trivial (fun hHeld => ?_)
      refine uG 0 ⟨some 123, .fieldAddr 25 (.tmp 10) 1, 0, _, _, none⟩ (.pointer (some ⟨d, 1, none⟩)) rfl hHeld ?_
      refine uG 2 ⟨some 125, .move (.tmp 0), 22, _, _, none⟩ (.slice (some ⟨b, off, none⟩) n cap) rfl hHeld ?_
      refine uG 3 ⟨some 126, .move (.tmp 11), 3, _, _, none⟩ (.int .i64 (t : Int)) rfl hHeld ?_
      refine wpAnyH_ready (rs := [1, 4]) (by kernel_rfl) (by simp) ?_
      refine AllReadyH.cons (o := ⟨some 124, .load 23 (.tmp 123), 23, _, _, none⟩) rfl (fun K hK => ?_) (AllReadyH.cons (o := ⟨some 127, .call { callee := .value (.func 31), args := #[.tmp 125, .tmp 126], argTypes := #[22, 3] }, 54, _, _, none⟩) rfl (fun K hK => ?_) AllReadyH.nil)
      all_goals rw [if_pos (by rfl)]
      ·have c_ : wX.drew.cell? ⟨d, 1, none⟩ = some vl := JFd.o.bd.c 1 rfl
       refine zq vl (by go_simp) ?_
       clear c_
       refine hK _ _ trivial fun hHl => kNx ?_
       clear hK
       refine rd1 4 ⟨some 127, .call { callee := .value (.func 31), args := #[.tmp 125, .tmp 126], argTypes := #[22, 3] }, 54, _, _, none⟩ rfl fun K hK => ?_
       refine qz 31 _ _ rfl yN #[.slice (some ⟨b, off, none⟩) n cap, .int .i64 (t : Int)] (by simp [Act.eval]) (fun vz wz => ∃ x : LV, vz = .agg (lvA x) ∧ x.num = (t : Int) ∧ x.c.k = c.k ∧ x.c.s = c.s ∧ x.c.l = c.l ∧ Own wz x.c.v x.c.l ∧ (∀ k, x.c.v.ownBlock = some k → wX.drew.heap.size ≤ k) ∧ wz.ownsRow wX.drew.heap.size 32 32 x.pv x.ps.length (qF x.ps) ∧ x.ps.map hsL = zG n L t ∧ Below wX.drew.heap.size wX.drew wz) ?_ ?_
       ·refine (yC b off n cap t L c wX.drew hn htn hcap HN ⟨(HC.o.below Bd.o).mono Bd.o.size⟩ HF Hc ⟨HSz.o c (List.mem_of_getElem? Hc.o)⟩).mono ?_
        rintro e wz ⟨x, rfl, k1, k2, k3, k4, k5, k9, k6, k7, k8⟩
        exact ⟨_, rfl, x, rfl, k1, k2, k3, k4, k5, k9, k6, k7, k8⟩
       rintro vz wa ⟨x, rfl, k1, k2, k3, k4, k5, k9, k6, k7, k8⟩
       have Oa := kk k5
       have Qa := kk (zo k6 Bd.o.size)
       have Na : Keep (∀ k, x.c.v.ownBlock = some k → w.heap.size ≤ k) := ⟨fun k hk => Nat.le_trans Bd.o.size (k9 k hk)⟩
       have Xa := kk (And.intro k1 (And.intro k2 (And.intro k3 (And.intro k4 k7))))
       have ba := kk k8
       have HX1 : Keep (∃ a n c, x.c.v = .slice a n c) := ⟨k5.sl⟩
       have HX2 : Keep (∃ a n c, x.pv = .slice a n c) := ⟨by obtain ⟨a, c, h⟩ := qE k6; exact ⟨a, _, c, h⟩⟩
       clear k1 k2 k3 k4 k5 k9 k6 k7 k8
       refine hK _ _ (trivial) fun hHa => kNx ?_
       clear hK
       refine rd1 5 ⟨some 128, .buildSlice 23 1 #[(0, .tmp 127)], 23, _, _, none⟩ rfl fun K hK => ?_
       refine zI 23 1 _ rfl #[(0, .agg (lvA x))] (by simp [Act.eval]) _ _ (Xj x wa HX1.o HX2.o) ?_
       have bb := qg wa (.cells (lvA x) 54)
       have Qb := kk (Blk.new wa 54 (lvA x))
       generalize wa.alloc (.cells (lvA x) 54) = wb at *
       obtain ⟨g, hg⟩ := nm wa
       rw [← hg.o] at Qb ⊢
       have Ob := kk (qj Oa.o bb)
       have Pb := kk (qj Qa.o bb)
       have bb2 := tb ba bb
       clear bb hg
       refine hK _ _ trivial fun hHc => kNx ?_
       clear hK
       refine rd1 6 ⟨some 129, .call { callee := .builtin .append, args := #[.tmp 124, .tmp 128], argTypes := #[23, 23] }, 23, _, _, none⟩ rfl fun K hK => ?_
       refine zP (.tmp 124) (.tmp 128) rfl w4.heap.size vl u _ x g rfl rfl (qj JFd.o.own bb2.o) (ql Qb.o) (yV x HX1.o HX2.o) (by have := Hu1.o; omega) (Nat.le_trans JFd.o.gr.size bb2.o.size) ?_
       intro v9 wc k1 k2 k3
       have Oc := kk k1
       have Gc : Keep (Grown wb wc (fun k => vl.ownBlock = some k)) := ⟨k2⟩
       have hDc : Keep (Blk wc d 25 #[.int .i64 (n : Int), vl]) := ⟨k2.blk (JFd.o.bd.below bb2.o JFd.o.bd.lt) fun e => absurd ((qn (qj JFd.o.own bb2.o) e).one (JFd.o.bd.below bb2.o JFd.o.bd.lt).typ) (by decide)⟩
       have f_o := hDc.o.frozen 1
       have c_o := hDc.o.c 1 (by rfl : (#[.int .i64 (n : Int), vl] : Array Value)[1]? = some vl)
       obtain ⟨za, zc, hv9⟩ := qE k1
       subst hv9
       clear k1 k2 k3
       refine hK _ _ trivial fun hHd => kNx ?_
       clear hK
       refine uG 7 ⟨some 130, .fieldAddr 25 (.tmp 10) 1, 0, _, _, none⟩ (.pointer (some ⟨d, 1, none⟩)) rfl hHd ?_
       refine rd1 8 ⟨none, .store 23 (.tmp 130) (.tmp 129), 0, _, _, none⟩ rfl fun K hK => ?_
       refine zm (wc.setCell ⟨d, 1, none⟩ (.slice za (u + 1) zc)) (by go_simp) ?_
       clear f_o c_o
       have JE : Keep (FJ w.heap.size w4 (wc.setCell ⟨d, 1, none⟩ (.slice za (u + 1) zc)) d n (.slice za (u + 1) zc) L ns (u + 1) (ls ++ [x])) := ⟨JFd.o.lay x t c wb wc _ bb2.o Ob.o Pb.o Oc.o Gc.o Hnu.o Hc.o Xa.o.1 Xa.o.2.1 Xa.o.2.2.1 Xa.o.2.2.2.1 (by rw [hn.o]; exact Xa.o.2.2.2.2) Na.o⟩
       generalize wc.setCell ⟨d, 1, none⟩ (.slice za (u + 1) zc) = wd at *
       clear hDc Gc Oc Pb Ob
       refine hK _ _ trivial fun hHe => kNx ?_
       clear hK
       refine wpAnyH_done (by kernel_rfl) ?_ _
       refine hK21 _ _ (wp_seq_k fun K23 hK23 => rgn (Vf (h:=WL.nil (hK23 _ _ (Cf (h:=wp_skip (hK13 _ _ (rgn (Vv (.int .i64 (t : Int)) (h:=Vv (.int .i64 ((t + 1 : Nat) : Int)) (h:=Vv (.int .i64 ((t + 1 : Nat) : Int)) (h:=?_))))))))))))
       refine WL.nil ?_
       refine ⟨⟨t + 1, .slice za (u + 1) zc, rfl, by omega, u + 1, ls ++ [x], Hq.o, JE.o⟩, ?_⟩
       ·simp only [intOf]; show n - (((t + 1 : Nat) : Int)).toNat < n - ((t : Int)).toNat; omega
      ·refine qz 31 _ _ rfl yN #[.slice (some ⟨b, off, none⟩) n cap, .int .i64 (t : Int)] (by simp [Act.eval]) (fun vz wz => ∃ x : LV, vz = .agg (lvA x) ∧ x.num = (t : Int) ∧ x.c.k = c.k ∧ x.c.s = c.s ∧ x.c.l = c.l ∧ Own wz x.c.v x.c.l ∧ (∀ k, x.c.v.ownBlock = some k → wX.drew.heap.size ≤ k) ∧ wz.ownsRow wX.drew.heap.size 32 32 x.pv x.ps.length (qF x.ps) ∧ x.ps.map hsL = zG n L t ∧ Below wX.drew.heap.size wX.drew wz) ?_ ?_
       ·refine (yC b off n cap t L c wX.drew hn htn hcap HN ⟨(HC.o.below Bd.o).mono Bd.o.size⟩ HF Hc ⟨HSz.o c (List.mem_of_getElem? Hc.o)⟩).mono ?_
        rintro e wz ⟨x, rfl, k1, k2, k3, k4, k5, k9, k6, k7, k8⟩
        exact ⟨_, rfl, x, rfl, k1, k2, k3, k4, k5, k9, k6, k7, k8⟩
       rintro vz wa ⟨x, rfl, k1, k2, k3, k4, k5, k9, k6, k7, k8⟩
       have Oa := kk k5
       have Qa := kk (zo k6 Bd.o.size)
       have Na : Keep (∀ k, x.c.v.ownBlock = some k → w.heap.size ≤ k) := ⟨fun k hk => Nat.le_trans Bd.o.size (k9 k hk)⟩
       have Xa := kk (And.intro k1 (And.intro k2 (And.intro k3 (And.intro k4 k7))))
       have ba := kk k8
       have HX1 : Keep (∃ a n c, x.c.v = .slice a n c) := ⟨k5.sl⟩
       have HX2 : Keep (∃ a n c, x.pv = .slice a n c) := ⟨by obtain ⟨a, c, h⟩ := qE k6; exact ⟨a, _, c, h⟩⟩
       clear k1 k2 k3 k4 k5 k9 k6 k7 k8
       refine hK _ _ (trivial) fun hHa => kNx ?_
       clear hK
       refine wpAnyH_ready (rs := [1, 5]) (by kernel_rfl) (by simp) ?_
       refine AllReadyH.cons (o := ⟨some 124, .load 23 (.tmp 123), 23, _, _, none⟩) rfl (fun K hK => ?_) (AllReadyH.cons (o := ⟨some 128, .buildSlice 23 1 #[(0, .tmp 127)], 23, _, _, none⟩) rfl (fun K hK => ?_) AllReadyH.nil)
       all_goals rw [if_pos (by rfl)]
       ·have c_ : wa.cell? ⟨d, 1, none⟩ = some vl := (JFd.o.bd.below ba.o JFd.o.bd.lt).c 1 rfl
        refine zq vl (by go_simp) ?_
        clear c_
        refine hK _ _ trivial fun hHl => kNx ?_
        clear hK
        refine rd1 5 ⟨some 128, .buildSlice 23 1 #[(0, .tmp 127)], 23, _, _, none⟩ rfl fun K hK => ?_
        refine zI 23 1 _ rfl #[(0, .agg (lvA x))] (by simp [Act.eval]) _ _ (Xj x wa HX1.o HX2.o) ?_
        have bb := qg wa (.cells (lvA x) 54)
        have Qb := kk (Blk.new wa 54 (lvA x))
        generalize wa.alloc (.cells (lvA x) 54) = wb at *
        obtain ⟨g, hg⟩ := nm wa
        rw [← hg.o] at Qb ⊢
        have Ob := kk (qj Oa.o bb)
        have Pb := kk (qj Qa.o bb)
        have bb2 := tb ba bb
        clear bb hg
        refine hK _ _ trivial fun hHc => kNx ?_
        clear hK
        refine rd1 6 ⟨some 129, .call { callee := .builtin .append, args := #[.tmp 124, .tmp 128], argTypes := #[23, 23] }, 23, _, _, none⟩ rfl fun K hK => ?_
        refine zP (.tmp 124) (.tmp 128) rfl w4.heap.size vl u _ x g rfl rfl (qj JFd.o.own bb2.o) (ql Qb.o) (yV x HX1.o HX2.o) (by have := Hu1.o; omega) (Nat.le_trans JFd.o.gr.size bb2.o.size) ?_
        intro v9 wc k1 k2 k3
        have Oc := kk k1
        have Gc : Keep (Grown wb wc (fun k => vl.ownBlock = some k)) := ⟨k2⟩
        have hDc : Keep (Blk wc d 25 #[.int .i64 (n : Int), vl]) := ⟨k2.blk (JFd.o.bd.below bb2.o JFd.o.bd.lt) fun e => absurd ((qn (qj JFd.o.own bb2.o) e).one (JFd.o.bd.below bb2.o JFd.o.bd.lt).typ) (by decide)⟩
        have f_o := hDc.o.frozen 1
        have c_o := hDc.o.c 1 (by rfl : (#[.int .i64 (n : Int), vl] : Array Value)[1]? = some vl)
        obtain ⟨za, zc, hv9⟩ := qE k1
        subst hv9
        clear k1 k2 k3
        refine hK _ _ trivial fun hHd => kNx ?_
        clear hK
        refine uG 7 ⟨some 130, .fieldAddr 25 (.tmp 10) 1, 0, _, _, none⟩ (.pointer (some ⟨d, 1, none⟩)) rfl hHd ?_
        refine rd1 8 ⟨none, .store 23 (.tmp 130) (.tmp 129), 0, _, _, none⟩ rfl fun K hK => ?_
        refine zm (wc.setCell ⟨d, 1, none⟩ (.slice za (u + 1) zc)) (by go_simp) ?_
        clear f_o c_o
        have JE : Keep (FJ w.heap.size w4 (wc.setCell ⟨d, 1, none⟩ (.slice za (u + 1) zc)) d n (.slice za (u + 1) zc) L ns (u + 1) (ls ++ [x])) := ⟨JFd.o.lay x t c wb wc _ bb2.o Ob.o Pb.o Oc.o Gc.o Hnu.o Hc.o Xa.o.1 Xa.o.2.1 Xa.o.2.2.1 Xa.o.2.2.2.1 (by rw [hn.o]; exact Xa.o.2.2.2.2) Na.o⟩
        generalize wc.setCell ⟨d, 1, none⟩ (.slice za (u + 1) zc) = wd at *
        clear hDc Gc Oc Pb Ob
        refine hK _ _ trivial fun hHe => kNx ?_
        clear hK
        refine wpAnyH_done (by kernel_rfl) ?_ _
        refine hK21 _ _ (wp_seq_k fun K24 hK24 => rgn (Vf (h:=WL.nil (hK24 _ _ (Cf (h:=wp_skip (hK13 _ _ (rgn (Vv (.int .i64 (t : Int)) (h:=Vv (.int .i64 ((t + 1 : Nat) : Int)) (h:=Vv (.int .i64 ((t + 1 : Nat) : Int)) (h:=?_))))))))))))
        refine WL.nil ?_
        refine ⟨⟨t + 1, .slice za (u + 1) zc, rfl, by omega, u + 1, ls ++ [x], Hq.o, JE.o⟩, ?_⟩
        ·simp only [intOf]; show n - (((t + 1 : Nat) : Int)).toNat < n - ((t : Int)).toNat; omega
       ·refine zI 23 1 _ rfl #[(0, .agg (lvA x))] (by simp [Act.eval]) _ _ (Xj x wa HX1.o HX2.o) ?_
        have bb := qg wa (.cells (lvA x) 54)
        have Qb := kk (Blk.new wa 54 (lvA x))
        generalize wa.alloc (.cells (lvA x) 54) = wb at *
        obtain ⟨g, hg⟩ := nm wa
        rw [← hg.o] at Qb ⊢
        have Ob := kk (qj Oa.o bb)
        have Pb := kk (qj Qa.o bb)
        have bb2 := tb ba bb
        clear bb hg
        refine hK _ _ trivial fun hHc => kNx ?_
        clear hK
        refine rd1 1 ⟨some 124, .load 23 (.tmp 123), 23, _, _, none⟩ rfl fun K hK => ?_
        have c_ : wb.cell? ⟨d, 1, none⟩ = some vl := (JFd.o.bd.below bb2.o JFd.o.bd.lt).c 1 rfl
        refine zq vl (by go_simp) ?_
        clear c_
        refine hK _ _ trivial fun hHl => kNx ?_
        clear hK
        refine rd1 6 ⟨some 129, .call { callee := .builtin .append, args := #[.tmp 124, .tmp 128], argTypes := #[23, 23] }, 23, _, _, none⟩ rfl fun K hK => ?_
        refine zP (.tmp 124) (.tmp 128) rfl w4.heap.size vl u _ x g rfl rfl (qj JFd.o.own bb2.o) (ql Qb.o) (yV x HX1.o HX2.o) (by have := Hu1.o; omega) (Nat.le_trans JFd.o.gr.size bb2.o.size) ?_
        intro v9 wc k1 k2 k3
        have Oc := kk k1
        have Gc : Keep (Grown wb wc (fun k => vl.ownBlock = some k)) := ⟨k2⟩
        have hDc : Keep (Blk wc d 25 #[.int .i64 (n : Int), vl]) := ⟨k2.blk (JFd.o.bd.below bb2.o JFd.o.bd.lt) fun e => absurd ((qn (qj JFd.o.own bb2.o) e).one (JFd.o.bd.below bb2.o JFd.o.bd.lt).typ) (by decide)⟩
        have f_o := hDc.o.frozen 1
        have c_o := hDc.o.c 1 (by rfl : (#[.int .i64 (n : Int), vl] : Array Value)[1]? = some vl)
        obtain ⟨za, zc, hv9⟩ := qE k1
        subst hv9
        clear k1 k2 k3
        refine hK _ _ trivial fun hHd => kNx ?_
        clear hK
        refine uG 7 ⟨some 130, .fieldAddr 25 (.tmp 10) 1, 0, _, _, none⟩ (.pointer (some ⟨d, 1, none⟩)) rfl hHd ?_
        refine rd1 8 ⟨none, .store 23 (.tmp 130) (.tmp 129), 0, _, _, none⟩ rfl fun K hK => ?_
        refine zm (wc.setCell ⟨d, 1, none⟩ (.slice za (u + 1) zc)) (by go_simp) ?_
        clear f_o c_o
        have JE : Keep (FJ w.heap.size w4 (wc.setCell ⟨d, 1, none⟩ (.slice za (u + 1) zc)) d n (.slice za (u + 1) zc) L ns (u + 1) (ls ++ [x])) := ⟨JFd.o.lay x t c wb wc _ bb2.o Ob.o Pb.o Oc.o Gc.o Hnu.o Hc.o Xa.o.1 Xa.o.2.1 Xa.o.2.2.1 Xa.o.2.2.2.1 (by rw [hn.o]; exact Xa.o.2.2.2.2) Na.o⟩
        generalize wc.setCell ⟨d, 1, none⟩ (.slice za (u + 1) zc) = wd at *
        clear hDc Gc Oc Pb Ob
        refine hK _ _ trivial fun hHe => kNx ?_
        clear hK
        refine wpAnyH_done (by kernel_rfl) ?_ _
        refine hK21 _ _ (wp_seq_k fun K25 hK25 => rgn (Vf (h:=WL.nil (hK25 _ _ (Cf (h:=wp_skip (hK13 _ _ (rgn (Vv (.int .i64 (t : Int)) (h:=Vv (.int .i64 ((t + 1 : Nat) : Int)) (h:=Vv (.int .i64 ((t + 1 : Nat) : Int)) (h:=?_))))))))))))
        refine WL.nil ?_
        refine ⟨⟨t + 1, .slice za (u + 1) zc, rfl, by omega, u + 1, ls ++ [x], Hq.o, JE.o⟩, ?_⟩
        ·simp only [intOf]; show n - (((t + 1 : Nat) : Int)).toNat < n - ((t : Int)).toNat; omega
     by_cases ht1 : t + 1 < n
     ·obtain rfl : la = false := by rw [← Hla.o]; simp; omega
      obtain ⟨c2, Hc2⟩ : ∃ z, Keep (L[t + 1]? = some z) := ⟨L[t + 1]'(by rw [hn.o]; exact ht1), ⟨List.getElem?_eq_getElem _⟩⟩
      have ht1' : (t : Int) + 1 < (n : Int) := by omega
      have ht1a : 0 ≤ (t : Int) + 1 := by omega
      have ht1b : ¬ (n : Int) ≤ (t : Int) + 1 := by omega
      have d0_ : wX.cell? ⟨b, off + (t + 1) * 3, none⟩ = some (.int .i64 c2.k) := ((HC.o.below (HBX.o _ JX.o)).c Hc2.o).1
      have d1_ : wX.cell? ⟨b, off + (t + 1) * 3 + 1, none⟩ = some (.string c2.s) := ((HC.o.below (HBX.o _ JX.o)).c Hc2.o).2.1
      have hnx := HNX.o ht1
      by_cases ht2 : t + 1 < at_
      ·obtain rfl : nx = false := by rw [hnx]; simp [ht2]
       clear hnx
       have Hq : Keep (u = yp at_ (fndB L at_ kind key) (t + 1)) := ⟨by rw [hu0.o]; unfold yp; rw [if_neg (by omega)]⟩
       refine rgn (Vf (h:=Vt (h:=Vt (h:=Vf (h:=Vf (h:=Vf (h:=Vf (h:=Vs (h:=Vs (h:=Vs (h:=Vs (h:=Vs (h:=Vs (h:=?_))))))))))))))
       refine Vs (h:=Vs (h:=Vs (h:=Vs (h:=Vs (h:=Vs (h:=Vs (h:=Vs (h:=Vs (h:=Vs (h:=Vs (h:=Vs (h:=Vs (h:=Vf (h:=?_))))))))))))))
       refine Vf (h:=Vf (h:=WL.nil (hK22 _ _ (Cf (h:=wp_skip (hK21 _ _ (wp_seq_k fun K26 hK26 => rgn (Vf (h:=WL.nil (hK26 _ _ (Cf (h:=wp_skip (hK13 _ _ (rgn (Vv (.int .i64 (t : Int)) (h:=?_))))))))))))))))
       refine Vv (.int .i64 ((t + 1 : Nat) : Int)) (h:=Vv (.int .i64 ((t + 1 : Nat) : Int)) (h:=?_))
       refine WL.nil ?_
       refine ⟨⟨t + 1, vl, rfl, by omega, u, ls, Hq.o, JX.o⟩, ?_⟩
       ·simp only [intOf]; show n - (((t + 1 : Nat) : Int)).toNat < n - ((t : Int)).toNat; omega
      ·obtain rfl : nx = true := by rw [hnx]; simp [ht2]
       clear hnx
       have hta1 : Keep (t + 1 = at_) := ⟨by omega⟩
       have hat : Keep ((fndB L at_ kind key) = decide (stI c2.k c2.s kind key = 0)) := ⟨by rw [← hta1.o]; exact XD Hc2.o⟩
       by_cases hk2 : c2.k = kind
       ·have hk2' : (c2.k == kind) = true := by simpa using hk2
        by_cases hs2 : c2.s = key
        ·have hs2' : c2.s.toList = key.toList := by rw [hs2]
         have Hq : Keep (u = yp at_ (fndB L at_ kind key) (t + 1)) := ⟨by
          rw [hu0.o, show (fndB L at_ kind key) = true from by rw [hat.o]; simp; exact (vP _ _ _ _).mpr ⟨hk2, hs2⟩]; unfold yp; rw [if_neg (fun h => by cases h.2.2)]⟩
         refine rgn (Vf (h:=Vt (h:=Vt (h:=Vf (h:=Vf (h:=Vt (h:=Vt (h:=Vv (.slice (some ⟨b, off, none⟩) n cap) (h:=Vv (.int .i64 (t : Int)) (h:=Vv (.int .i64 ((t + 1 : Nat) : Int)) (h:=Vv (.pointer (some ⟨b, off + (t + 1) * 3, none⟩)) (h:=Vv (.pointer (some ⟨b, off + (t + 1) * 3, none⟩)) (h:=Vv (.int .i64 c2.k) (h:=?_))))))))))))))
         refine Vv (.int .i64 kind) (h:=Vt (h:=Vt (h:=Vv (.slice (some ⟨b, off, none⟩) n cap) (h:=Vv (.int .i64 (t : Int)) (h:=Vv (.int .i64 ((t + 1 : Nat) : Int)) (h:=Vv (.pointer (some ⟨b, off + (t + 1) * 3, none⟩)) (h:=Vv (.pointer (some ⟨b, off + (t + 1) * 3 + 1, none⟩)) (h:=Vv (.string c2.s) (h:=Vv (.string key) (h:=Vt (h:=Vt (h:=Vf (h:=Vf (h:=?_))))))))))))))
         refine Vf (h:=Vf (h:=WL.nil (hK22 _ _ (Cf (h:=wp_skip (hK21 _ _ (wp_seq_k fun K27 hK27 => rgn (Vf (h:=WL.nil (hK27 _ _ (Cf (h:=wp_skip (hK13 _ _ (rgn (Vv (.int .i64 (t : Int)) (h:=?_))))))))))))))))
         refine Vv (.int .i64 ((t + 1 : Nat) : Int)) (h:=Vv (.int .i64 ((t + 1 : Nat) : Int)) (h:=?_))
         refine WL.nil ?_
         refine ⟨⟨t + 1, vl, rfl, by omega, u, ls, Hq.o, JX.o⟩, ?_⟩
         ·simp only [intOf]; show n - (((t + 1 : Nat) : Int)).toNat < n - ((t : Int)).toNat; omega
        ·have hs2' : ¬ c2.s.toList = key.toList := fun e => hs2 (yv e)
         have hisf : Keep ((fndB L at_ kind key) = false) := ⟨by rw [hat.o]; simp; exact fun e => hs2 ((vP _ _ _ _).mp e).2⟩
         refine rgn (Vf (h:=Vt (h:=Vt (h:=Vf (h:=Vf (h:=Vt (h:=Vt (h:=Vv (.slice (some ⟨b, off, none⟩) n cap) (h:=Vv (.int .i64 (t : Int)) (h:=Vv (.int .i64 ((t + 1 : Nat) : Int)) (h:=Vv (.pointer (some ⟨b, off + (t + 1) * 3, none⟩)) (h:=Vv (.pointer (some ⟨b, off + (t + 1) * 3, none⟩)) (h:=Vv (.int .i64 c2.k) (h:=?_))))))))))))))
         refine Vv (.int .i64 kind) (h:=Vt (h:=Vt (h:=Vv (.slice (some ⟨b, off, none⟩) n cap) (h:=Vv (.int .i64 (t : Int)) (h:=Vv (.int .i64 ((t + 1 : Nat) : Int)) (h:=Vv (.pointer (some ⟨b, off + (t + 1) * 3, none⟩)) (h:=Vv (.pointer (some ⟨b, off + (t + 1) * 3 + 1, none⟩)) (h:=Vv (.string c2.s) (h:=Vv (.string key) (h:=Vf (h:=Vf (h:=Vt (h:=Vt (h:=?_))))))))))))))
         refine Vt (h:=Vt (h:=?_))
         refine WL.nil ?_
         exact rest18 _ _ _ _ _ _ _ _ _ _ _ _ _ _ _ _ _ _ _ _ _ _ _ _ _ _ _ _ ⟨by rw [hu0.o, ← hns.o, hisf.o, ← hta1.o]; simp [fnd], by rw [hu0.o, hisf.o]; unfold yp; rw [if_pos ⟨hta1.o, by omega, rfl⟩]⟩
       ·have hk2' : (c2.k == kind) = false := by simpa using hk2
        have hisf : Keep ((fndB L at_ kind key) = false) := ⟨by rw [hat.o]; simp; exact fun e => hk2 ((vP _ _ _ _).mp e).1⟩
        refine rgn (Vf (h:=Vt (h:=Vt (h:=Vf (h:=Vf (h:=Vt (h:=Vt (h:=Vv (.slice (some ⟨b, off, none⟩) n cap) (h:=Vv (.int .i64 (t : Int)) (h:=Vv (.int .i64 ((t + 1 : Nat) : Int)) (h:=Vv (.pointer (some ⟨b, off + (t + 1) * 3, none⟩)) (h:=Vv (.pointer (some ⟨b, off + (t + 1) * 3, none⟩)) (h:=Vv (.int .i64 c2.k) (h:=?_))))))))))))))
        refine Vv (.int .i64 kind) (h:=Vf (h:=Vf (h:=Vs (h:=Vs (h:=Vs (h:=Vs (h:=Vs (h:=Vs (h:=Vs (h:=Vs (h:=Vf (h:=Vt (h:=Vt (h:=?_))))))))))))))
        refine Vt (h:=Vt (h:=?_))
        refine WL.nil ?_
        exact rest18 _ _ _ _ _ _ _ _ _ _ _ _ _ _ _ _ _ _ _ _ _ _ _ _ _ _ _ _ ⟨by rw [hu0.o, ← hns.o, hisf.o, ← hta1.o]; simp [fnd], by rw [hu0.o, hisf.o]; unfold yp; rw [if_pos ⟨hta1.o, by omega, rfl⟩]⟩
     ·obtain rfl : la = true := by rw [← Hla.o]; simp; omega
      have hta1 : Keep (t + 1 = at_) := ⟨by have := HA.o; omega⟩
      have hisf : Keep ((fndB L at_ kind key) = false) := ⟨by
       cases e : (fndB L at_ kind key)
       ·rfl
       ·have := Kj e; rw [hn.o] at this; have := hta1.o; omega⟩
      refine rgn (Vf (h:=Vt (h:=Vt (h:=Vt (h:=Vt (h:=Vs (h:=Vs (h:=Vs (h:=Vs (h:=Vs (h:=Vs (h:=Vs (h:=Vs (h:=?_))))))))))))))
      refine Vs (h:=Vs (h:=Vs (h:=Vs (h:=Vs (h:=Vs (h:=Vs (h:=Vs (h:=Vs (h:=Vs (h:=Vs (h:=Vs (h:=Vs (h:=Vs (h:=?_))))))))))))))
      refine Vt (h:=Vt (h:=?_))
      refine WL.nil ?_
      exact rest18 _ _ _ _ _ _ _ _ _ _ _ _ _ _ _ _ _ _ _ _ _ _ _ _ _ _ _ _ ⟨by rw [hu0.o, ← hns.o, hisf.o, ← hta1.o]; simp [fnd], by rw [hu0.o, hisf.o]; unfold yp; rw [if_pos ⟨hta1.o, by omega, rfl⟩]⟩
    by_cases ht1 : t + 1 < n
    ·obtain rfl : la = false := by rw [← Hla.o]; simp; omega
     have ht1' : (t : Int) + 1 < (n : Int) := by omega
     have ht1a : 0 ≤ (t : Int) + 1 := by omega
     have ht1b : ¬ (n : Int) ≤ (t : Int) + 1 := by omega
     refine rgn (Vf (h:=Vt (h:=WL.nil (hK20 _ _ (Ct (h:=?_))))))
     obtain ⟨c2, Hc2⟩ : ∃ z, Keep (L[t + 1]? = some z) := ⟨L[t + 1]'(by rw [hn.o]; exact ht1), ⟨List.getElem?_eq_getElem _⟩⟩
     obtain ⟨av, hav⟩ : ∃ z, Keep (zC c2.k c2.s kind key = z) := ⟨_, ⟨rfl⟩⟩
     have hS0 : Keep (∀ wx, Below w.heap.size w wx → (fun wx => wx.cell? ⟨b, off + (t + 1) * 3, none⟩ = some (.int .i64 c2.k) ∧ wx.cell? ⟨b, off + (t + 1) * 3 + 1, none⟩ = some (.string c2.s)) wx) := ⟨fun wx hb => ⟨((HC.o.below hb).c Hc2.o).1, ((HC.o.below hb).c Hc2.o).2.1⟩⟩
     have BE : Keep (Below w.heap.size w wq.drew) := ⟨HBX.o _ JQ.o.drew⟩
     refine wp_region_held_drew (S := fun wx => wx.cell? ⟨b, off + (t + 1) * 3, none⟩ = some (.int .i64 c2.k) ∧ wx.cell? ⟨b, off + (t + 1) * 3 + 1, none⟩ = some (.string c2.s)) (by kernel_rfl) (hS0.o _ BE.o) (fun hHeld => ?_)
     refine uJ 0 ⟨some 78, .move (.tmp 0), 22, _, _, none⟩ (.slice (some ⟨b, off, none⟩) n cap) rfl hHeld ?_
     refine uJ 1 ⟨some 79, .move (.tmp 11), 3, _, _, none⟩ (.int .i64 (t : Int)) rfl hHeld ?_
     refine uJ 6 ⟨some 84, .move (.tmp 0), 22, _, _, none⟩ (.slice (some ⟨b, off, none⟩) n cap) rfl hHeld ?_
     refine uJ 7 ⟨some 85, .move (.tmp 11), 3, _, _, none⟩ (.int .i64 (t : Int)) rfl hHeld ?_
     refine uJ 12 ⟨some 90, .move (.tmp 1), 3, _, _, none⟩ (.int .i64 kind) rfl hHeld ?_
     refine uJ 13 ⟨some 91, .move (.tmp 2), 9, _, _, none⟩ (.string key) rfl hHeld ?_
     refine uJ 2 ⟨some 80, .binOp BinOp.add 3 (.tmp 79) (.const (Value.int IntKind.i64 1)) 3, 3, _, _, none⟩ (.int .i64 ((t + 1 : Nat) : Int)) rfl hHeld ?_
     refine uJ 8 ⟨some 86, .binOp BinOp.add 3 (.tmp 85) (.const (Value.int IntKind.i64 1)) 3, 3, _, _, none⟩ (.int .i64 ((t + 1 : Nat) : Int)) rfl hHeld ?_
     refine uJ 3 ⟨some 81, .indexAddr 22 (.tmp 78) (.tmp 80), 0, _, _, none⟩ (.pointer (some ⟨b, off + (t + 1) * 3, none⟩)) rfl hHeld ?_
     refine uJ 9 ⟨some 87, .indexAddr 22 (.tmp 84) (.tmp 86), 0, _, _, none⟩ (.pointer (some ⟨b, off + (t + 1) * 3, none⟩)) rfl hHeld ?_
     refine uJ 4 ⟨some 82, .fieldAddr 44 (.tmp 81) 0, 0, _, _, none⟩ (.pointer (some ⟨b, off + (t + 1) * 3, none⟩)) rfl hHeld ?_
     refine uJ 10 ⟨some 88, .fieldAddr 44 (.tmp 87) 1, 0, _, _, none⟩ (.pointer (some ⟨b, off + (t + 1) * 3 + 1, none⟩)) rfl hHeld ?_
     refine uJ 5 ⟨some 83, .load 3 (.tmp 82), 3, _, _, none⟩ (.int .i64 c2.k) rfl hHeld ?_
     refine uJ 11 ⟨some 89, .load 9 (.tmp 88), 9, _, _, none⟩ (.string c2.s) rfl hHeld ?_
     refine rd1 14 ⟨some 92, .call { callee := .value (.func 32), args := #[.tmp 83, .tmp 89, .tmp 90, .tmp 91], argTypes := #[3, 9, 3, 9] }, 4, _, _, none⟩ rfl fun K hK => ?_
     refine qz 32 _ _ rfl xL #[.int .i64 c2.k, .string c2.s, .int .i64 kind, .string key] (by simp [Act.eval]) (fun vz wz => vz = .bool (zC c2.k c2.s kind key) ∧ wq.drew = wz) ((yJ c2.k c2.s kind key _).mono fun e w' ⟨h1, h2⟩ => ⟨_, h1, rfl, h2.symm⟩) ?_
     rintro _ wg ⟨rfl, hz⟩
     subst hz
     rw [hav.o]
     refine hK _ _ (hS0.o _ BE.o) fun hH2 => kNx ?_
     clear hK
     refine uJ 15 ⟨some 93, .unOp UnOp.not 4 (.tmp 92), 4, _, _, none⟩ (.bool (!av)) rfl hH2 ?_
     refine uJ 16 ⟨some 14, .assign (.tmp 93), 4, _, _, none⟩ (.bool (!av)) rfl hH2 ?_
     refine wpAnyH_done (by kernel_rfl) ?_ _
     exact rest17 _ _ _ _ _ _ _ _ _ _ _ _ _ _ _ _ _ _ (!av) _ (fun _ => by rw [← hav.o]; congr 1; rw [Bool.eq_iff_iff, ← QG, decide_eq_true_iff]; exact HAt.o _ c2 Hc2.o) JQ.o.drew
    ·obtain rfl : la = true := by rw [← Hla.o]; simp; omega
     refine rgn (Vt (h:=Vf (h:=WL.nil (hK20 _ _ (Cf (h:=wp_skip (?_)))))))
     exact rest17 _ _ _ _ _ _ _ _ _ _ _ _ _ _ _ _ _ _ false _ (fun h => absurd h ht1) JQ.o
   by_cases hkk : c.k = kind
   ·have hkk' : (c.k == kind) = true := by simpa using hkk
    have hks : ¬ c.s = key := fun e => hno.o ⟨hkk, e⟩
    have hks' : ¬ c.s.toList = key.toList := fun e => hks (yv e)
    refine rgn (Vv (.slice (some ⟨b, off, none⟩) n cap) (h:=Vv (.int .i64 (t : Int)) (h:=Vv (.pointer (some ⟨b, off + t * 3, none⟩)) (h:=Vv (.pointer (some ⟨b, off + t * 3, none⟩)) (h:=Vv (.int .i64 c.k) (h:=Vv (.int .i64 kind) (h:=Vt (h:=Vt (h:=Vv (.slice (some ⟨b, off, none⟩) n cap) (h:=Vv (.int .i64 (t : Int)) (h:=Vv (.pointer (some ⟨b, off + t * 3, none⟩)) (h:=Vv (.pointer (some ⟨b, off + t * 3 + 1, none⟩)) (h:=Vv (.string c.s) (h:=?_))))))))))))))
    refine Vv (.string key) (h:=Vf (h:=Vf (h:=WL.nil (hK15 _ _ (Cf (h:=wp_skip (?_)))))))
    exact rest11 _ _ _ _ _ _ _ _ _ _ _ _ _ _ _ _
   ·have hkk' : (c.k == kind) = false := by simpa using hkk
    refine rgn (Vv (.slice (some ⟨b, off, none⟩) n cap) (h:=Vv (.int .i64 (t : Int)) (h:=Vv (.pointer (some ⟨b, off + t * 3, none⟩)) (h:=Vv (.pointer (some ⟨b, off + t * 3, none⟩)) (h:=Vv (.int .i64 c.k) (h:=Vv (.int .i64 kind) (h:=Vf (h:=Vf (h:=Vs (h:=Vs (h:=Vs (h:=Vs (h:=Vs (h:=?_))))))))))))))
    refine Vs (h:=Vs (h:=Vf (h:=WL.nil (hK15 _ _ (Cf (h:=wp_skip (?_)))))))
    exact rest11 _ _ _ _ _ _ _ _ _ _ _ _ _ _ _ _
  ·obtain rfl : t = at_ := by omega
   have hat := kk (XD (kind := kind) (key := key) Hc.o)
   by_cases his : stI c.k c.s kind key = 0
   ·obtain ⟨hkk, hks⟩ := (vP _ _ _ _).mp his
    have hkk' : (c.k == kind) = true := by simpa using hkk
    have hks' : c.s.toList = key.toList := by rw [hks]
    have hist : Keep (fndB L t kind key = true) := ⟨by rw [hat.o]; simpa using his⟩
    clear his
    have Bx : Keep (Below w.heap.size w wr) := ⟨HBX.o _ JF.o⟩
    have Rx := kk (JF.o.gr.blk R4.o hrd.o)
    refine wp_seq_k fun K28 hK28 => wp_seq_k fun K29 hK29 => rgn (Vv (.int .i64 (t : Int)) (h:=Vv (.slice (some ⟨b, off, none⟩) n cap) (h:=Vv (.int .i64 (n : Int)) (h:=Vt (h:=WL.nil (hK29 _ _ (Ct (h:=wp_skip (hK28 _ _ (wp_seq_k fun K30 hK30 => wp_block (wp_seq_k fun K31 hK31 => wp_seq_k fun K32 hK32 => rgn (Vv (.slice (some ⟨b, off, none⟩) n cap) (h:=Vv (.int .i64 (t : Int)) (h:=?_))))))))))))))
    refine Vv (.pointer (some ⟨b, off + t * 3, none⟩)) (h:=Vv (.pointer (some ⟨b, off + t * 3, none⟩)) (h:=Vv (.int .i64 c.k) (h:=Vv (.int .i64 kind) (h:=Vt (h:=Vt (h:=Vv (.slice (some ⟨b, off, none⟩) n cap) (h:=Vv (.int .i64 (t : Int)) (h:=Vv (.pointer (some ⟨b, off + t * 3, none⟩)) (h:=Vv (.pointer (some ⟨b, off + t * 3 + 1, none⟩)) (h:=Vv (.string c.s) (h:=Vv (.string key) (h:=Vt (h:=Vt (h:=?_))))))))))))))
    refine WL.nil (hK32 _ _ (Ct (h:=wp_seq_k fun K33 hK33 => rgn (Vv (.slice (some ⟨b, off, none⟩) n cap) (h:=Vv (.int .i64 (n : Int)) (h:=Vv (.slice (some ⟨b, off, none⟩) n cap) (h:=Vv (.int .i64 (t : Int)) (h:=ClS (vs := #[.slice (some ⟨b, off, none⟩) n cap, .int .i64 (t : Int)]) (yC b off n cap t L c _ hn htn hcap HN ⟨(HC.o.below Bx.o).mono Bx.o.size⟩ HF Hc ⟨HSz.o c (List.mem_of_getElem? Hc.o)⟩) ?_))))))))
    rintro e wa ⟨x, rfl, k1, k2, k3, k4, k5, k9, k6, k7, k8⟩
    refine ⟨_, rfl, ?_⟩
    have Xa := kk (And.intro k1 (And.intro k2 (And.intro k3 (And.intro k4 k7))))
    have Oa := kk k5
    have Na : Keep (∀ k, x.c.v.ownBlock = some k → w.heap.size ≤ k) := ⟨fun k hk => Nat.le_trans Bx.o.size (k9 k hk)⟩
    have Qa := kk (zo k6 Bx.o.size)
    have HX1 : Keep (∃ a n c, x.c.v = .slice a n c) := ⟨k5.sl⟩
    have HX2 : Keep (∃ a n c, x.pv = .slice a n c) := ⟨by obtain ⟨a, c, h⟩ := qE k6; exact ⟨a, _, c, h⟩⟩
    have Ra := kbx Rx k8
    have Ba := tb Bx k8
    clear k1 k2 k3 k4 k5 k9 k6 k7 k8 c0_ c1_
    refine WL.bs (by kernel_rfl) 23 1 _ rfl #[(0, .agg (lvA x))] (by simp [Act.eval]) _ _ (Xj x wa HX1.o HX2.o) ?_
    have bb := qg wa (.cells (lvA x) 54)
    have Qb := kk (Blk.new wa 54 (lvA x))
    generalize wa.alloc (.cells (lvA x) 54) = wb at *
    obtain ⟨g, hg⟩ := nm wa
    rw [← hg.o] at Qb ⊢
    have Ob := kk (qj Oa.o bb)
    have Pb := kk (qj Qa.o bb)
    have Rb := kbx Ra bb
    have Bb := tb Ba bb
    clear bb
    simp only [Act.put, pqA, pqB, pqC]
    refine WL.bld (by kernel_rfl) 25 #[(0, .tmp 52), (1, .tmp 56)] rfl [(0, .int .i64 (n : Int)), (1, .slice (some ⟨g, 0, none⟩) 1 1)] (by simp [Act.eval]) #[.int .i64 (n : Int), .slice (some ⟨g, 0, none⟩) 1 1] (Do (n : Int) _ 1 1) ?_
    simp only [Act.put, pqA, pqB, pqC]
    refine WL.storeR (by kernel_rfl) 25 (.tmp 6) (.tmp 57) rfl r #[.int .i64 (n : Int), .slice (some ⟨g, 0, none⟩) 1 1] rfl rfl 25 #[.int .i64 0, .slice none 0 0] Rb.o (by rfl) rfl (by simp [Value.oneCell']) ?_
    have R9 := kk (Rb.o.setRow #[.int .i64 (n : Int), .slice (some ⟨g, 0, none⟩) 1 1])
    have B9 : Keep (Below w.heap.size w (wb.setRow r #[.int .i64 (n : Int), .slice (some ⟨g, 0, none⟩) 1 1])) := ⟨qf Bb.o gr.o _⟩
    have g_ : Grown wb (wb.setRow r #[.int .i64 (n : Int), .slice (some ⟨g, 0, none⟩) 1 1]) (fun k => k = r) := Grown.setRow _ r #[.int .i64 (n : Int), .slice (some ⟨g, 0, none⟩) 1 1] fun _ => rfl
    have hall : ∀ {B T s n' : Nat} {v : Value} {xs : List Value}, wb.ownsRow B T s v n' xs → T ≠ 25 → (wb.setRow r #[.int .i64 (n : Int), .slice (some ⟨g, 0, none⟩) 1 1]).ownsRow B T s v n' xs := fun h h2 => qo h g_ fun k hk e => by
     subst e
     exact h2 ((qn h hk).one Rb.o.typ)
    have hgB : w.heap.size ≤ g := by rw [hg.o]; exact Ba.o.size
    have LS9 : Keep (WtF (wb.setRow r #[.int .i64 (n : Int), .slice (some ⟨g, 0, none⟩) 1 1]) w.heap.size (.slice (some ⟨g, 0, none⟩) 1 1) [x]) := ⟨by
     have hQ := g_.blk Qb.o (zr Qb.o Rb.o (by decide))
     exact ⟨by simp [lvA], .inr ⟨g, 1, lvA x, rfl, hgB, hQ, Nat.le_refl _, by decide, rfl, by simp [lvA]⟩⟩, fun y hy => by
     rw [List.mem_singleton.mp hy]
     exact ⟨hall Ob.o (by decide), hall Pb.o (by decide)⟩, fun y hy => by
     rw [List.mem_singleton.mp hy]
     exact Na.o⟩
    clear hgB
    clear hall g_
    generalize wb.setRow r #[.int .i64 (n : Int), .slice (some ⟨g, 0, none⟩) 1 1] = w9 at *
    simp only [Act.put]
    refine Vv (.int .i64 0) (h:=WL.nil (hK33 _ _ (wp_ret ?_)))
    try simp only [Exit.inBlock, Exit.then]
    refine bodyPost_ret (v := .tuple #[.agg #[.int .i64 (n : Int), .slice (some ⟨g, 0, none⟩) 1 1], .int .i64 0]) (qp Try.results9 _ _ r 25 _ (0, 0) _ _ rfl rfl R9.o Try.underlying25 rfl (by rfl)) rfl ⟨(n : Int), .slice (some ⟨g, 0, none⟩) 1 1, [x], 0, rfl, LS9.o, B9.o, (fun h => by rw [hkm] at h; cases h), (fun _ h => absurd hwi.o h), (fun _ _ => ⟨by rw [hn.o], rfl, (fun h => by rw [h] at hn; have := hn.o; simp at this; omega), fun _ => ⟨by rw [hist.o]; rfl, ?_⟩⟩)⟩
    rw [hist.o]
    intro j k y hj hy
    have hi := (List.getElem?_eq_some_iff.mp hy).1
    obtain rfl : j = 0 := by simp at hi; omega
    simp [fnd] at hj hy
    subst hj hy
    exact ⟨Xa.o.1, ⟨c, Hc.o, Xa.o.2.1, Xa.o.2.2.1, Xa.o.2.2.2.1⟩, by rw [hn.o]; exact Xa.o.2.2.2.2⟩
   ·have hno : Keep (¬ (c.k = kind ∧ c.s = key)) := ⟨XB his⟩
    have hisf : Keep (fndB L t kind key = false) := ⟨by rw [hat.o]; simpa using his⟩
    have hbh : Keep (zC kind key c.k c.s = true) := ⟨(Zp _ _ _ _).mp (by
     have h := HAt.o t c Hc.o
     have h2 : ¬ stI c.k c.s kind key < 0 := fun e => by have := h.mp e; omega
     omega)⟩
    have Hnu : Keep (ns[u]? = some t) := ⟨by
     rw [← hns.o, hisf.o, Hu.o, hisf.o]
     unfold fnd yp
     by_cases h0 : 0 < t
     ·simp [h0, htn]
     ·simp [h0, htn]⟩
    have Hlen : Keep (u + 1 = ns.length) := ⟨by
     rw [← hns.o, hisf.o, Hu.o, hisf.o]
     unfold fnd yp
     by_cases h0 : 0 < t
     ·simp [h0, htn]
     ·simp [h0, htn]⟩
    refine wp_seq_k fun K34 hK34 => wp_seq_k fun K35 hK35 => rgn (Vv (.int .i64 (t : Int)) (h:=Vv (.slice (some ⟨b, off, none⟩) n cap) (h:=Vv (.int .i64 (n : Int)) (h:=Vt (h:=WL.nil (hK35 _ _ (Ct (h:=wp_skip (hK34 _ _ (wp_seq_k fun K36 hK36 => wp_block (wp_seq_k fun K37 hK37 => wp_seq_k fun K38 hK38 => ?_)))))))))))
    have rest11 : ∀ (y35 y36 y37 y38 y39 y40 y41 y42 y43 y44 y45 y46 y47 y48 y49 y50 : Value), K37 { tmps := #[.slice (some ⟨b, off, none⟩) n cap, .int .i64 kind, .string key, undef, undef, undef, .pointer (some ⟨r, 0, none⟩), f 7, .bool true, .int .i64 0, .pointer (some ⟨d, 0, none⟩), .int .i64 (t : Int), f 12, f 13, f 14, .int .i64 kind, .bool true, .bool true, .bool false, undef, .slice (some ⟨b, off, none⟩) n cap, .int .i64 0, .int .i64 0, .bool false, undef, undef, .slice (some ⟨b, off, none⟩) n cap, .int .i64 (n : Int), .agg #[.int .i64 (n : Int), .slice none 0 0], .int .i64 (t : Int), .slice (some ⟨b, off, none⟩) n cap, .int .i64 (n : Int), .bool true, f 33, f 34, y35, y36, y37, y38, y39, y40, y41, y42, y43, y44, y45, y46, y47, y48, y49, y50, f 51, f 52, f 53, f 54, f 55, f 56, f 57, f 58, f 59, f 60, f 61, f 62, f 63, f 64, f 65, f 66, f 67, f 68, f 69, f 70, f 71, f 72, f 73, f 74, f 75, f 76, f 77, f 78, f 79, f 80, f 81, f 82, f 83, f 84, f 85, f 86, f 87, f 88, f 89, f 90, f 91, f 92, f 93, f 94, f 95, f 96, f 97, f 98, f 99, f 100, f 101, f 102, f 103, f 104, f 105, f 106, f 107, f 108, f 109, f 110, f 111, f 112, f 113, f 114, f 115, f 116, f 117, f 118, f 119, f 120, f 121, f 122, f 123, f 124, f 125, f 126, f 127, f 128, f 129, f 130, f 131, f 132, f 133, f 134, f 135, f 136, f 137, f 138, f 139, f 140, undef], defers := [] } wr := by
     intro y35 y36 y37 y38 y39 y40 y41 y42 y43 y44 y45 y46 y47 y48 y49 y50
     clear c0_ c1_
     refine hK37 _ _ (wp_seq_k fun K39 hK39 => ?_)
     have hS0 : Keep (∀ wx, Below w.heap.size w wx → (fun wx => wx.cell? ⟨b, off + t * 3, none⟩ = some (.int .i64 c.k) ∧ wx.cell? ⟨b, off + t * 3 + 1, none⟩ = some (.string c.s)) wx) := ⟨fun wx hb => ⟨((HC.o.below hb).c Hc.o).1, ((HC.o.below hb).c Hc.o).2.1⟩⟩
     have BE : Keep (Below w.heap.size w wr.drew) := ⟨HBX.o _ JF.o.drew⟩
     refine wp_region_held_drew (S := fun wx => wx.cell? ⟨b, off + t * 3, none⟩ = some (.int .i64 c.k) ∧ wx.cell? ⟨b, off + t * 3 + 1, none⟩ = some (.string c.s)) (by kernel_rfl) (hS0.o _ BE.o) (fun hHeld => ?_)
     refine uJ 0 ⟨some 58, .move (.tmp 1), 3, _, _, none⟩ (.int .i64 kind) rfl hHeld ?_
     refine uJ 1 ⟨some 59, .move (.tmp 2), 9, _, _, none⟩ (.string key) rfl hHeld ?_
     refine uJ 2 ⟨some 60, .move (.tmp 0), 22, _, _, none⟩ (.slice (some ⟨b, off, none⟩) n cap) rfl hHeld ?_
     refine uJ 3 ⟨some 61, .move (.tmp 11), 3, _, _, none⟩ (.int .i64 (t : Int)) rfl hHeld ?_
     refine uJ 7 ⟨some 65, .move (.tmp 0), 22, _, _, none⟩ (.slice (some ⟨b, off, none⟩) n cap) rfl hHeld ?_
     refine uJ 8 ⟨some 66, .move (.tmp 11), 3, _, _, none⟩ (.int .i64 (t : Int)) rfl hHeld ?_
     refine uJ 4 ⟨some 62, .indexAddr 22 (.tmp 60) (.tmp 61), 0, _, _, none⟩ (.pointer (some ⟨b, off + t * 3, none⟩)) rfl hHeld ?_
     refine uJ 9 ⟨some 67, .indexAddr 22 (.tmp 65) (.tmp 66), 0, _, _, none⟩ (.pointer (some ⟨b, off + t * 3, none⟩)) rfl hHeld ?_
     refine uJ 5 ⟨some 63, .fieldAddr 44 (.tmp 62) 0, 0, _, _, none⟩ (.pointer (some ⟨b, off + t * 3, none⟩)) rfl hHeld ?_
     refine uJ 10 ⟨some 68, .fieldAddr 44 (.tmp 67) 1, 0, _, _, none⟩ (.pointer (some ⟨b, off + t * 3 + 1, none⟩)) rfl hHeld ?_
     refine uJ 6 ⟨some 64, .load 3 (.tmp 63), 3, _, _, none⟩ (.int .i64 c.k) rfl hHeld ?_
     refine uJ 11 ⟨some 69, .load 9 (.tmp 68), 9, _, _, none⟩ (.string c.s) rfl hHeld ?_
     refine rd1 12 ⟨some 70, .call { callee := .value (.func 32), args := #[.tmp 58, .tmp 59, .tmp 64, .tmp 69], argTypes := #[3, 9, 3, 9] }, 4, _, _, none⟩ rfl fun K hK => ?_
     refine qz 32 _ _ rfl xL #[.int .i64 kind, .string key, .int .i64 c.k, .string c.s] (by simp [Act.eval]) (fun vz wz => vz = .bool (zC kind key c.k c.s) ∧ wr.drew = wz) ((yJ kind key c.k c.s _).mono fun e w' ⟨h1, h2⟩ => ⟨_, h1, rfl, h2.symm⟩) ?_
     rintro _ wg ⟨rfl, hz⟩
     subst hz
     rw [hbh.o]
     refine hK _ _ (hS0.o _ BE.o) fun hH1 => kNx ?_
     clear hK
     refine uJ 13 ⟨some 12, .assign (.tmp 70), 4, _, _, none⟩ (.bool true) rfl hH1 ?_
     refine wpAnyH_done (by kernel_rfl) ?_ _
     refine hK39 _ _ (wp_seq_k fun K40 hK40 => ?_)
     have JQ := kk JF.o.drew
     generalize wr.drew = wq at *
     clear hS0 BE
     obtain ⟨la, hla⟩ : ∃ z, ((t : Int) + 1 == (n : Int)) = z := ⟨_, rfl⟩
     have hla2 : (((t + 1 : Nat) : Int) == (n : Int)) = la := hla
     refine rgn (Vv (.int .i64 (t : Int)) (h:=Vv (.int .i64 ((t + 1 : Nat) : Int)) (h:=Vv (.slice (some ⟨b, off, none⟩) n cap) (h:=Vv (.int .i64 (n : Int)) (h:=Vv (.bool la) (h:=Vv (.bool la) (h:=WL.nil (hK40 _ _ (wp_seq_k fun K41 hK41 => rgn (Vf (h:=WL.nil (hK41 _ _ (wp_seq_k fun K42 hK42 => wp_seq_k fun K43 hK43 => ?_)))))))))))))
     have Hla := kk hla
     clear hla hla2
     have rest17 : ∀ (y14 y76 y77 y78 y79 y80 y81 y82 y83 y84 y85 y86 y87 y88 y89 y90 y91 y92 y93 : Value) (wX : World), FJ w.heap.size w4 wX d n vl L ns u ls → K42 { tmps := #[.slice (some ⟨b, off, none⟩) n cap, .int .i64 kind, .string key, undef, undef, undef, .pointer (some ⟨r, 0, none⟩), f 7, .bool true, .int .i64 0, .pointer (some ⟨d, 0, none⟩), .int .i64 (t : Int), .bool true, .bool la, y14, .int .i64 kind, .bool true, .bool true, .bool false, undef, .slice (some ⟨b, off, none⟩) n cap, .int .i64 0, .int .i64 0, .bool false, undef, undef, .slice (some ⟨b, off, none⟩) n cap, .int .i64 (n : Int), .agg #[.int .i64 (n : Int), .slice none 0 0], .int .i64 (t : Int), .slice (some ⟨b, off, none⟩) n cap, .int .i64 (n : Int), .bool true, f 33, f 34, y35, y36, y37, y38, y39, y40, y41, y42, y43, y44, y45, y46, y47, y48, y49, y50, f 51, f 52, f 53, f 54, f 55, f 56, f 57, .int .i64 kind, .string key, .slice (some ⟨b, off, none⟩) n cap, .int .i64 (t : Int), .pointer (some ⟨b, off + t * 3, none⟩), .pointer (some ⟨b, off + t * 3, none⟩), .int .i64 c.k, .slice (some ⟨b, off, none⟩) n cap, .int .i64 (t : Int), .pointer (some ⟨b, off + t * 3, none⟩), .pointer (some ⟨b, off + t * 3 + 1, none⟩), .string c.s, .bool true, .int .i64 (t : Int), .int .i64 ((t + 1 : Nat) : Int), .slice (some ⟨b, off, none⟩) n cap, .int .i64 (n : Int), .bool la, y76, y77, y78, y79, y80, y81, y82, y83, y84, y85, y86, y87, y88, y89, y90, y91, y92, y93, f 94, f 95, f 96, f 97, f 98, f 99, f 100, f 101, f 102, f 103, f 104, f 105, f 106, f 107, f 108, f 109, f 110, f 111, f 112, f 113, f 114, f 115, f 116, f 117, f 118, f 119, f 120, f 121, f 122, f 123, f 124, f 125, f 126, f 127, f 128, f 129, f 130, f 131, f 132, f 133, f 134, f 135, f 136, f 137, f 138, f 139, f 140, undef], defers := [] } wX := by
      intro y14 y76 y77 y78 y79 y80 y81 y82 y83 y84 y85 y86 y87 y88 y89 y90 y91 y92 y93 wX hfX
      have JX := kk hfX
      clear hfX JQ JF
      refine hK42 _ _ (wp_seq_k fun K44 hK44 => wp_seq_k fun K45 hK45 => rgn (Vt (h:=Vf (h:=Vf (h:=Vs (h:=Vs (h:=Vs (h:=Vs (h:=Vs (h:=Vs (h:=Vs (h:=Vs (h:=Vs (h:=?_))))))))))))))
      refine Vs (h:=Vs (h:=Vs (h:=Vs (h:=Vs (h:=Vs (h:=Vs (h:=Vs (h:=Vs (h:=Vs (h:=Vs (h:=Vs (h:=Vs (h:=Vs (h:=?_))))))))))))))
      refine Vs (h:=Vs (h:=Vf (h:=WL.nil (hK45 _ _ (Cf (h:=wp_skip (hK44 _ _ (wp_seq_k fun K46 hK46 => rgn (Vt (h:=WL.nil (hK46 _ _ (Ct (h:=wp_seq_k fun K47 hK47 => ?_)))))))))))))
      have JFd := kk JX.o.drew
      have Bd : Keep (Below w.heap.size w wX.drew) := ⟨HBX.o _ JFd.o⟩
      refine wp_region_held_drew (S := fun _ => True) (by kernel_rfl) trivial (fun hHeld => ?_)
      refine uG 0 ⟨some 132, .fieldAddr 25 (.tmp 10) 1, 0, _, _, none⟩ (.pointer (some ⟨d, 1, none⟩)) rfl hHeld ?_
      refine uG 2 ⟨some 134, .move (.tmp 0), 22, _, _, none⟩ (.slice (some ⟨b, off, none⟩) n cap) rfl hHeld ?_
      refine uG 3 ⟨some 135, .move (.tmp 11), 3, _, _, none⟩ (.int .i64 (t : Int)) rfl hHeld ?_
      refine wpAnyH_ready (rs := [1, 4]) (by kernel_rfl) (by simp) ?_
      refine AllReadyH.cons (o := ⟨some 133, .load 23 (.tmp 132), 23, _, _, none⟩) rfl (fun K hK => ?_) (AllReadyH.cons (o := ⟨some 136, .call { callee := .value (.func 31), args := #[.tmp 134, .tmp 135], argTypes := #[22, 3] }, 54, _, _, none⟩) rfl (fun K hK => ?_) AllReadyH.nil)
      all_goals rw [if_pos (by rfl)]
      ·have c_ : wX.drew.cell? ⟨d, 1, none⟩ = some vl := JFd.o.bd.c 1 rfl
       refine zq vl (by go_simp) ?_
       clear c_
       refine hK _ _ trivial fun hHl => kNx ?_
       clear hK
       refine rd1 4 ⟨some 136, .call { callee := .value (.func 31), args := #[.tmp 134, .tmp 135], argTypes := #[22, 3] }, 54, _, _, none⟩ rfl fun K hK => ?_
       refine qz 31 _ _ rfl yN #[.slice (some ⟨b, off, none⟩) n cap, .int .i64 (t : Int)] (by simp [Act.eval]) (fun vz wz => ∃ x : LV, vz = .agg (lvA x) ∧ x.num = (t : Int) ∧ x.c.k = c.k ∧ x.c.s = c.s ∧ x.c.l = c.l ∧ Own wz x.c.v x.c.l ∧ (∀ k, x.c.v.ownBlock = some k → wX.drew.heap.size ≤ k) ∧ wz.ownsRow wX.drew.heap.size 32 32 x.pv x.ps.length (qF x.ps) ∧ x.ps.map hsL = zG n L t ∧ Below wX.drew.heap.size wX.drew wz) ?_ ?_
       ·refine (yC b off n cap t L c wX.drew hn htn hcap HN ⟨(HC.o.below Bd.o).mono Bd.o.size⟩ HF Hc ⟨HSz.o c (List.mem_of_getElem? Hc.o)⟩).mono ?_
        rintro e wz ⟨x, rfl, k1, k2, k3, k4, k5, k9, k6, k7, k8⟩
        exact ⟨_, rfl, x, rfl, k1, k2, k3, k4, k5, k9, k6, k7, k8⟩
       rintro vz wa ⟨x, rfl, k1, k2, k3, k4, k5, k9, k6, k7, k8⟩
       have Oa := kk k5
       have Qa := kk (zo k6 Bd.o.size)
       have Na : Keep (∀ k, x.c.v.ownBlock = some k → w.heap.size ≤ k) := ⟨fun k hk => Nat.le_trans Bd.o.size (k9 k hk)⟩
       have Xa := kk (And.intro k1 (And.intro k2 (And.intro k3 (And.intro k4 k7))))
       have ba := kk k8
       have HX1 : Keep (∃ a n c, x.c.v = .slice a n c) := ⟨k5.sl⟩
       have HX2 : Keep (∃ a n c, x.pv = .slice a n c) := ⟨by obtain ⟨a, c, h⟩ := qE k6; exact ⟨a, _, c, h⟩⟩
       clear k1 k2 k3 k4 k5 k9 k6 k7 k8
       refine hK _ _ (trivial) fun hHa => kNx ?_
       clear hK
       refine rd1 5 ⟨some 137, .buildSlice 23 1 #[(0, .tmp 136)], 23, _, _, none⟩ rfl fun K hK => ?_
       refine zI 23 1 _ rfl #[(0, .agg (lvA x))] (by simp [Act.eval]) _ _ (Xj x wa HX1.o HX2.o) ?_
       have bb := qg wa (.cells (lvA x) 54)
       have Qb := kk (Blk.new wa 54 (lvA x))
       generalize wa.alloc (.cells (lvA x) 54) = wb at *
       obtain ⟨g, hg⟩ := nm wa
       rw [← hg.o] at Qb ⊢
       have Ob := kk (qj Oa.o bb)
       have Pb := kk (qj Qa.o bb)
       have bb2 := tb ba bb
       clear bb hg
       refine hK _ _ trivial fun hHc => kNx ?_
       clear hK
       refine rd1 6 ⟨some 138, .call { callee := .builtin .append, args := #[.tmp 133, .tmp 137], argTypes := #[23, 23] }, 23, _, _, none⟩ rfl fun K hK => ?_
       refine zP (.tmp 133) (.tmp 137) rfl w4.heap.size vl u _ x g rfl rfl (qj JFd.o.own bb2.o) (ql Qb.o) (yV x HX1.o HX2.o) (by have := Hu1.o; omega) (Nat.le_trans JFd.o.gr.size bb2.o.size) ?_
       intro v9 wc k1 k2 k3
       have Oc := kk k1
       have Gc : Keep (Grown wb wc (fun k => vl.ownBlock = some k)) := ⟨k2⟩
       have hDc : Keep (Blk wc d 25 #[.int .i64 (n : Int), vl]) := ⟨k2.blk (JFd.o.bd.below bb2.o JFd.o.bd.lt) fun e => absurd ((qn (qj JFd.o.own bb2.o) e).one (JFd.o.bd.below bb2.o JFd.o.bd.lt).typ) (by decide)⟩
       have f_o := hDc.o.frozen 1
       have c_o := hDc.o.c 1 (by rfl : (#[.int .i64 (n : Int), vl] : Array Value)[1]? = some vl)
       obtain ⟨za, zc, hv9⟩ := qE k1
       subst hv9
       clear k1 k2 k3
       refine hK _ _ trivial fun hHd => kNx ?_
       clear hK
       refine uG 7 ⟨some 139, .fieldAddr 25 (.tmp 10) 1, 0, _, _, none⟩ (.pointer (some ⟨d, 1, none⟩)) rfl hHd ?_
       refine rd1 8 ⟨none, .store 23 (.tmp 139) (.tmp 138), 0, _, _, none⟩ rfl fun K hK => ?_
       refine zm (wc.setCell ⟨d, 1, none⟩ (.slice za (u + 1) zc)) (by go_simp) ?_
       clear f_o c_o
       have JE : Keep (FJ w.heap.size w4 (wc.setCell ⟨d, 1, none⟩ (.slice za (u + 1) zc)) d n (.slice za (u + 1) zc) L ns (u + 1) (ls ++ [x])) := ⟨JFd.o.lay x t c wb wc _ bb2.o Ob.o Pb.o Oc.o Gc.o Hnu.o Hc.o Xa.o.1 Xa.o.2.1 Xa.o.2.2.1 Xa.o.2.2.2.1 (by rw [hn.o]; exact Xa.o.2.2.2.2) Na.o⟩
       generalize wc.setCell ⟨d, 1, none⟩ (.slice za (u + 1) zc) = wd at *
       clear hDc Gc Oc Pb Ob
       refine hK _ _ trivial fun hHe => kNx ?_
       clear hK
       refine wpAnyH_done (by kernel_rfl) ?_ _
       refine hK47 _ _ (wp_seq_k fun K48 hK48 => rgn (?_))
       have Dr := kk JE.o.bd
       have Rr := kk (JE.o.gr.blk R4.o hrd.o)
       have Br : Keep (Below w.heap.size w wd) := ⟨HBX.o _ JE.o⟩
       refine WL.row (by kernel_rfl) 25 (.tmp 10) rfl d rfl 25 #[.int .i64 (n : Int), .slice za (u + 1) zc] _ Dr.o Try.underlying25 rfl (by rfl) ?_
       simp only [Act.put, pqA, pqB, pqC]
       refine WL.storeR (by kernel_rfl) 25 (.tmp 6) (.tmp 140) rfl r #[.int .i64 (n : Int), .slice za (u + 1) zc] rfl rfl 25 #[.int .i64 0, .slice none 0 0] Rr.o (by rfl) rfl (by simp [Value.oneCell']) ?_
       have R9 := kk (Rr.o.setRow #[.int .i64 (n : Int), .slice za (u + 1) zc])
       have B9 : Keep (Below w.heap.size w (wd.setRow r #[.int .i64 (n : Int), .slice za (u + 1) zc])) := ⟨qf Br.o gr.o _⟩
       have g_ : Grown wd (wd.setRow r #[.int .i64 (n : Int), .slice za (u + 1) zc]) (fun k => k = r) := Grown.setRow _ r #[.int .i64 (n : Int), .slice za (u + 1) zc] fun _ => rfl
       have hall : ∀ {B T s n' : Nat} {v : Value} {xs : List Value}, wd.ownsRow B T s v n' xs → T ≠ 25 → (wd.setRow r #[.int .i64 (n : Int), .slice za (u + 1) zc]).ownsRow B T s v n' xs := fun h h2 => qo h g_ fun k hk e => by
        subst e
        exact h2 ((qn h hk).one Rr.o.typ)
       have LS9 : Keep (WtF (wd.setRow r #[.int .i64 (n : Int), .slice za (u + 1) zc]) w.heap.size (.slice za (u + 1) zc) (ls ++ [x])) := ⟨by rw [JE.o.len]; exact zo (hall JE.o.own (by decide)) B4.o.size, fun x hx => ⟨hall (JE.o.rows x hx).1 (by decide), hall (JE.o.rows x hx).2 (by decide)⟩, JE.o.vB⟩
       clear hall g_
       generalize wd.setRow r #[.int .i64 (n : Int), .slice za (u + 1) zc] = w9 at *
       simp only [Act.put]
       refine Vv (.int .i64 0) (h:=WL.nil (hK48 _ _ (wp_ret ?_)))
       try simp only [Exit.inBlock, Exit.then]
       refine bodyPost_ret (v := .tuple #[.agg #[.int .i64 (n : Int), .slice za (u + 1) zc], .int .i64 0]) (qp Try.results9 _ _ r 25 _ (0, 0) _ _ rfl rfl R9.o Try.underlying25 rfl (by rfl)) rfl ⟨(n : Int), .slice za (u + 1) zc, (ls ++ [x]), 0, rfl, LS9.o, B9.o, (fun h => by rw [hkm] at h; cases h), (fun _ h => absurd hwi.o h), (fun _ _ => ⟨by rw [hn.o], rfl, (fun h => by rw [h] at hn; have := hn.o; simp at this; omega), fun _ => ⟨by rw [hn.o, hns.o, JE.o.len]; exact Hlen.o, by rw [hn.o, hns.o]; exact JE.o.is⟩⟩)⟩
      ·refine qz 31 _ _ rfl yN #[.slice (some ⟨b, off, none⟩) n cap, .int .i64 (t : Int)] (by simp [Act.eval]) (fun vz wz => ∃ x : LV, vz = .agg (lvA x) ∧ x.num = (t : Int) ∧ x.c.k = c.k ∧ x.c.s = c.s ∧ x.c.l = c.l ∧ Own wz x.c.v x.c.l ∧ (∀ k, x.c.v.ownBlock = some k → wX.drew.heap.size ≤ k) ∧ wz.ownsRow wX.drew.heap.size 32 32 x.pv x.ps.length (qF x.ps) ∧ x.ps.map hsL = zG n L t ∧ Below wX.drew.heap.size wX.drew wz) ?_ ?_
       ·refine (yC b off n cap t L c wX.drew hn htn hcap HN ⟨(HC.o.below Bd.o).mono Bd.o.size⟩ HF Hc ⟨HSz.o c (List.mem_of_getElem? Hc.o)⟩).mono ?_
        rintro e wz ⟨x, rfl, k1, k2, k3, k4, k5, k9, k6, k7, k8⟩
        exact ⟨_, rfl, x, rfl, k1, k2, k3, k4, k5, k9, k6, k7, k8⟩
       rintro vz wa ⟨x, rfl, k1, k2, k3, k4, k5, k9, k6, k7, k8⟩
       have Oa := kk k5
       have Qa := kk (zo k6 Bd.o.size)
       have Na : Keep (∀ k, x.c.v.ownBlock = some k → w.heap.size ≤ k) := ⟨fun k hk => Nat.le_trans Bd.o.size (k9 k hk)⟩
       have Xa := kk (And.intro k1 (And.intro k2 (And.intro k3 (And.intro k4 k7))))
       have ba := kk k8
       have HX1 : Keep (∃ a n c, x.c.v = .slice a n c) := ⟨k5.sl⟩
       have HX2 : Keep (∃ a n c, x.pv = .slice a n c) := ⟨by obtain ⟨a, c, h⟩ := qE k6; exact ⟨a, _, c, h⟩⟩
       clear k1 k2 k3 k4 k5 k9 k6 k7 k8
       refine hK _ _ (trivial) fun hHa => kNx ?_
       clear hK
       refine wpAnyH_ready (rs := [1, 5]) (by kernel_rfl) (by simp) ?_
       refine AllReadyH.cons (o := ⟨some 133, .load 23 (.tmp 132), 23, _, _, none⟩) rfl (fun K hK => ?_) (AllReadyH.cons (o := ⟨some 137, .buildSlice 23 1 #[(0, .tmp 136)], 23, _, _, none⟩) rfl (fun K hK => ?_) AllReadyH.nil)
       all_goals rw [if_pos (by rfl)]
       ·have c_ : wa.cell? ⟨d, 1, none⟩ = some vl := (JFd.o.bd.below ba.o JFd.o.bd.lt).c 1 rfl
        refine zq vl (by go_simp) ?_
        clear c_
        refine hK _ _ trivial fun hHl => kNx ?_
        clear hK
        refine rd1 5 ⟨some 137, .buildSlice 23 1 #[(0, .tmp 136)], 23, _, _, none⟩ rfl fun K hK => ?_
        refine zI 23 1 _ rfl #[(0, .agg (lvA x))] (by simp [Act.eval]) _ _ (Xj x wa HX1.o HX2.o) ?_
        have bb := qg wa (.cells (lvA x) 54)
        have Qb := kk (Blk.new wa 54 (lvA x))
        generalize wa.alloc (.cells (lvA x) 54) = wb at *
        obtain ⟨g, hg⟩ := nm wa
        rw [← hg.o] at Qb ⊢
        have Ob := kk (qj Oa.o bb)
        have Pb := kk (qj Qa.o bb)
        have bb2 := tb ba bb
        clear bb hg
        refine hK _ _ trivial fun hHc => kNx ?_
        clear hK
        refine rd1 6 ⟨some 138, .call { callee := .builtin .append, args := #[.tmp 133, .tmp 137], argTypes := #[23, 23] }, 23, _, _, none⟩ rfl fun K hK => ?_
        refine zP (.tmp 133) (.tmp 137) rfl w4.heap.size vl u _ x g rfl rfl (qj JFd.o.own bb2.o) (ql Qb.o) (yV x HX1.o HX2.o) (by have := Hu1.o; omega) (Nat.le_trans JFd.o.gr.size bb2.o.size) ?_
        intro v9 wc k1 k2 k3
        have Oc := kk k1
        have Gc : Keep (Grown wb wc (fun k => vl.ownBlock = some k)) := ⟨k2⟩
        have hDc : Keep (Blk wc d 25 #[.int .i64 (n : Int), vl]) := ⟨k2.blk (JFd.o.bd.below bb2.o JFd.o.bd.lt) fun e => absurd ((qn (qj JFd.o.own bb2.o) e).one (JFd.o.bd.below bb2.o JFd.o.bd.lt).typ) (by decide)⟩
        have f_o := hDc.o.frozen 1
        have c_o := hDc.o.c 1 (by rfl : (#[.int .i64 (n : Int), vl] : Array Value)[1]? = some vl)
        obtain ⟨za, zc, hv9⟩ := qE k1
        subst hv9
        clear k1 k2 k3
        refine hK _ _ trivial fun hHd => kNx ?_
        clear hK
        refine uG 7 ⟨some 139, .fieldAddr 25 (.tmp 10) 1, 0, _, _, none⟩ (.pointer (some ⟨d, 1, none⟩)) rfl hHd ?_
        refine rd1 8 ⟨none, .store 23 (.tmp 139) (.tmp 138), 0, _, _, none⟩ rfl fun K hK => ?_
        refine zm (wc.setCell ⟨d, 1, none⟩ (.slice za (u + 1) zc)) (by go_simp) ?_
        clear f_o c_o
        have JE : Keep (FJ w.heap.size w4 (wc.setCell ⟨d, 1, none⟩ (.slice za (u + 1) zc)) d n (.slice za (u + 1) zc) L ns (u + 1) (ls ++ [x])) := ⟨JFd.o.lay x t c wb wc _ bb2.o Ob.o Pb.o Oc.o Gc.o Hnu.o Hc.o Xa.o.1 Xa.o.2.1 Xa.o.2.2.1 Xa.o.2.2.2.1 (by rw [hn.o]; exact Xa.o.2.2.2.2) Na.o⟩
        generalize wc.setCell ⟨d, 1, none⟩ (.slice za (u + 1) zc) = wd at *
        clear hDc Gc Oc Pb Ob
        refine hK _ _ trivial fun hHe => kNx ?_
        clear hK
        refine wpAnyH_done (by kernel_rfl) ?_ _
        refine hK47 _ _ (wp_seq_k fun K49 hK49 => rgn (?_))
        have Dr := kk JE.o.bd
        have Rr := kk (JE.o.gr.blk R4.o hrd.o)
        have Br : Keep (Below w.heap.size w wd) := ⟨HBX.o _ JE.o⟩
        refine WL.row (by kernel_rfl) 25 (.tmp 10) rfl d rfl 25 #[.int .i64 (n : Int), .slice za (u + 1) zc] _ Dr.o Try.underlying25 rfl (by rfl) ?_
        simp only [Act.put, pqA, pqB, pqC]
        refine WL.storeR (by kernel_rfl) 25 (.tmp 6) (.tmp 140) rfl r #[.int .i64 (n : Int), .slice za (u + 1) zc] rfl rfl 25 #[.int .i64 0, .slice none 0 0] Rr.o (by rfl) rfl (by simp [Value.oneCell']) ?_
        have R9 := kk (Rr.o.setRow #[.int .i64 (n : Int), .slice za (u + 1) zc])
        have B9 : Keep (Below w.heap.size w (wd.setRow r #[.int .i64 (n : Int), .slice za (u + 1) zc])) := ⟨qf Br.o gr.o _⟩
        have g_ : Grown wd (wd.setRow r #[.int .i64 (n : Int), .slice za (u + 1) zc]) (fun k => k = r) := Grown.setRow _ r #[.int .i64 (n : Int), .slice za (u + 1) zc] fun _ => rfl
        have hall : ∀ {B T s n' : Nat} {v : Value} {xs : List Value}, wd.ownsRow B T s v n' xs → T ≠ 25 → (wd.setRow r #[.int .i64 (n : Int), .slice za (u + 1) zc]).ownsRow B T s v n' xs := fun h h2 => qo h g_ fun k hk e => by
         subst e
         exact h2 ((qn h hk).one Rr.o.typ)
        have LS9 : Keep (WtF (wd.setRow r #[.int .i64 (n : Int), .slice za (u + 1) zc]) w.heap.size (.slice za (u + 1) zc) (ls ++ [x])) := ⟨by rw [JE.o.len]; exact zo (hall JE.o.own (by decide)) B4.o.size, fun x hx => ⟨hall (JE.o.rows x hx).1 (by decide), hall (JE.o.rows x hx).2 (by decide)⟩, JE.o.vB⟩
        clear hall g_
        generalize wd.setRow r #[.int .i64 (n : Int), .slice za (u + 1) zc] = w9 at *
        simp only [Act.put]
        refine Vv (.int .i64 0) (h:=WL.nil (hK49 _ _ (wp_ret ?_)))
        try simp only [Exit.inBlock, Exit.then]
        refine bodyPost_ret (v := .tuple #[.agg #[.int .i64 (n : Int), .slice za (u + 1) zc], .int .i64 0]) (qp Try.results9 _ _ r 25 _ (0, 0) _ _ rfl rfl R9.o Try.underlying25 rfl (by rfl)) rfl ⟨(n : Int), .slice za (u + 1) zc, (ls ++ [x]), 0, rfl, LS9.o, B9.o, (fun h => by rw [hkm] at h; cases h), (fun _ h => absurd hwi.o h), (fun _ _ => ⟨by rw [hn.o], rfl, (fun h => by rw [h] at hn; have := hn.o; simp at this; omega), fun _ => ⟨by rw [hn.o, hns.o, JE.o.len]; exact Hlen.o, by rw [hn.o, hns.o]; exact JE.o.is⟩⟩)⟩
       ·refine zI 23 1 _ rfl #[(0, .agg (lvA x))] (by simp [Act.eval]) _ _ (Xj x wa HX1.o HX2.o) ?_
        have bb := qg wa (.cells (lvA x) 54)
        have Qb := kk (Blk.new wa 54 (lvA x))
        generalize wa.alloc (.cells (lvA x) 54) = wb at *
        obtain ⟨g, hg⟩ := nm wa
        rw [← hg.o] at Qb ⊢
        have Ob := kk (qj Oa.o bb)
        have Pb := kk (qj Qa.o bb)
        have bb2 := tb ba bb
        clear bb hg
        refine hK _ _ trivial fun hHc => kNx ?_
        clear hK
        refine rd1 1 ⟨some 133, .load 23 (.tmp 132), 23, _, _, none⟩ rfl fun K hK => ?_
        have c_ : wb.cell? ⟨d, 1, none⟩ = some vl := (JFd.o.bd.below bb2.o JFd.o.bd.lt).c 1 rfl
        refine zq vl (by go_simp) ?_
        clear c_
        refine hK _ _ trivial fun hHl => kNx ?_
        clear hK
        refine rd1 6 ⟨some 138, .call { callee := .builtin .append, args := #[.tmp 133, .tmp 137], argTypes := #[23, 23] }, 23, _, _, none⟩ rfl fun K hK => ?_
        refine zP (.tmp 133) (.tmp 137) rfl w4.heap.size vl u _ x g rfl rfl (qj JFd.o.own bb2.o) (ql Qb.o) (yV x HX1.o HX2.o) (by have := Hu1.o; omega) (Nat.le_trans JFd.o.gr.size bb2.o.size) ?_
        intro v9 wc k1 k2 k3
        have Oc := kk k1
        have Gc : Keep (Grown wb wc (fun k => vl.ownBlock = some k)) := ⟨k2⟩
        have hDc : Keep (Blk wc d 25 #[.int .i64 (n : Int), vl]) := ⟨k2.blk (JFd.o.bd.below bb2.o JFd.o.bd.lt) fun e => absurd ((qn (qj JFd.o.own bb2.o) e).one (JFd.o.bd.below bb2.o JFd.o.bd.lt).typ) (by decide)⟩
        have f_o := hDc.o.frozen 1
        have c_o := hDc.o.c 1 (by rfl : (#[.int .i64 (n : Int), vl] : Array Value)[1]? = some vl)
        obtain ⟨za, zc, hv9⟩ := qE k1
        subst hv9
        clear k1 k2 k3
        refine hK _ _ trivial fun hHd => kNx ?_
        clear hK
        refine uG 7 ⟨some 139, .fieldAddr 25 (.tmp 10) 1, 0, _, _, none⟩ (.pointer (some ⟨d, 1, none⟩)) rfl hHd ?_
        refine rd1 8 ⟨none, .store 23 (.tmp 139) (.tmp 138), 0, _, _, none⟩ rfl fun K hK => ?_
        refine zm (wc.setCell ⟨d, 1, none⟩ (.slice za (u + 1) zc)) (by go_simp) ?_
        clear f_o c_o
        have JE : Keep (FJ w.heap.size w4 (wc.setCell ⟨d, 1, none⟩ (.slice za (u + 1) zc)) d n (.slice za (u + 1) zc) L ns (u + 1) (ls ++ [x])) := ⟨JFd.o.lay x t c wb wc _ bb2.o Ob.o Pb.o Oc.o Gc.o Hnu.o Hc.o Xa.o.1 Xa.o.2.1 Xa.o.2.2.1 Xa.o.2.2.2.1 (by rw [hn.o]; exact Xa.o.2.2.2.2) Na.o⟩
        generalize wc.setCell ⟨d, 1, none⟩ (.slice za (u + 1) zc) = wd at *
        clear hDc Gc Oc Pb Ob
        refine hK _ _ trivial fun hHe => kNx ?_
        clear hK
        refine wpAnyH_done (by kernel_rfl) ?_ _
        refine hK47 _ _ (wp_seq_k fun K50 hK50 => rgn (?_))
        have Dr := kk JE.o.bd
        have Rr := kk (JE.o.gr.blk R4.o hrd.o)
        have Br : Keep (Below w.heap.size w wd) := ⟨HBX.o _ JE.o⟩
        refine WL.row (by kernel_rfl) 25 (.tmp 10) rfl d rfl 25 #[.int .i64 (n : Int), .slice za (u + 1) zc] _ Dr.o Try.underlying25 rfl (by rfl) ?_
        simp only [Act.put, pqA, pqB, pqC]
        refine WL.storeR (by kernel_rfl) 25 (.tmp 6) (.tmp 140) rfl r #[.int .i64 (n : Int), .slice za (u + 1) zc] rfl rfl 25 #[.int .i64 0, .slice none 0 0] Rr.o (by rfl) rfl (by simp [Value.oneCell']) ?_
        have R9 := kk (Rr.o.setRow #[.int .i64 (n : Int), .slice za (u + 1) zc])
        have B9 : Keep (Below w.heap.size w (wd.setRow r #[.int .i64 (n : Int), .slice za (u + 1) zc])) := ⟨qf Br.o gr.o _⟩
        have g_ : Grown wd (wd.setRow r #[.int .i64 (n : Int), .slice za (u + 1) zc]) (fun k => k = r) := Grown.setRow _ r #[.int .i64 (n : Int), .slice za (u + 1) zc] fun _ => rfl
        have hall : ∀ {B T s n' : Nat} {v : Value} {xs : List Value}, wd.ownsRow B T s v n' xs → T ≠ 25 → (wd.setRow r #[.int .i64 (n : Int), .slice za (u + 1) zc]).ownsRow B T s v n' xs := fun h h2 => qo h g_ fun k hk e => by
         subst e
         exact h2 ((qn h hk).one Rr.o.typ)
        have LS9 : Keep (WtF (wd.setRow r #[.int .i64 (n : Int), .slice za (u + 1) zc]) w.heap.size (.slice za (u + 1) zc) (ls ++ [x])) := ⟨by rw [JE.o.len]; exact zo (hall JE.o.own (by decide)) B4.o.size, fun x hx => ⟨hall (JE.o.rows x hx).1 (by decide), hall (JE.o.rows x hx).2 (by decide)⟩, JE.o.vB⟩
        clear hall g_
        generalize wd.setRow r #[.int .i64 (n : Int), .slice za (u + 1) zc] = w9 at *
        simp only [Act.put]
        refine Vv (.int .i64 0) (h:=WL.nil (hK50 _ _ (wp_ret ?_)))
        try simp only [Exit.inBlock, Exit.then]
        refine bodyPost_ret (v := .tuple #[.agg #[.int .i64 (n : Int), .slice za (u + 1) zc], .int .i64 0]) (qp Try.results9 _ _ r 25 _ (0, 0) _ _ rfl rfl R9.o Try.underlying25 rfl (by rfl)) rfl ⟨(n : Int), .slice za (u + 1) zc, (ls ++ [x]), 0, rfl, LS9.o, B9.o, (fun h => by rw [hkm] at h; cases h), (fun _ h => absurd hwi.o h), (fun _ _ => ⟨by rw [hn.o], rfl, (fun h => by rw [h] at hn; have := hn.o; simp at this; omega), fun _ => ⟨by rw [hn.o, hns.o, JE.o.len]; exact Hlen.o, by rw [hn.o, hns.o]; exact JE.o.is⟩⟩)⟩
     by_cases ht1 : t + 1 < n
     ·obtain rfl : la = false := by rw [← Hla.o]; simp; omega
      have ht1' : (t : Int) + 1 < (n : Int) := by omega
      have ht1a : 0 ≤ (t : Int) + 1 := by omega
      have ht1b : ¬ (n : Int) ≤ (t : Int) + 1 := by omega
      refine rgn (Vf (h:=Vt (h:=WL.nil (hK43 _ _ (Ct (h:=?_))))))
      obtain ⟨c2, Hc2⟩ : ∃ z, Keep (L[t + 1]? = some z) := ⟨L[t + 1]'(by rw [hn.o]; exact ht1), ⟨List.getElem?_eq_getElem _⟩⟩
      obtain ⟨av, hav⟩ : ∃ z, Keep (zC c2.k c2.s kind key = z) := ⟨_, ⟨rfl⟩⟩
      have hS0 : Keep (∀ wx, Below w.heap.size w wx → (fun wx => wx.cell? ⟨b, off + (t + 1) * 3, none⟩ = some (.int .i64 c2.k) ∧ wx.cell? ⟨b, off + (t + 1) * 3 + 1, none⟩ = some (.string c2.s)) wx) := ⟨fun wx hb => ⟨((HC.o.below hb).c Hc2.o).1, ((HC.o.below hb).c Hc2.o).2.1⟩⟩
      have BE : Keep (Below w.heap.size w wq.drew) := ⟨HBX.o _ JQ.o.drew⟩
      refine wp_region_held_drew (S := fun wx => wx.cell? ⟨b, off + (t + 1) * 3, none⟩ = some (.int .i64 c2.k) ∧ wx.cell? ⟨b, off + (t + 1) * 3 + 1, none⟩ = some (.string c2.s)) (by kernel_rfl) (hS0.o _ BE.o) (fun hHeld => ?_)
      refine uJ 0 ⟨some 78, .move (.tmp 0), 22, _, _, none⟩ (.slice (some ⟨b, off, none⟩) n cap) rfl hHeld ?_
      refine uJ 1 ⟨some 79, .move (.tmp 11), 3, _, _, none⟩ (.int .i64 (t : Int)) rfl hHeld ?_
      refine uJ 6 ⟨some 84, .move (.tmp 0), 22, _, _, none⟩ (.slice (some ⟨b, off, none⟩) n cap) rfl hHeld ?_
      refine uJ 7 ⟨some 85, .move (.tmp 11), 3, _, _, none⟩ (.int .i64 (t : Int)) rfl hHeld ?_
      refine uJ 12 ⟨some 90, .move (.tmp 1), 3, _, _, none⟩ (.int .i64 kind) rfl hHeld ?_
      refine uJ 13 ⟨some 91, .move (.tmp 2), 9, _, _, none⟩ (.string key) rfl hHeld ?_
      refine uJ 2 ⟨some 80, .binOp BinOp.add 3 (.tmp 79) (.const (Value.int IntKind.i64 1)) 3, 3, _, _, none⟩ (.int .i64 ((t + 1 : Nat) : Int)) rfl hHeld ?_
      refine uJ 8 ⟨some 86, .binOp BinOp.add 3 (.tmp 85) (.const (Value.int IntKind.i64 1)) 3, 3, _, _, none⟩ (.int .i64 ((t + 1 : Nat) : Int)) rfl hHeld ?_
      refine uJ 3 ⟨some 81, .indexAddr 22 (.tmp 78) (.tmp 80), 0, _, _, none⟩ (.pointer (some ⟨b, off + (t + 1) * 3, none⟩)) rfl hHeld ?_
      refine uJ 9 ⟨some 87, .indexAddr 22 (.tmp 84) (.tmp 86), 0, _, _, none⟩ (.pointer (some ⟨b, off + (t + 1) * 3, none⟩)) rfl hHeld ?_
      refine uJ 4 ⟨some 82, .fieldAddr 44 (.tmp 81) 0, 0, _, _, none⟩ (.pointer (some ⟨b, off + (t + 1) * 3, none⟩)) rfl hHeld ?_
      refine uJ 10 ⟨some 88, .fieldAddr 44 (.tmp 87) 1, 0, _, _, none⟩ (.pointer (some ⟨b, off + (t + 1) * 3 + 1, none⟩)) rfl hHeld ?_
      refine uJ 5 ⟨some 83, .load 3 (.tmp 82), 3, _, _, none⟩ (.int .i64 c2.k) rfl hHeld ?_
      refine uJ 11 ⟨some 89, .load 9 (.tmp 88), 9, _, _, none⟩ (.string c2.s) rfl hHeld ?_
      refine rd1 14 ⟨some 92, .call { callee := .value (.func 32), args := #[.tmp 83, .tmp 89, .tmp 90, .tmp 91], argTypes := #[3, 9, 3, 9] }, 4, _, _, none⟩ rfl fun K hK => ?_
      refine qz 32 _ _ rfl xL #[.int .i64 c2.k, .string c2.s, .int .i64 kind, .string key] (by simp [Act.eval]) (fun vz wz => vz = .bool (zC c2.k c2.s kind key) ∧ wq.drew = wz) ((yJ c2.k c2.s kind key _).mono fun e w' ⟨h1, h2⟩ => ⟨_, h1, rfl, h2.symm⟩) ?_
      rintro _ wg ⟨rfl, hz⟩
      subst hz
      rw [hav.o]
      refine hK _ _ (hS0.o _ BE.o) fun hH2 => kNx ?_
      clear hK
      refine uJ 15 ⟨some 93, .unOp UnOp.not 4 (.tmp 92), 4, _, _, none⟩ (.bool (!av)) rfl hH2 ?_
      refine uJ 16 ⟨some 14, .assign (.tmp 93), 4, _, _, none⟩ (.bool (!av)) rfl hH2 ?_
      refine wpAnyH_done (by kernel_rfl) ?_ _
      exact rest17 _ _ _ _ _ _ _ _ _ _ _ _ _ _ _ _ _ _ _ _ JQ.o.drew
     ·obtain rfl : la = true := by rw [← Hla.o]; simp; omega
      refine rgn (Vt (h:=Vf (h:=WL.nil (hK43 _ _ (Cf (h:=wp_skip (?_)))))))
      exact rest17 _ _ _ _ _ _ _ _ _ _ _ _ _ _ _ _ _ _ _ _ JQ.o
    by_cases hkk : c.k = kind
    ·have hkk' : (c.k == kind) = true := by simpa using hkk
     have hks : ¬ c.s = key := fun e => hno.o ⟨hkk, e⟩
     have hks' : ¬ c.s.toList = key.toList := fun e => hks (yv e)
     refine rgn (Vv (.slice (some ⟨b, off, none⟩) n cap) (h:=Vv (.int .i64 (t : Int)) (h:=Vv (.pointer (some ⟨b, off + t * 3, none⟩)) (h:=Vv (.pointer (some ⟨b, off + t * 3, none⟩)) (h:=Vv (.int .i64 c.k) (h:=Vv (.int .i64 kind) (h:=Vt (h:=Vt (h:=Vv (.slice (some ⟨b, off, none⟩) n cap) (h:=Vv (.int .i64 (t : Int)) (h:=Vv (.pointer (some ⟨b, off + t * 3, none⟩)) (h:=Vv (.pointer (some ⟨b, off + t * 3 + 1, none⟩)) (h:=Vv (.string c.s) (h:=?_))))))))))))))
     refine Vv (.string key) (h:=Vf (h:=Vf (h:=WL.nil (hK38 _ _ (Cf (h:=wp_skip (?_)))))))
     exact rest11 _ _ _ _ _ _ _ _ _ _ _ _ _ _ _ _
    ·have hkk' : (c.k == kind) = false := by simpa using hkk
     refine rgn (Vv (.slice (some ⟨b, off, none⟩) n cap) (h:=Vv (.int .i64 (t : Int)) (h:=Vv (.pointer (some ⟨b, off + t * 3, none⟩)) (h:=Vv (.pointer (some ⟨b, off + t * 3, none⟩)) (h:=Vv (.int .i64 c.k) (h:=Vv (.int .i64 kind) (h:=Vf (h:=Vf (h:=Vs (h:=Vs (h:=Vs (h:=Vs (h:=Vs (h:=?_))))))))))))))
     refine Vs (h:=Vs (h:=Vf (h:=WL.nil (hK38 _ _ (Cf (h:=wp_skip (?_)))))))
     exact rest11 _ _ _ _ _ _ _ _ _ _ _ _ _ _ _ _
 ·have htn' : ¬ (t : Int) < (n : Int) := by omega
  have htn2 : t = n := by have := HA.o; omega
  obtain ⟨va, vc, hvl⟩ := qE JF.o.own
  subst hvl
  have Hlen : Keep (u = ns.length) := ⟨by
   have hat : t = at_ := by have := HA.o; omega
   have hisf : (fndB L at_ kind key) = false := by
    cases e : (fndB L at_ kind key)
    ·rfl
    ·have := Kj e; rw [hn.o] at this; omega
   rw [← hns.o, Hu.o, hisf]
   unfold fnd yp
   have h0 : 0 < at_ := by omega
   have h1 : ¬ at_ < n := by omega
   have h2 : 0 < t := by omega
   simp [h0, h1, h2, hat]⟩
  refine wp_seq_k fun K51 hK51 => wp_seq_k fun K52 hK52 => rgn (Vv (.int .i64 (t : Int)) (h:=Vv (.slice (some ⟨b, off, none⟩) n cap) (h:=Vv (.int .i64 (n : Int)) (h:=Vf (h:=WL.nil (hK52 _ _ (Cf (h:=wp_exit (hK9 _ _ (wp_seq_k fun K53 hK53 => rgn (?_)))))))))))
  have Dr := kk JF.o.bd
  have Rr := kk (JF.o.gr.blk R4.o hrd.o)
  have Br : Keep (Below w.heap.size w wr) := ⟨HBX.o _ JF.o⟩
  refine WL.row (by kernel_rfl) 25 (.tmp 10) rfl d rfl 25 #[.int .i64 (n : Int), .slice va u vc] _ Dr.o Try.underlying25 rfl (by rfl) ?_
  simp only [Act.put, pqA, pqB, pqC]
  refine WL.storeR (by kernel_rfl) 25 (.tmp 6) (.tmp 141) rfl r #[.int .i64 (n : Int), .slice va u vc] rfl rfl 25 #[.int .i64 0, .slice none 0 0] Rr.o (by rfl) rfl (by simp [Value.oneCell']) ?_
  have R9 := kk (Rr.o.setRow #[.int .i64 (n : Int), .slice va u vc])
  have B9 : Keep (Below w.heap.size w (wr.setRow r #[.int .i64 (n : Int), .slice va u vc])) := ⟨qf Br.o gr.o _⟩
  have g_ : Grown wr (wr.setRow r #[.int .i64 (n : Int), .slice va u vc]) (fun k => k = r) := Grown.setRow _ r #[.int .i64 (n : Int), .slice va u vc] fun _ => rfl
  have hall : ∀ {B T s n' : Nat} {v : Value} {xs : List Value}, wr.ownsRow B T s v n' xs → T ≠ 25 → (wr.setRow r #[.int .i64 (n : Int), .slice va u vc]).ownsRow B T s v n' xs := fun h h2 => qo h g_ fun k hk e => by
   subst e
   exact h2 ((qn h hk).one Rr.o.typ)
  have LS9 : Keep (WtF (wr.setRow r #[.int .i64 (n : Int), .slice va u vc]) w.heap.size (.slice va u vc) ls) := ⟨by rw [JF.o.len]; exact zo (hall JF.o.own (by decide)) B4.o.size, fun x hx => ⟨hall (JF.o.rows x hx).1 (by decide), hall (JF.o.rows x hx).2 (by decide)⟩, JF.o.vB⟩
  clear hall g_
  generalize wr.setRow r #[.int .i64 (n : Int), .slice va u vc] = w9 at *
  simp only [Act.put]
  refine Vv (.int .i64 0) (h:=WL.nil (hK53 _ _ (wp_ret ?_)))
  try simp only [Exit.inBlock, Exit.then]
  refine bodyPost_ret (v := .tuple #[.agg #[.int .i64 (n : Int), .slice va u vc], .int .i64 0]) (qp Try.results9 _ _ r 25 _ (0, 0) _ _ rfl rfl R9.o Try.underlying25 rfl (by rfl)) rfl ⟨(n : Int), .slice va u vc, ls, 0, rfl, LS9.o, B9.o, (fun h => by rw [hkm] at h; cases h), (fun _ h => absurd hwi.o h), (fun _ _ => ⟨by rw [hn.o], rfl, (fun h => by rw [h] at hn; have := hn.o; simp at this; omega), fun _ => ⟨by rw [hn.o, hns.o, JF.o.len]; exact Hlen.o, by rw [hn.o, hns.o]; exact JF.o.is⟩⟩)⟩
theorem XH (v : Value) (L : List CV) (kind : Int) (key : ByteArray) (at_ : Nat) (w : World) (hC : CsV w.heap.size w v L) (hS : Sml L) (hN : L.length ≤ 1099511627776) (ha : at_ ≤ L.length) (hAt : qt L = 0 → ∀ (i : Nat) (c : CV), L[i]? = some c → (stI c.k c.s kind key < 0 ↔ i < at_)) : Calls Try.prog 9 #[v, .int .i64 kind, .string key] w (FdR L kind at_ key w) := by
 have hC0 := hC
 obtain ⟨la, cap, rfl⟩ : ∃ la cap, v = .slice la L.length cap := by
  rcases hC with ⟨a, c, rfl, rfl⟩ | ⟨b, off, cap, rfl, _⟩
  ·exact ⟨a, c, rfl⟩
  ·exact ⟨_, cap, rfl⟩
 cases hk : zi kind
 ·exact Ul la _ cap at_ L kind key w hk
 ·by_cases hW : qt L = 0
  ·by_cases h1 : 1 ≤ L.length
   ·rcases hC with ⟨a, c, e, rfl⟩ | ⟨b, off, cap', e, h2, h3⟩
    ·simp at h1
    ·injection e with e1 e2 e3
     subst e1 e3
     exact Uj b off _ cap at_ L _ kind key w hk ⟨hW⟩ ⟨rfl⟩ h1 h2 ⟨hN⟩ ⟨h3⟩ ⟨hC0⟩ ⟨Kk (Kg hW) hS⟩ ⟨ha⟩ ⟨hAt hW⟩ ⟨rfl⟩ ⟨fun c hc => by have := hS c hc; omega⟩
   ·have : L = [] := List.eq_nil_of_length_eq_zero (by omega)
    subst this
    exact Uk la cap at_ kind key w hk ⟨hC0⟩
  ·exact YR la _ cap at_ L kind key w _ hk ⟨rfl⟩ hW ⟨hC0⟩ ⟨by omega⟩
end Go.Proofs.Ytdpcjfafbmhceaa
