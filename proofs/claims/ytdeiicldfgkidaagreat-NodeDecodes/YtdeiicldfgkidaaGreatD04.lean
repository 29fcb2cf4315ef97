import Derived.Test.YtdeiicldfgkidaaGreatD03
import Derived.Lib.Strings
import Derived.Lib.Slices
import Derived.Lib.Small
import Derived.Lib.Walk
import Derived.Lib.BitFns
import Derived.Deep.RegionWith
import Derived.Maps.Own
namespace Go.Proofs.YtdeiicldfgkidaaGreat
open Go.RowKit

theorem lst_at0 (s : ByteArray) (h : 0 < s.size) : (s[0].toNat : Int) = (lst s).getD 0 0 := by
 have := lst_get s 0 h
 rw [List.drop_zero] at this
 rw [this]; rfl
theorem ext_size (s : ByteArray) (a n : Nat) (h : a + n ≤ s.size) : (s.extract a (a + n)).size = n := by
 rw [← lst_len, lst_extract, List.length_take, List.length_drop, lst_len]; omega
theorem nextW_1 (D : List Int) : nextW D 1 = if D.length = 0 then 20 else 0 := by
 unfold nextW
 rw [if_neg (by decide)]
 by_cases h : D.length = 0
 ·rw [if_pos (by omega), if_pos h]
 ·rw [if_neg (by omega), if_neg h]


theorem nextN_0 (D : List Int) (n : Int) (h : nextW D n = 0) : nextN D n = n.toNat ∧ 0 ≤ n ∧ n.toNat ≤ D.length := by
 unfold nextN
 rw [if_pos h]
 unfold nextW at h
 by_cases h1 : n < 0
 ·rw [if_pos h1] at h; cases h
 ·rw [if_neg h1] at h
  by_cases h2 : (D.length : Int) < n
  ·rw [if_pos h2] at h; cases h
  ·exact ⟨rfl, by omega, by omega⟩
theorem nextN_1 (D : List Int) (n : Int) (h : nextW D n ≠ 0) : nextN D n = 0 := by unfold nextN; rw [if_neg h]

set_option maxRecDepth 8000 in
set_option maxHeartbeats 1000000 in
theorem ibyte_good (p : Nat) (s : ByteArray) (a : Nat) (w : World) (h : InAt w p s a none) (hb : s.size ≤ 140737488355328) (D : List Int) (hD : D = (lst s).drop a) (W : Int) (hW : W = nextW D 1) (N : Nat) (hN : N = nextN D 1) (c : Int) (hc : c = if W = 0 then D.getD 0 0 else 0) :
  Calls Tryz.prog 82 #[ptr p] w (RdPost p s W (a + N) (.int .u8 c) w) := by
 have HC := Keep.mk (inext_good p s a 1 w h hb (by decide) (by decide))
 have HD : Keep (((lst s).drop a).length = s.size - a) := ⟨by rw [List.length_drop, lst_len]⟩
 have HL := Keep.mk h.le
 rw [← hD] at HC HD
 rw [← hW, ← hN] at HC
 have HDD := Keep.mk hD
 have HW := Keep.mk hW
 have HN := Keep.mk hN
 have Hc := Keep.mk hc
 clear h hb hD hW hN hc
 go_enter Tryz.func82, Tryz.ntmps82
 go_wp2_with fail
 refine HC.out.mono ?_
 rintro e w1 ⟨bad, er, rfl, h1, h2, h3⟩
 have H1 := Keep.mk h1
 have H2 := Keep.mk h2
 have H3 := Keep.mk h3
 clear h1 h2 HC
 rcases h3 with ⟨h0, rfl, rfl⟩ | ⟨h0, q, hq, rfl, rfl, hbad⟩
 ·have hx := nextN_0 D 1 (by rw [← HW.out]; exact h0)
  have hN1 : N = 1 := by rw [HN.out, hx.1]; rfl
  subst hN1
  have hDl : 1 ≤ D.length := hx.2.2
  have hsz : (s.extract a (a + 1)).size = 1 := ext_size s a 1 (by have := HD.out; omega)
  have hz2 : 0 < (s.extract a (a + 1)).size := by omega
  have hv := lst_at0 (s.extract a (a + 1)) hz2
  have hl : (lst (s.extract a (a + 1))).getD 0 0 = c := by
   rw [lst_extract, ← HDD.out, Hc.out, if_pos h0]
   cases D with
   | nil => simp at hDl
   | cons c D => simp
  rw [hl] at hv
  have hz : (0 : Int) < ((s.extract a (a + 1)).size : Int) := by omega
  have H0 := Keep.mk h0
  clear hl h0 hx hDl hsz HN HDD
  generalize s.extract a (a + 1) = st at *
  go_wp2
  go_ret2
  exact ⟨none, .nilIface, rfl, H1.out, H2.out, H3.out⟩
 ·have hc0 : c = 0 := by rw [Hc.out, if_neg h0]
  have H0 := Keep.mk h0
  have Hb := Keep.mk hbad
  subst hc0
  clear h0 hbad
  unfold err
  go_wp2
  go_ret2
  exact ⟨some q, err q, rfl, H1.out, H2.out, H3.out⟩

def zag (x : Int) : Int := if x % 2 = 1 then -(x / 2) - 1 else x / 2
set_option maxRecDepth 8000 in
set_option maxHeartbeats 1000000 in
theorem isigned_good (p : Nat) (s : ByteArray) (a : Nat) (w : World) (h : InAt w p s a none) (hb : s.size ≤ 140737488355328) (R : Int × Int × Int) (hR : R = fstM ((lst s).drop a) 18446744073709551615) (y : Int) (hy : y = if R.2.2 = 0 then zag R.1 else 0) (hx0 : 0 ≤ R.1) (hx1 : R.1 < 18446744073709551616) :
  Calls Tryz.prog 133 #[ptr p] w (RdPost p s R.2.2 (a + R.2.1.toNat) (.int .i64 y) w) := by
 have hc := inum_good p s a 18446744073709551615 w h hb
 rw [show ((18446744073709551615 : Nat) : Int) = 18446744073709551615 from rfl, ← hR] at hc
 have HC := Keep.mk hc
 obtain ⟨x, k, W⟩ := R
 have HY := Keep.mk hy
 have HX1 : Keep (x / 2 ≤ 9223372036854775807) := ⟨by simp only at hx1; omega⟩
 simp only at hx0
 have hx2 : 0 ≤ x / 2 := by omega
 have hx3 : x / 2 ≤ 9223372036854775807 := HX1.out
 clear hc h hb hR hy hx1
 go_enter Tryz.func133, Tryz.ntmps133
 go_wp2_with fail
 refine HC.out.mono ?_
 rintro e w1 ⟨bad, er, rfl, h1, h2, h3⟩
 have H1 := Keep.mk h1
 have H2 := Keep.mk h2
 have H3 := Keep.mk h3
 clear h1 h2 HC
 rcases h3 with ⟨h0, rfl, rfl⟩ | ⟨h0, q, hq, rfl, rfl, hbad⟩
 ·by_cases hodd : x % 2 = 1
  ·have hyy : y = -(x / 2) - 1 := by rw [HY.out, if_pos h0]; unfold zag; rw [if_pos hodd]
   subst hyy
   have ho : (x % 2 == 1) = true := by simpa using hodd
   clear hodd h0 HY
   go_wp2
   go_ret2
   exact ⟨none, .nilIface, rfl, H1.out, H2.out, H3.out⟩
  ·have hyy : y = x / 2 := by rw [HY.out, if_pos h0]; unfold zag; rw [if_neg hodd]
   subst hyy
   have ho : (x % 2 == 1) = false := by simpa using hodd
   clear hodd h0 HY
   go_wp2
   go_ret2
   exact ⟨none, .nilIface, rfl, H1.out, H2.out, H3.out⟩
 ·have hc0 : y = 0 := by rw [HY.out, if_neg h0]
  subst hc0
  clear h0 hbad HY
  unfold err
  go_wp2
  go_ret2
  exact ⟨some q, err q, rfl, H1.out, H2.out, H3.out⟩

def byt (D : List Int) (mm : Int) : Int × Nat × List Int :=
 if (fstM D mm).2.2 = 0 then (nextW (D.drop (fstM D mm).2.1.toNat) (fstM D mm).1, (fstM D mm).2.1.toNat + nextN (D.drop (fstM D mm).2.1.toNat) (fstM D mm).1, (D.drop (fstM D mm).2.1.toNat).take (nextN (D.drop (fstM D mm).2.1.toNat) (fstM D mm).1)) else ((fstM D mm).2.2, 0, [])
theorem byt_eq (D : List Int) (mm : Int) : byt D mm = if (fstM D mm).2.2 = 0 then (nextW (D.drop (fstM D mm).2.1.toNat) (fstM D mm).1, (fstM D mm).2.1.toNat + nextN (D.drop (fstM D mm).2.1.toNat) (fstM D mm).1, (D.drop (fstM D mm).2.1.toNat).take (nextN (D.drop (fstM D mm).2.1.toNat) (fstM D mm).1)) else ((fstM D mm).2.2, 0, []) := rfl
theorem fstM_le (D : List Int) (mm : Int) (hB : Byts D) : (fstM D mm).2.2 = 0 → 0 ≤ (fstM D mm).1 ∧ (fstM D mm).1 ≤ mm := by
 unfold fstM
 split
 ·intro h; cases h
 ·rename_i h
  intro h0
  obtain ⟨x, h1, _⟩ := fstG_form D (fstG D 0 0).1 (fstG D 0 0).2.1 hB (Prod.ext rfl (Prod.ext rfl h0))
  refine ⟨by rw [h1]; omega, ?_⟩
  by_cases hle : (fstG D 0 0).1 ≤ mm
  ·exact hle
  ·exact absurd ⟨h0, by omega⟩ h

set_option maxRecDepth 8000 in
set_option maxHeartbeats 1000000 in
theorem ireadS_good (p : Nat) (s : ByteArray) (a : Nat) (most : Int) (mm : Nat) (hmm : (mm : Int) = max most 0) (w : World) (h : InAt w p s a none) (hb : s.size ≤ 140737488355328) (hm2 : mm ≤ 9223372036854775807) (D : List Int) (hD : D = (lst s).drop a) (W : Int) (hW : W = (byt D (mm : Int)).1) (N : Nat) (hN : N = (byt D (mm : Int)).2.1) (l : List Int) (hl : l = (byt D (mm : Int)).2.2) (st : ByteArray) (hst : st = strOfNums l) :
  Calls Tryz.prog 143 #[ptr p, .int .i64 most] w (RdPost p s W (a + N) (.string st) w) := by
 have hc := inum_good p s a mm w h hb
 rw [← hD] at hc
 have HLD : Keep (D.length = s.size - a) := ⟨by rw [hD, List.length_drop, lst_len]⟩
 have HL := Keep.mk h.le
 have HS := Keep.mk hb
 have HDD := Keep.mk hD
 have HBy := Keep.mk (byt_eq D (mm : Int))
 have HSh := Keep.mk (fstM_shape D (mm : Int))
 have HLe := Keep.mk (fstM_le D (mm : Int) (by rw [hD]; exact (lst_byts s).drop a))
 have HW := Keep.mk hW
 have HN := Keep.mk hN
 have Hl := Keep.mk hl
 have Hst := Keep.mk hst
 have hmx := hmm.symm
 have hwm : IntKind.u64.wrap (mm : Int) = (mm : Int) := by rw [IntKind.wrap_u64]; omega
 have Hm2 := Keep.mk hm2
 clear hW hN hl hD hmm h hb hm2 hst
 generalize fstM D (mm : Int) = R at *
 obtain ⟨x, k, y⟩ := R
 simp only at hc HBy HSh HLe
 have HC := Keep.mk hc
 clear hc
 go_enter Tryz.func143, Tryz.ntmps143
 go_wp2_with fail
 refine HC.out.mono ?_
 rintro e w1 ⟨bad, er, rfl, h1, h2, h3⟩
 have H1 := Keep.mk h1
 have H2 := Keep.mk h2
 have H3 := Keep.mk h3
 clear h1 h2 HC hwm hmx
 rcases h3 with ⟨h0, rfl, rfl⟩ | ⟨h0, q, hq, rfl, rfl, hbad⟩
 ·obtain ⟨hx0, hx1⟩ := HLe.out h0
  have hk0 : 0 ≤ k := HSh.out.2.1
  have hk1 : k ≤ D.length := HSh.out.2.2
  obtain ⟨kn, rfl⟩ : ∃ kn : Nat, k = (kn : Int) := ⟨k.toNat, by omega⟩
  rw [if_pos h0, Int.toNat_natCast] at HBy
  have hx2 : x ≤ 9223372036854775807 := by have := Hm2.out; omega
  have hak : Keep (a + kn ≤ s.size) := ⟨by have := HLD.out; have := HL.out; omega⟩
  rw [Int.toNat_natCast] at H1
  have hc2 := inext_good p s (a + kn) x w1 H1.out HS.out (by omega) hx2
  have hDk : (lst s).drop (a + kn) = D.drop kn := by rw [HDD.out, List.drop_drop]
  rw [hDk] at hc2
  obtain ⟨W2, hW2⟩ : ∃ W2, Keep (W2 = nextW (D.drop kn) x) := ⟨_, ⟨rfl⟩⟩
  obtain ⟨N2, hN2⟩ : ∃ N2, Keep (N2 = nextN (D.drop kn) x) := ⟨_, ⟨rfl⟩⟩
  rw [← hW2.out, ← hN2.out] at hc2 HBy
  have eW : W = W2 := by rw [HW.out, HBy.out]
  have eN : N = kn + N2 := by rw [HN.out, HBy.out]
  have el : l = (D.drop kn).take N2 := by rw [Hl.out, HBy.out]
  have HC2 := Keep.mk hc2
  subst eW
  have HeN := Keep.mk eN
  have Hel := Keep.mk el
  have HDk := Keep.mk hDk
  clear hc2 h0 eN el hDk HW HN Hl HBy HSh HLe H3 hk0 hk1
  go_wp2_with fail
  refine HC2.out.mono ?_
  rintro e w2 ⟨bad, er, rfl, h4, h5, h6⟩
  have H4 : Keep (InAt w2 p s (a + N) bad) := ⟨by rw [HeN.out, ← Nat.add_assoc]; exact h4⟩
  have H5 := Keep.mk (H2.out.trans h5)
  have hsz := H2.out.size
  have H6 : Keep (ErrAs w w2 W (a + N) bad er) := ⟨by
   rw [HeN.out, ← Nat.add_assoc]
   rcases h6 with h6 | ⟨h6, q, h7, h8⟩
   ·exact .inl h6
   ·exact .inr ⟨h6, q, by omega, h8⟩⟩
  have hNl : Keep (N2 ≤ (D.drop kn).length) := ⟨by
   by_cases hw : W = 0
   ·have := nextN_0 (D.drop kn) x (by rw [← hW2.out]; exact hw); rw [hN2.out, this.1]; exact this.2.2
   ·rw [hN2.out, nextN_1 (D.drop kn) x (by rw [← hW2.out]; exact hw)]; omega⟩
  have hls : lst (s.extract (a + kn) (a + kn + N2)) = l := by rw [lst_extract, HDk.out, Hel.out, show a + kn + N2 - (a + kn) = N2 by omega]
  have hsz2 : (s.extract (a + kn) (a + kn + N2)).size = N2 := ext_size s (a + kn) N2 (by have := HLD.out; have := HL.out; have := hNl.out; have h8 := hak.out; have h9 := hNl.out; rw [List.length_drop] at h9; omega)
  clear h4 h5 HC2 hsz
  rcases h6 with ⟨h0, rfl, rfl⟩ | ⟨h0, q, hq, rfl, rfl, hbad⟩
  ·have hS2 : s.extract (a + kn) (a + kn + N2) = st := by rw [Hst.out, ← hls, nums_lst]
   rw [hS2]
   clear hls hsz2 h0 hNl hS2
   go_wp2
   go_ret2
   exact ⟨none, .nilIface, rfl, H4.out, H5.out, H6.out⟩
  ·have hN0 : N2 = 0 := by rw [hN2.out, nextN_1 (D.drop kn) x (by rw [← hW2.out]; exact h0)]
   have hS2 : st = ByteArray.empty := by rw [Hst.out, Hel.out, hN0]; rfl
   subst hS2
   clear h0 hbad hls hsz2 Hst Hel hN0
   unfold err
   go_wp2
   go_ret2
   exact ⟨some q, err q, rfl, H4.out, H5.out, H6.out⟩
 ·rw [if_neg h0] at HBy
  have eW : W = y := by rw [HW.out, HBy.out]
  have eN : N = 0 := by rw [HN.out, HBy.out]
  have el : l = [] := by rw [Hl.out, HBy.out]
  have hS2 : st = ByteArray.empty := by rw [Hst.out, el]; rfl
  subst eW eN hS2
  obtain ⟨rfl, rfl⟩ := HSh.out.1 h0
  have H0 := Keep.mk h0
  clear h0 hbad HBy HSh HLe HW HN Hl Hst el
  unfold err
  go_wp2
  go_ret2
  exact ⟨some q, err q, rfl, H1.out, H2.out, H3.out⟩

set_option maxRecDepth 8000 in
set_option maxHeartbeats 1000000 in
theorem itext_good (p : Nat) (s : ByteArray) (a : Nat) (most : Int) (mm : Nat) (hmm : (mm : Int) = max most 0) (w : World) (h : InAt w p s a none) (hb : s.size ≤ 140737488355328) (hm2 : mm ≤ 9223372036854775807) (D : List Int) (hD : D = (lst s).drop a) (W : Int) (hW : W = (byt D (mm : Int)).1) (N : Nat) (hN : N = (byt D (mm : Int)).2.1) (l : List Int) (hl : l = (byt D (mm : Int)).2.2) (st : ByteArray) (hst : st = strOfNums l) :
  Calls Tryz.prog 125 #[ptr p, .int .i64 most] w (RdPost p s W (a + N) (.string st) w) := by
 have HC := Keep.mk (ireadS_good p s a most mm hmm w h hb hm2 D hD W hW N hN l hl st hst)
 clear hmm h hb hm2 hD hW hN hl hst
 go_enter Tryz.func125, Tryz.ntmps125
 go_wp2_with fail
 refine HC.out.mono ?_
 rintro e w1 ⟨bad, er, rfl, h1⟩
 have H := Keep.mk h1
 clear h1 HC
 go_wp2
 go_ret2
 exact ⟨bad, er, rfl, H.out⟩
theorem results_cell_row2 {P : Program} {fn : Func} {p u : Tmp} {ty : TypeId} (h : fn.results = #[.cell p ty, .tmp u]) (tmps : Array Value) (w : World) (g : Nat) (t : TypeId) (cs : Array Value) (fr : Nat × Nat) (d : TypeDesc) (y : Value)
  (hp : tmps.getD p undef = .pointer (some ⟨g, 0, none⟩)) (hy : tmps.getD u undef = y) (hg : w.heap[g]? = some (.cells cs t fr))
  (hu : P.underlying ty = some d) (hd : (match d with | .struct _ | .array _ _ => true | _ => false) = true) (hi : (P.info? ty).map (·.size) = some cs.size) :
  (results fn tmps).run P w = .ok (.tuple #[.agg cs, y]) w := by
 rw [results_cell_tmp h, hp, hy]
 simp [asAddr, Result.andThen, run_loadVar_row w g t ty cs fr d hg hu hd hi]

theorem run_copyS (w : World) (g : Nat) (T ty : TypeId) (st : ByteArray) (n : Nat) (cur : Array Value) (hg : Blk w g T cur) (hs : cur.size = n) (hn : st.size = n ∨ st.size = 0) :
  (Builtin.copy_ #[24, 9] ty #[.slice (some ⟨g, 0, none⟩) n n, .string st]).run Tryz.prog w = .ok (goInt st.size) (w.setRow g ((bv (lst st)) ++ cur.toList.drop st.size).toArray) := by
 have hst := run_storeCells_at Tryz.prog g 0 T (bv (lst st)) 0 cur w hg (by rw [bv_len, lst_len]; omega) (bv_one _)
 have hcur : (cur.toList.take (0 + 0) ++ bv (lst st) ++ cur.toList.drop (0 + 0 + (bv (lst st)).length)).toArray = ((bv (lst st)) ++ cur.toList.drop st.size).toArray := by
  rw [bv_len, lst_len]; simp
 rw [hcur] at hst
 obtain ⟨i, hi, hzz⟩ := Option.map_eq_some_iff.1 Tryz.info5
 simp only [Prod.mk.injEq] at hzz
 obtain ⟨_, hsz, _⟩ := hzz
 have hf := Lib.run_firstCells_string (P := Tryz.prog) w 1 st
 rw [lst_cells] at hf
 have hmin : Nat.min st.size n = st.size := by rcases hn with h | h <;> simp [h]
 simp [Builtin.copy_, run_underlying Tryz.underlying24, Builtin.lenOf, sizeOf, typeInfo, hi, hsz, hmin, hf, hst]

def hrd (D : List Int) (W : Int) : Nat → Int := fun i => if W = 0 then D.getD i 0 else 0
theorem bytesA_of (l : List Int) (n : Nat) (h : l.length = n) : (bv l).toArray = bytesA n (fun i => l.getD i 0) := by
 apply Array.ext_getElem?
 intro i
 by_cases hi : i < n
 ·rw [bytesA_get _ _ _ hi, List.getElem?_toArray, bv_get l i (by omega)]
 ·rw [Array.getElem?_eq_none (by rw [List.size_toArray, bv_len]; omega), Array.getElem?_eq_none (by rw [bytesA_size]; omega)]
theorem copied (st : ByteArray) (D : List Int) (W : Int) (h : (W = 0 ∧ lst st = D.take 32 ∧ 32 ≤ D.length) ∨ (W ≠ 0 ∧ st.size = 0)) : ((bv (lst st)) ++ (bytesA 32 fun _ => 0).toList.drop st.size).toArray = bytesA 32 (hrd D W) := by
 rcases h with ⟨h0, h1, h2⟩ | ⟨h0, h1⟩
 ·have hs : st.size = 32 := by rw [← lst_len, h1, List.length_take]; omega
  rw [hs, List.drop_of_length_le (by simp [bytesA_size]), List.append_nil, h1, bytesA_of _ 32 (by rw [List.length_take]; omega)]
  exact bytesA_congr fun i hi => by simp [hrd, h0, List.getD_eq_getElem?_getD, hi]
 ·have hl : lst st = [] := List.eq_nil_of_length_eq_zero (by rw [lst_len]; exact h1)
  rw [hl, h1]
  simp only [bv, List.map_nil, List.nil_append, List.drop_zero, Array.toArray_toList]
  exact bytesA_congr fun i hi => by simp [hrd, h0]


set_option maxRecDepth 8000 in
set_option maxHeartbeats 1000000 in
theorem ihash_good (p : Nat) (s : ByteArray) (a : Nat) (w : World) (h : InAt w p s a none) (hb : s.size ≤ 140737488355328) (D : List Int) (hD : D = (lst s).drop a) (W : Int) (hW : W = nextW D 32) (N : Nat) (hN : N = nextN D 32) :
  Calls Tryz.prog 86 #[ptr p] w (RdPost p s W (a + N) (.agg (bytesA 32 (hrd D W))) w) := by
 have HI := Keep.mk h
 have HL := Keep.mk h.le
 have HLD : Keep (D.length = s.size - a) := ⟨by rw [hD, List.length_drop, lst_len]⟩
 have HS := Keep.mk hb
 have HDD := Keep.mk hD
 have HW := Keep.mk hW
 have HN := Keep.mk hN
 have Hp := Keep.mk h.blk.lt
 have HR := Keep.mk (show Blk ((w.alloc (.cells (bytesA 32 fun _ => 0) 41)).alloc (.cells (bytesA 32 fun _ => 0) 41)) w.heap.size 41 (bytesA 32 fun _ => 0) from (Blk.new w 41 _).alloc _)
 have HH : Keep (Blk ((w.alloc (.cells (bytesA 32 fun _ => 0) 41)).alloc (.cells (bytesA 32 fun _ => 0) 41)) (w.heap.size + 1) 41 (bytesA 32 fun _ => 0)) := ⟨by
  have h := Blk.new (w.alloc (.cells (bytesA 32 fun _ => 0) 41)) 41 (bytesA 32 fun _ => 0)
  simp only [World.size_alloc] at h
  exact h⟩
 have HB : Keep (Below w.heap.size w ((w.alloc (.cells (bytesA 32 fun _ => 0) 41)).alloc (.cells (bytesA 32 fun _ => 0) 41))) := ⟨((Below.refl _ _).alloc (Nat.le_refl _) _).alloc (by simp) _⟩
 have HZ : Keep (((w.alloc (.cells (bytesA 32 fun _ => 0) 41)).alloc (.cells (bytesA 32 fun _ => 0) 41)).heap.size = w.heap.size + 2) := ⟨by simp⟩
 clear h hb hD hW hN
 go_enter Tryz.func86, Tryz.ntmps86
 go_wp2_with (first | (refine wpList_new rfl 41 rfl _ Tryz.new41 ?_))
 generalize (w.alloc (.cells (bytesA 32 fun _ => 0) 41)).alloc (.cells (bytesA 32 fun _ => 0) 41) = w0 at *
 have hI0 : InAt w0 p s a none := ⟨HI.out.blk.below HB.out HI.out.blk.lt, HI.out.le⟩
 have hc := inext_good p s a 32 w0 hI0 HS.out (by decide) (by decide)
 rw [← HDD.out, ← HW.out, ← HN.out] at hc
 refine hc.mono ?_
 rintro e w1 ⟨bad, er, rfl, h1, h2, h3⟩
 have hR1 := h2.blk HR.out (fun e => by have := Hp.out; omega)
 have hH1 := h2.blk HH.out (fun e => by have := Hp.out; omega)
 have hcp : (W = 0 ∧ lst (s.extract a (a + N)) = D.take 32 ∧ 32 ≤ D.length) ∨ (W ≠ 0 ∧ (s.extract a (a + N)).size = 0) := by
  by_cases h0 : W = 0
  ·have hx := nextN_0 D 32 (by rw [← HW.out]; exact h0)
   have hN32 : N = 32 := by rw [HN.out, hx.1]; rfl
   exact .inl ⟨h0, by rw [lst_extract, ← HDD.out, hN32, show a + 32 - a = 32 by omega], hx.2.2⟩
  ·have hN0 : N = 0 := by rw [HN.out, nextN_1 D 32 (by rw [← HW.out]; exact h0)]
   exact .inr ⟨h0, by rw [hN0, ← lst_len, lst_extract]; simp⟩
 have hcs := run_copyS w1 (w.heap.size + 1) 41 3 (s.extract a (a + N)) 32 _ hH1 (bytesA_size _ _) (by
  rcases hcp with ⟨_, h4, h5⟩ | ⟨_, h4⟩
  ·left; rw [← lst_len, h4, List.length_take]; omega
  ·exact .inr h4)
 rw [copied _ D W hcp] at hcs
 have hH2 := hH1.setRow (bytesA 32 (hrd D W))
 have hR2 := hR1.setRow_ne (b' := w.heap.size + 1) (by omega) (bytesA 32 (hrd D W))
 have hI2 : InAt (w1.setRow (w.heap.size + 1) (bytesA 32 (hrd D W))) p s (a + N) bad := ⟨h1.blk.setRow_ne (by have := Hp.out; omega) _, h1.le⟩
 have hG0 : Grown w w1 (fun k => k = p) := (Grown.below HB.out).next h2 fun _ _ h => h
 have HE := Keep.mk h3
 have HI1 := Keep.mk h1
 have HG0 := Keep.mk hG0
 have HI2 := Keep.mk hI2
 obtain ⟨c, hcd⟩ : ∃ c, Keep (c = hrd D W) := ⟨_, ⟨rfl⟩⟩
 rw [← hcd.out] at hcs hH2 hR2 HI2
 rw [← hcd.out]
 have HH2 := Keep.mk hH2
 have HR2 := Keep.mk hR2
 obtain ⟨z, hz⟩ : ∃ z, Keep (z = goInt (s.extract a (a + N)).size) := ⟨_, ⟨rfl⟩⟩
 rw [← hz.out] at hcs
 clear hc hI0 h1 h2 h3 hR1 hH1 hcp hH2 hR2 hI2 hG0 hz HN HDD HW
 generalize s.extract a (a + N) = st at *
 obtain ⟨w2, hw2⟩ : ∃ w2, Keep (w2 = w1.setRow (w.heap.size + 1) (bytesA 32 c)) := ⟨_, ⟨rfl⟩⟩
 rw [← hw2.out] at hcs HH2 HR2 HI2
 go_wp2_with (first | (refine wpList_load_row rfl 41 (.tmp 4) rfl (w.heap.size + 1) rfl 41 (bytesA 32 c) (0, 0) (.array 32 5) HH2.out Tryz.underlying41 rfl (Tryz.size41B _) ?_) | (refine wpList_store_row rfl 41 (.tmp 2) (.tmp 15) rfl w.heap.size (bytesA 32 c) rfl rfl 41 (bytesA 32 fun _ => 0) HR2.out (Tryz.size41B _) (bytesA_sizes _ _ _) (bytesA_one _ _) ?_))
 refine bodyPost_ret (v := .tuple #[.agg (bytesA 32 c), er]) (results_cell_row2 Tryz.results86 _ _ w.heap.size 41 _ (0, 0) _ _ rfl rfl (HR2.out.setRow _) Tryz.underlying41 rfl (Tryz.size41B _)) rfl ?_
 have hp := Hp.out
 have hz := HZ.out
 refine ⟨bad, er, by rw [hcd.out], ⟨HI2.out.blk.setRow_ne (by omega) _, HI2.out.le⟩, ?_, ?_⟩
 ·rw [hw2.out]
  exact (HG0.out.next (Grown.setRow w1 (w.heap.size + 1) _ (S := fun k => k = w.heap.size + 1) fun _ => rfl) fun i hi e => by omega).next (Grown.setRow _ w.heap.size _ (S := fun k => k = w.heap.size) fun _ => rfl) fun i hi e => by omega
 ·rcases HE.out with h6 | ⟨h6, q, h7, h8, h9, h10⟩
  ·exact .inl h6
  ·refine .inr ⟨h6, q, by omega, h8, h9, ?_⟩
   rw [hw2.out]
   exact (h10.setRow_ne (by omega) _).setRow_ne (by omega) _


set_option maxRecDepth 8000 in
set_option maxHeartbeats 1000000 in
theorem newIn_any (v : Value) (l : List Int) (w : World) (hr : RowAt w v l) :
  Calls Tryz.prog 28 #[v] w fun e w' => e = .returned (ptr w.heap.size) ∧ w' = w.alloc (.cells #[.string (strOfNums l), .int .i64 0, .pointer none] 117) := by
 have hc := conv_row v l w hr
 clear hr
 go_enter Tryz.func28, Tryz.ntmps28
 go_wp2
 go_ret
 exact ⟨rfl, rfl⟩
theorem Tryz.new34 (w : World) : (Instr.alloc 34 true (.tuple #[])).run Tryz.prog w = .ok (.pointer (some ⟨w.heap.size, 0, none⟩)) (w.alloc (.cells #[.int .i64 0, .int .i64 0] 34)) := by kernel_rfl
theorem Tryz.size34 : (Tryz.prog.info? 34).map (·.size) = some 2 := by kernel_rfl

theorem assert22 (v : Value) (W : World) : (Instr.typeAssert (.iface 69 v) 30 69 true).run Tryz.prog W = .ok (.tuple #[v, .bool true]) W := by kernel_rfl

theorem blk_range {w : World} {b : Nat} {T : TypeId} {cs : Array Value} (h : Blk w b T cs) : w.rangeAt b 0 cs.toList := fun j v hv => by
 rw [Nat.zero_add, h.cell]; simpa using hv
theorem InAt.box {w : World} {p : Nat} {s : ByteArray} {a : Nat} {bad : Option Nat} (h : InAt w p s a bad) (o : Obj) : InAt (w.alloc o) p s a bad := ⟨h.blk.alloc o, h.le⟩
theorem results_cell1_row {P : Program} {fn : Func} {p : Tmp} {ty : TypeId} (h : fn.results = #[.cell p ty]) (tmps : Array Value) (w : World) (g : Nat) (t : TypeId) (cs : Array Value) (fr : Nat × Nat) (d : TypeDesc)
  (hp : tmps.getD p undef = .pointer (some ⟨g, 0, none⟩)) (hg : w.heap[g]? = some (.cells cs t fr))
  (hu : P.underlying ty = some d) (hd : (match d with | .struct _ | .array _ _ => true | _ => false) = true) (hi : (P.info? ty).map (·.size) = some cs.size) :
  (results fn tmps).run P w = .ok (.agg cs) w := by
 have hr := run_loadVar_row (P := P) w g t ty cs fr d hg hu hd hi
 simp only [results, h]
 simp only [Array.getD_eq_getD_getElem?] at hp
 simp [asAddr, hp, hr]
theorem results_tmp_cell_row {P : Program} {fn : Func} {p u : Tmp} {ty : TypeId} (h : fn.results = #[.tmp u, .cell p ty]) (tmps : Array Value) (w : World) (g : Nat) (t : TypeId) (cs : Array Value) (fr : Nat × Nat) (d : TypeDesc) (y : Value)
  (hp : tmps.getD p undef = .pointer (some ⟨g, 0, none⟩)) (hy : tmps.getD u undef = y) (hg : w.heap[g]? = some (.cells cs t fr))
  (hu : P.underlying ty = some d) (hd : (match d with | .struct _ | .array _ _ => true | _ => false) = true) (hi : (P.info? ty).map (·.size) = some cs.size) :
  (results fn tmps).run P w = .ok (.tuple #[y, .agg cs]) w := by
 have hr := run_loadVar_row (P := P) w g t ty cs fr d hg hu hd hi
 simp only [results, h]
 simp only [Array.getD_eq_getD_getElem?] at hp hy
 simp [Result.andThen, asAddr, hp, hy, hr]
theorem results_cell_cell_row {P : Program} {fn : Func} {p p' : Tmp} {ty ty' : TypeId} (h : fn.results = #[.cell p ty, .cell p' ty']) (tmps : Array Value) (w : World) (g g' : Nat) (t t' : TypeId) (cs cs' : Array Value) (fr fr' : Nat × Nat) (d d' : TypeDesc)
  (hp : tmps.getD p undef = .pointer (some ⟨g, 0, none⟩)) (hp' : tmps.getD p' undef = .pointer (some ⟨g', 0, none⟩)) (hg : w.heap[g]? = some (.cells cs t fr)) (hg' : w.heap[g']? = some (.cells cs' t' fr'))
  (hu : P.underlying ty = some d) (hd : (match d with | .struct _ | .array _ _ => true | _ => false) = true) (hi : (P.info? ty).map (·.size) = some cs.size)
  (hu' : P.underlying ty' = some d') (hd' : (match d' with | .struct _ | .array _ _ => true | _ => false) = true) (hi' : (P.info? ty').map (·.size) = some cs'.size) :
  (results fn tmps).run P w = .ok (.tuple #[.agg cs, .agg cs']) w := by
 have hr := run_loadVar_row (P := P) w g t ty cs fr d hg hu hd hi
 have hr' := run_loadVar_row (P := P) w g' t' ty' cs' fr' d' hg' hu' hd' hi'
 simp only [results, h]
 simp only [Array.getD_eq_getD_getElem?] at hp hp'
 simp [Result.andThen, asAddr, hp, hp', hr, hr']

def RfAt (w : World) (x : Nat) (vB : Value) (a : Nat) (why b : Int) : Prop := Blk w x 78 #[vB, .int .i64 (a : Int), .int .i64 why, .int .i64 b]
theorem RfAt.c0 {w : World} {x : Nat} {vB : Value} {a : Nat} {why b : Int} (h : RfAt w x vB a why b) : w.cell? ⟨x, 0, none⟩ = some vB := by rw [Blk.cell h]; rfl
theorem RfAt.c1 {w : World} {x : Nat} {vB : Value} {a : Nat} {why b : Int} (h : RfAt w x vB a why b) : w.cell? ⟨x, 1, none⟩ = some (.int .i64 (a : Int)) := by rw [Blk.cell h]; rfl
theorem RfAt.c2 {w : World} {x : Nat} {vB : Value} {a : Nat} {why b : Int} (h : RfAt w x vB a why b) : w.cell? ⟨x, 2, none⟩ = some (.int .i64 why) := by rw [Blk.cell h]; rfl
theorem RfAt.c3 {w : World} {x : Nat} {vB : Value} {a : Nat} {why b : Int} (h : RfAt w x vB a why b) : w.cell? ⟨x, 3, none⟩ = some (.int .i64 b) := by rw [Blk.cell h]; rfl

set_option maxRecDepth 8000 in
set_option maxHeartbeats 400000 in
theorem xleft_any (x : Nat) (va : Option Addr) (n vc a : Nat) (why b : Int) (w : World) (h : RfAt w x (.slice va n vc) a why b) (ha : a ≤ n) (hb : n ≤ 140737488355328) :
  Calls Tryz.prog 62 #[ptr x] w fun e w' => e = .returned (.int .i64 ((n : Int) - a)) ∧ ∃ q, w' = w.drewN q := by
 have c0 := h.c0
 have c1 := h.c1
 have h1 : (a : Int) ≤ (n : Int) := by omega
 have h2 : (n : Int) ≤ 140737488355328 := by omega
 clear h hb ha
 go_enter Tryz.func62, Tryz.ntmps62
 go_wp2
 go_quiet (fail)
 go_wp2
 go_ret
 exact ⟨rfl, nq, rfl⟩

structure RS (w : World) (x : Nat) (vB : Value) (a : Nat) (why b : Int) (w1 : World) : Prop where
 rf : RfAt w1 x vB a why b
 cell : Blk w1 w.heap.size 34 #[.int .i64 0, .int .i64 0]
 gr : Grown w w1 fun k => k = x
 lt : x < w.heap.size
theorem RS.start {w : World} {x : Nat} {vB : Value} {a : Nat} {why b : Int} (h : RfAt w x vB a why b) : RS w x vB a why b (w.alloc (.cells #[.int .i64 0, .int .i64 0] 34)) :=
 ⟨Blk.alloc h _, Blk.new _ _ _, Grown.alloc _ _ _, Blk.lt h⟩
theorem RS.later {w : World} {x : Nat} {vB : Value} {a : Nat} {why b : Int} {w1 w2 : World} (h : RS w x vB a why b w1) (hb : Below w1.heap.size w1 w2) : RS w x vB a why b w2 :=
 ⟨Blk.below h.rf hb (Blk.lt h.rf), h.cell.below hb h.cell.lt, h.gr.trans (Grown.below hb), h.lt⟩
theorem RS.turned {w : World} {x : Nat} {vB : Value} {a a' : Nat} {why b why' b' : Int} {w1 w2 : World} (h : RS w x vB a why b w1) (h1 : RfAt w2 x vB a' why' b') (h2 : Grown w1 w2 fun k => k = x) : RS w x vB a' why' b' w2 :=
 ⟨h1, h2.blk h.cell (by have := h.lt; omega), h.gr.trans h2, h.lt⟩
theorem RS.fin {w : World} {x : Nat} {vB : Value} {a : Nat} {why b : Int} {w1 : World} (h : RS w x vB a why b w1) (u v : Value) :
  Blk ((w1.setCell ⟨w.heap.size, 0, none⟩ u).setCell ⟨w.heap.size, 1, none⟩ v) w.heap.size 34 #[u, v] ∧ RfAt ((w1.setCell ⟨w.heap.size, 0, none⟩ u).setCell ⟨w.heap.size, 1, none⟩ v) x vB a why b ∧ Grown w ((w1.setCell ⟨w.heap.size, 0, none⟩ u).setCell ⟨w.heap.size, 1, none⟩ v) fun k => k = x := by
 have hne : x ≠ w.heap.size := by have := h.lt; omega
 refine ⟨(h.cell.set 0 u).set 1 v, (Blk.set_ne (Blk.set_ne h.rf hne u) hne v), ?_⟩
 refine (h.gr.next (Grown.setCell w1 w.heap.size 0 u (S := fun k => k = w.heap.size) fun _ => rfl) fun i hi e => ?_).next (Grown.setCell _ w.heap.size 1 v (S := fun k => k = w.heap.size) fun _ => rfl) fun i hi e => ?_
 ·omega
 ·omega
theorem RS.d0 {w : World} {x : Nat} {vB : Value} {a : Nat} {why b : Int} {w1 : World} (h : RS w x vB a why b w1) : w1.cell? ⟨w.heap.size, 0, none⟩ = some (.int .i64 0) := by rw [h.cell.cell]; rfl
theorem RS.d1 {w : World} {x : Nat} {vB : Value} {a : Nat} {why b : Int} {w1 : World} (h : RS w x vB a why b w1) : w1.cell? ⟨w.heap.size, 1, none⟩ = some (.int .i64 0) := by rw [h.cell.cell]; rfl
theorem RS.step {w : World} {x : Nat} {vB : Value} {a : Nat} {why b : Int} {w1 : World} (h : RS w x vB a why b w1) (a' : Nat) : RS w x vB a' why b (w1.setCell ⟨x, 1, none⟩ (.int .i64 (a' : Int))) :=
 h.turned (Blk.set h.rf 1 _) (Grown.setCell w1 x 1 _ fun _ => rfl)

set_option maxRecDepth 8000 in
set_option maxHeartbeats 1000000 in
theorem xwrong_any (x : Nat) (vB : Value) (a : Nat) (why : Int) (w : World) (h : RfAt w x vB a 0 0) :
  Calls Tryz.prog 57 #[ptr x, .int .i64 why, .int .i64 (a : Int)] w fun e w' => e = .returned (.agg #[.int .i64 why, .int .i64 (a : Int)]) ∧ RfAt w' x vB a why (a : Int) ∧ Grown w w' fun k => k = x := by
 have HS := Keep.mk (RS.start h)
 have hlt := Blk.lt h
 have hne : x ≠ w.heap.size := by omega
 have hne' : w.heap.size ≠ x := by omega
 clear h
 go_enter Tryz.func57, Tryz.ntmps57
 go_wp2_with (first | (refine wpList_new rfl 34 rfl _ Tryz.new34 ?_; refine Hid.out ?_))
 refine hid_in ?_
 generalize w.alloc (.cells #[.int .i64 0, .int .i64 0] 34) = w1 at *
 have c1 := RfAt.c1 HS.out.rf
 have c2 := RfAt.c2 HS.out.rf
 have c3 := RfAt.c3 HS.out.rf
 have f1 := Blk.frozen HS.out.rf 1
 have f2 := Blk.frozen HS.out.rf 2
 have f3 := Blk.frozen HS.out.rf 3
 have d0 := HS.out.d0
 have d1 := HS.out.d1
 have e0 := HS.out.cell.frozen 0
 have e1 := HS.out.cell.frozen 1
 go_wp2
 have hr : RfAt (((w1.setCell ⟨x, 2, none⟩ (.int .i64 why)).setCell ⟨x, 3, none⟩ (.int .i64 (a : Int))).setCell ⟨x, 1, none⟩ (.int .i64 (a : Int))) x vB a why (a : Int) := Blk.set (Blk.set (Blk.set HS.out.rf 2 _) 3 _) 1 _
 have hf := (HS.out.turned hr (((Grown.setCell w1 x 2 _ (S := fun k => k = x) fun _ => rfl).trans (Grown.setCell _ x 3 _ (S := fun k => k = x) fun _ => rfl)).trans (Grown.setCell _ x 1 _ (S := fun k => k = x) fun _ => rfl))).fin (.int .i64 why) (.int .i64 (a : Int))
 exact bodyPost_ret (results_cell1_row Tryz.results57 _ _ w.heap.size 34 _ (0, 0) _ rfl hf.1 Tryz.underlying34 rfl Tryz.size34) rfl ⟨rfl, hf.2.1, hf.2.2⟩

def ErrB (why : Int) (a : Nat) (b : Int) : Prop := (why = 0 ∧ b = 0) ∨ (why ≠ 0 ∧ b = (a : Int))
def RfPost (x : Nat) (vB : Value) (why : Int) (a : Nat) (res : Value) (w : World) (e : Ending) (w' : World) : Prop :=
 ∃ b, ErrB why a b ∧ e = .returned (.tuple #[res, .agg #[.int .i64 why, .int .i64 b]]) ∧ RfAt w' x vB a why b ∧ Grown w w' fun k => k = x
def RfStuck (why b : Int) (res : Value) (w : World) (e : Ending) (w' : World) : Prop :=
 e = .returned (.tuple #[res, .agg #[.int .i64 why, .int .i64 b]]) ∧ Below w.heap.size w w'
theorem below_two {B : Nat} {w w1 : World} (h : Below B w w1) {g : Nat} (hg : B ≤ g) (u v : Value) : Below B w ((w1.setCell ⟨g, 0, none⟩ u).setCell ⟨g, 1, none⟩ v) := (h.setCell hg _).setCell hg _


set_option maxRecDepth 8000 in
set_option maxHeartbeats 1000000 in
theorem xbyte_good (x : Nat) (vB : Value) (l : List Int) (a : Nat) (w : World) (h : RfAt w x vB a 0 0) (hR : ∀ wx, (Grown w wx fun k => k = x) → RowAt wx vB l) (ha : a ≤ l.length) (hb : l.length ≤ 140737488355328) (D : List Int) (hD : D = l.drop a) (W : Int) (hW : W = nextW D 1) (N : Nat) (hN : N = nextN D 1) (c : Int) (hc : c = if W = 0 then D.getD 0 0 else 0) :
  Calls Tryz.prog 56 #[ptr x] w (RfPost x vB W (a + N) (.int .u8 c) w) := by
 have HS := Keep.mk (RS.start h)
 have HR := Keep.mk hR
 have hlen : D.length = l.length - a := by rw [hD, List.length_drop]
 obtain ⟨va, vc, hvB⟩ := row_form (hR w (Grown.refl _ _))
 subst hvB
 rw [nextW_1] at hW
 have Hb := Keep.mk hb
 have Ha := Keep.mk ha
 by_cases hl : a = l.length
 ·have HW : W = 20 := by rw [hW, if_pos (by omega)]
  have HN : N = 0 := by rw [hN]; exact nextN_1 D 1 (by rw [nextW_1, if_pos (by omega)]; decide)
  have Hc : c = 0 := by rw [hc, HW]; rfl
  subst HN
  subst Hc
  rw [HW, Nat.add_zero]
  have hli : (l.length : Int) - (a : Int) < 1 := by omega
  clear h hR hW hN hc hlen ha hb hD HW hl
  go_enter Tryz.func56, Tryz.ntmps56
  go_wp2_with (first | (refine wpList_new rfl 34 rfl _ Tryz.new34 ?_; refine Hid.out ?_))
  refine hid_in ?_
  generalize w.alloc (.cells #[.int .i64 0, .int .i64 0] 34) = w1 at *
  have c2 := RfAt.c2 HS.out.rf
  go_wp2_with fail
  refine (xleft_any x va l.length vc a 0 0 w1 HS.out.rf Ha.out Hb.out).mono ?_
  rintro e w2 ⟨rfl, qd, hw2⟩
  have HS2 := Keep.mk (HS.out.later (w2 := w2) (by rw [hw2]; exact below_drewN _ _))
  clear hw2 c2 HS
  have c1 := RfAt.c1 HS2.out.rf
  go_wp2_with fail
  refine (xwrong_any x _ a 20 w2 HS2.out.rf).mono ?_
  rintro e w3 ⟨rfl, hr, hg⟩
  have HS3 := Keep.mk (HS2.out.turned hr hg)
  clear hr hg HS2 c1
  have d0 := HS3.out.d0
  have d1 := HS3.out.d1
  have e0 := HS3.out.cell.frozen 0
  have e1 := HS3.out.cell.frozen 1
  go_wp2
  have hf := HS3.out.fin (.int .i64 20) (.int .i64 (a : Int))
  exact bodyPost_ret (results_tmp_cell_row Tryz.results56 _ _ w.heap.size 34 _ (0, 0) _ _ rfl rfl hf.1 Tryz.underlying34 rfl Tryz.size34) rfl ⟨_, .inr ⟨by decide, rfl⟩, rfl, hf.2.1, hf.2.2⟩
 ·have HW : W = 0 := by rw [hW, if_neg (by omega)]
  have HN : N = 1 := by rw [hN]; exact (nextN_0 D 1 (by rw [nextW_1, if_neg (by omega)])).1
  have Hc : c = l.getD a 0 := by rw [hc, HW, if_pos rfl, hD]; simp [List.getD_eq_getElem?_getD]
  subst HN
  rw [HW]
  have hli : ¬ ((l.length : Int) - (a : Int) < 1) := by omega
  have hai : (a : Int) < (l.length : Int) := by omega
  have hbi : (l.length : Int) ≤ 140737488355328 := by omega
  have Hlt : Keep (a < l.length) := ⟨by omega⟩
  obtain ⟨gb, go, rfl⟩ : ∃ gb go, va = some ⟨gb, go, none⟩ := by
   rcases hR w (Grown.refl _ _) with ⟨_, e⟩ | ⟨_, _, _, e⟩ | ⟨g, o, _, e, _, _⟩
   ·have : l.length = 0 := by rw [e]; rfl
    omega
   ·have : l.length = 0 := by rw [e]; rfl
    omega
   ·injection e with e1; exact ⟨g, o, e1⟩
  have HRc : Keep (∀ wx, (Grown w wx fun k => k = x) → wx.cell? ⟨gb, go + a, none⟩ = some (.int .u8 c)) := ⟨fun wx hg => by
   rcases HR.out wx hg with ⟨_, e⟩ | ⟨_, _, _, e⟩ | ⟨g, o, _, e, _, h3⟩
   ·have : l.length = 0 := by rw [e]; rfl
    omega
   ·have : l.length = 0 := by rw [e]; rfl
    omega
   ·injection e with e1 e2
    injection e1 with e1
    injection e1 with e3 e4
    rw [e3, e4, Hc]; exact h3 a Hlt.out⟩
  clear h hR hW hN hc hlen ha hb hD HW hl Hc
  go_enter Tryz.func56, Tryz.ntmps56
  go_wp2_with (first | (refine wpList_new rfl 34 rfl _ Tryz.new34 ?_; refine Hid.out ?_))
  refine hid_in ?_
  generalize w.alloc (.cells #[.int .i64 0, .int .i64 0] 34) = w1 at *
  have c2 := RfAt.c2 HS.out.rf
  go_wp2_with fail
  refine (xleft_any x _ l.length vc a 0 0 w1 HS.out.rf Ha.out Hb.out).mono ?_
  rintro e w2 ⟨rfl, qd, hw2⟩
  have HS2 := Keep.mk (HS.out.later (w2 := w2) (by rw [hw2]; exact below_drewN _ _))
  clear hw2 c2 HS
  have c1 := RfAt.c1 HS2.out.rf
  have f1 := Blk.frozen HS2.out.rf 1
  go_wp2_with fail
  have HS3 := Keep.mk (HS2.out.step (a + 1))
  rw [show (((a + 1 : Nat)) : Int) = (a : Int) + 1 from rfl] at HS3
  generalize w2.setCell ⟨x, 1, none⟩ (.int .i64 ((a : Int) + 1)) = w3 at *
  have g0 := RfAt.c0 HS3.out.rf
  have g1 := RfAt.c1 HS3.out.rf
  rw [show (((a + 1 : Nat)) : Int) = (a : Int) + 1 from rfl] at g1
  have hc := HRc.out w3 HS3.out.gr
  have d0 := HS3.out.d0
  have d1 := HS3.out.d1
  have e0 := HS3.out.cell.frozen 0
  have e1 := HS3.out.cell.frozen 1
  clear c1 f1
  go_region
  go_wp2
  have hf := HS3.out.fin (.int .i64 0) (.int .i64 0)
  exact bodyPost_ret (results_tmp_cell_row Tryz.results56 _ _ w.heap.size 34 _ (0, 0) _ _ rfl rfl hf.1.drew Tryz.underlying34 rfl Tryz.size34) rfl ⟨_, .inl ⟨rfl, rfl⟩, rfl, Blk.drew hf.2.1, hf.2.2.drew⟩
def fnv (n : Nat) : Value := .func (.func n) #[] #[]
def fldA (i : Nat) : Array Value := if i = 0 then #[fnv 121, fnv 122, fnv 124] else if i = 1 then #[fnv 126, fnv 127, fnv 128] else if i = 2 then #[fnv 129, fnv 130, fnv 132] else #[fnv 134, fnv 135, fnv 136]
theorem fldA_size (i : Nat) : (fldA i).size = 3 := by
 unfold fldA
 split
 ·rfl
 ·split
  ·rfl
  ·split <;> rfl
theorem fldA_one (i : Nat) : (fldA i).all (·.oneCell') = true := by
 unfold fldA
 split
 ·simp [fnv, Value.oneCell']
 ·split
  ·simp [fnv, Value.oneCell']
  ·split <;> simp [fnv, Value.oneCell']
def noF : Array Value := #[.nilFunc, .nilFunc, .nilFunc]
theorem Tryz.size182 : (Tryz.prog.info? 182).map (·.size) = some 3 := by kernel_rfl
theorem Tryz.size182B (i : Nat) : (Tryz.prog.info? 182).map (·.size) = some (fldA i).size := by rw [fldA_size]; exact Tryz.size182
theorem Tryz.new182 (w : World) : (Instr.alloc 182 true (.tuple #[])).run Tryz.prog w = .ok (.pointer (some ⟨w.heap.size, 0, none⟩)) (w.alloc (.cells noF 182)) := by kernel_rfl
theorem noF_sizes (i : Nat) : noF.size = (fldA i).size := by rw [fldA_size]; rfl
theorem fld0_any (w : World) : Calls Tryz.prog 105 #[] w fun e w' => e = .returned (.agg (fldA 0)) ∧ Below w.heap.size w w' := by
 have HB := Keep.mk (Blk.new w 182 noF)
 have HW := Keep.mk (below_new w (.cells noF 182))
 go_enter Tryz.func105, Tryz.ntmps105
 go_wp2_with (first | (refine wpList_new rfl 182 rfl _ Tryz.new182 ?_) | (refine wpList_bld rfl 182 _ rfl (fldA 0) (by kernel_rfl) ?_; refine wpList_store_row rfl 182 (.tmp 0) (.tmp 1) rfl w.heap.size (fldA 0) rfl rfl 182 noF HB.out (Tryz.size182B 0) rfl (fldA_one 0) ?_))
 refine bodyPost_ret (v := .agg (fldA 0)) (results_cell1_row Tryz.results105 _ _ w.heap.size 182 _ (0, 0) _ rfl (HB.out.setRow _) Tryz.underlying182 rfl (Tryz.size182B 0)) rfl ?_
 exact ⟨rfl, below_setRow HW.out (Nat.le_refl _) _⟩
theorem fld1_any (w : World) : Calls Tryz.prog 106 #[] w fun e w' => e = .returned (.agg (fldA 1)) ∧ Below w.heap.size w w' := by
 have HB := Keep.mk (Blk.new w 182 noF)
 have HW := Keep.mk (below_new w (.cells noF 182))
 go_enter Tryz.func106, Tryz.ntmps106
 go_wp2_with (first | (refine wpList_new rfl 182 rfl _ Tryz.new182 ?_) | (refine wpList_bld rfl 182 _ rfl (fldA 1) (by kernel_rfl) ?_; refine wpList_store_row rfl 182 (.tmp 0) (.tmp 1) rfl w.heap.size (fldA 1) rfl rfl 182 noF HB.out (Tryz.size182B 1) rfl (fldA_one 1) ?_))
 refine bodyPost_ret (v := .agg (fldA 1)) (results_cell1_row Tryz.results106 _ _ w.heap.size 182 _ (0, 0) _ rfl (HB.out.setRow _) Tryz.underlying182 rfl (Tryz.size182B 1)) rfl ?_
 exact ⟨rfl, below_setRow HW.out (Nat.le_refl _) _⟩
theorem fld2_any (w : World) : Calls Tryz.prog 107 #[] w fun e w' => e = .returned (.agg (fldA 2)) ∧ Below w.heap.size w w' := by
 have HB := Keep.mk (Blk.new w 182 noF)
 have HW := Keep.mk (below_new w (.cells noF 182))
 go_enter Tryz.func107, Tryz.ntmps107
 go_wp2_with (first | (refine wpList_new rfl 182 rfl _ Tryz.new182 ?_) | (refine wpList_bld rfl 182 _ rfl (fldA 2) (by kernel_rfl) ?_; refine wpList_store_row rfl 182 (.tmp 0) (.tmp 1) rfl w.heap.size (fldA 2) rfl rfl 182 noF HB.out (Tryz.size182B 2) rfl (fldA_one 2) ?_))
 refine bodyPost_ret (v := .agg (fldA 2)) (results_cell1_row Tryz.results107 _ _ w.heap.size 182 _ (0, 0) _ rfl (HB.out.setRow _) Tryz.underlying182 rfl (Tryz.size182B 2)) rfl ?_
 exact ⟨rfl, below_setRow HW.out (Nat.le_refl _) _⟩
theorem fld3_any (w : World) : Calls Tryz.prog 108 #[] w fun e w' => e = .returned (.agg (fldA 3)) ∧ Below w.heap.size w w' := by
 have HB := Keep.mk (Blk.new w 182 noF)
 have HW := Keep.mk (below_new w (.cells noF 182))
 go_enter Tryz.func108, Tryz.ntmps108
 go_wp2_with (first | (refine wpList_new rfl 182 rfl _ Tryz.new182 ?_) | (refine wpList_bld rfl 182 _ rfl (fldA 3) (by kernel_rfl) ?_; refine wpList_store_row rfl 182 (.tmp 0) (.tmp 1) rfl w.heap.size (fldA 3) rfl rfl 182 noF HB.out (Tryz.size182B 3) rfl (fldA_one 3) ?_))
 refine bodyPost_ret (v := .agg (fldA 3)) (results_cell1_row Tryz.results108 _ _ w.heap.size 182 _ (0, 0) _ rfl (HB.out.setRow _) Tryz.underlying182 rfl (Tryz.size182B 3)) rfl ?_
 exact ⟨rfl, below_setRow HW.out (Nat.le_refl _) _⟩

def MapIs (w : World) (m : Nat) (ps : List (Int × Value)) : Prop :=
 ∃ es clock, w.heap[m]? = some (.map es clock) ∧ es.toList.map (fun e => (e.key, e.val)) = ps.map fun p => (Value.int .i64 p.1, p.2)
theorem MapIs.lt {w : World} {m : Nat} {ps : List (Int × Value)} (h : MapIs w m ps) : m < w.heap.size := by
 obtain ⟨es, clock, h1, _⟩ := h
 exact (Array.getElem?_eq_some_iff.1 h1).1
theorem MapIs.grown {w w' : World} {m : Nat} {ps : List (Int × Value)} {S : Nat → Prop} (h : MapIs w m ps) (hg : Grown w w' S) (hs : ¬ S m) : MapIs w' m ps := by
 have hlt := h.lt
 obtain ⟨es, clock, h1, h2⟩ := h
 exact ⟨es, clock, by rw [hg.block m hlt hs]; exact h1, h2⟩
theorem find_now (k : Int) : ∀ (es : List MapEntry) (ps : List (Int × Value)) (i : Nat), es.map (fun e => (e.key, e.val)) = ps.map (fun p => (Value.int .i64 p.1, p.2)) →
  ∃ r, Instr.findNow (.int .i64) (.int .i64 k) es i = some r ∧ r.map (·.2) = (ps.find? fun p => k == p.1).map (·.2)
 | [], [], i, _ => ⟨none, rfl, rfl⟩
 | [], p :: ps, i, h => by simp at h
 | e :: es, [], i, h => by simp at h
 | e :: es, p :: ps, i, h => by
  simp only [List.map_cons, List.cons.injEq, Prod.mk.injEq] at h
  obtain ⟨⟨h1, h2⟩, h3⟩ := h
  obtain ⟨r, h4, h5⟩ := find_now k es ps (i + 1) h3
  simp only [Instr.findNow, h1, Instr.sameNow, if_true]
  by_cases hk : k = p.1
  ·subst hk
   simp only [beq_self_eq_true]
   exact ⟨_, rfl, by simp [h2]⟩
  ·have hk' : (k == p.1) = false := by simpa using hk
   simp only [hk', List.find?_cons]
   exact ⟨r, h4, h5⟩
theorem run_findKey (k : Int) (es : List MapEntry) (ps : List (Int × Value)) (h : es.map (fun e => (e.key, e.val)) = ps.map (fun p => (Value.int .i64 p.1, p.2))) (w : World) :
  ∃ r, (Instr.findKey 3 (.int .i64 k) es).run Tryz.prog w = .ok r w ∧ r.map (·.2) = (ps.find? fun p => k == p.1).map (·.2) := by
 obtain ⟨r, h1, h2⟩ := find_now k es ps 0 h
 refine ⟨r, ?_, h2⟩
 unfold Instr.findKey
 simp only [Sem.run_bind, run_underlying Tryz.underlying3, Result.andThen_ok, h1, Sem.run_pure]
theorem check_key (b : Bool) (k : Int) (w : World) : (Instr.checkKey b 10000 3 (.int .i64 k)).run Tryz.prog w = .ok () w := by
 unfold Instr.checkKey
 simp only [Sem.run_bind, run_underlying Tryz.underlying3, Result.andThen_ok, Sem.run_pure]
theorem run_insert (w : World) (m : Nat) (ps : List (Int × Value)) (k : Int) (v : Value) (h : MapIs w m ps) (hk : ∀ p ∈ ps, p.1 ≠ k) :
  ∃ w', (Instr.mapUpdate 147 (.map (some m)) (.int .i64 k) v).run Tryz.prog w = .ok () w' ∧ MapIs w' m (ps ++ [(k, v)]) ∧ Grown w w' (fun j => j = m) ∧ w'.heap.size = w.heap.size := by
 have hlt := h.lt
 obtain ⟨es, clock, h1, h2⟩ := h
 obtain ⟨r, h3, h4⟩ := run_findKey k es.toList ps h2 w
 have hn : (ps.find? fun p => k == p.1) = none := by
  rw [List.find?_eq_none]
  intro p hp
  have := hk p hp
  simpa using fun e => this e.symm
 rw [hn] at h4
 obtain rfl : r = none := by cases r <;> simp_all
 refine ⟨ChangeMaps.setBlock w m (.map (es.push ⟨.int .i64 k, v, clock⟩) (clock + 1)), ?_, ⟨_, _, ChangeMaps.heap_setBlock_same h1 _, ?_⟩, ?_, ?_⟩
 ·unfold Instr.mapUpdate
  simp only [Sem.run_bind, run_underlying Tryz.underlying147, Result.andThen_ok, getObj, Sem.run, h1, check_key, h3]
  simp [setObj, Sem.run, h1, ChangeMaps.setBlock]
 ·simp [h2]
 ·refine ⟨rfl, rfl, rfl, by simp [ChangeMaps.setBlock], fun j hj hne => ?_⟩
  simp only [ChangeMaps.setBlock]
  rw [Array.getElem?_setIfInBounds_ne (fun e => hne e.symm)]
 ·simp [ChangeMaps.setBlock]
theorem wpList_ins {ops : Array Oper} {rest : List Oper} {o : Oper} {a : Act} {w : World} {Q : Exit → Act → World → Prop} (hg : o.guard = none) (x y z : Operand) (ho : o.op = .insert 147 x y z)
  (m : Nat) (ps : List (Int × Value)) (k : Int) (v : Value) (hx : a.eval x = .map (some m)) (hy : a.eval y = .int .i64 k) (hz : a.eval z = v) (h : MapIs w m ps) (hk : ∀ p ∈ ps, p.1 ≠ k)
  (hc : ∀ w', MapIs w' m (ps ++ [(k, v)]) → Grown w w' (fun j => j = m) → w'.heap.size = w.heap.size → wpList Tryz.prog ops Q rest (a.put o.dst undef) w') : wpList Tryz.prog ops Q (o :: rest) a w := by
 refine wpList_plain hg fun K hK => ?_
 obtain ⟨w', h1, h2, h3, h4⟩ := run_insert w m ps k v h hk
 unfold Oper.wp execOp
 simp only [ho, hx, hy, hz, Sem.run_bind, h1, Result.andThen_ok]
 exact hK _ _ (hc w' h2 h3 h4)
theorem run_look (w : World) (m : Nat) (ps : List (Int × Value)) (k : Int) (h : MapIs w m ps) (ok : Bool) :
  (Instr.lookup 147 (.map (some m)) (.int .i64 k) ok).run Tryz.prog w = .ok (if ok = true then .tuple #[((ps.find? fun p => k == p.1).map (·.2)).getD (.slice none 0 0), .bool (ps.find? fun p => k == p.1).isSome] else ((ps.find? fun p => k == p.1).map (·.2)).getD (.slice none 0 0)) w := by
 obtain ⟨es, clock, h1, h2⟩ := h
 obtain ⟨r, h3, h4⟩ := run_findKey k es.toList ps h2 w
 have hz : ∀ w : World, (zeroValue 150).run Tryz.prog w = .ok (.slice none 0 0) w := by intro w; kernel_rfl
 unfold Instr.lookup
 simp only [Sem.run_bind, run_underlying Tryz.underlying147, Result.andThen_ok, getObj, Sem.run, h1, check_key]
 rw [← h4]
 have h5 : (ps.find? fun p => k == p.1).isSome = r.isSome := by
  have := congrArg Option.isSome h4
  simpa using this.symm
 rw [h5]
 cases r with
 | none => rw [Sem.run_pure, Result.andThen_ok, h3]; simp [hz]
 | some q => rw [Sem.run_pure, Result.andThen_ok, h3]; simp

def hasI (k : Int) : List Nat := if k = 1 then [0, 1] else if k = 2 then [0] else if k = 3 then [0, 1] else if k = 4 then [0, 1] else if k = 5 then [0] else if k = 6 then [0, 2] else if k = 7 then [0] else if k = 8 then [0, 1, 3] else if k = 9 then [0, 3] else []
def flatF (is : List Nat) : Array Value := (is.flatMap fun i => (fldA i).toList).toArray
def FieldsAt (w : World) (v : Value) (is : List Nat) : Prop := (v = .slice none 0 0 ∧ is = []) ∨ ∃ g, v = .slice (some ⟨g, 0, none⟩) is.length is.length ∧ Blk w g 182 (flatF is)
theorem FieldsAt.grown {w w' : World} {v : Value} {is : List Nat} {S : Nat → Prop} (h : FieldsAt w v is) (hg : Grown w w' S) (hs : ∀ g, Blk w g 182 (flatF is) → ¬ S g) : FieldsAt w' v is := by
 rcases h with h | ⟨g, h1, h2⟩
 ·exact .inl h
 ·exact .inr ⟨g, h1, hg.blk h2 (hs g h2)⟩
structure TabAt (w : World) (m : Nat) : Prop where
 ex : ∃ V : Int → Value, MapIs w m ([1, 2, 3, 4, 5, 6, 7, 8, 9].map fun k => (k, V k)) ∧ ∀ k ∈ ([1, 2, 3, 4, 5, 6, 7, 8, 9] : List Int), FieldsAt w (V k) (hasI k)
theorem TabAt.lt {w : World} {m : Nat} (h : TabAt w m) : m < w.heap.size := by obtain ⟨V, h1, _⟩ := h.ex; exact h1.lt
theorem TabAt.grown {w w' : World} {m : Nat} {S : Nat → Prop} (h : TabAt w m) (hg : Grown w w' S) (hm : ¬ S m) (hs : ∀ g cs, Blk w g 182 cs → ¬ S g) : TabAt w' m := by
 obtain ⟨V, h1, h2⟩ := h.ex
 exact ⟨V, h1.grown hg hm, fun k hk => (h2 k hk).grown hg fun g hb => hs g _ hb⟩
theorem TabAt.below {w w' : World} {m : Nat} (h : TabAt w m) (hb : Below w.heap.size w w') : TabAt w' m :=
 h.grown (Grown.below (S := fun _ => False) hb) (fun h => h) fun _ _ _ h => h
theorem TabAt.ne {w : World} {m g : Nat} {T : TypeId} {cs : Array Value} (h : TabAt w m) (hg : Blk w g T cs) : m ≠ g := by
 rintro rfl
 obtain ⟨V, ⟨es, clock, h1, _⟩, _⟩ := h.ex
 unfold Blk at hg
 rw [hg] at h1
 cases h1
theorem hasI_none (k : Int) (h : k ∉ ([1, 2, 3, 4, 5, 6, 7, 8, 9] : List Int)) : hasI k = [] := by
 simp only [List.mem_cons, List.not_mem_nil, or_false, not_or] at h
 simp [hasI, h]
theorem hasI_some (k : Int) (h : k ∈ ([1, 2, 3, 4, 5, 6, 7, 8, 9] : List Int)) : hasI k ≠ [] := by
 simp only [List.mem_cons, List.not_mem_nil, or_false] at h
 rcases h with rfl | rfl | rfl | rfl | rfl | rfl | rfl | rfl | rfl <;> simp [hasI]
theorem find_tab (V : Int → Value) (k : Int) : (([1, 2, 3, 4, 5, 6, 7, 8, 9] : List Int).map fun k => (k, V k)).find? (fun p => k == p.1) = if k ∈ ([1, 2, 3, 4, 5, 6, 7, 8, 9] : List Int) then some (k, V k) else none := by
 rw [List.find?_map]
 by_cases h : k ∈ ([1, 2, 3, 4, 5, 6, 7, 8, 9] : List Int)
 ·rw [if_pos h]
  have : (([1, 2, 3, 4, 5, 6, 7, 8, 9] : List Int).find? ((fun p : Int × Value => k == p.1) ∘ fun k => (k, V k))) = some k := by
   simp only [List.mem_cons, List.not_mem_nil, or_false] at h
   rcases h with rfl | rfl | rfl | rfl | rfl | rfl | rfl | rfl | rfl <;> rfl
  rw [this]; rfl
 ·rw [if_neg h]
  have : (([1, 2, 3, 4, 5, 6, 7, 8, 9] : List Int).find? ((fun p : Int × Value => k == p.1) ∘ fun k => (k, V k))) = none := by
   rw [List.find?_eq_none]
   intro x hx hk
   have e : k = x := by simpa using hk
   exact h (e ▸ hx)
  rw [this]; rfl
theorem bs1 (w : World) : (Instr.buildSlice 150 2 #[(0, .agg (fldA 0)), (1, .agg (fldA 1))]).run Tryz.prog w = .ok (.slice (some ⟨w.heap.size, 0, none⟩) 2 2) (w.alloc (.cells (flatF (hasI 1)) 182)) := by kernel_rfl
theorem bs2 (w : World) : (Instr.buildSlice 150 1 #[(0, .agg (fldA 0))]).run Tryz.prog w = .ok (.slice (some ⟨w.heap.size, 0, none⟩) 1 1) (w.alloc (.cells (flatF (hasI 2)) 182)) := by kernel_rfl
theorem bs3 (w : World) : (Instr.buildSlice 150 2 #[(0, .agg (fldA 0)), (1, .agg (fldA 1))]).run Tryz.prog w = .ok (.slice (some ⟨w.heap.size, 0, none⟩) 2 2) (w.alloc (.cells (flatF (hasI 3)) 182)) := by kernel_rfl
theorem bs4 (w : World) : (Instr.buildSlice 150 2 #[(0, .agg (fldA 0)), (1, .agg (fldA 1))]).run Tryz.prog w = .ok (.slice (some ⟨w.heap.size, 0, none⟩) 2 2) (w.alloc (.cells (flatF (hasI 4)) 182)) := by kernel_rfl
theorem bs5 (w : World) : (Instr.buildSlice 150 1 #[(0, .agg (fldA 0))]).run Tryz.prog w = .ok (.slice (some ⟨w.heap.size, 0, none⟩) 1 1) (w.alloc (.cells (flatF (hasI 5)) 182)) := by kernel_rfl
theorem bs6 (w : World) : (Instr.buildSlice 150 2 #[(0, .agg (fldA 0)), (1, .agg (fldA 2))]).run Tryz.prog w = .ok (.slice (some ⟨w.heap.size, 0, none⟩) 2 2) (w.alloc (.cells (flatF (hasI 6)) 182)) := by kernel_rfl
theorem bs7 (w : World) : (Instr.buildSlice 150 1 #[(0, .agg (fldA 0))]).run Tryz.prog w = .ok (.slice (some ⟨w.heap.size, 0, none⟩) 1 1) (w.alloc (.cells (flatF (hasI 7)) 182)) := by kernel_rfl
theorem bs8 (w : World) : (Instr.buildSlice 150 3 #[(0, .agg (fldA 0)), (1, .agg (fldA 1)), (2, .agg (fldA 3))]).run Tryz.prog w = .ok (.slice (some ⟨w.heap.size, 0, none⟩) 3 3) (w.alloc (.cells (flatF (hasI 8)) 182)) := by kernel_rfl
theorem bs9 (w : World) : (Instr.buildSlice 150 2 #[(0, .agg (fldA 0)), (1, .agg (fldA 3))]).run Tryz.prog w = .ok (.slice (some ⟨w.heap.size, 0, none⟩) 2 2) (w.alloc (.cells (flatF (hasI 9)) 182)) := by kernel_rfl

structure TS (w0 : World) (b : Nat) (V : Int → Value) (ks : List Int) (w : World) : Prop where
 fld : ∀ i, i < 4 → Blk w (b + i) 182 (fldA i)
 map : MapIs w (b + 4) (ks.map fun k => (k, V k))
 has : ∀ k ∈ ks, FieldsAt w (V k) (hasI k)
 lo : w0.heap.size ≤ b
 below : Below w0.heap.size w0 w
theorem TS.alloc {w0 : World} {b : Nat} {V : Int → Value} {ks : List Int} {w : World} (h : TS w0 b V ks w) (o : Obj) : TS w0 b V ks (w.alloc o) where
 fld i hi := (h.fld i hi).alloc o
 map := h.map.grown (Grown.alloc w o fun _ => False) (fun h => h)
 has k hk := (h.has k hk).grown (Grown.alloc w o fun _ => False) fun _ _ h => h
 lo := h.lo
 below := h.below.trans (Below.mono (below_new w o) h.below.size)
theorem map_blk {w : World} {m g : Nat} {T : TypeId} {cs : Array Value} {ps : List (Int × Value)} (h : MapIs w m ps) (hg : Blk w g T cs) : g ≠ m := by
 rintro rfl
 obtain ⟨es, clock, h1, _⟩ := h
 unfold Blk at hg
 rw [hg] at h1
 cases h1
theorem TS.put {w0 : World} {b : Nat} {V : Int → Value} {ks : List Int} {w w' : World} (h : TS w0 b V ks w) (k : Int) (v : Value) (hk : k ∉ ks) (hv : FieldsAt w v (hasI k)) (hm : MapIs w' (b + 4) ((ks.map fun k => (k, V k)) ++ [(k, v)])) (hg : Grown w w' fun j => j = b + 4) :
  TS w0 b (fun j => if j = k then v else V j) (ks ++ [k]) w' where
 fld i hi := hg.blk (h.fld i hi) (map_blk h.map (h.fld i hi))
 map := by
  have e : (ks ++ [k]).map (fun j => (j, (if j = k then v else V j))) = (ks.map fun k => (k, V k)) ++ [(k, v)] := by
   simp only [List.map_append, List.map_cons, List.map_nil, if_true]
   congr 1
   apply List.map_congr_left
   intro j hj
   have hjk : j ≠ k := fun e => hk (e ▸ hj)
   rw [if_neg hjk]
  rw [e]; exact hm
 has j hj := by
  rcases List.mem_append.1 hj with hj | hj
  ·have : j ≠ k := fun e => hk (e ▸ hj)
   rw [if_neg this]
   exact (h.has j hj).grown hg fun g hb e => map_blk h.map hb e
  ·simp at hj
   subst hj
   rw [if_pos rfl]
   exact hv.grown hg fun g hb e => map_blk h.map hb e
 lo := h.lo
 below := ⟨hg.os.trans h.below.os, hg.tape.trans h.below.tape, hg.output.trans h.below.output, Nat.le_trans h.below.size hg.size, fun i hi => by
  rw [hg.block i (Nat.lt_of_lt_of_le hi h.below.size) (by have := h.lo; omega)]; exact h.below.block i hi⟩
theorem fields_row (w : World) (k : Int) (n : Nat) (hn : (hasI k).length = n) : FieldsAt (w.alloc (.cells (flatF (hasI k)) 182)) (.slice (some ⟨w.heap.size, 0, none⟩) n n) (hasI k) :=
 .inr ⟨w.heap.size, by rw [hn], Blk.new w 182 _⟩
theorem TS.start {w0 w : World} (b : Nat) (hb : b + 4 = w.heap.size) (hf : ∀ i, i < 4 → Blk w (b + i) 182 (fldA i)) (lo : w0.heap.size ≤ b) (hB : Below w0.heap.size w0 w) : TS w0 b (fun _ => .nilFunc) [] (w.alloc (.map #[] 0)) where
 fld i hi := (hf i hi).alloc _
 map := ⟨#[], 0, by rw [hb]; exact heap_alloc_new w _, rfl⟩
 has k hk := by simp at hk
 lo := lo
 below := hB.trans (Below.mono (below_new w _) hB.size)
theorem TS.fin {w0 : World} {b : Nat} {V : Int → Value} {w : World} (h : TS w0 b V [1, 2, 3, 4, 5, 6, 7, 8, 9] w) : TabAt w (b + 4) := ⟨V, h.map, h.has⟩
theorem Tryz.newmap (w : World) : (Instr.makeMap 147 none).run Tryz.prog w = .ok (.map (some w.heap.size)) (w.alloc (.map #[] 0)) := by kernel_rfl
theorem wpList_mkmap {ops : Array Oper} {rest : List Oper} {o : Oper} {a : Act} {w : World} {Q : Exit → Act → World → Prop} (hg : o.guard = none) (ho : o.op = .makeMap 147 none)
  (h : wpList Tryz.prog ops Q rest (a.put o.dst (.map (some w.heap.size))) (w.alloc (.map #[] 0))) : wpList Tryz.prog ops Q (o :: rest) a w := by
 refine wpList_plain hg fun K hK => ?_
 unfold Oper.wp execOp
 have := Tryz.newmap w
 simp only [ho, Option.map_none, Sem.run_bind, this, Result.andThen_ok]
 exact hK _ _ h
theorem wpList_bs {P : Program} {ops : Array Oper} {rest : List Oper} {o : Oper} {a : Act} {w : World} {Q : Exit → Act → World → Prop} (hg : o.guard = none) (t : TypeId) (n : Nat) (parts : Array (Nat × Operand)) (ho : o.op = .buildSlice t n parts)
  (vs : Array (Nat × Value)) (hv : (parts.map fun (i, x) => (i, a.eval x)) = vs) (v : Value) (w' : World) (hrun : (Instr.buildSlice t n vs).run P w = .ok v w')
  (h : wpList P ops Q rest (a.put o.dst v) w') : wpList P ops Q (o :: rest) a w := by
 refine wpList_plain hg fun K hK => ?_
 unfold Oper.wp execOp
 simp only [ho, hv, Sem.run_bind, hrun, Result.andThen_ok]
 exact hK _ _ h
theorem not_in (V : Int → Value) (ks : List Int) (k : Int) (h : k ∉ ks) : ∀ p ∈ ks.map (fun k => (k, V k)), p.1 ≠ k := by
 intro p hp e
 obtain ⟨j, hj, rfl⟩ := List.mem_map.1 hp
 exact h (e ▸ hj)
theorem four_new (w : World) : (∀ i, i < 4 → Blk ((((w.alloc (.cells noF 182)).alloc (.cells noF 182)).alloc (.cells noF 182)).alloc (.cells noF 182)) (w.heap.size + i) 182 noF) ∧ ((((w.alloc (.cells noF 182)).alloc (.cells noF 182)).alloc (.cells noF 182)).alloc (.cells noF 182)).heap.size = w.heap.size + 4 ∧ Below w.heap.size w ((((w.alloc (.cells noF 182)).alloc (.cells noF 182)).alloc (.cells noF 182)).alloc (.cells noF 182)) := by
 refine ⟨fun i hi => ?_, by simp, (((below_new w _).alloc (by simp) _).alloc (by simp; omega) _).alloc (by simp; omega) _⟩
 have h0 := (((Blk.new w 182 noF).alloc (.cells noF 182)).alloc (.cells noF 182)).alloc (.cells noF 182)
 have h1 := ((Blk.new (w.alloc (.cells noF 182)) 182 noF).alloc (.cells noF 182)).alloc (.cells noF 182)
 have h2 := (Blk.new ((w.alloc (.cells noF 182)).alloc (.cells noF 182)) 182 noF).alloc (.cells noF 182)
 have h3 := Blk.new (((w.alloc (.cells noF 182)).alloc (.cells noF 182)).alloc (.cells noF 182)) 182 noF
 simp only [World.size_alloc] at h1 h2 h3
 match i, hi with
 | 0, _ => exact h0
 | 1, _ => exact h1
 | 2, _ => exact h2
 | 3, _ => exact h3
set_option maxRecDepth 8000 in
set_option maxHeartbeats 2000000 in
theorem tab_any (w : World) : Calls Tryz.prog 79 #[] w fun e w' => ∃ m, e = .returned (.map (some m)) ∧ TabAt w' m ∧ w.heap.size ≤ m ∧ Below w.heap.size w w' := by
 go_enter Tryz.func79, Tryz.ntmps79
 go_wp2_with fail
 refine (fld0_any w).mono ?_
 rintro e w1 ⟨rfl, h1⟩
 have H1 := Keep.mk h1
 clear h1
 go_wp2_with fail
 refine (fld1_any w1).mono ?_
 rintro e w2 ⟨rfl, h2⟩
 have H2 := Keep.mk (H1.out.trans (h2.mono H1.out.size))
 clear h2 H1
 go_wp2_with fail
 refine (fld2_any w2).mono ?_
 rintro e w3 ⟨rfl, h3⟩
 have H3 := Keep.mk (H2.out.trans (h3.mono H2.out.size))
 clear h3 H2
 go_wp2_with fail
 refine (fld3_any w3).mono ?_
 rintro e w4 ⟨rfl, h4⟩
 have H4 := Keep.mk (H3.out.trans (h4.mono H3.out.size))
 clear h4 H3
 clear w1 w2 w3
 go_wp2_with (first | (refine wpList_new rfl 182 rfl _ Tryz.new182 ?_; refine wpList_new rfl 182 rfl _ Tryz.new182 ?_; refine wpList_new rfl 182 rfl _ Tryz.new182 ?_; refine wpList_new rfl 182 rfl _ Tryz.new182 ?_; refine Hid.out ?_))
 refine hid_in ?_
 have HF := Keep.mk (four_new w4)
 have HLo := Keep.mk H4.out.size
 generalize (((w4.alloc (.cells noF 182)).alloc (.cells noF 182)).alloc (.cells noF 182)).alloc (.cells noF 182) = wA at *
 refine wpList_store_row rfl 182 (.tmp 1) (.tmp 5) rfl w4.heap.size (fldA 0) rfl rfl 182 noF (HF.out.1 0 (by omega)) (Tryz.size182B 0) (noF_sizes 0).symm (fldA_one 0) ?_
 refine wpList_store_row rfl 182 (.tmp 2) (.tmp 6) rfl (w4.heap.size + 1) (fldA 1) rfl rfl 182 noF ((HF.out.1 1 (by omega)).setRow_ne (by omega) _) (Tryz.size182B 1) (noF_sizes 1).symm (fldA_one 1) ?_
 refine wpList_store_row rfl 182 (.tmp 3) (.tmp 7) rfl (w4.heap.size + 2) (fldA 2) rfl rfl 182 noF (((HF.out.1 2 (by omega)).setRow_ne (by omega) _).setRow_ne (by omega) _) (Tryz.size182B 2) (noF_sizes 2).symm (fldA_one 2) ?_
 refine wpList_store_row rfl 182 (.tmp 4) (.tmp 8) rfl (w4.heap.size + 3) (fldA 3) rfl rfl 182 noF ((((HF.out.1 3 (by omega)).setRow_ne (by omega) _).setRow_ne (by omega) _).setRow_ne (by omega) _) (Tryz.size182B 3) (noF_sizes 3).symm (fldA_one 3) ?_
 have HG : Keep (∀ i, i < 4 → Blk ((((wA.setRow w4.heap.size (fldA 0)).setRow (w4.heap.size + 1) (fldA 1)).setRow (w4.heap.size + 2) (fldA 2)).setRow (w4.heap.size + 3) (fldA 3)) (w4.heap.size + i) 182 (fldA i)) := ⟨fun i hi => by
  match i, hi with
  | 0, _ => exact ((((HF.out.1 0 (by omega)).setRow _).setRow_ne (by omega) _).setRow_ne (by omega) _).setRow_ne (by omega) _
  | 1, _ => exact ((((HF.out.1 1 (by omega)).setRow_ne (by omega) _).setRow _).setRow_ne (by omega) _).setRow_ne (by omega) _
  | 2, _ => exact ((((HF.out.1 2 (by omega)).setRow_ne (by omega) _).setRow_ne (by omega) _).setRow _).setRow_ne (by omega) _
  | 3, _ => exact ((((HF.out.1 3 (by omega)).setRow_ne (by omega) _).setRow_ne (by omega) _).setRow_ne (by omega) _).setRow _⟩
 have HS : Keep (((((wA.setRow w4.heap.size (fldA 0)).setRow (w4.heap.size + 1) (fldA 1)).setRow (w4.heap.size + 2) (fldA 2)).setRow (w4.heap.size + 3) (fldA 3)).heap.size = w4.heap.size + 4) := ⟨by simp [HF.out.2.1]⟩
 have HB : Keep (Below w.heap.size w ((((wA.setRow w4.heap.size (fldA 0)).setRow (w4.heap.size + 1) (fldA 1)).setRow (w4.heap.size + 2) (fldA 2)).setRow (w4.heap.size + 3) (fldA 3))) :=
  ⟨below_setRow (below_setRow (below_setRow (below_setRow (H4.out.trans (HF.out.2.2.mono HLo.out)) HLo.out _) (by have := HLo.out; omega) _) (by have := HLo.out; omega) _) (by have := HLo.out; omega) _⟩
 generalize (((wA.setRow w4.heap.size (fldA 0)).setRow (w4.heap.size + 1) (fldA 1)).setRow (w4.heap.size + 2) (fldA 2)).setRow (w4.heap.size + 3) (fldA 3) = w5 at *
 obtain ⟨b, hb⟩ : ∃ b, b = w4.heap.size := ⟨_, rfl⟩
 have HT := Keep.mk (TS.start b (by rw [hb]; exact HS.out.symm) (by rw [hb]; exact HG.out) (by rw [hb]; exact HLo.out) HB.out)
 have Hsz : Keep (w5.heap.size = b + 4) := ⟨by rw [hb]; exact HS.out⟩
 rw [← hb]
 clear HG HB HF H4 HLo HS hb wA w4
 go_wp2_with (first | (refine wpList_mkmap rfl rfl ?_; refine Hid.out ?_))
 refine hid_in ?_
 rw [Hsz.out]
 generalize w5.alloc (.map #[] 0) = w6 at *
 clear Hsz w5
 refine wpList_load_row rfl 182 (.tmp 1) rfl b rfl 182 (fldA 0) (0, 0) _ (HT.out.fld 0 (by omega)) Tryz.underlying182 rfl (Tryz.size182B 0) ?_
 refine wpList_load_row rfl 182 (.tmp 2) rfl (b + 1) rfl 182 (fldA 1) (0, 0) _ (HT.out.fld 1 (by omega)) Tryz.underlying182 rfl (Tryz.size182B 1) ?_
 simp only [Act.put, List.setIfInBounds_toArray, List.set_cons_zero, List.set_cons_succ]
 refine wpList_bs rfl 150 2 _ rfl #[(0, .agg (fldA 0)), (1, .agg (fldA 1))] (by simp [Act.eval]) _ _ (bs1 _) ?_
 refine wpList_ins rfl (.tmp 9) _ (.tmp 12) rfl (b + 4) _ 1 _ rfl rfl rfl (HT.out.alloc (.cells (flatF (hasI 1)) 182)).map (not_in _ _ _ (by decide)) ?_
 intro w7 hm hg hs
 have HT1 := Keep.mk ((HT.out.alloc (.cells (flatF (hasI 1)) 182)).put 1 _ (by decide) (fields_row w6 1 2 rfl) hm hg)
 clear hm hg hs HT
 rename Keep (TS _ _ _ _ w7) => HT
 refine wpList_load_row rfl 182 (.tmp 1) rfl b rfl 182 (fldA 0) (0, 0) _ (HT.out.fld 0 (by omega)) Tryz.underlying182 rfl (Tryz.size182B 0) ?_
 simp only [Act.put, List.setIfInBounds_toArray, List.set_cons_zero, List.set_cons_succ]
 refine wpList_bs rfl 150 1 _ rfl #[(0, .agg (fldA 0))] (by simp [Act.eval]) _ _ (bs2 _) ?_
 refine wpList_ins rfl (.tmp 9) _ (.tmp 14) rfl (b + 4) _ 2 _ rfl rfl rfl (HT.out.alloc (.cells (flatF (hasI 2)) 182)).map (not_in _ _ _ (by decide)) ?_
 intro w8 hm hg hs
 have HT2 := Keep.mk ((HT.out.alloc (.cells (flatF (hasI 2)) 182)).put 2 _ (by decide) (fields_row w7 2 1 rfl) hm hg)
 clear hm hg hs HT
 rename Keep (TS _ _ _ _ w8) => HT
 refine wpList_load_row rfl 182 (.tmp 1) rfl b rfl 182 (fldA 0) (0, 0) _ (HT.out.fld 0 (by omega)) Tryz.underlying182 rfl (Tryz.size182B 0) ?_
 refine wpList_load_row rfl 182 (.tmp 2) rfl (b + 1) rfl 182 (fldA 1) (0, 0) _ (HT.out.fld 1 (by omega)) Tryz.underlying182 rfl (Tryz.size182B 1) ?_
 simp only [Act.put, List.setIfInBounds_toArray, List.set_cons_zero, List.set_cons_succ]
 refine wpList_bs rfl 150 2 _ rfl #[(0, .agg (fldA 0)), (1, .agg (fldA 1))] (by simp [Act.eval]) _ _ (bs3 _) ?_
 refine wpList_ins rfl (.tmp 9) _ (.tmp 17) rfl (b + 4) _ 3 _ rfl rfl rfl (HT.out.alloc (.cells (flatF (hasI 3)) 182)).map (not_in _ _ _ (by decide)) ?_
 intro w9 hm hg hs
 have HT3 := Keep.mk ((HT.out.alloc (.cells (flatF (hasI 3)) 182)).put 3 _ (by decide) (fields_row w8 3 2 rfl) hm hg)
 clear hm hg hs HT
 rename Keep (TS _ _ _ _ w9) => HT
 refine wpList_load_row rfl 182 (.tmp 1) rfl b rfl 182 (fldA 0) (0, 0) _ (HT.out.fld 0 (by omega)) Tryz.underlying182 rfl (Tryz.size182B 0) ?_
 refine wpList_load_row rfl 182 (.tmp 2) rfl (b + 1) rfl 182 (fldA 1) (0, 0) _ (HT.out.fld 1 (by omega)) Tryz.underlying182 rfl (Tryz.size182B 1) ?_
 simp only [Act.put, List.setIfInBounds_toArray, List.set_cons_zero, List.set_cons_succ]
 refine wpList_bs rfl 150 2 _ rfl #[(0, .agg (fldA 0)), (1, .agg (fldA 1))] (by simp [Act.eval]) _ _ (bs4 _) ?_
 refine wpList_ins rfl (.tmp 9) _ (.tmp 20) rfl (b + 4) _ 4 _ rfl rfl rfl (HT.out.alloc (.cells (flatF (hasI 4)) 182)).map (not_in _ _ _ (by decide)) ?_
 intro w10 hm hg hs
 have HT4 := Keep.mk ((HT.out.alloc (.cells (flatF (hasI 4)) 182)).put 4 _ (by decide) (fields_row w9 4 2 rfl) hm hg)
 clear hm hg hs HT
 rename Keep (TS _ _ _ _ w10) => HT
 refine wpList_load_row rfl 182 (.tmp 1) rfl b rfl 182 (fldA 0) (0, 0) _ (HT.out.fld 0 (by omega)) Tryz.underlying182 rfl (Tryz.size182B 0) ?_
 simp only [Act.put, List.setIfInBounds_toArray, List.set_cons_zero, List.set_cons_succ]
 refine wpList_bs rfl 150 1 _ rfl #[(0, .agg (fldA 0))] (by simp [Act.eval]) _ _ (bs5 _) ?_
 refine wpList_ins rfl (.tmp 9) _ (.tmp 22) rfl (b + 4) _ 5 _ rfl rfl rfl (HT.out.alloc (.cells (flatF (hasI 5)) 182)).map (not_in _ _ _ (by decide)) ?_
 intro w11 hm hg hs
 have HT5 := Keep.mk ((HT.out.alloc (.cells (flatF (hasI 5)) 182)).put 5 _ (by decide) (fields_row w10 5 1 rfl) hm hg)
 clear hm hg hs HT
 rename Keep (TS _ _ _ _ w11) => HT
 refine wpList_load_row rfl 182 (.tmp 1) rfl b rfl 182 (fldA 0) (0, 0) _ (HT.out.fld 0 (by omega)) Tryz.underlying182 rfl (Tryz.size182B 0) ?_
 refine wpList_load_row rfl 182 (.tmp 3) rfl (b + 2) rfl 182 (fldA 2) (0, 0) _ (HT.out.fld 2 (by omega)) Tryz.underlying182 rfl (Tryz.size182B 2) ?_
 simp only [Act.put, List.setIfInBounds_toArray, List.set_cons_zero, List.set_cons_succ]
 refine wpList_bs rfl 150 2 _ rfl #[(0, .agg (fldA 0)), (1, .agg (fldA 2))] (by simp [Act.eval]) _ _ (bs6 _) ?_
 refine wpList_ins rfl (.tmp 9) _ (.tmp 25) rfl (b + 4) _ 6 _ rfl rfl rfl (HT.out.alloc (.cells (flatF (hasI 6)) 182)).map (not_in _ _ _ (by decide)) ?_
 intro w12 hm hg hs
 have HT6 := Keep.mk ((HT.out.alloc (.cells (flatF (hasI 6)) 182)).put 6 _ (by decide) (fields_row w11 6 2 rfl) hm hg)
 clear hm hg hs HT
 rename Keep (TS _ _ _ _ w12) => HT
 refine wpList_load_row rfl 182 (.tmp 1) rfl b rfl 182 (fldA 0) (0, 0) _ (HT.out.fld 0 (by omega)) Tryz.underlying182 rfl (Tryz.size182B 0) ?_
 simp only [Act.put, List.setIfInBounds_toArray, List.set_cons_zero, List.set_cons_succ]
 refine wpList_bs rfl 150 1 _ rfl #[(0, .agg (fldA 0))] (by simp [Act.eval]) _ _ (bs7 _) ?_
 refine wpList_ins rfl (.tmp 9) _ (.tmp 27) rfl (b + 4) _ 7 _ rfl rfl rfl (HT.out.alloc (.cells (flatF (hasI 7)) 182)).map (not_in _ _ _ (by decide)) ?_
 intro w13 hm hg hs
 have HT7 := Keep.mk ((HT.out.alloc (.cells (flatF (hasI 7)) 182)).put 7 _ (by decide) (fields_row w12 7 1 rfl) hm hg)
 clear hm hg hs HT
 rename Keep (TS _ _ _ _ w13) => HT
 refine wpList_load_row rfl 182 (.tmp 1) rfl b rfl 182 (fldA 0) (0, 0) _ (HT.out.fld 0 (by omega)) Tryz.underlying182 rfl (Tryz.size182B 0) ?_
 refine wpList_load_row rfl 182 (.tmp 2) rfl (b + 1) rfl 182 (fldA 1) (0, 0) _ (HT.out.fld 1 (by omega)) Tryz.underlying182 rfl (Tryz.size182B 1) ?_
 refine wpList_load_row rfl 182 (.tmp 4) rfl (b + 3) rfl 182 (fldA 3) (0, 0) _ (HT.out.fld 3 (by omega)) Tryz.underlying182 rfl (Tryz.size182B 3) ?_
 simp only [Act.put, List.setIfInBounds_toArray, List.set_cons_zero, List.set_cons_succ]
 refine wpList_bs rfl 150 3 _ rfl #[(0, .agg (fldA 0)), (1, .agg (fldA 1)), (2, .agg (fldA 3))] (by simp [Act.eval]) _ _ (bs8 _) ?_
 refine wpList_ins rfl (.tmp 9) _ (.tmp 31) rfl (b + 4) _ 8 _ rfl rfl rfl (HT.out.alloc (.cells (flatF (hasI 8)) 182)).map (not_in _ _ _ (by decide)) ?_
 intro w14 hm hg hs
 have HT8 := Keep.mk ((HT.out.alloc (.cells (flatF (hasI 8)) 182)).put 8 _ (by decide) (fields_row w13 8 3 rfl) hm hg)
 clear hm hg hs HT
 rename Keep (TS _ _ _ _ w14) => HT
 refine wpList_load_row rfl 182 (.tmp 1) rfl b rfl 182 (fldA 0) (0, 0) _ (HT.out.fld 0 (by omega)) Tryz.underlying182 rfl (Tryz.size182B 0) ?_
 refine wpList_load_row rfl 182 (.tmp 4) rfl (b + 3) rfl 182 (fldA 3) (0, 0) _ (HT.out.fld 3 (by omega)) Tryz.underlying182 rfl (Tryz.size182B 3) ?_
 simp only [Act.put, List.setIfInBounds_toArray, List.set_cons_zero, List.set_cons_succ]
 refine wpList_bs rfl 150 2 _ rfl #[(0, .agg (fldA 0)), (1, .agg (fldA 3))] (by simp [Act.eval]) _ _ (bs9 _) ?_
 refine wpList_ins rfl (.tmp 9) _ (.tmp 34) rfl (b + 4) _ 9 _ rfl rfl rfl (HT.out.alloc (.cells (flatF (hasI 9)) 182)).map (not_in _ _ _ (by decide)) ?_
 intro w15 hm hg hs
 have HT9 := Keep.mk ((HT.out.alloc (.cells (flatF (hasI 9)) 182)).put 9 _ (by decide) (fields_row w14 9 2 rfl) hm hg)
 clear hm hg hs HT
 rename Keep (TS _ _ _ _ w15) => HT
 go_wp2
 go_ret
 exact ⟨b + 4, rfl, HT.out.fin, by have := HT.out.lo; omega, HT.out.below⟩
def OpsAt (w : World) (v : Value) (l : List OpV) : Prop :=
 (∃ a c, v = .slice a 0 c ∧ l = []) ∨ ∃ b off cap, v = .slice (some ⟨b, off, none⟩) l.length cap ∧ l.length ≤ cap ∧ ∀ i x, l[i]? = some x → w.rangeAt b (off + i * 37) (opL x)
theorem OpsAt.form {w : World} {v : Value} {l : List OpV} (h : OpsAt w v l) : ∃ a c, v = .slice a l.length c := by
 rcases h with ⟨a, c, rfl, rfl⟩ | ⟨b, off, cap, rfl, _⟩
 ·exact ⟨_, _, rfl⟩
 ·exact ⟨_, _, rfl⟩
theorem range_lt {w : World} {b o : Nat} {cs : List Value} (h : w.rangeAt b o cs) (h0 : 0 < cs.length) : b < w.heap.size := by
 have := h 0 cs[0] (by simp)
 exact cell_lt this
theorem range_grown {w w' : World} {b o : Nat} {cs : List Value} {S : Nat → Prop} (h : w.rangeAt b o cs) (hg : Grown w w' S) (hs : ¬ S b) : w'.rangeAt b o cs := fun j v hv => hg.cell (h j v hv) hs
theorem OpsAt.grown {w w' : World} {v : Value} {l : List OpV} {S : Nat → Prop} (h : OpsAt w v l) (hg : Grown w w' S) (hs : ∀ b, v.ownBlock = some b → b < w.heap.size → ¬ S b) : OpsAt w' v l := by
 rcases h with h | ⟨b, off, cap, rfl, h2, h3⟩
 ·exact .inl h
 ·refine .inr ⟨b, off, cap, rfl, h2, fun i x hx => range_grown (h3 i x hx) hg (hs b rfl ?_)⟩
  exact range_lt (h3 i x hx) (by rw [opL_len]; omega)
theorem OpsAt.below {w w' : World} {v : Value} {l : List OpV} (h : OpsAt w v l) (hb : Below w.heap.size w w') : OpsAt w' v l :=
 h.grown (Grown.below (S := fun _ => False) hb) fun _ _ _ h => h
theorem OpsAt.at {w : World} {a : Option Addr} {n c : Nat} {l : List OpV} (h : OpsAt w (.slice a n c) l) {t : Nat} (ht : t < l.length) :
  ∃ b off, a = some ⟨b, off, none⟩ ∧ w.rangeAt b (off + t * 37) (opL (l.getD t zeroOp)) := by
 rcases h with ⟨_, _, _, rfl⟩ | ⟨b, off, cap, e, h2, h3⟩
 ·simp at ht
 ·injection e with e1 e2 e3
  refine ⟨b, off, e1, h3 t _ ?_⟩
  simp [List.getD_eq_getElem?_getD, ht]
theorem run_eql31L (c e : List Int) (o p : Int) (w : World) : (binOp .eql 86 (.agg (idL c o).toArray) (.agg (idA e p))).run Tryz.prog w = .ok (.bool (nd c e && o == p)) w := run_eql31 c e o p w
theorem run_neqHL (c e : List Int) (w : World) : (binOp .neq 41 (.agg (bytesA 32 (hof c)).toList.toArray) (.agg (bytesA 32 (hof e)))).run Tryz.prog w = .ok (.bool (!nd c e)) w := by rw [Array.toArray_toList]; exact run_neqH c e w
theorem rng_load (x : OpV) : (opL x).toArray = opA x := rfl

def mayAt (l : List OpV) (x : OpV) : Bool :=
 if (nd x.node z32 && x.op == 0) = true then x.kind == 8
 else if nd x.node z32 = false then decide (1 ≤ x.op) && decide (x.op ≤ 1024)
 else if x.op < 1 ∨ (l.length : Int) < x.op then false
 else (l.getD (x.op - 1).toNat zeroOp).kind == 8 && (l.getD (x.op - 1).toNat zeroOp).key == x.key

structure OpOk (x : OpV) : Prop where
 node : x.node.length = 32
 byts : Byts x.node
 k1 : -9223372036854775808 ≤ x.kind
 k2 : x.kind ≤ 9223372036854775807
 n1 : -9223372036854775808 ≤ x.n
 n2 : x.n ≤ 9223372036854775807
 o1 : -9223372036854775808 ≤ x.op
 o2 : x.op ≤ 9223372036854775807
 key : x.key.size ≤ 140737488355328
 text : x.text.size ≤ 140737488355328

set_option maxRecDepth 8000 in
set_option maxHeartbeats 1000000 in
theorem may_any (x : OpV) (v : Value) (l : List OpV) (w : World) (hx : OpOk x) (hl : OpsAt w v l) (hb : l.length ≤ 4398046511104) :
  Calls Tryz.prog 111 #[.agg (opA x), v] w fun e w' => e = .returned (.bool (mayAt l x)) ∧ Below w.heap.size w w' := by
 obtain ⟨va, vc, rfl⟩ := hl.form
 have HL := Keep.mk hl
 have HB := Keep.mk (Blk.new w 88 (opA x))
 have HW := Keep.mk (below_new w (.cells (opA x) 88))
 have HR : Keep ((w.alloc (.cells (opA x) 88)).rangeAt w.heap.size 4 (idL x.node x.op)) := ⟨fun j v hv => by
  rw [HB.out.cell]; unfold opA; rw [List.getElem?_toArray, ← List.getElem?_drop, opL_at]; exact hv⟩
 have HN : Keep ((w.alloc (.cells (opA x) 88)).rangeAt w.heap.size 4 (bytesA 32 (hof x.node)).toList) := ⟨fun j v hv => by
  rw [hl_bytesA, ← idL_node x.node x.op] at hv
  rw [List.getElem?_take] at hv
  split at hv
  ·exact HR.out j v hv
  ·cases hv⟩
 have c0 : (w.alloc (.cells (opA x) 88)).cell? ⟨w.heap.size, 0, none⟩ = some (.int .i64 x.kind) := by rw [HB.out.cell, opA_0]
 have c1 : (w.alloc (.cells (opA x) 88)).cell? ⟨w.heap.size, 1, none⟩ = some (.string x.key) := by rw [HB.out.cell, opA_1]
 have c36 : (w.alloc (.cells (opA x) 88)).cell? ⟨w.heap.size, 36, none⟩ = some (.int .i64 x.op) := by rw [HB.out.cell, opA_36]
 obtain ⟨R, hR⟩ : ∃ R, R = mayAt l x := ⟨_, rfl⟩
 rw [← hR]
 unfold mayAt at hR
 have HM := Keep.mk hR
 clear hR
 have h1 := run_eql31L x.node z32 x.op 0
 have h2 := run_neqHL x.node z32
 have hNs : Keep ((Tryz.prog.info? 41).map (·.size) = some (bytesA 32 (hof x.node)).toList.length) := ⟨by rw [Array.length_toList]; exact Tryz.size41B _⟩
 obtain ⟨E, hE⟩ : ∃ E, E = nd x.node z32 := ⟨_, rfl⟩
 rw [← hE] at h1 h2 HM
 obtain ⟨cN, hN⟩ : ∃ c, Keep (c = (bytesA 32 (hof x.node)).toList) := ⟨_, ⟨rfl⟩⟩
 rw [← hN.out] at h2 HN hNs
 obtain ⟨cI, hI⟩ : ∃ c, Keep (c = idL x.node x.op) := ⟨_, ⟨rfl⟩⟩
 have hIs : Keep ((Tryz.prog.info? 86).map (·.size) = some cI.length) := ⟨by rw [hI.out]; exact Tryz.size86L _ _⟩
 rw [← hI.out] at h1 HR
 obtain ⟨aZ, hZ⟩ : ∃ c, Keep (c = idA z32 0) := ⟨_, ⟨rfl⟩⟩
 have hbZ : Keep (Tryz.prog.built 86 [] = some aZ) := ⟨by rw [hZ.out]; exact Tryz.built86⟩
 rw [← hZ.out] at h1
 obtain ⟨aY, hY⟩ : ∃ c, Keep (c = bytesA 32 (hof z32)) := ⟨_, ⟨rfl⟩⟩
 have hbY : Keep (Tryz.prog.built 41 [] = some aY) := ⟨by rw [hY.out]; exact Tryz.built41⟩
 rw [← hY.out] at h2
 have HX := Keep.mk hx
 have Hlb := Keep.mk hb
 have ho1 := hx.o1
 have ho2 := hx.o2
 obtain ⟨w1, hw1⟩ : ∃ w1, Keep (w.alloc (.cells (opA x) 88) = w1) := ⟨_, ⟨rfl⟩⟩
 rw [hw1.out] at HB HW HR HN c0 c1 c36
 clear hx hl hE hb
 have LD31 := Keep.mk HR.out
 go_enter Tryz.func111, Tryz.ntmps111
 by_cases hA : (E && x.op == 0) = true
 ·have hA2 : E = true ∧ x.op = 0 := by simpa using hA
  rw [if_pos hA] at HM
  rw [hA] at h1
  go_wp2_with (first | (refine wpList_boxA rfl 88 (.tmp 0) rfl (opA x) rfl ?_; rw [hw1.out]) | (refine wpList_load_mid rfl 86 (.tmp 7) rfl w.heap.size 4 rfl cI _ HR.out Tryz.underlying86 rfl hIs.out ?_; refine wpList_bld rfl 86 _ rfl aZ (by simpa using hbZ.out) ?_))
  go_ret
  exact ⟨by rw [HM.out]; rfl, HW.out⟩
 ·rw [if_neg hA] at HM
  rw [show (E && x.op == 0) = false by simpa using hA] at h1
  clear hA
  cases E with
  | false =>
   rw [if_pos rfl] at HM
   by_cases g1 : 1 ≤ x.op
   ·by_cases g2 : x.op ≤ 1024
    ·go_wp2_with (first | (refine wpList_boxA rfl 88 (.tmp 0) rfl (opA x) rfl ?_; rw [hw1.out]) | (refine wpList_load_mid rfl 86 (.tmp 7) rfl w.heap.size 4 rfl cI _ HR.out Tryz.underlying86 rfl hIs.out ?_; refine wpList_bld rfl 86 _ rfl aZ (by simpa using hbZ.out) ?_) | (refine wpList_load_mid rfl 41 (.tmp 18) rfl w.heap.size 4 rfl cN _ HN.out Tryz.underlying41 rfl hNs.out ?_; refine wpList_bld rfl 41 _ rfl aY (by simpa using hbY.out) ?_))
     go_ret
     exact ⟨by rw [HM.out, decide_eq_true g1, decide_eq_true g2]; rfl, HW.out⟩
    ·go_wp2_with (first | (refine wpList_boxA rfl 88 (.tmp 0) rfl (opA x) rfl ?_; rw [hw1.out]) | (refine wpList_load_mid rfl 86 (.tmp 7) rfl w.heap.size 4 rfl cI _ HR.out Tryz.underlying86 rfl hIs.out ?_; refine wpList_bld rfl 86 _ rfl aZ (by simpa using hbZ.out) ?_) | (refine wpList_load_mid rfl 41 (.tmp 18) rfl w.heap.size 4 rfl cN _ HN.out Tryz.underlying41 rfl hNs.out ?_; refine wpList_bld rfl 41 _ rfl aY (by simpa using hbY.out) ?_))
     go_ret
     exact ⟨by rw [HM.out, decide_eq_true g1, decide_eq_false (show ¬ x.op ≤ 1024 by omega)]; rfl, HW.out⟩
   ·go_wp2_with (first | (refine wpList_boxA rfl 88 (.tmp 0) rfl (opA x) rfl ?_; rw [hw1.out]) | (refine wpList_load_mid rfl 86 (.tmp 7) rfl w.heap.size 4 rfl cI _ HR.out Tryz.underlying86 rfl hIs.out ?_; refine wpList_bld rfl 86 _ rfl aZ (by simpa using hbZ.out) ?_) | (refine wpList_load_mid rfl 41 (.tmp 18) rfl w.heap.size 4 rfl cN _ HN.out Tryz.underlying41 rfl hNs.out ?_; refine wpList_bld rfl 41 _ rfl aY (by simpa using hbY.out) ?_))
    go_ret
    exact ⟨by rw [HM.out, decide_eq_false (show ¬ 1 ≤ x.op by omega)]; rfl, HW.out⟩
  | true =>
   rw [if_neg (by simp)] at HM
   by_cases g1 : x.op < 1
   ·rw [if_pos (.inl g1)] at HM
    go_wp2_with (first | (refine wpList_boxA rfl 88 (.tmp 0) rfl (opA x) rfl ?_; rw [hw1.out]) | (refine wpList_load_mid rfl 86 (.tmp 7) rfl w.heap.size 4 rfl cI _ HR.out Tryz.underlying86 rfl hIs.out ?_; refine wpList_bld rfl 86 _ rfl aZ (by simpa using hbZ.out) ?_) | (refine wpList_load_mid rfl 41 (.tmp 18) rfl w.heap.size 4 rfl cN _ HN.out Tryz.underlying41 rfl hNs.out ?_; refine wpList_bld rfl 41 _ rfl aY (by simpa using hbY.out) ?_))
    go_ret
    exact ⟨by rw [HM.out]; rfl, HW.out⟩
   ·by_cases g2 : (l.length : Int) < x.op
    ·rw [if_pos (.inr g2)] at HM
     go_wp2_with (first | (refine wpList_boxA rfl 88 (.tmp 0) rfl (opA x) rfl ?_; rw [hw1.out]) | (refine wpList_load_mid rfl 86 (.tmp 7) rfl w.heap.size 4 rfl cI _ HR.out Tryz.underlying86 rfl hIs.out ?_; refine wpList_bld rfl 86 _ rfl aZ (by simpa using hbZ.out) ?_) | (refine wpList_load_mid rfl 41 (.tmp 18) rfl w.heap.size 4 rfl cN _ HN.out Tryz.underlying41 rfl hNs.out ?_; refine wpList_bld rfl 41 _ rfl aY (by simpa using hbY.out) ?_))
     go_ret
     exact ⟨by rw [HM.out]; rfl, HW.out⟩
    ·rw [if_neg (by simp [g1, g2])] at HM
     obtain ⟨t, ht⟩ : ∃ t : Nat, x.op = (t : Int) + 1 := ⟨(x.op - 1).toNat, by omega⟩
     have htl : t < l.length := by omega
     obtain ⟨b, off, rfl, hrt⟩ := (HL.out.below HW.out).at htl
     rw [ht, show ((t : Int) + 1 - 1).toNat = t by omega] at HM
     have hi : (t : Int) + 1 - 1 = (t : Int) := by omega
     obtain ⟨it, hit⟩ : ∃ it, it = l.getD t zeroOp := ⟨_, rfl⟩
     rw [← hit] at hrt HM
     have HT := Keep.mk hrt
     have HS : Keep (Blk (w1.alloc (.cells (opA zeroOp) 88)) w1.heap.size 88 (opA zeroOp)) := ⟨Blk.new w1 88 _⟩
     have hw2 : w.heap.size < w1.heap.size := HB.out.lt
     have hg2 : (l.length : Int) ≤ 4398046511104 := by have := Hlb.out; omega
     have htn : ((t : Int) + 1 - 1).toNat = t := by omega
     rw [ht] at c36 g1 g2 ho1 ho2
     clear hit hrt
     go_wp2_with (first | (refine wpList_boxA rfl 88 (.tmp 0) rfl (opA x) rfl ?_; rw [hw1.out]) | (refine wpList_load_mid rfl 86 (.tmp 7) rfl w.heap.size 4 rfl cI _ HR.out Tryz.underlying86 rfl hIs.out ?_; refine wpList_bld rfl 86 _ rfl aZ (by simpa using hbZ.out) ?_) | (refine wpList_load_mid rfl 41 (.tmp 18) rfl w.heap.size 4 rfl cN _ HN.out Tryz.underlying41 rfl hNs.out ?_; refine wpList_bld rfl 41 _ rfl aY (by simpa using hbY.out) ?_) | (refine wpList_load_mid rfl 88 (.tmp 39) rfl b (off + t * 37) rfl (opL it) _ HT.out Tryz.underlying88 rfl (Tryz.size88L it) ?_; refine wpList_new rfl 88 rfl _ Tryz.new88 ?_; refine wpList_store_row rfl 88 (.tmp 6) (.tmp 40) rfl w1.heap.size (opA it) rfl rfl 88 (opA zeroOp) HS.out (Tryz.size88B it) (opA_sizes _ _) (opA_one it) ?_; refine Hid.out ?_))
     refine hid_in ?_
     have HI := Keep.mk (HS.out.setRow (opA it))
     have HX2 := Keep.mk ((HB.out.alloc (.cells (opA zeroOp) 88)).setRow_ne (b' := w1.heap.size) (by omega) (opA it))
     have HW2 := Keep.mk (below_setRow (HW.out.alloc HW.out.size (.cells (opA zeroOp) 88)) HW.out.size (opA it) (b := w1.heap.size))
     generalize (w1.alloc (.cells (opA zeroOp) 88)).setRow w1.heap.size (opA it) = w2 at *
     have d0 : w2.cell? ⟨w1.heap.size, 0, none⟩ = some (.int .i64 it.kind) := by rw [HI.out.cell, opA_0]
     have d1 : w2.cell? ⟨w1.heap.size, 1, none⟩ = some (.string it.key) := by rw [HI.out.cell, opA_1]
     have e1 : w2.cell? ⟨w.heap.size, 1, none⟩ = some (.string x.key) := by rw [HX2.out.cell, opA_1]
     clear h1 h2 c0 c1 c36
     by_cases k8 : it.kind = 8
     ·go_wp2
      go_ret
      exact ⟨by rw [HM.out, k8]; simp; exact (beq_toListBytes _ _).symm, HW2.out⟩
     ·go_wp2
      go_ret
      exact ⟨by rw [HM.out, show (it.kind == 8) = false by simpa using k8]; rfl, HW2.out⟩
theorem wp_val {P : Program} {Q : Exit → Act → World → Prop} {o : Oper} {a : Act} {w : World} {K : Act → World → Prop} (v : Value) (hrun : (execOp a.eval o).run P w = .ok (.value v) w) (h : K (a.put o.dst v) w) : o.wp P a w K Q := by
 unfold Oper.wp
 rw [hrun]
 exact h
theorem Tryz.elem24 : Tryz.prog.elem 24 = 5 := by kernel_rfl
theorem Tryz.sizeOf5 (w : World) : (sizeOf 5).run Tryz.prog w = .ok 1 w := by kernel_rfl
theorem yieldsIf_slice {P : Program} {ops : Array Oper} {S : World → Prop} {op : Oper} {a : Act} (hw : Region.wanted op (yielded ops a.tmps) = true) (t : TypeId) (x hi : Operand) (ho : op.op = .slice t x none (some hi) none)
  (vx vh vs : Value) (hx : a.eval x = vx) (hh : a.eval hi = vh) (hr : ∀ w : World, (Instr.sliceAt t vx none (some vh) none).run P w = .ok vs w) : YieldsIf P ops S op vs a :=
 .inl ⟨hw, fun w _ => by
  unfold execOp
  simp only [ho, hx, hh, Option.map_some, Option.map_none, Sem.run_bind, hr w, Result.andThen_ok, Sem.run_pure]⟩
structure IntsAt (w : World) (v : Value) (m : Nat) (K : Nat → Int) : Prop where
 form : (∃ a c, v = .slice a 0 c ∧ m = 0) ∨ ∃ q o cap, v = .slice (some ⟨q, o, none⟩) m cap ∧ ∀ i, i < m → w.cell? ⟨q, o + i, none⟩ = some (.int .i64 (K i))
theorem IntsAt.sl {w : World} {v : Value} {m : Nat} {K : Nat → Int} (h : IntsAt w v m K) : ∃ a c, v = .slice a m c := by
 rcases h.form with ⟨a, c, rfl, rfl⟩ | ⟨q, o, cap, rfl, _⟩
 ·exact ⟨_, _, rfl⟩
 ·exact ⟨_, _, rfl⟩
theorem IntsAt.at {w : World} {a : Option Addr} {m c : Nat} {K : Nat → Int} (h : IntsAt w (.slice a m c) m K) {t : Nat} (ht : t < m) : ∃ q o, a = some ⟨q, o, none⟩ ∧ w.cell? ⟨q, o + t, none⟩ = some (.int .i64 (K t)) := by
 rcases h.form with ⟨_, _, _, h2⟩ | ⟨q, o, cap, h1, h2⟩
 ·omega
 ·injection h1 with h1 h3 h4
  exact ⟨q, o, h1, h2 t ht⟩

end Go.Proofs.YtdeiicldfgkidaaGreat
