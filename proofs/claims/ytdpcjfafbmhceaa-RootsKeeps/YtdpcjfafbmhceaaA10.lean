import Derived.Test.YtdpcjfafbmhceaaA09
import Derived.Test.YtdpcjfafbmhceaaA06
import Derived.Test.YtdpcjfafbmhceaaA08
import Derived.Deep.RegionHeld3
import Derived.Laws.EntriesVeiled
set_option maxRecDepth 8000
set_option maxHeartbeats 2000000
namespace Go.Proofs.Ytdpcjfafbmhceaa
open Go.RowKit
set_option linter.unusedSimpArgs false
set_option linter.unusedVariables false
theorem Qw (w : World) (vs : Array Value) : (callFunc 18 vs).run Try.prog w = .ok (.enter 18 vs) w := by kernel_rfl
def jr (c d : CV) : Bool := decide (c.k = d.k) && (decide (c.s = d.s) && decide (strOfNums c.l = strOfNums d.l))
theorem yv {a b : ByteArray} (h : a.toList = b.toList) : a = b := by
 rw [ByteArray.toList_eq, ByteArray.toList_eq] at h
 rcases a with ⟨⟨a⟩⟩; rcases b with ⟨⟨b⟩⟩
 simp at h
 rw [h]
theorem UR (a b : ByteArray) : (a.toList == b.toList) = decide (a = b) := by
 rw [Bool.eq_iff_iff]
 simp
 exact ⟨yv, fun h => by rw [h]⟩
def cvA (c : CV) : Array Value := #[.int .i64 c.k, .string c.s, c.v]
theorem Gn (k j : Int) (s t : ByteArray) (va ua : Option Addr) (vn vc un uc : Nat) (l m : List Int) (w : World) (hx : RowAt w (.slice va vn vc) l) (hy : RowAt w (.slice ua un uc) m) (hk : ¬ k = j) :
  Calls Try.prog 18 #[.agg #[.int .i64 k, .string s, .slice va vn vc], .agg #[.int .i64 j, .string t, .slice ua un uc]] w fun e w' => e = .returned (.bool (jr ⟨k, s, .slice va vn vc, l⟩ ⟨j, t, .slice ua un uc, m⟩)) ∧ Below w.heap.size w w' := by
 have HX := kk hx
 have HY := kk hy
 clear hx hy
 have hkb : (k == j) = false := by simpa using hk
 skip
 skip
 skip
 skip
 go_enter Try.func18, Try.ntmps18
 refine wp_seq_k fun K1 hK1 => rgn (xM 44 (.tmp 0) #[.int .i64 k, .string s, .slice va vn vc] fun c w1 hc0 C1 b1 => ?_)
 refine xM 44 (.tmp 1) #[.int .i64 j, .string t, .slice ua un uc] fun d w2 hd0 D2 b2 => ?_
 have C2 := kbx C1 b2.o
 have B2 := tb b1 b2.o
 have q1 := jo _ _ w2 (HX.o.below B2.o)
 have q2 := jo _ _ w2 (HY.o.below B2.o)
 have c0 := C2.o.c 0 (by rfl : (#[.int .i64 k, .string s, .slice va vn vc] : Array Value)[0]? = some (.int .i64 k))
 have c1 := C2.o.c 1 (by rfl : (#[.int .i64 k, .string s, .slice va vn vc] : Array Value)[1]? = some (.string s))
 have c2 := C2.o.c 2 (by rfl : (#[.int .i64 k, .string s, .slice va vn vc] : Array Value)[2]? = some (.slice va vn vc))
 have d0 := D2.o.c 0 (by rfl : (#[.int .i64 j, .string t, .slice ua un uc] : Array Value)[0]? = some (.int .i64 j))
 have d1 := D2.o.c 1 (by rfl : (#[.int .i64 j, .string t, .slice ua un uc] : Array Value)[1]? = some (.string t))
 have d2 := D2.o.c 2 (by rfl : (#[.int .i64 j, .string t, .slice ua un uc] : Array Value)[2]? = some (.slice ua un uc))
 refine Vf (h:=WL.nil (hK1 _ _ (wp_seq_k fun K2 hK2 => rgn (Vv (.pointer (some ⟨c, 0, none⟩)) (h:=Vv (.int .i64 k) (h:=Vv (.pointer (some ⟨d, 0, none⟩)) (h:=Vv (.int .i64 j) (h:=Vf (h:=Vf (h:=Vs (h:=Vs (h:=Vs (h:=Vs (h:=Vs (h:=Vf (h:=?_))))))))))))))))
 refine Vf (h:=Vs (h:=Vs (h:=Vs (h:=Vs (h:=Vs (h:=Vs (h:=Vs (h:=Vf (h:=Vf (h:=WL.nil (hK2 _ _ (wp_ret ?_))))))))))))
 go_ret
 refine ⟨?_, B2.o⟩
 simp [jr, hk]
theorem Gm (k j : Int) (s t : ByteArray) (va ua : Option Addr) (vn vc un uc : Nat) (l m : List Int) (w : World) (hx : RowAt w (.slice va vn vc) l) (hy : RowAt w (.slice ua un uc) m) (hk : k = j) (hs : ¬ s = t) :
  Calls Try.prog 18 #[.agg #[.int .i64 k, .string s, .slice va vn vc], .agg #[.int .i64 j, .string t, .slice ua un uc]] w fun e w' => e = .returned (.bool (jr ⟨k, s, .slice va vn vc, l⟩ ⟨j, t, .slice ua un uc, m⟩)) ∧ Below w.heap.size w w' := by
 have HX := kk hx
 have HY := kk hy
 clear hx hy
 have hkb : (k == j) = true := by simpa using hk
 skip
 have hsl : ¬ s.toList = t.toList := fun e => hs (yv e)
 obtain rfl := hk
 skip
 go_enter Try.func18, Try.ntmps18
 refine wp_seq_k fun K1 hK1 => rgn (xM 44 (.tmp 0) #[.int .i64 k, .string s, .slice va vn vc] fun c w1 hc0 C1 b1 => ?_)
 refine xM 44 (.tmp 1) #[.int .i64 k, .string t, .slice ua un uc] fun d w2 hd0 D2 b2 => ?_
 have C2 := kbx C1 b2.o
 have B2 := tb b1 b2.o
 have q1 := jo _ _ w2 (HX.o.below B2.o)
 have q2 := jo _ _ w2 (HY.o.below B2.o)
 have c0 := C2.o.c 0 (by rfl : (#[.int .i64 k, .string s, .slice va vn vc] : Array Value)[0]? = some (.int .i64 k))
 have c1 := C2.o.c 1 (by rfl : (#[.int .i64 k, .string s, .slice va vn vc] : Array Value)[1]? = some (.string s))
 have c2 := C2.o.c 2 (by rfl : (#[.int .i64 k, .string s, .slice va vn vc] : Array Value)[2]? = some (.slice va vn vc))
 have d0 := D2.o.c 0 (by rfl : (#[.int .i64 k, .string t, .slice ua un uc] : Array Value)[0]? = some (.int .i64 k))
 have d1 := D2.o.c 1 (by rfl : (#[.int .i64 k, .string t, .slice ua un uc] : Array Value)[1]? = some (.string t))
 have d2 := D2.o.c 2 (by rfl : (#[.int .i64 k, .string t, .slice ua un uc] : Array Value)[2]? = some (.slice ua un uc))
 refine Vf (h:=WL.nil (hK1 _ _ (wp_seq_k fun K2 hK2 => rgn (Vv (.pointer (some ⟨c, 0, none⟩)) (h:=Vv (.int .i64 k) (h:=Vv (.pointer (some ⟨d, 0, none⟩)) (h:=Vv (.int .i64 k) (h:=Vt (h:=Vt (h:=Vv (.pointer (some ⟨c, 1, none⟩)) (h:=Vv (.string s) (h:=Vv (.pointer (some ⟨d, 1, none⟩)) (h:=Vv (.string t) (h:=Vf (h:=Vf (h:=?_))))))))))))))))
 refine Vf (h:=Vs (h:=Vs (h:=Vs (h:=Vs (h:=Vs (h:=Vs (h:=Vs (h:=Vf (h:=Vf (h:=WL.nil (hK2 _ _ (wp_ret ?_))))))))))))
 go_ret
 refine ⟨?_, B2.o⟩
 simp [jr, hs]
theorem Gl (k j : Int) (s t : ByteArray) (va ua : Option Addr) (vn vc un uc : Nat) (l m : List Int) (w : World) (hx : RowAt w (.slice va vn vc) l) (hy : RowAt w (.slice ua un uc) m) (hk : k = j) (hs : s = t) :
  Calls Try.prog 18 #[.agg #[.int .i64 k, .string s, .slice va vn vc], .agg #[.int .i64 j, .string t, .slice ua un uc]] w fun e w' => e = .returned (.bool (jr ⟨k, s, .slice va vn vc, l⟩ ⟨j, t, .slice ua un uc, m⟩)) ∧ Below w.heap.size w w' := by
 have HX := kk hx
 have HY := kk hy
 clear hx hy
 have hkb : (k == j) = true := by simpa using hk
 skip
 skip
 obtain rfl := hk
 obtain rfl := hs
 go_enter Try.func18, Try.ntmps18
 refine wp_seq_k fun K1 hK1 => rgn (xM 44 (.tmp 0) #[.int .i64 k, .string s, .slice va vn vc] fun c w1 hc0 C1 b1 => ?_)
 refine xM 44 (.tmp 1) #[.int .i64 k, .string s, .slice ua un uc] fun d w2 hd0 D2 b2 => ?_
 have C2 := kbx C1 b2.o
 have B2 := tb b1 b2.o
 have q1 := jo _ _ w2 (HX.o.below B2.o)
 have q2 := jo _ _ w2 (HY.o.below B2.o)
 have c0 := C2.o.c 0 (by rfl : (#[.int .i64 k, .string s, .slice va vn vc] : Array Value)[0]? = some (.int .i64 k))
 have c1 := C2.o.c 1 (by rfl : (#[.int .i64 k, .string s, .slice va vn vc] : Array Value)[1]? = some (.string s))
 have c2 := C2.o.c 2 (by rfl : (#[.int .i64 k, .string s, .slice va vn vc] : Array Value)[2]? = some (.slice va vn vc))
 have d0 := D2.o.c 0 (by rfl : (#[.int .i64 k, .string s, .slice ua un uc] : Array Value)[0]? = some (.int .i64 k))
 have d1 := D2.o.c 1 (by rfl : (#[.int .i64 k, .string s, .slice ua un uc] : Array Value)[1]? = some (.string s))
 have d2 := D2.o.c 2 (by rfl : (#[.int .i64 k, .string s, .slice ua un uc] : Array Value)[2]? = some (.slice ua un uc))
 refine Vf (h:=WL.nil (hK1 _ _ (wp_seq_k fun K2 hK2 => rgn (Vv (.pointer (some ⟨c, 0, none⟩)) (h:=Vv (.int .i64 k) (h:=Vv (.pointer (some ⟨d, 0, none⟩)) (h:=Vv (.int .i64 k) (h:=Vt (h:=Vt (h:=Vv (.pointer (some ⟨c, 1, none⟩)) (h:=Vv (.string s) (h:=Vv (.pointer (some ⟨d, 1, none⟩)) (h:=Vv (.string s) (h:=Vt (h:=Vt (h:=?_))))))))))))))))
 refine Vt (h:=Vv (.pointer (some ⟨c, 2, none⟩)) (h:=Vv (.slice va vn vc) (h:=Vv (.string (strOfNums l)) (h:=Vv (.pointer (some ⟨d, 2, none⟩)) (h:=Vv (.slice ua un uc) (h:=Vv (.string (strOfNums m)) (h:=Vv (.bool ((strOfNums l).toList == (strOfNums m).toList)) (h:=Vv (.bool ((strOfNums l).toList == (strOfNums m).toList)) (h:=Vv (.bool ((strOfNums l).toList == (strOfNums m).toList)) (h:=WL.nil (hK2 _ _ (wp_ret ?_))))))))))))
 go_ret
 refine ⟨?_, B2.o⟩
 simp only [jr, decide_true, Bool.true_and]
 rw [UR]
 rfl
theorem xQ (c d : CV) (w : World) (hx : RowAt w c.v c.l) (hy : RowAt w d.v d.l) :
  Calls Try.prog 18 #[.agg (cvA c), .agg (cvA d)] w fun e w' => e = .returned (.bool (jr c d)) ∧ Below w.heap.size w w' := by
 obtain ⟨k, s, v, l⟩ := c
 obtain ⟨j, t, u, m⟩ := d
 obtain ⟨va, vc, hv⟩ := qR hx
 obtain ⟨ua, uc, hu⟩ := qR hy
 simp only at hv hu hx hy
 subst hv hu
 by_cases hk : k = j
 ·by_cases hs : s = t
  ·exact Gl k j s t va ua _ vc _ uc l m w hx hy hk hs
  ·exact Gm k j s t va ua _ vc _ uc l m w hx hy hk hs
 ·exact Gn k j s t va ua _ vc _ uc l m w hx hy hk
theorem Qy (w : World) (vs : Array Value) : (callFunc 11 vs).run Try.prog w = .ok (.enter 11 vs) w := by kernel_rfl
theorem Qu (w : World) (vs : Array Value) : (callFunc 34 vs).run Try.prog w = .ok (.enter 34 vs) w := by kernel_rfl
theorem vQ {c d : CV} (h1 : c.k = d.k) (h2 : c.s = d.s) (h3 : c.l = d.l) : jr c d = true := by
 unfold jr
 simp [h1, h2, h3]
theorem OwAt.last {B : Nat} {L : List CV} {w : World} {g n cap : Nat} {OW : List CV} (h : OwAt B L w (.slice (some ⟨g, 0, none⟩) n cap) OW) (hn : OW.length = n) : n + 1 ≤ cap ∧ w.cell? ⟨g, n * 3, none⟩ = some (.int .i64 (-5)) ∧ w.cell? ⟨g, n * 3 + 1, none⟩ = some (.string ⟨#[109, 97, 114, 107]⟩) := by
 obtain ⟨g0, cap0, e, ho⟩ := h.own
 injection e with e1 e2 e3
 injection e1 with e1
 injection e1 with e1
 subst e1 e3 hn
 rcases ho.2 with ⟨h1, _⟩ | ⟨g', cap', cur, h1, _, h3, h4, h5, h6, h7⟩
 ·cases h1
 ·cases h1
  have get : ∀ (j : Nat) (u : Value), j < 3 → mkC[j]? = some u → w.cell? ⟨g, OW.length * 3 + j, none⟩ = some u := fun j u hj hu => by
   have e2 : (cur.toList.take ((OW.length + 1) * 3))[OW.length * 3 + j]? = some u := by
    rw [h7, List.getElem?_append_right (by rw [jU]; omega), jU, Nat.add_sub_cancel_left]
    exact hu
   rw [List.getElem?_take, if_pos (by omega), Array.getElem?_toList] at e2
   exact (show Blk w g 44 cur from h3).c _ e2
  exact ⟨h4, get 0 _ (by omega) rfl, get 1 _ (by omega) rfl⟩
theorem Jw (B : Nat) (vo v : Value) (L OW : List CV) (w : World) (hO : OwAt B L w vo OW) (hC : CsV w.heap.size w v L) (hF : yY L = true) : Calls Try.prog 11 #[vo, v] w fun e w' => e = .returned (.bool true) ∧ Below w.heap.size w w' := by
 obtain ⟨n, hn⟩ : ∃ z, Keep (L.length = z) := ⟨_, ⟨rfl⟩⟩
 have hm : Keep (OW.length = n) := ⟨by rw [hO.len, hn.o]⟩
 obtain ⟨g, gc, hgv, _⟩ := hO.own
 rw [hm.o] at hgv
 subst hgv
 obtain ⟨la, cap, rfl, hC'⟩ : ∃ la cap, v = .slice la n cap ∧ (0 < n → ∃ b off, la = some ⟨b, off, none⟩ ∧ CsAt w.heap.size w b off L) := by
  rcases hC with ⟨a, c, rfl, rfl⟩ | ⟨b, off, cap, rfl, h2, h3⟩
  ·exact ⟨a, c, by rw [← hn.o]; rfl, fun h => by rw [← hn.o] at h; simp at h⟩
  ·exact ⟨_, cap, by rw [hn.o], fun _ => ⟨b, off, rfl, h3⟩⟩
 have HOC : Keep (CsAt w.heap.size w g 0 OW) := ⟨by
  rcases hO.csv with ⟨a, c, e, h0⟩ | ⟨b, off, cap, e, h2, h3⟩
  ·obtain ⟨g', cap', e2, ho⟩ := hO.own
   rw [e] at e2
   injection e2 with e3 e4
   rw [h0] at hm
   have h5 := hm.o
   simp at h5
   subst h5
   exact ⟨by
    rcases ho.2 with ⟨h1, _⟩ | ⟨g1, cap1, cur, h1, _, h3, _⟩
    ·cases h1
    ·injection e with e1 _ _
     subst e1
     cases e3
     cases h1
     exact (show Typ w g 44 from ⟨cur, _, h3⟩).lt, fun i c h => by rw [h0] at h; simp at h, fun c h => by rw [h0] at h; simp at h⟩
  ·injection e with e1 e2 e3
   injection e1 with e1
   injection e1 with e1 e4
   subst e1
   rw [← e4] at h3
   exact h3⟩
 have HO := kk hO
 have HC := kk hC'
 have HF : Keep (∀ c ∈ L, c.l.length ≤ 134217728) := ⟨fun c hc => by obtain ⟨i, hi⟩ := List.getElem?_of_mem hc; exact yI hF hi⟩
 have HN : Keep (n ≤ 2097152) := ⟨by rw [← hn.o]; exact xV hF⟩
 clear hC hC' hF hO
 go_enter Try.func11, Try.ntmps11
 refine wp_seq_k fun K1 hK1 => rgn (Vf (h:=WL.nil (hK1 _ _ (wp_seq_k fun K2 hK2 => wp_seq_k fun K3 hK3 => rgn (Vv (.slice (some ⟨g, 0, none⟩) n gc) (h:=Vv (.int .i64 (n : Int)) (h:=Vv (.slice la n cap) (h:=Vv (.int .i64 (n : Int)) (h:=Vf (h:=WL.nil (hK3 _ _ (Cf (h:=wp_skip (hK2 _ _ (wp_seq_k fun K4 hK4 => wp_seq_k fun K5 hK5 => rgn (?_))))))))))))))))
 refine Vv (.int .i64 0) (h:=WL.nil (hK5 _ _ (wp_block (?_))))
 refine wp_loop (fun ac wr => ∃ (t : Nat) (u4 u12 u13 u14 u15 u16 u17 u18 u19 u20 u21 u22 u23 u24 u25 u26 u27 u28 u29 u30 u31 u32 u33 u34 u35 u36 u37 u38 u39 u40 u41 : Value), ac = { tmps := #[.slice (some ⟨g, 0, none⟩) n gc, .slice la n cap, undef, undef, u4, .int .i64 (t : Int), undef, .slice (some ⟨g, 0, none⟩) n gc, .int .i64 (n : Int), .slice la n cap, .int .i64 (n : Int), .bool false, u12, u13, u14, u15, u16, u17, u18, u19, u20, u21, u22, u23, u24, u25, u26, u27, u28, u29, u30, u31, u32, u33, u34, u35, u36, u37, u38, u39, u40, u41, undef, undef, undef, undef, undef, undef, undef, undef, undef, undef, undef, undef, undef, undef, undef, undef, undef, undef, undef, undef, undef], defers := [] } ∧ t ≤ n ∧ Below w.heap.size w wr) (fun a _ => n - (intOf (a.tmps.getD 5 undef)).toNat) ⟨0, .bool false, undef, undef, undef, undef, undef, undef, undef, undef, undef, undef, undef, undef, undef, undef, undef, undef, undef, undef, undef, undef, undef, undef, undef, undef, undef, undef, undef, undef, undef, undef, rfl, Nat.zero_le _, Below.refl _ _⟩ ?_
 rintro ac wr ⟨t, u4, u12, u13, u14, u15, u16, u17, u18, u19, u20, u21, u22, u23, u24, u25, u26, u27, u28, u29, u30, u31, u32, u33, u34, u35, u36, u37, u38, u39, u40, u41, rfl, ht, hb⟩
 have JB := kk hb
 clear hb
 by_cases htl : t < n
 ·have htl' : (t : Int) < (n : Int) := by omega
  obtain ⟨b, off, hla, hcx⟩ := HC.o (by omega)
  subst hla
  have HX := kk hcx
  clear hcx
  obtain ⟨c, Hc⟩ : ∃ z, Keep (OW[t]? = some z) := ⟨OW[t]'(by rw [hm.o]; exact htl), ⟨List.getElem?_eq_getElem _⟩⟩
  obtain ⟨d, hd0, hd1, hd2, hd3⟩ := HO.o.each t c Hc.o
  have Hd := kk hd0
  have HE := kk (vQ hd1 hd2 hd3)
  have HE3 := kk hd3
  clear hd0 hd1 hd2 hd3
  obtain ⟨ra, rc, hrv⟩ := qR (HX.o.row d (List.mem_of_getElem? Hd.o)).1
  obtain ⟨qa, qc, hqv⟩ := qR (HO.o.wid c (List.mem_of_getElem? Hc.o)).1.row
  have HSz : Keep (c.l.length ≤ 134217728) := ⟨by rw [HE3.o]; exact HF.o d (List.mem_of_getElem? Hd.o)⟩
  have hw3 : IntKind.i64.wrap ((t : Int) + 1) = ((t + 1 : Nat) : Int) := by rw [IntKind.wrap_i64]; have := HN.o; omega
  refine wp_seq_k fun K6 hK6 => wp_seq_k fun K7 hK7 => rgn (Vv (.int .i64 (t : Int)) (h:=Vv (.slice (some ⟨b, off, none⟩) n cap) (h:=Vv (.int .i64 (n : Int)) (h:=Vt (h:=WL.nil (hK7 _ _ (Ct (h:=wp_skip (hK6 _ _ (wp_seq_k fun K8 hK8 => wp_block (wp_seq_k fun K9 hK9 => ?_)))))))))))
  have hS0 : Keep (∀ wx : World, Below w.heap.size w wx → (fun wx => wx.rangeAt g (t * 3) (cvA c).toList ∧ wx.rangeAt b (off + t * 3) (cvA d).toList) wx) := ⟨fun wx hg => ⟨by
   have h := (HOC.o.below hg).at_ t c Hc.o
   rw [Nat.zero_add] at h
   exact h, (HX.o.below hg).at_ t d Hd.o⟩⟩
  have HR : Keep (∀ wx : World, Below w.heap.size w wx → RowAt wx d.v d.l) := ⟨fun wx hg => ((HX.o.below hg).row d (List.mem_of_getElem? Hd.o)).1⟩
  have HWi : Keep (∀ wx : World, Below w.heap.size w wx → WideAt wx c.v c.l) := ⟨fun wx hg => (HO.o.wid c (List.mem_of_getElem? Hc.o)).1.grown (gF hg) fun _ _ e => e⟩
  have HW : Keep (∀ wx : World, Below w.heap.size w wx → RowAt wx c.v c.l) := ⟨fun wx hg => (HWi.o wx hg).row⟩
  refine wp_region_held_drew (S := fun wx => wx.rangeAt g (t * 3) (cvA c).toList ∧ wx.rangeAt b (off + t * 3) (cvA d).toList) (by kernel_rfl) (hS0.o _ JB.o.drew) (fun hHeld => ?_)
  have BD : Keep (Below w.heap.size w wr.drew) := ⟨JB.o.drew⟩
  generalize wr.drew = wd at *
  refine uL 0 ⟨some 18, .move (.tmp 0), 22, _, _, none⟩ (.slice (some ⟨g, 0, none⟩) n gc) rfl hHeld ?_
  refine uL 1 ⟨some 19, .move (.tmp 5), 3, _, _, none⟩ (.int .i64 (t : Int)) rfl hHeld ?_
  refine uL 4 ⟨some 22, .move (.tmp 1), 22, _, _, none⟩ (.slice (some ⟨b, off, none⟩) n cap) rfl hHeld ?_
  refine uL 5 ⟨some 23, .move (.tmp 5), 3, _, _, none⟩ (.int .i64 (t : Int)) rfl hHeld ?_
  refine uL 2 ⟨some 20, .indexAddr 22 (.tmp 18) (.tmp 19), 0, _, _, none⟩ (.pointer (some ⟨g, t * 3, none⟩)) rfl hHeld ?_
  refine uL 6 ⟨some 24, .indexAddr 22 (.tmp 22) (.tmp 23), 0, _, _, none⟩ (.pointer (some ⟨b, off + t * 3, none⟩)) rfl hHeld ?_
  refine uS 3 ⟨some 21, .load 44 (.tmp 20), 44, _, _, none⟩ (.agg (cvA c)) rfl (qv (by rfl) (.tmp 20) 44 rfl g (t * 3) rfl (cvA c) _ Try.underlying44 rfl (qw _ _ _) fun w hS => hS.1) hHeld ?_
  refine uS 7 ⟨some 25, .load 44 (.tmp 24), 44, _, _, none⟩ (.agg (cvA d)) rfl (qv (by rfl) (.tmp 24) 44 rfl b (off + t * 3) rfl (cvA d) _ Try.underlying44 rfl (qw _ _ _) fun w hS => hS.2) hHeld ?_
  refine rd1 8 ⟨some 26, .call { callee := .value (.func 18), args := #[.tmp 21, .tmp 25], argTypes := #[44, 44] }, 4, _, _, none⟩ rfl fun K hK => ?_
  refine qz 18 _ _ rfl Qw #[.agg (cvA c), .agg (cvA d)] (by simp [Act.eval]) (fun vz wz => vz = .bool true ∧ Below wd.heap.size wd wz) ?_ ?_
  ·refine (xQ c d wd (HW.o wd BD.o) (HR.o wd BD.o)).mono ?_
   rintro e wz ⟨rfl, hb⟩
   exact ⟨_, rfl, by rw [HE.o], hb⟩
  rintro vz wa ⟨rfl, hb⟩
  have BA := tb BD hb
  clear hb
  refine hK _ _ (hS0.o _ BA.o) fun hHa => kNx ?_
  clear hK
  refine uL 9 ⟨some 27, .unOp UnOp.not 4 (.tmp 26), 4, _, _, none⟩ (.bool false) rfl hHa ?_
  refine uL 10 ⟨some 28, .move (.tmp 27), 4, _, _, none⟩ (.bool false) rfl hHa ?_
  refine uL 11 ⟨some 29, .move (.tmp 0), 22, _, _, some (10, false)⟩ (.slice (some ⟨g, 0, none⟩) n gc) rfl hHa ?_
  refine uL 12 ⟨some 30, .move (.tmp 5), 3, _, _, some (10, false)⟩ (.int .i64 (t : Int)) rfl hHa ?_
  refine uL 16 ⟨some 34, .move (.tmp 1), 22, _, _, some (10, false)⟩ (.slice (some ⟨b, off, none⟩) n cap) rfl hHa ?_
  refine uL 17 ⟨some 35, .move (.tmp 5), 3, _, _, some (10, false)⟩ (.int .i64 (t : Int)) rfl hHa ?_
  refine uL 13 ⟨some 31, .indexAddr 22 (.tmp 29) (.tmp 30), 0, _, _, some (10, false)⟩ (.pointer (some ⟨g, t * 3, none⟩)) rfl hHa ?_
  refine uL 14 ⟨some 32, .fieldAddr 44 (.tmp 31) 2, 0, _, _, some (10, false)⟩ (.pointer (some ⟨g, t * 3 + 2, none⟩)) rfl hHa ?_
  refine uS 15 ⟨some 33, .load 42 (.tmp 32), 42, _, _, some (10, false)⟩ c.v rfl (yi fun w hS => by have cA : w.cell? ⟨g, t * 3 + 2, none⟩ = some c.v := hS.1 2 _ rfl; clear hS; go_simp) hHa ?_
  refine uL 18 ⟨some 36, .indexAddr 22 (.tmp 34) (.tmp 35), 0, _, _, some (10, false)⟩ (.pointer (some ⟨b, off + t * 3, none⟩)) rfl hHa ?_
  refine uL 19 ⟨some 37, .fieldAddr 44 (.tmp 36) 2, 0, _, _, some (10, false)⟩ (.pointer (some ⟨b, off + t * 3 + 2, none⟩)) rfl hHa ?_
  refine uS 20 ⟨some 38, .load 42 (.tmp 37), 42, _, _, some (10, false)⟩ d.v rfl (yi fun w hS => by have cA : w.cell? ⟨b, off + t * 3 + 2, none⟩ = some d.v := hS.2 2 _ rfl; clear hS; go_simp) hHa ?_
  refine rd1 21 ⟨some 39, .call { callee := .value (.func 34), args := #[.tmp 33, .tmp 38], argTypes := #[42, 42] }, 4, _, _, some (10, false)⟩ rfl fun K hK => ?_
  refine qz 34 _ _ rfl Qu #[c.v, d.v] (by simp [Act.eval]) (fun vz wz => vz = .bool true ∧ wz = wa) ?_ ?_
  ·refine (KV c.v d.v c.l wa (HWi.o wa BA.o) (by rw [HE3.o]; exact HR.o wa BA.o) (by have := HSz.o; omega)).mono ?_
   rintro e wz ⟨rfl, hb⟩
   exact ⟨_, rfl, rfl, hb⟩
  rintro vz wb ⟨rfl, hb⟩
  subst hb
  refine hK _ _ (hS0.o _ BA.o) fun hHb => kNx ?_
  clear hK
  refine uL 22 ⟨some 40, .unOp UnOp.not 4 (.tmp 39), 4, _, _, some (10, false)⟩ (.bool false) rfl hHb ?_
  refine uL 23 ⟨some 41, .pick (.tmp 28) (.const (Value.bool true)) (.tmp 40), 4, _, _, none⟩ (.bool false) rfl hHb ?_
  refine wpAnyH_done (by kernel_rfl) ?_ _
  refine hK9 _ _ (Cf (h:=wp_skip (hK8 _ _ (rgn (Vv (.int .i64 (t : Int)) (h:=Vv (.int .i64 ((t + 1 : Nat) : Int)) (h:=Vv (.int .i64 ((t + 1 : Nat) : Int)) (h:=?_))))))))
  refine WL.nil ?_
  refine ⟨⟨t + 1, u4, .int .i64 (t : Int), .slice (some ⟨b, off, none⟩) n cap, .int .i64 (n : Int), .bool true, .int .i64 (t : Int), .int .i64 ((t + 1 : Nat) : Int), .slice (some ⟨g, 0, none⟩) n gc, .int .i64 (t : Int), .pointer (some ⟨g, t * 3, none⟩), .agg (cvA c), .slice (some ⟨b, off, none⟩) n cap, .int .i64 (t : Int), .pointer (some ⟨b, off + t * 3, none⟩), .agg (cvA d), .bool true, .bool false, .bool false, .slice (some ⟨g, 0, none⟩) n gc, .int .i64 (t : Int), .pointer (some ⟨g, t * 3, none⟩), .pointer (some ⟨g, t * 3 + 2, none⟩), c.v, .slice (some ⟨b, off, none⟩) n cap, .int .i64 (t : Int), .pointer (some ⟨b, off + t * 3, none⟩), .pointer (some ⟨b, off + t * 3 + 2, none⟩), d.v, .bool true, .bool false, .bool false, rfl, by omega, BA.o⟩, by simp [intOf]; omega⟩
 ·have htl' : ¬ (t : Int) < (n : Int) := by omega
  have hwn : IntKind.i64.wrap ((n : Int) + 1) = ((n + 1 : Nat) : Int) := by rw [IntKind.wrap_i64]; have := HN.o; omega
  have hnn : ¬ (n : Int) + 1 ≤ (n : Int) := by omega
  have hl := HO.o.last hm.o
  have HLe := kk hl.1
  have c0 := JB.o.cell (p := ⟨g, n * 3, none⟩) (zM hl.2.1)
  rw [hl.2.1] at c0
  have c1 := JB.o.cell (p := ⟨g, n * 3 + 1, none⟩) (zM hl.2.1)
  rw [hl.2.2] at c1
  clear hl
  refine wp_seq_k fun K10 hK10 => wp_seq_k fun K11 hK11 => rgn (Vv (.int .i64 (t : Int)) (h:=Vv (.slice la n cap) (h:=Vv (.int .i64 (n : Int)) (h:=Vf (h:=WL.nil (hK11 _ _ (Cf (h:=wp_exit (hK4 _ _ (wp_seq_k fun K12 hK12 => rgn (Vv (.slice (some ⟨g, 0, none⟩) n gc) (h:=Vv (.slice la n cap) (h:=Vv (.int .i64 (n : Int)) (h:=Vv (.int .i64 ((n + 1 : Nat) : Int)) (h:=?_)))))))))))))))
  refine WL.slr (by kernel_rfl) 22 (.tmp 42) none (some (.tmp 45)) rfl (.slice (some ⟨g, 0, none⟩) n gc) none (some (.int .i64 ((n + 1 : Nat) : Int))) (.slice (some ⟨g, 0, none⟩) (n + 1) gc) rfl rfl rfl (KD _ _ _ _ HLe.o _) ?_
  simp only [Act.put, pqA, pqB, pqC]
  refine Vv (.slice (some ⟨g, 0, none⟩) (n + 1) gc) (h:=WL.nil (hK12 _ _ (wp_seq_k fun K13 hK13 => rgn (Vv (.slice (some ⟨g, 0, none⟩) (n + 1) gc) (h:=Vv (.slice la n cap) (h:=Vv (.int .i64 (n : Int)) (h:=Vv (.pointer (some ⟨g, n * 3, none⟩)) (h:=Vv (.pointer (some ⟨g, n * 3, none⟩)) (h:=Vv (.int .i64 (-5)) (h:=Vt (h:=Vt (h:=Vv (.slice (some ⟨g, 0, none⟩) (n + 1) gc) (h:=Vv (.slice la n cap) (h:=Vv (.int .i64 (n : Int)) (h:=Vv (.pointer (some ⟨g, n * 3, none⟩)) (h:=?_))))))))))))))))
  refine Vv (.pointer (some ⟨g, n * 3 + 1, none⟩)) (h:=Vv (.string ⟨#[109, 97, 114, 107]⟩) (h:=Vt (h:=Vt (h:=Vt (h:=WL.nil (hK13 _ _ (wp_ret ?_)))))))
  go_ret
  exact ⟨rfl, JB.o⟩
theorem xJ (w : World) (vs : Array Value) : (callFunc 73 vs).run Try.prog w = .ok (.enter 73 vs) w := by kernel_rfl
structure LV where
 num : Int
 c : CV
 pv : Value
 ps : List Hs
def lvA (x : LV) : Array Value := #[.int .i64 x.num, .int .i64 x.c.k, .string x.c.s, x.c.v, x.pv]
structure LfAt (B : Nat) (w : World) (x : LV) : Prop where
 row : RowAt w x.c.v x.c.l
 rlt : x.c.l ≠ [] → ∀ k, x.c.v.ownBlock = some k → k < B
 pa : HPa B w x.pv x.ps
theorem LfAt.below {B : Nat} {w w' : World} {x : LV} (h : LfAt B w x) (hb : Below B w w') : LfAt B w' x := by
 refine ⟨?_, h.rlt, h.pa.below hb⟩
 by_cases h0 : x.c.l = []
 ·have h1 := h.row
  rw [h0] at h1 ⊢
  exact vD h1
 ·exact h.row.grown (Grown.ofBelow hb) fun k hk e => by have := h.rlt h0 k hk; omega
theorem LfAt.mono {B B' : Nat} {w : World} {x : LV} (h : LfAt B w x) (hB : B ≤ B') : LfAt B' w x := by
 refine ⟨h.row, fun h0 k hk => Nat.lt_of_lt_of_le (h.rlt h0 k hk) hB, ?_⟩
 rcases h.pa with h | ⟨b, off, cap, h1, h2, h3, h4⟩
 ·exact .inl h
 ·exact .inr ⟨b, off, cap, h1, h2, Nat.lt_of_lt_of_le h3 hB, h4⟩
theorem LfAt.pform {B : Nat} {w : World} {x : LV} (h : LfAt B w x) : ∃ a c, x.pv = .slice a x.ps.length c := by
 rcases h.pa with ⟨a, c, e, e2⟩ | ⟨b, off, cap, e, _⟩
 ·exact ⟨a, c, by rw [e, e2]; rfl⟩
 ·exact ⟨_, cap, e⟩
theorem zW {B : Nat} {w : World} {x : LV} (h : LfAt B w x) : (lvA x).all (·.oneCell') = true := by
 obtain ⟨a, c, e⟩ := qR h.row
 obtain ⟨a', c', e'⟩ := h.pform
 unfold lvA
 rw [e, e']
 simp [Value.oneCell']
theorem qA (x : LV) : (Try.prog.info? 54).map (·.size) = some (lvA x).size := by kernel_rfl
def lfH (x : LV) : List Int := zR (RtP.leafR qQ x.c.ce)
def clV (px pd : Nat) : Value := .func (.func 73) #[] #[ptr px, ptr pd]
def CQ (n i : Nat) (x : LV) (ps : List Hs) (w : World) (e : Ending) (w' : World) : Prop :=
 ∃ (c : Nat → Int) (ok : Bool), e = .returned (.tuple #[.agg (qb 32 c), .bool ok]) ∧ Below w.heap.size w w' ∧ (match zu n i (lfH x) ps with | some (t, _) => ok = true ∧ qb 32 c = qb 32 (hof t) | none => ok = false)
structure CS (w : World) (px pd : Nat) (x : LV) : Prop where
 bx : Blk w px 54 (lvA x)
 bd : Blk w pd 116 #[clV px pd]
 row : RowAt w x.c.v x.c.l
theorem CS.below {w w' : World} {px pd : Nat} {x : LV} (h : CS w px pd x) (hb : Below w.heap.size w w') : CS w' px pd x := ⟨h.bx.below hb h.bx.lt, h.bd.below hb h.bd.lt, h.row.below hb⟩
theorem ZF (px pd i pc : Nat) (pa : Option Addr) (x : LV) (w : World) (hS : CS w px pd x) (hF : (0 ≤ x.c.k ∧ x.c.k < 9223372036854775808) ∧ (x.c.s.size ≤ 140737488351232 ∧ x.c.l.length ≤ 140000000)) :
  Calls Try.prog 73 #[.int .i64 (i : Int), .int .i64 1, .slice pa 0 pc, ptr px, ptr pd] w (CQ 1 i x [] w) := by
 have HS := kk hS
 have HF := kk hF
 have hck : Keep ((x.c.k.toNat : Int) = x.c.k) := ⟨by omega⟩
 clear hS hF
 go_enter Try.func73, Try.ntmps73
 refine wp_seq_k fun K1 hK1 => rgn (zO 32 qm fun r w1 hr0 R1 b1 => ?_)
 have hrw := lh hr0
 have S1 := kk (HS.o.below b1.o)
 clear hr0
 refine Vf (h:=WL.nil (hK1 _ _ (wp_seq_k fun K2 hK2 => wp_seq_k fun K3 hK3 => rgn (Vv (.int .i64 1) (h:=Vt (h:=Vt (h:=Vv (.slice pa 0 pc) (h:=Vv (.int .i64 0) (h:=Vt (h:=Vt (h:=WL.nil (hK3 _ _ (Ct (h:=wp_seq_k fun K4 hK4 => rgn (Vv (.pointer (some ⟨px, 1, none⟩)) (h:=?_))))))))))))))))
 refine WL.midA (by kernel_rfl) 44 (.tmp 23) rfl px 1 rfl #[.int .i64 x.c.k, .string x.c.s, x.c.v] _ (fun j v hv => by
  have h := ql S1.o.bx (1 + j) v (by
   match j, hv with
   | 0, h => exact h
   | 1, h => exact h
   | 2, h => exact h
   | j + 3, h => simp at h)
  rw [Nat.zero_add] at h; exact h) Try.underlying44 rfl (qw _ _ _) ?_
 simp only [Act.put, pqA, pqB, pqC]
 have hpl := Jr x.c.k.toNat x.c.s x.c.v x.c.l w1 S1.o.row (by have := HF.o; omega) HF.o.2
 rw [hck.o] at hpl
 refine WL.callF (by kernel_rfl) 49 _ _ rfl DU #[.agg #[.int .i64 x.c.k, .string x.c.s, x.c.v]] (by simp [Act.eval]) ?_
 refine (hpl).mono ?_
 rintro e w8 ⟨rfl, k1⟩
 refine ⟨_, rfl, ?_⟩
 change WL _ _ _ _ (Act.put _ _ (.agg (qb 32 (qy (RtP.leafR qQ x.c.ce))))) w8
 have R8 := kbx R1 k1
 have B8 := tb b1 k1
 clear hpl k1
 simp only [Act.put, pqA, pqB, pqC]
 refine StR (qb 32 (qy (RtP.leafR qQ x.c.ce))) R8.o (qd _) (qh _ _ _) (qi _ _) ?_
 have R9 := kk (R8.o.setRow (qb 32 (qy (RtP.leafR qQ x.c.ce))))
 have B9 : Keep (Below w.heap.size w (w8.setRow r (qb 32 (qy (RtP.leafR qQ x.c.ce))))) := ⟨qf B8.o hrw.o _⟩
 generalize w8.setRow r (qb 32 (qy (RtP.leafR qQ x.c.ce))) = w9 at *
 refine Vt (h:=WL.nil (hK4 _ _ (wp_ret ?_)))
 try simp only [Exit.inBlock, Exit.then]
 refine bodyPost_ret (v := .tuple #[.agg (qb 32 (qy (RtP.leafR qQ x.c.ce))), .bool true]) (qp Try.results73 _ _ r 32 _ (0, 0) _ _ rfl rfl R9.o Try.underlying32 rfl (qd _)) rfl ?_
 refine ⟨_, _, rfl, B9.o, ?_⟩
 rw [ks]
 exact ⟨rfl, by unfold lfH zR; rw [xE]⟩
theorem Gq (px pd i p pc : Nat) (pa : Option Addr) (x : LV) (ps : List Hs) (w : World) (hS : CS w px pd x) (hp : Keep (ps.length = p)) (hp1 : 1 ≤ p) :
  Calls Try.prog 73 #[.int .i64 (i : Int), .int .i64 1, .slice pa p pc, ptr px, ptr pd] w (CQ 1 i x ps w) := by
 have HS := kk hS
 clear hS
 have hp0 : ((p : Int) == 0) = false := by simp; omega
 have hp0' : ¬ p = 0 := by omega
 go_enter Try.func73, Try.ntmps73
 refine wp_seq_k fun K1 hK1 => rgn (zO 32 qm fun r w1 hr0 R1 b1 => ?_)
 have hrw := lh hr0
 have S1 := kk (HS.o.below b1.o)
 clear hr0
 refine Vf (h:=WL.nil (hK1 _ _ (wp_seq_k fun K2 hK2 => wp_seq_k fun K3 hK3 => rgn (Vv (.int .i64 1) (h:=Vt (h:=Vt (h:=Vv (.slice pa p pc) (h:=Vv (.int .i64 (p : Int)) (h:=Vf (h:=Vf (h:=WL.nil (hK3 _ _ (Cf (h:=wp_skip (hK2 _ _ (?_))))))))))))))))
 refine wp_seq_k fun K4 hK4 => wp_seq_k fun K5 hK5 => rgn (Vv (.int .i64 1) (h:=Vt (h:=Vt (h:=Vs (h:=Vs (h:=Vs (h:=Vt (h:=WL.nil (hK5 _ _ (Ct (h:=wp_seq_k fun K6 hK6 => rgn (?_))))))))))))
 refine WL.bld (by kernel_rfl) 32 #[] rfl [] (by simp) (qb 32 fun _ => 0) ky ?_
 simp only [Act.put, pqA, pqB, pqC]
 refine StR (qb 32 fun _ => 0) R1.o (qd _) (qh _ _ _) (qi _ _) ?_
 have R9 := kk (R1.o.setRow (qb 32 fun _ => 0))
 have B9 : Keep (Below w.heap.size w (w1.setRow r (qb 32 fun _ => 0))) := ⟨qf b1.o hrw.o _⟩
 generalize w1.setRow r (qb 32 fun _ => 0) = w9 at *
 refine Vf (h:=WL.nil (hK6 _ _ (wp_ret ?_)))
 try simp only [Exit.inBlock, Exit.then]
 refine bodyPost_ret (v := .tuple #[.agg (qb 32 fun _ => 0), .bool false]) (qp Try.results73 _ _ r 32 _ (0, 0) _ _ rfl rfl R9.o Try.underlying32 rfl (qd _)) rfl ?_
 refine ⟨_, _, rfl, B9.o, ?_⟩
 rw [ks, if_neg (by rw [hp.o]; omega)]
theorem KN (px pd n i pc : Nat) (pa : Option Addr) (x : LV) (w : World) (hS : CS w px pd x) (hn : 2 ≤ n) :
  Calls Try.prog 73 #[.int .i64 (i : Int), .int .i64 (n : Int), .slice pa 0 pc, ptr px, ptr pd] w (CQ n i x [] w) := by
 have HS := kk hS
 clear hS
 have hn1 : ((n : Int) == 1) = false := by simp; omega
 have hn1' : ¬ n = 1 := by omega
 go_enter Try.func73, Try.ntmps73
 refine wp_seq_k fun K1 hK1 => rgn (zO 32 qm fun r w1 hr0 R1 b1 => ?_)
 have hrw := lh hr0
 have S1 := kk (HS.o.below b1.o)
 clear hr0
 refine Vf (h:=WL.nil (hK1 _ _ (wp_seq_k fun K2 hK2 => wp_seq_k fun K3 hK3 => rgn (Vv (.int .i64 (n : Int)) (h:=Vf (h:=Vf (h:=Vs (h:=Vs (h:=Vs (h:=Vf (h:=WL.nil (hK3 _ _ (Cf (h:=wp_skip (hK2 _ _ (?_))))))))))))))))
 refine wp_seq_k fun K4 hK4 => wp_seq_k fun K5 hK5 => rgn (Vv (.int .i64 (n : Int)) (h:=Vf (h:=Vf (h:=Vv (.slice pa 0 pc) (h:=Vv (.int .i64 0) (h:=Vt (h:=Vt (h:=WL.nil (hK5 _ _ (Ct (h:=wp_seq_k fun K6 hK6 => rgn (?_))))))))))))
 refine WL.bld (by kernel_rfl) 32 #[] rfl [] (by simp) (qb 32 fun _ => 0) ky ?_
 simp only [Act.put, pqA, pqB, pqC]
 refine StR (qb 32 fun _ => 0) R1.o (qd _) (qh _ _ _) (qi _ _) ?_
 have R9 := kk (R1.o.setRow (qb 32 fun _ => 0))
 have B9 : Keep (Below w.heap.size w (w1.setRow r (qb 32 fun _ => 0))) := ⟨qf b1.o hrw.o _⟩
 generalize w1.setRow r (qb 32 fun _ => 0) = w9 at *
 refine Vf (h:=WL.nil (hK6 _ _ (wp_ret ?_)))
 try simp only [Exit.inBlock, Exit.then]
 refine bodyPost_ret (v := .tuple #[.agg (qb 32 fun _ => 0), .bool false]) (qp Try.results73 _ _ r 32 _ (0, 0) _ _ rfl rfl R9.o Try.underlying32 rfl (qd _)) rfl ?_
 refine ⟨_, _, rfl, B9.o, ?_⟩
 rw [Kn i _ (by omega)]
theorem GZ (px pd : Nat) (x : LV) (qs : List Hs) (y : Hs) (IH : ∀ (w : World) (b off cap n i : Nat), 1 ≤ n → n < 9223372036854775808 → i < n → CS w px pd x → b < w.heap.size → (qs.length ≤ cap ∧ w.rangeAt b off (qF qs)) → Calls Try.prog 73 #[.int .i64 (i : Int), .int .i64 (n : Int), .slice (some ⟨b, off, none⟩) qs.length cap, ptr px, ptr pd] w (CQ n i x qs w))
  (b off cap n i m p q : Nat) (w : World) (hm : Keep (RtP.half n = m)) (hq : Keep (qs.length = q)) (hqq : qs.length = q) (hp : p = q + 1) (hpb : p ≤ 4398046511104) (hn : 2 ≤ n) (Hn : Keep (n < 9223372036854775808)) (hi : i < n) (hlo : i < m) (hS : CS w px pd x) (hbw : b < w.heap.size) (hcap : p ≤ cap) (hP : w.rangeAt b off (qF (qs ++ [y]))) :
  Calls Try.prog 73 #[.int .i64 (i : Int), .int .i64 (n : Int), .slice (some ⟨b, off, none⟩) p cap, ptr px, ptr pd] w (CQ n i x (qs ++ [y]) w) := by
 have hh := RtP.half_le hn
 rw [hm.o] at hh
 have HQ : Keep (∀ wx, Below w.heap.size w wx → (qs.length ≤ cap ∧ wx.rangeAt b off (qF qs))) := ⟨fun wx hb => ⟨by omega, fun j v hv => zj hP hb hbw j v (by rw [xU]; exact List.getElem?_append_left (List.getElem?_eq_some_iff.1 hv).1 ▸ hv)⟩⟩
 have HYr : Keep (∀ wx, Below w.heap.size w wx → wx.rangeAt b (off + q * 32) (qb 32 y.f).toList) := ⟨fun wx hb => by
  have h1 := jt (zj hP hb hbw) q (by rw [List.length_append, hqq]; simp)
  have h2 : (qs ++ [y])[q]'(by rw [List.length_append, hqq]; simp) = y := by subst hqq; simp
  rw [h2] at h1
  exact h1⟩
 obtain ⟨hy, hye⟩ : ∃ z : Array Value, Keep (z = qb 32 y.f) := ⟨_, ⟨rfl⟩⟩
 have HS := kk hS
 have hn1 : ((n : Int) == 1) = false := by simp; omega
 have hn1' : ¬ n = 1 := by omega
 have hp1 : ((p : Int) == 0) = false := by simp; omega
 have hp1' : ¬ p = 0 := by omega
 have hpq : IntKind.i64.wrap ((p : Int) - 1) = (q : Int) := by rw [IntKind.wrap_i64]; omega
 have hqp : (q : Int) < (p : Int) := by omega
 have hlo' : (i : Int) < (m : Int) := by omega
 skip
 skip
 clear hP hS hp hqq hpb
 go_enter Try.func73, Try.ntmps73
 refine wp_seq_k fun K1 hK1 => rgn (zO 32 qm fun r w1 hr0 R1 b1 => ?_)
 have hrw := lh hr0
 have S1 := kk (HS.o.below b1.o)
 clear hr0
 refine Vf (h:=WL.nil (hK1 _ _ (wp_seq_k fun K2 hK2 => wp_seq_k fun K3 hK3 => rgn (Vv (.int .i64 (n : Int)) (h:=Vf (h:=Vf (h:=Vs (h:=Vs (h:=Vs (h:=Vf (h:=WL.nil (hK3 _ _ (Cf (h:=wp_skip (hK2 _ _ (?_))))))))))))))))
 refine wp_seq_k fun K4 hK4 => wp_seq_k fun K5 hK5 => rgn (Vv (.int .i64 (n : Int)) (h:=Vf (h:=Vf (h:=Vv (.slice (some ⟨b, off, none⟩) p cap) (h:=Vv (.int .i64 (p : Int)) (h:=Vf (h:=Vf (h:=WL.nil (hK5 _ _ (Cf (h:=wp_skip (hK4 _ _ (wp_seq_k fun K6 hK6 => rgn (Vv (.slice (some ⟨b, off, none⟩) p cap) (h:=?_)))))))))))))))
 refine Vv (.int .i64 (p : Int)) (h:=Vv (.int .i64 (q : Int)) (h:=Vv (.int .i64 (n : Int)) (h:=ClS (kn n w1 (by omega) Hn.o) ?_)))
 rintro e w1_ ⟨rfl, hw_⟩
 refine ⟨_, rfl, ?_⟩
 have hw_ := hw_.symm
 subst hw_
 rw [hm.o]
 refine Vv (.int .i64 (q : Int)) (h:=Vv (.int .i64 (m : Int)) (h:=WL.nil (hK6 _ _ (wp_seq_k fun K7 hK7 => wp_seq_k fun K8 hK8 => rgn (Vv (.int .i64 (i : Int)) (h:=Vv (.int .i64 (m : Int)) (h:=Vt (h:=WL.nil (hK8 _ _ (Ct (h:=wp_seq_k fun K9 hK9 => ?_)))))))))))
 have S2 : Keep (CS w1.drew px pd x) := ⟨S1.o.below (Below.refl _ _).drew⟩
 have R2 : Keep (Blk w1.drew r 32 (qb 32 fun _ => 0)) := ⟨R1.o⟩
 have B2 : Keep (Below w.heap.size w w1.drew) := ⟨b1.o.drew⟩
 clear S1 R1 b1
 have rest : ∀ (u : Nat) (hc : Array Value) (cc : Nat → Int) (ok : Bool) (w5 : World), Keep (hc = qb 32 cc) → Blk w5 u 32 hc → Blk w5 r 32 (qb 32 fun _ => 0) → Below w.heap.size w w5 → r ≠ u → (match zu m i (lfH x) qs with | some (t, _) => ok = true ∧ qb 32 cc = qb 32 (hof t) | none => ok = false) → K9 { tmps := #[.int .i64 (i : Int), .int .i64 (n : Int), .slice (some ⟨b, off, none⟩) p cap, .pointer (some ⟨px, 0, none⟩), .pointer (some ⟨pd, 0, none⟩), undef, undef, undef, .pointer (some ⟨r, 0, none⟩), .bool false, .int .i64 (q : Int), .int .i64 (m : Int), .pointer (some ⟨u, 0, none⟩), .bool ok, undef, undef, .int .i64 (n : Int), .bool false, .bool false, undef, undef, undef, .bool false, undef, undef, undef, .int .i64 (n : Int), .bool false, .bool false, .slice (some ⟨b, off, none⟩) p cap, .int .i64 (p : Int), .bool false, .bool false, undef, .slice (some ⟨b, off, none⟩) p cap, .int .i64 (p : Int), .int .i64 (q : Int), .int .i64 (n : Int), .int .i64 (m : Int), .int .i64 (i : Int), .int .i64 (m : Int), .bool true, .tuple #[.agg hc, .bool ok], (clV px pd), .int .i64 (i : Int), .int .i64 (m : Int), .slice (some ⟨b, off, none⟩) p cap, .int .i64 (q : Int), .slice (some ⟨b, off, none⟩) q cap, .tuple #[.agg hc, .bool ok], .agg hc, .bool ok, undef, undef, undef, undef, undef, undef, undef, undef, undef, undef, undef, undef, undef, undef, undef, undef, undef, undef, undef, undef, undef, undef, undef, undef, undef, undef, undef, undef], defers := [] } w5 := by
  intro u hc cc ok w5 hce hU hR5 hB5 hnu hM
  have U5 := kk hU
  have R5 := kk hR5
  have B5 := kk hB5
  have M5 := kk hM
  have NUR : Keep (u ≠ r) := ⟨fun e => hnu e.symm⟩
  clear hU hR5 hB5 hM hnu S2 R2 B2
  refine hK9 _ _ (wp_seq_k fun K10 hK10 => ?_)
  obtain ⟨hr_, hre⟩ : ∃ z : Array Value, Keep (z = (qb 32 (qy (RtP.innR (hl 32 (cc)) (hl 32 (y.f)))))) := ⟨_, ⟨rfl⟩⟩
  have U7 : Keep (Blk w5.drew u 32 hc) := ⟨U5.o⟩
  have R7 : Keep (Blk w5.drew r 32 (qb 32 fun _ => 0)) := ⟨R5.o⟩
  have B7 : Keep (Below w.heap.size w w5.drew) := ⟨B5.o.drew⟩
  clear U5 R5 B5
  have HIN : Keep (Calls Try.prog 51 #[.agg hc, .agg hy] w5.drew fun e w' => e = .returned (.agg hr_) ∧ Below w5.drew.heap.size w5.drew w') := ⟨by rw [hre.o, hce.o, hye.o]; exact yl (cc) (y.f) w5.drew⟩
  have hY0 : Keep (∀ wx, Below w.heap.size w wx → wx.rangeAt b (off + q * 32) hy.toList) := ⟨fun wx hb => by rw [hye.o]; exact HYr.o wx hb⟩
  refine wp_region_held_drew (S := fun wx => wx.rangeAt u 0 hc.toList ∧ wx.rangeAt b (off + q * 32) hy.toList) (by kernel_rfl) (⟨ql U7.o, hY0.o _ B7.o⟩) (fun hHeld => ?_)
  refine uS 0 ⟨some 52, .load 32 (.tmp 12), 32, _, _, none⟩ (.agg hc) rfl (qv (by rfl) (.tmp 12) 32 rfl u 0 rfl hc _ Try.underlying32 rfl (by rw [hce.o]; exact qd _) fun w hS => hS.1) hHeld ?_
  refine uS 1 ⟨some 53, .move (.tmp 2), 52, _, _, none⟩ (.slice (some ⟨b, off, none⟩) p cap) rfl (yi (by rintro w ⟨hS1, hS2⟩; clear hS1 hS2; go_simp)) hHeld ?_
  refine uS 2 ⟨some 54, .move (.tmp 10), 3, _, _, none⟩ (.int .i64 (q : Int)) rfl (yi (by rintro w ⟨hS1, hS2⟩; clear hS1 hS2; go_simp)) hHeld ?_
  refine uS 6 ⟨some 58, .move (.tmp 13), 4, _, _, none⟩ (.bool ok) rfl (yi (by rintro w ⟨hS1, hS2⟩; clear hS1 hS2; go_simp)) hHeld ?_
  refine uS 3 ⟨some 55, .indexAddr 52 (.tmp 53) (.tmp 54), 0, _, _, none⟩ (.pointer (some ⟨b, off + q * 32, none⟩)) rfl (yi (by rintro w ⟨hS1, hS2⟩; clear hS1 hS2; go_simp)) hHeld ?_
  refine uS 4 ⟨some 56, .load 32 (.tmp 55), 32, _, _, none⟩ (.agg hy) rfl (qv (by rfl) (.tmp 55) 32 rfl b (off + q * 32) rfl hy _ Try.underlying32 rfl (by rw [hye.o]; exact qd _) fun w hS => hS.2) hHeld ?_
  refine rd1 5 ⟨some 57, .call { callee := .value (.func 51), args := #[.tmp 52, .tmp 56], argTypes := #[32, 32] }, 32, _, _, none⟩ rfl fun K hK => ?_
  refine qz 51 _ _ rfl Qp #[.agg hc, .agg hy] (by simp [Act.eval]) (fun vz wz => vz = .agg hr_ ∧ Below w5.drew.heap.size w5.drew wz) ?_ ?_
  ·refine (HIN.o).mono ?_
   rintro e wz ⟨rfl, k1⟩
   exact ⟨_, rfl, rfl, k1⟩
  rintro vz w8 ⟨rfl, k1⟩
  have U8 := kbx U7 k1
  have R8 := kbx R7 k1
  have B8 := tb B7 k1
  clear k1 U7 R7 B7
  refine hK _ _ (⟨ql U8.o, hY0.o _ B8.o⟩) fun hH1 => kNx ?_
  clear hK
  refine rd1 7 ⟨none, .store 32 (.tmp 8) (.tmp 57), 0, _, _, none⟩ rfl fun K hK => ?_
  refine wp_store_row 32 (.tmp 8) (.tmp 57) rfl r hr_ rfl rfl 32 (qb 32 fun _ => 0) R8.o (by rw [hre.o]; exact qd _) (by rw [hre.o]; exact qh _ _ _) (by rw [hre.o]; exact qi _ _) ?_
  have R9 := kk (R8.o.setRow hr_)
  have U9 : (w8.setRow r hr_).rangeAt u 0 hc.toList := by
   by_cases e : u = r
   ·exact absurd e NUR.o
   ·exact ql (U8.o.setRow_ne e hr_)
  have B9 : Keep (Below w.heap.size w (w8.setRow r hr_)) := ⟨qf B8.o hrw.o _⟩
  generalize w8.setRow r hr_ = w9 at *
  refine hK _ _ ⟨U9, hY0.o _ B9.o⟩ fun hH2 => kNx ?_
  clear hK
  refine uS 8 ⟨some 9, .assign (.tmp 58), 4, _, _, none⟩ (.bool ok) rfl (yi (by rintro w ⟨hS1, hS2⟩; clear hS1 hS2; go_simp)) hH2 ?_
  refine wpAnyH_done (by kernel_rfl) ?_ _
  refine hK10 _ _ (wp_ret ?_)
  try simp only [Exit.inBlock, Exit.then]
  refine bodyPost_ret (v := .tuple #[.agg hr_, .bool ok]) (qp Try.results73 _ _ r 32 _ (0, 0) _ _ rfl rfl R9.o Try.underlying32 rfl (by rw [hre.o]; exact qd _)) rfl ?_
  refine ⟨_, ok, by rw [hre.o], B9.o, ?_⟩
  rw [YV (by omega) (by rw [hm.o]; exact hlo), hm.o]
  have hM := M5.o
  cases e : zu m i (lfH x) qs with
  | none => rw [e] at hM; exact hM
  | some zz =>
   rw [e] at hM
   obtain ⟨h1, h2⟩ := hM
   have hlt : zz.1.length = 32 := RtP.climb_len zR jB _ _ _ _ _ _ _ (jB _) e
   have hlc : hl 32 cc = zz.1 := by rw [yW h2, jO hlt]
   refine ⟨h1, ?_⟩
   rw [hlc]
   show _ = qb 32 (hof (zR _))
   rw [zR, xE]
   rfl
 refine wp_region_held_drew (S := fun wx => wx.cell? ⟨pd, 0, none⟩ = some (clV px pd)) (by kernel_rfl) (S2.o.bd.c 0 rfl) (fun hH0 => ?_)
 generalize w1.drew = w2 at *
 refine uG 1 ⟨some 44, .move (.tmp 0), 3, _, _, none⟩ (.int .i64 (i : Int)) rfl hH0 ?_
 refine uG 2 ⟨some 45, .move (.tmp 11), 3, _, _, none⟩ (.int .i64 (m : Int)) rfl hH0 ?_
 refine uG 3 ⟨some 46, .move (.tmp 2), 52, _, _, none⟩ (.slice (some ⟨b, off, none⟩) p cap) rfl hH0 ?_
 refine uG 4 ⟨some 47, .move (.tmp 10), 3, _, _, none⟩ (.int .i64 (q : Int)) rfl hH0 ?_
 refine uG 0 ⟨some 43, .load 116 (.tmp 4), 116, _, _, none⟩ (clV px pd) rfl hH0 ?_
 refine uS 5 ⟨some 48, .slice 52 (.tmp 46) none (some (.tmp 47)) none, 52, _, _, none⟩ (.slice (some ⟨b, off, none⟩) q cap) rfl (xq (by rfl) 52 (.tmp 46) (.tmp 47) rfl (.slice (some ⟨b, off, none⟩) p cap) (.int .i64 (q : Int)) (.slice (some ⟨b, off, none⟩) q cap) rfl rfl (fun w => Xy _ p cap q (by omega) w)) hH0 ?_
 refine wpAnyH_ready (rs := [6, 10]) (by kernel_rfl) (by simp) ?_
 refine AllReadyH.cons (o := ⟨some 49, .call { callee := .value (.tmp 43), args := #[.tmp 44, .tmp 45, .tmp 48], argTypes := #[3, 3, 52] }, 97, _, _, none⟩) rfl (fun K hK => ?_) (AllReadyH.cons (o := ⟨some 12, .alloc 32, 0, _, _, none⟩) rfl (fun K hK => ?_) AllReadyH.nil)
 ·rw [if_pos (by rfl)]
  have hih := IH w2 b off cap m i (by omega) (by have := Hn.o; omega) (by omega) S2.o (Nat.lt_of_lt_of_le hbw B2.o.size) (HQ.o _ B2.o)
  rw [hq.o] at hih
  refine qX 73 (.tmp 43) _ _ #[ptr px, ptr pd] rfl rfl xJ #[.int .i64 (i : Int), .int .i64 (m : Int), .slice (some ⟨b, off, none⟩) q cap, ptr px, ptr pd] (by simp [Act.eval]) (fun vz wz => ∃ (cc : Nat → Int) (ok : Bool), vz = .tuple #[.agg (qb 32 cc), .bool ok] ∧ Below w2.heap.size w2 wz ∧ (match zu m i (lfH x) qs with | some (t, _) => ok = true ∧ qb 32 cc = qb 32 (hof t) | none => ok = false)) ?_ ?_
  ·refine hih.mono ?_
   rintro e wz ⟨cc, ok, rfl, k1, k2⟩
   exact ⟨_, rfl, cc, ok, rfl, k1, k2⟩
  rintro vz w4 ⟨cc, ok, rfl, k1, k2⟩
  obtain ⟨hc, hce⟩ : ∃ z : Array Value, Keep (z = qb 32 cc) := ⟨_, ⟨rfl⟩⟩
  rw [← hce.o]
  have M4 := kk k2
  have S4 := kk (S2.o.below k1)
  have R4 := kbx R2 k1
  have B4 := tb B2 k1
  clear hih k1 k2
  refine hK _ _ (S4.o.bd.c 0 rfl) fun hH1 => kNx ?_
  clear hK
  refine uG 7 ⟨some 42, .move (.tmp 49), 97, _, _, none⟩ (.tuple #[.agg hc, .bool ok]) rfl hH1 ?_
  refine uG 8 ⟨some 50, .extract (.tmp 42) 0, 32, _, _, none⟩ (.agg hc) rfl hH1 ?_
  refine uG 9 ⟨some 51, .extract (.tmp 42) 1, 4, _, _, none⟩ (.bool ok) rfl hH1 ?_
  refine rd1 10 ⟨some 12, .alloc 32, 0, _, _, none⟩ rfl fun K hK => ?_
  refine qK 32 rfl _ qm ?_
  have b_ := qg w4 (.cells (qb 32 fun _ => 0) 32)
  have U5 := kk (Blk.new w4 32 (qb 32 fun _ => 0))
  have S5 := kk (S4.o.below b_)
  have R5 := kbx R4 b_
  have B5 := tb B4 b_
  have nr : Keep (r ≠ w4.heap.size) := ⟨by have := R4.o.lt; omega⟩
  have gu : Keep (w.heap.size ≤ w4.heap.size) := ⟨B4.o.size⟩
  generalize w4.alloc (.cells (qb 32 fun _ => 0) 32) = w5 at *
  obtain ⟨u, hu⟩ := nm w4
  rw [← hu.o] at U5 nr gu ⊢
  clear b_ hu
  refine hK _ _ (S5.o.bd.c 0 rfl) fun hH2 => kNx ?_
  clear hK
  refine rd1 11 ⟨none, .store 32 (.tmp 12) (.tmp 50), 0, _, _, none⟩ rfl fun K hK => ?_
  refine wp_store_row 32 (.tmp 12) (.tmp 50) rfl u hc rfl rfl 32 _ U5.o (by rw [hce.o]; exact qd _) (by rw [hce.o]; exact qh _ _ _) (by rw [hce.o]; exact qi _ _) ?_
  have U6 := kk (U5.o.setRow hc)
  have R6 := kk (R5.o.setRow_ne nr.o hc)
  have B6 : Keep (Below w.heap.size w (w5.setRow u hc)) := ⟨qf B5.o gu.o _⟩
  have S6 : (w5.setRow u hc).cell? ⟨pd, 0, none⟩ = some (clV px pd) := (S5.o.bd.setRow_ne (zr S5.o.bd U5.o (by decide)) hc).c 0 rfl
  generalize w5.setRow u hc = w6 at *
  refine hK _ _ S6 fun hH3 => kNx ?_
  clear hK
  refine uG 12 ⟨some 13, .assign (.tmp 51), 4, _, _, none⟩ (.bool ok) rfl hH3 ?_
  refine wpAnyH_done (by kernel_rfl) ?_ _
  exact rest u hc cc ok w6 hce U6.o R6.o B6.o nr.o M4.o
 ·rw [if_pos (by rfl)]
  refine qK 32 rfl _ qm ?_
  have b_ := qg w2 (.cells (qb 32 fun _ => 0) 32)
  have U3 := kk (Blk.new w2 32 (qb 32 fun _ => 0))
  have S3 := kk (S2.o.below b_)
  have R3 := kbx R2 b_
  have B3 := tb B2 b_
  have nr : Keep (r ≠ w2.heap.size) := ⟨by have := R2.o.lt; omega⟩
  have gu : Keep (w.heap.size ≤ w2.heap.size) := ⟨B2.o.size⟩
  generalize w2.alloc (.cells (qb 32 fun _ => 0) 32) = w3 at *
  obtain ⟨u, hu⟩ := nm w2
  rw [← hu.o] at U3 nr gu ⊢
  clear b_ hu
  refine hK _ _ (S3.o.bd.c 0 rfl) fun hH2 => kNx ?_
  clear hK
  refine rd1 6 ⟨some 49, .call { callee := .value (.tmp 43), args := #[.tmp 44, .tmp 45, .tmp 48], argTypes := #[3, 3, 52] }, 97, _, _, none⟩ rfl fun K hK => ?_
  have hih := IH w3 b off cap m i (by omega) (by have := Hn.o; omega) (by omega) S3.o (Nat.lt_of_lt_of_le hbw B3.o.size) (HQ.o _ B3.o)
  rw [hq.o] at hih
  refine qX 73 (.tmp 43) _ _ #[ptr px, ptr pd] rfl rfl xJ #[.int .i64 (i : Int), .int .i64 (m : Int), .slice (some ⟨b, off, none⟩) q cap, ptr px, ptr pd] (by simp [Act.eval]) (fun vz wz => ∃ (cc : Nat → Int) (ok : Bool), vz = .tuple #[.agg (qb 32 cc), .bool ok] ∧ Below w3.heap.size w3 wz ∧ (match zu m i (lfH x) qs with | some (t, _) => ok = true ∧ qb 32 cc = qb 32 (hof t) | none => ok = false)) ?_ ?_
  ·refine hih.mono ?_
   rintro e wz ⟨cc, ok, rfl, k1, k2⟩
   exact ⟨_, rfl, cc, ok, rfl, k1, k2⟩
  rintro vz w4 ⟨cc, ok, rfl, k1, k2⟩
  obtain ⟨hc, hce⟩ : ∃ z : Array Value, Keep (z = qb 32 cc) := ⟨_, ⟨rfl⟩⟩
  rw [← hce.o]
  have M4 := kk k2
  have S4 := kk (S3.o.below k1)
  have R4 := kbx R3 k1
  have B4 := tb B3 k1
  have U4 := kbx U3 k1
  clear hih k1 k2
  refine hK _ _ (S4.o.bd.c 0 rfl) fun hH1 => kNx ?_
  clear hK
  refine uG 7 ⟨some 42, .move (.tmp 49), 97, _, _, none⟩ (.tuple #[.agg hc, .bool ok]) rfl hH1 ?_
  refine uG 8 ⟨some 50, .extract (.tmp 42) 0, 32, _, _, none⟩ (.agg hc) rfl hH1 ?_
  refine uG 9 ⟨some 51, .extract (.tmp 42) 1, 4, _, _, none⟩ (.bool ok) rfl hH1 ?_
  refine rd1 11 ⟨none, .store 32 (.tmp 12) (.tmp 50), 0, _, _, none⟩ rfl fun K hK => ?_
  refine wp_store_row 32 (.tmp 12) (.tmp 50) rfl u hc rfl rfl 32 _ U4.o (by rw [hce.o]; exact qd _) (by rw [hce.o]; exact qh _ _ _) (by rw [hce.o]; exact qi _ _) ?_
  have U6 := kk (U4.o.setRow hc)
  have R6 := kk (R4.o.setRow_ne nr.o hc)
  have B6 : Keep (Below w.heap.size w (w4.setRow u hc)) := ⟨qf B4.o gu.o _⟩
  have S6 : (w4.setRow u hc).cell? ⟨pd, 0, none⟩ = some (clV px pd) := (S4.o.bd.setRow_ne (zr S4.o.bd U4.o (by decide)) hc).c 0 rfl
  generalize w4.setRow u hc = w6 at *
  refine hK _ _ S6 fun hH3 => kNx ?_
  clear hK
  refine uG 12 ⟨some 13, .assign (.tmp 51), 4, _, _, none⟩ (.bool ok) rfl hH3 ?_
  refine wpAnyH_done (by kernel_rfl) ?_ _
  exact rest u hc cc ok w6 hce U6.o R6.o B6.o nr.o M4.o
theorem Dc (px pd : Nat) (x : LV) (qs : List Hs) (y : Hs) (IH : ∀ (w : World) (b off cap n i : Nat), 1 ≤ n → n < 9223372036854775808 → i < n → CS w px pd x → b < w.heap.size → (qs.length ≤ cap ∧ w.rangeAt b off (qF qs)) → Calls Try.prog 73 #[.int .i64 (i : Int), .int .i64 (n : Int), .slice (some ⟨b, off, none⟩) qs.length cap, ptr px, ptr pd] w (CQ n i x qs w))
  (b off cap n i m p q : Nat) (w : World) (hm : Keep (RtP.half n = m)) (hq : Keep (qs.length = q)) (hqq : qs.length = q) (hp : p = q + 1) (hpb : p ≤ 4398046511104) (hn : 2 ≤ n) (Hn : Keep (n < 9223372036854775808)) (hi : i < n) (hlo : ¬ i < m) (hS : CS w px pd x) (hbw : b < w.heap.size) (hcap : p ≤ cap) (hP : w.rangeAt b off (qF (qs ++ [y]))) :
  Calls Try.prog 73 #[.int .i64 (i : Int), .int .i64 (n : Int), .slice (some ⟨b, off, none⟩) p cap, ptr px, ptr pd] w (CQ n i x (qs ++ [y]) w) := by
 have hh := RtP.half_le hn
 rw [hm.o] at hh
 have HQ : Keep (∀ wx, Below w.heap.size w wx → (qs.length ≤ cap ∧ wx.rangeAt b off (qF qs))) := ⟨fun wx hb => ⟨by omega, fun j v hv => zj hP hb hbw j v (by rw [xU]; exact List.getElem?_append_left (List.getElem?_eq_some_iff.1 hv).1 ▸ hv)⟩⟩
 have HYr : Keep (∀ wx, Below w.heap.size w wx → wx.rangeAt b (off + q * 32) (qb 32 y.f).toList) := ⟨fun wx hb => by
  have h1 := jt (zj hP hb hbw) q (by rw [List.length_append, hqq]; simp)
  have h2 : (qs ++ [y])[q]'(by rw [List.length_append, hqq]; simp) = y := by subst hqq; simp
  rw [h2] at h1
  exact h1⟩
 obtain ⟨hy, hye⟩ : ∃ z : Array Value, Keep (z = qb 32 y.f) := ⟨_, ⟨rfl⟩⟩
 have HS := kk hS
 have hn1 : ((n : Int) == 1) = false := by simp; omega
 have hn1' : ¬ n = 1 := by omega
 have hp1 : ((p : Int) == 0) = false := by simp; omega
 have hp1' : ¬ p = 0 := by omega
 have hpq : IntKind.i64.wrap ((p : Int) - 1) = (q : Int) := by rw [IntKind.wrap_i64]; omega
 have hqp : (q : Int) < (p : Int) := by omega
 have hlo' : ¬ (i : Int) < (m : Int) := by omega
 have hwn : IntKind.i64.wrap ((n : Int) - (m : Int)) = ((n - m : Nat) : Int) := by rw [IntKind.wrap_i64]; have := Hn.o; omega
 have hwi : IntKind.i64.wrap ((i : Int) - (m : Int)) = ((i - m : Nat) : Int) := by rw [IntKind.wrap_i64]; have := Hn.o; omega
 clear hP hS hp hqq hpb
 go_enter Try.func73, Try.ntmps73
 refine wp_seq_k fun K1 hK1 => rgn (zO 32 qm fun r w1 hr0 R1 b1 => ?_)
 have hrw := lh hr0
 have S1 := kk (HS.o.below b1.o)
 clear hr0
 refine Vf (h:=WL.nil (hK1 _ _ (wp_seq_k fun K2 hK2 => wp_seq_k fun K3 hK3 => rgn (Vv (.int .i64 (n : Int)) (h:=Vf (h:=Vf (h:=Vs (h:=Vs (h:=Vs (h:=Vf (h:=WL.nil (hK3 _ _ (Cf (h:=wp_skip (hK2 _ _ (?_))))))))))))))))
 refine wp_seq_k fun K4 hK4 => wp_seq_k fun K5 hK5 => rgn (Vv (.int .i64 (n : Int)) (h:=Vf (h:=Vf (h:=Vv (.slice (some ⟨b, off, none⟩) p cap) (h:=Vv (.int .i64 (p : Int)) (h:=Vf (h:=Vf (h:=WL.nil (hK5 _ _ (Cf (h:=wp_skip (hK4 _ _ (wp_seq_k fun K6 hK6 => rgn (Vv (.slice (some ⟨b, off, none⟩) p cap) (h:=?_)))))))))))))))
 refine Vv (.int .i64 (p : Int)) (h:=Vv (.int .i64 (q : Int)) (h:=Vv (.int .i64 (n : Int)) (h:=ClS (kn n w1 (by omega) Hn.o) ?_)))
 rintro e w1_ ⟨rfl, hw_⟩
 refine ⟨_, rfl, ?_⟩
 have hw_ := hw_.symm
 subst hw_
 rw [hm.o]
 refine Vv (.int .i64 (q : Int)) (h:=Vv (.int .i64 (m : Int)) (h:=WL.nil (hK6 _ _ (wp_seq_k fun K7 hK7 => wp_seq_k fun K8 hK8 => rgn (Vv (.int .i64 (i : Int)) (h:=Vv (.int .i64 (m : Int)) (h:=Vf (h:=WL.nil (hK8 _ _ (Cf (h:=wp_skip (hK7 _ _ (wp_seq_k fun K9 hK9 => ?_)))))))))))))
 have S2 : Keep (CS w1.drew px pd x) := ⟨S1.o.below (Below.refl _ _).drew⟩
 have R2 : Keep (Blk w1.drew r 32 (qb 32 fun _ => 0)) := ⟨R1.o⟩
 have B2 : Keep (Below w.heap.size w w1.drew) := ⟨b1.o.drew⟩
 clear S1 R1 b1
 have rest : ∀ (u : Nat) (hc : Array Value) (cc : Nat → Int) (ok : Bool) (w5 : World), Keep (hc = qb 32 cc) → Blk w5 u 32 hc → Blk w5 r 32 (qb 32 fun _ => 0) → Below w.heap.size w w5 → r ≠ u → (match zu (n - m) (i - m) (lfH x) qs with | some (t, _) => ok = true ∧ qb 32 cc = qb 32 (hof t) | none => ok = false) → K9 { tmps := #[.int .i64 (i : Int), .int .i64 (n : Int), .slice (some ⟨b, off, none⟩) p cap, .pointer (some ⟨px, 0, none⟩), .pointer (some ⟨pd, 0, none⟩), undef, undef, undef, .pointer (some ⟨r, 0, none⟩), .bool false, .int .i64 (q : Int), .int .i64 (m : Int), undef, undef, .pointer (some ⟨u, 0, none⟩), .bool ok, .int .i64 (n : Int), .bool false, .bool false, undef, undef, undef, .bool false, undef, undef, undef, .int .i64 (n : Int), .bool false, .bool false, .slice (some ⟨b, off, none⟩) p cap, .int .i64 (p : Int), .bool false, .bool false, undef, .slice (some ⟨b, off, none⟩) p cap, .int .i64 (p : Int), .int .i64 (q : Int), .int .i64 (n : Int), .int .i64 (m : Int), .int .i64 (i : Int), .int .i64 (m : Int), .bool false, undef, undef, undef, undef, undef, undef, undef, undef, undef, undef, undef, undef, undef, undef, undef, undef, undef, .tuple #[.agg hc, .bool ok], (clV px pd), .int .i64 (i : Int), .int .i64 (m : Int), .int .i64 ((i - m : Nat) : Int), .int .i64 (n : Int), .int .i64 (m : Int), .int .i64 ((n - m : Nat) : Int), .slice (some ⟨b, off, none⟩) p cap, .int .i64 (q : Int), .slice (some ⟨b, off, none⟩) q cap, .tuple #[.agg hc, .bool ok], .agg hc, .bool ok, undef, undef, undef, undef, undef, undef, undef], defers := [] } w5 := by
  intro u hc cc ok w5 hce hU hR5 hB5 hnu hM
  have U5 := kk hU
  have R5 := kk hR5
  have B5 := kk hB5
  have M5 := kk hM
  have NUR : Keep (u ≠ r) := ⟨fun e => hnu e.symm⟩
  clear hU hR5 hB5 hM hnu S2 R2 B2
  refine hK9 _ _ (wp_seq_k fun K10 hK10 => ?_)
  obtain ⟨hr_, hre⟩ : ∃ z : Array Value, Keep (z = (qb 32 (qy (RtP.innR (hl 32 (y.f)) (hl 32 (cc)))))) := ⟨_, ⟨rfl⟩⟩
  have U7 : Keep (Blk w5.drew u 32 hc) := ⟨U5.o⟩
  have R7 : Keep (Blk w5.drew r 32 (qb 32 fun _ => 0)) := ⟨R5.o⟩
  have B7 : Keep (Below w.heap.size w w5.drew) := ⟨B5.o.drew⟩
  clear U5 R5 B5
  have HIN : Keep (Calls Try.prog 51 #[.agg hy, .agg hc] w5.drew fun e w' => e = .returned (.agg hr_) ∧ Below w5.drew.heap.size w5.drew w') := ⟨by rw [hre.o, hce.o, hye.o]; exact yl (y.f) (cc) w5.drew⟩
  have hY0 : Keep (∀ wx, Below w.heap.size w wx → wx.rangeAt b (off + q * 32) hy.toList) := ⟨fun wx hb => by rw [hye.o]; exact HYr.o wx hb⟩
  refine wp_region_held_drew (S := fun wx => wx.rangeAt u 0 hc.toList ∧ wx.rangeAt b (off + q * 32) hy.toList) (by kernel_rfl) (⟨ql U7.o, hY0.o _ B7.o⟩) (fun hHeld => ?_)
  refine uS 0 ⟨some 73, .move (.tmp 2), 52, _, _, none⟩ (.slice (some ⟨b, off, none⟩) p cap) rfl (yi (by rintro w ⟨hS1, hS2⟩; clear hS1 hS2; go_simp)) hHeld ?_
  refine uS 1 ⟨some 74, .move (.tmp 10), 3, _, _, none⟩ (.int .i64 (q : Int)) rfl (yi (by rintro w ⟨hS1, hS2⟩; clear hS1 hS2; go_simp)) hHeld ?_
  refine uS 4 ⟨some 77, .load 32 (.tmp 14), 32, _, _, none⟩ (.agg hc) rfl (qv (by rfl) (.tmp 14) 32 rfl u 0 rfl hc _ Try.underlying32 rfl (by rw [hce.o]; exact qd _) fun w hS => hS.1) hHeld ?_
  refine uS 6 ⟨some 79, .move (.tmp 15), 4, _, _, none⟩ (.bool ok) rfl (yi (by rintro w ⟨hS1, hS2⟩; clear hS1 hS2; go_simp)) hHeld ?_
  refine uS 2 ⟨some 75, .indexAddr 52 (.tmp 73) (.tmp 74), 0, _, _, none⟩ (.pointer (some ⟨b, off + q * 32, none⟩)) rfl (yi (by rintro w ⟨hS1, hS2⟩; clear hS1 hS2; go_simp)) hHeld ?_
  refine uS 3 ⟨some 76, .load 32 (.tmp 75), 32, _, _, none⟩ (.agg hy) rfl (qv (by rfl) (.tmp 75) 32 rfl b (off + q * 32) rfl hy _ Try.underlying32 rfl (by rw [hye.o]; exact qd _) fun w hS => hS.2) hHeld ?_
  refine rd1 5 ⟨some 78, .call { callee := .value (.func 51), args := #[.tmp 76, .tmp 77], argTypes := #[32, 32] }, 32, _, _, none⟩ rfl fun K hK => ?_
  refine qz 51 _ _ rfl Qp #[.agg hy, .agg hc] (by simp [Act.eval]) (fun vz wz => vz = .agg hr_ ∧ Below w5.drew.heap.size w5.drew wz) ?_ ?_
  ·refine (HIN.o).mono ?_
   rintro e wz ⟨rfl, k1⟩
   exact ⟨_, rfl, rfl, k1⟩
  rintro vz w8 ⟨rfl, k1⟩
  have U8 := kbx U7 k1
  have R8 := kbx R7 k1
  have B8 := tb B7 k1
  clear k1 U7 R7 B7
  refine hK _ _ (⟨ql U8.o, hY0.o _ B8.o⟩) fun hH1 => kNx ?_
  clear hK
  refine rd1 7 ⟨none, .store 32 (.tmp 8) (.tmp 78), 0, _, _, none⟩ rfl fun K hK => ?_
  refine wp_store_row 32 (.tmp 8) (.tmp 78) rfl r hr_ rfl rfl 32 (qb 32 fun _ => 0) R8.o (by rw [hre.o]; exact qd _) (by rw [hre.o]; exact qh _ _ _) (by rw [hre.o]; exact qi _ _) ?_
  have R9 := kk (R8.o.setRow hr_)
  have U9 : (w8.setRow r hr_).rangeAt u 0 hc.toList := by
   by_cases e : u = r
   ·exact absurd e NUR.o
   ·exact ql (U8.o.setRow_ne e hr_)
  have B9 : Keep (Below w.heap.size w (w8.setRow r hr_)) := ⟨qf B8.o hrw.o _⟩
  generalize w8.setRow r hr_ = w9 at *
  refine hK _ _ ⟨U9, hY0.o _ B9.o⟩ fun hH2 => kNx ?_
  clear hK
  refine uS 8 ⟨some 9, .assign (.tmp 79), 4, _, _, none⟩ (.bool ok) rfl (yi (by rintro w ⟨hS1, hS2⟩; clear hS1 hS2; go_simp)) hH2 ?_
  refine wpAnyH_done (by kernel_rfl) ?_ _
  refine hK10 _ _ (wp_ret ?_)
  try simp only [Exit.inBlock, Exit.then]
  refine bodyPost_ret (v := .tuple #[.agg hr_, .bool ok]) (qp Try.results73 _ _ r 32 _ (0, 0) _ _ rfl rfl R9.o Try.underlying32 rfl (by rw [hre.o]; exact qd _)) rfl ?_
  refine ⟨_, ok, by rw [hre.o], B9.o, ?_⟩
  rw [YW (by omega) (by rw [hm.o]; exact hlo), hm.o]
  have hM := M5.o
  cases e : zu (n - m) (i - m) (lfH x) qs with
  | none => rw [e] at hM; exact hM
  | some zz =>
   rw [e] at hM
   obtain ⟨h1, h2⟩ := hM
   have hlt : zz.1.length = 32 := RtP.climb_len zR jB _ _ _ _ _ _ _ (jB _) e
   have hlc : hl 32 cc = zz.1 := by rw [yW h2, jO hlt]
   refine ⟨h1, ?_⟩
   rw [hlc]
   show _ = qb 32 (hof (zR _))
   rw [zR, xE]
   rfl
 refine wp_region_held_drew (S := fun wx => wx.cell? ⟨pd, 0, none⟩ = some (clV px pd)) (by kernel_rfl) (S2.o.bd.c 0 rfl) (fun hH0 => ?_)
 generalize w1.drew = w2 at *
 refine uG 1 ⟨some 61, .move (.tmp 0), 3, _, _, none⟩ (.int .i64 (i : Int)) rfl hH0 ?_
 refine uG 2 ⟨some 62, .move (.tmp 11), 3, _, _, none⟩ (.int .i64 (m : Int)) rfl hH0 ?_
 refine uG 3 ⟨some 63, .binOp BinOp.sub 3 (.tmp 61) (.tmp 62) 3, 3, _, _, none⟩ (.int .i64 ((i - m : Nat) : Int)) rfl hH0 ?_
 refine uG 4 ⟨some 64, .move (.tmp 1), 3, _, _, none⟩ (.int .i64 (n : Int)) rfl hH0 ?_
 refine uG 5 ⟨some 65, .move (.tmp 11), 3, _, _, none⟩ (.int .i64 (m : Int)) rfl hH0 ?_
 refine uG 6 ⟨some 66, .binOp BinOp.sub 3 (.tmp 64) (.tmp 65) 3, 3, _, _, none⟩ (.int .i64 ((n - m : Nat) : Int)) rfl hH0 ?_
 refine uG 7 ⟨some 67, .move (.tmp 2), 52, _, _, none⟩ (.slice (some ⟨b, off, none⟩) p cap) rfl hH0 ?_
 refine uG 8 ⟨some 68, .move (.tmp 10), 3, _, _, none⟩ (.int .i64 (q : Int)) rfl hH0 ?_
 refine uG 0 ⟨some 60, .load 116 (.tmp 4), 116, _, _, none⟩ (clV px pd) rfl hH0 ?_
 refine uS 9 ⟨some 69, .slice 52 (.tmp 67) none (some (.tmp 68)) none, 52, _, _, none⟩ (.slice (some ⟨b, off, none⟩) q cap) rfl (xq (by rfl) 52 (.tmp 67) (.tmp 68) rfl (.slice (some ⟨b, off, none⟩) p cap) (.int .i64 (q : Int)) (.slice (some ⟨b, off, none⟩) q cap) rfl rfl (fun w => Xy _ p cap q (by omega) w)) hH0 ?_
 refine wpAnyH_ready (rs := [10, 14]) (by kernel_rfl) (by simp) ?_
 refine AllReadyH.cons (o := ⟨some 70, .call { callee := .value (.tmp 60), args := #[.tmp 63, .tmp 66, .tmp 69], argTypes := #[3, 3, 52] }, 97, _, _, none⟩) rfl (fun K hK => ?_) (AllReadyH.cons (o := ⟨some 14, .alloc 32, 0, _, _, none⟩) rfl (fun K hK => ?_) AllReadyH.nil)
 ·rw [if_pos (by rfl)]
  have hih := IH w2 b off cap (n - m) (i - m) (by omega) (by have := Hn.o; omega) (by omega) S2.o (Nat.lt_of_lt_of_le hbw B2.o.size) (HQ.o _ B2.o)
  rw [hq.o] at hih
  refine qX 73 (.tmp 60) _ _ #[ptr px, ptr pd] rfl rfl xJ #[.int .i64 ((i - m : Nat) : Int), .int .i64 ((n - m : Nat) : Int), .slice (some ⟨b, off, none⟩) q cap, ptr px, ptr pd] (by simp [Act.eval]) (fun vz wz => ∃ (cc : Nat → Int) (ok : Bool), vz = .tuple #[.agg (qb 32 cc), .bool ok] ∧ Below w2.heap.size w2 wz ∧ (match zu (n - m) (i - m) (lfH x) qs with | some (t, _) => ok = true ∧ qb 32 cc = qb 32 (hof t) | none => ok = false)) ?_ ?_
  ·refine hih.mono ?_
   rintro e wz ⟨cc, ok, rfl, k1, k2⟩
   exact ⟨_, rfl, cc, ok, rfl, k1, k2⟩
  rintro vz w4 ⟨cc, ok, rfl, k1, k2⟩
  obtain ⟨hc, hce⟩ : ∃ z : Array Value, Keep (z = qb 32 cc) := ⟨_, ⟨rfl⟩⟩
  rw [← hce.o]
  have M4 := kk k2
  have S4 := kk (S2.o.below k1)
  have R4 := kbx R2 k1
  have B4 := tb B2 k1
  clear hih k1 k2
  refine hK _ _ (S4.o.bd.c 0 rfl) fun hH1 => kNx ?_
  clear hK
  refine uG 11 ⟨some 59, .move (.tmp 70), 97, _, _, none⟩ (.tuple #[.agg hc, .bool ok]) rfl hH1 ?_
  refine uG 12 ⟨some 71, .extract (.tmp 59) 0, 32, _, _, none⟩ (.agg hc) rfl hH1 ?_
  refine uG 13 ⟨some 72, .extract (.tmp 59) 1, 4, _, _, none⟩ (.bool ok) rfl hH1 ?_
  refine rd1 14 ⟨some 14, .alloc 32, 0, _, _, none⟩ rfl fun K hK => ?_
  refine qK 32 rfl _ qm ?_
  have b_ := qg w4 (.cells (qb 32 fun _ => 0) 32)
  have U5 := kk (Blk.new w4 32 (qb 32 fun _ => 0))
  have S5 := kk (S4.o.below b_)
  have R5 := kbx R4 b_
  have B5 := tb B4 b_
  have nr : Keep (r ≠ w4.heap.size) := ⟨by have := R4.o.lt; omega⟩
  have gu : Keep (w.heap.size ≤ w4.heap.size) := ⟨B4.o.size⟩
  generalize w4.alloc (.cells (qb 32 fun _ => 0) 32) = w5 at *
  obtain ⟨u, hu⟩ := nm w4
  rw [← hu.o] at U5 nr gu ⊢
  clear b_ hu
  refine hK _ _ (S5.o.bd.c 0 rfl) fun hH2 => kNx ?_
  clear hK
  refine rd1 15 ⟨none, .store 32 (.tmp 14) (.tmp 71), 0, _, _, none⟩ rfl fun K hK => ?_
  refine wp_store_row 32 (.tmp 14) (.tmp 71) rfl u hc rfl rfl 32 _ U5.o (by rw [hce.o]; exact qd _) (by rw [hce.o]; exact qh _ _ _) (by rw [hce.o]; exact qi _ _) ?_
  have U6 := kk (U5.o.setRow hc)
  have R6 := kk (R5.o.setRow_ne nr.o hc)
  have B6 : Keep (Below w.heap.size w (w5.setRow u hc)) := ⟨qf B5.o gu.o _⟩
  have S6 : (w5.setRow u hc).cell? ⟨pd, 0, none⟩ = some (clV px pd) := (S5.o.bd.setRow_ne (zr S5.o.bd U5.o (by decide)) hc).c 0 rfl
  generalize w5.setRow u hc = w6 at *
  refine hK _ _ S6 fun hH3 => kNx ?_
  clear hK
  refine uG 16 ⟨some 15, .assign (.tmp 72), 4, _, _, none⟩ (.bool ok) rfl hH3 ?_
  refine wpAnyH_done (by kernel_rfl) ?_ _
  exact rest u hc cc ok w6 hce U6.o R6.o B6.o nr.o M4.o
 ·rw [if_pos (by rfl)]
  refine qK 32 rfl _ qm ?_
  have b_ := qg w2 (.cells (qb 32 fun _ => 0) 32)
  have U3 := kk (Blk.new w2 32 (qb 32 fun _ => 0))
  have S3 := kk (S2.o.below b_)
  have R3 := kbx R2 b_
  have B3 := tb B2 b_
  have nr : Keep (r ≠ w2.heap.size) := ⟨by have := R2.o.lt; omega⟩
  have gu : Keep (w.heap.size ≤ w2.heap.size) := ⟨B2.o.size⟩
  generalize w2.alloc (.cells (qb 32 fun _ => 0) 32) = w3 at *
  obtain ⟨u, hu⟩ := nm w2
  rw [← hu.o] at U3 nr gu ⊢
  clear b_ hu
  refine hK _ _ (S3.o.bd.c 0 rfl) fun hH2 => kNx ?_
  clear hK
  refine rd1 10 ⟨some 70, .call { callee := .value (.tmp 60), args := #[.tmp 63, .tmp 66, .tmp 69], argTypes := #[3, 3, 52] }, 97, _, _, none⟩ rfl fun K hK => ?_
  have hih := IH w3 b off cap (n - m) (i - m) (by omega) (by have := Hn.o; omega) (by omega) S3.o (Nat.lt_of_lt_of_le hbw B3.o.size) (HQ.o _ B3.o)
  rw [hq.o] at hih
  refine qX 73 (.tmp 60) _ _ #[ptr px, ptr pd] rfl rfl xJ #[.int .i64 ((i - m : Nat) : Int), .int .i64 ((n - m : Nat) : Int), .slice (some ⟨b, off, none⟩) q cap, ptr px, ptr pd] (by simp [Act.eval]) (fun vz wz => ∃ (cc : Nat → Int) (ok : Bool), vz = .tuple #[.agg (qb 32 cc), .bool ok] ∧ Below w3.heap.size w3 wz ∧ (match zu (n - m) (i - m) (lfH x) qs with | some (t, _) => ok = true ∧ qb 32 cc = qb 32 (hof t) | none => ok = false)) ?_ ?_
  ·refine hih.mono ?_
   rintro e wz ⟨cc, ok, rfl, k1, k2⟩
   exact ⟨_, rfl, cc, ok, rfl, k1, k2⟩
  rintro vz w4 ⟨cc, ok, rfl, k1, k2⟩
  obtain ⟨hc, hce⟩ : ∃ z : Array Value, Keep (z = qb 32 cc) := ⟨_, ⟨rfl⟩⟩
  rw [← hce.o]
  have M4 := kk k2
  have S4 := kk (S3.o.below k1)
  have R4 := kbx R3 k1
  have B4 := tb B3 k1
  have U4 := kbx U3 k1
  clear hih k1 k2
  refine hK _ _ (S4.o.bd.c 0 rfl) fun hH1 => kNx ?_
  clear hK
  refine uG 11 ⟨some 59, .move (.tmp 70), 97, _, _, none⟩ (.tuple #[.agg hc, .bool ok]) rfl hH1 ?_
  refine uG 12 ⟨some 71, .extract (.tmp 59) 0, 32, _, _, none⟩ (.agg hc) rfl hH1 ?_
  refine uG 13 ⟨some 72, .extract (.tmp 59) 1, 4, _, _, none⟩ (.bool ok) rfl hH1 ?_
  refine rd1 15 ⟨none, .store 32 (.tmp 14) (.tmp 71), 0, _, _, none⟩ rfl fun K hK => ?_
  refine wp_store_row 32 (.tmp 14) (.tmp 71) rfl u hc rfl rfl 32 _ U4.o (by rw [hce.o]; exact qd _) (by rw [hce.o]; exact qh _ _ _) (by rw [hce.o]; exact qi _ _) ?_
  have U6 := kk (U4.o.setRow hc)
  have R6 := kk (R4.o.setRow_ne nr.o hc)
  have B6 : Keep (Below w.heap.size w (w4.setRow u hc)) := ⟨qf B4.o gu.o _⟩
  have S6 : (w4.setRow u hc).cell? ⟨pd, 0, none⟩ = some (clV px pd) := (S4.o.bd.setRow_ne (zr S4.o.bd U4.o (by decide)) hc).c 0 rfl
  generalize w4.setRow u hc = w6 at *
  refine hK _ _ S6 fun hH3 => kNx ?_
  clear hK
  refine uG 16 ⟨some 15, .assign (.tmp 72), 4, _, _, none⟩ (.bool ok) rfl hH3 ?_
  refine wpAnyH_done (by kernel_rfl) ?_ _
  exact rest u hc cc ok w6 hce U6.o R6.o B6.o nr.o M4.o
theorem VY (px pd : Nat) (x : LV) (hF : (0 ≤ x.c.k ∧ x.c.k < 9223372036854775808) ∧ (x.c.s.size ≤ 140737488351232 ∧ x.c.l.length ≤ 140000000)) : ∀ (k : Nat), k ≤ 4398046511104 → ∀ (ps : List Hs), ps.length = k → ∀ (w : World) (b off cap n i : Nat), 1 ≤ n → n < 9223372036854775808 → i < n → CS w px pd x → b < w.heap.size → (ps.length ≤ cap ∧ w.rangeAt b off (qF ps)) → Calls Try.prog 73 #[.int .i64 (i : Int), .int .i64 (n : Int), .slice (some ⟨b, off, none⟩) ps.length cap, ptr px, ptr pd] w (CQ n i x ps w)
 | 0, _, ps, hk, w, b, off, cap, n, i, h1, h2, hi, hS, hb, hP => by
  obtain rfl := List.eq_nil_of_length_eq_zero hk
  by_cases e1 : n = 1
  ·subst e1; exact ZF px pd i cap _ x w hS hF
  ·exact KN px pd n i cap _ x w hS (by omega)
 | k + 1, hkb, ps, hk, w, b, off, cap, n, i, h1, h2, hi, hS, hb, hP => by
  by_cases e1 : n = 1
  ·subst e1; exact Gq px pd i _ cap _ x ps w hS ⟨rfl⟩ (by omega)
  ·obtain ⟨qs, y, rfl⟩ : ∃ qs y, ps = qs ++ [y] := ⟨ps.dropLast, ps.getLast (by intro e; subst e; simp at hk), (List.dropLast_concat_getLast _).symm⟩
   have hl : (qs ++ [y]).length = qs.length + 1 := by simp
   rw [hl] at hP hk ⊢
   have IH := VY px pd x hF k (by omega) qs (by omega)
   by_cases hlo : i < RtP.half n
   ·exact GZ px pd x qs y IH b off cap n i _ _ _ w ⟨rfl⟩ ⟨rfl⟩ rfl rfl (by omega) (by omega) ⟨h2⟩ hi hlo hS hb hP.1 hP.2
   ·exact Dc px pd x qs y IH b off cap n i _ _ _ w ⟨rfl⟩ ⟨rfl⟩ rfl rfl (by omega) (by omega) ⟨h2⟩ hi hlo hS hb hP.1 hP.2
theorem Gr (px pd : Nat) (x : LV) (hF : (0 ≤ x.c.k ∧ x.c.k < 9223372036854775808) ∧ (x.c.s.size ≤ 140737488351232 ∧ x.c.l.length ≤ 140000000)) (n i : Nat) (w : World) (h1 : 1 ≤ n) (h2 : n < 9223372036854775808) (hi : i < n) (hS : CS w px pd x) (hP : HPa w.heap.size w x.pv x.ps) (hpb : x.ps.length ≤ 4398046511104) : Calls Try.prog 73 #[.int .i64 (i : Int), .int .i64 (n : Int), x.pv, ptr px, ptr pd] w (CQ n i x x.ps w) := by
 rcases hP with ⟨a, c, e, e2⟩ | ⟨b, off, cap, e, h3, h4, h5⟩
 ·rw [e, e2]
  by_cases e1 : n = 1
  ·subst e1; exact ZF px pd i c a x w hS hF
  ·exact KN px pd n i c a x w hS (by omega)
 ·rw [e]; exact VY px pd x hF _ hpb x.ps rfl w b off cap n i h1 h2 hi hS h4 ⟨h3, h5⟩
end Go.Proofs.Ytdpcjfafbmhceaa
