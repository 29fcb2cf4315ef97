import Derived.Test.YtdpcjfafbmhceaaA05
import Derived.Test.YtdpcjfafbmhceaaA02
import Derived.Deep.RegionHeld3
import Derived.ArgAppend
import Derived.Lib.ConvBytes
import Derived.Shelf.Small.Bits
import Derived.Shelf.Small.Wraps
import Derived.Shelf.Strconv.Itoa0
import Derived.Test.YtdpcjfafbmhceaaProg
import Derived.Lib.ItoaNum
namespace Go.Proofs.Ytdpcjfafbmhceaa
open Go.RowKit
set_option linter.unusedSimpArgs false
set_option linter.unusedVariables false
theorem UB (w : World) (vs : Array Value) : (callFunc 22 vs).run Try.prog w = .ok (.enter 22 vs) w := by kernel_rfl
theorem WL.appG {ops : Array Oper} {rest : List Oper} {o : Oper} {a : Act} {w : World} {Q : Exit → Act → World → Prop} (hw : Region.wanted o (yielded ops a.tmps) = true) (tS tE : TypeId) (sz bt : Nat) (zv : Value) (hU : Try.prog.underlying tS = some (.slice tE))
  (hI : (Try.prog.info? tE).map (fun i => (i.zero, i.size, i.bytes)) = some (some zv, sz, bt)) (hzs : zv.cells.size = sz) (h0 : 0 < sz) (s x : Operand)
  (ho : o.op = .call { callee := .builtin .append, args := #[s, x], argTypes := #[tS, tS] }) (base : Nat) (v : Value) (ad : Addr) (n m c : Nat) (xs ys : List Value)
  (hs : a.eval s = v) (hx : a.eval x = .slice (some ad) m c) (hown : w.ownsRow base tE sz v n xs) (hl : ys.length = m * sz) (hys : ∀ j u, ys[j]? = some u → w.cell? (ad.add j) = some u) (h1 : ∀ u ∈ ys, u.oneCell' = true) (hb : n + m ≤ 100000000) (hbt : bt ≤ 1000) (hbase : base ≤ w.heap.size)
  (h : ∀ v' w', w'.ownsRow base tE sz v' (n + m) (xs ++ ys) → w.grownBy w' v.ownBlock → WL Try.prog ops Q rest (a.put o.dst v') w') : WL Try.prog ops Q (o :: rest) a w :=
 ⟨qC hw fun K hK => by
  obtain ⟨i, hi, hzz⟩ := Option.map_eq_some_iff.1 hI
  simp only [Prod.mk.injEq] at hzz
  obtain ⟨hz, hsz, hby⟩ := hzz
  refine wp_append_own w s x tS ho base tE i zv sz bt hU hi hz hsz hby hzs h0 v n xs hs hown ad m c ys hx hl hys h1 (by unfold maxLen; omega) ?_ hbase fun v' w' h1 h2 _ => hK _ _ (h v' w' h1 h2).o
  exact Nat.le_trans (Nat.mul_le_mul hb hbt) (by decide)⟩
theorem UK {Q : Exit → Act → World → Prop} {o : Oper} {a : Act} {w : World} {K : Act → World → Prop} (tS tE : TypeId) (sz bt : Nat) (zv : Value) (hU : Try.prog.underlying tS = some (.slice tE))
  (hI : (Try.prog.info? tE).map (fun i => (i.zero, i.size, i.bytes)) = some (some zv, sz, bt)) (hzs : zv.cells.size = sz) (h0 : 0 < sz) (s x : Operand)
  (ho : o.op = .call { callee := .builtin .append, args := #[s, x], argTypes := #[tS, tS] }) (base : Nat) (v : Value) (ad : Addr) (n m c : Nat) (xs ys : List Value)
  (hs : a.eval s = v) (hx : a.eval x = .slice (some ad) m c) (hown : w.ownsRow base tE sz v n xs) (hl : ys.length = m * sz) (hys : ∀ j u, ys[j]? = some u → w.cell? (ad.add j) = some u) (h1 : ∀ u ∈ ys, u.oneCell' = true) (hb : n + m ≤ 100000000) (hbt : bt ≤ 1000) (hbase : base ≤ w.heap.size)
  (h : ∀ v' w', w'.ownsRow base tE sz v' (n + m) (xs ++ ys) → w.grownBy w' v.ownBlock → K (a.put o.dst v') w') : o.wp Try.prog a w K Q := by
 obtain ⟨i, hi, hzz⟩ := Option.map_eq_some_iff.1 hI
 simp only [Prod.mk.injEq] at hzz
 obtain ⟨hz, hsz, hby⟩ := hzz
 refine wp_append_own w s x tS ho base tE i zv sz bt hU hi hz hsz hby hzs h0 v n xs hs hown ad m c ys hx hl hys h1 (by unfold maxLen; omega) ?_ hbase fun v' w' h1 h2 _ => h v' w' h1 h2
 exact Nat.le_trans (Nat.mul_le_mul hb hbt) (by decide)
theorem VZ : (Try.prog.info? 44).map (fun i => (i.zero, i.size, i.bytes)) = some (some (.agg #[.int .i64 0, .string ByteArray.empty, .slice none 0 0]), 3, 48) := by kernel_rfl
theorem DL (w : World) : (Instr.buildSlice 22 0 #[]).run Try.prog w = .ok (.slice (some ⟨w.heap.size, 0, none⟩) 0 0) (w.alloc (.cells #[] 44)) := by kernel_rfl
theorem Dk (k : Int) (s : ByteArray) (a : Option Addr) (n c : Nat) (w : World) : (Instr.buildSlice 22 1 #[(0, .agg #[.int .i64 k, .string s, .slice a n c])]).run Try.prog w = .ok (.slice (some ⟨w.heap.size, 0, none⟩) 1 1) (w.alloc (.cells #[.int .i64 k, .string s, .slice a n c] 44)) := by kernel_rfl
theorem Dq (k : Int) (s : ByteArray) (a : Option Addr) (n c : Nat) : Try.prog.built 44 [(0, .int .i64 k), (1, .string s), (2, .slice a n c)] = some #[.int .i64 k, .string s, .slice a n c] := by kernel_rfl
theorem Ds (k : Int) (s : ByteArray) : Try.prog.built 44 [(0, .int .i64 k), (1, .string s)] = some #[.int .i64 k, .string s, .slice none 0 0] := by kernel_rfl
theorem WideAt.typ {w : World} {v : Value} {l : List Int} (h : WideAt w v l) {k : Nat} (hk : v.ownBlock = some k) : Typ w k 5 := by
 obtain ⟨g, cap, rfl, _, _, _, cur, hb, _⟩ := h.cap
 simp [Value.ownBlock] at hk
 subst hk
 exact hb.typ
structure WdS (B : Nat) (L : List CV) (w : World) (v : Value) (OW : List CV) : Prop where
 own : w.ownsRow B 44 3 v OW.length (OW.flatMap cvL)
 each : ∀ (i : Nat) (c : CV), OW[i]? = some c → ∃ d, L[i]? = some d ∧ c.k = d.k ∧ c.s = d.s ∧ c.l = d.l
 wid : ∀ c ∈ OW, WideAt w c.v c.l ∧ ∃ k, c.v.ownBlock = some k ∧ B ≤ k
 apt : ∀ (i j : Nat) (c d : CV), OW[i]? = some c → OW[j]? = some d → i ≠ j → ∀ k, c.v.ownBlock = some k → d.v.ownBlock ≠ some k
theorem UO (B : Nat) (L : List CV) (w : World) (hB : B ≤ w.heap.size) : WdS B L (w.alloc (.cells #[] 44)) (.slice (some ⟨w.heap.size, 0, none⟩) 0 0) [] :=
 ⟨⟨rfl, .inr ⟨w.heap.size, 0, #[], rfl, hB, Blk.new w 44 #[], Nat.le_refl _, by decide, rfl, rfl⟩⟩, fun i c h => by simp at h, fun c h => by simp at h, fun i j c d h => by simp at h⟩
theorem xF {α : Type} {l : List α} {x y : α} {j : Nat} (hy : (l ++ [x])[j]? = some y) : (l[j]? = some y ∧ j < l.length) ∨ (j = l.length ∧ y = x) := by
 by_cases hj : j < l.length
 ·rw [List.getElem?_append_left hj] at hy
  exact .inl ⟨hy, hj⟩
 ·rw [List.getElem?_append_right (by omega)] at hy
  have hl := (List.getElem?_eq_some_iff.mp hy).1
  simp at hl
  have e : j = l.length := by omega
  subst e
  simp at hy
  exact .inr ⟨rfl, hy.symm⟩
theorem JV {w w' : World} {v u : Value} {l : List Int} (h : WideAt w v l) (hu : ∀ k, u.ownBlock = some k → Typ w k 44) (hg : Grown w w' fun k => u.ownBlock = some k) : WideAt w' v l :=
 h.grown hg fun k hk e => absurd ((hu k e).one (h.typ hk)) (by decide)
theorem WdS.add {B : Nat} {L : List CV} {w wa wb : World} {v v' : Value} {OW : List CV} {c d : CV} (h : WdS B L w v OW) (hB : B ≤ w.heap.size) (hb : Below w.heap.size w wa) (hw : WideAt wa c.v c.l) (hk : ∃ k, c.v.ownBlock = some k ∧ w.heap.size ≤ k) (hd : L[OW.length]? = some d) (e1 : c.k = d.k) (e2 : c.s = d.s) (e3 : c.l = d.l)
  (ho : wb.ownsRow B 44 3 v' (OW.length + 1) (OW.flatMap cvL ++ cvL c)) (hg : Grown wa wb fun k => v.ownBlock = some k) : WdS B L wb v' (OW ++ [c]) := by
 have hty : ∀ k, v.ownBlock = some k → Typ wa k 44 := fun k e => qn (qj h.own hb) e
 have hold : ∀ c ∈ OW, WideAt wb c.v c.l := fun c hc => JV ((h.wid c hc).1.grown (gF hb) fun _ _ e => e) hty hg
 have hlt : ∀ c ∈ OW, ∀ k, c.v.ownBlock = some k → k < w.heap.size := fun c hc k e => ((h.wid c hc).1.typ e).lt
 obtain ⟨k0, hk0, hk1⟩ := hk
 refine ⟨by rw [List.length_append, List.flatMap_append]; simpa using ho, fun i x hx => ?_, fun x hx => ?_, fun i j x y hx hy hij k q1 q2 => ?_⟩
 ·rcases xF hx with ⟨h1, _⟩ | ⟨rfl, rfl⟩
  ·exact h.each i x h1
  ·exact ⟨d, hd, e1, e2, e3⟩
 ·rcases List.mem_append.mp hx with hx | hx
  ·exact ⟨hold x hx, (h.wid x hx).2⟩
  ·rw [List.mem_singleton.mp hx]
   exact ⟨JV hw hty hg, k0, hk0, Nat.le_trans hB hk1⟩
 ·rcases xF hx with ⟨h1, _⟩ | ⟨rfl, rfl⟩
  ·rcases xF hy with ⟨h2, _⟩ | ⟨rfl, rfl⟩
   ·exact h.apt i j x y h1 h2 hij k q1 q2
   ·rw [hk0] at q2
    cases q2
    have := hlt x (List.mem_of_getElem? h1) k0 q1
    omega
  ·rcases xF hy with ⟨h2, _⟩ | ⟨rfl, rfl⟩
   ·rw [hk0] at q1
    cases q1
    have := hlt y (List.mem_of_getElem? h2) k0 q2
    omega
   ·exact hij rfl
def mkC : List Value := [.int .i64 (-5), .string ⟨#[109, 97, 114, 107]⟩, .slice none 0 0]
structure OwAt (B : Nat) (L : List CV) (w : World) (v : Value) (OW : List CV) : Prop where
 len : OW.length = L.length
 own : ∃ g cap, v = .slice (some ⟨g, 0, none⟩) OW.length cap ∧ w.ownsRow B 44 3 (.slice (some ⟨g, 0, none⟩) (OW.length + 1) cap) (OW.length + 1) (OW.flatMap cvL ++ mkC)
 each : ∀ (i : Nat) (c : CV), OW[i]? = some c → ∃ d, L[i]? = some d ∧ c.k = d.k ∧ c.s = d.s ∧ c.l = d.l
 wid : ∀ c ∈ OW, WideAt w c.v c.l ∧ ∃ k, c.v.ownBlock = some k ∧ B ≤ k
 apt : ∀ (i j : Nat) (c d : CV), OW[i]? = some c → OW[j]? = some d → i ≠ j → ∀ k, c.v.ownBlock = some k → d.v.ownBlock ≠ some k
theorem OwAt.grown {B : Nat} {L : List CV} {w w' : World} {v : Value} {OW : List CV} {S : Nat → Prop} (h : OwAt B L w v OW) (hg : Grown w w' S) (h1 : ∀ k, v.ownBlock = some k → ¬ S k) (h2 : ∀ c ∈ OW, ∀ k, c.v.ownBlock = some k → ¬ S k) : OwAt B L w' v OW := by
 obtain ⟨g, cap, rfl, ho⟩ := h.own
 exact ⟨h.len, ⟨g, cap, rfl, qo ho hg fun k hk => h1 k hk⟩, h.each, fun c hc => ⟨(h.wid c hc).1.grown hg (h2 c hc), (h.wid c hc).2⟩, h.apt⟩
theorem OwAt.below {B : Nat} {L : List CV} {w w' : World} {v : Value} {OW : List CV} (h : OwAt B L w v OW) (hb : Below w.heap.size w w') : OwAt B L w' v OW := h.grown (gF hb) (fun _ _ e => e) fun _ _ _ _ e => e
theorem KY : ∀ (OW : List CV) (i : Nat) (c : CV), OW[i]? = some c → ∀ (j : Nat) (u : Value), (cvL c)[j]? = some u → (OW.flatMap cvL)[i * 3 + j]? = some u
 | a :: r, 0, x, hx, j, u, hu => by
  simp at hx
  subst hx
  have hj : j < 3 := (List.getElem?_eq_some_iff.mp hu).1
  rw [List.flatMap_cons, Nat.zero_mul, Nat.zero_add, List.getElem?_append_left (by show j < 3; exact hj)]
  exact hu
 | a :: r, i + 1, x, hx, j, u, hu => by
  rw [List.flatMap_cons, List.getElem?_append_right (by show 3 ≤ _; omega)]
  have h := KY r i x (by simpa using hx) j u hu
  rw [show (i + 1) * 3 + j - (cvL a).length = i * 3 + j from by show (i + 1) * 3 + j - 3 = _; omega]
  exact h
theorem jU : ∀ (OW : List CV), (OW.flatMap cvL).length = OW.length * 3
 | [] => rfl
 | a :: r => by
  rw [List.flatMap_cons, List.length_append, jU r, List.length_cons]
  show 3 + _ = _
  omega
theorem OwAt.csv {B : Nat} {L : List CV} {w : World} {v : Value} {OW : List CV} (h : OwAt B L w v OW) : CsV w.heap.size w v OW := by
 obtain ⟨g, cap, rfl, ho⟩ := h.own
 rcases ho.2 with ⟨h1, _⟩ | ⟨g', cap', cur, h1, _, h3, h4, h5, h6, h7⟩
 ·cases h1
 ·cases h1
  refine .inr ⟨g, 0, cap, rfl, by omega, (show Typ w g 44 from ⟨cur, _, h3⟩).lt, fun i c hc j u hu => ?_, fun c hc => ⟨(h.wid c hc).1.row, fun _ k hk => ((h.wid c hc).1.typ hk).lt⟩⟩
  have hi : i < OW.length := (List.getElem?_eq_some_iff.mp hc).1
  have hj : j < 3 := (List.getElem?_eq_some_iff.mp hu).1
  have e : cur.toList[i * 3 + j]? = some u := by
   have e2 : (cur.toList.take ((OW.length + 1) * 3))[i * 3 + j]? = some u := by
    rw [h7, List.getElem?_append_left (by rw [jU]; omega)]
    exact KY OW i c hc j u hu
   rw [List.getElem?_take, if_pos (by omega)] at e2
   exact e2
  rw [Array.getElem?_toList] at e
  rw [Nat.zero_add]
  exact (show Blk w g 44 cur from h3).c _ e
set_option maxRecDepth 8000 in
set_option maxHeartbeats 2000000 in
theorem XX (v : Value) (L : List CV) (w : World) (hC : CsV w.heap.size w v L) (hF : yY L = true) : Calls Try.prog 6 #[v] w fun e w' => ∃ v' OW, e = .returned v' ∧ OwAt w.heap.size L w' v' OW ∧ Below w.heap.size w w' := by
 obtain ⟨n, hn⟩ : ∃ z, Keep (L.length = z) := ⟨_, ⟨rfl⟩⟩
 obtain ⟨la, cap, rfl, hC'⟩ : ∃ la cap, v = .slice la n cap ∧ (0 < n → ∃ b off, la = some ⟨b, off, none⟩ ∧ CsAt w.heap.size w b off L) := by
  rcases hC with ⟨a, c, rfl, rfl⟩ | ⟨b, off, cap, rfl, h2, h3⟩
  ·exact ⟨a, c, by rw [← hn.o]; rfl, fun h => by rw [← hn.o] at h; simp at h⟩
  ·exact ⟨_, cap, by rw [hn.o], fun _ => ⟨b, off, rfl, h3⟩⟩
 have HC := kk hC'
 have HF : Keep (∀ c ∈ L, c.l.length ≤ 134217728) := ⟨fun c hc => by obtain ⟨i, hi⟩ := List.getElem?_of_mem hc; exact yI hF hi⟩
 have HN : Keep (n ≤ 2097152) := ⟨by rw [← hn.o]; exact xV hF⟩
 clear hC hC' hF
 go_enter Try.func6, Try.ntmps6
 refine wp_seq_k fun K1 hK1 => rgn (Vv (.slice none 0 0) (h:=WL.nil (hK1 _ _ (wp_seq_k fun K2 hK2 => rgn (?_)))))
 refine WL.bs (by kernel_rfl) 22 0 _ rfl #[] (by simp) _ _ (DL w) ?_
 have hB1 := kk (qg w (.cells #[] 44))
 have hS1 := kk (UO w.heap.size L w (Nat.le_refl _))
 generalize w.alloc (.cells #[] 44) = w1 at *
 obtain ⟨g0, hg0⟩ := nn w
 have hS1' : Keep (WdS w.heap.size L w1 (.slice (some ⟨g0, 0, none⟩) 0 0) []) := ⟨by rw [hg0]; exact hS1.o⟩
 rw [← hg0]
 clear hS1 hg0
 simp only [Act.put, pqA, pqB, pqC]
 refine Vv (.slice (some ⟨g0, 0, none⟩) 0 0) (h:=WL.nil (hK2 _ _ (wp_seq_k fun K3 hK3 => wp_seq_k fun K4 hK4 => rgn (Vv (.int .i64 0) (h:=WL.nil (hK4 _ _ (wp_block (?_))))))))
 refine wp_loop (fun ac wr => ∃ (t : Nat) (u6 u7 u8 u9 u10 u11 u12 u13 u14 u15 u16 u17 u18 u19 u20 u21 u22 u23 u24 u25 u26 u27 u28 u29 u30 u31 : Value) (vl : Value), ac = { tmps := #[.slice la n cap, undef, .slice none 0 0, vl, .int .i64 (t : Int), .slice (some ⟨g0, 0, none⟩) 0 0, u6, u7, u8, u9, u10, u11, u12, u13, u14, u15, u16, u17, u18, u19, u20, u21, u22, u23, u24, u25, u26, u27, u28, u29, u30, u31, undef, undef, undef, undef, undef, undef, undef, undef], defers := [] } ∧ t ≤ n ∧ ∃ OW : List CV, OW.length = t ∧ Below w.heap.size w wr ∧ WdS w.heap.size L wr vl OW) (fun a _ => n - (intOf (a.tmps.getD 4 undef)).toNat) ⟨0, undef, undef, undef, undef, undef, undef, undef, undef, undef, undef, undef, undef, undef, undef, undef, undef, undef, undef, undef, undef, undef, undef, undef, undef, undef, undef, .slice (some ⟨g0, 0, none⟩) 0 0, rfl, Nat.zero_le _, [], rfl, hB1.o, hS1'.out⟩ ?_
 rintro ac wr ⟨t, u6, u7, u8, u9, u10, u11, u12, u13, u14, u15, u16, u17, u18, u19, u20, u21, u22, u23, u24, u25, u26, u27, u28, u29, u30, u31, vl, rfl, ht, hrel⟩
 obtain ⟨OW, hl, hb, hs⟩ := hrel
 have JB := kk hb
 have JS := kk hs
 have JL := kk hl
 clear hl hb hs
 by_cases htl : t < n
 ·have htl' : (t : Int) < (n : Int) := by omega
  obtain ⟨b, off, hla, hcx⟩ := HC.o (by omega)
  subst hla
  have HX := kk hcx
  clear hcx
  obtain ⟨c, Hc⟩ : ∃ z, Keep (L[t]? = some z) := ⟨L[t]'(by rw [hn.o]; exact htl), ⟨List.getElem?_eq_getElem _⟩⟩
  obtain ⟨ra, rc, hrv⟩ := qR (HX.o.row c (List.mem_of_getElem? Hc.o)).1
  have HSz : Keep (c.l.length ≤ 134217728) := ⟨HF.o c (List.mem_of_getElem? Hc.o)⟩
  have hw3 : IntKind.i64.wrap ((t : Int) + 1) = ((t + 1 : Nat) : Int) := by rw [IntKind.wrap_i64]; have := HN.o; omega
  refine wp_seq_k fun K5 hK5 => wp_seq_k fun K6 hK6 => rgn (Vv (.int .i64 (t : Int)) (h:=Vv (.slice (some ⟨b, off, none⟩) n cap) (h:=Vv (.int .i64 (n : Int)) (h:=Vt (h:=WL.nil (hK6 _ _ (Ct (h:=wp_skip (hK5 _ _ (wp_seq_k fun K7 hK7 => wp_block (?_)))))))))))
  have hS0 : Keep (∀ wx : World, Below w.heap.size w wx → (fun wx => wx.cell? ⟨b, off + t * 3, none⟩ = some (.int .i64 c.k) ∧ wx.cell? ⟨b, off + t * 3 + 1, none⟩ = some (.string c.s) ∧ wx.cell? ⟨b, off + t * 3 + 2, none⟩ = some (.slice ra c.l.length rc)) wx) := ⟨fun wx hg => by
   have h := (HX.o.below hg).c Hc.o
   exact ⟨h.1, h.2.1, by rw [← hrv]; exact h.2.2⟩⟩
  have Hrow : Keep (∀ wx : World, Below w.heap.size w wx → RowAt wx (.slice ra c.l.length rc) c.l) := ⟨fun wx hg => by rw [← hrv]; exact ((HX.o.below hg).row c (List.mem_of_getElem? Hc.o)).1⟩
  refine wp_region_held_drew (S := fun wx => wx.cell? ⟨b, off + t * 3, none⟩ = some (.int .i64 c.k) ∧ wx.cell? ⟨b, off + t * 3 + 1, none⟩ = some (.string c.s) ∧ wx.cell? ⟨b, off + t * 3 + 2, none⟩ = some (.slice ra c.l.length rc)) (by kernel_rfl) (hS0.o _ JB.o.drew) (fun hHeld => ?_)
  have BD : Keep (Below w.heap.size w wr.drew) := ⟨JB.o.drew⟩
  have bd : Keep (Below wr.heap.size wr wr.drew) := ⟨(Below.refl _ _).drew⟩
  generalize wr.drew = wd at *
  refine uK 0 ⟨some 12, .move (.tmp 3), 22, _, _, none⟩ vl rfl hHeld ?_
  refine uK 1 ⟨some 13, .move (.tmp 0), 22, _, _, none⟩ (.slice (some ⟨b, off, none⟩) n cap) rfl hHeld ?_
  refine uK 2 ⟨some 14, .move (.tmp 4), 3, _, _, none⟩ (.int .i64 (t : Int)) rfl hHeld ?_
  refine uK 6 ⟨some 18, .move (.tmp 0), 22, _, _, none⟩ (.slice (some ⟨b, off, none⟩) n cap) rfl hHeld ?_
  refine uK 7 ⟨some 19, .move (.tmp 4), 3, _, _, none⟩ (.int .i64 (t : Int)) rfl hHeld ?_
  refine uK 11 ⟨some 23, .move (.tmp 0), 22, _, _, none⟩ (.slice (some ⟨b, off, none⟩) n cap) rfl hHeld ?_
  refine uK 12 ⟨some 24, .move (.tmp 4), 3, _, _, none⟩ (.int .i64 (t : Int)) rfl hHeld ?_
  refine uK 3 ⟨some 15, .indexAddr 22 (.tmp 13) (.tmp 14), 0, _, _, none⟩ (.pointer (some ⟨b, off + t * 3, none⟩)) rfl hHeld ?_
  refine uK 8 ⟨some 20, .indexAddr 22 (.tmp 18) (.tmp 19), 0, _, _, none⟩ (.pointer (some ⟨b, off + t * 3, none⟩)) rfl hHeld ?_
  refine uK 13 ⟨some 25, .indexAddr 22 (.tmp 23) (.tmp 24), 0, _, _, none⟩ (.pointer (some ⟨b, off + t * 3, none⟩)) rfl hHeld ?_
  refine uK 4 ⟨some 16, .fieldAddr 44 (.tmp 15) 0, 0, _, _, none⟩ (.pointer (some ⟨b, off + t * 3, none⟩)) rfl hHeld ?_
  refine uK 9 ⟨some 21, .fieldAddr 44 (.tmp 20) 1, 0, _, _, none⟩ (.pointer (some ⟨b, off + t * 3 + 1, none⟩)) rfl hHeld ?_
  refine uK 14 ⟨some 26, .fieldAddr 44 (.tmp 25) 2, 0, _, _, none⟩ (.pointer (some ⟨b, off + t * 3 + 2, none⟩)) rfl hHeld ?_
  refine uK 5 ⟨some 17, .load 3 (.tmp 16), 3, _, _, none⟩ (.int .i64 c.k) rfl hHeld ?_
  refine uK 10 ⟨some 22, .load 9 (.tmp 21), 9, _, _, none⟩ (.string c.s) rfl hHeld ?_
  refine uK 15 ⟨some 27, .load 42 (.tmp 26), 42, _, _, none⟩ (.slice ra c.l.length rc) rfl hHeld ?_
  refine rd1 16 ⟨some 28, .call { callee := .value (.func 22), args := #[.tmp 27], argTypes := #[42] }, 42, _, _, none⟩ rfl fun K hK => ?_
  refine qz 22 _ _ rfl UB #[.slice ra c.l.length rc] (by simp [Act.eval]) (fun vz wz => WideAt wz vz c.l ∧ (∃ k, vz.ownBlock = some k ∧ wd.heap.size ≤ k) ∧ Below wd.heap.size wd wz) ?_ ?_
  ·refine (Kz (.slice ra c.l.length rc) c.l wd (Hrow.o wd BD.o) (by have := HSz.o; omega)).mono ?_
   rintro e wz ⟨v, rfl, k1, k2, k3⟩
   exact ⟨_, rfl, k1, k2, k3⟩
  rintro vz wa ⟨k1, k2, k3⟩
  obtain ⟨xa, xc, hvo⟩ : ∃ a c_, vz = .slice a c.l.length c_ := qR k1.row
  subst hvo
  have Ha := kk k1
  have Hk := kk k2
  have ba := kk k3
  have BA := tb BD k3
  clear k1 k2 k3
  refine hK _ _ (hS0.o _ BA.o) fun hHa => kNx ?_
  clear hK
  refine rd1 17 ⟨some 29, .build 44 #[(0, .tmp 17), (1, .tmp 22), (2, .tmp 28)], 44, _, _, none⟩ rfl fun K hK => ?_
  refine jZ 44 #[(0, .tmp 17), (1, .tmp 22), (2, .tmp 28)] rfl #[.int .i64 c.k, .string c.s, .slice xa c.l.length xc] (by simpa [Act.eval] using Dq c.k c.s xa c.l.length xc) ?_
  refine hK _ _ (hS0.o _ BA.o) fun hHb => kNx ?_
  clear hK
  refine rd1 18 ⟨some 30, .buildSlice 22 1 #[(0, .tmp 29)], 22, _, _, none⟩ rfl fun K hK => ?_
  refine zI 22 1 _ rfl #[(0, .agg #[.int .i64 c.k, .string c.s, .slice xa c.l.length xc])] (by simp [Act.eval]) _ _ (Dk c.k c.s xa c.l.length xc wa) ?_
  have bb := qg wa (.cells #[.int .i64 c.k, .string c.s, .slice xa c.l.length xc] 44)
  have Qb := kk (Blk.new wa 44 #[.int .i64 c.k, .string c.s, .slice xa c.l.length xc])
  generalize wa.alloc (.cells #[.int .i64 c.k, .string c.s, .slice xa c.l.length xc] 44) = wb at *
  obtain ⟨g, hg⟩ := nm wa
  rw [← hg.o] at Qb ⊢
  have BB := tb BA bb
  have b2 : Keep (Below wr.heap.size wr wb) := ⟨bd.o.trans ((ba.o.trans (bb.mono ba.o.size)).mono bd.o.size)⟩
  have Hb := kk (Ha.o.grown (gF bb) fun _ _ e => e)
  clear bb hg
  refine hK _ _ (hS0.o _ BB.o) fun hHc => kNx ?_
  clear hK
  refine rd1 19 ⟨some 31, .call { callee := .builtin .append, args := #[.tmp 12, .tmp 30], argTypes := #[22, 22] }, 22, _, _, none⟩ rfl fun K hK => ?_
  refine UK 22 44 3 48 _ Try.underlying22 VZ rfl (by decide) (.tmp 12) (.tmp 30) rfl w.heap.size vl ⟨g, 0, none⟩ t 1 1 (OW.flatMap cvL) (cvL (⟨c.k, c.s, .slice xa c.l.length xc, c.l⟩ : CV)) rfl rfl (by have h := qj JS.o.own b2.o; rw [JL.o] at h; exact h) rfl (fun j u hu => by rw [Addr.add_mid, Nat.zero_add]; exact Qb.o.c j (by rw [← Array.getElem?_toList]; exact hu)) (by simp [cvL, Value.oneCell']) (by have := HN.o; omega) (by decide) BB.o.size ?_
  intro v9 wc k1 k2
  have SE : Keep (WdS w.heap.size L wc v9 (OW ++ [(⟨c.k, c.s, .slice xa c.l.length xc, c.l⟩ : CV)])) := ⟨JS.o.add (d := c) JB.o.size b2.o Hb.o (by obtain ⟨k, h1, h2⟩ := Hk.o; exact ⟨k, h1, Nat.le_trans bd.o.size h2⟩) (by rw [JL.o]; exact Hc.o) rfl rfl rfl (by rw [JL.o]; exact k1) (Grown.of k2 fun _ _ e => e)⟩
  have BC : Keep (Below w.heap.size w wc) := ⟨BB.o.trans ((Grown.of k2 fun k _ e => e).to_below (fun k hk e => by have := (zV JS.o.own k e).1; omega) BB.o.size)⟩
  clear k1 k2
  refine hK _ _ (hS0.o _ BC.o) fun hHd => kNx ?_
  clear hK
  refine uK 20 ⟨some 3, .assign (.tmp 31), 22, _, _, none⟩ v9 rfl hHd ?_
  refine wpAnyH_done (by kernel_rfl) ?_ _
  refine hK7 _ _ (rgn (Vv (.int .i64 (t : Int)) (h:=Vv (.int .i64 ((t + 1 : Nat) : Int)) (h:=Vv (.int .i64 ((t + 1 : Nat) : Int)) (h:=?_)))))
  refine WL.nil ?_
  refine ⟨⟨t + 1, .int .i64 (t : Int), .slice (some ⟨b, off, none⟩) n cap, .int .i64 (n : Int), .bool true, .int .i64 (t : Int), .int .i64 ((t + 1 : Nat) : Int), vl, .slice (some ⟨b, off, none⟩) n cap, .int .i64 (t : Int), .pointer (some ⟨b, off + t * 3, none⟩), .pointer (some ⟨b, off + t * 3, none⟩), .int .i64 c.k, .slice (some ⟨b, off, none⟩) n cap, .int .i64 (t : Int), .pointer (some ⟨b, off + t * 3, none⟩), .pointer (some ⟨b, off + t * 3 + 1, none⟩), .string c.s, .slice (some ⟨b, off, none⟩) n cap, .int .i64 (t : Int), .pointer (some ⟨b, off + t * 3, none⟩), .pointer (some ⟨b, off + t * 3 + 2, none⟩), .slice ra c.l.length rc, .slice xa c.l.length xc, .agg #[.int .i64 c.k, .string c.s, .slice xa c.l.length xc], .slice (some ⟨g, 0, none⟩) 1 1, v9, v9, rfl, by omega, _, by rw [List.length_append, JL.o]; rfl, BC.o, SE.o⟩, by simp [intOf]; omega⟩
 ·have htl' : ¬ (t : Int) < (n : Int) := by omega
  have hte : t = n := by omega
  subst hte
  refine wp_seq_k fun K8 hK8 => wp_seq_k fun K9 hK9 => rgn (Vv (.int .i64 (t : Int)) (h:=Vv (.slice la t cap) (h:=Vv (.int .i64 (t : Int)) (h:=Vf (h:=WL.nil (hK9 _ _ (Cf (h:=wp_exit (hK3 _ _ (wp_seq_k fun K10 hK10 => rgn (Vv (vl) (h:=?_))))))))))))
  refine WL.bld (by kernel_rfl) 44 _ rfl [(0, .int .i64 (-5)), (1, .string ⟨#[109, 97, 114, 107]⟩)] (by simp [Act.eval]) #[.int .i64 (-5), .string ⟨#[109, 97, 114, 107]⟩, .slice none 0 0] (Ds (-5) _) ?_
  simp only [Act.put, pqA, pqB, pqC]
  refine WL.bs (by kernel_rfl) 22 1 _ rfl #[(0, .agg #[.int .i64 (-5), .string ⟨#[109, 97, 114, 107]⟩, .slice none 0 0])] (by simp [Act.eval]) _ _ (Dk (-5) _ none 0 0 wr) ?_
  have bb := qg wr (.cells #[.int .i64 (-5), .string ⟨#[109, 97, 114, 107]⟩, .slice none 0 0] 44)
  have Qb := kk (Blk.new wr 44 #[.int .i64 (-5), .string ⟨#[109, 97, 114, 107]⟩, .slice none 0 0])
  generalize wr.alloc (.cells #[.int .i64 (-5), .string ⟨#[109, 97, 114, 107]⟩, .slice none 0 0] 44) = wb at *
  obtain ⟨g, hg⟩ := nm wr
  rw [← hg.o] at Qb ⊢
  have BB := tb JB bb
  have b2 := kk bb
  clear bb hg
  simp only [Act.put, pqA, pqB, pqC]
  refine WL.appG (by kernel_rfl) 22 44 3 48 _ Try.underlying22 VZ rfl (by decide) (.tmp 32) (.tmp 34) rfl w.heap.size vl ⟨g, 0, none⟩ t 1 1 (OW.flatMap cvL) mkC rfl rfl (by have h := qj JS.o.own b2.o; rw [JL.o] at h; exact h) rfl (fun j u hu => by rw [Addr.add_mid, Nat.zero_add]; exact Qb.o.c j (by rw [← Array.getElem?_toList]; exact hu)) (by simp [mkC, Value.oneCell']) (by have := HN.o; omega) (by decide) BB.o.size ?_
  intro v9 wc k1 k2
  obtain ⟨g9, c9, hv9⟩ : ∃ g9 c9, v9 = .slice (some ⟨g9, 0, none⟩) (t + 1) c9 := by
   rcases k1.2 with ⟨_, h0⟩ | ⟨g', cap', cur, h1, _⟩
   ·omega
   ·exact ⟨g', cap', h1⟩
  subst hv9
  have hgk : Grown wb wc (fun k => vl.ownBlock = some k) := Grown.of k2 fun _ _ e => e
  have hle : Keep (t ≤ c9) := ⟨by
   rcases k1.2 with ⟨h1, _⟩ | ⟨g', cap', cur, h1, _, _, h4, _⟩
   ·cases h1
   ·cases h1; omega⟩
  have OE : Keep (OwAt w.heap.size L wc (.slice (some ⟨g9, 0, none⟩) t c9) OW) := ⟨⟨by rw [JL.o, hn.o], ⟨g9, c9, by rw [JL.o], by rw [JL.o]; exact k1⟩, JS.o.each, fun c hc => ⟨JV ((JS.o.wid c hc).1.grown (gF b2.o) fun _ _ e => e) (fun k e => qn (qj JS.o.own b2.o) e) hgk, (JS.o.wid c hc).2⟩, JS.o.apt⟩⟩
  have BC : Keep (Below w.heap.size w wc) := ⟨BB.o.trans (hgk.to_below (fun k hk e => by have := (zV JS.o.own k e).1; omega) BB.o.size)⟩
  clear k1 k2 hgk
  simp only [Act.put, pqA, pqB, pqC]
  refine Vv (.slice (some ⟨g9, 0, none⟩) (t + 1) c9) (h:=WL.nil (hK10 _ _ (wp_seq_k fun K11 hK11 => rgn (Vv (.slice (some ⟨g9, 0, none⟩) (t + 1) c9) (h:=Vv (.slice la t cap) (h:=Vv (.int .i64 (t : Int)) (h:=?_)))))))
  refine WL.slr (by kernel_rfl) 22 (.tmp 36) none (some (.tmp 38)) rfl (.slice (some ⟨g9, 0, none⟩) (t + 1) c9) none (some (.int .i64 (t : Int))) (.slice (some ⟨g9, 0, none⟩) t c9) rfl rfl rfl (KD _ _ _ _ hle.o _) ?_
  simp only [Act.put, pqA, pqB, pqC]
  refine Vv (.slice (some ⟨g9, 0, none⟩) t c9) (h:=WL.nil (hK11 _ _ (wp_ret ?_)))
  go_ret
  exact ⟨_, OW, rfl, OE.o, BC.o⟩
theorem Qt (w : World) (vs : Array Value) : (callFunc 41 vs).run Try.prog w = .ok (.enter 41 vs) w := by kernel_rfl
theorem Qq (w : World) (vs : Array Value) : (callFunc 47 vs).run Try.prog w = .ok (.enter 47 vs) w := by kernel_rfl
theorem Qp (w : World) (vs : Array Value) : (callFunc 51 vs).run Try.prog w = .ok (.enter 51 vs) w := by kernel_rfl
theorem DU (w : World) (vs : Array Value) : (callFunc 49 vs).run Try.prog w = .ok (.enter 49 vs) w := by kernel_rfl
theorem Qn (w : World) (vs : Array Value) : (callFunc 68 vs).run Try.prog w = .ok (.enter 68 vs) w := by kernel_rfl
theorem Uv (w : World) (vs : Array Value) : (callFunc 69 vs).run Try.prog w = .ok (.enter 69 vs) w := by kernel_rfl
theorem Uu (w : World) (vs : Array Value) : (callFunc 70 vs).run Try.prog w = .ok (.enter 70 vs) w := by kernel_rfl
def RsV (w : World) (v : Value) (us : List Value) (rs : List (List Int)) : Prop :=
 us.length = rs.length ∧ (∀ (j : Nat) (u : Value) (l : List Int), us[j]? = some u → rs[j]? = some l → RowAt w u l) ∧
 ((v = .slice none 0 0 ∧ us = []) ∨ ∃ g cap, v = .slice (some ⟨g, 0, none⟩) us.length cap ∧ ∀ (j : Nat) (u : Value), us[j]? = some u → w.cell? ⟨g, j, none⟩ = some u)
theorem RsV.below {w w' : World} {v : Value} {us : List Value} {rs : List (List Int)} (h : RsV w v us rs) (hb : Below w.heap.size w w') : RsV w' v us rs := by
 obtain ⟨h1, h2, h3⟩ := h
 refine ⟨h1, fun j u l hu hl => (h2 j u l hu hl).below hb, ?_⟩
 rcases h3 with h3 | ⟨g, cap, e, hc⟩
 ·exact .inl h3
 ·refine .inr ⟨g, cap, e, fun j u hu => ?_⟩
  have hx := hc j u hu
  exact (gF hb).cell hx (fun h => h)
theorem vq (rs : List (List Int)) : ∀ n, n ≤ rs.length → zA (fun i => rs.getD i []) n = (rs.take n).flatten
 | 0, _ => by simp [zA]
 | n + 1, h => by
  rw [zA, vq rs n (by omega), List.take_add_one, List.flatten_append]
  congr 1
  rw [List.getD_eq_getElem?_getD]
  cases e : rs[n]? with
  | none => rw [List.getElem?_eq_none_iff] at e; omega
  | some x => simp
theorem XQ (B : Nat) (v : Value) (us : List Value) (rs : List (List Int)) (w : World) (ho : w.ownsRow B 42 1 v us.length us) (hp : 0 < us.length) (he : us.length = rs.length) (hr : ∀ (j : Nat) (u : Value) (l : List Int), us[j]? = some u → rs[j]? = some l → RowAt w u l) (hn : us.length ≤ 1000) (hl : rs.flatten.length ≤ 140737650005000) :
  Calls Try.prog 41 #[v] w fun e w' => e = .returned (.agg (qb 32 (qy rs.flatten))) ∧ Below w.heap.size w w' := by
 obtain ⟨a, c, rfl⟩ := qE ho
 obtain ⟨g, rfl, _, _⟩ := vE ho hp (List.getElem?_eq_getElem hp)
 have hc := vq rs rs.length (Nat.le_refl _)
 rw [List.take_of_length_le (Nat.le_refl _)] at hc
 have h := Yz g 0 us.length c (fun i => us.getD i undef) (fun i => rs.getD i []) w (fun i hi => by
  obtain ⟨g', e', h1, _⟩ := vE ho hi (List.getElem?_eq_getElem hi)
  injection e' with e'
  injection e' with e'
  subst e'
  rw [Nat.zero_add, h1, List.getD_eq_getElem?_getD, List.getElem?_eq_getElem hi]; rfl) (fun i hi => by
  refine hr i _ _ (?_ : us[i]? = some (us.getD i undef)) (?_ : rs[i]? = some (rs.getD i []))
  ·rw [List.getD_eq_getElem?_getD, List.getElem?_eq_getElem hi]; rfl
  ·rw [List.getD_eq_getElem?_getD, List.getElem?_eq_getElem (by omega : i < rs.length)]; rfl) (by omega) (by rw [he, hc]; omega)
 rw [he, hc, ← he] at h
 exact h
theorem Yi (w : World) (ty : TypeId) (B : Nat) (v vx : Value) (n : Nat) (xs us : List Value) (rs : List (List Int)) (hown : w.ownsRow B 42 1 v n xs) (hx : RsV w vx us rs) (hb : n + us.length ≤ 4398046511104) (hB : B ≤ w.heap.size) :
  ∃ v' w', (Builtin.append_ #[48, 48] ty #[v, vx]).run Try.prog w = .ok v' w' ∧ w'.ownsRow B 42 1 v' (n + us.length) (xs ++ us) ∧ (Grown w w' fun k => v.ownBlock = some k) ∧ (v'.ownBlock = v.ownBlock ∨ v'.ownBlock = some w.heap.size) := by
 obtain ⟨i, hi, hzz⟩ := Option.map_eq_some_iff.1 ZW
 simp only [Prod.mk.injEq] at hzz
 obtain ⟨hz, hsz, hby⟩ := hzz
 obtain ⟨he, hr, ⟨rfl, rfl⟩ | ⟨g, cap, rfl, hc⟩⟩ := hx
 ·have hrun := run_append_owned_none (P := Try.prog) (w := w) B 48 ty 42 i 1 Try.underlying48 hi v n xs hown
  exact ⟨v, w, hrun, by simpa using hown, Grown.refl _ _, .inl rfl⟩
 ·obtain ⟨v', w', hr', h1, h2, _, h3⟩ := run_append_own_at (P := Try.prog) w B 48 ty 42 i (.slice none 0 0) 1 24 Try.underlying48 hi hz hsz hby rfl (by omega) v n xs hown ⟨g, 0, none⟩ us.length cap us (by omega) (fun j u hu => by
   have := hc j u hu
   rw [Addr.add_mid, Nat.zero_add]; exact this) (fun u hu => by
   obtain ⟨j, hj, e⟩ := List.getElem_of_mem hu
   obtain ⟨a, c, e'⟩ := qR (hr j u (rs[j]'(by omega)) (by rw [List.getElem?_eq_getElem hj, e]) (List.getElem?_eq_getElem _))
   rw [e']; rfl) (by unfold maxLen; omega) (by omega) hB
  exact ⟨v', w', hr', h1, Grown.of h2 fun k _ e => e, h3⟩
theorem XA {w : World} {u : Value} {l : List Int} {g : Nat} {T : TypeId} {a : Option Addr} {n c : Nat} (hg : Blk w g T #[.slice a n c]) (hu : RowAt w u l) (hl : l ≠ []) : u.ownBlock ≠ some g := by
 intro e
 rcases hu with ⟨rfl, rfl⟩ | ⟨a, c, rfl, rfl⟩ | ⟨q, off, cap, rfl, h1, h2⟩
 ·exact hl rfl
 ·exact hl rfl
 ·have h3 := h2 0 (List.length_pos_iff.2 hl)
  have e' : q = g := by simpa [Value.ownBlock] using e
  rw [e', hg.cell] at h3
  have h4 := (Array.getElem?_eq_some_iff.1 h3).1
  simp at h4
  subst h4
  simp at h3
theorem WL.appRs {ops : Array Oper} {rest : List Oper} {o : Oper} {a : Act} {w : World} {Q : Exit → Act → World → Prop} (hw : Region.wanted o (yielded ops a.tmps) = true) (s x : Operand)
  (ho : o.op = .call { callee := .builtin .append, args := #[s, x], argTypes := #[48, 48] }) (v vx : Value) (B n : Nat) (xs us : List Value) (rs : List (List Int))
  (hs : a.eval s = v) (hx : a.eval x = vx) (hown : w.ownsRow B 42 1 v n xs) (hc : RsV w vx us rs) (hb : n + us.length ≤ 4398046511104) (hB : B ≤ w.heap.size)
  (h : ∀ v' w', w'.ownsRow B 42 1 v' (n + us.length) (xs ++ us) → (Grown w w' fun k => v.ownBlock = some k) → (v'.ownBlock = v.ownBlock ∨ v'.ownBlock = some w.heap.size) → WL Try.prog ops Q rest (a.put o.dst v') w') : WL Try.prog ops Q (o :: rest) a w :=
 ⟨qC hw fun K hK => by
  obtain ⟨v', w', hr, h1, h2, h3⟩ := Yi w o.type B v vx n xs us rs hown hc hb hB
  unfold Oper.wp execOp
  simp only [ho, resolve, invoke, builtin, Sem.run_bind, Sem.run_pure, Result.andThen_ok, List.map_toArray, List.map_cons, List.map_nil, hs, hx, hr]
  exact hK _ _ (h v' w' h1 h2 h3).o⟩
set_option maxRecDepth 8000 in
theorem yT (m : Int) (vx : Value) (us : List Value) (rs : List (List Int)) (w : World) (hx : RsV w vx us rs) (hn : us.length ≤ 100) (hl : rs.flatten.length + 1 ≤ 140737650005000) :
  Calls Try.prog 47 #[.int .u8 m, vx] w fun e w' => e = .returned (.agg (qb 32 (qy (m :: rs.flatten)))) ∧ Below w.heap.size w w' := by
 have HX := kk hx
 have HN := kk hn
 have HL := kk hl
 clear hx hn hl
 go_enter Try.func47, Try.ntmps47
 refine wp_seq_k fun K1 hK1 => rgn (zO 32 qm fun r w1 hr0 R1 b1 => ?_)
 have hrw := lh hr0
 have X1 := kk (HX.o.below b1.o)
 refine WL.nil (hK1 _ _ (wp_seq_k fun K2 hK2 => rgn (Vv (.int .u8 m) (h:=?_))))
 refine WL.bs (by kernel_rfl) 42 1 _ rfl #[(0, .int .u8 m)] (by simp [Act.eval]) _ _ (bsK m w1) ?_
 have Y2 : Keep (RowAt (w1.alloc (.cells (bv [m]).toArray 5)) (.slice (some ⟨w1.heap.size, 0, none⟩) 1 1) [m]) := ⟨jb w1 m⟩
 have b2 := kk (qg w1 (.cells (bv [m]).toArray 5))
 generalize w1.alloc (.cells (bv [m]).toArray 5) = w2 at *
 obtain ⟨g1, hg1⟩ := nm w1
 rw [← hg1.o] at Y2 ⊢
 have R2 := kbx R1 b2.o
 have B2 := tb b1 b2.o
 have X2 := kk (X1.o.below b2.o)
 clear R1 b1 X1
 simp only [Act.put, pqA, pqB, pqC]
 refine WL.bs (by kernel_rfl) 48 1 _ rfl #[(0, .slice (some ⟨g1, 0, none⟩) 1 1)] (by simp [Act.eval]) _ _ (kv _ _ _ w2) ?_
 have O3 : Keep ((w2.alloc (.cells #[.slice (some ⟨g1, 0, none⟩) 1 1] 42)).ownsRow w2.heap.size 42 1 (.slice (some ⟨w2.heap.size, 0, none⟩) 1 1) 1 [.slice (some ⟨g1, 0, none⟩) 1 1]) := ⟨rfl, .inr ⟨w2.heap.size, 1, _, rfl, Nat.le_refl _, Blk.new w2 42 _, Nat.le_refl _, by decide, rfl, rfl⟩⟩
 have b3 := kk (qg w2 (.cells #[.slice (some ⟨g1, 0, none⟩) 1 1] 42))
 have Q3 := kk (Blk.new w2 42 #[.slice (some ⟨g1, 0, none⟩) 1 1])
 generalize w2.alloc (.cells #[.slice (some ⟨g1, 0, none⟩) 1 1] 42) = w3 at *
 obtain ⟨g2, hg2⟩ := nm w2
 rw [← hg2.o] at O3 Q3 ⊢
 have R3 := kbx R2 b3.o
 have Y3 := kk (Y2.o.below b3.o)
 have X3 := kk (X2.o.below b3.o)
 have B3 := tb B2 b3.o
 have hrg : Keep (r ≠ g2) := ⟨by have := R2.o.lt; have := hg2.o; omega⟩
 have hgw : Keep (w.heap.size ≤ g2) := ⟨by have := B2.o.size; have := hg2.o; omega⟩
 have hgs : Keep (g2 ≤ w3.heap.size) := ⟨by rw [hg2.o]; exact b3.o.size⟩
 have NX3 : Keep (∀ (u : Value) (l : List Int), RowAt w3 u l → l ≠ [] → u.ownBlock ≠ some g2) := ⟨fun u l hu hl => XA Q3.o hu hl⟩
 clear Q3
 clear R2 Y2 X2 b3 B2 b2
 simp only [Act.put, pqA, pqB, pqC]
 refine VlS (vx) ?_
 refine WL.appRs (by kernel_rfl) (.tmp 7) (.tmp 8) rfl (.slice (some ⟨g2, 0, none⟩) 1 1) vx g2 1 _ us rs rfl rfl O3.o X3.o (by have := HN.o; omega) hgs.o ?_
 intro v4 w4 k1 k2 k3
 have O4 := kk k1
 have R4 := kk (k2.blk R3.o fun e => by simp [Value.ownBlock] at e; exact hrg.o e.symm)
 have B4 : Keep (Below w.heap.size w w4) := ⟨B3.o.trans (k2.to_below (fun k hk e => by simp [Value.ownBlock] at e; have := hgw.o; omega) B3.o.size)⟩
 have T4 : Keep (∀ (u : Value) (l : List Int), RowAt w3 u l → RowAt w4 u l) := ⟨fun u l hu => by
  by_cases hl : l = []
  ·subst hl
   rcases hu with h | h | ⟨q, off, cap, h1, h2, h3⟩
   ·exact .inl h
   ·exact .inr (.inl h)
   ·exact .inr (.inr ⟨q, off, cap, h1, h2, fun i hi => by simp at hi⟩)
  ·exact hu.grown k2 fun k hk _ e => by simp [Value.ownBlock] at e; rw [← e] at hk; exact NX3.o u l hu hl hk⟩
 clear k1 k2 k3
 simp only [Act.put, pqA, pqB, pqC]
 have hall := XQ g2 v4 ([.slice (some ⟨g1, 0, none⟩) 1 1] ++ us) ([m] :: rs) w4 (by have h := O4.o; rw [List.length_append]; exact h) (by simp) (by simp [X3.o.1]) (fun j u l hu hl => by
  cases j with
  | zero => simp at hu hl; subst hu hl; exact T4.o _ _ Y3.o
  | succ j => simp at hu hl; exact T4.o _ _ (X3.o.2.1 j u l hu hl)) (by simp; have := HN.o; omega) (by simpa using HL.o)
 rw [show ([m] :: rs).flatten = m :: rs.flatten from by simp] at hall
 refine WL.callF (by kernel_rfl) 41 _ _ rfl Qt #[v4] (by simp [Act.eval]) ?_
 refine hall.mono ?_
 rintro e w8 ⟨rfl, k1⟩
 refine ⟨_, rfl, ?_⟩
 have R8 := kbx R4 k1
 have B8 := tb B4 k1
 clear hall k1
 simp only [Act.put, pqA, pqB, pqC]
 refine StR (qb 32 (qy (m :: rs.flatten))) R8.o (qd _) (qh _ _ _) (qi _ _) ?_
 have R9 := kk (R8.o.setRow (qb 32 (qy (m :: rs.flatten))))
 have B9 : Keep (Below w.heap.size w (w8.setRow r (qb 32 (qy (m :: rs.flatten))))) := ⟨qf B8.o hrw.o _⟩
 generalize w8.setRow r (qb 32 (qy (m :: rs.flatten))) = w9 at *
 refine WL.nil (hK2 _ _ (wp_ret ?_))
 try simp only [Exit.inBlock, Exit.then]
 refine bodyPost_ret (v := .agg (qb 32 (qy (m :: rs.flatten)))) (results_cell_row Try.results47 _ _ r 32 _ (0, 0) _ rfl R9.o Try.underlying32 rfl (qd _)) rfl ⟨rfl, B9.o⟩
end Go.Proofs.Ytdpcjfafbmhceaa
namespace Go.Proofs.Ytdpcjfafbmhceaa
open Go.RowKit
structure OutAt (w : World) (p : Nat) (v : Value) (l : List Int) : Prop where
 blk : Blk w p 125 #[v]
 own : Own w v l
def OF (p : Nat) (v : Value) : Nat → Prop := fun k => k = p ∨ v.ownBlock = some k
def OutPost (p : Nat) (v : Value) (l : List Int) (w : World) (e : Ending) (w' : World) : Prop :=
 e = .returned (.tuple #[]) ∧ ∃ v', OutAt w' p v' l ∧ Moved w v v' ∧ Grown w w' (OF p v)
theorem OutAt.grown {w w' : World} {p : Nat} {v : Value} {l : List Int} {S : Nat → Prop} (h : OutAt w p v l) (hg : Grown w w' S) (hs : ∀ k, OF p v k → ¬ S k) : OutAt w' p v l :=
 ⟨hg.blk h.blk (hs p (.inl rfl)), h.own.grown hg fun k hk => hs k (.inr hk)⟩
theorem OutPost.trans {p : Nat} {v v1 : Value} {l : List Int} {w w1 w2 : World} {e : Ending} (hm : Moved w v v1) (hg : Grown w w1 (OF p v)) (h : OutPost p v1 l w1 e w2) : OutPost p v l w e w2 := by
 obtain ⟨he, v2, h1, h2, h3⟩ := h
 refine ⟨he, v2, h1, hm.trans hg.size h2, hg.next h3 ?_⟩
 rintro i hi (rfl | h)
 ·exact .inl rfl
 ·exact .inr (hm.old hi h)
theorem OutAt.stored {w w1 : World} {p : Nat} {v v' : Value} {l m : List Int} (h : OutAt w p v l) (ha : AppPost w v m v' w1) : OutPost p v m w (.returned (.tuple #[])) (w1.setCell ⟨p, 0, none⟩ v') := by
 have hne := h.own.ne h.blk (by decide)
 have hp1 : Blk w1 p 125 #[v] := ha.grown.blk h.blk hne
 have hne1 : v'.ownBlock ≠ some p := ha.1.ne hp1 (by decide)
 refine ⟨rfl, v', ⟨hp1.set 0 v', ha.1.grown (Grown.setCell w1 p 0 v' (S := fun k => k = p) fun _ => rfl) fun k hk e => hne1 (by rw [hk, e])⟩, ha.moved, ?_⟩
 exact (ha.grown.mono fun i _ h => Or.inr h).next (Grown.setCell w1 p 0 v' (S := fun k => k = p) fun _ => rfl) fun i _ e => .inl e
theorem OutAt.box {w : World} {p : Nat} {v : Value} {l : List Int} (h : OutAt w p v l) (o : Obj) : OutAt (w.alloc o) p v l := h.grown (Grown.alloc w o fun _ => False) fun _ _ h => h
theorem OutPost.box {p : Nat} {v : Value} {l : List Int} {w w2 : World} {e : Ending} {o : Obj} (h : OutPost p v l (w.alloc o) e w2) : OutPost p v l w e w2 :=
 h.trans (Moved.refl _ _) (Grown.alloc w o _)
set_option maxRecDepth 8000 in
set_option maxHeartbeats 400000 in
theorem Js (p : Nat) (v : Value) (l : List Int) (c : Int) (w : World) (h : OutAt w p v l) (hb : (l ++ [c]).length ≤ 140737488355328) :
  Calls Try.prog 84 #[ptr p, .int .u8 c] w (OutPost p v (l ++ [c]) w) := by
 have hO1 := h.box (.cells #[.int .u8 c] 5)
 have HO : Keep (OutAt (w.alloc (.cells #[.int .u8 c] 5)) p v l) := ⟨hO1⟩
 have c0 : w.cell? ⟨p, 0, none⟩ = some v := by rw [h.blk.cell]; rfl
 have HB : Keep (l.length + [c].length ≤ 140737488355328) := ⟨by simpa using hb⟩
 clear h hO1 hb
 go_enter Try.func84, Try.ntmps84
 go_wp2_with (first | (at_builtin; refine jh rfl (.tmp 8) (.tmp 10) rfl v (.slice (some ⟨w.heap.size, 0, none⟩) 1 1) l [c] rfl rfl HO.out.own (jb w c) HB.out ?_; intro v' w' hp; refine Hid.out ?_))
 refine zp ?_
 obtain ⟨a1, n1, k1, rfl⟩ := hp.1.sl
 have HP : Keep (AppPost (w.alloc (.cells #[.int .u8 c] 5)) v (l ++ [c]) (.slice a1 n1 k1) w') := ⟨hp⟩
 have hp1 : Blk w' p 125 #[v] := hp.grown.blk HO.out.blk (HO.out.own.ne HO.out.blk (by decide))
 have c1 : w'.cell? ⟨p, 0, none⟩ = some v := by rw [hp1.cell]; rfl
 have f1 : w'.frozen? ⟨p, 0, none⟩ = false := hp1.frozen 0
 clear hp hp1 c0
 go_wp2
 go_end0
 exact (HO.out.stored HP.out).box
set_option maxRecDepth 8000 in
set_option maxHeartbeats 1000000 in
theorem ke (p : Nat) (v : Value) (l : List Int) (x : Nat) (w : World) (h : OutAt w p v l) (hx : x < 18446744073709551616) (hb : (l ++ qQ x).length ≤ 140737488355328) :
  Calls Try.prog 68 #[ptr p, .int .u64 (x : Int)] w (OutPost p v (l ++ qQ x) w) := by
 have HO : Keep (OutAt w p v l) := ⟨h⟩
 have HB : Keep ((l ++ qQ x).length ≤ 140737488355328) := ⟨hb⟩
 have HX : Keep (x < 18446744073709551616) := ⟨hx⟩
 clear h hx hb
 go_enter Try.func68, Try.ntmps68
 go_wp2
 go_loopw [1] (fun i wr => ∃ (y : Nat) (v1 : Value) (l1 : List Int), i = .int .u64 (y : Int) ∧ Keep (y < 18446744073709551616) ∧ OutAt wr p v1 l1 ∧ Keep (l1 ++ qQ y = l ++ qQ x) ∧ Moved w v v1 ∧ Grown w wr (OF p v)) (fun i _ => (intOf i).toNat)
 case atStart => exact ⟨x, v, l, rfl, HX, HO.o, ⟨rfl⟩, Moved.refl _ _, Grown.refl _ _⟩
 case round =>
  obtain ⟨y, v1, l1, rfl, hy, hO1, hl1, hm1, hg1⟩ := hrel
  by_cases h128 : 128 ≤ y
  ·have h128' : (128 : Int) ≤ (y : Int) := by omega
   have hs := Jt y h128 hy.o
   have HS : Keep (qQ y = ((y % 128 + 128 : Nat) : Int) :: qQ (y / 128)) := ⟨hs⟩
   have hlen : Keep ((l1 ++ [(y : Int) % 128 + 128]).length ≤ 140737488355328) := ⟨by
    have e := congrArg List.length hl1.o
    have := HB.o
    rw [HS.o] at e
    simp only [List.length_append, List.length_cons, List.length_nil] at e this ⊢
    omega⟩
   clear hs
   go_wp2_with fail
   refine (Js p v1 l1 _ wr hO1 hlen.o).mono ?_
   rintro e w2 ⟨rfl, v2, hO2, hm2, hg2⟩
   obtain ⟨z, hz⟩ : ∃ z, Keep (y / 128 = z) := ⟨_, ⟨rfl⟩⟩
   have hz1 : (y : Int) / 128 = (z : Int) := by have := hz.o; omega
   clear hO1
   go_wp2
   go_roundw
   case rel =>
    refine ⟨z, v2, l1 ++ [(y : Int) % 128 + 128], rfl, ⟨by have := hy.o; have := hz.o; omega⟩, hO2, ⟨?_⟩, hm1.trans hg1.size hm2, hg1.next hg2 ?_⟩
    ·rw [← hl1.o, HS.o, hz.o, List.append_assoc]
     simp
    ·rintro i hi (rfl | h)
     ·exact .inl rfl
     ·exact .inr (hm1.old hi h)
   case measure => simp only [intOf]; have := hz.o; omega
  ·have h128' : ¬ (128 : Int) ≤ (y : Int) := by omega
   have hs := ki y (by omega)
   have HL : Keep (l1 ++ [(y : Int)] = l ++ qQ x) := ⟨by rw [← hl1.o, hs]⟩
   have hlen : Keep ((l1 ++ [(y : Int)]).length ≤ 140737488355328) := ⟨by rw [HL.o]; exact HB.o⟩
   clear hs
   go_wp2_with fail
   refine (Js p v1 l1 _ wr hO1 hlen.o).mono ?_
   intro e w2 hpost
   rw [HL.o] at hpost
   have hpost2 := hpost.trans hm1 hg1
   obtain ⟨rfl, hrest⟩ := hpost2
   have HR : Keep (∃ v', OutAt w2 p v' (l ++ qQ x) ∧ Moved w v v' ∧ Grown w w2 (OF p v)) := ⟨hrest⟩
   clear hrest hpost hO1
   go_wp2
   go_end0
   exact ⟨rfl, HR.o⟩
set_option maxRecDepth 8000 in
set_option maxHeartbeats 1000000 in
theorem Yy (p : Nat) (v : Value) (l : List Int) (t : ByteArray) (w : World) (h : OutAt w p v l) (hb : l.length + (zJ (lst t)).length ≤ 140737488355328) :
  Calls Try.prog 85 #[ptr p, .string t] w (OutPost p v (l ++ zJ (lst t)) w) := by
 have HO : Keep (OutAt w p v l) := ⟨h⟩
 have HB : Keep (l.length + (qQ t.size).length + t.size ≤ 140737488355328) := ⟨by simpa [zJ, Nat.add_assoc, zF] using hb⟩
 have hw := vI t.size (by have := HB.out; omega)
 clear h hb
 go_enter Try.func85, Try.ntmps85
 go_wp2_with fail
 refine (ke p v l t.size w HO.out (by have := HB.out; omega) (by have := HB.out; simp only [List.length_append]; omega)).mono ?_
 rintro e w1 ⟨rfl, v1, hO1, hm1, hg1⟩
 have HO1 : Keep (OutAt w1 p v1 (l ++ qQ t.size)) := ⟨hO1⟩
 have c0 : w1.cell? ⟨p, 0, none⟩ = some v1 := by rw [hO1.blk.cell]; rfl
 have HB1 : Keep ((l ++ qQ t.size).length + t.size ≤ 140737488355328) := ⟨by simpa using HB.out⟩
 clear hO1
 go_wp2_with (first | (at_builtin; refine Ky rfl (.tmp 13) (.tmp 14) rfl v1 (l ++ qQ t.size) t rfl rfl HO1.out.own HB1.out ?_; intro v' w' hp; refine Hid.out ?_))
 refine zp ?_
 obtain ⟨a1, n1, k1, rfl⟩ := hp.1.sl
 have HP : Keep (AppPost w1 v1 (l ++ zJ (lst t)) (.slice a1 n1 k1) w') := ⟨by rw [List.append_assoc, ← zF] at hp; exact hp⟩
 have hp1 : Blk w' p 125 #[v1] := hp.grown.blk HO1.out.blk (HO1.out.own.ne HO1.out.blk (by decide))
 have c1 : w'.cell? ⟨p, 0, none⟩ = some v1 := by rw [hp1.cell]; rfl
 have f1 : w'.frozen? ⟨p, 0, none⟩ = false := hp1.frozen 0
 clear hp hp1 c0
 go_wp2
 go_end0
 exact (HO1.out.stored HP.out).trans hm1 hg1
set_option maxRecDepth 8000 in
set_option maxHeartbeats 400000 in
theorem Yx (p : Nat) (v : Value) (l : List Int) (t : ByteArray) (w : World) (h : OutAt w p v l) (hb : l.length + (zJ (lst t)).length ≤ 140737488355328) :
  Calls Try.prog 69 #[ptr p, .string t] w (OutPost p v (l ++ zJ (lst t)) w) := by
 have HC := kk (Yy p v l t w h hb)
 clear h hb
 go_enter Try.func69, Try.ntmps69
 go_wp2_with fail
 refine HC.o.mono ?_
 rintro e w1 ⟨rfl, hrest⟩
 have HR := kk hrest
 clear hrest
 go_wp2
 go_end0
 exact ⟨rfl, HR.o⟩
set_option maxRecDepth 8000 in
set_option maxHeartbeats 400000 in
theorem QT (w : World) : Calls Try.prog 67 #[] w fun e w' => e = .returned (ptr w.heap.size) ∧ w' = w.alloc (.cells #[.slice none 0 0] 125) := by
 go_enter Try.func67, Try.ntmps67
 go_wp2
 go_ret
 exact ⟨rfl, rfl⟩
theorem Yw (w : World) : OutAt (w.alloc (.cells #[.slice none 0 0] 125)) w.heap.size (.slice none 0 0) [] := ⟨Blk.new _ _ _, ju _⟩
set_option maxRecDepth 8000 in
set_option maxHeartbeats 400000 in
theorem YA (p : Nat) (v : Value) (l : List Int) (w : World) (h : OutAt w p v l) (hb : l.length ≤ 140737488355328) :
  Calls Try.prog 70 #[ptr p] w fun e w' => e = .returned (.slice (some ⟨w.heap.size, 0, none⟩) l.length l.length) ∧ w' = w.alloc (.cells (bv l).toArray 5) := by
 have HO : Keep (OutAt (w.alloc (.cells (qb l.length fun _ => 0) 5)) p v l) := ⟨h.box _⟩
 have HB : Keep (l.length ≤ 281474976710656) := ⟨by omega⟩
 obtain ⟨a, c, rfl⟩ := qR h.own.row
 have c0 : w.cell? ⟨p, 0, none⟩ = some (.slice a l.length c) := by rw [h.blk.cell]; rfl
 clear h hb
 go_enter Try.func70, Try.ntmps70
 go_wp2_with (first | (refine JK rfl (.tmp 8) (.tmp 8) rfl l.length l.length (Nat.le_refl _) HB.out rfl rfl ?_; refine Hid.out ?_))
 refine zp ?_
 have hg := kk (Blk.new w 5 (qb l.length fun _ => 0))
 obtain ⟨w1, hw1⟩ : ∃ w1, Keep (w1 = w.alloc (.cells (qb l.length fun _ => 0) 5)) := ⟨_, ⟨rfl⟩⟩
 rw [← hw1.out] at hg HO ⊢
 have c1 : w1.cell? ⟨p, 0, none⟩ = some (.slice a l.length c) := by rw [HO.out.blk.cell]; rfl
 clear c0
 have hcp := Yg w1 w.heap.size l.length (.slice a l.length c) l 3 5 (qb l.length fun _ => 0) hg.out (qB _ _) HO.out.own.row
 go_wp2
 go_ret
 refine ⟨rfl, ?_⟩
 rw [hw1.out]
 exact World.setRow_alloc_new _ _ _ _
end Go.Proofs.Ytdpcjfafbmhceaa
namespace Go.Proofs.Ytdpcjfafbmhceaa
open Go.RowKit
set_option linter.unusedSimpArgs false
set_option linter.unusedVariables false
theorem yO (w : World) (vs : Array Value) : (callFunc 24 vs).run Try.prog w = .ok (.enter 24 vs) w := by kernel_rfl
theorem Ga (a : Option Addr) (n c : Nat) (a' : Option Addr) (n' c' : Nat) (w : World) : (Instr.buildSlice 48 2 #[(0, .slice a n c), (1, .slice a' n' c')]).run Try.prog w = .ok (.slice (some ⟨w.heap.size, 0, none⟩) 2 2) (w.alloc (.cells #[.slice a n c, .slice a' n' c'] 42)) := by kernel_rfl
theorem RsV.two {w : World} {g : Nat} {u x : Value} {l m : List Int} (hg : Blk w g 42 #[u, x]) (hu : RowAt w u l) (hx : RowAt w x m) : RsV w (.slice (some ⟨g, 0, none⟩) 2 2) [u, x] [l, m] := by
 refine ⟨rfl, fun j a b ha hb => ?_, .inr ⟨g, 2, rfl, fun j a ha => ?_⟩⟩
 ·match j with
  | 0 => simp at ha hb; subst ha hb; exact hu
  | 1 => simp at ha hb; subst ha hb; exact hx
  | j + 2 => simp at ha
 ·rw [hg.cell]
  match j with
  | 0 => simpa using ha
  | 1 => simpa using ha
  | j + 2 => simp at ha
theorem RsV.one {w : World} {g : Nat} {u : Value} {l : List Int} (hg : Blk w g 42 #[u]) (hu : RowAt w u l) : RsV w (.slice (some ⟨g, 0, none⟩) 1 1) [u] [l] := by
 refine ⟨rfl, fun j a b ha hb => ?_, .inr ⟨g, 1, rfl, fun j a ha => ?_⟩⟩
 ·match j with
  | 0 => simp at ha hb; subst ha hb; exact hu
  | j + 1 => simp at ha
 ·rw [hg.cell]
  match j with
  | 0 => simpa using ha
  | j + 1 => simp at ha
set_option maxRecDepth 8000 in
theorem yl (a b : Nat → Int) (w : World) : Calls Try.prog 51 #[.agg (qb 32 a), .agg (qb 32 b)] w fun e w' => e = .returned (.agg (qb 32 (qy (RtP.innR (hl 32 a) (hl 32 b))))) ∧ Below w.heap.size w w' := by
 obtain ⟨hh, hhe⟩ : ∃ z : Array Value, Keep (z = (qb 32 (qy (RtP.innR (hl 32 a) (hl 32 b))))) := ⟨_, ⟨rfl⟩⟩
 go_enter Try.func51, Try.ntmps51
 refine wp_seq_k fun K1 hK1 => rgn (xM 32 (.tmp 0) (qb 32 a) fun c w1 hc0 C1 b1 => ?_)
 refine xM 32 (.tmp 1) (qb 32 b) fun d w2 hd0 D2 b2 => ?_
 have C2 := kbx C1 b2.o
 have B2 := tb b1 b2.o
 clear C1 b1 b2 hc0 hd0
 refine zO 32 qm fun r w3 hr0 R3 b3 => ?_
 have C3 := kbx C2 b3.o
 have D3 := kbx D2 b3.o
 have B3 := tb B2 b3.o
 have hrw : Keep (w.heap.size ≤ r) := ⟨by rw [hr0.o]; exact B2.o.size⟩
 clear C2 D2 b3 hr0 B2
 refine WL.nil (hK1 _ _ (wp_seq_k fun K2 hK2 => ?_))
 have Cd : Keep (Blk w3.drew c _ _) := ⟨C3.o⟩
 have Dd : Keep (Blk w3.drew d _ _) := ⟨D3.o⟩
 have Rd : Keep (Blk w3.drew r _ _) := ⟨R3.o⟩
 have Bd : Keep (Below w.heap.size w w3.drew) := ⟨B3.o.drew⟩
 clear C3 D3 R3 B3
 refine wp_region_held_drew (S := fun _ => True) (by kernel_rfl) (trivial) (fun hHeld => ?_)
 refine uG 0 ⟨some 5, .slice 32 (.tmp 2) none none none, 42, _, _, none⟩ (.slice (some ⟨c, 0, none⟩) 32 32) rfl hHeld ?_
 refine uG 1 ⟨some 6, .slice 32 (.tmp 3) none none none, 42, _, _, none⟩ (.slice (some ⟨d, 0, none⟩) 32 32) rfl hHeld ?_
 refine rd1 2 ⟨some 7, .buildSlice 48 2 #[(0, .tmp 5), (1, .tmp 6)], 48, _, _, none⟩ rfl fun K hK => ?_
 refine zI 48 2 _ rfl #[(0, .slice (some ⟨c, 0, none⟩) 32 32), (1, .slice (some ⟨d, 0, none⟩) 32 32)] (by simp [Act.eval]) _ _ (Ga _ _ _ _ _ _ _) ?_
 have b4 := kk (qg w3.drew (.cells #[.slice (some ⟨c, 0, none⟩) 32 32, .slice (some ⟨d, 0, none⟩) 32 32] 42))
 have Q4 := kk (Blk.new w3.drew 42 #[.slice (some ⟨c, 0, none⟩) 32 32, .slice (some ⟨d, 0, none⟩) 32 32])
 generalize w3.drew.alloc (.cells #[.slice (some ⟨c, 0, none⟩) 32 32, .slice (some ⟨d, 0, none⟩) 32 32] 42) = w4 at *
 obtain ⟨g, hg⟩ := nm w3.drew
 rw [← hg.o] at Q4 ⊢
 have X4 : Keep (RsV w4 (.slice (some ⟨g, 0, none⟩) 2 2) [.slice (some ⟨c, 0, none⟩) 32 32, .slice (some ⟨d, 0, none⟩) 32 32] [hl 32 a, hl 32 b]) := ⟨RsV.two Q4.o ((xR Cd.o).below b4.o) ((xR Dd.o).below b4.o)⟩
 have R4 := kbx Rd b4.o
 have B4 := tb Bd b4.o
 clear Cd Dd Rd Bd b4 Q4
 refine hK _ _ trivial fun hH1 => kNx ?_
 clear hK
 refine rd1 3 ⟨some 8, .call { callee := .value (.func 47), args := #[.const (Value.int IntKind.u8 1), .tmp 7], argTypes := #[5, 48] }, 32, _, _, none⟩ rfl fun K hK => ?_
 refine qz 47 _ _ rfl Qq #[.int .u8 1, .slice (some ⟨g, 0, none⟩) 2 2] (by simp [Act.eval]) (fun vz wz => vz = .agg hh ∧ Below w4.heap.size w4 wz) ?_ ?_
 ·refine (yT 1 _ _ _ w4 X4.o (by simp) (by simp [jm])).mono ?_
  rintro e wz ⟨rfl, k1⟩
  exact ⟨_, rfl, by rw [hhe.o]; simp [RtP.innR], k1⟩
 rintro vz w8 ⟨rfl, k1⟩
 have R8 := kbx R4 k1
 have B8 := tb B4 k1
 clear k1 X4 R4 B4
 refine hK _ _ (trivial) fun hH2 => kNx ?_
 clear hK
 refine rd1 4 ⟨none, .store 32 (.tmp 4) (.tmp 8), 0, _, _, none⟩ rfl fun K hK => ?_
 refine wp_store_row 32 (.tmp 4) (.tmp 8) rfl r hh rfl rfl 32 (qb 32 fun _ => 0) R8.o (by rw [hhe.o]; exact qd _) (by rw [hhe.o]; exact qh _ _ _) (by rw [hhe.o]; exact qi _ _) ?_
 have R9 := kk (R8.o.setRow hh)
 have B9 : Keep (Below w.heap.size w (w8.setRow r hh)) := ⟨qf B8.o hrw.o _⟩
 generalize w8.setRow r hh = w9 at *
 refine hK _ _ trivial fun hH3 => kNx ?_
 clear hK
 refine wpAnyH_done (by kernel_rfl) ?_ _
 refine hK2 _ _ (wp_ret ?_)
 try simp only [Exit.inBlock, Exit.then]
 refine bodyPost_ret (v := .agg hh) (results_cell_row Try.results51 _ _ r 32 _ (0, 0) _ rfl R9.o Try.underlying32 rfl (by rw [hhe.o]; exact qd _)) rfl ⟨by rw [hhe.o], B9.o⟩
structure OO (w0 w : World) (p : Nat) (v : Value) (l : List Int) : Prop where
 o : OutAt w p v l
 nw : ∀ k, OF p v k → w0.heap.size ≤ k
 bel : Below w0.heap.size w0 w
theorem OO.start (w : World) : OO w (w.alloc (.cells #[.slice none 0 0] 125)) w.heap.size (.slice none 0 0) [] :=
 ⟨Yw w, fun k hk => (hk.elim (fun e => by omega) fun e => by simp [Value.ownBlock] at e), qg w _⟩
theorem OO.lay {w0 w w' : World} {p : Nat} {v : Value} {l m : List Int} {e : Ending} (h : OO w0 w p v l) (hp : OutPost p v m w e w') : ∃ v', OO w0 w' p v' m := by
 obtain ⟨_, v', h1, h2, h3⟩ := hp
 refine ⟨v', h1, fun k hk => ?_, ?_⟩
 ·rcases hk with e | e
  ·exact h.nw k (.inl e)
  ·rcases h2 with e' | ⟨j, e', hj⟩
   ·rw [e'] at e; exact h.nw k (.inr e)
   ·rw [e'] at e; injection e with e; have := h.bel.size; omega
 ·exact h.bel.trans (h3.to_below (fun k hk e => by have := h.nw k e; omega) h.bel.size)
set_option maxRecDepth 8000 in
theorem Jr (k : Nat) (s : ByteArray) (vv : Value) (v : List Int) (w : World) (hV : RowAt w vv v) (hKd : k < 9223372036854775808) (hS : (s.size ≤ 140737488351232 ∧ v.length ≤ 140000000)) :
  Calls Try.prog 49 #[.agg #[.int .i64 (k : Int), .string s, vv]] w fun e w' => e = .returned (.agg (qb 32 (qy (RtP.leafR qQ ⟨k, lst s, v⟩)))) ∧ Below w.heap.size w w' := by
 obtain ⟨va, vc, rfl⟩ := qR hV
 have HV := kk hV
 have HKd := kk hKd
 have HS := kk hS
 have hkw : IntKind.u64.wrap (k : Int) = (k : Int) := by rw [IntKind.wrap_u64]; omega
 have hvw : IntKind.u64.wrap (v.length : Int) = (v.length : Int) := by rw [IntKind.wrap_u64]; omega
 clear hV hKd hS
 obtain ⟨hh, hhe⟩ : ∃ z : Array Value, Keep (z = (qb 32 (qy (RtP.leafR qQ ⟨k, lst s, v⟩)))) := ⟨_, ⟨rfl⟩⟩
 go_enter Try.func49, Try.ntmps49
 refine wp_seq_k fun K1 hK1 => rgn (xM 44 (.tmp 0) #[.int .i64 (k : Int), .string s, .slice va v.length vc] fun c w1 hc0 C1 b1 => ?_)
 refine zO 32 qm fun r w2 hr0 R2 b2 => ?_
 have C2 := kbx C1 b2.o
 have B2 := tb b1 b2.o
 have hrw : Keep (w.heap.size ≤ r) := ⟨by rw [hr0.o]; exact b1.o.size⟩
 have V2 := kk (HV.o.below B2.o)
 clear C1 b1 b2 hr0 hc0
 refine WL.nil (hK1 _ _ (wp_seq_k fun K2 hK2 => rgn (ClS (QT w2) ?_)))
 rintro e w3 ⟨rfl, hw⟩
 refine ⟨_, rfl, ?_⟩
 have O3 : Keep (OO w2 w3 w2.heap.size (.slice none 0 0) []) := ⟨by rw [hw]; exact OO.start w2⟩
 clear hw
 obtain ⟨p, hp0⟩ := nm w2
 rw [← hp0.o] at O3
 rw [← hp0.o]
 have d0 := (C2.o.below O3.o.bel C2.o.lt).c 0 (by rfl : (#[.int .i64 (k : Int), .string s, .slice va v.length vc] : Array Value)[0]? = some (.int .i64 (k : Int)))
 refine Vv (.pointer (some ⟨p, 0, none⟩)) (h:=WL.nil (hK2 _ _ (wp_seq_k fun K3 hK3 => rgn (Vv (.pointer (some ⟨p, 0, none⟩)) (h:=Vv (.pointer (some ⟨c, 0, none⟩)) (h:=Vv (.int .i64 (k : Int)) (h:=Vv (.int .u64 (k : Int)) (h:=?_))))))))
 clear d0
 refine WL.callF (by kernel_rfl) 68 _ _ rfl Qn #[.pointer (some ⟨p, 0, none⟩), .int .u64 (k : Int)] (by simp [Act.eval]) ?_
 refine (ke p _ [] k w3 O3.o.o (by have := HKd.o; omega) (by have := qO k; have := qO (lst s).length; have := qO v.length; have := zF s; have := HS.o; simp; omega)).mono ?_
 rintro e w4 k1
 obtain ⟨v4, h4⟩ := O3.o.lay k1
 have O4 := kk h4
 refine ⟨_, k1.1, ?_⟩
 clear h4 k1 O3
 have d1 := (C2.o.below O4.o.bel C2.o.lt).c 1 (by rfl : (#[.int .i64 (k : Int), .string s, .slice va v.length vc] : Array Value)[1]? = some (.string s))
 simp only [Act.put, pqA, pqB, pqC]
 refine WL.nil (hK3 _ _ (wp_seq_k fun K4 hK4 => rgn (Vv (.pointer (some ⟨p, 0, none⟩)) (h:=Vv (.pointer (some ⟨c, 1, none⟩)) (h:=Vv (.string s) (h:=?_))))))
 clear d1
 refine WL.callF (by kernel_rfl) 69 _ _ rfl Uv #[.pointer (some ⟨p, 0, none⟩), .string s] (by simp [Act.eval]) ?_
 refine (Yx p _ _ s w4 O4.o.o (by have := qO k; have := qO (lst s).length; have := qO v.length; have := zF s; have := HS.o; simp [zJ]; omega)).mono ?_
 rintro e w5 k1
 obtain ⟨v5, h5⟩ := O4.o.lay k1
 have O5 := kk h5
 refine ⟨_, k1.1, ?_⟩
 clear h5 k1 O4
 have d2 := (C2.o.below O5.o.bel C2.o.lt).c 2 (by rfl : (#[.int .i64 (k : Int), .string s, .slice va v.length vc] : Array Value)[2]? = some (.slice va v.length vc))
 simp only [Act.put, pqA, pqB, pqC]
 refine WL.nil (hK4 _ _ (wp_seq_k fun K5 hK5 => rgn (Vv (.pointer (some ⟨p, 0, none⟩)) (h:=Vv (.pointer (some ⟨c, 2, none⟩)) (h:=Vv (.slice va v.length vc) (h:=Vv (.int .i64 (v.length : Int)) (h:=Vv (.int .u64 (v.length : Int)) (h:=?_))))))))
 clear d2
 refine WL.callF (by kernel_rfl) 68 _ _ rfl Qn #[.pointer (some ⟨p, 0, none⟩), .int .u64 (v.length : Int)] (by simp [Act.eval]) ?_
 refine (ke p _ _ v.length w5 O5.o.o (by have := HS.o; omega) (by have := qO k; have := qO (lst s).length; have := qO v.length; have := zF s; have := HS.o; simp [zJ]; omega)).mono ?_
 rintro e w6 k1
 obtain ⟨v6, h6⟩ := O5.o.lay k1
 have O6 := kk h6
 refine ⟨_, k1.1, ?_⟩
 clear h6 k1 O5
 obtain ⟨l6, hl6⟩ : ∃ z, Keep (z = [] ++ qQ k ++ zJ (lst s) ++ qQ v.length) := ⟨_, ⟨rfl⟩⟩
 rw [← hl6.o] at O6
 have hL6 : Keep (l6.length ≤ 140737488354000 ∧ l6.length + v.length + 1 ≤ 140737650005000) := ⟨by rw [hl6.o]; have := qO k; have := qO (lst s).length; have := qO v.length; have := zF s; have := HS.o; simp [zJ]; omega⟩
 have e6 : Keep (0 :: (l6 ++ v) = RtP.leafR qQ ⟨k, lst s, v⟩) := ⟨by rw [hl6.o]; simp [RtP.leafR, zJ]⟩
 clear hl6
 simp only [Act.put, pqA, pqB, pqC]
 refine WL.nil (hK5 _ _ (wp_seq_k fun K6 hK6 => ?_))
 have D6 : Keep (OutAt w6.drew p v6 l6) := ⟨O6.o.o.grown ((Grown.refl w6 (fun _ => False)).drew) fun _ _ h => h⟩
 have B6 : Keep (Below w.heap.size w w6.drew) := ⟨(B2.o.trans (O6.o.bel.mono B2.o.size)).drew⟩
 have C6 : Keep (Blk w6.drew c 44 #[.int .i64 (k : Int), .string s, .slice va v.length vc]) := ⟨C2.o.below O6.o.bel.drew C2.o.lt⟩
 have R6 : Keep (Blk w6.drew r 32 (qb 32 fun _ => 0)) := ⟨R2.o.below O6.o.bel.drew R2.o.lt⟩
 have V6 : Keep (RowAt w6.drew (.slice va v.length vc) v) := ⟨(V2.o.below O6.o.bel).below (Below.refl _ _).drew⟩
 have c2 := C6.o.c 2 (by rfl : (#[.int .i64 (k : Int), .string s, .slice va v.length vc] : Array Value)[2]? = some (.slice va v.length vc))
 clear O6 C2 R2 V2 B2
 refine wp_region_held_drew (S := fun wx => wx.cell? ⟨c, 2, none⟩ = some (.slice va v.length vc)) (by kernel_rfl) (c2) (fun hHeld => ?_)
 refine uG 0 ⟨some 20, .move (.tmp 3), 109, _, _, none⟩ (.pointer (some ⟨p, 0, none⟩)) rfl hHeld ?_
 refine uG 2 ⟨some 22, .fieldAddr 44 (.tmp 1) 2, 0, _, _, none⟩ (.pointer (some ⟨c, 2, none⟩)) rfl hHeld ?_
 refine uG 3 ⟨some 23, .load 42 (.tmp 22), 42, _, _, none⟩ (.slice va v.length vc) rfl hHeld ?_
 refine rd1 1 ⟨some 21, .call { callee := .value (.func 70), args := #[.tmp 20], argTypes := #[109] }, 42, _, _, none⟩ rfl fun K hK => ?_
 refine qz 70 _ _ rfl Uu #[.pointer (some ⟨p, 0, none⟩)] (by simp [Act.eval]) (fun vz wz => vz = .slice (some ⟨w6.heap.size, 0, none⟩) l6.length l6.length ∧ wz = w6.drew.alloc (.cells (bv l6).toArray 5)) ?_ ?_
 ·refine (YA p v6 l6 w6.drew D6.o (by have := hL6.o; omega)).mono ?_
  rintro e wz ⟨rfl, k1⟩
  exact ⟨_, rfl, rfl, k1⟩
 rintro vz w7 ⟨rfl, k1⟩
 have b7 : Below w6.drew.heap.size w6.drew w7 := by rw [k1]; exact qg _ _
 have Y7 : Keep (RowAt w7 (.slice (some ⟨w6.heap.size, 0, none⟩) l6.length l6.length) l6) := ⟨by rw [k1]; exact (kc w6.drew l6 (by have := hL6.o; omega)).row⟩
 have V7 := kk (V6.o.below b7)
 have R7 := kbx R6 b7
 have C7 := kbx C6 b7
 have B7 := tb B6 b7
 clear k1 b7 c2 V6 R6 C6 B6 D6
 have c2 := C7.o.c 2 (by rfl : (#[.int .i64 (k : Int), .string s, .slice va v.length vc] : Array Value)[2]? = some (.slice va v.length vc))
 obtain ⟨g7, hg7⟩ := nm w6
 rw [← hg7.o] at Y7 ⊢
 refine hK _ _ (c2) fun hH1 => kNx ?_
 clear hK
 refine rd1 4 ⟨some 24, .buildSlice 48 2 #[(0, .tmp 21), (1, .tmp 23)], 48, _, _, none⟩ rfl fun K hK => ?_
 refine zI 48 2 _ rfl #[(0, .slice (some ⟨g7, 0, none⟩) l6.length l6.length), (1, .slice va v.length vc)] (by simp [Act.eval]) _ _ (Ga _ _ _ _ _ _ _) ?_
 have b8 := kk (qg w7 (.cells #[.slice (some ⟨g7, 0, none⟩) l6.length l6.length, .slice va v.length vc] 42))
 have Q8 := kk (Blk.new w7 42 #[.slice (some ⟨g7, 0, none⟩) l6.length l6.length, .slice va v.length vc])
 generalize w7.alloc (.cells #[.slice (some ⟨g7, 0, none⟩) l6.length l6.length, .slice va v.length vc] 42) = w8 at *
 obtain ⟨g, hg⟩ := nm w7
 rw [← hg.o] at Q8 ⊢
 have X8 : Keep (RsV w8 (.slice (some ⟨g, 0, none⟩) 2 2) [.slice (some ⟨g7, 0, none⟩) l6.length l6.length, .slice va v.length vc] [l6, v]) := ⟨RsV.two Q8.o (Y7.o.below b8.o) (V7.o.below b8.o)⟩
 have R8 := kbx R7 b8.o
 have C8 := kbx C7 b8.o
 have B8 := tb B7 b8.o
 clear Y7 V7 R7 C7 B7 b8 Q8 c2
 have c2 := C8.o.c 2 (by rfl : (#[.int .i64 (k : Int), .string s, .slice va v.length vc] : Array Value)[2]? = some (.slice va v.length vc))
 refine hK _ _ c2 fun hH2 => kNx ?_
 clear hK
 refine rd1 5 ⟨some 25, .call { callee := .value (.func 47), args := #[.const (Value.int IntKind.u8 0), .tmp 24], argTypes := #[5, 48] }, 32, _, _, none⟩ rfl fun K hK => ?_
 refine qz 47 _ _ rfl Qq #[.int .u8 0, .slice (some ⟨g, 0, none⟩) 2 2] (by simp [Act.eval]) (fun vz wz => vz = .agg hh ∧ Below w8.heap.size w8 wz) ?_ ?_
 ·refine (yT 0 _ _ _ w8 X8.o (by simp) (by have := hL6.o; simp; omega)).mono ?_
  rintro e wz ⟨rfl, k1⟩
  exact ⟨_, rfl, by rw [hhe.o, ← e6.o]; simp, k1⟩
 rintro vz wa ⟨rfl, k1⟩
 have Ra := kbx R8 k1
 have Ca := kbx C8 k1
 have Ba := tb B8 k1
 clear k1 X8 R8 B8 C8 c2
 have c2 := Ca.o.c 2 (by rfl : (#[.int .i64 (k : Int), .string s, .slice va v.length vc] : Array Value)[2]? = some (.slice va v.length vc))
 have crn : Keep (c ≠ r) := ⟨zr Ca.o Ra.o (by decide)⟩
 refine hK _ _ (c2) fun hH3 => kNx ?_
 clear hK
 refine rd1 6 ⟨none, .store 32 (.tmp 2) (.tmp 25), 0, _, _, none⟩ rfl fun K hK => ?_
 refine wp_store_row 32 (.tmp 2) (.tmp 25) rfl r hh rfl rfl 32 (qb 32 fun _ => 0) Ra.o (by rw [hhe.o]; exact qd _) (by rw [hhe.o]; exact qh _ _ _) (by rw [hhe.o]; exact qi _ _) ?_
 have R9 := kk (Ra.o.setRow hh)
 have C9 := kk (Ca.o.setRow_ne crn.o hh)
 have B9 : Keep (Below w.heap.size w (wa.setRow r hh)) := ⟨qf Ba.o hrw.o _⟩
 generalize wa.setRow r hh = w9 at *
 clear c2
 have c2 := C9.o.c 2 (by rfl : (#[.int .i64 (k : Int), .string s, .slice va v.length vc] : Array Value)[2]? = some (.slice va v.length vc))
 refine hK _ _ c2 fun hH4 => kNx ?_
 clear hK
 refine wpAnyH_done (by kernel_rfl) ?_ _
 refine hK6 _ _ (wp_ret ?_)
 try simp only [Exit.inBlock, Exit.then]
 refine bodyPost_ret (v := .agg hh) (results_cell_row Try.results49 _ _ r 32 _ (0, 0) _ rfl R9.o Try.underlying32 rfl (by rw [hhe.o]; exact qd _)) rfl ⟨by rw [hhe.o], B9.o⟩
end Go.Proofs.Ytdpcjfafbmhceaa
/-
 DERIVED: THE SHELF's CONTRACTS AT THIS DUMP, IN PLAIN WORDS (tools/lay-plain.mjs out of 'TryShelf.lean', which tools/lay-shelf.mjs wrote): THE SAME DECLARATIONS UNDER THE SAME NAMES: 'import', 'namespace', 'open', 'def', 'theorem' AND NOTHING ELSE: no command of the shelf's: FOR A HAND-IN. Each laying: the table of numbers ('.._ren') and one theorem, a field a fact of the dump's own or the kernel's comparison; each contract: ONE APPLICATION.
-/
namespace Go.Proofs
open Go.Shelf
def Try.lays125_ren : Go.Shelf.Ren := ⟨fun | 125 => 71 | 128 => 86 | 129 => 87 | n => n, fun | 46 => 115 | 3 => 3 | 51 => 80 | 53 => 103 | 4 => 4 | 5 => 5 | 9 => 9 | n => n, fun | n => n⟩
theorem Try.lays125 : Go.Proofs.Lays.n125 Try.prog Try.lays125_ren := {
 mixed := by kernel_rfl
 f125 := Try.func71.trans (congrArg some (by kernel_rfl))
 f128 := Try.func86.trans (congrArg some (by kernel_rfl))
 f129 := Try.func87.trans (congrArg some (by kernel_rfl))
 t3 := Try.underlying3
 a3 := Try.isAgg3
 z3 := Try.sizeOf3
 v3 := Try.zeroValue3
 t4 := Try.underlying4
 a4 := Try.isAgg4
 z4 := Try.sizeOf4
 v4 := Try.zeroValue4
 t5 := Try.underlying5
 a5 := Try.isAgg5
 z5 := Try.sizeOf5
 v5 := Try.zeroValue5
 t9 := Try.underlying9
 a9 := Try.isAgg9
 z9 := Try.sizeOf9
 v9 := Try.zeroValue9
 t46 := Try.underlying115
 a46 := Try.isAgg115
 z46 := Try.sizeOf115
 v46 := Try.zeroValue115
 t51 := Try.underlying80
 a51 := Try.isAgg80
 z51 := Try.sizeOf80
 v51 := Try.zeroValue80
 t53 := Try.underlying103
 a53 := Try.isAgg103
 z53 := Try.sizeOf103
 v53 := Try.zeroValue103 }
theorem Try.bits_Len (x : Int) (w : World) (h0 : 0 ≤ x) (h1 : x ≤ 18446744073709551615) :
  Calls Try.prog 71 #[.int .u64 x] w fun e w' => e = .returned (.int .i64 (Lib.bitLen x.toNat)) ∧ w' = w := Any.bits_Len Try.lays125 x w h0 h1
end Go.Proofs
namespace Go.Proofs.Ytdpcjfafbmhceaa
open Go.RowKit
set_option linter.unusedSimpArgs false
set_option linter.unusedVariables false
theorem Jx : ∀ (k j n : Nat), 2 ^ j ≤ n - 1 → n - 1 < 2 ^ (j + k) → ∃ q, RtP.halfF k (2 ^ j) n = 2 ^ q ∧ 2 ^ q ≤ n - 1 ∧ n - 1 < 2 ^ (q + 1)
 | 0, j, n, h1, h2 => by simp at h2; omega
 | k + 1, j, n, h1, h2 => by
  unfold RtP.halfF
  split
  ·rename_i h
   have e : 2 ^ j * 2 = 2 ^ (j + 1) := by rw [Nat.pow_succ]
   rw [e] at *
   exact Jx k (j + 1) n (by omega) (by rw [show j + 1 + k = j + (k + 1) by omega]; exact h2)
  ·rename_i h
   exact ⟨j, rfl, h1, by rw [Nat.pow_succ]; omega⟩
theorem ZZ {n : Nat} (h1 : 2 ≤ n) (h2 : n < 9223372036854775808) : ∃ q, Lib.bitLen (n - 1) = q + 1 ∧ RtP.half n = 2 ^ q ∧ q ≤ 62 := by
 obtain ⟨b1, b2, b3⟩ := Lib.bitLenAux_bounds 64 (n - 1) (by omega) (by omega)
 obtain ⟨q, h3, h4, h5⟩ := Jx 64 0 n (by simp; omega) (by simp; omega)
 have e1 : q < Lib.bitLenAux 64 (n - 1) := (Nat.pow_lt_pow_iff_right (by omega : 1 < 2)).1 (Nat.lt_of_le_of_lt h4 b3)
 have e2 : Lib.bitLenAux 64 (n - 1) - 1 < q + 1 := (Nat.pow_lt_pow_iff_right (by omega : 1 < 2)).1 (Nat.lt_of_le_of_lt b2 h5)
 refine ⟨q, by unfold Lib.bitLen; omega, h3, ?_⟩
 have h6 : (2 : Nat) ^ q < 2 ^ 63 := Nat.lt_of_le_of_lt h4 (by omega)
 have := (Nat.pow_lt_pow_iff_right (by omega : 1 < 2)).1 h6
 omega
set_option maxRecDepth 8000 in
theorem kn (n : Nat) (w : World) (h1 : 2 ≤ n) (h2 : n < 9223372036854775808) : Calls Try.prog 50 #[.int .i64 (n : Int)] w fun e w' => e = .returned (.int .i64 (RtP.half n : Int)) ∧ w' = w := by
 obtain ⟨q, hq, hh, hq62⟩ := ZZ h1 h2
 have HQ := kk hq
 have HH2 := kk hh
 have hp : (2 : Nat) ^ q < 9223372036854775808 := by
  have := Nat.pow_le_pow_right (by omega : 0 < 2) hq62
  exact Nat.lt_of_le_of_lt this (by decide)
 have hw1 : IntKind.i64.wrap ((n : Int) - 1) = ((n - 1 : Nat) : Int) := by rw [IntKind.wrap_i64]; omega
 have hw2 : IntKind.u64.wrap ((n - 1 : Nat) : Int) = ((n - 1 : Nat) : Int) := by rw [IntKind.wrap_u64]; omega
 have hw3 : IntKind.i64.wrap (((q + 1 : Nat) : Int) - 1) = (q : Int) := by rw [IntKind.wrap_i64]; omega
 have hw3' : IntKind.i64.wrap ((q : Int) + 1 - 1) = (q : Int) := by rw [IntKind.wrap_i64]; omega
 have hw4 : IntKind.i64.wrap ((2 : Int) ^ q) = ((2 ^ q : Nat) : Int) := by
  have e : ((2 ^ q : Nat) : Int) = (2 : Int) ^ q := by simp
  rw [IntKind.wrap_i64, ← e]
  omega
 have hw5 : IntKind.i64.wrap (q : Int) = (q : Int) := by rw [IntKind.wrap_i64]; omega
 have hs0 : 0 ≤ (q : Int) := by omega
 have hs1 : (q : Int) ≤ 64 := by omega
 have hs2 : ((q : Int)).toNat = q := by omega
 clear hq hh
 go_enter Try.func50, Try.ntmps50
 refine wp_seq_k fun K1 hK1 => rgn (Vv (.int .i64 0) (h:=WL.nil (hK1 _ _ (wp_seq_k fun K2 hK2 => rgn (Vv (.int .i64 (n : Int)) (h:=Vv (.int .i64 ((n - 1 : Nat) : Int)) (h:=Vv (.int .u64 ((n - 1 : Nat) : Int)) (h:=ClS (Try.bits_Len ((n - 1 : Nat) : Int) w (by omega) (by omega)) ?_))))))))
 rintro e w1 ⟨rfl, hw⟩
 refine ⟨_, rfl, ?_⟩
 have hw := hw.symm
 subst hw
 rw [Int.toNat_natCast, HQ.o]
 refine Vv (.int .i64 (q : Int)) (h:=Vv (.int .i64 ((2 ^ q : Nat) : Int)) (h:=Vv (.int .i64 ((2 ^ q : Nat) : Int)) (h:=WL.nil (hK2 _ _ (wp_ret ?_)))))
 go_ret
 rw [HH2.o]
 exact ⟨rfl, rfl⟩
end Go.Proofs.Ytdpcjfafbmhceaa
