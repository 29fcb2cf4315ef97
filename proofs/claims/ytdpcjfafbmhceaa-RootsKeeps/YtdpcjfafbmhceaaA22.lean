import Derived.Test.YtdpcjfafbmhceaaA21
import Derived.ProofKit
import Derived.OpenShut
import Derived.ShutString
import Derived.ChangeOld
import Derived.Below
import Derived.SizedLaws
import Derived.Deep.Slices
import Derived.Deep.Strs
set_option maxRecDepth 8000
namespace Go.Proofs.Ytdpcjfafbmhceaa
open Go.RowKit
set_option linter.unusedSimpArgs false
set_option linter.unusedVariables false
theorem ZV (vL vW : Value) (L : List CV) (kind n0 : Int) (key : ByteArray) (w : World) (HC : Keep (CsV w.heap.size w vL L)) (HFs : Keep (∀ c ∈ L, c.l.length ≤ 140737488351232)) (HNn : Keep (L.length ≤ 3600000000000)) (hfew : Keep (yY L = false)) : Calls Try.prog 3 #[.agg #[vL, .int .i64 kind, .string key, .int .i64 n0, vW]] w fun e w' => e = .returned (.bool true) ∧ Below w.heap.size w w' := by
 go_enter Try.func3, Try.ntmps3
 refine wp_seq_k fun K1 hK1 => rgn (GS 27 (.tmp 0) #[vL, .int .i64 kind, .string key, .int .i64 n0, vW] fun b1 w1 hb1 H1 HB => ?_)
 clear hb1
 have c_ : w1.cell? ⟨b1, 0, none⟩ = some vL := H1.o.c 0 rfl
 refine Vf (h:=WL.nil (hK1 _ _ (wp_seq_k fun K2 hK2 => wp_seq_k fun K3 hK3 => rgn (Vv (.pointer (some ⟨b1, 0, none⟩)) (h:=?_)))))
 refine WL.val (by kernel_rfl) vL (by go_simp) ?_
 clear c_
 simp only [Act.put, pqA, pqB, pqC]
 refine ClS (XE vL L w1 ((HC.o.below HB.o).mono HB.o.size) HFs.o HNn.o) ?_
 rintro e w_ ⟨rfl, hw_⟩
 refine ⟨_, rfl, ?_⟩
 have hw_ := hw_.symm
 subst hw_
 rw [hfew.o]
 refine Vt (h:=WL.nil (hK3 _ _ (Ct (h:=wp_seq_k fun K4 hK4 => rgn (ClS (JD w1) ?_)))))
 rintro e w2 ⟨rfl, k1⟩
 refine ⟨_, rfl, ?_⟩
 have B2 := tb HB k1
 clear k1
 refine Vt (h:=WL.nil (hK4 _ _ (wp_ret ?_)))
 go_ret
 exact ⟨rfl, B2.o⟩
def SmR (L : List CV) : Prop := ∀ c ∈ L, c.s.size ≤ 140737488351232 ∧ c.l.length ≤ 140737488351232
theorem YD (vL vW : Value) (L : List CV) (kind n0 : Int) (key : ByteArray) (w : World) (hC : CsV w.heap.size w vL L) (hS : SmR L) (hN : L.length ≤ 3600000000000) : Calls Try.prog 3 #[.agg #[vL, .int .i64 kind, .string key, .int .i64 n0, vW]] w fun e w' => e = .returned (.bool true) ∧ Below w.heap.size w w' := by
 cases hf : yY L
 ·exact ZV vL vW L kind n0 key w ⟨hC⟩ ⟨fun c hc => by have := hS c hc; omega⟩ ⟨hN⟩ ⟨hf⟩
 ·obtain ⟨at_, h1, h2⟩ := Ut L kind key
  have hS2 : Sml L := fun c hc => by
   obtain ⟨t, ht⟩ := List.mem_iff_getElem?.1 hc
   have := yI hf ht
   have := (hS c hc).1
   omega
  exact YC vL vW L kind n0 key at_ w ⟨hC⟩ ⟨hS2⟩ ⟨hf⟩ ⟨h1⟩ ⟨h2⟩
end Go.Proofs.Ytdpcjfafbmhceaa
namespace Go.Proofs.Ytdpcjfafbmhceaa
open Go.ChangeShapes Go.WideShapes Go.ChangeAt Go.RowKit Go.Deep
set_option linter.unusedSimpArgs false
set_option linter.unusedVariables false
theorem Ku : Try.prog.cellsOf 5 = 1 := by kernel_rfl
theorem xm : Try.prog.cellsOf 3 = 1 := by kernel_rfl
theorem yP : Try.prog.cellsOf 9 = 1 := by kernel_rfl
theorem kY : Try.prog.cellsOf 22 = 1 := by kernel_rfl
theorem kX : Try.prog.cellsOf 23 = 1 := by kernel_rfl
theorem kW : Try.prog.cellsOf 25 = 2 := by kernel_rfl
theorem kV : Try.prog.cellsOf 27 = 5 := by kernel_rfl
theorem kU : Try.prog.cellsOf 42 = 1 := by kernel_rfl
theorem yd : Try.prog.cellsOf 44 = 3 := by kernel_rfl
theorem Kv : Try.prog.bytesOf 5 = 1 := by kernel_rfl
theorem kZ : Try.prog.bytesOf 44 = 48 := by kernel_rfl
theorem vU : reachBytes = 140737488351232 := by decide
theorem Za (b o i : Nat) : (⟨b, o, none⟩ : Addr).add i = ⟨b, o + i, none⟩ := by
 cases i with
 | zero => rfl
 | succ i => rfl
theorem GU {n : Int} (h : (Lit.int .u8 n).wf = true) : 0 ≤ n ∧ n < 256 := by
 have h1 : IntKind.u8.min = 0 := by decide
 have h2 : IntKind.u8.max = 255 := by decide
 simp only [Lit.wf, h1, h2, Bool.and_eq_true, decide_eq_true_eq] at h
 omega
theorem KI {H : Type} {enc : TypeId × Value → H} {W : World} {sp : Nat → Bool} {held : Bool} {n base : Nat} {v : Value} {x : DataW H × List MemPlace} (hf : DataW.trod enc Try.prog W base sp held n 42 [v] = some x) (hw : ∀ n ∈ x.1.weights Try.prog 42, n ≤ reachBytes) :
  ∃ l : List Int, RowAt W v l ∧ Byts l ∧ l.length ≤ 140737488351232 := by
 rcases open_ints Try.underlying42 Try.underlying5 Ku hf with ⟨hcs, _⟩ | ⟨a, len, cap, zs, hcs, _, hl, hm, hz, hx, hcell, hwz⟩
 ·simp at hcs
  subst hcs
  exact ⟨[], .inl ⟨rfl, rfl⟩, Byts.nil, by simp⟩
 ·simp at hcs
  subst hcs
  unfold maxLen at hm
  have hlz : len ≤ zs.length := by rw [hz]; split <;> omega
  have hbz : Byts zs := fun c hc => GU (hwz c hc)
  have hb : len ≤ 140737488351232 := by
   have h1 := hw ((zs.take len).length + (zs.drop len).length) (by
    rw [hx]
    simp only [DataW.weights, Try.underlying42]
    simp [lits, Kv])
   rw [List.length_take, vU] at h1
   omega
  by_cases h0 : len = 0
  ·subst h0
   exact ⟨[], .inr (.inl ⟨a, cap, rfl, rfl⟩), Byts.nil, by simp⟩
  ·have hs : a.spot = none := by
    have := hcell 0 (by omega)
    rw [show a.add 0 = a from rfl] at this
    exact World.cell?_spot this
   obtain ⟨b, off, sp⟩ := a
   obtain rfl : sp = none := hs
   have hlen : (zs.take len).length = len := by rw [List.length_take]; omega
   refine ⟨zs.take len, .inr (.inr ⟨b, off, cap, by rw [hlen], by omega, fun i hi => ?_⟩), hbz.take len, by omega⟩
   rw [hlen] at hi
   have := hcell i (by omega)
   rw [Za] at this
   rw [this]
   simp [List.getD, hi]
theorem JY {H : Type} {enc : TypeId × Value → H} {P : Program} {w : World} {base : Nat} {spare : Nat → Bool} {held : Bool} {t : TypeId} {f0 f1 f2 : Field} {fuel : Nat} {cs : List Value} {x : DataW H × List MemPlace} (ht : P.underlying t = some (.struct #[f0, f1, f2])) (h : DataW.trod enc P w base spare held fuel t cs = some x) :
  ∃ y0 y1 y2 n, x.1 = .agg [y0.1, y1.1, y2.1] ∧ cs.length = P.cellsOf t ∧ DataW.trod enc P w base spare held n f0.type ((cs.drop f0.offset).take (P.cellsOf f0.type)) = some y0 ∧
   DataW.trod enc P w base spare held n f1.type ((cs.drop f1.offset).take (P.cellsOf f1.type)) = some y1 ∧ DataW.trod enc P w base spare held n f2.type ((cs.drop f2.offset).take (P.cellsOf f2.type)) = some y2 := by
 obtain ⟨xs, n, _, rfl, hl, hlen, hf⟩ := DataW.trod_struct ht h
 match xs, hlen with
 | [y0, y1, y2], _ => exact ⟨y0, y1, y2, n, by simp, hl, by simpa using hf 0 f0 rfl, by simpa using hf 1 f1 rfl, by simpa using hf 2 f2 rfl⟩
theorem Gp {w : World} {v : Value} {l : List Int} (h : RowAt w v l) (h0 : l ≠ []) : ∀ k, v.ownBlock = some k → k < w.heap.size := by
 intro k hk
 rcases h with ⟨_, rfl⟩ | ⟨_, _, _, rfl⟩ | ⟨q, off, cap, rfl, h1, h2⟩
 ·exact absurd rfl h0
 ·exact absurd rfl h0
 ·have := zM (h2 0 (List.length_pos_iff.2 h0))
  simp [Value.ownBlock] at hk
  omega
theorem JZ {H : Type} {enc : TypeId × Value → H} {P : Program} {w : World} {base : Nat} {spare : Nat → Bool} {held : Bool} {t : TypeId} {f0 f1 : Field} {fuel : Nat} {cs : List Value} {x : DataW H × List MemPlace} (ht : P.underlying t = some (.struct #[f0, f1])) (h : DataW.trod enc P w base spare held fuel t cs = some x) :
  ∃ y0 y1 n, x.1 = .agg [y0.1, y1.1] ∧ cs.length = P.cellsOf t ∧ DataW.trod enc P w base spare held n f0.type ((cs.drop f0.offset).take (P.cellsOf f0.type)) = some y0 ∧
   DataW.trod enc P w base spare held n f1.type ((cs.drop f1.offset).take (P.cellsOf f1.type)) = some y1 := by
 obtain ⟨xs, n, _, rfl, hl, hlen, hf⟩ := DataW.trod_struct ht h
 match xs, hlen with
 | [y0, y1], _ => exact ⟨y0, y1, n, by simp, hl, by simpa using hf 0 f0 rfl, by simpa using hf 1 f1 rfl⟩
theorem JW {H : Type} {enc : TypeId × Value → H} {P : Program} {w : World} {base : Nat} {spare : Nat → Bool} {held : Bool} {t : TypeId} {f0 f1 f2 f3 : Field} {fuel : Nat} {cs : List Value} {x : DataW H × List MemPlace} (ht : P.underlying t = some (.struct #[f0, f1, f2, f3])) (h : DataW.trod enc P w base spare held fuel t cs = some x) :
  ∃ y0 y1 y2 y3 n, x.1 = .agg [y0.1, y1.1, y2.1, y3.1] ∧ cs.length = P.cellsOf t ∧ DataW.trod enc P w base spare held n f0.type ((cs.drop f0.offset).take (P.cellsOf f0.type)) = some y0 ∧
   DataW.trod enc P w base spare held n f1.type ((cs.drop f1.offset).take (P.cellsOf f1.type)) = some y1 ∧ DataW.trod enc P w base spare held n f2.type ((cs.drop f2.offset).take (P.cellsOf f2.type)) = some y2 ∧
   DataW.trod enc P w base spare held n f3.type ((cs.drop f3.offset).take (P.cellsOf f3.type)) = some y3 := by
 obtain ⟨xs, n, _, rfl, hl, hlen, hf⟩ := DataW.trod_struct ht h
 match xs, hlen with
 | [y0, y1, y2, y3], _ => exact ⟨y0, y1, y2, y3, n, by simp, hl, by simpa using hf 0 f0 rfl, by simpa using hf 1 f1 rfl, by simpa using hf 2 f2 rfl, by simpa using hf 3 f3 rfl⟩
theorem xC {H : Type} {P : Program} {e : TypeId} {d : DataW H} : ∀ {ds : List (DataW H)}, d ∈ ds → ∀ n ∈ d.weights P e, n ∈ DataW.weightsAll P e ds
 | d0 :: ds, h, n, hn => by
  simp only [DataW.weightsAll, List.mem_append]
  rcases List.mem_cons.1 h with rfl | h
  ·exact .inl hn
  ·exact .inr (xC h n hn)
theorem kL {H : Type} {enc : TypeId × Value → H} {W : World} {sp : Nat → Bool} {held : Bool} {n base : Nat} {cs : List Value} {x : DataW H × List MemPlace} (hf : DataW.trod enc Try.prog W base sp held n 44 cs = some x) (hw : ∀ n ∈ x.1.weights Try.prog 44, n ≤ reachBytes) :
  ∃ c : CV, cs = cvL c ∧ RowAt W c.v c.l ∧ (c.s.size ≤ 140737488351232 ∧ c.l.length ≤ 140737488351232) := by
 obtain ⟨y0, y1, y2, k, hx, hl, h0, h1, h2⟩ := JY Try.underlying44 hf
 rw [yd] at hl
 match cs, hl with
 | [a, b, c], _ =>
  simp only [xm, yP, kU, List.drop_zero, List.take_succ_cons, List.take_zero, List.drop_succ_cons] at h0 h1 h2
  obtain ⟨n0, e0, w0⟩ := DataW.trod_int Try.underlying3 h0
  obtain ⟨s, e1, ex, _⟩ := DataW.trod_string Try.underlying9 h1
  obtain ⟨l, r1, r2, r3⟩ := KI (v := c) h2 (fun n hn => hw n (by
   rw [hx]
   simp only [DataW.weights, Try.underlying44]
   exact DataW.weights_mem_each (j := 2) (t := 42) rfl rfl n hn))
  have hs : s.size ≤ reachBytes := hw s.size (by
   rw [hx]
   simp only [DataW.weights, Try.underlying44]
   refine DataW.weights_mem_each (j := 1) (t := 9) rfl rfl _ ?_
   rw [ex]
   simp [DataW.weights])
  rw [vU] at hs
  simp at e0 e1
  exact ⟨⟨n0, s, c, l⟩, by rw [e0, e1]; rfl, r1, hs, r3⟩
theorem vJ {H : Type} {enc : TypeId × Value → H} {W : World} {sp : Nat → Bool} {held : Bool} {n base : Nat} {v : Value} {x : DataW H × List MemPlace} (hf : DataW.trod enc Try.prog W base sp held n 22 [v] = some x) (hw : ∀ n ∈ x.1.weights Try.prog 22, n ≤ reachBytes) :
  ∃ L : List CV, CsV W.heap.size W v L ∧ L.length ≤ 3600000000000 ∧ SmR L := by
 rcases open_slice Try.underlying22 hf with ⟨hcs, _⟩ | ⟨a, len, cap, m, n, D, Pl, hcs, _, hl, hm, hz, hx, hcell⟩
 ·simp at hcs
  subst hcs
  exact ⟨[], .inl ⟨none, 0, rfl, rfl⟩, by simp, fun c hc => by simp at hc⟩
 ·simp at hcs
  subst hcs
  have hlz : len ≤ m := by rw [hz]; split <;> omega
  have hb : len ≤ 3600000000000 := by
   have h1 := hw ((((List.range len).map D).length + ((List.range (m - len)).map fun j => D (len + j)).length) * 48) (by
    rw [hx]
    simp only [DataW.weights, Try.underlying22]
    simp [kZ])
   rw [vU] at h1
   simp only [List.length_map, List.length_range] at h1
   omega
  have hwD : ∀ i, i < len → ∀ n ∈ (D i).weights Try.prog 44, n ≤ reachBytes := fun i hi n hn => hw n (by
   rw [hx]
   simp only [DataW.weights, Try.underlying22]
   refine List.mem_cons_of_mem _ (List.mem_append_left _ (xC (d := D i) ?_ n hn))
   exact List.mem_map.2 ⟨i, List.mem_range.2 hi, rfl⟩)
  by_cases h0 : len = 0
  ·subst h0
   exact ⟨[], .inl ⟨some a, cap, rfl, rfl⟩, by simp, fun c hc => by simp at hc⟩
  ·have each : ∀ i, i < len → ∃ c : CV, (∀ j u, (cvL c)[j]? = some u → W.cell? ((a.add (i * 3)).add j) = some u) ∧ RowAt W c.v c.l ∧ (c.s.size ≤ 140737488351232 ∧ c.l.length ≤ 140737488351232) := by
    intro i hi
    obtain ⟨cs', h1, h2⟩ := hcell i (by omega)
    rw [yd] at h1
    obtain ⟨_, hlen, hce⟩ := World.cells?_some h1
    obtain ⟨c, e, r1, r2⟩ := kL h2 (hwD i hi)
    refine ⟨c, fun j u hu => ?_, r1, r2⟩
    rw [← e] at hu
    have hj := (List.getElem?_eq_some_iff.1 hu).1
    rw [hce j (by omega)]; exact hu
   haveI : Inhabited CV := ⟨⟨0, ByteArray.empty, .nilFunc, []⟩⟩
   obtain ⟨f, hfc⟩ := Go.Deep.choose_lt each
   have hs : a.spot = none := by
    have := (hfc 0 (by omega)).1 0 (.int .i64 (f 0).k) rfl
    rw [Nat.zero_mul, show (a.add 0).add 0 = a from rfl] at this
    exact World.cell?_spot this
   obtain ⟨b, off, sp⟩ := a
   obtain rfl : sp = none := hs
   have hb0 : b < W.heap.size := by
    have := (hfc 0 (by omega)).1 0 (.int .i64 (f 0).k) rfl
    rw [Addr.add_mid, Addr.add_mid] at this
    exact zM this
   refine ⟨(List.range len).map f, .inr ⟨b, off, cap, by simp, by simpa using hl, hb0, fun i c hc => ?_, fun c hc => ?_⟩, by simpa using hb, fun c hc => ?_⟩
   ·have hi : i < len := by have := (List.getElem?_eq_some_iff.1 hc).1; simpa using this
    have e : f i = c := by simpa [hi] using hc
    subst e
    intro j u hu
    have h1 := (hfc i hi).1 j u hu
    rw [Addr.add_mid, Addr.add_mid] at h1
    exact h1
   ·obtain ⟨i, hi, rfl⟩ := List.mem_map.1 hc
    have h1 := hfc i (List.mem_range.1 hi)
    exact ⟨h1.2.1, fun h => Gp h1.2.1 h⟩
   ·obtain ⟨i, hi, rfl⟩ := List.mem_map.1 hc
    exact (hfc i (List.mem_range.1 hi)).2.2
theorem kR {H : Type} {enc : TypeId × Value → H} {W : World} {sp : Nat → Bool} {held : Bool} {n base : Nat} {cs : List Value} {x : DataW H × List MemPlace} (hf : DataW.trod enc Try.prog W base sp held n 27 cs = some x) (hw : ∀ n ∈ x.1.weights Try.prog 27, n ≤ reachBytes) :
  ∃ (v vW : Value) (L : List CV) (kind n0 : Int) (key : ByteArray), cs = [v, .int .i64 kind, .string key, .int .i64 n0, vW] ∧ CsV W.heap.size W v L ∧ L.length ≤ 3600000000000 ∧ SmR L := by
 obtain ⟨y0, y1, y2, y3, k, hx, hl, h0, h1, h2, h3⟩ := JW Try.underlying27 hf
 rw [kV] at hl
 match cs, hl with
 | [a0, a1, a2, a3, a4], _ =>
  simp only [xm, kY, yP, kW, List.drop_zero, List.take_succ_cons, List.take_zero, List.drop_succ_cons] at h0 h1 h2 h3
  obtain ⟨L, p1, p2, p3⟩ := vJ h0 (fun n hn => hw n (by
   rw [hx]
   simp only [DataW.weights, Try.underlying27]
   exact DataW.weights_mem_each (j := 0) (t := 22) rfl rfl n hn))
  obtain ⟨kind, e1, w1⟩ := DataW.trod_int Try.underlying3 h1
  obtain ⟨key, e2, _, _⟩ := DataW.trod_string Try.underlying9 h2
  obtain ⟨z0, z1, k', hx3, _, g0, g1⟩ := JZ Try.underlying25 h3
  simp only [xm, kX, List.drop_zero, List.take_succ_cons, List.take_zero, List.drop_succ_cons] at g0 g1
  obtain ⟨m, e4, w4⟩ := DataW.trod_int Try.underlying3 g0
  simp at e1 e2 e4
  subst e1 e2 e4
  exact ⟨a0, a4, L, kind, m, key, rfl, p1, p2, p3⟩
end Go.Proofs.Ytdpcjfafbmhceaa
