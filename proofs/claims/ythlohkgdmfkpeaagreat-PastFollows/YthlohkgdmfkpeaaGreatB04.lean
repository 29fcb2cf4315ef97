import Derived.Test.YthlohkgdmfkpeaaGreatB02
import Derived.Test.YthlohkgdmfkpeaaGreatB01
import Derived.Test.YthlohkgdmfkpeaaGreatB03
import Derived.ChangeKeysEq
import Derived.Sort.Grow
import Derived.Deep.Draws
import Derived.Deep.QuietTactic
import Derived.BigQuiet
import Derived.Deep.RegionHeld3
import Derived.Laws.StructEq
import Derived.ProofKit
import Derived.OpenShut
import Derived.ShutString
import Derived.ChangeOld
import Derived.Below
import Derived.SizedLaws
import Derived.Deep.Slices
import Derived.Deep.Strs
set_option linter.unusedSimpArgs false
set_option linter.unusedVariables false
namespace Go.Proofs.YthlohkgdmfkpeaaGreat.Nd.Sh
open Go.RowKit Go.Sort
set_option maxRecDepth 8000 in
set_option maxHeartbeats 400000 in
set_option maxRecDepth 20000 in
theorem refCompare_walk (A B : Array Value) (x y : Nat → Int) (w : World) (hA : ∀ t, t < 32 → A[t]? = some (.int .u8 (x t))) (hB : ∀ t, t < 32 → B[t]? = some (.int .u8 (y t))) :
  Calls Tryz.prog 21 #[.agg A, .agg B] w fun e w' => e = .returned (.int .i64 (cmpG x y 32 0)) ∧ ∃ q os, w' = grow (w.drewN q) os := by
 have HA : Keep (∀ t, t < 32 → A[t]? = some (.int .u8 (x t))) := ⟨hA⟩
 have HB : Keep (∀ t, t < 32 → B[t]? = some (.int .u8 (y t))) := ⟨hB⟩
 obtain ⟨r, hr⟩ : ∃ r, Keep (r = cmpG x y 32 0) := ⟨_, ⟨rfl⟩⟩
 rw [← hr.out]
 clear hA hB
 have hA1 : (w.alloc (.cells A 36)).heap.size = w.heap.size + 1 := by simp
 have hX : Blk ((w.alloc (.cells A 36)).alloc (.cells B 36)) w.heap.size 36 A := (Blk.new w 36 _).alloc _
 have hY : Blk ((w.alloc (.cells A 36)).alloc (.cells B 36)) (w.heap.size + 1) 36 B := by rw [← hA1]; exact Blk.new _ 36 _
 have hG : (w.alloc (.cells A 36)).alloc (.cells B 36) = grow (w.drewN 0) #[.cells A 36, .cells B 36] := by
  rw [alloc_eq_grow, alloc_eq_grow, grow_grow]; rfl
 have HG : Keep (∃ os, (w.alloc (.cells A 36)).alloc (.cells B 36) = grow w os) := ⟨_, hG⟩
 clear hA1 hG
 go_enter Tryz.func21, Tryz.ntmps21
 go_wp2_with (first | (refine wpList_boxA rfl 36 (.tmp 0) rfl A rfl ?_; refine wpList_boxA rfl 36 (.tmp 1) rfl B rfl ?_))
 generalize (w.alloc (.cells A 36)).alloc (.cells B 36) = w0 at *
 generalize w.heap.size = p at *
 go_loopw [5] (fun i wr => ∃ t n : Nat, t ≤ 32 ∧ i = .int .i64 (t : Int) ∧ (∀ k, k < t → x k = y k) ∧ wr = w0.drewN n) (fun i _ => 32 - (intOf i).toNat)
 case atStart => exact ⟨0, 0, by omega, rfl, fun k hk => by omega, by rw [World.drewN_zero]⟩
 case round =>
  obtain ⟨t, n, ht, rfl, hke, rfl⟩ := hrel
  have HK : Keep (∀ k, k < t → x k = y k) := ⟨hke⟩
  clear hke
  by_cases hlt : t < 32
  ·have c1 : (w0.drewN n).cell? ⟨p, t, none⟩ = some (.int .u8 (x t)) := by rw [World.cell?_drewN, hX.cell]; exact HA.out t (by omega)
   have c2 : (w0.drewN n).cell? ⟨p + 1, t, none⟩ = some (.int .u8 (y t)) := by rw [World.cell?_drewN, hY.cell]; exact HB.out t (by omega)
   obtain ⟨a, ha⟩ : ∃ a, Keep (x t = a) := ⟨_, ⟨rfl⟩⟩
   obtain ⟨b, hb⟩ : ∃ b, Keep (y t = b) := ⟨_, ⟨rfl⟩⟩
   rw [ha.out] at c1
   rw [hb.out] at c2
   obtain ⟨wn, hwn⟩ : ∃ wn, Keep (w0.drewN n = wn) := ⟨_, ⟨rfl⟩⟩
   rw [hwn.out] at c1 c2 ⊢
   have ht32 : (t : Int) < 32 := by omega
   go_wp2
   go_quiet (fail)
   have HR : Keep (a ≠ b → r = if a < b then -1 else 1) := ⟨fun h => by
    rw [hr.out, cmpG_at x y t 32 HK.out (by omega) (by rw [ha.out, hb.out]; exact h), ha.out, hb.out]⟩
   have d1 : (wn.drewN nq).cell? ⟨p, t, none⟩ = some (.int .u8 a) := by rw [World.cell?_drewN]; exact c1
   have d2 : (wn.drewN nq).cell? ⟨p + 1, t, none⟩ = some (.int .u8 b) := by rw [World.cell?_drewN]; exact c2
   obtain ⟨wm, hwm⟩ : ∃ wm, Keep (wn.drewN nq = wm) := ⟨_, ⟨rfl⟩⟩
   have HD : Keep (∃ k, wm = w0.drewN k) := ⟨_, by rw [← hwm.out, ← hwn.out, World.drewN_drewN]⟩
   rw [hwm.out] at d1 d2
   by_cases h1 : a < b
   ·go_wp2
    go_ret
    obtain ⟨os, hos⟩ := HG.out
    refine ⟨by rw [HR.out (by omega), if_pos (by omega)]; rfl, n + nq, os, ?_⟩
    rw [← hwn.out, hos, World.drewN_drewN]
    rfl
   ·go_wp2
    rw [hwm.out]
    go_quiet (fail)
    by_cases h2 : b < a
    ·go_wp2
     go_ret
     obtain ⟨k, hk⟩ := HD.out
     refine ⟨by rw [HR.out (by omega), if_neg (by omega)]; rfl, ?_⟩
     rw [hk, World.drewN_drewN]
     exact drewN_grown HG.out _
    ·have hab : a = b := by omega
     go_wp2
     go_roundw
     case rel =>
      obtain ⟨k, hk⟩ := HD.out
      exact ⟨t + 1, _, by omega, by go_num, fun k hk => by
       rcases Nat.lt_or_eq_of_le (Nat.le_of_lt_succ hk) with h | h
       ·exact HK.out k h
       ·subst h; rw [ha.out, hb.out, hab], by rw [hk, World.drewN_drewN]⟩
     case measure => simp [intOf]; omega
  ·obtain rfl : t = 32 := by omega
   go_wp2
   go_ret
   obtain ⟨os, hos⟩ := HG.out
   exact ⟨by rw [hr.out, (cmpG_zero x y 32 0).2 fun k _ hk => HK.out k (by omega)]; rfl, n, os, by rw [hos]; rfl⟩
theorem refCompare_any (x y : Hs) (w : World) : Calls Tryz.prog 21 #[.agg (bytesA 32 x.f), .agg (bytesA 32 y.f)] w fun e w' => e = .returned (.int .i64 (cf x y)) ∧ ∃ q os, w' = grow (w.drewN q) os :=
 refCompare_walk (bytesA 32 x.f) (bytesA 32 y.f) x.f y.f w (fun _ ht => bytesA_get _ _ _ ht) (fun _ ht => bytesA_get _ _ _ ht)
end Go.Proofs.YthlohkgdmfkpeaaGreat.Nd.Sh
namespace Go.Proofs.YthlohkgdmfkpeaaGreat.Nd
open Go.RowKit
end Go.Proofs.YthlohkgdmfkpeaaGreat.Nd
namespace Go.Proofs.YthlohkgdmfkpeaaGreat.Nd
open Go.RowKit
end Go.Proofs.YthlohkgdmfkpeaaGreat.Nd
namespace Go.Proofs.YthlohkgdmfkpeaaGreat.Nd
open Go.RowKit
end Go.Proofs.YthlohkgdmfkpeaaGreat.Nd
namespace Go.Proofs.YthlohkgdmfkpeaaGreat.Nd
open Go.RowKit
end Go.Proofs.YthlohkgdmfkpeaaGreat.Nd
set_option linter.unusedSimpArgs false
set_option linter.unusedVariables false
namespace Go.Proofs.YthlohkgdmfkpeaaGreat.Nd
open Go.RowKit
theorem hl_hof (c : List Int) (h : c.length = 32) : hl 32 (hof c) = c := by
 apply List.ext_getElem (by rw [hl_len, h])
 intro i h1 h2
 have := hl_get 32 (hof c) i (by rw [hl_len] at h1; exact h1)
 rw [List.getD_eq_getElem?_getD, List.getElem?_eq_getElem h1, Option.getD_some] at this
 rw [this]
 simp [hof, List.getD, h2]
theorem hl_of (f : Nat → Int) : hl 32 (hof (hl 32 f)) = hl 32 f := hl_hof _ (hl_len _ _)
end Go.Proofs.YthlohkgdmfkpeaaGreat.Nd
namespace Go.Proofs.YthlohkgdmfkpeaaGreat.Nd
open Go.ChangeShapes Go.WideShapes Go.ChangeAt Go.RowKit Go.Deep
theorem Tryz.cellsOf119 : Tryz.prog.cellsOf 119 = 37 := by kernel_rfl
theorem Tryz.cellsOf117 : Tryz.prog.cellsOf 117 = 33 := by kernel_rfl
theorem Tryz.cellsOf36 : Tryz.prog.cellsOf 36 = 32 := by kernel_rfl
theorem Tryz.cellsOf3 : Tryz.prog.cellsOf 3 = 1 := by kernel_rfl
theorem Tryz.cellsOf2 : Tryz.prog.cellsOf 2 = 1 := by kernel_rfl
theorem Tryz.cellsOf9 : Tryz.prog.cellsOf 9 = 1 := by kernel_rfl
theorem Tryz.cellsOf5 : Tryz.prog.cellsOf 5 = 1 := by kernel_rfl
theorem Tryz.bytesOf119 : Tryz.prog.bytesOf 119 = 88 := by kernel_rfl
theorem reach_is : reachBytes = 140737488351232 := by decide
theorem add_none' (b o i : Nat) : (⟨b, o, none⟩ : Addr).add i = ⟨b, o + i, none⟩ := by
 cases i with
 | zero => rfl
 | succ i => rfl
theorem mem_weightsAll {H : Type} {P : Program} {e : TypeId} {d : DataW H} : ∀ {ds : List (DataW H)}, d ∈ ds → ∀ n ∈ d.weights P e, n ∈ DataW.weightsAll P e ds
 | d0 :: ds, h, n, hn => by
  simp only [DataW.weightsAll, List.mem_append]
  rcases List.mem_cons.1 h with rfl | h
  ·exact .inl hn
  ·exact .inr (mem_weightsAll h n hn)
theorem wf_u8 {n : Int} (h : (Lit.int .u8 n).wf = true) : 0 ≤ n ∧ n < 256 := by
 have h1 : IntKind.u8.min = 0 := by decide
 have h2 : IntKind.u8.max = 255 := by decide
 simp only [Lit.wf, h1, h2, Bool.and_eq_true, decide_eq_true_eq] at h
 omega
theorem wf_i64 {n : Int} (h : (Lit.int .i64 n).wf = true) : -9223372036854775808 ≤ n ∧ n ≤ 9223372036854775807 := by
 have h1 : IntKind.i64.min = -9223372036854775808 := by decide
 have h2 : IntKind.i64.max = 9223372036854775807 := by decide
 simp only [Lit.wf, h1, h2, Bool.and_eq_true, decide_eq_true_eq] at h
 omega
theorem trod_struct5 {H : Type} {enc : TypeId × Value → H} {P : Program} {w : World} {base : Nat} {spare : Nat → Bool} {held : Bool} {t : TypeId} {f0 f1 f2 f3 f4 : Field} {fuel : Nat} {cs : List Value} {x : DataW H × List MemPlace} (ht : P.underlying t = some (.struct #[f0, f1, f2, f3, f4])) (h : DataW.trod enc P w base spare held fuel t cs = some x) :
  ∃ y0 y1 y2 y3 y4 n, x.1 = .agg [y0.1, y1.1, y2.1, y3.1, y4.1] ∧ cs.length = P.cellsOf t ∧ DataW.trod enc P w base spare held n f0.type ((cs.drop f0.offset).take (P.cellsOf f0.type)) = some y0 ∧
   DataW.trod enc P w base spare held n f1.type ((cs.drop f1.offset).take (P.cellsOf f1.type)) = some y1 ∧ DataW.trod enc P w base spare held n f2.type ((cs.drop f2.offset).take (P.cellsOf f2.type)) = some y2 ∧ DataW.trod enc P w base spare held n f3.type ((cs.drop f3.offset).take (P.cellsOf f3.type)) = some y3 ∧ DataW.trod enc P w base spare held n f4.type ((cs.drop f4.offset).take (P.cellsOf f4.type)) = some y4 := by
 obtain ⟨xs, n, _, rfl, hl, hlen, hf⟩ := DataW.trod_struct ht h
 match xs, hlen with
 | [y0, y1, y2, y3, y4], _ => exact ⟨y0, y1, y2, y3, y4, n, by simp, hl, by simpa using hf 0 f0 rfl, by simpa using hf 1 f1 rfl, by simpa using hf 2 f2 rfl, by simpa using hf 3 f3 rfl, by simpa using hf 4 f4 rfl⟩
theorem trod_struct2 {H : Type} {enc : TypeId × Value → H} {P : Program} {w : World} {base : Nat} {spare : Nat → Bool} {held : Bool} {t : TypeId} {f0 f1 : Field} {fuel : Nat} {cs : List Value} {x : DataW H × List MemPlace} (ht : P.underlying t = some (.struct #[f0, f1])) (h : DataW.trod enc P w base spare held fuel t cs = some x) :
  ∃ y0 y1 n, x.1 = .agg [y0.1, y1.1] ∧ cs.length = P.cellsOf t ∧ DataW.trod enc P w base spare held n f0.type ((cs.drop f0.offset).take (P.cellsOf f0.type)) = some y0 ∧
   DataW.trod enc P w base spare held n f1.type ((cs.drop f1.offset).take (P.cellsOf f1.type)) = some y1 := by
 obtain ⟨xs, n, _, rfl, hl, hlen, hf⟩ := DataW.trod_struct ht h
 match xs, hlen with
 | [y0, y1], _ => exact ⟨y0, y1, n, by simp, hl, by simpa using hf 0 f0 rfl, by simpa using hf 1 f1 rfl⟩
theorem take_one {l : List Value} {i : Nat} {v : Value} (h : (l.drop i).take 1 = [v]) : l[i]? = some v := by
 have h2 : ((l.drop i).take 1)[0]? = some v := by rw [h]; rfl
 rw [List.getElem?_take, if_pos (by omega), List.getElem?_drop] at h2
 simpa using h2
theorem hash_of_trod {H : Type} {enc : TypeId × Value → H} {W : World} {sp : Nat → Bool} {held : Bool} {n base : Nat} {l : List Value} {x : DataW H × List MemPlace} (hf : DataW.trod enc Tryz.prog W base sp held n 36 l = some x) :
  ∃ c : List Int, l = bv (hl 32 (hof c)) ∧ c.length = 32 ∧ Byts c := by
 obtain ⟨xs, m, _, _, hl_, hx, hel⟩ := DataW.trod_array Tryz.underlying36 hf
 rw [Tryz.cellsOf36] at hl_
 rw [Tryz.cellsOf5] at hel
 have each : ∀ i, i < 32 → ∃ z : Int, l[i]? = some (.int .u8 z) ∧ 0 ≤ z ∧ z < 256 := by
  intro i hi
  have h1 := hel i hi
  rw [List.getElem?_eq_getElem (by omega), Nat.mul_one] at h1
  obtain ⟨z, hz, _, hw⟩ := DataW.trod_int Tryz.underlying5 h1
  have hb := wf_u8 hw
  exact ⟨z, take_one hz, by omega, by omega⟩
 obtain ⟨c, hc⟩ := Go.Deep.choose_lt each
 refine ⟨hl 32 c, ?_, hl_len _ _, fun z hz => ?_⟩
 ·rw [hl_of, ← hl_bytesA]
  apply List.ext_getElem?
  intro i
  by_cases hi : i < 32
  ·rw [(hc i hi).1, Array.getElem?_toList, bytesA_get _ _ _ hi]
  ·rw [List.getElem?_eq_none (by omega), List.getElem?_eq_none (by rw [Array.length_toList, bytesA_size]; omega)]
 ·unfold hl at hz
  obtain ⟨i, hi, rfl⟩ := List.mem_map.1 hz
  exact (hc i (List.mem_range.1 hi)).2
theorem one_of {cs : List Value} {v : Value} {j : Nat} (h : (cs.drop j).take 1 = [v]) : cs[j]? = some v := take_one h
theorem op_of_trod {H : Type} {enc : TypeId × Value → H} {W : World} {sp : Nat → Bool} {held : Bool} {n base : Nat} {cs : List Value} {x : DataW H × List MemPlace} (hf : DataW.trod enc Tryz.prog W base sp held n 119 cs = some x) (hw : ∀ n ∈ x.1.weights Tryz.prog 119, n ≤ reachBytes) :
  ∃ q : OpV, cs = opL q ∧ OpOk q := by
 obtain ⟨y0, y1, y2, y3, y4, k, hx, hl0, h0, h1, h2, h3, h4⟩ := trod_struct5 Tryz.underlying119 hf
 rw [Tryz.cellsOf119] at hl0
 simp only [Tryz.cellsOf3, Tryz.cellsOf9, Tryz.cellsOf2, Tryz.cellsOf117] at h0 h1 h2 h3 h4
 obtain ⟨z0, e0, _, w0⟩ := DataW.trod_int Tryz.underlying3 h0
 obtain ⟨s1, e1, f1, w1⟩ := DataW.trod_string Tryz.underlying9 h1
 obtain ⟨s2, e2, f2, w2⟩ := DataW.trod_string Tryz.underlying9 h2
 obtain ⟨z3, e3, _, w3⟩ := DataW.trod_int Tryz.underlying2 h3
 obtain ⟨a0, a1, k2, hx4, hl4, g0, g1⟩ := trod_struct2 Tryz.underlying117 h4
 rw [Tryz.cellsOf117] at hl4
 simp only [Tryz.cellsOf36, Tryz.cellsOf3] at g0 g1
 obtain ⟨c, ec, hc1, hc2⟩ := hash_of_trod g0
 obtain ⟨z4, e4, _, w4⟩ := DataW.trod_int Tryz.underlying3 g1
 have b0 := wf_i64 w0
 have b3 := wf_i64 w3
 have b4 := wf_i64 w4
 have kb1 : s1.size ≤ reachBytes := hw s1.size (by
  rw [hx]
  simp only [DataW.weights, Tryz.underlying119]
  refine DataW.weights_mem_each (j := 1) (t := 9) rfl rfl _ ?_
  rw [f1]
  simp [DataW.weights])
 have kb2 : s2.size ≤ reachBytes := hw s2.size (by
  rw [hx]
  simp only [DataW.weights, Tryz.underlying119]
  refine DataW.weights_mem_each (j := 2) (t := 9) rfl rfl _ ?_
  rw [f2]
  simp [DataW.weights])
 rw [reach_is] at kb1 kb2
 refine ⟨⟨z0, s1, s2, z3, c, z4⟩, ?_, ⟨hc1, hc2, b0.1, b0.2, b3.1, b3.2, b4.1, b4.2, by simp only; omega, by simp only; omega⟩⟩
 have q0 : cs[0]? = some (.int .i64 z0) := one_of (by simpa using e0)
 have q1 : cs[1]? = some (.string s1) := one_of (by simpa using e1)
 have q2 : cs[2]? = some (.string s2) := one_of (by simpa using e2)
 have q3 : cs[3]? = some (.int .i64 z3) := one_of (by simpa using e3)
 have hd : cs.drop 4 = idL c z4 := by
  have hfull : (cs.drop 4).take 33 = cs.drop 4 := List.take_of_length_le (by rw [List.length_drop]; omega)
  rw [hfull] at ec e4
  have q4 : (cs.drop 4)[32]? = some (.int .i64 z4) := one_of (by simpa using e4)
  rw [List.drop_zero] at ec
  unfold idL
  rw [← ec, ← List.take_append_drop 32 (cs.drop 4)]
  congr 1
  ·rw [List.take_append_drop]
  ·apply List.ext_getElem?
   intro i
   match i with
   | 0 => rw [List.getElem?_drop]; simpa using q4
   | i + 1 => rw [List.getElem?_eq_none (by rw [List.length_drop, List.length_drop]; omega)]; simp
 unfold opL
 rw [← hd, ← List.take_append_drop 4 cs]
 congr 1
 ·apply List.ext_getElem?
  intro i
  match i with
  | 0 => rw [List.getElem?_take, if_pos (by omega), q0]; rfl
  | 1 => rw [List.getElem?_take, if_pos (by omega), q1]; rfl
  | 2 => rw [List.getElem?_take, if_pos (by omega), q2]; rfl
  | 3 => rw [List.getElem?_take, if_pos (by omega), q3]; rfl
  | i + 4 => rw [List.getElem?_eq_none (by rw [List.length_take]; omega)]; simp
 ·rw [List.take_append_drop]
theorem ops_of_trod {H : Type} {enc : TypeId × Value → H} {W : World} {sp : Nat → Bool} {held : Bool} {fuel base : Nat} {v : Value} {x : DataW H × List MemPlace} (hf : DataW.trod enc Tryz.prog W base sp held fuel 48 [v] = some x) (hw : ∀ n ∈ x.1.weights Tryz.prog 48, n ≤ reachBytes) :
  ∃ l : List OpV, OpsAt W v l ∧ (∀ q ∈ l, OpOk q) ∧ l.length ≤ 4398046511104 := by
 rcases open_slice Tryz.underlying48 hf with ⟨hcs, _⟩ | ⟨a, len, cap, m, n, D, Pl, hcs, _, hl_, hm, hz, hx, hcell⟩
 ·simp at hcs
  subst hcs
  exact ⟨[], .inl ⟨none, 0, rfl, rfl⟩, by simp, by simp⟩
 ·simp at hcs
  subst hcs
  have hlz : len ≤ m := by rw [hz]; split <;> omega
  have hb : len ≤ 4398046511104 := by
   have h1 := hw ((((List.range len).map D).length + ((List.range (m - len)).map fun j => D (len + j)).length) * 88) (by
    rw [hx]
    simp only [DataW.weights, Tryz.underlying48]
    simp [Tryz.bytesOf119])
   rw [reach_is] at h1
   simp only [List.length_map, List.length_range] at h1
   omega
  have hwD : ∀ i, i < len → ∀ n ∈ (D i).weights Tryz.prog 119, n ≤ reachBytes := fun i hi n hn => hw n (by
   rw [hx]
   simp only [DataW.weights, Tryz.underlying48]
   refine List.mem_cons_of_mem _ (List.mem_append_left _ (mem_weightsAll (d := D i) ?_ n hn))
   exact List.mem_map.2 ⟨i, List.mem_range.2 hi, rfl⟩)
  have each : ∀ i, i < len → ∃ q : OpV, (∀ j v, (opL q)[j]? = some v → W.cell? ((a.add (i * 37)).add j) = some v) ∧ OpOk q := by
   intro i hi
   obtain ⟨cs', h1, h2⟩ := hcell i (by omega)
   rw [Tryz.cellsOf119] at h1
   obtain ⟨_, hlen, hce⟩ := World.cells?_some h1
   obtain ⟨q, rfl, h3⟩ := op_of_trod h2 (hwD i hi)
   refine ⟨q, fun j v hv => ?_, h3⟩
   obtain ⟨hj, e⟩ := List.getElem?_eq_some_iff.1 hv
   rw [opL_len] at hj
   rw [hce j (by omega), ← hv]
  haveI : Inhabited OpV := ⟨zeroOp⟩
  obtain ⟨q, hq⟩ := Go.Deep.choose_lt each
  refine ⟨(List.range len).map q, ?_, ?_, by simpa using hb⟩
  ·by_cases h0 : len = 0
   ·subst h0
    exact .inl ⟨_, _, rfl, rfl⟩
   ·have hs : a.spot = none := by
     have := (hq 0 (by omega)).1 0 _ (show (opL (q 0))[0]? = some (.int .i64 (q 0).kind) by simp [opL])
     rw [Nat.zero_mul, show a.add 0 = a from rfl] at this
     rw [show a.add 0 = a from rfl] at this
     exact World.cell?_spot this
    obtain ⟨b, off, sp⟩ := a
    obtain rfl : sp = none := hs
    refine .inr ⟨b, off, cap, by simp, by simp; omega, fun i x hxi j v hv => ?_⟩
    obtain ⟨hi, e⟩ := List.getElem?_eq_some_iff.1 hxi
    simp at hi e
    subst e
    have := (hq i hi).1 j v hv
    simp only [add_none'] at this
    exact this
  ·intro z hz'
   obtain ⟨i, hi, rfl⟩ := List.mem_map.1 hz'
   exact (hq i (List.mem_range.1 hi)).2
end Go.Proofs.YthlohkgdmfkpeaaGreat.Nd
namespace Go.Proofs.YthlohkgdmfkpeaaGreat.Nd
open Go.RowKit
theorem hs_f (c : List Int) (hc : Byts c) (i : Nat) (hi : i < 32) : (hs c).f i = c.getD i 0 := by
 have := hc.getD i
 rw [Sh.Hs.f_get _ _ hi]
 simp only [hs, Vector.getElem_ofFn]
 rw [UInt8.toNat_ofNat_of_lt' (by show (c.getD i 0).toNat < 256; omega)]
 omega
theorem hB_hs (c : List Int) (h : c.length = 32) (hc : Byts c) : hB (hs c) = c := by
 unfold hB hl
 apply List.ext_getElem (by simp [h])
 intro i h1 h2
 simp only [List.getElem_map, List.getElem_range]
 rw [hs_f c hc i (by omega)]
 simp [List.getD_eq_getElem?_getD, h2]
theorem encH_B (h : Hs) : Sh.encH h = bv (hB h) := by
 show (bytesA 32 h.f).toList = _
 rw [hl_bytesA]; rfl
end Go.Proofs.YthlohkgdmfkpeaaGreat.Nd
namespace Go.Proofs.YthlohkgdmfkpeaaGreat.Nd
open Go.ChangeShapes Go.WideShapes Go.ChangeAt Go.RowKit Go.Deep
theorem Tryz.cellsOf50 : Tryz.prog.cellsOf 50 = 4 := by kernel_rfl
theorem Tryz.cellsOf24 : Tryz.prog.cellsOf 24 = 1 := by kernel_rfl
theorem Tryz.cellsOf48 : Tryz.prog.cellsOf 48 = 1 := by kernel_rfl
theorem Tryz.bytesOf36 : Tryz.prog.bytesOf 36 = 32 := by kernel_rfl
theorem hashH_of_trod {H : Type} {enc : TypeId × Value → H} {W : World} {sp : Nat → Bool} {held : Bool} {n base : Nat} {l : List Value} {x : DataW H × List MemPlace} (hf : DataW.trod enc Tryz.prog W base sp held n 36 l = some x) : ∃ h : Hs, l = Sh.encH h := by
 obtain ⟨c, e, h1, h2⟩ := hash_of_trod hf
 exact ⟨hs c, by rw [e, encH_B, hB_hs c h1 h2, hl_hof c h1]⟩
theorem hs_of_trod {H : Type} {enc : TypeId × Value → H} {W : World} {sp : Nat → Bool} {held : Bool} {fuel base : Nat} {v : Value} {x : DataW H × List MemPlace} (hf : DataW.trod enc Tryz.prog W base sp held fuel 24 [v] = some x) (hw : ∀ n ∈ x.1.weights Tryz.prog 24, n ≤ reachBytes) :
  ∃ l : List Hs, Sh.HRow W v l ∧ l.length ≤ 4398046511104 := by
 rcases open_slice Tryz.underlying24 hf with ⟨hcs, _⟩ | ⟨a, len, cap, m, n, D, Pl, hcs, _, hl_, hm, hz, hx, hcell⟩
 ·simp at hcs
  subst hcs
  exact ⟨[], .inl ⟨none, 0, rfl, rfl, fun _ => rfl⟩, by simp⟩
 ·simp at hcs
  subst hcs
  have hlz : len ≤ m := by rw [hz]; split <;> omega
  have hb : len ≤ 4398046511104 := by
   have h1 := hw ((((List.range len).map D).length + ((List.range (m - len)).map fun j => D (len + j)).length) * 32) (by
    rw [hx]
    simp only [DataW.weights, Tryz.underlying24]
    simp [Tryz.bytesOf36])
   rw [reach_is] at h1
   simp only [List.length_map, List.length_range] at h1
   omega
  have each : ∀ i, i < len → ∃ q : Hs, ∀ j v, (Sh.encH q)[j]? = some v → W.cell? ((a.add (i * 32)).add j) = some v := by
   intro i hi
   obtain ⟨cs', h1, h2⟩ := hcell i (by omega)
   rw [Tryz.cellsOf36] at h1
   obtain ⟨_, hlen, hce⟩ := World.cells?_some h1
   obtain ⟨q, hqe⟩ := hashH_of_trod h2
   clear h2
   refine ⟨q, fun j v hv => ?_⟩
   obtain ⟨hj, e⟩ := List.getElem?_eq_some_iff.1 hv
   rw [Sh.encH_len] at hj
   rw [hce j (by omega), hqe, ← hv]
  obtain ⟨q, hq⟩ := Go.Deep.choose_lt each
  refine ⟨(List.range len).map q, ?_, by simpa using hb⟩
  by_cases h0 : len = 0
  ·subst h0
   exact .inl ⟨some a, cap, rfl, rfl, fun h => by cases h⟩
  ·have hs : a.spot = none := by
    have hv0 : (Sh.encH (q 0))[0]? = some (.int .u8 ((q 0).f 0)) := Sh.encH_get _ 0 (by omega)
    have := hq 0 (by omega) 0 _ hv0
    rw [Nat.zero_mul, show a.add 0 = a from rfl] at this
    rw [show a.add 0 = a from rfl] at this
    exact World.cell?_spot this
   obtain ⟨b, off, sp⟩ := a
   obtain rfl : sp = none := hs
   refine .inr ⟨b, off, cap, by simp, by simp; omega, fun j v hv => ?_⟩
   have hj : j < len * 32 := by
    have := (List.getElem?_eq_some_iff.1 hv).1
    rw [Sh.flatH_len] at this
    simpa using this
   have hi : j / 32 < ((List.range len).map q).length := by simp; omega
   have hg := Sh.flatH_get ((List.range len).map q) (j / 32) hi (j % 32) (Nat.mod_lt _ (by omega))
   rw [show j / 32 * 32 + j % 32 = j by omega, hv] at hg
   have := hq (j / 32) (by simpa using hi) (j % 32) v (by rw [hg]; simp)
   simp only [add_none'] at this
   rwa [show off + j / 32 * 32 + j % 32 = off + j by omega] at this
theorem trod_struct4 {H : Type} {enc : TypeId × Value → H} {P : Program} {w : World} {base : Nat} {spare : Nat → Bool} {held : Bool} {t : TypeId} {f0 f1 f2 f3 : Field} {fuel : Nat} {cs : List Value} {x : DataW H × List MemPlace} (ht : P.underlying t = some (.struct #[f0, f1, f2, f3])) (h : DataW.trod enc P w base spare held fuel t cs = some x) :
  ∃ y0 y1 y2 y3 n, x.1 = .agg [y0.1, y1.1, y2.1, y3.1] ∧ cs.length = P.cellsOf t ∧ DataW.trod enc P w base spare held n f0.type ((cs.drop f0.offset).take (P.cellsOf f0.type)) = some y0 ∧
   DataW.trod enc P w base spare held n f1.type ((cs.drop f1.offset).take (P.cellsOf f1.type)) = some y1 ∧ DataW.trod enc P w base spare held n f2.type ((cs.drop f2.offset).take (P.cellsOf f2.type)) = some y2 ∧ DataW.trod enc P w base spare held n f3.type ((cs.drop f3.offset).take (P.cellsOf f3.type)) = some y3 := by
 obtain ⟨xs, n, _, rfl, hl, hlen, hf⟩ := DataW.trod_struct ht h
 match xs, hlen with
 | [y0, y1, y2, y3], _ => exact ⟨y0, y1, y2, y3, n, by simp, hl, by simpa using hf 0 f0 rfl, by simpa using hf 1 f1 rfl, by simpa using hf 2 f2 rfl, by simpa using hf 3 f3 rfl⟩
theorem list4 (cs : List Value) (h : cs.length = 4) : ∃ a b c d, cs = [a, b, c, d] := by
 match cs, h with
 | [a, b, c, d], _ => exact ⟨a, b, c, d, rfl⟩
theorem node_of_trod {H : Type} {enc : TypeId × Value → H} {W : World} {sp : Nat → Bool} {held : Bool} {n base : Nat} {cs : List Value} {x : DataW H × List MemPlace} (hf : DataW.trod enc Tryz.prog W base sp held n 50 cs = some x) (hw : ∀ n ∈ x.1.weights Tryz.prog 50, n ≤ reachBytes) :
  ∃ (N : NodeV) (vp vo : Value), cs = [.int .i64 N.au, .int .i64 N.ck, vp, vo] ∧ Sh.HRow W vp N.ps ∧ N.ps.length ≤ 4398046511104 ∧ OpsAt W vo N.ops ∧ (∀ q ∈ N.ops, OpOk q) ∧ N.ops.length ≤ 4398046511104 ∧ (-9223372036854775808 ≤ N.au ∧ N.au ≤ 9223372036854775807) ∧ (-9223372036854775808 ≤ N.ck ∧ N.ck ≤ 9223372036854775807) := by
 obtain ⟨y0, y1, y2, y3, k, hx, hl, h0, h1, h2, h3⟩ := trod_struct4 Tryz.underlying50 hf
 rw [Tryz.cellsOf50] at hl
 obtain ⟨a, b, c, d, rfl⟩ := list4 cs hl
 simp only [Tryz.cellsOf3, Tryz.cellsOf24, Tryz.cellsOf48, List.drop_zero, List.take_succ_cons, List.take_zero, List.drop_succ_cons] at h0 h1 h2 h3
 obtain ⟨n0, e0, w0⟩ := DataW.trod_int Tryz.underlying3 h0
 obtain ⟨n1, e1, w1⟩ := DataW.trod_int Tryz.underlying3 h1
 obtain ⟨l, r1, r2⟩ := hs_of_trod h2 (fun n hn => hw n (by
  rw [hx]
  simp only [DataW.weights, Tryz.underlying50]
  exact DataW.weights_mem_each (j := 2) (t := 24) rfl rfl n hn))
 obtain ⟨m, q1, q2, q3⟩ := ops_of_trod h3 (fun n hn => hw n (by
  rw [hx]
  simp only [DataW.weights, Tryz.underlying50]
  exact DataW.weights_mem_each (j := 3) (t := 48) rfl rfl n hn))
 simp at e0 e1
 exact ⟨⟨n0, n1, l, m⟩, c, d, by rw [e0, e1], r1, r2, q1, q2, q3, wf_i64 w0.2, wf_i64 w1.2⟩
end Go.Proofs.YthlohkgdmfkpeaaGreat.Nd
namespace Go.Proofs.YthlohkgdmfkpeaaGreat.Nd
open Go.ChangeShapes Go.WideShapes Go.ChangeAt Go.RowKit Go.Deep
theorem OpsAt.blt {w : World} {v : Value} {l : List OpV} (h : OpsAt w v l) (hne : l ≠ []) : ∀ k, v.ownBlock = some k → k < w.heap.size := by
 rcases h with ⟨a, c, rfl, rfl⟩ | ⟨b, off, cap, rfl, _, h⟩
 ·exact absurd rfl hne
 ·intro k hk
  simp [Value.ownBlock] at hk
  subst hk
  match l, hne with
  | x :: r, _ =>
   have h1 := h 0 x rfl 0 (.int .i64 x.kind) (by simp [opL])
   exact cell_lt h1
end Go.Proofs.YthlohkgdmfkpeaaGreat.Nd
