import Derived.Test.YtdkhjeofjhcceaaGreatDoorB01
import Derived.Test.YtdkhjeofjhcceaaGreatDoorB04
import Derived.Test.YtdkhjeofjhcceaaGreatDoorB06
import Derived.Test.YtdkhjeofjhcceaaGreatDoorB05
import Derived.ChangeKeysEq
import Derived.Sort.Grow
import Derived.Deep.Draws
import Derived.Deep.QuietTactic
import Derived.BigQuiet
import Derived.Deep.MidRow
import Derived.Deep.RegionHeld3
namespace Go.Proofs.YtdkhjeofjhcceaaGreatDoor.Nd.Sh
open Go.RowKit Go.Sort

theorem Tryz.cells5q : Tryz.prog.cellsOf 5 = 1 := by kernel_rfl
theorem Tryz.isAgg5q (w : World) : (isAgg 5).run Tryz.prog w = .ok false w := by kernel_rfl
theorem Tryz.size5q : (Tryz.prog.info? 5).map (·.size) = some 1 := by kernel_rfl
theorem run_part5q (c : Nat → Int) (i : Nat) (hi : i < 32) (w : World) : (part 5 (bytesA 32 c) i).run Tryz.prog w = .ok (.int .u8 (c i)) w := by
  unfold part
  rw [Sem.run_bind, Tryz.isAgg5q]
  simp [Result.andThen, bytesA_get 32 c i hi]
theorem run_items2 (c e : Nat → Int) (d : Nat) (w : World) : ∀ is : List Nat, (∀ i ∈ is, i < 32) → (Op.eqItems (d + 1) 5 1 (bytesA 32 c) (bytesA 32 e) is).run Tryz.prog w = .ok (is.all fun i => c i == e i) w
  | [], _ => by simp [Op.eqItems]
  | i :: is, h => by
    have hi := h i (by simp)
    have ih := run_items2 c e d w is (fun j hj => h j (by simp [hj]))
    simp only [Op.eqItems, Sem.run_bind, Nat.mul_one, run_part5q c i hi, run_part5q e i hi, Result.andThen_ok]
    rw [run_equalIn_int (P := Tryz.prog) (w := w) d 5 .u8 .u8 (c i) (e i) Tryz.underlying5]
    by_cases hh : c i = e i
    · simp [Result.andThen_ok, ih, hh]
    · simp [Result.andThen_ok, hh]
theorem run_equal_arr2 (c e : Nat → Int) (w : World) : (Op.equalIn 10000 50 (.agg (bytesA 32 c)) (.agg (bytesA 32 e))).run Tryz.prog w = .ok ((List.range 32).all fun i => c i == e i) w := by
  obtain ⟨i, hi, _⟩ := Option.map_eq_some_iff.1 Tryz.size5q
  rw [run_equalIn_array (P := Tryz.prog) w 9999 _ _ Tryz.underlying50 hi, Tryz.cells5q]
  exact run_items2 c e 9998 w _ (fun j hj => List.mem_range.1 hj)
theorem all_eq_iff (x y : Hs) : ((List.range 32).all fun i => x.f i == y.f i) = decide (x = y) := by
  by_cases h : x = y
  · subst h; simp
  · rw [decide_eq_false h, Bool.eq_false_iff]
    intro h2
    refine h (Hs.ext' fun i hi => ?_)
    have := List.all_eq_true.1 h2 i (List.mem_range.2 hi)
    simpa using this
theorem run_eqlH (x y : Hs) (w : World) : (binOp .eql 50 (.agg (bytesA 32 x.f)) (.agg (bytesA 32 y.f))).run Tryz.prog w = .ok (.bool (decide (x = y))) w := by
  rw [run_eql_struct, run_equal_arr2, all_eq_iff]; rfl
theorem run_neqH (x y : Hs) (w : World) : (binOp .neq 50 (.agg (bytesA 32 x.f)) (.agg (bytesA 32 y.f))).run Tryz.prog w = .ok (.bool (!decide (x = y))) w := by
  rw [run_neq_struct, run_equal_arr2, all_eq_iff]; rfl

theorem grown_below (w : World) (q : Nat) (os : Array Obj) : Below w.heap.size w (grow (w.drewN q) os) where
  os := rfl
  tape := rfl
  output := rfl
  size := by simp [grow]
  block i hi := by simp [grow, Array.getElem?_append, hi]

theorem drewN_grown {w w0 : World} (h : ∃ os, w0 = grow w os) (k : Nat) : ∃ q os, w0.drewN k = grow (w.drewN q) os := by
  obtain ⟨os, rfl⟩ := h
  exact ⟨k, os, rfl⟩

set_option maxRecDepth 8000 in
set_option maxHeartbeats 400000 in
theorem cmpByte_any (a b : Int) (w : World) : Calls Tryz.prog 104 #[.int .u8 a, .int .u8 b] w fun e w' => e = .returned (.int .i64 (if a < b then -1 else if b < a then 1 else 0)) ∧ ∃ q, w' = w.drewN q := by
  have h52 : ∀ (z : Int) (w : World), Calls Tryz.prog 125 #[.int .u8 z] w fun e w' => e = .returned (.bool false) ∧ ∃ q, w' = w.drewN q := by
    intro z w
    go_enter Tryz.func125, Tryz.ntmps125
    go_wp2
    first
      | (go_quiet (fail); go_wp2; go_ret; exact ⟨rfl, nq, rfl⟩)
      | (go_ret; exact ⟨rfl, 0, rfl⟩)
  have walk : ∀ r : Int, (a < b ∧ r = -1) ∨ (¬ a < b ∧ b < a ∧ r = 1) ∨ (¬ a < b ∧ ¬ b < a ∧ r = 0) → Calls Tryz.prog 104 #[.int .u8 a, .int .u8 b] w fun e w' => e = .returned (.int .i64 r) ∧ ∃ q, w' = w.drewN q := by
    intro r hr
    have HR : Keep ((a < b ∧ r = -1) ∨ (¬ a < b ∧ b < a ∧ r = 1) ∨ (¬ a < b ∧ ¬ b < a ∧ r = 0)) := ⟨hr⟩
    clear hr
    go_enter Tryz.func104, Tryz.ntmps104
    go_wp2_with fail
    refine (h52 a w).mono ?_
    rintro e w1 ⟨rfl, q1, rfl⟩
    go_wp2_with fail
    refine (h52 b _).mono ?_
    rintro e w2 ⟨rfl, q2, rfl⟩
    rw [World.drewN_drewN]
    rcases HR.out with ⟨h1, rfl⟩ | ⟨h1, h2, rfl⟩ | ⟨h1, h2, rfl⟩
    · go_wp2
      go_ret
      exact ⟨rfl, _, rfl⟩
    · go_wp2
      go_ret
      exact ⟨rfl, _, rfl⟩
    · go_wp2
      go_ret
      exact ⟨rfl, _, rfl⟩
  refine walk _ ?_
  by_cases h1 : a < b
  · exact .inl ⟨h1, if_pos h1⟩
  · by_cases h2 : b < a
    · exact .inr (.inl ⟨h1, h2, by rw [if_neg h1, if_pos h2]⟩)
    · exact .inr (.inr ⟨h1, h2, by rw [if_neg h1, if_neg h2]⟩)


set_option maxRecDepth 8000 in
set_option maxHeartbeats 400000 in
set_option maxRecDepth 20000 in
theorem compare_walk (A B : Array Value) (x y : Nat → Int) (E : Bool) (w : World) (hA : ∀ t, t < 32 → A[t]? = some (.int .u8 (x t))) (hB : ∀ t, t < 32 → B[t]? = some (.int .u8 (y t))) (hAs : A.size = 32) (hBs : B.size = 32)
    (heq : ∀ w, (binOp .eql 50 (.agg A) (.agg B)).run Tryz.prog w = .ok (.bool E) w) (hE1 : E = true → cmpG x y 32 0 = 0) (hE2 : E = false → ∃ t, t < 32 ∧ x t ≠ y t) :
    Calls Tryz.prog 80 #[.agg A, .agg B] w fun e w' => e = .returned (.int .i64 (cmpG x y 32 0)) ∧ ∃ q os, w' = grow (w.drewN q) os := by
  have HA : Keep (∀ t, t < 32 → A[t]? = some (.int .u8 (x t))) := ⟨hA⟩
  have HB : Keep (∀ t, t < 32 → B[t]? = some (.int .u8 (y t))) := ⟨hB⟩
  obtain ⟨r, hr⟩ : ∃ r, Keep (r = cmpG x y 32 0) := ⟨_, ⟨rfl⟩⟩
  rw [← hr.out] at hE1 ⊢
  have H1 : Keep (E = true → r = 0) := ⟨hE1⟩
  have H2 : Keep (E = false → ∃ t, t < 32 ∧ x t ≠ y t) := ⟨hE2⟩
  have hi1 : (Tryz.prog.info? 50).map (·.size) = some A.size := by rw [hAs]; exact Tryz.size50
  have hi2 : (Tryz.prog.info? 50).map (·.size) = some B.size := by rw [hBs]; exact Tryz.size50
  clear hE1 hE2 hA hB
  have hA1 : (w.alloc (.cells A 50)).heap.size = w.heap.size + 1 := by simp
  have hX : Blk ((w.alloc (.cells A 50)).alloc (.cells B 50)) w.heap.size 50 A := (Blk.new w 50 _).alloc _
  have hY : Blk ((w.alloc (.cells A 50)).alloc (.cells B 50)) (w.heap.size + 1) 50 B := by rw [← hA1]; exact Blk.new _ 50 _
  have hG : (w.alloc (.cells A 50)).alloc (.cells B 50) = grow (w.drewN 0) #[.cells A 50, .cells B 50] := by
    rw [alloc_eq_grow, alloc_eq_grow, grow_grow]; rfl
  have HG : Keep (∃ os, (w.alloc (.cells A 50)).alloc (.cells B 50) = grow w os) := ⟨_, hG⟩
  clear hA1 hG
  go_enter Tryz.func80, Tryz.ntmps80
  go_wp2_with (first | (refine wpList_boxA rfl 50 (.tmp 0) rfl A rfl ?_; refine wpList_boxA rfl 50 (.tmp 1) rfl B rfl ?_) | (refine wpList_load_row rfl 50 (.tmp 2) rfl w.heap.size rfl 50 A (0, 0) (.array 32 5) hX Tryz.underlying50 rfl hi1 ?_; refine wpList_load_row rfl 50 (.tmp 3) rfl (w.heap.size + 1) rfl 50 B (0, 0) (.array 32 5) hY Tryz.underlying50 rfl hi2 ?_))
  · go_ret
    have := H1.out (by assumption)
    obtain ⟨os, hos⟩ := HG.out
    exact ⟨by rw [this]; rfl, 0, os, by rw [hos]; rfl⟩
  · have hE : E = false := by first | assumption | (cases E <;> simp_all)
    obtain ⟨d, hd, hne⟩ := H2.out hE
    have HN : Keep (x d ≠ y d) := ⟨hne⟩
    clear hne
    generalize (w.alloc (.cells A 50)).alloc (.cells B 50) = w0 at *
    generalize w.heap.size = p at *
    go_loopw [5] (fun i wr => ∃ t n : Nat, t ≤ d ∧ i = .int .i64 (t : Int) ∧ (∀ k, k < t → x k = y k) ∧ wr = w0.drewN n) (fun i _ => d - (intOf i).toNat)
    case atStart => exact ⟨0, 0, by omega, rfl, fun k hk => by omega, by rw [World.drewN_zero]⟩
    case round =>
      obtain ⟨t, n, ht, rfl, hke, rfl⟩ := hrel
      have HK : Keep (∀ k, k < t → x k = y k) := ⟨hke⟩
      clear hke
      have c1 : (w0.drewN n).cell? ⟨p, t, none⟩ = some (.int .u8 (x t)) := by rw [World.cell?_drewN, hX.cell]; exact HA.out t (by omega)
      have c2 : (w0.drewN n).cell? ⟨p + 1, t, none⟩ = some (.int .u8 (y t)) := by rw [World.cell?_drewN, hY.cell]; exact HB.out t (by omega)
      obtain ⟨a, ha⟩ : ∃ a, Keep (x t = a) := ⟨_, ⟨rfl⟩⟩
      obtain ⟨b, hb⟩ : ∃ b, Keep (y t = b) := ⟨_, ⟨rfl⟩⟩
      rw [ha.out] at c1
      rw [hb.out] at c2
      obtain ⟨wn, hwn⟩ : ∃ wn, Keep (w0.drewN n = wn) := ⟨_, ⟨rfl⟩⟩
      rw [hwn.out] at c1 c2 ⊢
      have ht32 : (t : Int) < 32 := by omega
      go_wp2
      go_quiet (fail)
      by_cases hab : a = b
      · have htd : t ≠ d := fun e => by subst e; exact HN.out (by rw [ha.out, hb.out, hab])
        go_wp2
        go_roundw
        case rel => exact ⟨t + 1, n + nq, by omega, by go_num, fun k hk => by
          rcases Nat.lt_or_eq_of_le (Nat.le_of_lt_succ hk) with h | h
          · exact HK.out k h
          · subst h; rw [ha.out, hb.out, hab], by rw [← hwn.out, World.drewN_drewN]⟩
        case measure => simp [intOf]; omega
      · have hra : Keep (r = (if a < b then -1 else if b < a then 1 else 0)) := ⟨by
          rw [hr.out, cmpG_at x y t 32 HK.out (by omega) (by rw [ha.out, hb.out]; exact hab), ha.out, hb.out]
          by_cases h1 : a < b
          · rw [if_pos h1, if_pos h1]
          · rw [if_neg h1, if_neg h1, if_pos (by omega)]⟩
        have hcb : ∀ w, Calls Tryz.prog 104 #[.int .u8 a, .int .u8 b] w fun e w' => e = .returned (.int .i64 r) ∧ ∃ q, w' = w.drewN q := fun w => by rw [hra.out]; exact cmpByte_any a b w
        have d1 : (wn.drewN nq).cell? ⟨p, t, none⟩ = some (.int .u8 a) := by rw [World.cell?_drewN]; exact c1
        have d2 : (wn.drewN nq).cell? ⟨p + 1, t, none⟩ = some (.int .u8 b) := by rw [World.cell?_drewN]; exact c2
        obtain ⟨wm, hwm⟩ : ∃ wm, Keep (wn.drewN nq = wm) := ⟨_, ⟨rfl⟩⟩
        go_wp2
        rw [hwm.out] at d1 d2 ⊢
        go_quiet (first | (go_at_call 104; refine Calls.quiet_of (hcb _)))
        go_wp2
        go_ret
        refine ⟨rfl, ?_⟩
        rw [← hwm.out, ← hwn.out, World.drewN_drewN, World.drewN_drewN]
        exact drewN_grown HG.out _

theorem compare_any (x y : Hs) (w : World) : Calls Tryz.prog 80 #[.agg (bytesA 32 x.f), .agg (bytesA 32 y.f)] w fun e w' => e = .returned (.int .i64 (cf x y)) ∧ ∃ q os, w' = grow (w.drewN q) os :=
  compare_walk (bytesA 32 x.f) (bytesA 32 y.f) x.f y.f (decide (x = y)) w (fun _ ht => bytesA_get _ _ _ ht) (fun _ ht => bytesA_get _ _ _ ht) (bytesA_size _ _) (bytesA_size _ _) (run_eqlH x y)
    (fun h => (cf_zero x y).2 (of_decide_eq_true h)) (fun h => Classical.byContradiction fun hc => of_decide_eq_false h (Hs.ext' fun i hi => Classical.byContradiction fun hn => hc ⟨i, hi, hn⟩))


end Go.Proofs.YtdkhjeofjhcceaaGreatDoor.Nd.Sh
namespace Go.Proofs.YtdkhjeofjhcceaaGreatDoor.Nd.Sh
open Go.RowKit Go.Sort

def encH (h : Hs) : List Value := (bytesA 32 h.f).toList
theorem encH_len (h : Hs) : (encH h).length = 32 := by rw [encH, Array.length_toList, bytesA_size]
theorem encH_get (h : Hs) (j : Nat) (hj : j < 32) : (encH h)[j]? = some (.int .u8 (h.f j)) := by rw [encH, Array.getElem?_toList, bytesA_get _ _ _ hj]
theorem encH_one (h : Hs) (v : Value) (hv : v ∈ encH h) : v.oneCell' = true := by
  have := Array.all_eq_true'.1 (bytesA_one 32 h.f) v (by unfold encH at hv; exact Array.mem_toList_iff.1 hv)
  simpa using this
theorem encH_arr (h : Hs) : (encH h).toArray = bytesA 32 h.f := by rw [encH, Array.toArray_toList]
def flatH (L : List Hs) : List Value := L.flatMap encH
theorem flatH_cons (x : Hs) (L : List Hs) : flatH (x :: L) = encH x ++ flatH L := rfl
theorem flatH_app (L M : List Hs) : flatH (L ++ M) = flatH L ++ flatH M := by simp [flatH]
theorem flatH_len : ∀ L : List Hs, (flatH L).length = L.length * 32
  | [] => rfl
  | x :: L => by rw [flatH_cons, List.length_append, encH_len, flatH_len L, List.length_cons]; omega
theorem flatH_get : ∀ (L : List Hs) (i : Nat) (hi : i < L.length) (j : Nat), j < 32 → (flatH L)[i * 32 + j]? = (encH L[i])[j]?
  | x :: L, 0, _, j, hj => by rw [flatH_cons, List.getElem?_append_left (by rw [encH_len]; omega)]; simp
  | x :: L, i + 1, hi, j, hj => by
    rw [flatH_cons, List.getElem?_append_right (by rw [encH_len]; omega), encH_len, show (i + 1) * 32 + j - 32 = i * 32 + j by omega]
    simpa using flatH_get L i (by simpa using hi) j hj

def HRow (w : World) (v : Value) (L : List Hs) : Prop :=
  (∃ a c, v = .slice a 0 c ∧ L = [] ∧ (a = none → c = 0)) ∨ ∃ b off cap, v = .slice (some ⟨b, off, none⟩) L.length cap ∧ L.length ≤ cap ∧ w.rangeAt b off (flatH L)
theorem rangeAt_elem {w : World} {b off : Nat} {L : List Hs} (h : w.rangeAt b off (flatH L)) (i : Nat) (hi : i < L.length) : w.rangeAt b (off + i * 32) (encH L[i]) := by
  intro j v hv
  have hj : j < 32 := by
    have := (List.getElem?_eq_some_iff.1 hv).1
    rwa [encH_len] at this
  rw [Nat.add_assoc]
  exact h _ v (by rw [flatH_get L i hi j hj]; exact hv)
theorem HRow.form {w : World} {v : Value} {L : List Hs} (h : HRow w v L) : ∃ a c, v = .slice a L.length c := by
  rcases h with ⟨a, c, rfl, rfl, _⟩ | ⟨b, off, cap, rfl, _⟩
  · exact ⟨a, c, rfl⟩
  · exact ⟨_, cap, rfl⟩
theorem HRow.at {w : World} {a : Option Addr} {n c : Nat} {L : List Hs} (h : HRow w (.slice a n c) L) (hL : 0 < L.length) : ∃ b off, a = some ⟨b, off, none⟩ ∧ n = L.length ∧ L.length ≤ c ∧ w.rangeAt b off (flatH L) := by
  rcases h with ⟨_, _, _, rfl, _⟩ | ⟨b, off, cap, h1, h2, h3⟩
  · simp at hL
  · injection h1 with h1 h4 h5
    subst h1 h4 h5
    exact ⟨b, off, rfl, rfl, h2, h3⟩
theorem rangeAt_lt {w : World} {b off : Nat} {L : List Hs} (h : w.rangeAt b off (flatH L)) (hL : 0 < L.length) : b < w.heap.size := by
  have := h 0 (.int .u8 (L[0].f 0)) ((flatH_get L 0 hL 0 (by omega)).trans (encH_get _ _ (by omega)))
  exact cell_lt this
theorem rangeAt_below {w w' : World} {B b off : Nat} {cs : List Value} (h : w.rangeAt b off cs) (hb : Below B w w') (hlt : b < B) : w'.rangeAt b off cs := fun j v hv => by
  rw [hb.cell (p := ⟨b, off + j, none⟩) hlt]; exact h j v hv
theorem HRow.below {w w' : World} {v : Value} {L : List Hs} (h : HRow w v L) (hb : Below w.heap.size w w') : HRow w' v L := by
  rcases h with h | ⟨b, off, cap, h1, h2, h3⟩
  · exact .inl h
  · by_cases hL : 0 < L.length
    · exact .inr ⟨b, off, cap, h1, h2, rangeAt_below h3 hb (rangeAt_lt h3 hL)⟩
    · have : L = [] := List.eq_nil_of_length_eq_zero (by omega)
      subst this
      exact .inl ⟨_, _, h1, rfl, fun h => by cases h⟩
theorem HRow.of_owns {w : World} {base n : Nat} {v : Value} {L : List Hs} (h : w.ownsRow base 50 32 v n (flatH L)) : HRow w v L := by
  have hn : n = L.length := by have := h.1; rw [flatH_len] at this; omega
  subst hn
  rcases h.2 with ⟨rfl, h0⟩ | ⟨g, cap, cur, rfl, _, hg, hc, _, _, ht⟩
  · exact .inl ⟨none, 0, rfl, List.eq_nil_of_length_eq_zero h0, fun _ => rfl⟩
  · refine .inr ⟨g, 0, cap, rfl, hc, fun j v hv => ?_⟩
    rw [Nat.zero_add, cell_of_row w g j cur 50 (0, 0) hg]
    rw [← ht, List.getElem?_take] at hv
    split at hv
    · rwa [Array.getElem?_toList] at hv
    · cases hv

end Go.Proofs.YtdkhjeofjhcceaaGreatDoor.Nd.Sh
namespace Go.Proofs.YtdkhjeofjhcceaaGreatDoor.Nd
open Go.RowKit
set_option linter.unusedSimpArgs false
set_option linter.unusedVariables false

abbrev Hs := Sh.Hs
def hB (h : Hs) : List Int := hl 32 h.f
def hs (c : List Int) : Hs := Vector.ofFn fun i : Fin 32 => UInt8.ofNat (c.getD i.val 0).toNat
theorem hs_f (c : List Int) (hc : Byts c) (i : Nat) (hi : i < 32) : (hs c).f i = c.getD i 0 := by
  have := hc.getD i
  rw [Sh.Hs.f_get _ _ hi]
  simp only [hs, Vector.getElem_ofFn]
  rw [UInt8.toNat_ofNat_of_lt' (by show (c.getD i 0).toNat < 256; omega)]
  omega
theorem cmp_any (x y : Hs) (w : World) : Calls Tryz.prog 80 #[.agg (bytesA 32 x.f), .agg (bytesA 32 y.f)] w fun e w' => e = .returned (.int .i64 (Sh.cf x y)) ∧ Below w.heap.size w w' := by
  refine (Sh.compare_any x y w).mono ?_
  rintro e w' ⟨h1, q, os, rfl⟩
  exact ⟨h1, Sh.grown_below w q os⟩

def OwnH (w : World) (v : Value) (l : List Hs) : Prop := w.ownsRow 0 50 32 v l.length (Sh.flatH l)
theorem OwnH.form {w : World} {v : Value} {l : List Hs} (h : OwnH w v l) : (v = .slice none 0 0 ∧ l = []) ∨ ∃ g cap cur, v = .slice (some ⟨g, 0, none⟩) l.length cap ∧ Blk w g 50 cur ∧ l.length ≤ cap ∧ cur.toList.take (l.length * 32) = Sh.flatH l := by
  rcases h.2 with ⟨rfl, h0⟩ | ⟨g, cap, cur, rfl, _, h3, h4, h5, h6, h7⟩
  · exact .inl ⟨rfl, List.eq_nil_of_length_eq_zero h0⟩
  · exact .inr ⟨g, cap, cur, rfl, h3, h4, h7⟩
theorem OwnH.row {w : World} {v : Value} {l : List Hs} (h : OwnH w v l) : Sh.HRow w v l := Sh.HRow.of_owns h
theorem OwnH.sl {w : World} {v : Value} {l : List Hs} (h : OwnH w v l) : ∃ a c, v = .slice a l.length c := h.row.form
theorem OwnH.lt {w : World} {v : Value} {l : List Hs} (h : OwnH w v l) : ∀ k, v.ownBlock = some k → k < w.heap.size := fun k hk => (World.ownsRow.lt h k hk).2
theorem OwnH.grown {w w' : World} {v : Value} {l : List Hs} {S : Nat → Prop} (h : OwnH w v l) (hg : Grown w w' S) (hs : ∀ k, v.ownBlock = some k → ¬ S k) : OwnH w' v l := by
  refine ⟨h.1, ?_⟩
  rcases h.2 with h1 | ⟨g, cap, cur, rfl, h2, h3, h4⟩
  · exact .inl h1
  · exact .inr ⟨g, cap, cur, rfl, h2, hg.blk h3 (hs g rfl), h4⟩
theorem OwnH.below {w w' : World} {v : Value} {l : List Hs} (h : OwnH w v l) (hb : Below w.heap.size w w') : OwnH w' v l := h.grown (Grown.below (S := fun _ => False) hb) fun _ _ h => h
theorem OwnH.ne {w : World} {v : Value} {l : List Hs} {p : Nat} {T : TypeId} {cs : Array Value} (h : OwnH w v l) (hp : Blk w p T cs) (hT : T ≠ 50) : v.ownBlock ≠ some p := by
  intro e
  rcases h.form with ⟨rfl, _⟩ | ⟨g, cap, cur, rfl, h3, _⟩
  · simp [Value.ownBlock] at e
  · simp [Value.ownBlock] at e
    subst e
    exact hT (blk_type hp h3)
theorem ownH_empty (w : World) : OwnH (w.alloc (.cells #[] 50)) (.slice (some ⟨w.heap.size, 0, none⟩) 0 0) [] :=
  ⟨rfl, .inr ⟨w.heap.size, 0, #[], rfl, Nat.zero_le _, Blk.new w 50 #[], Nat.le_refl _, by decide, rfl, rfl⟩⟩
theorem Tryz.infoH : (Tryz.prog.info? 50).map (fun i => (i.zero, i.size, i.bytes)) = some (some (.agg (bytesA 32 fun _ => 0)), 32, 32) := by kernel_rfl
theorem run_appH (w : World) (ty : TypeId) (v : Value) (l : List Hs) (hown : OwnH w v l) (g : Nat) (x : Hs) (hg : Blk w g 50 (bytesA 32 x.f)) (hb : l.length ≤ 1000000000000) :
    ∃ v' w', (Builtin.append_ #[25, 25] ty #[v, .slice (some ⟨g, 0, none⟩) 1 1]).run Tryz.prog w = .ok v' w' ∧ OwnH w' v' (l ++ [x]) ∧ (Grown w w' fun k => v.ownBlock = some k) ∧ Moved w v v' := by
  obtain ⟨i, hi, hzz⟩ := Option.map_eq_some_iff.1 Tryz.infoH
  simp only [Prod.mk.injEq] at hzz
  obtain ⟨hz, hsz, hby⟩ := hzz
  have hzs : (Value.agg (bytesA 32 fun _ => 0)).cells.size = 32 := by show (bytesA 32 fun _ => 0).size = 32; exact bytesA_size _ _
  obtain ⟨v', w', hr, h1, h2, _, h3⟩ := run_append_own_at (P := Tryz.prog) w 0 25 ty 50 i (.agg (bytesA 32 fun _ => 0)) 32 32 Tryz.underlying25 hi hz hsz hby hzs (by omega) v l.length (Sh.flatH l) hown ⟨g, 0, none⟩ 1 1 (Sh.encH x) (by rw [Sh.encH_len]) (fun j u hu => by
      rw [Addr.add_mid, Nat.zero_add, hg.cell, ← Array.getElem?_toList]
      exact hu)
    (fun u hu => Sh.encH_one x u hu) (by unfold maxLen; omega) (by omega) (Nat.zero_le _)
  refine ⟨v', w', hr, ?_, Grown.of h2 fun k _ e => e, ?_⟩
  · unfold OwnH
    rw [List.length_append, Sh.flatH_app, show Sh.flatH [x] = Sh.encH x by simp [Sh.flatH]]
    exact h1
  · rcases h3 with h3 | h3
    · exact .inl h3
    · exact .inr ⟨_, h3, Nat.le_refl _⟩
theorem WL.appH {ops : Array Oper} {rest : List Oper} {o : Oper} {a : Act} {w : World} {Q : Exit → Act → World → Prop} (hw : Region.wanted o (yielded ops a.tmps) = true) (s x : Operand)
    (ho : o.op = .call { callee := .builtin .append, args := #[s, x], argTypes := #[25, 25] }) (v : Value) (l : List Hs) (g : Nat) (y : Hs)
    (hs : a.eval s = v) (hx : a.eval x = .slice (some ⟨g, 0, none⟩) 1 1) (hown : OwnH w v l) (hg : Blk w g 50 (bytesA 32 y.f)) (hb : l.length ≤ 1000000000000)
    (h : ∀ v' w', OwnH w' v' (l ++ [y]) → (Grown w w' fun k => v.ownBlock = some k) → Moved w v v' → WL Tryz.prog ops Q rest (a.put o.dst v') w') : WL Tryz.prog ops Q (o :: rest) a w :=
  ⟨wpList_wanted hw fun K hK => by
    obtain ⟨v', w', hr, h1, h2, h3⟩ := run_appH w o.type v l hown g y hg hb
    unfold Oper.wp execOp
    simp only [ho, resolve, invoke, builtin, Sem.run_bind, Sem.run_pure, Result.andThen_ok, List.map_toArray, List.map_cons, List.map_nil, hs, hx, hr]
    exact hK _ _ (h v' w' h1 h2 h3).out⟩
theorem bsH (x : Hs) (w : World) : (Instr.buildSlice 25 1 #[(0, .agg (bytesA 32 x.f))]).run Tryz.prog w = .ok (.slice (some ⟨w.heap.size, 0, none⟩) 1 1) (w.alloc (.cells (bytesA 32 x.f) 50)) := by kernel_rfl
theorem bsHE (w : World) : (Instr.buildSlice 25 0 #[]).run Tryz.prog w = .ok (.slice (some ⟨w.heap.size, 0, none⟩) 0 0) (w.alloc (.cells #[] 50)) := by kernel_rfl
def getH (L : List Int) : Nat → List Hs → Nat → Int × Nat × List Hs
  | 0, P, a => (0, a, P)
  | n + 1, P, a => if nextW (L.drop a) 32 ≠ 0 then (nextW (L.drop a) 32, a + nextN (L.drop a) 32, [])
    else if 0 < P.length ∧ 0 ≤ Sh.cf (P.getD (P.length - 1) default) (hs ((L.drop a).take 32)) then (52, a, [])
    else getH L n (P ++ [hs ((L.drop a).take 32)]) (a + 32)
theorem hrd_hs (D : List Int) (h : nextW D 32 = 0) (hD : Byts D) : bytesA 32 (hrd D 0) = bytesA 32 (hs (D.take 32)).f := bytesA_congr fun i hi => by
  have := nextN_0 _ _ h
  rw [hs_f _ (hD.take 32) i hi]
  unfold hrd
  rw [if_pos rfl, List.getD_eq_getElem?_getD, List.getD_eq_getElem?_getD, List.getElem?_take, if_pos hi]
end Go.Proofs.YtdkhjeofjhcceaaGreatDoor.Nd
namespace Go.Proofs.YtdkhjeofjhcceaaGreatDoor.Nd
open Go.RowKit
set_option linter.unusedSimpArgs false
set_option linter.unusedVariables false

def Gives (p : Nat) (R : Int × Nat) (w : World) (e : Ending) (w' : World) : Prop := R.1 ≠ 0 ∧ ∃ q, w.heap.size ≤ q ∧ e = .panicked [wr q] ∧ BadAt w' q R.1 R.2 ∧ Grown w w' fun k => k = p
def Reads (p : Nat) (s : ByteArray) (R : Int × Nat) (v : Value) (w : World) (e : Ending) (w' : World) : Prop :=
  (R.1 = 0 ∧ e = .returned v ∧ InAt w' p s R.2 none ∧ Grown w w' fun k => k = p) ∨ Gives p R w e w'
def formR (L : List Int) (a : Nat) : Int × Nat := if nextW (L.drop a) 1 ≠ 0 then (nextW (L.drop a) 1, a + nextN (L.drop a) 1) else if (L.drop a).getD 0 0 = 1 then (0, a + 1) else (5, a)
def auR (L : List Int) (a : Nat) : Int × Nat := if nextW (L.drop a) 1 ≠ 0 then (nextW (L.drop a) 1, a + nextN (L.drop a) 1) else if 1 ≤ (L.drop a).getD 0 0 ∧ (L.drop a).getD 0 0 ≤ 8 then (0, a + 1) else (50, a)
def ckR (L : List Int) (a : Nat) : Int × Nat := if (fstM (L.drop a) 4096).2.2 ≠ 0 then ((fstM (L.drop a) 4096).2.2, a + (fstM (L.drop a) 4096).2.1.toNat) else if (fstM (L.drop a) 4096).1 = 0 then (51, a) else (0, a + (fstM (L.drop a) 4096).2.1.toNat)
theorem readForm_any (p : Nat) (s : ByteArray) (a : Nat) (w : World) (hI : InAt w p s a none) (hb : s.size ≤ 140737488355328) :
    Calls Tryz.prog 82 #[ptr p] w (Reads p s (formR (lst s) a) (.tuple #[]) w) := by
  have HI := Keep.mk hI
  obtain ⟨D, hD⟩ : ∃ D, D = (lst s).drop a := ⟨_, rfl⟩
  obtain ⟨W, hW⟩ : ∃ W, W = nextW D 1 := ⟨_, rfl⟩
  obtain ⟨N, hN⟩ : ∃ N, N = nextN D 1 := ⟨_, rfl⟩
  obtain ⟨c, hc⟩ : ∃ c, c = if W = 0 then D.getD 0 0 else 0 := ⟨_, rfl⟩
  have HC := Keep.mk (ibyte_good p s a w hI hb D hD W hW N hN c hc)
  obtain ⟨R, hR⟩ : ∃ R, R = formR (lst s) a := ⟨_, rfl⟩
  have HR1 : Keep (¬ W = 0 → R = (W, a + N)) := ⟨fun h => by rw [hR]; unfold formR; rw [← hD, ← hW, ← hN, if_pos h]⟩
  have HN1 : Keep (W = 0 → N = 1) := ⟨fun h => by rw [hN, (nextN_0 D 1 (by rw [← hW]; exact h)).1]; rfl⟩
  have HR2 : Keep (W = 0 → c = 1 → R = (0, a + 1)) := ⟨fun h1 h2 => by rw [hR]; unfold formR; rw [← hD, ← hW, if_neg (by simp [h1])]; rw [hc, if_pos h1] at h2; rw [if_pos h2]⟩
  have HR3 : Keep (W = 0 → ¬ c = 1 → R = (5, a)) := ⟨fun h1 h2 => by rw [hR]; unfold formR; rw [← hD, ← hW, if_neg (by simp [h1])]; rw [hc, if_pos h1] at h2; rw [if_neg h2]⟩
  rw [← hR]
  clear hI hb hD hW hN hc hR
  go_enter Tryz.func82, Tryz.ntmps82
  refine wp_seq_k fun K1 hK1 => ?_
  refine wp_region_list (WL.out ?_)
  refine WL.val (by kernel_rfl) (.pointer (some ⟨p, 0, none⟩)) (by go_simp) ?_
  simp only [Act.put, List.setIfInBounds_toArray, List.set_cons_zero, List.set_cons_succ]
  refine WL.callF (by kernel_rfl) 69 _ _ rfl Tryz.in69 #[ptr p] (by simp [Act.eval]) ?_
  refine (iat_any p s a none w HI.out).mono ?_
  rintro e w0 ⟨rfl, hw0⟩
  rw [hw0]
  clear hw0 w0
  refine ⟨_, rfl, ?_⟩
  simp only [Act.put, List.setIfInBounds_toArray, List.set_cons_zero, List.set_cons_succ]
  refine WL.val (by kernel_rfl) (.int .i64 (a : Int)) (by go_simp) ?_
  simp only [Act.put, List.setIfInBounds_toArray, List.set_cons_zero, List.set_cons_succ]
  refine WL.nil ?_
  refine hK1 _ _ ?_
  refine wp_seq_k fun K2 hK2 => ?_
  refine wp_region_list (WL.out ?_)
  refine WL.val (by kernel_rfl) (.pointer (some ⟨p, 0, none⟩)) (by go_simp) ?_
  simp only [Act.put, List.setIfInBounds_toArray, List.set_cons_zero, List.set_cons_succ]
  refine WL.callF (by kernel_rfl) 108 _ _ rfl Tryz.in108 #[ptr p] (by simp [Act.eval]) ?_
  refine (HC.out).mono ?_
  rintro e w1 ⟨bad, er, rfl, h1, h2, h3⟩
  refine ⟨_, rfl, ?_⟩
  have H1 := Keep.mk h1
  have H2 := Keep.mk h2
  have H3 := Keep.mk h3
  clear h1 h2 h3
  simp only [Act.put, List.setIfInBounds_toArray, List.set_cons_zero, List.set_cons_succ]
  by_cases hE : W = 0
  · rcases H3.out with ⟨e1, rfl, rfl⟩ | ⟨e1, _⟩
    rotate_left
    · exact absurd hE e1
    refine WL.val (by kernel_rfl) (.int .u8 c) (by go_simp) ?_
    simp only [Act.put, List.setIfInBounds_toArray, List.set_cons_zero, List.set_cons_succ]
    refine WL.val (by kernel_rfl) (.nilIface) (by go_simp) ?_
    simp only [Act.put, List.setIfInBounds_toArray, List.set_cons_zero, List.set_cons_succ]
    refine WL.callF (by kernel_rfl) 107 _ _ rfl Tryz.in107 #[.int .u8 c, .nilIface] (by simp [Act.eval]) ?_
    refine (must81_ok (.int .u8 c) w1).mono ?_
    rintro e w0 ⟨rfl, hw0⟩
    rw [hw0]
    clear hw0 w0
    refine ⟨_, rfl, ?_⟩
    simp only [Act.put, List.setIfInBounds_toArray, List.set_cons_zero, List.set_cons_succ]
    by_cases h1_5 : c = 1
    · skip
      refine WL.val (by kernel_rfl) (.bool false) (by go_simp) ?_
      simp only [Act.put, List.setIfInBounds_toArray, List.set_cons_zero, List.set_cons_succ]
      refine WL.nil ?_
      refine hK2 _ _ ?_
      refine wp_cond_false rfl ?_
      refine wp_skip ?_
      go_end0
      exact .inl ⟨by rw [HR2.out hE h1_5], rfl, by rw [HR2.out hE h1_5, ← HN1.out hE]; exact H1.out, H2.out⟩
    · skip
      refine WL.val (by kernel_rfl) (.bool true) (by go_simp) ?_
      simp only [Act.put, List.setIfInBounds_toArray, List.set_cons_zero, List.set_cons_succ]
      refine WL.nil ?_
      refine hK2 _ _ ?_
      refine wp_cond_true rfl ?_
      refine wp_region_list (WL.out ?_)
      refine WL.val (by kernel_rfl) (.int .i64 (a : Int)) (by go_simp) ?_
      simp only [Act.put, List.setIfInBounds_toArray, List.set_cons_zero, List.set_cons_succ]
      refine WL.callP (by kernel_rfl) 53 _ _ rfl Tryz.in53 #[.int .i64 5, .int .i64 (a : Int)] (by simp [Act.eval]) ?_
      refine (at_any 5 a w1).mono ?_
      rintro e wz ⟨rfl, hbz, hwz⟩
      have HBd : Keep (BadAt wz w1.heap.size 5 a) := ⟨hbz⟩
      have HGd : Keep (Grown w wz fun k => k = p) := ⟨H2.out.trans (Grown.below hwz)⟩
      clear hbz hwz
      refine .inr ⟨_, rfl, ?_⟩
      try simp only [Exit.inBlock, Exit.then]
      refine ⟨rfl, ?_⟩
      exact .inr ⟨by rw [HR3.out hE h1_5]; exact (by decide : (5 : Int) ≠ 0), w1.heap.size, H2.out.size, rfl, by rw [HR3.out hE h1_5]; exact HBd.out, HGd.out⟩
  · rcases H3.out with ⟨e1, _, _⟩ | ⟨_, q, hq, rfl, rfl, hbad⟩
    · exact absurd e1 hE
    have Hbad := Keep.mk hbad
    clear hbad
    unfold err
    refine WL.val (by kernel_rfl) (.int .u8 c) (by go_simp) ?_
    simp only [Act.put, List.setIfInBounds_toArray, List.set_cons_zero, List.set_cons_succ]
    refine WL.val (by kernel_rfl) (.iface 121 (ptr q)) (by go_simp) ?_
    simp only [Act.put, List.setIfInBounds_toArray, List.set_cons_zero, List.set_cons_succ]
    refine WL.callP (by kernel_rfl) 107 _ _ rfl Tryz.in107 #[.int .u8 c, err q] (by simp [Act.eval, err]) ?_
    refine (must81_bad _ q w1).mono ?_
    rintro e w' ⟨rfl, rfl⟩
    refine .inr ⟨_, rfl, ?_⟩
    try simp only [Exit.inBlock, Exit.then]
    refine ⟨rfl, ?_⟩
    exact .inr ⟨by rw [HR1.out hE]; exact hE, q, hq, rfl, by rw [HR1.out hE]; exact Hbad.out, H2.out⟩
theorem readAuthor_any (p : Nat) (s : ByteArray) (a : Nat) (w : World) (hI : InAt w p s a none) (hb : s.size ≤ 140737488355328) :
    Calls Tryz.prog 83 #[ptr p] w (Reads p s (auR (lst s) a) (.int .i64 (((lst s).drop a).getD 0 0)) w) := by
  have HI := Keep.mk hI
  obtain ⟨D, hD⟩ : ∃ D, D = (lst s).drop a := ⟨_, rfl⟩
  obtain ⟨W, hW⟩ : ∃ W, W = nextW D 1 := ⟨_, rfl⟩
  obtain ⟨N, hN⟩ : ∃ N, N = nextN D 1 := ⟨_, rfl⟩
  obtain ⟨c, hc⟩ : ∃ c, c = if W = 0 then D.getD 0 0 else 0 := ⟨_, rfl⟩
  have HC := Keep.mk (ibyte_good p s a w hI hb D hD W hW N hN c hc)
  obtain ⟨R, hR⟩ : ∃ R, R = auR (lst s) a := ⟨_, rfl⟩
  have HR1 : Keep (¬ W = 0 → R = (W, a + N)) := ⟨fun h => by rw [hR]; unfold auR; rw [← hD, ← hW, ← hN, if_pos h]⟩
  have HN1 : Keep (W = 0 → N = 1) := ⟨fun h => by rw [hN, (nextN_0 D 1 (by rw [← hW]; exact h)).1]; rfl⟩
  have HR2 : Keep (W = 0 → (1 ≤ c ∧ c ≤ 8) → R = (0, a + 1)) := ⟨fun h1 h2 => by rw [hR]; unfold auR; rw [← hD, ← hW, if_neg (by simp [h1])]; rw [hc, if_pos h1] at h2; rw [if_pos h2]⟩
  have HR3 : Keep (W = 0 → ¬ (1 ≤ c ∧ c ≤ 8) → R = (50, a)) := ⟨fun h1 h2 => by rw [hR]; unfold auR; rw [← hD, ← hW, if_neg (by simp [h1])]; rw [hc, if_pos h1] at h2; rw [if_neg h2]⟩
  have Hcv : Keep (W = 0 → c = ((lst s).drop a).getD 0 0) := ⟨fun h => by rw [hc, if_pos h, hD]⟩
  have Hcr : Keep (0 ≤ c ∧ c < 256) := ⟨by
    have := ((lst_byts s).drop a).getD 0
    rw [← hD] at this
    rw [hc]; split <;> omega⟩
  rw [← hR]
  clear hI hb hD hW hN hc hR
  go_enter Tryz.func83, Tryz.ntmps83
  refine wp_seq_k fun K1 hK1 => ?_
  refine wp_region_list (WL.out ?_)
  refine WL.val (by kernel_rfl) (.int .i64 0) (by go_simp) ?_
  simp only [Act.put, List.setIfInBounds_toArray, List.set_cons_zero, List.set_cons_succ]
  refine WL.nil ?_
  refine hK1 _ _ ?_
  refine wp_seq_k fun K2 hK2 => ?_
  refine wp_region_list (WL.out ?_)
  refine WL.val (by kernel_rfl) (.pointer (some ⟨p, 0, none⟩)) (by go_simp) ?_
  simp only [Act.put, List.setIfInBounds_toArray, List.set_cons_zero, List.set_cons_succ]
  refine WL.callF (by kernel_rfl) 69 _ _ rfl Tryz.in69 #[ptr p] (by simp [Act.eval]) ?_
  refine (iat_any p s a none w HI.out).mono ?_
  rintro e w0 ⟨rfl, hw0⟩
  rw [hw0]
  clear hw0 w0
  refine ⟨_, rfl, ?_⟩
  simp only [Act.put, List.setIfInBounds_toArray, List.set_cons_zero, List.set_cons_succ]
  refine WL.val (by kernel_rfl) (.int .i64 (a : Int)) (by go_simp) ?_
  simp only [Act.put, List.setIfInBounds_toArray, List.set_cons_zero, List.set_cons_succ]
  refine WL.nil ?_
  refine hK2 _ _ ?_
  refine wp_seq_k fun K3 hK3 => ?_
  refine wp_region_list (WL.out ?_)
  refine WL.val (by kernel_rfl) (.pointer (some ⟨p, 0, none⟩)) (by go_simp) ?_
  simp only [Act.put, List.setIfInBounds_toArray, List.set_cons_zero, List.set_cons_succ]
  refine WL.callF (by kernel_rfl) 108 _ _ rfl Tryz.in108 #[ptr p] (by simp [Act.eval]) ?_
  refine (HC.out).mono ?_
  rintro e w1 ⟨bad, er, rfl, h1, h2, h3⟩
  refine ⟨_, rfl, ?_⟩
  have H1 := Keep.mk h1
  have H2 := Keep.mk h2
  have H3 := Keep.mk h3
  clear h1 h2 h3
  simp only [Act.put, List.setIfInBounds_toArray, List.set_cons_zero, List.set_cons_succ]
  by_cases hE : W = 0
  · rcases H3.out with ⟨e1, rfl, rfl⟩ | ⟨e1, _⟩
    rotate_left
    · exact absurd hE e1
    have hwc : IntKind.i64.wrap c = c := by rw [IntKind.wrap_i64]; have := Hcr.out; omega
    refine WL.val (by kernel_rfl) (.int .u8 c) (by go_simp) ?_
    simp only [Act.put, List.setIfInBounds_toArray, List.set_cons_zero, List.set_cons_succ]
    refine WL.val (by kernel_rfl) (.nilIface) (by go_simp) ?_
    simp only [Act.put, List.setIfInBounds_toArray, List.set_cons_zero, List.set_cons_succ]
    refine WL.callF (by kernel_rfl) 107 _ _ rfl Tryz.in107 #[.int .u8 c, .nilIface] (by simp [Act.eval]) ?_
    refine (must81_ok (.int .u8 c) w1).mono ?_
    rintro e w0 ⟨rfl, hw0⟩
    rw [hw0]
    clear hw0 w0
    refine ⟨_, rfl, ?_⟩
    simp only [Act.put, List.setIfInBounds_toArray, List.set_cons_zero, List.set_cons_succ]
    refine WL.val (by kernel_rfl) (.int .i64 c) (by go_simp) ?_
    simp only [Act.put, List.setIfInBounds_toArray, List.set_cons_zero, List.set_cons_succ]
    refine WL.val (by kernel_rfl) (.int .i64 c) (by go_simp) ?_
    simp only [Act.put, List.setIfInBounds_toArray, List.set_cons_zero, List.set_cons_succ]
    refine WL.nil ?_
    refine hK3 _ _ ?_
    refine wp_seq_k fun K4 hK4 => ?_
    refine wp_seq_k fun K5 hK5 => ?_
    by_cases hA : 1 ≤ c ∧ c ≤ 8
    · skip
      refine wp_region_list (WL.out ?_)
      refine WL.val (by kernel_rfl) (.int .i64 c) (by go_simp) ?_
      simp only [Act.put, List.setIfInBounds_toArray, List.set_cons_zero, List.set_cons_succ]
      refine WL.callF (by kernel_rfl) 109 _ _ rfl Tryz.in109 #[.int .i64 c] (by simp [Act.eval]) ?_
      refine (isAuthor_yes c w1 hA).mono ?_
      rintro e w0 ⟨rfl, hw0⟩
      rw [hw0]
      clear hw0 w0
      refine ⟨_, rfl, ?_⟩
      simp only [Act.put, List.setIfInBounds_toArray, List.set_cons_zero, List.set_cons_succ]
      refine WL.val (by kernel_rfl) (.bool false) (by go_simp) ?_
      simp only [Act.put, List.setIfInBounds_toArray, List.set_cons_zero, List.set_cons_succ]
      refine WL.nil ?_
      refine hK5 _ _ ?_
      refine wp_cond_false rfl ?_
      refine wp_skip ?_
      refine hK4 _ _ ?_
      refine wp_seq_k fun K6 hK6 => ?_
      refine wp_region_list (WL.out ?_)
      refine WL.val (by kernel_rfl) (.int .i64 c) (by go_simp) ?_
      simp only [Act.put, List.setIfInBounds_toArray, List.set_cons_zero, List.set_cons_succ]
      refine WL.val (by kernel_rfl) (.int .i64 c) (by go_simp) ?_
      simp only [Act.put, List.setIfInBounds_toArray, List.set_cons_zero, List.set_cons_succ]
      refine WL.nil ?_
      refine hK6 _ _ ?_
      refine wp_ret ?_
      go_ret
      exact .inl ⟨by rw [HR2.out hE hA], by rw [← Hcv.out hE]; rfl, by rw [HR2.out hE hA, ← HN1.out hE]; exact H1.out, H2.out⟩
    · skip
      refine wp_region_list (WL.out ?_)
      refine WL.val (by kernel_rfl) (.int .i64 c) (by go_simp) ?_
      simp only [Act.put, List.setIfInBounds_toArray, List.set_cons_zero, List.set_cons_succ]
      refine WL.callF (by kernel_rfl) 109 _ _ rfl Tryz.in109 #[.int .i64 c] (by simp [Act.eval]) ?_
      refine (isAuthor_no c w1 hA).mono ?_
      rintro e w0 ⟨rfl, hw0⟩
      rw [hw0]
      clear hw0 w0
      refine ⟨_, rfl, ?_⟩
      simp only [Act.put, List.setIfInBounds_toArray, List.set_cons_zero, List.set_cons_succ]
      refine WL.val (by kernel_rfl) (.bool true) (by go_simp) ?_
      simp only [Act.put, List.setIfInBounds_toArray, List.set_cons_zero, List.set_cons_succ]
      refine WL.nil ?_
      refine hK5 _ _ ?_
      refine wp_cond_true rfl ?_
      refine wp_region_list (WL.out ?_)
      refine WL.val (by kernel_rfl) (.int .i64 (a : Int)) (by go_simp) ?_
      simp only [Act.put, List.setIfInBounds_toArray, List.set_cons_zero, List.set_cons_succ]
      refine WL.callP (by kernel_rfl) 53 _ _ rfl Tryz.in53 #[.int .i64 50, .int .i64 (a : Int)] (by simp [Act.eval]) ?_
      refine (at_any 50 a w1).mono ?_
      rintro e wz ⟨rfl, hbz, hwz⟩
      have HBd : Keep (BadAt wz w1.heap.size 50 a) := ⟨hbz⟩
      have HGd : Keep (Grown w wz fun k => k = p) := ⟨H2.out.trans (Grown.below hwz)⟩
      clear hbz hwz
      refine .inr ⟨_, rfl, ?_⟩
      try simp only [Exit.inBlock, Exit.then]
      refine ⟨rfl, ?_⟩
      exact .inr ⟨by rw [HR3.out hE hA]; exact (by decide : (50 : Int) ≠ 0), w1.heap.size, H2.out.size, rfl, by rw [HR3.out hE hA]; exact HBd.out, HGd.out⟩
  · rcases H3.out with ⟨e1, _, _⟩ | ⟨_, q, hq, rfl, rfl, hbad⟩
    · exact absurd e1 hE
    have Hbad := Keep.mk hbad
    clear hbad
    unfold err
    refine WL.val (by kernel_rfl) (.int .u8 c) (by go_simp) ?_
    simp only [Act.put, List.setIfInBounds_toArray, List.set_cons_zero, List.set_cons_succ]
    refine WL.val (by kernel_rfl) (.iface 121 (ptr q)) (by go_simp) ?_
    simp only [Act.put, List.setIfInBounds_toArray, List.set_cons_zero, List.set_cons_succ]
    refine WL.callP (by kernel_rfl) 107 _ _ rfl Tryz.in107 #[.int .u8 c, err q] (by simp [Act.eval, err]) ?_
    refine (must81_bad _ q w1).mono ?_
    rintro e w' ⟨rfl, rfl⟩
    refine .inr ⟨_, rfl, ?_⟩
    try simp only [Exit.inBlock, Exit.then]
    refine ⟨rfl, ?_⟩
    exact .inr ⟨by rw [HR1.out hE]; exact hE, q, hq, rfl, by rw [HR1.out hE]; exact Hbad.out, H2.out⟩
theorem readClock_any (p : Nat) (s : ByteArray) (a : Nat) (w : World) (hI : InAt w p s a none) (hb : s.size ≤ 140737488355328) :
    Calls Tryz.prog 84 #[ptr p] w (Reads p s (ckR (lst s) a) (.int .i64 (fstM ((lst s).drop a) 4096).1) w) := by
  have HI := Keep.mk hI
  have hrg := fst_rng ((lst s).drop a) ((lst_byts s).drop a) 4096 (by decide)
  have hc0 : Calls Tryz.prog 45 #[ptr p, .int .u64 4096] w (RdPost p s (fstM ((lst s).drop a) 4096).2.2 (a + (fstM ((lst s).drop a) 4096).2.1.toNat) (.int .u64 (fstM ((lst s).drop a) 4096).1) w) := inum_good p s a 4096 w hI hb
  obtain ⟨R, hR⟩ : ∃ R, R = ckR (lst s) a := ⟨_, rfl⟩
  rw [← hR]
  unfold ckR at hR
  generalize fstM ((lst s).drop a) 4096 = M at *
  obtain ⟨c, n, W⟩ := M
  simp only at hR hc0 hrg ⊢
  obtain ⟨N, hN⟩ : ∃ N, N = n.toNat := ⟨_, rfl⟩
  rw [← hN] at hR hc0
  have HC := Keep.mk hc0
  have Hcr := Keep.mk hrg
  have HR1 : Keep (¬ W = 0 → R = (W, a + N)) := ⟨fun h => by rw [hR, if_pos h]⟩
  have HR2 : Keep (W = 0 → ¬ c = 0 → R = (0, a + N)) := ⟨fun h1 h2 => by rw [hR, if_neg (by simp [h1]), if_neg h2]⟩
  have HR3 : Keep (W = 0 → c = 0 → R = (51, a)) := ⟨fun h1 h2 => by rw [hR, if_neg (by simp [h1]), if_pos h2]⟩
  clear hI hb hR hN hrg hc0
  go_enter Tryz.func84, Tryz.ntmps84
  refine wp_seq_k fun K1 hK1 => ?_
  refine wp_region_list (WL.out ?_)
  refine WL.val (by kernel_rfl) (.int .i64 0) (by go_simp) ?_
  simp only [Act.put, List.setIfInBounds_toArray, List.set_cons_zero, List.set_cons_succ]
  refine WL.nil ?_
  refine hK1 _ _ ?_
  refine wp_seq_k fun K2 hK2 => ?_
  refine wp_region_list (WL.out ?_)
  refine WL.val (by kernel_rfl) (.pointer (some ⟨p, 0, none⟩)) (by go_simp) ?_
  simp only [Act.put, List.setIfInBounds_toArray, List.set_cons_zero, List.set_cons_succ]
  refine WL.callF (by kernel_rfl) 69 _ _ rfl Tryz.in69 #[ptr p] (by simp [Act.eval]) ?_
  refine (iat_any p s a none w HI.out).mono ?_
  rintro e w0 ⟨rfl, hw0⟩
  rw [hw0]
  clear hw0 w0
  refine ⟨_, rfl, ?_⟩
  simp only [Act.put, List.setIfInBounds_toArray, List.set_cons_zero, List.set_cons_succ]
  refine WL.val (by kernel_rfl) (.int .i64 (a : Int)) (by go_simp) ?_
  simp only [Act.put, List.setIfInBounds_toArray, List.set_cons_zero, List.set_cons_succ]
  refine WL.nil ?_
  refine hK2 _ _ ?_
  refine wp_seq_k fun K3 hK3 => ?_
  refine wp_region_list (WL.out ?_)
  refine WL.val (by kernel_rfl) (.pointer (some ⟨p, 0, none⟩)) (by go_simp) ?_
  simp only [Act.put, List.setIfInBounds_toArray, List.set_cons_zero, List.set_cons_succ]
  refine WL.callF (by kernel_rfl) 45 _ _ rfl Tryz.in45 #[ptr p, .int .u64 4096] (by simp [Act.eval]) ?_
  refine (HC.out).mono ?_
  rintro e w1 ⟨bad, er, rfl, h1, h2, h3⟩
  refine ⟨_, rfl, ?_⟩
  have H1 := Keep.mk h1
  have H2 := Keep.mk h2
  have H3 := Keep.mk h3
  clear h1 h2 h3
  simp only [Act.put, List.setIfInBounds_toArray, List.set_cons_zero, List.set_cons_succ]
  by_cases hE : W = 0
  · rcases H3.out with ⟨e1, rfl, rfl⟩ | ⟨e1, _⟩
    rotate_left
    · exact absurd hE e1
    have hwc : IntKind.i64.wrap c = c := by rw [IntKind.wrap_i64]; have := Hcr.out; omega
    refine WL.val (by kernel_rfl) (.int .u64 c) (by go_simp) ?_
    simp only [Act.put, List.setIfInBounds_toArray, List.set_cons_zero, List.set_cons_succ]
    refine WL.val (by kernel_rfl) (.nilIface) (by go_simp) ?_
    simp only [Act.put, List.setIfInBounds_toArray, List.set_cons_zero, List.set_cons_succ]
    refine WL.callF (by kernel_rfl) 44 _ _ rfl Tryz.in44 #[.int .u64 c, .nilIface] (by simp [Act.eval]) ?_
    refine (must47_ok (.int .u64 c) w1).mono ?_
    rintro e w0 ⟨rfl, hw0⟩
    rw [hw0]
    clear hw0 w0
    refine ⟨_, rfl, ?_⟩
    simp only [Act.put, List.setIfInBounds_toArray, List.set_cons_zero, List.set_cons_succ]
    refine WL.val (by kernel_rfl) (.int .i64 c) (by go_simp) ?_
    simp only [Act.put, List.setIfInBounds_toArray, List.set_cons_zero, List.set_cons_succ]
    refine WL.val (by kernel_rfl) (.int .i64 c) (by go_simp) ?_
    simp only [Act.put, List.setIfInBounds_toArray, List.set_cons_zero, List.set_cons_succ]
    refine WL.nil ?_
    refine hK3 _ _ ?_
    refine wp_seq_k fun K4 hK4 => ?_
    refine wp_seq_k fun K5 hK5 => ?_
    refine wp_region_list (WL.out ?_)
    refine WL.val (by kernel_rfl) (.int .i64 c) (by go_simp) ?_
    simp only [Act.put, List.setIfInBounds_toArray, List.set_cons_zero, List.set_cons_succ]
    by_cases h3_1 : c = 0
    · skip
      refine WL.val (by kernel_rfl) (.bool true) (by go_simp) ?_
      simp only [Act.put, List.setIfInBounds_toArray, List.set_cons_zero, List.set_cons_succ]
      refine WL.nil ?_
      refine hK5 _ _ ?_
      refine wp_cond_true rfl ?_
      refine wp_region_list (WL.out ?_)
      refine WL.val (by kernel_rfl) (.int .i64 (a : Int)) (by go_simp) ?_
      simp only [Act.put, List.setIfInBounds_toArray, List.set_cons_zero, List.set_cons_succ]
      refine WL.callP (by kernel_rfl) 53 _ _ rfl Tryz.in53 #[.int .i64 51, .int .i64 (a : Int)] (by simp [Act.eval]) ?_
      refine (at_any 51 a w1).mono ?_
      rintro e wz ⟨rfl, hbz, hwz⟩
      have HBd : Keep (BadAt wz w1.heap.size 51 a) := ⟨hbz⟩
      have HGd : Keep (Grown w wz fun k => k = p) := ⟨H2.out.trans (Grown.below hwz)⟩
      clear hbz hwz
      refine .inr ⟨_, rfl, ?_⟩
      try simp only [Exit.inBlock, Exit.then]
      refine ⟨rfl, ?_⟩
      exact .inr ⟨by rw [HR3.out hE h3_1]; exact (by decide : (51 : Int) ≠ 0), w1.heap.size, H2.out.size, rfl, by rw [HR3.out hE h3_1]; exact HBd.out, HGd.out⟩
    · skip
      refine WL.val (by kernel_rfl) (.bool false) (by go_simp) ?_
      simp only [Act.put, List.setIfInBounds_toArray, List.set_cons_zero, List.set_cons_succ]
      refine WL.nil ?_
      refine hK5 _ _ ?_
      refine wp_cond_false rfl ?_
      refine wp_skip ?_
      refine hK4 _ _ ?_
      refine wp_seq_k fun K6 hK6 => ?_
      refine wp_region_list (WL.out ?_)
      refine WL.val (by kernel_rfl) (.int .i64 c) (by go_simp) ?_
      simp only [Act.put, List.setIfInBounds_toArray, List.set_cons_zero, List.set_cons_succ]
      refine WL.val (by kernel_rfl) (.int .i64 c) (by go_simp) ?_
      simp only [Act.put, List.setIfInBounds_toArray, List.set_cons_zero, List.set_cons_succ]
      refine WL.nil ?_
      refine hK6 _ _ ?_
      refine wp_ret ?_
      go_ret
      exact .inl ⟨by rw [HR2.out hE h3_1], rfl, by rw [HR2.out hE h3_1]; exact H1.out, H2.out⟩
  · rcases H3.out with ⟨e1, _, _⟩ | ⟨_, q, hq, rfl, rfl, hbad⟩
    · exact absurd e1 hE
    have Hbad := Keep.mk hbad
    clear hbad
    unfold err
    refine WL.val (by kernel_rfl) (.int .u64 c) (by go_simp) ?_
    simp only [Act.put, List.setIfInBounds_toArray, List.set_cons_zero, List.set_cons_succ]
    refine WL.val (by kernel_rfl) (.iface 121 (ptr q)) (by go_simp) ?_
    simp only [Act.put, List.setIfInBounds_toArray, List.set_cons_zero, List.set_cons_succ]
    refine WL.callP (by kernel_rfl) 44 _ _ rfl Tryz.in44 #[.int .u64 c, err q] (by simp [Act.eval, err]) ?_
    refine (must47_bad _ q w1).mono ?_
    rintro e w' ⟨rfl, rfl⟩
    refine .inr ⟨_, rfl, ?_⟩
    try simp only [Exit.inBlock, Exit.then]
    refine ⟨rfl, ?_⟩
    exact .inr ⟨by rw [HR1.out hE]; exact hE, q, hq, rfl, by rw [HR1.out hE]; exact Hbad.out, H2.out⟩
end Go.Proofs.YtdkhjeofjhcceaaGreatDoor.Nd
namespace Go.Proofs.YtdkhjeofjhcceaaGreatDoor.Nd
open Go.RowKit
set_option linter.unusedSimpArgs false
set_option linter.unusedVariables false

def HsPost (p : Nat) (s : ByteArray) (R : Int × Nat × List Hs) (w : World) (e : Ending) (w' : World) : Prop :=
  (R.1 = 0 ∧ ∃ v, e = .returned v ∧ OwnH w' v R.2.2 ∧ (∀ k, v.ownBlock = some k → w.heap.size ≤ k) ∧ InAt w' p s R.2.1 none ∧ Grown w w' fun k => k = p) ∨ Gives p (R.1, R.2.1) w e w'
theorem Tryz.sizeHL (h : Hs) : (Tryz.prog.info? 50).map (·.size) = some (Sh.encH h).length := by rw [Sh.encH_len]; exact Tryz.size50
theorem enc_load (h : Hs) : (Sh.encH h).toArray = bytesA 32 h.f := Sh.encH_arr h
theorem OwnH.elem {w : World} {v : Value} {l : List Hs} (h : OwnH w v l) (i : Nat) (hi : i < l.length) : ∃ g cap, v = .slice (some ⟨g, 0, none⟩) l.length cap ∧ ∀ wx, (∀ cs, Blk w g 50 cs → Blk wx g 50 cs) → wx.rangeAt g (i * 32) (Sh.encH (l.getD i default)) := by
  rcases h.form with ⟨_, h0⟩ | ⟨g, cap, cur, rfl, h1, h2, h3⟩
  · rw [h0] at hi; exact absurd hi (Nat.not_lt_zero _)
  · refine ⟨g, cap, rfl, fun wx hx => ?_⟩
    have hr : wx.rangeAt g 0 (Sh.flatH l) := fun j u hu => by
      rw [Nat.zero_add, (hx _ h1).cell]
      rw [← h3, List.getElem?_take] at hu
      split at hu
      · rwa [Array.getElem?_toList] at hu
      · cases hu
    have := Sh.rangeAt_elem hr i hi
    rw [Nat.zero_add] at this
    rwa [show l.getD i default = l[i] by simp [List.getD_eq_getElem?_getD, hi]]
theorem Tryz.in80 (w : World) (vs : Array Value) : (callFunc 80 vs).run Tryz.prog w = .ok (.enter 80 vs) w := by kernel_rfl
set_option maxRecDepth 8000 in
set_option maxHeartbeats 4000000 in
theorem readParents_any (p : Nat) (s : ByteArray) (a n : Nat) (w : World) (hI : InAt w p s a none) (hb : s.size ≤ 140737488355328) (hn : n ≤ 64) :
    Calls Tryz.prog 86 #[ptr p, .int .i64 (n : Int)] w (HsPost p s (getH (lst s) n [] a) w) := by
  have HI := Keep.mk hI
  have Hb := Keep.mk hb
  have Hn := Keep.mk hn
  obtain ⟨R, hR⟩ : ∃ R, R = getH (lst s) n [] a := ⟨_, rfl⟩
  rw [← hR]
  have HR := Keep.mk hR
  clear hI hb hn hR
  go_enter Tryz.func86, Tryz.ntmps86
  refine wp_seq_k fun K1 hK1 => ?_
  refine wp_region_list (WL.out ?_)
  refine WL.val (by kernel_rfl) (.slice none 0 0) (by go_simp) ?_
  simp only [Act.put, List.setIfInBounds_toArray, List.set_cons_zero, List.set_cons_succ]
  refine WL.nil ?_
  refine hK1 _ _ ?_
  refine wp_seq_k fun K2 hK2 => ?_
  refine wp_region_list (WL.out ?_)
  refine WL.bs (by kernel_rfl) 25 0 _ rfl #[] (by simp) _ _ (bsHE w) ?_
  have HO3 := Keep.mk (ownH_empty w)
  have B3 : Keep (Below w.heap.size w (w.alloc (.cells #[] 50))) := ⟨below_new w _⟩
  generalize w.alloc (.cells #[] 50) = w3 at *
  have HOn3 : Keep (∀ k, (Value.slice (some ⟨w.heap.size, 0, none⟩) 0 0).ownBlock = some k → w.heap.size ≤ k) := ⟨fun k hk => by simp [Value.ownBlock] at hk; omega⟩
  have HI3 : Keep (InAt w3 p s a none) := ⟨HI.out.blk.below B3.out HI.out.blk.lt, HI.out.le⟩
  have HG3 : Keep (Grown w w3 fun k => k = p) := ⟨Grown.below B3.out⟩
  simp only [Act.put, List.setIfInBounds_toArray, List.set_cons_zero, List.set_cons_succ]
  refine WL.val (by kernel_rfl) (.slice (some ⟨w.heap.size, 0, none⟩) 0 0) (by go_simp) ?_
  simp only [Act.put, List.setIfInBounds_toArray, List.set_cons_zero, List.set_cons_succ]
  refine WL.nil ?_
  refine hK2 _ _ ?_
  refine wp_seq_k fun K3 hK3 => ?_
  refine wp_seq_k fun K4 hK4 => ?_
  refine wp_region_list (WL.out ?_)
  refine WL.val (by kernel_rfl) (.int .i64 (n : Int)) (by go_simp) ?_
  simp only [Act.put, List.setIfInBounds_toArray, List.set_cons_zero, List.set_cons_succ]
  refine WL.val (by kernel_rfl) (.int .i64 0) (by go_simp) ?_
  simp only [Act.put, List.setIfInBounds_toArray, List.set_cons_zero, List.set_cons_succ]
  refine WL.nil ?_
  refine hK4 _ _ ?_
  refine wp_block ?_
  refine wp_loop (fun ac wr => ∃ (t : Nat) (u5 u6 u7 u8 u12 u13 u14 u15 u16 u17 u18 u19 u20 u21 u22 u23 u24 u25 u26 u27 u28 u29 u30 u31 u32 u33 u34 u35 u36 u37 u38 u39 : Value), ac = { tmps := #[.pointer (some ⟨p, 0, none⟩), .int .i64 (n : Int), undef, undef, .slice none 0 0, u5, u6, u7, u8, .slice (some ⟨w.heap.size, 0, none⟩) 0 0, .int .i64 (n : Int), .int .i64 (t : Int), u12, u13, u14, u15, u16, u17, u18, u19, u20, u21, u22, u23, u24, u25, u26, u27, u28, u29, u30, u31, u32, u33, u34, u35, u36, u37, u38, u39, undef], defers := [] } ∧ t ≤ n ∧ ∃ l at_, getH (lst s) n [] a = getH (lst s) (n - t) l at_ ∧ InAt wr p s at_ none ∧ OwnH wr u5 l ∧ (∀ k, u5.ownBlock = some k → w.heap.size ≤ k) ∧ (Grown w wr fun k => k = p) ∧ l.length = t) (fun a _ => n - (intOf (a.tmps.getD 11 undef)).toNat) ⟨0, .slice (some ⟨w.heap.size, 0, none⟩) 0 0, undef, undef, undef, undef, undef, undef, undef, undef, undef, undef, undef, undef, undef, undef, undef, undef, undef, undef, undef, undef, undef, undef, undef, undef, undef, undef, undef, undef, undef, undef, undef, rfl, by omega, [], a, rfl, HI3.out, HO3.out, HOn3.out, HG3.out, rfl⟩ ?_
  rintro ac wr ⟨t, u5, u6, u7, u8, u12, u13, u14, u15, u16, u17, u18, u19, u20, u21, u22, u23, u24, u25, u26, u27, u28, u29, u30, u31, u32, u33, u34, u35, u36, u37, u38, u39, rfl, ht, l, at_, hC, hI, hO, hOn, hG, hLn⟩
  by_cases htl : t < n
  · have htl' : (t : Int) < (n : Int) := by omega
    obtain ⟨k1, hk1⟩ : ∃ k1, n - t = k1 + 1 := ⟨n - t - 1, by omega⟩
    rw [hk1, getH] at hC
    have hk2 : k1 = n - (t + 1) := by omega
    rw [hk2] at hC
    have hwr1 : IntKind.i64.wrap ((t : Int) + 1) = (t : Int) + 1 := by rw [IntKind.wrap_i64]; have := Hn.out; omega
    obtain ⟨oa, oc, rfl⟩ := hO.sl
    obtain ⟨D, hD⟩ : ∃ D, D = (lst s).drop at_ := ⟨_, rfl⟩
    obtain ⟨W, hW⟩ : ∃ W, W = nextW D 32 := ⟨_, rfl⟩
    obtain ⟨N, hN⟩ : ∃ N, N = nextN D 32 := ⟨_, rfl⟩
    obtain ⟨hh, hhh⟩ : ∃ hh, hh = hs (D.take 32) := ⟨_, rfl⟩
    have HC0 := Keep.mk (ihash_good p s at_ wr hI Hb.out D hD W hW N hN)
    rw [← hD, ← hW, ← hN, ← hhh] at hC
    have heq : Keep (W = 0 → bytesA 32 (hrd D W) = bytesA 32 hh.f) := ⟨fun h => by rw [h, hhh]; exact hrd_hs D (by rw [← hW]; exact h) (by rw [hD]; exact (lst_byts s).drop at_)⟩
    have HN32 : Keep (W = 0 → N = 32) := ⟨fun h => by rw [hN, (nextN_0 D 32 (by rw [← hW]; exact h)).1]; rfl⟩
    have JC := Keep.mk hC
    have JI := Keep.mk hI
    have JO := Keep.mk hO
    have JOn := Keep.mk hOn
    have JG := Keep.mk hG
    have JLn := Keep.mk hLn
    clear hC hI hO hOn hG hLn hk1 hk2 hD hW hN hhh
    refine wp_seq_k fun K5 hK5 => ?_
    refine wp_region_list (WL.out ?_)
    refine WL.val (by kernel_rfl) (.bool true) (by go_simp) ?_
    simp only [Act.put, List.setIfInBounds_toArray, List.set_cons_zero, List.set_cons_succ]
    refine WL.nil ?_
    refine hK5 _ _ ?_
    refine wp_seq_k fun K6 hK6 => ?_
    refine wp_cond_true rfl ?_
    refine wp_skip ?_
    refine hK6 _ _ ?_
    refine wp_seq_k fun K7 hK7 => ?_
    refine wp_block ?_
    refine wp_seq_k fun K8 hK8 => ?_
    refine wp_region_list (WL.out ?_)
    refine WL.val (by kernel_rfl) (.int .i64 (t : Int)) (by go_simp) ?_
    simp only [Act.put, List.setIfInBounds_toArray, List.set_cons_zero, List.set_cons_succ]
    refine WL.val (by kernel_rfl) (.int .i64 (t : Int)) (by go_simp) ?_
    simp only [Act.put, List.setIfInBounds_toArray, List.set_cons_zero, List.set_cons_succ]
    refine WL.nil ?_
    refine hK8 _ _ ?_
    refine wp_seq_k fun K9 hK9 => ?_
    refine wp_region_list (WL.out ?_)
    refine WL.val (by kernel_rfl) (.pointer (some ⟨p, 0, none⟩)) (by go_simp) ?_
    simp only [Act.put, List.setIfInBounds_toArray, List.set_cons_zero, List.set_cons_succ]
    refine WL.callF (by kernel_rfl) 69 _ _ rfl Tryz.in69 #[ptr p] (by simp [Act.eval]) ?_
    refine (iat_any p s at_ none wr JI.out).mono ?_
    rintro e w0 ⟨rfl, hw0⟩
    rw [hw0]
    clear hw0 w0
    refine ⟨_, rfl, ?_⟩
    simp only [Act.put, List.setIfInBounds_toArray, List.set_cons_zero, List.set_cons_succ]
    refine WL.val (by kernel_rfl) (.int .i64 (at_ : Int)) (by go_simp) ?_
    simp only [Act.put, List.setIfInBounds_toArray, List.set_cons_zero, List.set_cons_succ]
    refine WL.nil ?_
    refine hK9 _ _ ?_
    refine wp_seq_k fun K10 hK10 => ?_
    refine wp_region_list (WL.out ?_)
    refine WL.val (by kernel_rfl) (.pointer (some ⟨p, 0, none⟩)) (by go_simp) ?_
    simp only [Act.put, List.setIfInBounds_toArray, List.set_cons_zero, List.set_cons_succ]
    refine WL.callF (by kernel_rfl) 77 _ _ rfl Tryz.in77 #[ptr p] (by simp [Act.eval]) ?_
    refine (HC0.out).mono ?_
    rintro e w1 ⟨bad, er, rfl, h1, h2, h3⟩
    refine ⟨_, rfl, ?_⟩
    have H1 := Keep.mk h1
    have H2 := Keep.mk (JG.out.trans h2)
    have HO1 := Keep.mk (JO.out.grown h2 (fun k hk e => JO.out.ne JI.out.blk (by decide) (e ▸ hk)))
    have H3 := Keep.mk h3
    clear h1 h2 h3
    simp only [Act.put, List.setIfInBounds_toArray, List.set_cons_zero, List.set_cons_succ]
    by_cases hE : W = 0
    · rcases H3.out with ⟨e1, rfl, rfl⟩ | ⟨e1, _⟩
      rotate_left
      · exact absurd hE e1
      rw [heq.out hE]
      refine WL.val (by kernel_rfl) (.agg (bytesA 32 hh.f)) (by go_simp) ?_
      simp only [Act.put, List.setIfInBounds_toArray, List.set_cons_zero, List.set_cons_succ]
      refine WL.val (by kernel_rfl) (.nilIface) (by go_simp) ?_
      simp only [Act.put, List.setIfInBounds_toArray, List.set_cons_zero, List.set_cons_succ]
      refine WL.callF (by kernel_rfl) 76 _ _ rfl Tryz.in76 #[.agg (bytesA 32 hh.f), .nilIface] (by simp [Act.eval]) ?_
      refine (mustH_ok hh.f w1).mono ?_
      rintro e w2 ⟨rfl, hb2⟩
      refine ⟨_, rfl, ?_⟩
      have B2 := Keep.mk hb2
      clear hb2
      simp only [Act.put, List.setIfInBounds_toArray, List.set_cons_zero, List.set_cons_succ]
      refine WL.new (by kernel_rfl) 50 rfl _ Tryz.new50 ?_
      simp only [Act.put, List.setIfInBounds_toArray, List.set_cons_zero, List.set_cons_succ]
      refine WL.storeR (by kernel_rfl) 50 (.tmp 8) (.tmp 20) rfl w2.heap.size (bytesA 32 hh.f) rfl rfl 50 (bytesA 32 fun _ => 0) (Blk.new w2 50 _) (Tryz.size50B _) (bytesA_sizes _ _ _) (bytesA_one _ _) ?_
      have HX3 := Keep.mk ((Blk.new w2 50 (bytesA 32 fun _ => 0)).setRow (bytesA 32 hh.f))
      have B3 : Keep (Below w2.heap.size w2 ((w2.alloc (.cells (bytesA 32 fun _ => 0) 50)).setRow w2.heap.size (bytesA 32 hh.f))) := ⟨below_setRow (below_new w2 _) (Nat.le_refl _) _⟩
      generalize (w2.alloc (.cells (bytesA 32 fun _ => 0) 50)).setRow w2.heap.size (bytesA 32 hh.f) = w3 at *
      have B13 : Keep (Below w1.heap.size w1 w3) := ⟨B2.out.trans (B3.out.mono B2.out.size)⟩
      have HI3 : Keep (InAt w3 p s (at_ + N) none) := ⟨H1.out.blk.below B13.out H1.out.blk.lt, H1.out.le⟩
      have HO3 := Keep.mk (HO1.out.below B13.out)
      have HG3 : Keep (Grown w w3 fun k => k = p) := ⟨H2.out.trans (Grown.below B13.out)⟩
      have HI3b := Keep.mk HI3.out.blk
      simp only [Act.put]
      refine WL.nil ?_
      refine hK10 _ _ ?_
      refine wp_seq_k fun K11 hK11 => ?_
      refine wp_seq_k fun K12 hK12 => ?_
      have hD0 : Below w3.heap.size w3 w3.drew := (Below.refl _ _).drew
      by_cases ht0 : 0 < t
      · have ht0' : (0 : Int) < (t : Int) := by omega
        have hlt : t - 1 < l.length := by have := JLn.out; omega
        obtain ⟨gL, cL, hsl, hel⟩ := HO3.out.elem (t - 1) hlt
        injection hsl with hs1 hs2 hs3
        subst hs1 hs3
        obtain ⟨hp, hhp⟩ : ∃ hp, hp = l.getD (t - 1) default := ⟨_, rfl⟩
        rw [← hhp] at hel
        have Hcc : Keep (l.getD (l.length - 1) default = hp) := ⟨by rw [JLn.out, hhp]⟩
        have hsub : IntKind.i64.wrap ((t : Int) - 1) = ((t - 1 : Nat) : Int) := by rw [IntKind.wrap_i64]; have := Hn.out; omega
        have hll := JLn.out
        have HS0 : Keep (∀ wx, Below w3.heap.size w3 wx → wx.rangeAt gL ((t - 1) * 32) (Sh.encH hp) ∧ wx.rangeAt w2.heap.size 0 (bytesA 32 hh.f).toList) := ⟨fun wx hb => ⟨hel wx (fun cs h => h.below hb h.lt), blk_range (HX3.out.below hb HX3.out.lt)⟩⟩
        clear hel hhp
        by_cases hcf : 0 ≤ Sh.cf hp hh
        · skip
          have JC2 := Keep.mk (JC.out.trans ((if_neg (by simp [hE])).trans (if_pos ⟨by have := JLn.out; omega, by rw [Hcc.out]; exact hcf⟩)))
          refine wp_region_held_drew (S := fun wx => wx.rangeAt gL ((t - 1) * 32) (Sh.encH hp) ∧ wx.rangeAt w2.heap.size 0 (bytesA 32 hh.f).toList) (by kernel_rfl) (HS0.out _ hD0) (fun hHeld => ?_)
          refine wpAnyH_take (i := 0) (oi := ⟨some 21, Op.move (Operand.tmp 6), 3, _, _, none⟩) (v := .int .i64 (t : Int)) rfl (by kernel_rfl) (by kernel_rfl) (by kernel_rfl) (fun _ _ _ h => h) (Or.inl ⟨by rfl, fun w hS => by go_simp⟩) hHeld ?_
          simp only [Act.put, List.setIfInBounds_toArray, List.set_cons_zero, List.set_cons_succ]
          refine wpAnyH_take (i := 1) (oi := ⟨some 22, Op.binOp BinOp.gtr 3 (Operand.tmp 21) (Operand.const (Value.int IntKind.i64 0)) 3, 4, _, _, none⟩) (v := .bool true) rfl (by kernel_rfl) (by kernel_rfl) (by kernel_rfl) (fun _ _ _ h => h) (Or.inl ⟨by rfl, fun w hS => by go_simp⟩) hHeld ?_
          simp only [Act.put, List.setIfInBounds_toArray, List.set_cons_zero, List.set_cons_succ]
          refine wpAnyH_take (i := 2) (oi := ⟨some 23, Op.move (Operand.tmp 22), 4, _, _, none⟩) (v := .bool true) rfl (by kernel_rfl) (by kernel_rfl) (by kernel_rfl) (fun _ _ _ h => h) (Or.inl ⟨by rfl, fun w hS => by go_simp⟩) hHeld ?_
          simp only [Act.put, List.setIfInBounds_toArray, List.set_cons_zero, List.set_cons_succ]
          refine wpAnyH_take (i := 3) (oi := ⟨some 24, Op.move (Operand.tmp 5), 25, _, _, some (2, true)⟩) (v := .slice (some ⟨gL, 0, none⟩) l.length oc) rfl (by kernel_rfl) (by kernel_rfl) (by kernel_rfl) (fun _ _ _ h => h) (Or.inl ⟨by rfl, fun w hS => by go_simp⟩) hHeld ?_
          simp only [Act.put, List.setIfInBounds_toArray, List.set_cons_zero, List.set_cons_succ]
          refine wpAnyH_take (i := 4) (oi := ⟨some 25, Op.move (Operand.tmp 6), 3, _, _, some (2, true)⟩) (v := .int .i64 (t : Int)) rfl (by kernel_rfl) (by kernel_rfl) (by kernel_rfl) (fun _ _ _ h => h) (Or.inl ⟨by rfl, fun w hS => by go_simp⟩) hHeld ?_
          simp only [Act.put, List.setIfInBounds_toArray, List.set_cons_zero, List.set_cons_succ]
          refine wpAnyH_take (i := 5) (oi := ⟨some 26, Op.binOp BinOp.sub 3 (Operand.tmp 25) (Operand.const (Value.int IntKind.i64 1)) 3, 3, _, _, some (2, true)⟩) (v := .int .i64 ((t - 1 : Nat) : Int)) rfl (by kernel_rfl) (by kernel_rfl) (by kernel_rfl) (fun _ _ _ h => h) (Or.inl ⟨by rfl, fun w hS => by go_simp⟩) hHeld ?_
          simp only [Act.put, List.setIfInBounds_toArray, List.set_cons_zero, List.set_cons_succ]
          refine wpAnyH_take (i := 6) (oi := ⟨some 27, Op.indexAddr 25 (Operand.tmp 24) (Operand.tmp 26), 0, _, _, some (2, true)⟩) (v := .pointer (some ⟨gL, (t - 1) * 32, none⟩)) rfl (by kernel_rfl) (by kernel_rfl) (by kernel_rfl) (fun _ _ _ h => h) (Or.inl ⟨by rfl, fun w hS => by go_simp; intro h; omega⟩) hHeld ?_
          simp only [Act.put, List.setIfInBounds_toArray, List.set_cons_zero, List.set_cons_succ]
          refine wpAnyH_take (i := 7) (oi := ⟨some 28, Op.load 50 (Operand.tmp 27), 50, _, _, some (2, true)⟩) (v := .agg (Sh.encH hp).toArray) rfl (by kernel_rfl) (by kernel_rfl) (by kernel_rfl) (fun _ _ _ h => h) (yieldsIf_load_mid (by rfl) 50 (Operand.tmp 27) rfl gL ((t - 1) * 32) rfl (Sh.encH hp) _ (fun w hS => hS.1) Tryz.underlying50 rfl (Tryz.sizeHL hp)) hHeld ?_
          simp only [Act.put, List.setIfInBounds_toArray, List.set_cons_zero, List.set_cons_succ]
          refine wpAnyH_take (i := 8) (oi := ⟨some 29, Op.load 50 (Operand.tmp 8), 50, _, _, some (2, true)⟩) (v := .agg (bytesA 32 hh.f).toList.toArray) rfl (by kernel_rfl) (by kernel_rfl) (by kernel_rfl) (fun _ _ _ h => h) (yieldsIf_load_mid (by rfl) 50 (Operand.tmp 8) rfl w2.heap.size 0 rfl (bytesA 32 hh.f).toList _ (fun w hS => hS.2) Tryz.underlying50 rfl (by rw [Array.length_toList]; exact Tryz.size50B _)) hHeld ?_
          simp only [Act.put, List.setIfInBounds_toArray, List.set_cons_zero, List.set_cons_succ]
          refine wpAnyH_ready (rs := [9]) (by kernel_rfl) (by simp) ?_
          refine AllReadyH.cons (o := ⟨some 30, Op.call { callee := Callee.value (Operand.func 80), args := #[Operand.tmp 28, Operand.tmp 29], argTypes := #[50, 50] }, 3, _, _, some (2, true)⟩) rfl (fun K hK => ?_) AllReadyH.nil
          rw [if_pos (by rfl)]
          refine wp_callF 80 _ _ rfl Tryz.in80 #[.agg (bytesA 32 hp.f), .agg (bytesA 32 hh.f)] (by simp [Act.eval, enc_load]) (fun vz wz => vz = .int .i64 (Sh.cf hp hh) ∧ Below w3.heap.size w3 wz) ?_ ?_
          · refine (cmp_any hp hh w3.drew).mono ?_
            rintro e wz ⟨rfl, h⟩
            exact ⟨_, rfl, rfl, hD0.trans (h.mono hD0.size)⟩
          rintro vz w7 ⟨rfl, h7⟩
          have HB7 := Keep.mk h7
          clear h7
          refine hK.out _ _ (HS0.out _ HB7.out) fun hHeld2 => ?_
          clear hK
          simp only [Act.put, List.setIfInBounds_toArray, List.set_cons_zero, List.set_cons_succ]
          refine wpAnyH_take (i := 10) (oi := ⟨some 31, Op.binOp BinOp.geq 3 (Operand.tmp 30) (Operand.const (Value.int IntKind.i64 0)) 3, 4, _, _, some (2, true)⟩) (v := .bool true) rfl (by kernel_rfl) (by kernel_rfl) (by kernel_rfl) (fun _ _ _ h => h) (Or.inl ⟨by rfl, fun w hS => by go_simp⟩) hHeld2 ?_
          simp only [Act.put, List.setIfInBounds_toArray, List.set_cons_zero, List.set_cons_succ]
          refine wpAnyH_take (i := 11) (oi := ⟨some 32, Op.pick (Operand.tmp 23) (Operand.tmp 31) (Operand.const (Value.bool false)), 4, _, _, none⟩) (v := .bool true) rfl (by kernel_rfl) (by kernel_rfl) (by kernel_rfl) (fun _ _ _ h => h) (Or.inl ⟨by rfl, fun w hS => by go_simp⟩) hHeld2 ?_
          simp only [Act.put, List.setIfInBounds_toArray, List.set_cons_zero, List.set_cons_succ]
          refine wpAnyH_done (by kernel_rfl) ?_ _
          refine hK12 _ _ ?_
          refine wp_cond_true rfl ?_
          have HG7 : Keep (Grown w w7 fun k => k = p) := ⟨HG3.out.trans (Grown.below HB7.out)⟩
          refine wp_region_list (WL.out ?_)
          refine WL.val (by kernel_rfl) (.int .i64 (at_ : Int)) (by go_simp) ?_
          simp only [Act.put, List.setIfInBounds_toArray, List.set_cons_zero, List.set_cons_succ]
          refine WL.callP (by kernel_rfl) 53 _ _ rfl Tryz.in53 #[.int .i64 52, .int .i64 (at_ : Int)] (by simp [Act.eval]) ?_
          refine (at_any 52 at_ w7).mono ?_
          rintro e wz ⟨rfl, hbz, hwz⟩
          have HBd : Keep (BadAt wz w7.heap.size 52 at_) := ⟨hbz⟩
          have HGd : Keep (Grown w wz fun k => k = p) := ⟨HG7.out.trans (Grown.below hwz)⟩
          clear hbz hwz
          refine .inr ⟨_, rfl, ?_⟩
          try simp only [Exit.inBlock, Exit.then]
          refine ⟨rfl, ?_⟩
          exact .inr ⟨by rw [HR.out, JC2.out]; exact (by decide : (52 : Int) ≠ 0), w7.heap.size, HG7.out.size, rfl, by rw [HR.out, JC2.out]; exact HBd.out, HGd.out⟩
        · skip
          have JC2 := Keep.mk (JC.out.trans ((if_neg (by simp [hE])).trans (if_neg (fun h => hcf (by rw [← Hcc.out]; exact h.2)))))
          refine wp_region_held_drew (S := fun wx => wx.rangeAt gL ((t - 1) * 32) (Sh.encH hp) ∧ wx.rangeAt w2.heap.size 0 (bytesA 32 hh.f).toList) (by kernel_rfl) (HS0.out _ hD0) (fun hHeld => ?_)
          refine wpAnyH_take (i := 0) (oi := ⟨some 21, Op.move (Operand.tmp 6), 3, _, _, none⟩) (v := .int .i64 (t : Int)) rfl (by kernel_rfl) (by kernel_rfl) (by kernel_rfl) (fun _ _ _ h => h) (Or.inl ⟨by rfl, fun w hS => by go_simp⟩) hHeld ?_
          simp only [Act.put, List.setIfInBounds_toArray, List.set_cons_zero, List.set_cons_succ]
          refine wpAnyH_take (i := 1) (oi := ⟨some 22, Op.binOp BinOp.gtr 3 (Operand.tmp 21) (Operand.const (Value.int IntKind.i64 0)) 3, 4, _, _, none⟩) (v := .bool true) rfl (by kernel_rfl) (by kernel_rfl) (by kernel_rfl) (fun _ _ _ h => h) (Or.inl ⟨by rfl, fun w hS => by go_simp⟩) hHeld ?_
          simp only [Act.put, List.setIfInBounds_toArray, List.set_cons_zero, List.set_cons_succ]
          refine wpAnyH_take (i := 2) (oi := ⟨some 23, Op.move (Operand.tmp 22), 4, _, _, none⟩) (v := .bool true) rfl (by kernel_rfl) (by kernel_rfl) (by kernel_rfl) (fun _ _ _ h => h) (Or.inl ⟨by rfl, fun w hS => by go_simp⟩) hHeld ?_
          simp only [Act.put, List.setIfInBounds_toArray, List.set_cons_zero, List.set_cons_succ]
          refine wpAnyH_take (i := 3) (oi := ⟨some 24, Op.move (Operand.tmp 5), 25, _, _, some (2, true)⟩) (v := .slice (some ⟨gL, 0, none⟩) l.length oc) rfl (by kernel_rfl) (by kernel_rfl) (by kernel_rfl) (fun _ _ _ h => h) (Or.inl ⟨by rfl, fun w hS => by go_simp⟩) hHeld ?_
          simp only [Act.put, List.setIfInBounds_toArray, List.set_cons_zero, List.set_cons_succ]
          refine wpAnyH_take (i := 4) (oi := ⟨some 25, Op.move (Operand.tmp 6), 3, _, _, some (2, true)⟩) (v := .int .i64 (t : Int)) rfl (by kernel_rfl) (by kernel_rfl) (by kernel_rfl) (fun _ _ _ h => h) (Or.inl ⟨by rfl, fun w hS => by go_simp⟩) hHeld ?_
          simp only [Act.put, List.setIfInBounds_toArray, List.set_cons_zero, List.set_cons_succ]
          refine wpAnyH_take (i := 5) (oi := ⟨some 26, Op.binOp BinOp.sub 3 (Operand.tmp 25) (Operand.const (Value.int IntKind.i64 1)) 3, 3, _, _, some (2, true)⟩) (v := .int .i64 ((t - 1 : Nat) : Int)) rfl (by kernel_rfl) (by kernel_rfl) (by kernel_rfl) (fun _ _ _ h => h) (Or.inl ⟨by rfl, fun w hS => by go_simp⟩) hHeld ?_
          simp only [Act.put, List.setIfInBounds_toArray, List.set_cons_zero, List.set_cons_succ]
          refine wpAnyH_take (i := 6) (oi := ⟨some 27, Op.indexAddr 25 (Operand.tmp 24) (Operand.tmp 26), 0, _, _, some (2, true)⟩) (v := .pointer (some ⟨gL, (t - 1) * 32, none⟩)) rfl (by kernel_rfl) (by kernel_rfl) (by kernel_rfl) (fun _ _ _ h => h) (Or.inl ⟨by rfl, fun w hS => by go_simp; intro h; omega⟩) hHeld ?_
          simp only [Act.put, List.setIfInBounds_toArray, List.set_cons_zero, List.set_cons_succ]
          refine wpAnyH_take (i := 7) (oi := ⟨some 28, Op.load 50 (Operand.tmp 27), 50, _, _, some (2, true)⟩) (v := .agg (Sh.encH hp).toArray) rfl (by kernel_rfl) (by kernel_rfl) (by kernel_rfl) (fun _ _ _ h => h) (yieldsIf_load_mid (by rfl) 50 (Operand.tmp 27) rfl gL ((t - 1) * 32) rfl (Sh.encH hp) _ (fun w hS => hS.1) Tryz.underlying50 rfl (Tryz.sizeHL hp)) hHeld ?_
          simp only [Act.put, List.setIfInBounds_toArray, List.set_cons_zero, List.set_cons_succ]
          refine wpAnyH_take (i := 8) (oi := ⟨some 29, Op.load 50 (Operand.tmp 8), 50, _, _, some (2, true)⟩) (v := .agg (bytesA 32 hh.f).toList.toArray) rfl (by kernel_rfl) (by kernel_rfl) (by kernel_rfl) (fun _ _ _ h => h) (yieldsIf_load_mid (by rfl) 50 (Operand.tmp 8) rfl w2.heap.size 0 rfl (bytesA 32 hh.f).toList _ (fun w hS => hS.2) Tryz.underlying50 rfl (by rw [Array.length_toList]; exact Tryz.size50B _)) hHeld ?_
          simp only [Act.put, List.setIfInBounds_toArray, List.set_cons_zero, List.set_cons_succ]
          refine wpAnyH_ready (rs := [9]) (by kernel_rfl) (by simp) ?_
          refine AllReadyH.cons (o := ⟨some 30, Op.call { callee := Callee.value (Operand.func 80), args := #[Operand.tmp 28, Operand.tmp 29], argTypes := #[50, 50] }, 3, _, _, some (2, true)⟩) rfl (fun K hK => ?_) AllReadyH.nil
          rw [if_pos (by rfl)]
          refine wp_callF 80 _ _ rfl Tryz.in80 #[.agg (bytesA 32 hp.f), .agg (bytesA 32 hh.f)] (by simp [Act.eval, enc_load]) (fun vz wz => vz = .int .i64 (Sh.cf hp hh) ∧ Below w3.heap.size w3 wz) ?_ ?_
          · refine (cmp_any hp hh w3.drew).mono ?_
            rintro e wz ⟨rfl, h⟩
            exact ⟨_, rfl, rfl, hD0.trans (h.mono hD0.size)⟩
          rintro vz w7 ⟨rfl, h7⟩
          have HB7 := Keep.mk h7
          clear h7
          refine hK.out _ _ (HS0.out _ HB7.out) fun hHeld2 => ?_
          clear hK
          simp only [Act.put, List.setIfInBounds_toArray, List.set_cons_zero, List.set_cons_succ]
          refine wpAnyH_take (i := 10) (oi := ⟨some 31, Op.binOp BinOp.geq 3 (Operand.tmp 30) (Operand.const (Value.int IntKind.i64 0)) 3, 4, _, _, some (2, true)⟩) (v := .bool false) rfl (by kernel_rfl) (by kernel_rfl) (by kernel_rfl) (fun _ _ _ h => h) (Or.inl ⟨by rfl, fun w hS => by go_simp⟩) hHeld2 ?_
          simp only [Act.put, List.setIfInBounds_toArray, List.set_cons_zero, List.set_cons_succ]
          refine wpAnyH_take (i := 11) (oi := ⟨some 32, Op.pick (Operand.tmp 23) (Operand.tmp 31) (Operand.const (Value.bool false)), 4, _, _, none⟩) (v := .bool false) rfl (by kernel_rfl) (by kernel_rfl) (by kernel_rfl) (fun _ _ _ h => h) (Or.inl ⟨by rfl, fun w hS => by go_simp⟩) hHeld2 ?_
          simp only [Act.put, List.setIfInBounds_toArray, List.set_cons_zero, List.set_cons_succ]
          refine wpAnyH_done (by kernel_rfl) ?_ _
          refine hK12 _ _ ?_
          refine wp_cond_false rfl ?_
          refine wp_skip ?_
          refine hK11 _ _ ?_
          refine wp_region_list (WL.out ?_)
          refine WL.val (by kernel_rfl) (.slice (some ⟨gL, 0, none⟩) l.length oc) (by go_simp) ?_
          simp only [Act.put, List.setIfInBounds_toArray, List.set_cons_zero, List.set_cons_succ]
          refine WL.row (by kernel_rfl) 50 (.tmp 8) rfl w2.heap.size rfl 50 (bytesA 32 hh.f) _ (HX3.out.below HB7.out HX3.out.lt) Tryz.underlying50 rfl (Tryz.size50B _) ?_
          simp only [Act.put, List.setIfInBounds_toArray, List.set_cons_zero, List.set_cons_succ]
          refine WL.bs (by kernel_rfl) 25 1 _ rfl #[(0, .agg (bytesA 32 hh.f))] (by simp [Act.eval]) _ _ (bsH hh w7) ?_
          have HB8 := Keep.mk (Blk.new w7 50 (bytesA 32 hh.f))
          have B8 : Keep (Below w3.heap.size w3 (w7.alloc (.cells (bytesA 32 hh.f) 50))) := ⟨HB7.out.trans ((below_new w7 _).mono HB7.out.size)⟩
          generalize w7.alloc (.cells (bytesA 32 hh.f) 50) = w8 at *
          simp only [Act.put, List.setIfInBounds_toArray, List.set_cons_zero, List.set_cons_succ]
          refine WL.appH (by kernel_rfl) (.tmp 35) (.tmp 37) rfl (.slice (some ⟨gL, 0, none⟩) l.length oc) l w7.heap.size hh rfl rfl (HO3.out.below B8.out) HB8.out (by have := JLn.out; have := Hn.out; omega) ?_
          intro v4 w4 h1 h2 h3
          have HO4 := Keep.mk h1
          have Hg4 : Keep (Grown w w4 fun k => k = p) := ⟨(HG3.out.trans (Grown.below B8.out)).next h2 (fun k hk e => absurd (JOn.out k e) (by omega))⟩
          have HI4 : Keep (InAt w4 p s (at_ + N) none) := ⟨h2.blk (HI3.out.blk.below B8.out HI3.out.blk.lt) (fun e => (HO3.out.below B8.out).ne (HI3.out.blk.below B8.out HI3.out.blk.lt) (by decide) e), HI3.out.le⟩
          have HOn4 : Keep (∀ k, v4.ownBlock = some k → w.heap.size ≤ k) := ⟨fun k hk => by
            rcases h3 with e | ⟨j, e, hj⟩
            · rw [e] at hk; exact JOn.out k hk
            · rw [e] at hk; injection hk with hk; have := HG3.out.size; have := B8.out.size; omega⟩
          clear h1 h2 h3
          simp only [Act.put, List.setIfInBounds_toArray, List.set_cons_zero, List.set_cons_succ]
          refine WL.val (by kernel_rfl) (v4) (by go_simp) ?_
          simp only [Act.put, List.setIfInBounds_toArray, List.set_cons_zero, List.set_cons_succ]
          refine WL.nil ?_
          refine hK7 _ _ ?_
          refine wp_region_list (WL.out ?_)
          refine WL.val (by kernel_rfl) (.int .i64 ((t : Int) + 1)) (by go_simp) ?_
          simp only [Act.put, List.setIfInBounds_toArray, List.set_cons_zero, List.set_cons_succ]
          refine WL.val (by kernel_rfl) (.int .i64 ((t : Int) + 1)) (by go_simp) ?_
          simp only [Act.put, List.setIfInBounds_toArray, List.set_cons_zero, List.set_cons_succ]
          refine WL.nil ?_
          rw [HN32.out hE] at HI4
          refine ⟨⟨t + 1, v4, .int .i64 (t : Int), .int .i64 (at_ : Int), .pointer (some ⟨w2.heap.size, 0, none⟩), .bool true, .int .i64 (t : Int), .pointer (some ⟨p, 0, none⟩), .int .i64 (at_ : Int), .pointer (some ⟨p, 0, none⟩), .tuple #[.agg (bytesA 32 hh.f), .nilIface], .agg (bytesA 32 hh.f), .nilIface, .agg (bytesA 32 hh.f), .int .i64 (t : Int), .bool true, .bool true, .slice (some ⟨gL, 0, none⟩) l.length oc, .int .i64 (t : Int), .int .i64 ((t - 1 : Nat) : Int), .pointer (some ⟨gL, (t - 1) * 32, none⟩), .agg (Sh.encH hp).toArray, .agg (bytesA 32 hh.f).toList.toArray, .int .i64 (Sh.cf hp hh), .bool false, .bool false, u33, u34, .slice (some ⟨gL, 0, none⟩) l.length oc, .agg (bytesA 32 hh.f), .slice (some ⟨w7.heap.size, 0, none⟩) 1 1, v4, .int .i64 ((t : Int) + 1), rfl, by omega, l ++ [hh], at_ + 32, JC2.out, HI4.out, HO4.out, HOn4.out, Hg4.out, by rw [List.length_append]; simp [JLn.out]⟩, ?_⟩
          simp only [intOf]; show n - ((t : Int) + 1).toNat < n - ((t : Int)).toNat; omega
      · have ht0' : ¬ (0 : Int) < (t : Int) := by omega
        have HB7 : Keep (Below w3.heap.size w3 w3.drew) := ⟨hD0⟩
        have JC2 := Keep.mk (JC.out.trans ((if_neg (by simp [hE])).trans (if_neg (fun h => ht0 (by have := JLn.out; have := h.1; omega)))))
        refine wp_region_held_drew (S := fun _ => True) (by kernel_rfl) (trivial) (fun hHeld => ?_)
        refine wpAnyH_take (i := 0) (oi := ⟨some 21, Op.move (Operand.tmp 6), 3, _, _, none⟩) (v := .int .i64 (t : Int)) rfl (by kernel_rfl) (by kernel_rfl) (by kernel_rfl) (fun _ _ _ h => h) (Or.inl ⟨by rfl, fun w hS => by go_simp⟩) hHeld ?_
        simp only [Act.put, List.setIfInBounds_toArray, List.set_cons_zero, List.set_cons_succ]
        refine wpAnyH_take (i := 1) (oi := ⟨some 22, Op.binOp BinOp.gtr 3 (Operand.tmp 21) (Operand.const (Value.int IntKind.i64 0)) 3, 4, _, _, none⟩) (v := .bool false) rfl (by kernel_rfl) (by kernel_rfl) (by kernel_rfl) (fun _ _ _ h => h) (Or.inl ⟨by rfl, fun w hS => by go_simp⟩) hHeld ?_
        simp only [Act.put, List.setIfInBounds_toArray, List.set_cons_zero, List.set_cons_succ]
        refine wpAnyH_take (i := 2) (oi := ⟨some 23, Op.move (Operand.tmp 22), 4, _, _, none⟩) (v := .bool false) rfl (by kernel_rfl) (by kernel_rfl) (by kernel_rfl) (fun _ _ _ h => h) (Or.inl ⟨by rfl, fun w hS => by go_simp⟩) hHeld ?_
        simp only [Act.put, List.setIfInBounds_toArray, List.set_cons_zero, List.set_cons_succ]
        refine wpAnyH_take (i := 3) (oi := ⟨some 24, Op.move (Operand.tmp 5), 25, _, _, some (2, true)⟩) (v := undef) rfl (by kernel_rfl) (by kernel_rfl) (by kernel_rfl) (fun _ _ _ h => h) (Or.inr ⟨by rfl, rfl⟩) hHeld ?_
        simp only [Act.put, List.setIfInBounds_toArray, List.set_cons_zero, List.set_cons_succ]
        refine wpAnyH_take (i := 4) (oi := ⟨some 25, Op.move (Operand.tmp 6), 3, _, _, some (2, true)⟩) (v := undef) rfl (by kernel_rfl) (by kernel_rfl) (by kernel_rfl) (fun _ _ _ h => h) (Or.inr ⟨by rfl, rfl⟩) hHeld ?_
        simp only [Act.put, List.setIfInBounds_toArray, List.set_cons_zero, List.set_cons_succ]
        refine wpAnyH_take (i := 5) (oi := ⟨some 26, Op.binOp BinOp.sub 3 (Operand.tmp 25) (Operand.const (Value.int IntKind.i64 1)) 3, 3, _, _, some (2, true)⟩) (v := undef) rfl (by kernel_rfl) (by kernel_rfl) (by kernel_rfl) (fun _ _ _ h => h) (Or.inr ⟨by rfl, rfl⟩) hHeld ?_
        simp only [Act.put, List.setIfInBounds_toArray, List.set_cons_zero, List.set_cons_succ]
        refine wpAnyH_take (i := 6) (oi := ⟨some 27, Op.indexAddr 25 (Operand.tmp 24) (Operand.tmp 26), 0, _, _, some (2, true)⟩) (v := undef) rfl (by kernel_rfl) (by kernel_rfl) (by kernel_rfl) (fun _ _ _ h => h) (Or.inr ⟨by rfl, rfl⟩) hHeld ?_
        simp only [Act.put, List.setIfInBounds_toArray, List.set_cons_zero, List.set_cons_succ]
        refine wpAnyH_take (i := 7) (oi := ⟨some 28, Op.load 50 (Operand.tmp 27), 50, _, _, some (2, true)⟩) (v := undef) rfl (by kernel_rfl) (by kernel_rfl) (by kernel_rfl) (fun _ _ _ h => h) (Or.inr ⟨by rfl, rfl⟩) hHeld ?_
        simp only [Act.put, List.setIfInBounds_toArray, List.set_cons_zero, List.set_cons_succ]
        refine wpAnyH_take (i := 8) (oi := ⟨some 29, Op.load 50 (Operand.tmp 8), 50, _, _, some (2, true)⟩) (v := undef) rfl (by kernel_rfl) (by kernel_rfl) (by kernel_rfl) (fun _ _ _ h => h) (Or.inr ⟨by rfl, rfl⟩) hHeld ?_
        simp only [Act.put, List.setIfInBounds_toArray, List.set_cons_zero, List.set_cons_succ]
        refine wpAnyH_take (i := 9) (oi := ⟨some 30, Op.call { callee := Callee.value (Operand.func 80), args := #[Operand.tmp 28, Operand.tmp 29], argTypes := #[50, 50] }, 3, _, _, some (2, true)⟩) (v := undef) rfl (by kernel_rfl) (by kernel_rfl) (by kernel_rfl) (fun _ _ _ h => h) (Or.inr ⟨by rfl, rfl⟩) hHeld ?_
        simp only [Act.put, List.setIfInBounds_toArray, List.set_cons_zero, List.set_cons_succ]
        refine wpAnyH_take (i := 10) (oi := ⟨some 31, Op.binOp BinOp.geq 3 (Operand.tmp 30) (Operand.const (Value.int IntKind.i64 0)) 3, 4, _, _, some (2, true)⟩) (v := undef) rfl (by kernel_rfl) (by kernel_rfl) (by kernel_rfl) (fun _ _ _ h => h) (Or.inr ⟨by rfl, rfl⟩) hHeld ?_
        simp only [Act.put, List.setIfInBounds_toArray, List.set_cons_zero, List.set_cons_succ]
        refine wpAnyH_take (i := 11) (oi := ⟨some 32, Op.pick (Operand.tmp 23) (Operand.tmp 31) (Operand.const (Value.bool false)), 4, _, _, none⟩) (v := .bool false) rfl (by kernel_rfl) (by kernel_rfl) (by kernel_rfl) (fun _ _ _ h => h) (Or.inl ⟨by rfl, fun w hS => by go_simp⟩) hHeld ?_
        simp only [Act.put, List.setIfInBounds_toArray, List.set_cons_zero, List.set_cons_succ]
        refine wpAnyH_done (by kernel_rfl) ?_ _
        refine hK12 _ _ ?_
        refine wp_cond_false rfl ?_
        refine wp_skip ?_
        refine hK11 _ _ ?_
        refine wp_region_list (WL.out ?_)
        refine WL.val (by kernel_rfl) (.slice oa l.length oc) (by go_simp) ?_
        simp only [Act.put, List.setIfInBounds_toArray, List.set_cons_zero, List.set_cons_succ]
        refine WL.row (by kernel_rfl) 50 (.tmp 8) rfl w2.heap.size rfl 50 (bytesA 32 hh.f) _ (HX3.out.below HB7.out HX3.out.lt) Tryz.underlying50 rfl (Tryz.size50B _) ?_
        simp only [Act.put, List.setIfInBounds_toArray, List.set_cons_zero, List.set_cons_succ]
        refine WL.bs (by kernel_rfl) 25 1 _ rfl #[(0, .agg (bytesA 32 hh.f))] (by simp [Act.eval]) _ _ (bsH hh w3.drew) ?_
        have HB8 := Keep.mk (Blk.new w3.drew 50 (bytesA 32 hh.f))
        have B8 : Keep (Below w3.heap.size w3 (w3.drew.alloc (.cells (bytesA 32 hh.f) 50))) := ⟨HB7.out.trans ((below_new w3.drew _).mono HB7.out.size)⟩
        generalize w3.drew.alloc (.cells (bytesA 32 hh.f) 50) = w8 at *
        simp only [Act.put, List.setIfInBounds_toArray, List.set_cons_zero, List.set_cons_succ]
        refine WL.appH (by kernel_rfl) (.tmp 35) (.tmp 37) rfl (.slice oa l.length oc) l w3.drew.heap.size hh rfl rfl (HO3.out.below B8.out) HB8.out (by have := JLn.out; have := Hn.out; omega) ?_
        intro v4 w4 h1 h2 h3
        have HO4 := Keep.mk h1
        have Hg4 : Keep (Grown w w4 fun k => k = p) := ⟨(HG3.out.trans (Grown.below B8.out)).next h2 (fun k hk e => absurd (JOn.out k e) (by omega))⟩
        have HI4 : Keep (InAt w4 p s (at_ + N) none) := ⟨h2.blk (HI3.out.blk.below B8.out HI3.out.blk.lt) (fun e => (HO3.out.below B8.out).ne (HI3.out.blk.below B8.out HI3.out.blk.lt) (by decide) e), HI3.out.le⟩
        have HOn4 : Keep (∀ k, v4.ownBlock = some k → w.heap.size ≤ k) := ⟨fun k hk => by
          rcases h3 with e | ⟨j, e, hj⟩
          · rw [e] at hk; exact JOn.out k hk
          · rw [e] at hk; injection hk with hk; have := HG3.out.size; have := B8.out.size; omega⟩
        clear h1 h2 h3
        simp only [Act.put, List.setIfInBounds_toArray, List.set_cons_zero, List.set_cons_succ]
        refine WL.val (by kernel_rfl) (v4) (by go_simp) ?_
        simp only [Act.put, List.setIfInBounds_toArray, List.set_cons_zero, List.set_cons_succ]
        refine WL.nil ?_
        refine hK7 _ _ ?_
        refine wp_region_list (WL.out ?_)
        refine WL.val (by kernel_rfl) (.int .i64 ((t : Int) + 1)) (by go_simp) ?_
        simp only [Act.put, List.setIfInBounds_toArray, List.set_cons_zero, List.set_cons_succ]
        refine WL.val (by kernel_rfl) (.int .i64 ((t : Int) + 1)) (by go_simp) ?_
        simp only [Act.put, List.setIfInBounds_toArray, List.set_cons_zero, List.set_cons_succ]
        refine WL.nil ?_
        rw [HN32.out hE] at HI4
        refine ⟨⟨t + 1, v4, .int .i64 (t : Int), .int .i64 (at_ : Int), .pointer (some ⟨w2.heap.size, 0, none⟩), .bool true, .int .i64 (t : Int), .pointer (some ⟨p, 0, none⟩), .int .i64 (at_ : Int), .pointer (some ⟨p, 0, none⟩), .tuple #[.agg (bytesA 32 hh.f), .nilIface], .agg (bytesA 32 hh.f), .nilIface, .agg (bytesA 32 hh.f), .int .i64 (t : Int), .bool false, .bool false, undef, undef, undef, undef, undef, undef, undef, undef, .bool false, u33, u34, .slice oa l.length oc, .agg (bytesA 32 hh.f), .slice (some ⟨w3.drew.heap.size, 0, none⟩) 1 1, v4, .int .i64 ((t : Int) + 1), rfl, by omega, l ++ [hh], at_ + 32, JC2.out, HI4.out, HO4.out, HOn4.out, Hg4.out, by rw [List.length_append]; simp [JLn.out]⟩, ?_⟩
        simp only [intOf]; show n - ((t : Int) + 1).toNat < n - ((t : Int)).toNat; omega
    · rcases H3.out with ⟨e1, _, _⟩ | ⟨_, q, hq, rfl, rfl, hbad⟩
      · exact absurd e1 hE
      have Hbad := Keep.mk hbad
      clear hbad
      unfold err
      refine WL.val (by kernel_rfl) (.agg (bytesA 32 (hrd D W))) (by go_simp) ?_
      simp only [Act.put, List.setIfInBounds_toArray, List.set_cons_zero, List.set_cons_succ]
      refine WL.val (by kernel_rfl) (.iface 121 (ptr q)) (by go_simp) ?_
      simp only [Act.put, List.setIfInBounds_toArray, List.set_cons_zero, List.set_cons_succ]
      refine WL.callP (by kernel_rfl) 76 _ _ rfl Tryz.in76 #[.agg (bytesA 32 (hrd D W)), err q] (by simp [Act.eval, err]) ?_
      refine (mustH_bad _ q w1).mono ?_
      rintro e w' ⟨rfl, hbz⟩
      refine .inr ⟨_, rfl, ?_⟩
      try simp only [Exit.inBlock, Exit.then]
      refine ⟨rfl, ?_⟩
      exact .inr ⟨by rw [HR.out, JC.out, if_pos hE]; exact hE, q, Nat.le_trans JG.out.size hq, rfl, by rw [HR.out, JC.out, if_pos hE]; exact Hbad.out.below hbz Hbad.out.lt, H2.out.trans (Grown.below hbz)⟩
  · have hte : Keep (t = n) := ⟨by omega⟩
    have htl' : ¬ (t : Int) < (n : Int) := by omega
    refine wp_seq_k fun K13 hK13 => ?_
    refine wp_region_list (WL.out ?_)
    refine WL.val (by kernel_rfl) (.bool false) (by go_simp) ?_
    simp only [Act.put, List.setIfInBounds_toArray, List.set_cons_zero, List.set_cons_succ]
    refine WL.nil ?_
    refine hK13 _ _ ?_
    refine wp_seq_k fun K14 hK14 => ?_
    refine wp_cond_false rfl ?_
    refine wp_exit ?_
    refine hK3 _ _ ?_
    refine wp_seq_k fun K15 hK15 => ?_
    refine wp_region_list (WL.out ?_)
    refine WL.val (by kernel_rfl) (u5) (by go_simp) ?_
    simp only [Act.put, List.setIfInBounds_toArray, List.set_cons_zero, List.set_cons_succ]
    refine WL.val (by kernel_rfl) (u5) (by go_simp) ?_
    simp only [Act.put, List.setIfInBounds_toArray, List.set_cons_zero, List.set_cons_succ]
    refine WL.nil ?_
    refine hK15 _ _ ?_
    refine wp_ret ?_
    go_ret
    rw [hte.out, Nat.sub_self, getH] at hC
    rw [HR.out, hC]
    exact .inl ⟨rfl, u5, rfl, hO, hOn, hI, hG⟩
end Go.Proofs.YtdkhjeofjhcceaaGreatDoor.Nd
namespace Go.Proofs.YtdkhjeofjhcceaaGreatDoor.Nd
open Go.RowKit
set_option linter.unusedSimpArgs false
set_option linter.unusedVariables false

structure NodeV where
  au : Int
  ck : Int
  ps : List Hs
  ops : List OpV
def zeroN : NodeV := ⟨0, 0, [], []⟩
def ndA (au ck : Int) (vp vo : Value) : Array Value := #[.int .i64 au, .int .i64 ck, vp, vo]
def noS : Value := .slice none 0 0
theorem Tryz.new53N (w : World) : (Instr.alloc 53 true (.tuple #[])).run Tryz.prog w = .ok (.pointer (some ⟨w.heap.size, 0, none⟩)) (w.alloc (.cells (ndA 0 0 noS noS) 53)) := by kernel_rfl
theorem Tryz.size53 : (Tryz.prog.info? 53).map (·.size) = some 4 := by kernel_rfl
theorem Tryz.size53B (a c : Int) (x y : Value) : (Tryz.prog.info? 53).map (·.size) = some (ndA a c x y).size := Tryz.size53
theorem nd_built0 : Tryz.prog.built 53 [] = some (ndA 0 0 noS noS) := by kernel_rfl
theorem nd_built1 (a : Int) : Tryz.prog.built 53 [(0, .int .i64 a)] = some (ndA a 0 noS noS) := by kernel_rfl
theorem nd_one (a c : Int) (pa : Option Addr) (pn pc : Nat) (oa : Option Addr) (on oc : Nat) : (ndA a c (.slice pa pn pc) (.slice oa on oc)).all (·.oneCell') = true := by simp [ndA, Value.oneCell']
theorem nd_1 (a c : Int) (x y : Value) : (ndA a c x y)[1]? = some (.int .i64 c) := rfl
theorem nd_2 (a c : Int) (x y : Value) : (ndA a c x y)[2]? = some x := rfl
theorem nd_3 (a c : Int) (x y : Value) : (ndA a c x y)[3]? = some y := rfl
theorem nd_set1 (a c : Int) (x y : Value) (k : Int) : (ndA a c x y).setIfInBounds 1 (.int .i64 k) = ndA a k x y := rfl
theorem nd_set2 (a c : Int) (x y z : Value) : (ndA a c x y).setIfInBounds 2 z = ndA a c z y := rfl
theorem nd_set3 (a c : Int) (x y z : Value) : (ndA a c x y).setIfInBounds 3 z = ndA a c x z := rfl
def decR (L : List Int) : Int × Nat × NodeV :=
  if (formR L 0).1 ≠ 0 then ((formR L 0).1, (formR L 0).2, zeroN)
  else if (auR L 1).1 ≠ 0 then ((auR L 1).1, (auR L 1).2, zeroN)
  else if (ckR L 2).1 ≠ 0 then ((ckR L 2).1, (ckR L 2).2, zeroN)
  else if (fstM (L.drop (ckR L 2).2) 64).2.2 ≠ 0 then ((fstM (L.drop (ckR L 2).2) 64).2.2, (ckR L 2).2 + (fstM (L.drop (ckR L 2).2) 64).2.1.toNat, zeroN)
  else if (((fstM (L.drop 2) 4096).1 == 1) == ((fstM (L.drop (ckR L 2).2) 64).1 == 0)) = false then (51, 2, zeroN)
  else if (getH L (fstM (L.drop (ckR L 2).2) 64).1.toNat [] ((ckR L 2).2 + (fstM (L.drop (ckR L 2).2) 64).2.1.toNat)).1 ≠ 0 then
    ((getH L (fstM (L.drop (ckR L 2).2) 64).1.toNat [] ((ckR L 2).2 + (fstM (L.drop (ckR L 2).2) 64).2.1.toNat)).1, (getH L (fstM (L.drop (ckR L 2).2) 64).1.toNat [] ((ckR L 2).2 + (fstM (L.drop (ckR L 2).2) 64).2.1.toNat)).2.1, zeroN)
  else if (getL L (getH L (fstM (L.drop (ckR L 2).2) 64).1.toNat [] ((ckR L 2).2 + (fstM (L.drop (ckR L 2).2) 64).2.1.toNat)).2.1).1 ≠ 0 then
    ((getL L (getH L (fstM (L.drop (ckR L 2).2) 64).1.toNat [] ((ckR L 2).2 + (fstM (L.drop (ckR L 2).2) 64).2.1.toNat)).2.1).1, (getL L (getH L (fstM (L.drop (ckR L 2).2) 64).1.toNat [] ((ckR L 2).2 + (fstM (L.drop (ckR L 2).2) 64).2.1.toNat)).2.1).2.1, zeroN)
  else if (getL L (getH L (fstM (L.drop (ckR L 2).2) 64).1.toNat [] ((ckR L 2).2 + (fstM (L.drop (ckR L 2).2) 64).2.1.toNat)).2.1).2.1 < L.length then (23, (getL L (getH L (fstM (L.drop (ckR L 2).2) 64).1.toNat [] ((ckR L 2).2 + (fstM (L.drop (ckR L 2).2) 64).2.1.toNat)).2.1).2.1, zeroN)
  else (0, (getL L (getH L (fstM (L.drop (ckR L 2).2) 64).1.toNat [] ((ckR L 2).2 + (fstM (L.drop (ckR L 2).2) 64).2.1.toNat)).2.1).2.1, ⟨(L.drop 1).getD 0 0, (fstM (L.drop 2) 4096).1, (getH L (fstM (L.drop (ckR L 2).2) 64).1.toNat [] ((ckR L 2).2 + (fstM (L.drop (ckR L 2).2) 64).2.1.toNat)).2.2, (getL L (getH L (fstM (L.drop (ckR L 2).2) 64).1.toNat [] ((ckR L 2).2 + (fstM (L.drop (ckR L 2).2) 64).2.1.toNat)).2.1).2.2⟩)
theorem Gives.of {p : Nat} {R : Int × Nat} {w w1 w' : World} {e : Ending} (hg : Grown w w1 fun k => k = p) (h : Gives p R w1 e w') : Gives p R w e w' :=
  ⟨h.1, h.2.choose, Nat.le_trans hg.size h.2.choose_spec.1, h.2.choose_spec.2.1, h.2.choose_spec.2.2.1, hg.trans h.2.choose_spec.2.2.2⟩
def BlkPost (p : Nat) (R : Int × Nat × NodeV) (w : World) (e : Ending) (w' : World) : Prop :=
  (R.1 = 0 ∧ ∃ vp vo, e = .returned (.agg (ndA R.2.2.au R.2.2.ck vp vo)) ∧ OwnH w' vp R.2.2.ps ∧ OwnO w' vo R.2.2.ops ∧ (∀ k, vp.ownBlock = some k → w.heap.size ≤ k) ∧ (∀ k, vo.ownBlock = some k → w.heap.size ≤ k) ∧ (∀ x ∈ R.2.2.ops, OpOk x) ∧ R.2.2.ops.length ≤ 1024 ∧ Grown w w' fun k => k = p) ∨ Gives p (R.1, R.2.1) w e w'
theorem Tryz.in73 (w : World) (vs : Array Value) : (callFunc 73 vs).run Tryz.prog w = .ok (.enter 73 vs) w := by kernel_rfl
theorem Tryz.in82 (w : World) (vs : Array Value) : (callFunc 82 vs).run Tryz.prog w = .ok (.enter 82 vs) w := by kernel_rfl
theorem Tryz.in83 (w : World) (vs : Array Value) : (callFunc 83 vs).run Tryz.prog w = .ok (.enter 83 vs) w := by kernel_rfl
theorem Tryz.in84 (w : World) (vs : Array Value) : (callFunc 84 vs).run Tryz.prog w = .ok (.enter 84 vs) w := by kernel_rfl
theorem Tryz.in86 (w : World) (vs : Array Value) : (callFunc 86 vs).run Tryz.prog w = .ok (.enter 86 vs) w := by kernel_rfl
theorem Tryz.in48 (w : World) (vs : Array Value) : (callFunc 48 vs).run Tryz.prog w = .ok (.enter 48 vs) w := by kernel_rfl
theorem iend_good (p : Nat) (s : ByteArray) (a : Nat) (w : World) (hI : InAt w p s a none) (hb : s.size ≤ 140737488355328) :
    Calls Tryz.prog 48 #[ptr p] w fun e w' => (a = s.size ∧ e = .returned .nilIface ∧ Below w.heap.size w w') ∨ (a < s.size ∧ ∃ q, w.heap.size ≤ q ∧ e = .returned (err q) ∧ BadAt w' q 23 a ∧ Grown w w' fun k => k = p) := by
  have c2 : w.cell? ⟨p, 2, none⟩ = some (.pointer none) := by rw [hI.blk.cell]; rfl
  have HI := Keep.mk hI
  have Hb := Keep.mk hb
  clear hI hb
  go_enter Tryz.func48, Tryz.ntmps48
  refine wp_seq_k fun K1 hK1 => ?_
  refine wp_region_list (WL.out ?_)
  refine WL.val (by kernel_rfl) (.nilIface) (by go_simp) ?_
  simp only [Act.put, List.setIfInBounds_toArray, List.set_cons_zero, List.set_cons_succ]
  refine WL.nil ?_
  refine hK1 _ _ ?_
  refine wp_seq_k fun K2 hK2 => ?_
  refine wp_seq_k fun K3 hK3 => ?_
  refine wp_region_list (WL.out ?_)
  refine WL.val (by kernel_rfl) (.pointer (some ⟨p, 0, none⟩)) (by go_simp) ?_
  simp only [Act.put, List.setIfInBounds_toArray, List.set_cons_zero, List.set_cons_succ]
  refine WL.val (by kernel_rfl) (.pointer (some ⟨p, 0, none⟩)) (by go_simp) ?_
  simp only [Act.put, List.setIfInBounds_toArray, List.set_cons_zero, List.set_cons_succ]
  refine WL.val (by kernel_rfl) (.pointer (some ⟨p, 2, none⟩)) (by go_simp) ?_
  simp only [Act.put, List.setIfInBounds_toArray, List.set_cons_zero, List.set_cons_succ]
  refine WL.val (by kernel_rfl) (.pointer none) (by go_simp) ?_
  simp only [Act.put, List.setIfInBounds_toArray, List.set_cons_zero, List.set_cons_succ]
  refine WL.val (by kernel_rfl) (.bool false) (by go_simp) ?_
  simp only [Act.put, List.setIfInBounds_toArray, List.set_cons_zero, List.set_cons_succ]
  refine WL.nil ?_
  refine hK3 _ _ ?_
  refine wp_cond_false rfl ?_
  refine wp_skip ?_
  refine hK2 _ _ ?_
  refine wp_seq_k fun K4 hK4 => ?_
  refine wp_seq_k fun K5 hK5 => ?_
  refine wp_region_list (WL.out ?_)
  refine WL.val (by kernel_rfl) (.pointer (some ⟨p, 0, none⟩)) (by go_simp) ?_
  simp only [Act.put, List.setIfInBounds_toArray, List.set_cons_zero, List.set_cons_succ]
  refine WL.callF (by kernel_rfl) 78 _ _ rfl Tryz.in78 #[ptr p] (by simp [Act.eval]) ?_
  refine (ileft_any p s a none w HI.out Hb.out).mono ?_
  rintro e w1 ⟨rfl, q1, rfl⟩
  refine ⟨_, rfl, ?_⟩
  simp only [Act.put, List.setIfInBounds_toArray, List.set_cons_zero, List.set_cons_succ]
  by_cases h3_2 : a < s.size
  · skip
    refine WL.val (by kernel_rfl) (.bool true) (by go_simp) ?_
    simp only [Act.put, List.setIfInBounds_toArray, List.set_cons_zero, List.set_cons_succ]
    refine WL.nil ?_
    refine hK5 _ _ ?_
    refine wp_cond_true rfl ?_
    refine wp_seq_k fun K6 hK6 => ?_
    have HI1 : Keep (InAt (w.drewN q1) p s a none) := ⟨HI.out.blk, HI.out.le⟩
    refine wp_region_list (WL.out ?_)
    refine WL.val (by kernel_rfl) (.pointer (some ⟨p, 0, none⟩)) (by go_simp) ?_
    simp only [Act.put, List.setIfInBounds_toArray, List.set_cons_zero, List.set_cons_succ]
    refine WL.callF (by kernel_rfl) 73 _ _ rfl Tryz.in73 #[ptr p, .int .i64 23] (by simp [Act.eval]) ?_
    refine (ifail_any p s a 23 (w.drewN q1) HI1.out).mono ?_
    rintro e w2 ⟨rfl, h1, h2, h3⟩
    refine ⟨_, rfl, ?_⟩
    unfold err
    have HX := Keep.mk h2
    have HY := Keep.mk h3
    clear h1 h2 h3
    simp only [Act.put, List.setIfInBounds_toArray, List.set_cons_zero, List.set_cons_succ]
    refine WL.val (by kernel_rfl) (.iface 121 (ptr (w.drewN q1).heap.size)) (by go_simp) ?_
    simp only [Act.put, List.setIfInBounds_toArray, List.set_cons_zero, List.set_cons_succ]
    refine WL.nil ?_
    refine hK6 _ _ ?_
    refine wp_ret ?_
    go_ret
    exact .inr ⟨by omega, _, Nat.le_refl _, rfl, HX.out, (Grown.below (below_drewN w q1)).trans HY.out⟩
  · skip
    refine WL.val (by kernel_rfl) (.bool false) (by go_simp) ?_
    simp only [Act.put, List.setIfInBounds_toArray, List.set_cons_zero, List.set_cons_succ]
    refine WL.nil ?_
    refine hK5 _ _ ?_
    refine wp_cond_false rfl ?_
    refine wp_skip ?_
    refine hK4 _ _ ?_
    refine wp_seq_k fun K7 hK7 => ?_
    refine wp_region_list (WL.out ?_)
    refine WL.val (by kernel_rfl) (.nilIface) (by go_simp) ?_
    simp only [Act.put, List.setIfInBounds_toArray, List.set_cons_zero, List.set_cons_succ]
    refine WL.nil ?_
    refine hK7 _ _ ?_
    refine wp_ret ?_
    go_ret
    exact .inl ⟨by have := HI.out.le; omega, rfl, below_drewN w q1⟩
theorem form_at {L : List Int} {a : Nat} (h : (formR L a).1 = 0) : (formR L a).2 = a + 1 := by
  unfold formR at h ⊢
  by_cases h0 : nextW (L.drop a) 1 = 0
  · rw [if_neg (by simp [h0])] at h ⊢
    by_cases h1 : (L.drop a).getD 0 0 = 1
    · rw [if_pos h1]
    · rw [if_neg h1] at h; cases h
  · rw [if_pos h0] at h; exact absurd h h0
theorem au_at {L : List Int} {a : Nat} (h : (auR L a).1 = 0) : (auR L a).2 = a + 1 := by
  unfold auR at h ⊢
  by_cases h0 : nextW (L.drop a) 1 = 0
  · rw [if_neg (by simp [h0])] at h ⊢
    by_cases h1 : 1 ≤ (L.drop a).getD 0 0 ∧ (L.drop a).getD 0 0 ≤ 8
    · rw [if_pos h1]
    · rw [if_neg h1] at h; cases h
  · rw [if_pos h0] at h; exact absurd h h0
set_option maxRecDepth 8000 in
set_option maxHeartbeats 4000000 in
theorem readBlock_any (p : Nat) (s : ByteArray) (w : World) (hI : InAt w p s 0 none) (hb : s.size ≤ 140737488355328) :
    Calls Tryz.prog 56 #[ptr p] w (BlkPost p (decR (lst s)) w) := by
  have HI := Keep.mk hI
  have Hb := Keep.mk hb
  have hc64 : ∀ (a : Nat) (w : World), InAt w p s a none → Calls Tryz.prog 45 #[ptr p, .int .u64 64] w (RdPost p s (fstM ((lst s).drop a) 64).2.2 (a + (fstM ((lst s).drop a) 64).2.1.toNat) (.int .u64 (fstM ((lst s).drop a) 64).1) w) := fun a w h => inum_good p s a 64 w h Hb.out
  obtain ⟨R, hR⟩ : ∃ R, R = decR (lst s) := ⟨_, rfl⟩
  have D1 : Keep ((formR (lst s) 0).1 ≠ 0 → R = ((formR (lst s) 0).1, (formR (lst s) 0).2, zeroN)) := ⟨fun x0 => by rw [hR]; unfold decR; rw [if_pos x0]⟩
  have D2 : Keep ((formR (lst s) 0).1 = 0 → (auR (lst s) 1).1 ≠ 0 → R = ((auR (lst s) 1).1, (auR (lst s) 1).2, zeroN)) := ⟨fun x0 x1 => by rw [hR]; unfold decR; rw [if_neg (by simp [x0]), if_pos x1]⟩
  have D3 : Keep ((formR (lst s) 0).1 = 0 → (auR (lst s) 1).1 = 0 → (ckR (lst s) 2).1 ≠ 0 → R = ((ckR (lst s) 2).1, (ckR (lst s) 2).2, zeroN)) := ⟨fun x0 x1 x2 => by rw [hR]; unfold decR; rw [if_neg (by simp [x0]), if_neg (by simp [x1]), if_pos x2]⟩
  have D4 : Keep ((formR (lst s) 0).1 = 0 → (auR (lst s) 1).1 = 0 → (ckR (lst s) 2).1 = 0 → ¬ (fstM ((lst s).drop (ckR (lst s) 2).2) 64).2.2 = 0 → R = ((fstM ((lst s).drop (ckR (lst s) 2).2) 64).2.2, (ckR (lst s) 2).2 + (fstM ((lst s).drop (ckR (lst s) 2).2) 64).2.1.toNat, zeroN)) := ⟨fun x0 x1 x2 x3 => by rw [hR]; unfold decR; rw [if_neg (by simp [x0]), if_neg (by simp [x1]), if_neg (by simp [x2]), if_pos x3]⟩
  have D5 : Keep ((formR (lst s) 0).1 = 0 → (auR (lst s) 1).1 = 0 → (ckR (lst s) 2).1 = 0 → (fstM ((lst s).drop (ckR (lst s) 2).2) 64).2.2 = 0 → ((((fstM ((lst s).drop 2) 4096).1 == 1) == ((fstM ((lst s).drop (ckR (lst s) 2).2) 64).1 == 0))) = false → R = (51, 2, zeroN)) := ⟨fun x0 x1 x2 x3 x4 => by rw [hR]; unfold decR; rw [if_neg (by simp [x0]), if_neg (by simp [x1]), if_neg (by simp [x2]), if_neg (by simp [x3]), if_pos x4]⟩
  have D6 : Keep ((formR (lst s) 0).1 = 0 → (auR (lst s) 1).1 = 0 → (ckR (lst s) 2).1 = 0 → (fstM ((lst s).drop (ckR (lst s) 2).2) 64).2.2 = 0 → ((((fstM ((lst s).drop 2) 4096).1 == 1) == ((fstM ((lst s).drop (ckR (lst s) 2).2) 64).1 == 0))) = true → (getH (lst s) (fstM ((lst s).drop (ckR (lst s) 2).2) 64).1.toNat [] ((ckR (lst s) 2).2 + (fstM ((lst s).drop (ckR (lst s) 2).2) 64).2.1.toNat)).1 ≠ 0 → R = ((getH (lst s) (fstM ((lst s).drop (ckR (lst s) 2).2) 64).1.toNat [] ((ckR (lst s) 2).2 + (fstM ((lst s).drop (ckR (lst s) 2).2) 64).2.1.toNat)).1, (getH (lst s) (fstM ((lst s).drop (ckR (lst s) 2).2) 64).1.toNat [] ((ckR (lst s) 2).2 + (fstM ((lst s).drop (ckR (lst s) 2).2) 64).2.1.toNat)).2.1, zeroN)) := ⟨fun x0 x1 x2 x3 x4 x5 => by rw [hR]; unfold decR; rw [if_neg (by simp [x0]), if_neg (by simp [x1]), if_neg (by simp [x2]), if_neg (by simp [x3]), if_neg (by rw [x4]; decide), if_pos x5]⟩
  have D7 : Keep ((formR (lst s) 0).1 = 0 → (auR (lst s) 1).1 = 0 → (ckR (lst s) 2).1 = 0 → (fstM ((lst s).drop (ckR (lst s) 2).2) 64).2.2 = 0 → ((((fstM ((lst s).drop 2) 4096).1 == 1) == ((fstM ((lst s).drop (ckR (lst s) 2).2) 64).1 == 0))) = true → (getH (lst s) (fstM ((lst s).drop (ckR (lst s) 2).2) 64).1.toNat [] ((ckR (lst s) 2).2 + (fstM ((lst s).drop (ckR (lst s) 2).2) 64).2.1.toNat)).1 = 0 → ¬ (getL (lst s) (getH (lst s) (fstM ((lst s).drop (ckR (lst s) 2).2) 64).1.toNat [] ((ckR (lst s) 2).2 + (fstM ((lst s).drop (ckR (lst s) 2).2) 64).2.1.toNat)).2.1).1 = 0 → R = ((getL (lst s) (getH (lst s) (fstM ((lst s).drop (ckR (lst s) 2).2) 64).1.toNat [] ((ckR (lst s) 2).2 + (fstM ((lst s).drop (ckR (lst s) 2).2) 64).2.1.toNat)).2.1).1, (getL (lst s) (getH (lst s) (fstM ((lst s).drop (ckR (lst s) 2).2) 64).1.toNat [] ((ckR (lst s) 2).2 + (fstM ((lst s).drop (ckR (lst s) 2).2) 64).2.1.toNat)).2.1).2.1, zeroN)) := ⟨fun x0 x1 x2 x3 x4 x5 x6 => by rw [hR]; unfold decR; rw [if_neg (by simp [x0]), if_neg (by simp [x1]), if_neg (by simp [x2]), if_neg (by simp [x3]), if_neg (by rw [x4]; decide), if_neg (by simp [x5]), if_pos x6]⟩
  have D8 : Keep ((formR (lst s) 0).1 = 0 → (auR (lst s) 1).1 = 0 → (ckR (lst s) 2).1 = 0 → (fstM ((lst s).drop (ckR (lst s) 2).2) 64).2.2 = 0 → ((((fstM ((lst s).drop 2) 4096).1 == 1) == ((fstM ((lst s).drop (ckR (lst s) 2).2) 64).1 == 0))) = true → (getH (lst s) (fstM ((lst s).drop (ckR (lst s) 2).2) 64).1.toNat [] ((ckR (lst s) 2).2 + (fstM ((lst s).drop (ckR (lst s) 2).2) 64).2.1.toNat)).1 = 0 → (getL (lst s) (getH (lst s) (fstM ((lst s).drop (ckR (lst s) 2).2) 64).1.toNat [] ((ckR (lst s) 2).2 + (fstM ((lst s).drop (ckR (lst s) 2).2) 64).2.1.toNat)).2.1).1 = 0 → (getL (lst s) (getH (lst s) (fstM ((lst s).drop (ckR (lst s) 2).2) 64).1.toNat [] ((ckR (lst s) 2).2 + (fstM ((lst s).drop (ckR (lst s) 2).2) 64).2.1.toNat)).2.1).2.1 < (lst s).length → R = (23, (getL (lst s) (getH (lst s) (fstM ((lst s).drop (ckR (lst s) 2).2) 64).1.toNat [] ((ckR (lst s) 2).2 + (fstM ((lst s).drop (ckR (lst s) 2).2) 64).2.1.toNat)).2.1).2.1, zeroN)) := ⟨fun x0 x1 x2 x3 x4 x5 x6 x7 => by rw [hR]; unfold decR; rw [if_neg (by simp [x0]), if_neg (by simp [x1]), if_neg (by simp [x2]), if_neg (by simp [x3]), if_neg (by rw [x4]; decide), if_neg (by simp [x5]), if_neg (by simp [x6]), if_pos x7]⟩
  have D9 : Keep ((formR (lst s) 0).1 = 0 → (auR (lst s) 1).1 = 0 → (ckR (lst s) 2).1 = 0 → (fstM ((lst s).drop (ckR (lst s) 2).2) 64).2.2 = 0 → ((((fstM ((lst s).drop 2) 4096).1 == 1) == ((fstM ((lst s).drop (ckR (lst s) 2).2) 64).1 == 0))) = true → (getH (lst s) (fstM ((lst s).drop (ckR (lst s) 2).2) 64).1.toNat [] ((ckR (lst s) 2).2 + (fstM ((lst s).drop (ckR (lst s) 2).2) 64).2.1.toNat)).1 = 0 → (getL (lst s) (getH (lst s) (fstM ((lst s).drop (ckR (lst s) 2).2) 64).1.toNat [] ((ckR (lst s) 2).2 + (fstM ((lst s).drop (ckR (lst s) 2).2) 64).2.1.toNat)).2.1).1 = 0 → ¬ (getL (lst s) (getH (lst s) (fstM ((lst s).drop (ckR (lst s) 2).2) 64).1.toNat [] ((ckR (lst s) 2).2 + (fstM ((lst s).drop (ckR (lst s) 2).2) 64).2.1.toNat)).2.1).2.1 < (lst s).length → R = (0, (getL (lst s) (getH (lst s) (fstM ((lst s).drop (ckR (lst s) 2).2) 64).1.toNat [] ((ckR (lst s) 2).2 + (fstM ((lst s).drop (ckR (lst s) 2).2) 64).2.1.toNat)).2.1).2.1, ⟨((lst s).drop 1).getD 0 0, (fstM ((lst s).drop 2) 4096).1, (getH (lst s) (fstM ((lst s).drop (ckR (lst s) 2).2) 64).1.toNat [] ((ckR (lst s) 2).2 + (fstM ((lst s).drop (ckR (lst s) 2).2) 64).2.1.toNat)).2.2, (getL (lst s) (getH (lst s) (fstM ((lst s).drop (ckR (lst s) 2).2) 64).1.toNat [] ((ckR (lst s) 2).2 + (fstM ((lst s).drop (ckR (lst s) 2).2) 64).2.1.toNat)).2.1).2.2⟩)) := ⟨fun x0 x1 x2 x3 x4 x5 x6 x7 => by rw [hR]; unfold decR; rw [if_neg (by simp [x0]), if_neg (by simp [x1]), if_neg (by simp [x2]), if_neg (by simp [x3]), if_neg (by rw [x4]; decide), if_neg (by simp [x5]), if_neg (by simp [x6]), if_neg x7]⟩
  rw [← hR]
  clear hI hb hR
  go_enter Tryz.func56, Tryz.ntmps56
  refine wp_seq_k fun K1 hK1 => ?_
  refine wp_region_list (WL.out ?_)
  refine WL.new (by kernel_rfl) 53 rfl _ Tryz.new53N ?_
  have HZ0 := Keep.mk (Blk.new w 53 (ndA 0 0 noS noS))
  have HG0 : Keep (Grown w (w.alloc (.cells (ndA 0 0 noS noS) 53)) fun k => k = p) := ⟨Grown.below (below_new w _)⟩
  have HI0 : Keep (InAt (w.alloc (.cells (ndA 0 0 noS noS) 53)) p s 0 none) := ⟨HI.out.blk.below (below_new w _) HI.out.blk.lt, HI.out.le⟩
  generalize w.alloc (.cells (ndA 0 0 noS noS) 53) = w0 at *
  simp only [Act.put, List.setIfInBounds_toArray, List.set_cons_zero, List.set_cons_succ]
  refine WL.nil ?_
  refine hK1 _ _ ?_
  refine wp_seq_k fun K2 hK2 => ?_
  refine wp_region_list (WL.out ?_)
  refine WL.val (by kernel_rfl) (.pointer (some ⟨p, 0, none⟩)) (by go_simp) ?_
  simp only [Act.put, List.setIfInBounds_toArray, List.set_cons_zero, List.set_cons_succ]
  refine WL.callP (by kernel_rfl) 82 _ _ rfl Tryz.in82 #[ptr p] (by simp [Act.eval]) ?_
  refine (readForm_any p s 0 w0 HI0.out Hb.out).mono ?_
  rintro e w1 (⟨e1, rfl, h2, h3⟩ | hgv)
  rotate_left
  · have hne := hgv.1
    obtain ⟨q, hq, rfl, hbg⟩ := hgv.2
    refine .inr ⟨_, rfl, ?_⟩
    try simp only [Exit.inBlock, Exit.then]
    refine ⟨rfl, ?_⟩
    exact .inr (Gives.of HG0.out (by rw [D1.out hne]; exact ⟨hne, q, hq, rfl, hbg⟩))
  refine .inl ⟨_, rfl, ?_⟩
  have HE1 := Keep.mk e1
  rw [form_at e1] at h2
  have HI1 : Keep (InAt w1 p s 1 none) := ⟨h2⟩
  have HZ1 := Keep.mk (h3.blk HZ0.out (blk_ne HZ0.out HI0.out.blk (by decide)))
  have HG1 := Keep.mk (HG0.out.trans h3)
  clear h2 h3 e1
  simp only [Act.put, List.setIfInBounds_toArray, List.set_cons_zero, List.set_cons_succ]
  refine WL.nil ?_
  refine hK2 _ _ ?_
  refine wp_seq_k fun K3 hK3 => ?_
  refine wp_region_list (WL.out ?_)
  refine WL.val (by kernel_rfl) (.pointer (some ⟨p, 0, none⟩)) (by go_simp) ?_
  simp only [Act.put, List.setIfInBounds_toArray, List.set_cons_zero, List.set_cons_succ]
  refine WL.callP (by kernel_rfl) 83 _ _ rfl Tryz.in83 #[ptr p] (by simp [Act.eval]) ?_
  refine (readAuthor_any p s 1 w1 HI1.out Hb.out).mono ?_
  rintro e w2 (⟨e1, rfl, h2, h3⟩ | hgv)
  rotate_left
  · have hne := hgv.1
    obtain ⟨q, hq, rfl, hbg⟩ := hgv.2
    refine .inr ⟨_, rfl, ?_⟩
    try simp only [Exit.inBlock, Exit.then]
    refine ⟨rfl, ?_⟩
    exact .inr (Gives.of HG1.out (by rw [D2.out HE1.out hne]; exact ⟨hne, q, hq, rfl, hbg⟩))
  refine .inl ⟨_, rfl, ?_⟩
  have HE2 := Keep.mk e1
  rw [au_at e1] at h2
  have HI2 : Keep (InAt w2 p s 2 none) := ⟨h2⟩
  have HZ2 := Keep.mk (h3.blk HZ1.out (blk_ne HZ1.out HI1.out.blk (by decide)))
  have HG2 := Keep.mk (HG1.out.trans h3)
  clear h2 h3 e1
  obtain ⟨au, hau⟩ : ∃ au, au = ((lst s).drop 1).getD 0 0 := ⟨_, rfl⟩
  rw [← hau]
  have HAu := Keep.mk hau
  clear hau
  simp only [Act.put, List.setIfInBounds_toArray, List.set_cons_zero, List.set_cons_succ]
  refine WL.bld (by kernel_rfl) 53 _ rfl [(0, .int .i64 au)] (by simp [Act.eval]) _ (nd_built1 au) ?_
  simp only [Act.put, List.setIfInBounds_toArray, List.set_cons_zero, List.set_cons_succ]
  refine WL.new (by kernel_rfl) 53 rfl _ Tryz.new53N ?_
  simp only [Act.put, List.setIfInBounds_toArray, List.set_cons_zero, List.set_cons_succ]
  refine WL.storeR (by kernel_rfl) 53 (.tmp 3) (.tmp 11) rfl w2.heap.size (ndA au 0 noS noS) rfl rfl 53 (ndA 0 0 noS noS) (Blk.new w2 53 _) (Tryz.size53B _ _ _ _) rfl (nd_one au 0 none 0 0 none 0 0) ?_
  have HX3 := Keep.mk ((Blk.new w2 53 (ndA 0 0 noS noS)).setRow (ndA au 0 noS noS))
  have B3 : Keep (Below w2.heap.size w2 ((w2.alloc (.cells (ndA 0 0 noS noS) 53)).setRow w2.heap.size (ndA au 0 noS noS))) := ⟨below_setRow (below_new w2 _) (Nat.le_refl _) _⟩
  generalize (w2.alloc (.cells (ndA 0 0 noS noS) 53)).setRow w2.heap.size (ndA au 0 noS noS) = w3 at *
  have HZ3 := Keep.mk (HZ2.out.below B3.out HZ2.out.lt)
  have HI3 : Keep (InAt w3 p s 2 none) := ⟨HI2.out.blk.below B3.out HI2.out.blk.lt, HI2.out.le⟩
  have HG3 : Keep (Grown w w3 fun k => k = p) := ⟨HG2.out.trans (Grown.below B3.out)⟩
  have Hgn : Keep (w.heap.size < w2.heap.size) := ⟨HZ2.out.lt⟩
  clear B3 HZ2 HI2 HG2
  generalize w2.heap.size = g at *
  simp only [Act.put]
  refine WL.nil ?_
  refine hK3 _ _ ?_
  refine wp_seq_k fun K4 hK4 => ?_
  refine wp_region_list (WL.out ?_)
  refine WL.val (by kernel_rfl) (.pointer (some ⟨p, 0, none⟩)) (by go_simp) ?_
  simp only [Act.put, List.setIfInBounds_toArray, List.set_cons_zero, List.set_cons_succ]
  refine WL.callF (by kernel_rfl) 69 _ _ rfl Tryz.in69 #[ptr p] (by simp [Act.eval]) ?_
  refine (iat_any p s 2 none w3 HI3.out).mono ?_
  rintro e wz ⟨rfl, hw0⟩
  rw [hw0]
  clear hw0 wz
  refine ⟨_, rfl, ?_⟩
  simp only [Act.put, List.setIfInBounds_toArray, List.set_cons_zero, List.set_cons_succ]
  refine WL.val (by kernel_rfl) (.int .i64 ((2 : Nat) : Int)) (by go_simp) ?_
  simp only [Act.put, List.setIfInBounds_toArray, List.set_cons_zero, List.set_cons_succ]
  refine WL.nil ?_
  refine hK4 _ _ ?_
  refine wp_seq_k fun K5 hK5 => ?_
  refine wp_region_list (WL.out ?_)
  refine WL.val (by kernel_rfl) (.pointer (some ⟨p, 0, none⟩)) (by go_simp) ?_
  simp only [Act.put, List.setIfInBounds_toArray, List.set_cons_zero, List.set_cons_succ]
  refine WL.callP (by kernel_rfl) 84 _ _ rfl Tryz.in84 #[ptr p] (by simp [Act.eval]) ?_
  refine (readClock_any p s 2 w3 HI3.out Hb.out).mono ?_
  rintro e w4 (⟨e1, rfl, h2, h3⟩ | hgv)
  rotate_left
  · have hne := hgv.1
    obtain ⟨q, hq, rfl, hbg⟩ := hgv.2
    refine .inr ⟨_, rfl, ?_⟩
    try simp only [Exit.inBlock, Exit.then]
    refine ⟨rfl, ?_⟩
    exact .inr (Gives.of HG3.out (by rw [D3.out HE1.out HE2.out hne]; exact ⟨hne, q, hq, rfl, hbg⟩))
  refine .inl ⟨_, rfl, ?_⟩
  have HE3 := Keep.mk e1
  obtain ⟨a1, ha1⟩ : ∃ a1, a1 = (ckR (lst s) 2).2 := ⟨_, rfl⟩
  rw [← ha1] at h2
  have Ha1 := Keep.mk ha1
  clear ha1
  have HI4 : Keep (InAt w4 p s a1 none) := ⟨h2⟩
  have HZ4 := Keep.mk (h3.blk HZ3.out (blk_ne HZ3.out HI3.out.blk (by decide)))
  have HG4 := Keep.mk (HG3.out.trans h3)
  have HX4 := Keep.mk (h3.blk HX3.out (blk_ne HX3.out HI3.out.blk (by decide)))
  clear h2 h3 e1
  obtain ⟨ck, hck⟩ : ∃ ck, ck = (fstM ((lst s).drop 2) 4096).1 := ⟨_, rfl⟩
  rw [← hck]
  have HCk := Keep.mk hck
  clear hck
  have c1 := HX4.out.c 1 (nd_1 _ _ _ _)
  have f1 := HX4.out.frozen 1
  simp only [Act.put, List.setIfInBounds_toArray, List.set_cons_zero, List.set_cons_succ]
  refine WL.val (by kernel_rfl) (.pointer (some ⟨g, 1, none⟩)) (by go_simp) ?_
  simp only [Act.put, List.setIfInBounds_toArray, List.set_cons_zero, List.set_cons_succ]
  refine WL.cell (by kernel_rfl) (w4.setCell ⟨g, 1, none⟩ (.int .i64 ck)) (by go_simp) ?_
  have HX5 := Keep.mk (HX4.out.set 1 (.int .i64 ck))
  rw [nd_set1] at HX5
  have HI5 : Keep (InAt (w4.setCell ⟨g, 1, none⟩ (.int .i64 ck)) p s a1 none) := ⟨HI4.out.blk.set_ne (blk_ne HI4.out.blk HX4.out (by decide)) _, HI4.out.le⟩
  have HZ5 := Keep.mk (HZ4.out.set_ne (b' := g) (j := 1) (by have := Hgn.out; omega) (.int .i64 ck))
  have Gs : Grown w4 (w4.setCell ⟨g, 1, none⟩ (.int .i64 ck)) fun k => k = g := Grown.setCell w4 g 1 _ fun _ => rfl
  have HG5 : Keep (Grown w (w4.setCell ⟨g, 1, none⟩ (.int .i64 ck)) fun k => k = p) := ⟨HG4.out.next Gs (fun k hk e => by have := Hgn.out; omega)⟩
  generalize w4.setCell ⟨g, 1, none⟩ (.int .i64 ck) = w5 at *
  clear c1 f1 Gs
  simp only [Act.put]
  refine WL.nil ?_
  refine hK5 _ _ ?_
  refine wp_seq_k fun K6 hK6 => ?_
  refine wp_region_list (WL.out ?_)
  refine WL.val (by kernel_rfl) (.pointer (some ⟨p, 0, none⟩)) (by go_simp) ?_
  simp only [Act.put, List.setIfInBounds_toArray, List.set_cons_zero, List.set_cons_succ]
  refine WL.callF (by kernel_rfl) 45 _ _ rfl Tryz.in45 #[ptr p, .int .u64 64] (by simp [Act.eval]) ?_
  refine (hc64 a1 w5 HI5.out).mono ?_
  rintro e w6 ⟨bad, er, rfl, h2, h3, h4⟩
  refine ⟨_, rfl, ?_⟩
  have HZ6 := Keep.mk (h3.blk HZ5.out (blk_ne HZ5.out HI5.out.blk (by decide)))
  have HX6 := Keep.mk (h3.blk HX5.out (blk_ne HX5.out HI5.out.blk (by decide)))
  have HG6 := Keep.mk (HG5.out.trans h3)
  have Hq := Keep.mk h3
  have H3 := Keep.mk h4
  have H1 := Keep.mk h2
  clear h2 h3 h4
  have D4' := D4
  have D5' := D5
  have D6' := D6
  have D7' := D7
  have D8' := D8
  have D9' := D9
  rw [← Ha1.out] at D4' D5' D6' D7' D8' D9'
  have hrg := fst_rng ((lst s).drop a1) ((lst_byts s).drop a1) 64 (by decide)
  generalize fstM ((lst s).drop a1) 64 = M at *
  obtain ⟨cn, nn, W⟩ := M
  simp only at D4' D5' D6' D7' D8' D9' hrg H3 H1 ⊢
  obtain ⟨a2, ha2⟩ : ∃ a2, a2 = a1 + nn.toNat := ⟨_, rfl⟩
  rw [← ha2] at D4' D6' D7' D8' D9' H3 H1
  clear ha2
  simp only [Act.put, List.setIfInBounds_toArray, List.set_cons_zero, List.set_cons_succ]
  by_cases hE : W = 0
  · rcases H3.out with ⟨e1, rfl, rfl⟩ | ⟨e1, _⟩
    rotate_left
    · exact absurd hE e1
    obtain ⟨n, hn⟩ : ∃ n : Nat, cn = (n : Int) := ⟨cn.toNat, by omega⟩
    have Hn : Keep (n ≤ 64) := ⟨by omega⟩
    subst hn
    rw [Int.toNat_natCast] at D6' D7' D8' D9'
    have hwn : IntKind.i64.wrap (n : Int) = (n : Int) := by rw [IntKind.wrap_i64]; omega
    clear hrg
    have HI6 : Keep (InAt w6 p s a2 none) := ⟨H1.out⟩
    have c1 := HX6.out.c 1 (nd_1 _ _ _ _)
    refine WL.val (by kernel_rfl) (.int .u64 (n : Int)) (by go_simp) ?_
    simp only [Act.put, List.setIfInBounds_toArray, List.set_cons_zero, List.set_cons_succ]
    refine WL.val (by kernel_rfl) (.nilIface) (by go_simp) ?_
    simp only [Act.put, List.setIfInBounds_toArray, List.set_cons_zero, List.set_cons_succ]
    refine WL.callF (by kernel_rfl) 44 _ _ rfl Tryz.in44 #[.int .u64 (n : Int), .nilIface] (by simp [Act.eval]) ?_
    refine (must47_ok (.int .u64 (n : Int)) w6).mono ?_
    rintro e wz ⟨rfl, hw0⟩
    rw [hw0]
    clear hw0 wz
    refine ⟨_, rfl, ?_⟩
    simp only [Act.put, List.setIfInBounds_toArray, List.set_cons_zero, List.set_cons_succ]
    refine WL.val (by kernel_rfl) (.int .i64 (n : Int)) (by go_simp) ?_
    simp only [Act.put, List.setIfInBounds_toArray, List.set_cons_zero, List.set_cons_succ]
    refine WL.val (by kernel_rfl) (.int .i64 (n : Int)) (by go_simp) ?_
    simp only [Act.put, List.setIfInBounds_toArray, List.set_cons_zero, List.set_cons_succ]
    refine WL.nil ?_
    refine hK6 _ _ ?_
    refine wp_seq_k fun K7 hK7 => ?_
    refine wp_seq_k fun K8 hK8 => ?_
    rcases Bool.eq_false_or_eq_true ((ck == 1) == ((n : Int) == 0)) with hF | hF
    · have hcf := clockFits_is ck (n : Int) w6 _ hF
      refine wp_region_list (WL.out ?_)
      refine WL.val (by kernel_rfl) (.pointer (some ⟨g, 1, none⟩)) (by go_simp) ?_
      simp only [Act.put, List.setIfInBounds_toArray, List.set_cons_zero, List.set_cons_succ]
      refine WL.val (by kernel_rfl) (.int .i64 ck) (by go_simp) ?_
      simp only [Act.put, List.setIfInBounds_toArray, List.set_cons_zero, List.set_cons_succ]
      refine WL.val (by kernel_rfl) (.int .i64 (n : Int)) (by go_simp) ?_
      simp only [Act.put, List.setIfInBounds_toArray, List.set_cons_zero, List.set_cons_succ]
      refine WL.callF (by kernel_rfl) 85 _ _ rfl Tryz.in85 #[.int .i64 ck, .int .i64 (n : Int)] (by simp [Act.eval]) ?_
      refine (hcf).mono ?_
      rintro e wz ⟨rfl, hw0⟩
      rw [hw0]
      clear hw0 wz
      refine ⟨_, rfl, ?_⟩
      simp only [Act.put, List.setIfInBounds_toArray, List.set_cons_zero, List.set_cons_succ]
      refine WL.val (by kernel_rfl) (.bool false) (by go_simp) ?_
      simp only [Act.put, List.setIfInBounds_toArray, List.set_cons_zero, List.set_cons_succ]
      refine WL.nil ?_
      refine hK8 _ _ ?_
      refine wp_cond_false rfl ?_
      refine wp_skip ?_
      refine hK7 _ _ ?_
      refine wp_seq_k fun K9 hK9 => ?_
      refine wp_region_list (WL.out ?_)
      refine WL.val (by kernel_rfl) (.pointer (some ⟨p, 0, none⟩)) (by go_simp) ?_
      simp only [Act.put, List.setIfInBounds_toArray, List.set_cons_zero, List.set_cons_succ]
      refine WL.val (by kernel_rfl) (.int .i64 (n : Int)) (by go_simp) ?_
      simp only [Act.put, List.setIfInBounds_toArray, List.set_cons_zero, List.set_cons_succ]
      refine WL.callP (by kernel_rfl) 86 _ _ rfl Tryz.in86 #[ptr p, .int .i64 (n : Int)] (by simp [Act.eval]) ?_
      refine (readParents_any p s a2 n w6 HI6.out Hb.out Hn.out).mono ?_
      generalize getH (lst s) n [] a2 = H at *
      rintro e w7 (⟨e1, vp, rfl, h4, h5, h2, h3⟩ | hgv)
      rotate_left
      · have hne := hgv.1
        obtain ⟨q, hq, rfl, hbg⟩ := hgv.2
        refine .inr ⟨_, rfl, ?_⟩
        try simp only [Exit.inBlock, Exit.then]
        refine ⟨rfl, ?_⟩
        exact .inr (Gives.of HG6.out (by rw [D6'.out HE1.out HE2.out HE3.out hE (by rw [← HCk.out]; exact hF) hne]; exact ⟨hne, q, hq, rfl, hbg⟩))
      refine .inl ⟨_, rfl, ?_⟩
      have HE4 := Keep.mk e1
      have HI7 : Keep (InAt w7 p s H.2.1 none) := ⟨h2⟩
      have HZ7 := Keep.mk (h3.blk HZ6.out (blk_ne HZ6.out HI6.out.blk (by decide)))
      have HG7 := Keep.mk (HG6.out.trans h3)
      have HX7 := Keep.mk (h3.blk HX6.out (blk_ne HX6.out HI6.out.blk (by decide)))
      have HO7 := Keep.mk h4
      have HOn7 : Keep (∀ k, vp.ownBlock = some k → w.heap.size ≤ k) := ⟨fun k hk => Nat.le_trans HG6.out.size (h5 k hk)⟩
      clear h2 h3 h4 h5 e1 c1
      obtain ⟨pa, pc, rfl⟩ := HO7.out.sl
      have c2 := HX7.out.c 2 (nd_2 _ _ _ _)
      have f2 := HX7.out.frozen 2
      simp only [Act.put, List.setIfInBounds_toArray, List.set_cons_zero, List.set_cons_succ]
      refine WL.val (by kernel_rfl) (.pointer (some ⟨g, 2, none⟩)) (by go_simp) ?_
      simp only [Act.put, List.setIfInBounds_toArray, List.set_cons_zero, List.set_cons_succ]
      refine WL.cell (by kernel_rfl) (w7.setCell ⟨g, 2, none⟩ (.slice pa H.2.2.length pc)) (by go_simp) ?_
      have HX8 := Keep.mk (HX7.out.set 2 (.slice pa H.2.2.length pc))
      rw [nd_set2] at HX8
      have HI8 : Keep (InAt (w7.setCell ⟨g, 2, none⟩ (.slice pa H.2.2.length pc)) p s H.2.1 none) := ⟨HI7.out.blk.set_ne (blk_ne HI7.out.blk HX7.out (by decide)) _, HI7.out.le⟩
      have HZ8 := Keep.mk (HZ7.out.set_ne (b' := g) (j := 2) (by have := Hgn.out; omega) (.slice pa H.2.2.length pc))
      have Gs : Grown w7 (w7.setCell ⟨g, 2, none⟩ (.slice pa H.2.2.length pc)) fun k => k = g := Grown.setCell w7 g 2 _ fun _ => rfl
      have HG8 : Keep (Grown w (w7.setCell ⟨g, 2, none⟩ (.slice pa H.2.2.length pc)) fun k => k = p) := ⟨HG7.out.next Gs (fun k hk e => by have := Hgn.out; omega)⟩
      have HO8 := Keep.mk (HO7.out.grown Gs (fun k hk e => HO7.out.ne HX7.out (by decide) (e ▸ hk)))
      generalize w7.setCell ⟨g, 2, none⟩ (.slice pa H.2.2.length pc) = w8 at *
      clear c2 f2 Gs
      simp only [Act.put]
      refine WL.nil ?_
      refine hK9 _ _ ?_
      refine wp_seq_k fun K10 hK10 => ?_
      refine wp_region_list (WL.out ?_)
      refine WL.val (by kernel_rfl) (.pointer (some ⟨p, 0, none⟩)) (by go_simp) ?_
      simp only [Act.put, List.setIfInBounds_toArray, List.set_cons_zero, List.set_cons_succ]
      refine WL.callF (by kernel_rfl) 88 _ _ rfl Tryz.in88 #[ptr p] (by simp [Act.eval]) ?_
      refine (get_any p s H.2.1 w8 HI8.out Hb.out).mono ?_
      rintro e w9 ⟨vo, er, rfl, h3, h4⟩
      refine ⟨_, rfl, ?_⟩
      have HZ9 := Keep.mk (h3.blk HZ8.out (blk_ne HZ8.out HI8.out.blk (by decide)))
      have HX9 := Keep.mk (h3.blk HX8.out (blk_ne HX8.out HI8.out.blk (by decide)))
      have HG9 := Keep.mk (HG8.out.trans h3)
      have HO9 := Keep.mk (HO8.out.grown h3 (fun k hk e => HO8.out.ne HI8.out.blk (by decide) (e ▸ hk)))
      have H4 := Keep.mk h4
      clear h3 h4
      generalize getL (lst s) H.2.1 = G at *
      simp only [Act.put, List.setIfInBounds_toArray, List.set_cons_zero, List.set_cons_succ]
      by_cases hGe : G.1 = 0
      · rcases H4.out with ⟨e1, rfl, h5, h6, h7, h8, h9⟩ | ⟨e1, _⟩
        rotate_left
        · exact absurd hGe e1
        have HI9 : Keep (InAt w9 p s G.2.1 none) := ⟨h7⟩
        have HQ9 := Keep.mk h5
        have HQn : Keep (∀ k, vo.ownBlock = some k → w.heap.size ≤ k) := ⟨fun k hk => Nat.le_trans HG8.out.size (h6 k hk)⟩
        have Hok := Keep.mk h8
        have Hol := Keep.mk h9
        clear h5 h6 h7 h8 h9 e1
        obtain ⟨qa, qc, rfl⟩ := HQ9.out.sl
        have c3 := HX9.out.c 3 (nd_3 _ _ _ _)
        have f3 := HX9.out.frozen 3
        refine WL.val (by kernel_rfl) (.slice qa G.2.2.length qc) (by go_simp) ?_
        simp only [Act.put, List.setIfInBounds_toArray, List.set_cons_zero, List.set_cons_succ]
        refine WL.val (by kernel_rfl) (.nilIface) (by go_simp) ?_
        simp only [Act.put, List.setIfInBounds_toArray, List.set_cons_zero, List.set_cons_succ]
        refine WL.callF (by kernel_rfl) 87 _ _ rfl Tryz.in87 #[.slice qa G.2.2.length qc, .nilIface] (by simp [Act.eval]) ?_
        refine (must52_ok _ w9).mono ?_
        rintro e wz ⟨rfl, hw0⟩
        rw [hw0]
        clear hw0 wz
        refine ⟨_, rfl, ?_⟩
        simp only [Act.put, List.setIfInBounds_toArray, List.set_cons_zero, List.set_cons_succ]
        refine WL.val (by kernel_rfl) (.pointer (some ⟨g, 3, none⟩)) (by go_simp) ?_
        simp only [Act.put, List.setIfInBounds_toArray, List.set_cons_zero, List.set_cons_succ]
        refine WL.cell (by kernel_rfl) (w9.setCell ⟨g, 3, none⟩ (.slice qa G.2.2.length qc)) (by go_simp) ?_
        have HX10 := Keep.mk (HX9.out.set 3 (.slice qa G.2.2.length qc))
        rw [nd_set3] at HX10
        have HI10 : Keep (InAt (w9.setCell ⟨g, 3, none⟩ (.slice qa G.2.2.length qc)) p s G.2.1 none) := ⟨HI9.out.blk.set_ne (blk_ne HI9.out.blk HX9.out (by decide)) _, HI9.out.le⟩
        have HZ10 := Keep.mk (HZ9.out.set_ne (b' := g) (j := 3) (by have := Hgn.out; omega) (.slice qa G.2.2.length qc))
        have Gs : Grown w9 (w9.setCell ⟨g, 3, none⟩ (.slice qa G.2.2.length qc)) fun k => k = g := Grown.setCell w9 g 3 _ fun _ => rfl
        have HG10 : Keep (Grown w (w9.setCell ⟨g, 3, none⟩ (.slice qa G.2.2.length qc)) fun k => k = p) := ⟨HG9.out.next Gs (fun k hk e => by have := Hgn.out; omega)⟩
        have HO10 := Keep.mk (HO9.out.grown Gs (fun k hk e => HO9.out.ne HX9.out (by decide) (e ▸ hk)))
        have HQ10 := Keep.mk (HQ9.out.grown Gs (fun k hk e => HQ9.out.ne HX9.out (by decide) (e ▸ hk)))
        generalize w9.setCell ⟨g, 3, none⟩ (.slice qa G.2.2.length qc) = w10 at *
        clear c3 f3 Gs
        simp only [Act.put]
        refine WL.nil ?_
        refine hK10 _ _ ?_
        refine wp_seq_k fun K11 hK11 => ?_
        refine wp_seq_k fun K12 hK12 => ?_
        refine wp_region_list (WL.out ?_)
        refine WL.val (by kernel_rfl) (.pointer (some ⟨p, 0, none⟩)) (by go_simp) ?_
        simp only [Act.put, List.setIfInBounds_toArray, List.set_cons_zero, List.set_cons_succ]
        refine WL.callF (by kernel_rfl) 48 _ _ rfl Tryz.in48 #[ptr p] (by simp [Act.eval]) ?_
        refine (iend_good p s G.2.1 w10 HI10.out Hb.out).mono ?_
        rintro e w11 (⟨e1, rfl, hb11⟩ | ⟨e1, q, hq, rfl, hbad, hgr⟩)
        · refine ⟨_, rfl, ?_⟩
          simp only [Act.put, List.setIfInBounds_toArray, List.set_cons_zero, List.set_cons_succ]
          have B11 := Keep.mk hb11
          have He := Keep.mk e1
          clear hb11 e1
          have HX11 := Keep.mk (HX10.out.below B11.out HX10.out.lt)
          have HZ11 := Keep.mk (HZ10.out.below B11.out HZ10.out.lt)
          refine WL.val (by kernel_rfl) (.nilIface) (by go_simp) ?_
          simp only [Act.put, List.setIfInBounds_toArray, List.set_cons_zero, List.set_cons_succ]
          refine WL.nil ?_
          refine hK12 _ _ ?_
          refine wp_seq_k fun K13 hK13 => ?_
          refine wp_region_list (WL.out ?_)
          refine WL.val (by kernel_rfl) (.nilIface) (by go_simp) ?_
          simp only [Act.put, List.setIfInBounds_toArray, List.set_cons_zero, List.set_cons_succ]
          refine WL.val (by kernel_rfl) (.bool false) (by go_simp) ?_
          simp only [Act.put, List.setIfInBounds_toArray, List.set_cons_zero, List.set_cons_succ]
          refine WL.nil ?_
          refine hK13 _ _ ?_
          refine wp_cond_false rfl ?_
          refine wp_skip ?_
          refine hK11 _ _ ?_
          refine wp_seq_k fun K14 hK14 => ?_
          refine wp_region_list (WL.out ?_)
          refine WL.row (by kernel_rfl) 53 (.tmp 3) rfl g rfl 53 (ndA au ck (.slice pa H.2.2.length pc) (.slice qa G.2.2.length qc)) _ HX11.out Tryz.underlying53 rfl (Tryz.size53B _ _ _ _) ?_
          simp only [Act.put, List.setIfInBounds_toArray, List.set_cons_zero, List.set_cons_succ]
          refine WL.storeR (by kernel_rfl) 53 (.tmp 2) (.tmp 46) rfl w.heap.size (ndA au ck (.slice pa H.2.2.length pc) (.slice qa G.2.2.length qc)) rfl rfl 53 (ndA 0 0 noS noS) HZ11.out (Tryz.size53B _ _ _ _) rfl (nd_one _ _ _ _ _ _ _ _) ?_
          have HZ12 := Keep.mk (HZ11.out.setRow (ndA au ck (.slice pa H.2.2.length pc) (.slice qa G.2.2.length qc)))
          have Gs : Grown w11 (w11.setRow w.heap.size (ndA au ck (.slice pa H.2.2.length pc) (.slice qa G.2.2.length qc))) fun k => k = w.heap.size := Grown.setRow w11 w.heap.size _ fun _ => rfl
          have HG12 : Keep (Grown w (w11.setRow w.heap.size (ndA au ck (.slice pa H.2.2.length pc) (.slice qa G.2.2.length qc))) fun k => k = p) := ⟨(HG10.out.trans (Grown.below B11.out)).next Gs (fun k hk e => by omega)⟩
          have HO12 := Keep.mk ((HO10.out.below B11.out).grown Gs (fun k hk e => (HO10.out.below B11.out).ne HZ11.out (by decide) (e ▸ hk)))
          have HQ12 := Keep.mk ((HQ10.out.below B11.out).grown Gs (fun k hk e => (HQ10.out.below B11.out).ne HZ11.out (by decide) (e ▸ hk)))
          generalize w11.setRow w.heap.size (ndA au ck (.slice pa H.2.2.length pc) (.slice qa G.2.2.length qc)) = w12 at *
          clear Gs
          simp only [Act.put]
          refine WL.nil ?_
          refine hK14 _ _ ?_
          refine wp_ret ?_
          try simp only [Exit.then]
          refine bodyPost_ret (v := .agg (ndA au ck (.slice pa H.2.2.length pc) (.slice qa G.2.2.length qc))) (results_cell_row Tryz.results56 _ _ w.heap.size 53 _ (0, 0) _ rfl HZ12.out Tryz.underlying53 rfl (Tryz.size53B _ _ _ _)) rfl ?_
          have hR9 := D9'.out HE1.out HE2.out HE3.out hE (by rw [← HCk.out]; exact hF) HE4.out hGe (by rw [lst_len, He.out]; exact Nat.lt_irrefl _)
          rw [← HAu.out, ← HCk.out] at hR9
          rw [hR9]
          exact .inl ⟨rfl, _, _, rfl, HO12.out, HQ12.out, HOn7.out, HQn.out, Hok.out, Hol.out, HG12.out⟩
        · refine ⟨_, rfl, ?_⟩
          unfold err
          simp only [Act.put, List.setIfInBounds_toArray, List.set_cons_zero, List.set_cons_succ]
          have Hbad := Keep.mk hbad
          have Hgr := Keep.mk (HG10.out.trans hgr)
          have Hq := Keep.mk (Nat.le_trans HG10.out.size hq)
          have He := Keep.mk e1
          clear hbad hgr hq e1
          refine WL.val (by kernel_rfl) (.iface 121 (ptr q)) (by go_simp) ?_
          simp only [Act.put, List.setIfInBounds_toArray, List.set_cons_zero, List.set_cons_succ]
          refine WL.nil ?_
          refine hK12 _ _ ?_
          refine wp_seq_k fun K15 hK15 => ?_
          refine wp_region_list (WL.out ?_)
          refine WL.val (by kernel_rfl) (.iface 121 (ptr q)) (by go_simp) ?_
          simp only [Act.put, List.setIfInBounds_toArray, List.set_cons_zero, List.set_cons_succ]
          refine WL.val (by kernel_rfl) (.bool true) (by go_simp) ?_
          simp only [Act.put, List.setIfInBounds_toArray, List.set_cons_zero, List.set_cons_succ]
          refine WL.nil ?_
          refine hK15 _ _ ?_
          refine wp_cond_true rfl ?_
          refine wp_region_list (WL.out ?_)
          refine WL.val (by kernel_rfl) (.iface 121 (ptr q)) (by go_simp) ?_
          simp only [Act.put, List.setIfInBounds_toArray, List.set_cons_zero, List.set_cons_succ]
          refine WL.callP (by kernel_rfl) 29 _ _ rfl Tryz.in29 #[err q] (by simp [Act.eval, err]) ?_
          refine (giveUp_any q w11).mono ?_
          rintro e w' ⟨rfl, rfl⟩
          refine .inr ⟨_, rfl, ?_⟩
          try simp only [Exit.inBlock, Exit.then]
          refine ⟨rfl, ?_⟩
          have hR8 := D8'.out HE1.out HE2.out HE3.out hE (by rw [← HCk.out]; exact hF) HE4.out hGe (by rw [lst_len]; exact He.out)
          rw [hR8]
          exact .inr ⟨(by decide : (23 : Int) ≠ 0), q, Hq.out, rfl, Hbad.out, Hgr.out⟩
      · rcases H4.out with ⟨e1, _⟩ | ⟨_, rfl, q, hq, rfl, hbad⟩
        · exact absurd e1 hGe
        have Hbad := Keep.mk hbad
        clear hbad
        unfold err
        refine WL.val (by kernel_rfl) (.slice none 0 0) (by go_simp) ?_
        simp only [Act.put, List.setIfInBounds_toArray, List.set_cons_zero, List.set_cons_succ]
        refine WL.val (by kernel_rfl) (.iface 121 (ptr q)) (by go_simp) ?_
        simp only [Act.put, List.setIfInBounds_toArray, List.set_cons_zero, List.set_cons_succ]
        refine WL.callP (by kernel_rfl) 87 _ _ rfl Tryz.in87 #[.slice none 0 0, err q] (by simp [Act.eval, err]) ?_
        refine (must52_bad _ q w9).mono ?_
        rintro e w' ⟨rfl, rfl⟩
        refine .inr ⟨_, rfl, ?_⟩
        try simp only [Exit.inBlock, Exit.then]
        refine ⟨rfl, ?_⟩
        exact .inr ⟨by rw [D7'.out HE1.out HE2.out HE3.out hE (by rw [← HCk.out]; exact hF) HE4.out hGe]; exact hGe, q, Nat.le_trans HG8.out.size hq, rfl, by rw [D7'.out HE1.out HE2.out HE3.out hE (by rw [← HCk.out]; exact hF) HE4.out hGe]; exact Hbad.out, HG9.out⟩
    · have hcf := clockFits_is ck (n : Int) w6 _ hF
      refine wp_region_list (WL.out ?_)
      refine WL.val (by kernel_rfl) (.pointer (some ⟨g, 1, none⟩)) (by go_simp) ?_
      simp only [Act.put, List.setIfInBounds_toArray, List.set_cons_zero, List.set_cons_succ]
      refine WL.val (by kernel_rfl) (.int .i64 ck) (by go_simp) ?_
      simp only [Act.put, List.setIfInBounds_toArray, List.set_cons_zero, List.set_cons_succ]
      refine WL.val (by kernel_rfl) (.int .i64 (n : Int)) (by go_simp) ?_
      simp only [Act.put, List.setIfInBounds_toArray, List.set_cons_zero, List.set_cons_succ]
      refine WL.callF (by kernel_rfl) 85 _ _ rfl Tryz.in85 #[.int .i64 ck, .int .i64 (n : Int)] (by simp [Act.eval]) ?_
      refine (hcf).mono ?_
      rintro e wz ⟨rfl, hw0⟩
      rw [hw0]
      clear hw0 wz
      refine ⟨_, rfl, ?_⟩
      simp only [Act.put, List.setIfInBounds_toArray, List.set_cons_zero, List.set_cons_succ]
      refine WL.val (by kernel_rfl) (.bool true) (by go_simp) ?_
      simp only [Act.put, List.setIfInBounds_toArray, List.set_cons_zero, List.set_cons_succ]
      refine WL.nil ?_
      refine hK8 _ _ ?_
      refine wp_cond_true rfl ?_
      refine wp_region_list (WL.out ?_)
      refine WL.val (by kernel_rfl) (.int .i64 ((2 : Nat) : Int)) (by go_simp) ?_
      simp only [Act.put, List.setIfInBounds_toArray, List.set_cons_zero, List.set_cons_succ]
      refine WL.callP (by kernel_rfl) 53 _ _ rfl Tryz.in53 #[.int .i64 51, .int .i64 ((2 : Nat) : Int)] (by simp [Act.eval]) ?_
      refine (at_any 51 (2 : Nat) w6).mono ?_
      rintro e wz ⟨rfl, hbz, hwz⟩
      have HBd : Keep (BadAt wz w6.heap.size 51 (2 : Nat)) := ⟨hbz⟩
      have HGd : Keep (Grown w wz fun k => k = p) := ⟨HG6.out.trans (Grown.below hwz)⟩
      clear hbz hwz
      refine .inr ⟨_, rfl, ?_⟩
      try simp only [Exit.inBlock, Exit.then]
      refine ⟨rfl, ?_⟩
      exact .inr ⟨by rw [D5'.out HE1.out HE2.out HE3.out hE (by rw [← HCk.out]; exact hF)]; exact (by decide : (51 : Int) ≠ 0), w6.heap.size, HG6.out.size, rfl, by rw [D5'.out HE1.out HE2.out HE3.out hE (by rw [← HCk.out]; exact hF)]; exact HBd.out, HGd.out⟩
  · rcases H3.out with ⟨e1, _, _⟩ | ⟨_, q, hq, rfl, rfl, hbad⟩
    · exact absurd e1 hE
    have Hbad := Keep.mk hbad
    clear hbad
    unfold err
    refine WL.val (by kernel_rfl) (.int .u64 cn) (by go_simp) ?_
    simp only [Act.put, List.setIfInBounds_toArray, List.set_cons_zero, List.set_cons_succ]
    refine WL.val (by kernel_rfl) (.iface 121 (ptr q)) (by go_simp) ?_
    simp only [Act.put, List.setIfInBounds_toArray, List.set_cons_zero, List.set_cons_succ]
    refine WL.callP (by kernel_rfl) 44 _ _ rfl Tryz.in44 #[.int .u64 cn, err q] (by simp [Act.eval, err]) ?_
    refine (must47_bad _ q w6).mono ?_
    rintro e w' ⟨rfl, rfl⟩
    refine .inr ⟨_, rfl, ?_⟩
    try simp only [Exit.inBlock, Exit.then]
    refine ⟨rfl, ?_⟩
    exact .inr ⟨by rw [D4'.out HE1.out HE2.out HE3.out hE]; exact hE, q, Nat.le_trans HG5.out.size hq, rfl, by rw [D4'.out HE1.out HE2.out HE3.out hE]; exact Hbad.out, HG6.out⟩
end Go.Proofs.YtdkhjeofjhcceaaGreatDoor.Nd
