import Derived.Test.YtgpgnldcdimmbaaR01
import Derived.Test.YtgpgnldcdimmbaaR02
import Derived.Test.YtgpgnldcdimmbaaR04
import Derived.Test.YtgpgnldcdimmbaaR06
import Derived.ChangeKeysEq
import Derived.Sort.Grow
import Derived.Deep.Draws
import Derived.Deep.QuietTactic
import Derived.BigQuiet
import Derived.Deep.MidRow
import Derived.Deep.RegionHeld3
namespace Go.Proofs.Ytgpgnldcdimmbaa.Sh
open Go.RowKit Go.Sort

theorem Try.cells5q : Try.prog.cellsOf 5 = 1 := by kernel_rfl
theorem Try.isAgg5q (w : World) : (isAgg 5).run Try.prog w = .ok false w := by kernel_rfl
theorem Try.size5q : (Try.prog.info? 5).map (·.size) = some 1 := by kernel_rfl
theorem run_part5q (c : Nat → Int) (i : Nat) (hi : i < 32) (w : World) : (part 5 (bytesA 32 c) i).run Try.prog w = .ok (.int .u8 (c i)) w := by
  unfold part
  rw [Sem.run_bind, Try.isAgg5q]
  simp [Result.andThen, bytesA_get 32 c i hi]
theorem run_items2 (c e : Nat → Int) (d : Nat) (w : World) : ∀ is : List Nat, (∀ i ∈ is, i < 32) → (Op.eqItems (d + 1) 5 1 (bytesA 32 c) (bytesA 32 e) is).run Try.prog w = .ok (is.all fun i => c i == e i) w
  | [], _ => by simp [Op.eqItems]
  | i :: is, h => by
    have hi := h i (by simp)
    have ih := run_items2 c e d w is (fun j hj => h j (by simp [hj]))
    simp only [Op.eqItems, Sem.run_bind, Nat.mul_one, run_part5q c i hi, run_part5q e i hi, Result.andThen_ok]
    rw [run_equalIn_int (P := Try.prog) (w := w) d 5 .u8 .u8 (c i) (e i) Try.underlying5]
    by_cases hh : c i = e i
    · simp [Result.andThen_ok, ih, hh]
    · simp [Result.andThen_ok, hh]
theorem run_equal_arr2 (c e : Nat → Int) (w : World) : (Op.equalIn 10000 40 (.agg (bytesA 32 c)) (.agg (bytesA 32 e))).run Try.prog w = .ok ((List.range 32).all fun i => c i == e i) w := by
  obtain ⟨i, hi, _⟩ := Option.map_eq_some_iff.1 Try.size5q
  rw [run_equalIn_array (P := Try.prog) w 9999 _ _ Try.underlying40 hi, Try.cells5q]
  exact run_items2 c e 9998 w _ (fun j hj => List.mem_range.1 hj)
theorem all_eq_iff (x y : Hs) : ((List.range 32).all fun i => x.f i == y.f i) = decide (x = y) := by
  by_cases h : x = y
  · subst h; simp
  · rw [decide_eq_false h, Bool.eq_false_iff]
    intro h2
    refine h (Hs.ext' fun i hi => ?_)
    have := List.all_eq_true.1 h2 i (List.mem_range.2 hi)
    simpa using this
theorem run_eqlH (x y : Hs) (w : World) : (binOp .eql 40 (.agg (bytesA 32 x.f)) (.agg (bytesA 32 y.f))).run Try.prog w = .ok (.bool (decide (x = y))) w := by
  rw [run_eql_struct, run_equal_arr2, all_eq_iff]; rfl
theorem run_neqH (x y : Hs) (w : World) : (binOp .neq 40 (.agg (bytesA 32 x.f)) (.agg (bytesA 32 y.f))).run Try.prog w = .ok (.bool (!decide (x = y))) w := by
  rw [run_neq_struct, run_equal_arr2, all_eq_iff]; rfl

theorem grown_below (w : World) (q : Nat) (os : Array Obj) : Below w.heap.size w (grow (w.drewN q) os) where
  os := rfl
  tape := rfl
  output := rfl
  size := by simp [grow]
  block i hi := by simp [grow, Array.getElem?_append, hi]

theorem drewN_grown {w w0 : World} (h : ∃ os, w0 = grow w os) (k : Nat) : ∃ q os, w0.drewN k = grow (w.drewN q) os := by
  obtain ⟨os, rfl⟩ := h
  exact ⟨k, os, rfl⟩

set_option maxRecDepth 8000 in
set_option maxHeartbeats 400000 in
theorem cmpByte_any (a b : Int) (w : World) : Calls Try.prog 98 #[.int .u8 a, .int .u8 b] w fun e w' => e = .returned (.int .i64 (if a < b then -1 else if b < a then 1 else 0)) ∧ ∃ q, w' = w.drewN q := by
  have h52 : ∀ (z : Int) (w : World), Calls Try.prog 119 #[.int .u8 z] w fun e w' => e = .returned (.bool false) ∧ ∃ q, w' = w.drewN q := by
    intro z w
    go_enter Try.func119, Try.ntmps119
    go_wp2
    first
      | (go_quiet (fail); go_wp2; go_ret; exact ⟨rfl, nq, rfl⟩)
      | (go_ret; exact ⟨rfl, 0, rfl⟩)
  have walk : ∀ r : Int, (a < b ∧ r = -1) ∨ (¬ a < b ∧ b < a ∧ r = 1) ∨ (¬ a < b ∧ ¬ b < a ∧ r = 0) → Calls Try.prog 98 #[.int .u8 a, .int .u8 b] w fun e w' => e = .returned (.int .i64 r) ∧ ∃ q, w' = w.drewN q := by
    intro r hr
    have HR : Keep ((a < b ∧ r = -1) ∨ (¬ a < b ∧ b < a ∧ r = 1) ∨ (¬ a < b ∧ ¬ b < a ∧ r = 0)) := ⟨hr⟩
    clear hr
    go_enter Try.func98, Try.ntmps98
    go_wp2_with fail
    refine (h52 a w).mono ?_
    rintro e w1 ⟨rfl, q1, rfl⟩
    go_wp2_with fail
    refine (h52 b _).mono ?_
    rintro e w2 ⟨rfl, q2, rfl⟩
    rw [World.drewN_drewN]
    rcases HR.out with ⟨h1, rfl⟩ | ⟨h1, h2, rfl⟩ | ⟨h1, h2, rfl⟩
    · go_wp2
      go_ret
      exact ⟨rfl, _, rfl⟩
    · go_wp2
      go_ret
      exact ⟨rfl, _, rfl⟩
    · go_wp2
      go_ret
      exact ⟨rfl, _, rfl⟩
  refine walk _ ?_
  by_cases h1 : a < b
  · exact .inl ⟨h1, if_pos h1⟩
  · by_cases h2 : b < a
    · exact .inr (.inl ⟨h1, h2, by rw [if_neg h1, if_pos h2]⟩)
    · exact .inr (.inr ⟨h1, h2, by rw [if_neg h1, if_neg h2]⟩)

theorem cell_arr {w : World} {b : Nat} {c : Nat → Int} (h : Blk w b 40 (bytesA 32 c)) (t : Nat) (ht : t < 32) : w.cell? ⟨b, t, none⟩ = some (.int .u8 (c t)) := by
  rw [h.cell, bytesA_get _ _ _ ht]

set_option maxRecDepth 8000 in
set_option maxHeartbeats 400000 in
set_option maxRecDepth 20000 in
theorem compare_walk (A B : Array Value) (x y : Nat → Int) (E : Bool) (w : World) (hA : ∀ t, t < 32 → A[t]? = some (.int .u8 (x t))) (hB : ∀ t, t < 32 → B[t]? = some (.int .u8 (y t))) (hAs : A.size = 32) (hBs : B.size = 32)
    (heq : ∀ w, (binOp .eql 40 (.agg A) (.agg B)).run Try.prog w = .ok (.bool E) w) (hE1 : E = true → cmpG x y 32 0 = 0) (hE2 : E = false → ∃ t, t < 32 ∧ x t ≠ y t) :
    Calls Try.prog 76 #[.agg A, .agg B] w fun e w' => e = .returned (.int .i64 (cmpG x y 32 0)) ∧ ∃ q os, w' = grow (w.drewN q) os := by
  have HA : Keep (∀ t, t < 32 → A[t]? = some (.int .u8 (x t))) := ⟨hA⟩
  have HB : Keep (∀ t, t < 32 → B[t]? = some (.int .u8 (y t))) := ⟨hB⟩
  obtain ⟨r, hr⟩ : ∃ r, Keep (r = cmpG x y 32 0) := ⟨_, ⟨rfl⟩⟩
  rw [← hr.out] at hE1 ⊢
  have H1 : Keep (E = true → r = 0) := ⟨hE1⟩
  have H2 : Keep (E = false → ∃ t, t < 32 ∧ x t ≠ y t) := ⟨hE2⟩
  have hi1 : (Try.prog.info? 40).map (·.size) = some A.size := by rw [hAs]; exact Try.size40
  have hi2 : (Try.prog.info? 40).map (·.size) = some B.size := by rw [hBs]; exact Try.size40
  clear hE1 hE2 hA hB
  have hA1 : (w.alloc (.cells A 40)).heap.size = w.heap.size + 1 := by simp
  have hX : Blk ((w.alloc (.cells A 40)).alloc (.cells B 40)) w.heap.size 40 A := (Blk.new w 40 _).alloc _
  have hY : Blk ((w.alloc (.cells A 40)).alloc (.cells B 40)) (w.heap.size + 1) 40 B := by rw [← hA1]; exact Blk.new _ 40 _
  have hG : (w.alloc (.cells A 40)).alloc (.cells B 40) = grow (w.drewN 0) #[.cells A 40, .cells B 40] := by
    rw [alloc_eq_grow, alloc_eq_grow, grow_grow]; rfl
  have HG : Keep (∃ os, (w.alloc (.cells A 40)).alloc (.cells B 40) = grow w os) := ⟨_, hG⟩
  clear hA1 hG
  go_enter Try.func76, Try.ntmps76
  go_wp2_with (first | (refine wpList_boxA rfl 40 (.tmp 0) rfl A rfl ?_; refine wpList_boxA rfl 40 (.tmp 1) rfl B rfl ?_) | (refine wpList_load_row rfl 40 (.tmp 2) rfl w.heap.size rfl 40 A (0, 0) (.array 32 5) hX Try.underlying40 rfl hi1 ?_; refine wpList_load_row rfl 40 (.tmp 3) rfl (w.heap.size + 1) rfl 40 B (0, 0) (.array 32 5) hY Try.underlying40 rfl hi2 ?_))
  · go_ret
    have := H1.out (by assumption)
    obtain ⟨os, hos⟩ := HG.out
    exact ⟨by rw [this]; rfl, 0, os, by rw [hos]; rfl⟩
  · have hE : E = false := by first | assumption | (cases E <;> simp_all)
    obtain ⟨d, hd, hne⟩ := H2.out hE
    have HN : Keep (x d ≠ y d) := ⟨hne⟩
    clear hne
    generalize (w.alloc (.cells A 40)).alloc (.cells B 40) = w0 at *
    generalize w.heap.size = p at *
    go_loopw [5] (fun i wr => ∃ t n : Nat, t ≤ d ∧ i = .int .i64 (t : Int) ∧ (∀ k, k < t → x k = y k) ∧ wr = w0.drewN n) (fun i _ => d - (intOf i).toNat)
    case atStart => exact ⟨0, 0, by omega, rfl, fun k hk => by omega, by rw [World.drewN_zero]⟩
    case round =>
      obtain ⟨t, n, ht, rfl, hke, rfl⟩ := hrel
      have HK : Keep (∀ k, k < t → x k = y k) := ⟨hke⟩
      clear hke
      have c1 : (w0.drewN n).cell? ⟨p, t, none⟩ = some (.int .u8 (x t)) := by rw [World.cell?_drewN, hX.cell]; exact HA.out t (by omega)
      have c2 : (w0.drewN n).cell? ⟨p + 1, t, none⟩ = some (.int .u8 (y t)) := by rw [World.cell?_drewN, hY.cell]; exact HB.out t (by omega)
      obtain ⟨a, ha⟩ : ∃ a, Keep (x t = a) := ⟨_, ⟨rfl⟩⟩
      obtain ⟨b, hb⟩ : ∃ b, Keep (y t = b) := ⟨_, ⟨rfl⟩⟩
      rw [ha.out] at c1
      rw [hb.out] at c2
      obtain ⟨wn, hwn⟩ : ∃ wn, Keep (w0.drewN n = wn) := ⟨_, ⟨rfl⟩⟩
      rw [hwn.out] at c1 c2 ⊢
      have ht32 : (t : Int) < 32 := by omega
      go_wp2
      go_quiet (fail)
      by_cases hab : a = b
      · have htd : t ≠ d := fun e => by subst e; exact HN.out (by rw [ha.out, hb.out, hab])
        go_wp2
        go_roundw
        case rel => exact ⟨t + 1, n + nq, by omega, by go_num, fun k hk => by
          rcases Nat.lt_or_eq_of_le (Nat.le_of_lt_succ hk) with h | h
          · exact HK.out k h
          · subst h; rw [ha.out, hb.out, hab], by rw [← hwn.out, World.drewN_drewN]⟩
        case measure => simp [intOf]; omega
      · have hra : Keep (r = (if a < b then -1 else if b < a then 1 else 0)) := ⟨by
          rw [hr.out, cmpG_at x y t 32 HK.out (by omega) (by rw [ha.out, hb.out]; exact hab), ha.out, hb.out]
          by_cases h1 : a < b
          · rw [if_pos h1, if_pos h1]
          · rw [if_neg h1, if_neg h1, if_pos (by omega)]⟩
        have hcb : ∀ w, Calls Try.prog 98 #[.int .u8 a, .int .u8 b] w fun e w' => e = .returned (.int .i64 r) ∧ ∃ q, w' = w.drewN q := fun w => by rw [hra.out]; exact cmpByte_any a b w
        have d1 : (wn.drewN nq).cell? ⟨p, t, none⟩ = some (.int .u8 a) := by rw [World.cell?_drewN]; exact c1
        have d2 : (wn.drewN nq).cell? ⟨p + 1, t, none⟩ = some (.int .u8 b) := by rw [World.cell?_drewN]; exact c2
        obtain ⟨wm, hwm⟩ : ∃ wm, Keep (wn.drewN nq = wm) := ⟨_, ⟨rfl⟩⟩
        go_wp2
        rw [hwm.out] at d1 d2 ⊢
        go_quiet (first | (go_at_call 98; refine Calls.quiet_of (hcb _)))
        go_wp2
        go_ret
        refine ⟨rfl, ?_⟩
        rw [← hwm.out, ← hwn.out, World.drewN_drewN, World.drewN_drewN]
        exact drewN_grown HG.out _

theorem compare_any (x y : Hs) (w : World) : Calls Try.prog 76 #[.agg (bytesA 32 x.f), .agg (bytesA 32 y.f)] w fun e w' => e = .returned (.int .i64 (cf x y)) ∧ ∃ q os, w' = grow (w.drewN q) os :=
  compare_walk (bytesA 32 x.f) (bytesA 32 y.f) x.f y.f (decide (x = y)) w (fun _ ht => bytesA_get _ _ _ ht) (fun _ ht => bytesA_get _ _ _ ht) (bytesA_size _ _) (bytesA_size _ _) (run_eqlH x y)
    (fun h => (cf_zero x y).2 (of_decide_eq_true h)) (fun h => Classical.byContradiction fun hc => of_decide_eq_false h (Hs.ext' fun i hi => Classical.byContradiction fun hn => hc ⟨i, hi, hn⟩))

set_option maxRecDepth 8000 in
set_option maxHeartbeats 400000 in
set_option maxRecDepth 20000 in
theorem refCompare_walk (A B : Array Value) (x y : Nat → Int) (w : World) (hA : ∀ t, t < 32 → A[t]? = some (.int .u8 (x t))) (hB : ∀ t, t < 32 → B[t]? = some (.int .u8 (y t))) :
    Calls Try.prog 31 #[.agg A, .agg B] w fun e w' => e = .returned (.int .i64 (cmpG x y 32 0)) ∧ ∃ q os, w' = grow (w.drewN q) os := by
  have HA : Keep (∀ t, t < 32 → A[t]? = some (.int .u8 (x t))) := ⟨hA⟩
  have HB : Keep (∀ t, t < 32 → B[t]? = some (.int .u8 (y t))) := ⟨hB⟩
  obtain ⟨r, hr⟩ : ∃ r, Keep (r = cmpG x y 32 0) := ⟨_, ⟨rfl⟩⟩
  rw [← hr.out]
  clear hA hB
  have hA1 : (w.alloc (.cells A 40)).heap.size = w.heap.size + 1 := by simp
  have hX : Blk ((w.alloc (.cells A 40)).alloc (.cells B 40)) w.heap.size 40 A := (Blk.new w 40 _).alloc _
  have hY : Blk ((w.alloc (.cells A 40)).alloc (.cells B 40)) (w.heap.size + 1) 40 B := by rw [← hA1]; exact Blk.new _ 40 _
  have hG : (w.alloc (.cells A 40)).alloc (.cells B 40) = grow (w.drewN 0) #[.cells A 40, .cells B 40] := by
    rw [alloc_eq_grow, alloc_eq_grow, grow_grow]; rfl
  have HG : Keep (∃ os, (w.alloc (.cells A 40)).alloc (.cells B 40) = grow w os) := ⟨_, hG⟩
  clear hA1 hG
  go_enter Try.func31, Try.ntmps31
  go_wp2_with (first | (refine wpList_boxA rfl 40 (.tmp 0) rfl A rfl ?_; refine wpList_boxA rfl 40 (.tmp 1) rfl B rfl ?_))
  generalize (w.alloc (.cells A 40)).alloc (.cells B 40) = w0 at *
  generalize w.heap.size = p at *
  go_loopw [5] (fun i wr => ∃ t n : Nat, t ≤ 32 ∧ i = .int .i64 (t : Int) ∧ (∀ k, k < t → x k = y k) ∧ wr = w0.drewN n) (fun i _ => 32 - (intOf i).toNat)
  case atStart => exact ⟨0, 0, by omega, rfl, fun k hk => by omega, by rw [World.drewN_zero]⟩
  case round =>
    obtain ⟨t, n, ht, rfl, hke, rfl⟩ := hrel
    have HK : Keep (∀ k, k < t → x k = y k) := ⟨hke⟩
    clear hke
    by_cases hlt : t < 32
    · have c1 : (w0.drewN n).cell? ⟨p, t, none⟩ = some (.int .u8 (x t)) := by rw [World.cell?_drewN, hX.cell]; exact HA.out t (by omega)
      have c2 : (w0.drewN n).cell? ⟨p + 1, t, none⟩ = some (.int .u8 (y t)) := by rw [World.cell?_drewN, hY.cell]; exact HB.out t (by omega)
      obtain ⟨a, ha⟩ : ∃ a, Keep (x t = a) := ⟨_, ⟨rfl⟩⟩
      obtain ⟨b, hb⟩ : ∃ b, Keep (y t = b) := ⟨_, ⟨rfl⟩⟩
      rw [ha.out] at c1
      rw [hb.out] at c2
      obtain ⟨wn, hwn⟩ : ∃ wn, Keep (w0.drewN n = wn) := ⟨_, ⟨rfl⟩⟩
      rw [hwn.out] at c1 c2 ⊢
      have ht32 : (t : Int) < 32 := by omega
      go_wp2
      go_quiet (fail)
      have HR : Keep (a ≠ b → r = if a < b then -1 else 1) := ⟨fun h => by
        rw [hr.out, cmpG_at x y t 32 HK.out (by omega) (by rw [ha.out, hb.out]; exact h), ha.out, hb.out]⟩
      have d1 : (wn.drewN nq).cell? ⟨p, t, none⟩ = some (.int .u8 a) := by rw [World.cell?_drewN]; exact c1
      have d2 : (wn.drewN nq).cell? ⟨p + 1, t, none⟩ = some (.int .u8 b) := by rw [World.cell?_drewN]; exact c2
      obtain ⟨wm, hwm⟩ : ∃ wm, Keep (wn.drewN nq = wm) := ⟨_, ⟨rfl⟩⟩
      have HD : Keep (∃ k, wm = w0.drewN k) := ⟨_, by rw [← hwm.out, ← hwn.out, World.drewN_drewN]⟩
      rw [hwm.out] at d1 d2
      by_cases h1 : a < b
      · go_wp2
        go_ret
        obtain ⟨os, hos⟩ := HG.out
        refine ⟨by rw [HR.out (by omega), if_pos (by omega)]; rfl, n + nq, os, ?_⟩
        rw [← hwn.out, hos, World.drewN_drewN]
        rfl
      · go_wp2
        rw [hwm.out]
        go_quiet (fail)
        by_cases h2 : b < a
        · go_wp2
          go_ret
          obtain ⟨k, hk⟩ := HD.out
          refine ⟨by rw [HR.out (by omega), if_neg (by omega)]; rfl, ?_⟩
          rw [hk, World.drewN_drewN]
          exact drewN_grown HG.out _
        · have hab : a = b := by omega
          go_wp2
          go_roundw
          case rel =>
            obtain ⟨k, hk⟩ := HD.out
            exact ⟨t + 1, _, by omega, by go_num, fun k hk => by
              rcases Nat.lt_or_eq_of_le (Nat.le_of_lt_succ hk) with h | h
              · exact HK.out k h
              · subst h; rw [ha.out, hb.out, hab], by rw [hk, World.drewN_drewN]⟩
          case measure => simp [intOf]; omega
    · obtain rfl : t = 32 := by omega
      go_wp2
      go_ret
      obtain ⟨os, hos⟩ := HG.out
      exact ⟨by rw [hr.out, (cmpG_zero x y 32 0).2 fun k _ hk => HK.out k (by omega)]; rfl, n, os, by rw [hos]; rfl⟩

theorem refCompare_any (x y : Hs) (w : World) : Calls Try.prog 31 #[.agg (bytesA 32 x.f), .agg (bytesA 32 y.f)] w fun e w' => e = .returned (.int .i64 (cf x y)) ∧ ∃ q os, w' = grow (w.drewN q) os :=
  refCompare_walk (bytesA 32 x.f) (bytesA 32 y.f) x.f y.f w (fun _ ht => bytesA_get _ _ _ ht) (fun _ ht => bytesA_get _ _ _ ht)
end Go.Proofs.Ytgpgnldcdimmbaa.Sh
namespace Go.Proofs.Ytgpgnldcdimmbaa.Sh
open Go.RowKit Go.Sort

theorem cell_ltH {w : World} {h j : Nat} {v : Value} (hc : w.cell? ⟨h, j, none⟩ = some v) : h < w.heap.size := by
  apply Nat.lt_of_not_le; intro hle
  simp [World.cell?, Array.getElem?_eq_none hle] at hc
def encH (h : Hs) : List Value := (bytesA 32 h.f).toList
theorem encH_len (h : Hs) : (encH h).length = 32 := by rw [encH, Array.length_toList, bytesA_size]
theorem encH_get (h : Hs) (j : Nat) (hj : j < 32) : (encH h)[j]? = some (.int .u8 (h.f j)) := by rw [encH, Array.getElem?_toList, bytesA_get _ _ _ hj]
theorem encH_one (h : Hs) (v : Value) (hv : v ∈ encH h) : v.oneCell' = true := by
  have := Array.all_eq_true'.1 (bytesA_one 32 h.f) v (by unfold encH at hv; exact Array.mem_toList_iff.1 hv)
  simpa using this
theorem encH_arr (h : Hs) : (encH h).toArray = bytesA 32 h.f := by rw [encH, Array.toArray_toList]
def flatH (L : List Hs) : List Value := L.flatMap encH
theorem flatH_nil : flatH [] = [] := rfl
theorem flatH_cons (x : Hs) (L : List Hs) : flatH (x :: L) = encH x ++ flatH L := rfl
theorem flatH_app (L M : List Hs) : flatH (L ++ M) = flatH L ++ flatH M := by simp [flatH]
theorem flatH_len : ∀ L : List Hs, (flatH L).length = L.length * 32
  | [] => rfl
  | x :: L => by rw [flatH_cons, List.length_append, encH_len, flatH_len L, List.length_cons]; omega
theorem flatH_get : ∀ (L : List Hs) (i : Nat) (hi : i < L.length) (j : Nat), j < 32 → (flatH L)[i * 32 + j]? = (encH L[i])[j]?
  | x :: L, 0, _, j, hj => by rw [flatH_cons, List.getElem?_append_left (by rw [encH_len]; omega)]; simp
  | x :: L, i + 1, hi, j, hj => by
    rw [flatH_cons, List.getElem?_append_right (by rw [encH_len]; omega), encH_len, show (i + 1) * 32 + j - 32 = i * 32 + j by omega]
    simpa using flatH_get L i (by simpa using hi) j hj
theorem flatH_one (L : List Hs) (v : Value) (hv : v ∈ flatH L) : v.oneCell' = true := by
  obtain ⟨x, _, hx⟩ := List.mem_flatMap.1 hv
  exact encH_one x v hx

def HRow (w : World) (v : Value) (L : List Hs) : Prop :=
  (∃ a c, v = .slice a 0 c ∧ L = [] ∧ (a = none → c = 0)) ∨ ∃ b off cap, v = .slice (some ⟨b, off, none⟩) L.length cap ∧ L.length ≤ cap ∧ w.rangeAt b off (flatH L)
theorem rangeAt_elem {w : World} {b off : Nat} {L : List Hs} (h : w.rangeAt b off (flatH L)) (i : Nat) (hi : i < L.length) : w.rangeAt b (off + i * 32) (encH L[i]) := by
  intro j v hv
  have hj : j < 32 := by
    have := (List.getElem?_eq_some_iff.1 hv).1
    rwa [encH_len] at this
  rw [Nat.add_assoc]
  exact h _ v (by rw [flatH_get L i hi j hj]; exact hv)
theorem HRow.form {w : World} {v : Value} {L : List Hs} (h : HRow w v L) : ∃ a c, v = .slice a L.length c := by
  rcases h with ⟨a, c, rfl, rfl, _⟩ | ⟨b, off, cap, rfl, _⟩
  · exact ⟨a, c, rfl⟩
  · exact ⟨_, cap, rfl⟩
theorem HRow.at {w : World} {a : Option Addr} {n c : Nat} {L : List Hs} (h : HRow w (.slice a n c) L) (hL : 0 < L.length) : ∃ b off, a = some ⟨b, off, none⟩ ∧ n = L.length ∧ L.length ≤ c ∧ w.rangeAt b off (flatH L) := by
  rcases h with ⟨_, _, _, rfl, _⟩ | ⟨b, off, cap, h1, h2, h3⟩
  · simp at hL
  · injection h1 with h1 h4 h5
    subst h1 h4 h5
    exact ⟨b, off, rfl, rfl, h2, h3⟩
theorem rangeAt_lt {w : World} {b off : Nat} {L : List Hs} (h : w.rangeAt b off (flatH L)) (hL : 0 < L.length) : b < w.heap.size := by
  have := h 0 (.int .u8 (L[0].f 0)) ((flatH_get L 0 hL 0 (by omega)).trans (encH_get _ _ (by omega)))
  exact cell_lt this
theorem rangeAt_below {w w' : World} {B b off : Nat} {cs : List Value} (h : w.rangeAt b off cs) (hb : Below B w w') (hlt : b < B) : w'.rangeAt b off cs := fun j v hv => by
  rw [hb.cell (p := ⟨b, off + j, none⟩) hlt]; exact h j v hv
theorem HRow.below {w w' : World} {v : Value} {L : List Hs} (h : HRow w v L) (hb : Below w.heap.size w w') : HRow w' v L := by
  rcases h with h | ⟨b, off, cap, h1, h2, h3⟩
  · exact .inl h
  · by_cases hL : 0 < L.length
    · exact .inr ⟨b, off, cap, h1, h2, rangeAt_below h3 hb (rangeAt_lt h3 hL)⟩
    · have : L = [] := List.eq_nil_of_length_eq_zero (by omega)
      subst this
      exact .inl ⟨_, _, h1, rfl, fun h => by cases h⟩
theorem HRow.of_owns {w : World} {base n : Nat} {v : Value} {L : List Hs} (h : w.ownsRow base 40 32 v n (flatH L)) : HRow w v L := by
  have hn : n = L.length := by have := h.1; rw [flatH_len] at this; omega
  subst hn
  rcases h.2 with ⟨rfl, h0⟩ | ⟨g, cap, cur, rfl, _, hg, hc, _, _, ht⟩
  · exact .inl ⟨none, 0, rfl, List.eq_nil_of_length_eq_zero h0, fun _ => rfl⟩
  · refine .inr ⟨g, 0, cap, rfl, hc, fun j v hv => ?_⟩
    rw [Nat.zero_add, cell_of_row w g j cur 40 (0, 0) hg]
    rw [← ht, List.getElem?_take] at hv
    split at hv
    · rwa [Array.getElem?_toList] at hv
    · cases hv
theorem Try.size40L (h : Hs) : (Try.prog.info? 40).map (·.size) = some (encH h).length := by rw [encH_len]; exact Try.size40

def same (L M : List Hs) : Bool := decide (L = M)
end Go.Proofs.Ytgpgnldcdimmbaa.Sh
namespace Go.Proofs.Ytgpgnldcdimmbaa.Sh
open Go.RowKit Go.Sort

theorem run_neqL (x y : Hs) (w : World) : (binOp .neq 40 (.agg (encH x).toArray) (.agg (encH y).toArray)).run Try.prog w = .ok (.bool (!decide (x = y))) w := by
  rw [encH_arr, encH_arr]; exact run_neqH x y w
theorem run_eqlL (x y : Hs) (w : World) : (binOp .eql 40 (.agg (encH x).toArray) (.agg (encH y).toArray)).run Try.prog w = .ok (.bool (decide (x = y))) w := by
  rw [encH_arr, encH_arr]; exact run_eqlH x y w
theorem rangeAt_drewN {w : World} {b o n : Nat} {cs : List Value} (h : w.rangeAt b o cs) : (w.drewN n).rangeAt b o cs := h
theorem rangeAt_drew {w : World} {b o : Nat} {cs : List Value} (h : w.rangeAt b o cs) : w.drew.rangeAt b o cs := h

set_option maxRecDepth 8000 in
set_option maxHeartbeats 1000000 in
theorem same_walk (n b1 o1 c1 b2 o2 c2 : Nat) (L M : List Hs) (w : World) (hL : L.length = n) (hM : M.length = n) (h1 : w.rangeAt b1 o1 (flatH L)) (h2 : w.rangeAt b2 o2 (flatH M)) (hn : (n : Int) ≤ 9223372036854775807) :
    Calls Try.prog 24 #[.slice (some ⟨b1, o1, none⟩) n c1, .slice (some ⟨b2, o2, none⟩) n c2] w fun e w' => e = .returned (.bool (decide (L = M))) ∧ ∃ q, w' = w.drewN q := by
  obtain ⟨R, hR⟩ : ∃ R, Keep (R = decide (L = M)) := ⟨_, ⟨rfl⟩⟩
  rw [← hR.out]
  have HL : Keep (L.length = n) := ⟨hL⟩
  have HM : Keep (M.length = n) := ⟨hM⟩
  have H1 : Keep (w.rangeAt b1 o1 (flatH L)) := ⟨h1⟩
  have H2 : Keep (w.rangeAt b2 o2 (flatH M)) := ⟨h2⟩
  have hu := Try.underlying40
  clear hL hM h1 h2
  go_enter Try.func24, Try.ntmps24
  go_wp2
  go_loopw [5] (fun i wr => ∃ t q : Nat, t ≤ n ∧ i = .int .i64 (t : Int) ∧ (∀ k, k < t → L[k]? = M[k]?) ∧ wr = w.drewN q) (fun i _ => n - (intOf i).toNat)
  case atStart => exact ⟨0, 0, by omega, rfl, fun k hk => by omega, by rw [World.drewN_zero]⟩
  case round =>
    obtain ⟨t, q, ht, rfl, hke, rfl⟩ := hrel
    have HK : Keep (∀ k, k < t → L[k]? = M[k]?) := ⟨hke⟩
    clear hke
    by_cases hlt : t < n
    · have l1 : t < L.length := by rw [HL.out]; exact hlt
      have l2 : t < M.length := by rw [HM.out]; exact hlt
      have hneq := run_neqL L[t] M[t]
      have cA : (w.drewN q).drew.rangeAt b1 (o1 + t * 32) (encH L[t]) := rangeAt_drew (rangeAt_drewN (rangeAt_elem H1.out t l1))
      have cB : (w.drewN q).drew.rangeAt b2 (o2 + t * 32) (encH M[t]) := rangeAt_drew (rangeAt_drewN (rangeAt_elem H2.out t l2))
      have hi1 := Try.size40L L[t]
      have hi2 := Try.size40L M[t]
      obtain ⟨E, hE⟩ : ∃ E, Keep (E = !decide (L[t] = M[t])) := ⟨_, ⟨rfl⟩⟩
      rw [← hE.out] at hneq
      have HE : Keep (E = false → L[t]? = M[t]?) := ⟨fun h => by
        have := hE.out; rw [h] at this
        rw [List.getElem?_eq_getElem l1, List.getElem?_eq_getElem l2]; simpa using this⟩
      have HF : Keep (E = true → R = false) := ⟨fun h => by
        have := hE.out; rw [h] at this
        rw [hR.out]; refine decide_eq_false fun e => ?_
        subst e; simp at this⟩
      clear hE
      generalize encH L[t] = CA at *
      generalize encH M[t] = CB at *
      obtain ⟨wn, hwn⟩ : ∃ wn, Keep (w.drewN q = wn) := ⟨_, ⟨rfl⟩⟩
      rw [hwn.out] at cA cB ⊢
      have hlt' : (t : Int) < (n : Int) := by omega
      clear l1 l2
      go_wp2
      refine wp_region_held_drew (S := fun w' => w'.rangeAt b1 (o1 + t * 32) CA ∧ w'.rangeAt b2 (o2 + t * 32) CB) (by kernel_rfl) ⟨cA, cB⟩ (fun hHeld => ?_)
      refine wpAnyH_take (i := 0) (oi := ⟨some 17, Op.move (Operand.tmp 0), 24, _, _, none⟩) (v := Value.slice (some ⟨b1, o1, none⟩) n c1) rfl (by kernel_rfl) (by kernel_rfl) (by kernel_rfl) (fun _ _ _ h => h) (Or.inl ⟨by rfl, fun w hS => by go_simp⟩) hHeld ?_
      simp only [Act.put, List.setIfInBounds_toArray, List.set_cons_zero, List.set_cons_succ]
      refine wpAnyH_take (i := 1) (oi := ⟨some 18, Op.move (Operand.tmp 5), 3, _, _, none⟩) (v := .int .i64 (t : Int)) rfl (by kernel_rfl) (by kernel_rfl) (by kernel_rfl) (fun _ _ _ h => h) (Or.inl ⟨by rfl, fun w hS => by go_simp⟩) hHeld ?_
      simp only [Act.put, List.setIfInBounds_toArray, List.set_cons_zero, List.set_cons_succ]
      refine wpAnyH_take (i := 2) (oi := ⟨some 19, Op.indexAddr 24 (Operand.tmp 17) (Operand.tmp 18), 0, _, _, none⟩) (v := .pointer (some ⟨b1, o1 + t * 32, none⟩)) rfl (by kernel_rfl) (by kernel_rfl) (by kernel_rfl) (fun _ _ _ h => h) (Or.inl ⟨by rfl, fun w hS => by go_simp⟩) hHeld ?_
      simp only [Act.put, List.setIfInBounds_toArray, List.set_cons_zero, List.set_cons_succ]
      refine wpAnyH_take (i := 3) (oi := ⟨some 20, Op.load 40 (Operand.tmp 19), 40, _, _, none⟩) (v := .agg (CA).toArray) rfl (by kernel_rfl) (by kernel_rfl) (by kernel_rfl) (fun _ _ _ h => h) (yieldsIf_load_mid (by rfl) 40 (Operand.tmp 19) rfl b1 (o1 + t * 32) rfl CA _ (fun w hS => hS.1) hu rfl hi1) hHeld ?_
      simp only [Act.put, List.setIfInBounds_toArray, List.set_cons_zero, List.set_cons_succ]
      refine wpAnyH_take (i := 4) (oi := ⟨some 21, Op.move (Operand.tmp 1), 24, _, _, none⟩) (v := Value.slice (some ⟨b2, o2, none⟩) n c2) rfl (by kernel_rfl) (by kernel_rfl) (by kernel_rfl) (fun _ _ _ h => h) (Or.inl ⟨by rfl, fun w hS => by go_simp⟩) hHeld ?_
      simp only [Act.put, List.setIfInBounds_toArray, List.set_cons_zero, List.set_cons_succ]
      refine wpAnyH_take (i := 5) (oi := ⟨some 22, Op.move (Operand.tmp 5), 3, _, _, none⟩) (v := .int .i64 (t : Int)) rfl (by kernel_rfl) (by kernel_rfl) (by kernel_rfl) (fun _ _ _ h => h) (Or.inl ⟨by rfl, fun w hS => by go_simp⟩) hHeld ?_
      simp only [Act.put, List.setIfInBounds_toArray, List.set_cons_zero, List.set_cons_succ]
      refine wpAnyH_take (i := 6) (oi := ⟨some 23, Op.indexAddr 24 (Operand.tmp 21) (Operand.tmp 22), 0, _, _, none⟩) (v := .pointer (some ⟨b2, o2 + t * 32, none⟩)) rfl (by kernel_rfl) (by kernel_rfl) (by kernel_rfl) (fun _ _ _ h => h) (Or.inl ⟨by rfl, fun w hS => by go_simp⟩) hHeld ?_
      simp only [Act.put, List.setIfInBounds_toArray, List.set_cons_zero, List.set_cons_succ]
      refine wpAnyH_take (i := 7) (oi := ⟨some 24, Op.load 40 (Operand.tmp 23), 40, _, _, none⟩) (v := .agg (CB).toArray) rfl (by kernel_rfl) (by kernel_rfl) (by kernel_rfl) (fun _ _ _ h => h) (yieldsIf_load_mid (by rfl) 40 (Operand.tmp 23) rfl b2 (o2 + t * 32) rfl CB _ (fun w hS => hS.2) hu rfl hi2) hHeld ?_
      simp only [Act.put, List.setIfInBounds_toArray, List.set_cons_zero, List.set_cons_succ]
      refine wpAnyH_take (i := 8) (oi := ⟨some 25, Op.binOp BinOp.neq 40 (Operand.tmp 20) (Operand.tmp 24) 40, 4, _, _, none⟩) (v := .bool E) rfl (by kernel_rfl) (by kernel_rfl) (by kernel_rfl) (fun _ _ _ h => h) (Or.inl ⟨by rfl, fun w hS => by go_simp⟩) hHeld ?_
      simp only [Act.put, List.setIfInBounds_toArray, List.set_cons_zero, List.set_cons_succ]
      refine wpAnyH_done (by kernel_rfl) ?_ _
      have HD : Keep (∃ k, wn.drew = w.drewN k) := ⟨_, by rw [← hwn.out, World.drew_drewN]⟩
      cases E with
      | true =>
        have HF2 : Keep (R = false) := ⟨HF.out rfl⟩
        clear HF HE
        go_wp2
        go_ret
        exact ⟨by rw [HF2.out]; rfl, HD.out⟩
      | false =>
        have HE2 : Keep (L[t]? = M[t]?) := ⟨HE.out rfl⟩
        clear HF HE
        go_wp2
        go_roundw
        case rel =>
          obtain ⟨k, hk⟩ := HD.out
          exact ⟨t + 1, k, by omega, by go_num, fun k hk => by
            rcases Nat.lt_or_eq_of_le (Nat.le_of_lt_succ hk) with h | h
            · exact HK.out k h
            · subst h; exact HE2.out, hk⟩
        case measure => simp [intOf]; omega
    · obtain rfl : t = n := by omega
      go_wp2
      go_ret
      refine ⟨?_, q, rfl⟩
      rw [hR.out, decide_eq_true (List.ext_getElem? fun i => ?_)]
      · rfl
      · by_cases hi : i < t
        · exact HK.out i hi
        · have e1 := HL.out
          have e2 := HM.out
          rw [List.getElem?_eq_none (by omega), List.getElem?_eq_none (by omega)]

set_option maxRecDepth 8000 in
set_option maxHeartbeats 400000 in
theorem same_ne (a1 a2 : Option Addr) (n m c1 c2 : Nat) (w : World) (h : n ≠ m) : Calls Try.prog 24 #[.slice a1 n c1, .slice a2 m c2] w fun e w' => e = .returned (.bool false) ∧ w' = w := by
  have h' : ¬ ((n : Int) = (m : Int)) := by omega
  go_enter Try.func24, Try.ntmps24
  go_wp2
  go_ret
  exact ⟨rfl, rfl⟩
set_option maxRecDepth 8000 in
set_option maxHeartbeats 400000 in
theorem same_none (a1 a2 : Option Addr) (c1 c2 : Nat) (w : World) : Calls Try.prog 24 #[.slice a1 0 c1, .slice a2 0 c2] w fun e w' => e = .returned (.bool true) ∧ w' = w := by
  go_enter Try.func24, Try.ntmps24
  go_wp2
  refine wp_loop_rounds 1 ?_; rw [rounds_succ]
  go_wp2
  go_ret
  exact ⟨rfl, rfl⟩
theorem same_any (v1 v2 : Value) (L M : List Hs) (w : World) (h1 : HRow w v1 L) (h2 : HRow w v2 M) (hn : (L.length : Int) ≤ 9223372036854775807) :
    Calls Try.prog 24 #[v1, v2] w fun e w' => e = .returned (.bool (decide (L = M))) ∧ ∃ q, w' = w.drewN q := by
  obtain ⟨a1, c1, rfl⟩ := h1.form
  obtain ⟨a2, c2, rfl⟩ := h2.form
  by_cases hl : L.length = M.length
  · by_cases h0 : 0 < L.length
    · obtain ⟨b1, o1, rfl, _, _, r1⟩ := h1.at h0
      obtain ⟨b2, o2, rfl, _, _, r2⟩ := h2.at (by omega)
      rw [← hl]
      exact same_walk L.length b1 o1 c1 b2 o2 c2 L M w rfl hl.symm r1 r2 hn
    · have e1 : L = [] := List.eq_nil_of_length_eq_zero (by omega)
      have e2 : M = [] := List.eq_nil_of_length_eq_zero (by omega)
      subst e1 e2
      exact (same_none a1 a2 c1 c2 w).mono fun e w' h => ⟨by rw [h.1]; simp, 0, by rw [h.2, World.drewN_zero]⟩
  · exact (same_ne a1 a2 _ _ c1 c2 w hl).mono fun e w' h => ⟨by rw [h.1, decide_eq_false fun e => hl (by rw [e])], 0, by rw [h.2, World.drewN_zero]⟩
end Go.Proofs.Ytgpgnldcdimmbaa.Sh
namespace Go.Proofs.Ytgpgnldcdimmbaa.Sh
open Go.RowKit Go.Sort

def risesB (L : List Hs) : Bool := (List.range (L.length - 1)).all fun i => decide (cf (L.getD i default) (L.getD (i + 1) default) < 0)
theorem risesB_iff (L : List Hs) : risesB L = true ↔ ∀ i, i + 1 < L.length → cf (L.getD i default) (L.getD (i + 1) default) < 0 := by
  unfold risesB
  rw [List.all_eq_true]
  constructor
  · intro h i hi
    exact of_decide_eq_true (h i (List.mem_range.2 (by omega)))
  · intro h i hi
    exact decide_eq_true (h i (by have := List.mem_range.1 hi; omega))
theorem Try.enter76 (w : World) (vs : Array Value) : (callFunc 76 vs).run Try.prog w = .ok (.enter 76 vs) w := by kernel_rfl
theorem Try.enter31 (w : World) (vs : Array Value) : (callFunc 31 vs).run Try.prog w = .ok (.enter 31 vs) w := by kernel_rfl

set_option maxRecDepth 8000 in
set_option maxHeartbeats 1000000 in
theorem rising_walk (n b o c : Nat) (L : List Hs) (w : World) (hL : L.length = n) (h1 : w.rangeAt b o (flatH L)) (hn : (n : Int) ≤ 9223372036854775806) (h0 : 0 < n) :
    Calls Try.prog 52 #[.slice (some ⟨b, o, none⟩) n c] w fun e w' => e = .returned (.bool (risesB L)) ∧ Below w.heap.size w w' := by
  obtain ⟨R, hR⟩ : ∃ R, Keep (R = risesB L) := ⟨_, ⟨rfl⟩⟩
  rw [← hR.out]
  have HL : Keep (L.length = n) := ⟨hL⟩
  have H1 : Keep (w.rangeAt b o (flatH L)) := ⟨h1⟩
  have hblt : b < w.heap.size := rangeAt_lt h1 (by omega)
  have hu := Try.underlying40
  clear hL h1
  go_enter Try.func52, Try.ntmps52
  go_wp2
  go_loopw [3] (fun i wr => ∃ t : Nat, t + 1 ≤ n ∧ i = .int .i64 ((t + 1 : Nat) : Int) ∧ (∀ k, k < t → cf (L.getD k default) (L.getD (k + 1) default) < 0) ∧ Below w.heap.size w wr) (fun i _ => n - (intOf i).toNat)
  case atStart => exact ⟨0, by omega, rfl, fun k hk => by omega, Below.refl _ _⟩
  case round =>
    obtain ⟨t, ht, rfl, hke, hB⟩ := hrel
    have HK : Keep (∀ k, k < t → cf (L.getD k default) (L.getD (k + 1) default) < 0) := ⟨hke⟩
    clear hke
    by_cases hlt : t + 1 < n
    · have l1 : t < L.length := by rw [HL.out]; omega
      have l2 : t + 1 < L.length := by rw [HL.out]; exact hlt
      have HC : Keep (∀ w, Calls Try.prog 76 #[.agg (encH L[t]).toArray, .agg (encH L[t + 1]).toArray] w fun e w' => e = .returned (.int .i64 (cf L[t] L[t + 1])) ∧ Below w.heap.size w w') := ⟨fun w => by
        rw [encH_arr, encH_arr]
        refine (compare_any _ _ w).mono fun e w' h => ⟨h.1, ?_⟩
        obtain ⟨q, os, rfl⟩ := h.2
        exact grown_below w q os⟩
      have HS : Keep (∀ wx, Below wr.heap.size wr wx → wx.rangeAt b (o + t * 32) (encH L[t]) ∧ wx.rangeAt b (o + (t + 1) * 32) (encH L[t + 1])) := ⟨fun wx hx => by
        have hb2 := hB.trans (hx.mono hB.size)
        exact ⟨rangeAt_below (rangeAt_elem H1.out t l1) hb2 hblt, rangeAt_below (rangeAt_elem H1.out (t + 1) l2) hb2 hblt⟩⟩
      have hi1 := Try.size40L L[t]
      have hi2 := Try.size40L L[t + 1]
      obtain ⟨r, hr⟩ : ∃ r, Keep (r = cf L[t] L[t + 1]) := ⟨_, ⟨rfl⟩⟩
      rw [← hr.out] at HC
      have HE : Keep (r = cf (L.getD t default) (L.getD (t + 1) default)) := ⟨by
        rw [hr.out, List.getD_eq_getElem?_getD, List.getD_eq_getElem?_getD, List.getElem?_eq_getElem l1, List.getElem?_eq_getElem l2]; rfl⟩
      clear hr
      generalize encH L[t] = CA at *
      generalize encH L[t + 1] = CB at *
      clear l1 l2
      rename World => wn
      have hD0 : Below wn.heap.size wn wn.drew := (Below.refl _ _).drew
      have hlt' : ((t + 1 : Nat) : Int) < (n : Int) := by omega
      have hs1 : ((t + 1 : Nat) : Int) - 1 = (t : Int) := by omega
      have hlt2 : (t : Int) < (n : Int) := by omega
      have hwr : IntKind.i64.wrap (t : Int) = (t : Int) := by rw [IntKind.wrap_i64]; omega
      have hng : ¬ ((t : Int) + 1 < 0) := by omega
      go_wp2
      refine wp_region_held_drew (S := fun w' => w'.rangeAt b (o + t * 32) CA ∧ w'.rangeAt b (o + (t + 1) * 32) CB) (by kernel_rfl) (HS.out _ hD0) (fun hHeld => ?_)
      refine wpAnyH_take (i := 0) (oi := ⟨some 10, Op.move (Operand.tmp 0), 24, _, _, none⟩) (v := Value.slice (some ⟨b, o, none⟩) n c) rfl (by kernel_rfl) (by kernel_rfl) (by kernel_rfl) (fun _ _ _ h => h) (Or.inl ⟨by rfl, fun w hS => by go_simp⟩) hHeld ?_
      simp only [Act.put, List.setIfInBounds_toArray, List.set_cons_zero, List.set_cons_succ]
      refine wpAnyH_take (i := 1) (oi := ⟨some 11, Op.move (Operand.tmp 3), 3, _, _, none⟩) (v := .int .i64 ((t + 1 : Nat) : Int)) rfl (by kernel_rfl) (by kernel_rfl) (by kernel_rfl) (fun _ _ _ h => h) (Or.inl ⟨by rfl, fun w hS => by go_simp⟩) hHeld ?_
      simp only [Act.put, List.setIfInBounds_toArray, List.set_cons_zero, List.set_cons_succ]
      refine wpAnyH_take (i := 2) (oi := ⟨some 12, Op.binOp BinOp.sub 3 (Operand.tmp 11) (Operand.const (Value.int IntKind.i64 1)) 3, 3, _, _, none⟩) (v := .int .i64 (t : Int)) rfl (by kernel_rfl) (by kernel_rfl) (by kernel_rfl) (fun _ _ _ h => h) (Or.inl ⟨by rfl, fun w hS => by go_simp⟩) hHeld ?_
      simp only [Act.put, List.setIfInBounds_toArray, List.set_cons_zero, List.set_cons_succ]
      refine wpAnyH_take (i := 3) (oi := ⟨some 13, Op.indexAddr 24 (Operand.tmp 10) (Operand.tmp 12), 0, _, _, none⟩) (v := .pointer (some ⟨b, o + t * 32, none⟩)) rfl (by kernel_rfl) (by kernel_rfl) (by kernel_rfl) (fun _ _ _ h => h) (Or.inl ⟨by rfl, fun w hS => by go_simp⟩) hHeld ?_
      simp only [Act.put, List.setIfInBounds_toArray, List.set_cons_zero, List.set_cons_succ]
      refine wpAnyH_take (i := 4) (oi := ⟨some 14, Op.load 40 (Operand.tmp 13), 40, _, _, none⟩) (v := .agg (CA).toArray) rfl (by kernel_rfl) (by kernel_rfl) (by kernel_rfl) (fun _ _ _ h => h) (yieldsIf_load_mid (by rfl) 40 (Operand.tmp 13) rfl b (o + t * 32) rfl CA _ (fun w hS => hS.1) hu rfl hi1) hHeld ?_
      simp only [Act.put, List.setIfInBounds_toArray, List.set_cons_zero, List.set_cons_succ]
      refine wpAnyH_take (i := 5) (oi := ⟨some 15, Op.move (Operand.tmp 0), 24, _, _, none⟩) (v := Value.slice (some ⟨b, o, none⟩) n c) rfl (by kernel_rfl) (by kernel_rfl) (by kernel_rfl) (fun _ _ _ h => h) (Or.inl ⟨by rfl, fun w hS => by go_simp⟩) hHeld ?_
      simp only [Act.put, List.setIfInBounds_toArray, List.set_cons_zero, List.set_cons_succ]
      refine wpAnyH_take (i := 6) (oi := ⟨some 16, Op.move (Operand.tmp 3), 3, _, _, none⟩) (v := .int .i64 ((t + 1 : Nat) : Int)) rfl (by kernel_rfl) (by kernel_rfl) (by kernel_rfl) (fun _ _ _ h => h) (Or.inl ⟨by rfl, fun w hS => by go_simp⟩) hHeld ?_
      simp only [Act.put, List.setIfInBounds_toArray, List.set_cons_zero, List.set_cons_succ]
      refine wpAnyH_take (i := 7) (oi := ⟨some 17, Op.indexAddr 24 (Operand.tmp 15) (Operand.tmp 16), 0, _, _, none⟩) (v := .pointer (some ⟨b, o + (t + 1) * 32, none⟩)) rfl (by kernel_rfl) (by kernel_rfl) (by kernel_rfl) (fun _ _ _ h => h) (Or.inl ⟨by rfl, fun w hS => by go_simp⟩) hHeld ?_
      simp only [Act.put, List.setIfInBounds_toArray, List.set_cons_zero, List.set_cons_succ]
      refine wpAnyH_take (i := 8) (oi := ⟨some 18, Op.load 40 (Operand.tmp 17), 40, _, _, none⟩) (v := .agg (CB).toArray) rfl (by kernel_rfl) (by kernel_rfl) (by kernel_rfl) (fun _ _ _ h => h) (yieldsIf_load_mid (by rfl) 40 (Operand.tmp 17) rfl b (o + (t + 1) * 32) rfl CB _ (fun w hS => hS.2) hu rfl hi2) hHeld ?_
      simp only [Act.put, List.setIfInBounds_toArray, List.set_cons_zero, List.set_cons_succ]
      refine wpAnyH_ready (rs := [9]) (by kernel_rfl) (by simp) ?_
      refine AllReadyH.cons (o := ⟨some 19, Op.call { callee := Callee.value (Operand.func 76), args := #[Operand.tmp 14, Operand.tmp 18], argTypes := #[40, 40] }, 3, _, _, none⟩) rfl (fun K hK => ?_) AllReadyH.nil
      rw [if_pos (by rfl)]
      refine wp_callF 76 #[.tmp 14, .tmp 18] #[40, 40] rfl Try.enter76 #[.agg CA.toArray, .agg CB.toArray] (by simp [Act.eval]) (fun v w' => v = .int .i64 r ∧ Below wn.drew.heap.size wn.drew w') ((HC.out wn.drew).mono fun e w' h => ⟨_, h.1, rfl, h.2⟩) ?_
      rintro v w5 ⟨rfl, hb5⟩
      have hB5 : Below wn.heap.size wn w5 := hD0.trans (hb5.mono hD0.size)
      refine hK.out _ _ (HS.out _ hB5) fun hHeld5 => ?_
      clear hK
      simp only [Act.put, List.setIfInBounds_toArray, List.set_cons_zero, List.set_cons_succ]
      refine wpAnyH_take (i := 10) (oi := ⟨some 20, Op.binOp BinOp.geq 3 (Operand.tmp 19) (Operand.const (Value.int IntKind.i64 0)) 3, 4, _, _, none⟩) (v := .bool (decide (0 ≤ r))) rfl (by kernel_rfl) (by kernel_rfl) (by kernel_rfl) (fun _ _ _ h => h) (Or.inl ⟨by rfl, fun w hS => by go_simp⟩) hHeld5 ?_
      simp only [Act.put, List.setIfInBounds_toArray, List.set_cons_zero, List.set_cons_succ]
      refine wpAnyH_done (by kernel_rfl) ?_ _
      have hBn : Below w.heap.size w w5 := hB.trans (hB5.mono hB.size)
      by_cases hr0 : 0 ≤ r
      · have HF : Keep (R = false) := ⟨by
          rw [hR.out, Bool.eq_false_iff]; intro h
          have := (risesB_iff L).1 h t (by rw [HL.out]; exact hlt)
          rw [← HE.out] at this; omega⟩
        go_wp2
        go_ret
        exact ⟨by rw [HF.out]; rfl, hBn⟩
      · have HE2 : Keep (cf (L.getD t default) (L.getD (t + 1) default) < 0) := ⟨by rw [← HE.out]; omega⟩
        go_wp2
        go_roundw
        case rel => exact ⟨t + 1, by omega, by go_num, fun k hk => by
            rcases Nat.lt_or_eq_of_le (Nat.le_of_lt_succ hk) with h | h
            · exact HK.out k h
            · subst h; exact HE2.out, hBn⟩
        case measure => simp [intOf]; omega
    · obtain rfl : t + 1 = n := by omega
      go_wp2
      go_ret
      refine ⟨?_, hB⟩
      rw [hR.out, (risesB_iff L).2 fun i hi => HK.out i (by have := HL.out; omega)]
      rfl
set_option maxRecDepth 8000 in
set_option maxHeartbeats 400000 in
theorem rising_none (a1 : Option Addr) (c1 : Nat) (w : World) : Calls Try.prog 52 #[.slice a1 0 c1] w fun e w' => e = .returned (.bool true) ∧ w' = w := by
  go_enter Try.func52, Try.ntmps52
  go_wp2
  refine wp_loop_rounds 1 ?_; rw [rounds_succ]
  go_wp2
  go_ret
  exact ⟨rfl, rfl⟩
theorem rising_any (v : Value) (L : List Hs) (w : World) (h : HRow w v L) (hn : (L.length : Int) ≤ 9223372036854775806) :
    Calls Try.prog 52 #[v] w fun e w' => e = .returned (.bool (risesB L)) ∧ Below w.heap.size w w' := by
  obtain ⟨a1, c1, rfl⟩ := h.form
  by_cases h0 : 0 < L.length
  · obtain ⟨b1, o1, rfl, _, _, r1⟩ := h.at h0
    exact rising_walk L.length b1 o1 c1 L w rfl r1 hn h0
  · have e1 : L = [] := List.eq_nil_of_length_eq_zero (by omega)
    subst e1
    exact (rising_none a1 c1 w).mono fun e w' h => ⟨by rw [h.1, (risesB_iff []).2 fun i hi => by simp at hi], by rw [h.2]; exact Below.refl _ _⟩

end Go.Proofs.Ytgpgnldcdimmbaa.Sh
namespace Go.Proofs.Ytgpgnldcdimmbaa
open Go.RowKit
set_option linter.unusedSimpArgs false
set_option linter.unusedVariables false

abbrev Hs := Sh.Hs
def hB (h : Hs) : List Int := hl 32 h.f
def hs (c : List Int) : Hs := Vector.ofFn fun i : Fin 32 => UInt8.ofNat (c.getD i.val 0).toNat
theorem hB_len (h : Hs) : (hB h).length = 32 := hl_len _ _
theorem hB_byts (h : Hs) : Byts (hB h) := fun c hc => by
  simp only [hB, hl, List.mem_map, List.mem_range] at hc
  obtain ⟨i, hi, rfl⟩ := hc
  exact Sh.Hs.bnd h i hi
theorem hs_f (c : List Int) (hc : Byts c) (i : Nat) (hi : i < 32) : (hs c).f i = c.getD i 0 := by
  have := hc.getD i
  rw [Sh.Hs.f_get _ _ hi]
  simp only [hs, Vector.getElem_ofFn]
  rw [UInt8.toNat_ofNat_of_lt' (by show (c.getD i 0).toNat < 256; omega)]
  omega
theorem hB_hs (c : List Int) (h : c.length = 32) (hc : Byts c) : hB (hs c) = c := by
  unfold hB hl
  apply List.ext_getElem (by simp [h])
  intro i h1 h2
  simp only [List.getElem_map, List.getElem_range]
  rw [hs_f c hc i (by omega)]
  simp [List.getD_eq_getElem?_getD, h2]
theorem hs_hB (h : Hs) : hs (hB h) = h := by
  apply Sh.Hs.ext'
  intro i hi
  rw [hs_f _ (hB_byts h) i hi, hB, hl_get _ _ _ hi]
theorem hB_inj {x y : Hs} (h : hB x = hB y) : x = y := by rw [← hs_hB x, h, hs_hB]
theorem encH_B (h : Hs) : Sh.encH h = bv (hB h) := by
  show (bytesA 32 h.f).toList = _
  rw [hl_bytesA]; rfl
theorem bytesA_hB (h : Hs) : bytesA 32 h.f = bytesA 32 (hof (hB h)) := bytesA_congr fun i hi => by rw [hof, hB, hl_get _ _ _ hi]
theorem cmp_any (x y : Hs) (w : World) : Calls Try.prog 76 #[.agg (bytesA 32 x.f), .agg (bytesA 32 y.f)] w fun e w' => e = .returned (.int .i64 (Sh.cf x y)) ∧ Below w.heap.size w w' := by
  refine (Sh.compare_any x y w).mono ?_
  rintro e w' ⟨h1, q, os, rfl⟩
  exact ⟨h1, Sh.grown_below w q os⟩

def OwnH (w : World) (v : Value) (l : List Hs) : Prop := w.ownsRow 0 40 32 v l.length (Sh.flatH l)
theorem OwnH.form {w : World} {v : Value} {l : List Hs} (h : OwnH w v l) : (v = .slice none 0 0 ∧ l = []) ∨ ∃ g cap cur, v = .slice (some ⟨g, 0, none⟩) l.length cap ∧ Blk w g 40 cur ∧ l.length ≤ cap ∧ cur.toList.take (l.length * 32) = Sh.flatH l := by
  rcases h.2 with ⟨rfl, h0⟩ | ⟨g, cap, cur, rfl, _, h3, h4, h5, h6, h7⟩
  · exact .inl ⟨rfl, List.eq_nil_of_length_eq_zero h0⟩
  · exact .inr ⟨g, cap, cur, rfl, h3, h4, h7⟩
theorem OwnH.row {w : World} {v : Value} {l : List Hs} (h : OwnH w v l) : Sh.HRow w v l := Sh.HRow.of_owns h
theorem OwnH.sl {w : World} {v : Value} {l : List Hs} (h : OwnH w v l) : ∃ a c, v = .slice a l.length c := h.row.form
theorem OwnH.lt {w : World} {v : Value} {l : List Hs} (h : OwnH w v l) : ∀ k, v.ownBlock = some k → k < w.heap.size := fun k hk => (World.ownsRow.lt h k hk).2
theorem OwnH.grown {w w' : World} {v : Value} {l : List Hs} {S : Nat → Prop} (h : OwnH w v l) (hg : Grown w w' S) (hs : ∀ k, v.ownBlock = some k → ¬ S k) : OwnH w' v l := by
  refine ⟨h.1, ?_⟩
  rcases h.2 with h1 | ⟨g, cap, cur, rfl, h2, h3, h4⟩
  · exact .inl h1
  · exact .inr ⟨g, cap, cur, rfl, h2, hg.blk h3 (hs g rfl), h4⟩
theorem OwnH.below {w w' : World} {v : Value} {l : List Hs} (h : OwnH w v l) (hb : Below w.heap.size w w') : OwnH w' v l := h.grown (Grown.below (S := fun _ => False) hb) fun _ _ h => h
theorem OwnH.ne {w : World} {v : Value} {l : List Hs} {p : Nat} {T : TypeId} {cs : Array Value} (h : OwnH w v l) (hp : Blk w p T cs) (hT : T ≠ 40) : v.ownBlock ≠ some p := by
  intro e
  rcases h.form with ⟨rfl, _⟩ | ⟨g, cap, cur, rfl, h3, _⟩
  · simp [Value.ownBlock] at e
  · simp [Value.ownBlock] at e
    subst e
    exact hT (blk_type hp h3)
theorem ownH_empty (w : World) : OwnH (w.alloc (.cells #[] 40)) (.slice (some ⟨w.heap.size, 0, none⟩) 0 0) [] :=
  ⟨rfl, .inr ⟨w.heap.size, 0, #[], rfl, Nat.zero_le _, Blk.new w 40 #[], Nat.le_refl _, by decide, rfl, rfl⟩⟩
theorem Try.infoH : (Try.prog.info? 40).map (fun i => (i.zero, i.size, i.bytes)) = some (some (.agg (bytesA 32 fun _ => 0)), 32, 32) := by kernel_rfl
theorem run_appH (w : World) (ty : TypeId) (v : Value) (l : List Hs) (hown : OwnH w v l) (g : Nat) (x : Hs) (hg : Blk w g 40 (bytesA 32 x.f)) (hb : l.length ≤ 1000000000000) :
    ∃ v' w', (Builtin.append_ #[24, 24] ty #[v, .slice (some ⟨g, 0, none⟩) 1 1]).run Try.prog w = .ok v' w' ∧ OwnH w' v' (l ++ [x]) ∧ (Grown w w' fun k => v.ownBlock = some k) ∧ Moved w v v' := by
  obtain ⟨i, hi, hzz⟩ := Option.map_eq_some_iff.1 Try.infoH
  simp only [Prod.mk.injEq] at hzz
  obtain ⟨hz, hsz, hby⟩ := hzz
  have hzs : (Value.agg (bytesA 32 fun _ => 0)).cells.size = 32 := by show (bytesA 32 fun _ => 0).size = 32; exact bytesA_size _ _
  obtain ⟨v', w', hr, h1, h2, _, h3⟩ := run_append_own_at (P := Try.prog) w 0 24 ty 40 i (.agg (bytesA 32 fun _ => 0)) 32 32 Try.underlying24 hi hz hsz hby hzs (by omega) v l.length (Sh.flatH l) hown ⟨g, 0, none⟩ 1 1 (Sh.encH x) (by rw [Sh.encH_len]) (fun j u hu => by
      rw [Addr.add_mid, Nat.zero_add, hg.cell, ← Array.getElem?_toList]
      exact hu)
    (fun u hu => Sh.encH_one x u hu) (by unfold maxLen; omega) (by omega) (Nat.zero_le _)
  refine ⟨v', w', hr, ?_, Grown.of h2 fun k _ e => e, ?_⟩
  · unfold OwnH
    rw [List.length_append, Sh.flatH_app, show Sh.flatH [x] = Sh.encH x by simp [Sh.flatH]]
    exact h1
  · rcases h3 with h3 | h3
    · exact .inl h3
    · exact .inr ⟨_, h3, Nat.le_refl _⟩
theorem WL.appH {ops : Array Oper} {rest : List Oper} {o : Oper} {a : Act} {w : World} {Q : Exit → Act → World → Prop} (hw : Region.wanted o (yielded ops a.tmps) = true) (s x : Operand)
    (ho : o.op = .call { callee := .builtin .append, args := #[s, x], argTypes := #[24, 24] }) (v : Value) (l : List Hs) (g : Nat) (y : Hs)
    (hs : a.eval s = v) (hx : a.eval x = .slice (some ⟨g, 0, none⟩) 1 1) (hown : OwnH w v l) (hg : Blk w g 40 (bytesA 32 y.f)) (hb : l.length ≤ 1000000000000)
    (h : ∀ v' w', OwnH w' v' (l ++ [y]) → (Grown w w' fun k => v.ownBlock = some k) → Moved w v v' → WL Try.prog ops Q rest (a.put o.dst v') w') : WL Try.prog ops Q (o :: rest) a w :=
  ⟨wpList_wanted hw fun K hK => by
    obtain ⟨v', w', hr, h1, h2, h3⟩ := run_appH w o.type v l hown g y hg hb
    unfold Oper.wp execOp
    simp only [ho, resolve, invoke, builtin, Sem.run_bind, Sem.run_pure, Result.andThen_ok, List.map_toArray, List.map_cons, List.map_nil, hs, hx, hr]
    exact hK _ _ (h v' w' h1 h2 h3).out⟩
theorem bsH (x : Hs) (w : World) : (Instr.buildSlice 24 1 #[(0, .agg (bytesA 32 x.f))]).run Try.prog w = .ok (.slice (some ⟨w.heap.size, 0, none⟩) 1 1) (w.alloc (.cells (bytesA 32 x.f) 40)) := by kernel_rfl
theorem bsHE (w : World) : (Instr.buildSlice 24 0 #[]).run Try.prog w = .ok (.slice (some ⟨w.heap.size, 0, none⟩) 0 0) (w.alloc (.cells #[] 40)) := by kernel_rfl
def getH (L : List Int) : Nat → List Hs → Nat → Int × Nat × List Hs
  | 0, P, a => (0, a, P)
  | n + 1, P, a => if nextW (L.drop a) 32 ≠ 0 then (nextW (L.drop a) 32, a + nextN (L.drop a) 32, [])
    else if 0 < P.length ∧ 0 ≤ Sh.cf (P.getD (P.length - 1) default) (hs ((L.drop a).take 32)) then (52, a, [])
    else getH L n (P ++ [hs ((L.drop a).take 32)]) (a + 32)
theorem hrd_hs (D : List Int) (h : nextW D 32 = 0) (hD : Byts D) : bytesA 32 (hrd D 0) = bytesA 32 (hs (D.take 32)).f := bytesA_congr fun i hi => by
  have := nextN_0 _ _ h
  rw [hs_f _ (hD.take 32) i hi]
  unfold hrd
  rw [if_pos rfl, List.getD_eq_getElem?_getD, List.getD_eq_getElem?_getD, List.getElem?_take, if_pos hi]
def Gives (p : Nat) (R : Int × Nat) (w : World) (e : Ending) (w' : World) : Prop := R.1 ≠ 0 ∧ ∃ q, w.heap.size ≤ q ∧ e = .panicked [wr q] ∧ BadAt w' q R.1 R.2 ∧ Grown w w' fun k => k = p
def Reads (p : Nat) (s : ByteArray) (R : Int × Nat) (v : Value) (w : World) (e : Ending) (w' : World) : Prop :=
  (R.1 = 0 ∧ e = .returned v ∧ InAt w' p s R.2 none ∧ Grown w w' fun k => k = p) ∨ Gives p R w e w'
def formR (L : List Int) (a : Nat) : Int × Nat := if nextW (L.drop a) 1 ≠ 0 then (nextW (L.drop a) 1, a + nextN (L.drop a) 1) else if (L.drop a).getD 0 0 = 1 then (0, a + 1) else (5, a)
def auR (L : List Int) (a : Nat) : Int × Nat := if nextW (L.drop a) 1 ≠ 0 then (nextW (L.drop a) 1, a + nextN (L.drop a) 1) else if 1 ≤ (L.drop a).getD 0 0 ∧ (L.drop a).getD 0 0 ≤ 8 then (0, a + 1) else (50, a)
def ckR (L : List Int) (a : Nat) : Int × Nat := if (fstM (L.drop a) 4096).2.2 ≠ 0 then ((fstM (L.drop a) 4096).2.2, a + (fstM (L.drop a) 4096).2.1.toNat) else if (fstM (L.drop a) 4096).1 = 0 then (51, a) else (0, a + (fstM (L.drop a) 4096).2.1.toNat)
theorem readForm_any (p : Nat) (s : ByteArray) (a : Nat) (w : World) (hI : InAt w p s a none) (hb : s.size ≤ 140737488355328) :
    Calls Try.prog 56 #[ptr p] w (Reads p s (formR (lst s) a) (.tuple #[]) w) := by
  have HI := Keep.mk hI
  obtain ⟨D, hD⟩ : ∃ D, D = (lst s).drop a := ⟨_, rfl⟩
  obtain ⟨W, hW⟩ : ∃ W, W = nextW D 1 := ⟨_, rfl⟩
  obtain ⟨N, hN⟩ : ∃ N, N = nextN D 1 := ⟨_, rfl⟩
  obtain ⟨c, hc⟩ : ∃ c, c = if W = 0 then D.getD 0 0 else 0 := ⟨_, rfl⟩
  have HC := Keep.mk (ibyte_good p s a w hI hb D hD W hW N hN c hc)
  obtain ⟨R, hR⟩ : ∃ R, R = formR (lst s) a := ⟨_, rfl⟩
  have HR1 : Keep (¬ W = 0 → R = (W, a + N)) := ⟨fun h => by rw [hR]; unfold formR; rw [← hD, ← hW, ← hN, if_pos h]⟩
  have HN1 : Keep (W = 0 → N = 1) := ⟨fun h => by rw [hN, (nextN_0 D 1 (by rw [← hW]; exact h)).1]; rfl⟩
  have HR2 : Keep (W = 0 → c = 1 → R = (0, a + 1)) := ⟨fun h1 h2 => by rw [hR]; unfold formR; rw [← hD, ← hW, if_neg (by simp [h1])]; rw [hc, if_pos h1] at h2; rw [if_pos h2]⟩
  have HR3 : Keep (W = 0 → ¬ c = 1 → R = (5, a)) := ⟨fun h1 h2 => by rw [hR]; unfold formR; rw [← hD, ← hW, if_neg (by simp [h1])]; rw [hc, if_pos h1] at h2; rw [if_neg h2]⟩
  rw [← hR]
  clear hI hb hD hW hN hc hR
  go_enter Try.func56, Try.ntmps56
  refine wp_seq_k fun K1 hK1 => ?_
  refine wp_region_list (WL.out ?_)
  refine WL.val (by kernel_rfl) (.pointer (some ⟨p, 0, none⟩)) (by go_simp) ?_
  simp only [Act.put, List.setIfInBounds_toArray, List.set_cons_zero, List.set_cons_succ]
  refine WL.callF (by kernel_rfl) 58 _ _ rfl Try.in58 #[ptr p] (by simp [Act.eval]) ?_
  refine (iat_any p s a none w HI.out).mono ?_
  rintro e w0 ⟨rfl, hw0⟩
  rw [hw0]
  clear hw0 w0
  refine ⟨_, rfl, ?_⟩
  simp only [Act.put, List.setIfInBounds_toArray, List.set_cons_zero, List.set_cons_succ]
  refine WL.val (by kernel_rfl) (.int .i64 (a : Int)) (by go_simp) ?_
  simp only [Act.put, List.setIfInBounds_toArray, List.set_cons_zero, List.set_cons_succ]
  refine WL.nil ?_
  refine hK1 _ _ ?_
  refine wp_seq_k fun K2 hK2 => ?_
  refine wp_region_list (WL.out ?_)
  refine WL.val (by kernel_rfl) (.pointer (some ⟨p, 0, none⟩)) (by go_simp) ?_
  simp only [Act.put, List.setIfInBounds_toArray, List.set_cons_zero, List.set_cons_succ]
  refine WL.callF (by kernel_rfl) 87 _ _ rfl Try.in87 #[ptr p] (by simp [Act.eval]) ?_
  refine (HC.out).mono ?_
  rintro e w1 ⟨bad, er, rfl, h1, h2, h3⟩
  refine ⟨_, rfl, ?_⟩
  have H1 := Keep.mk h1
  have H2 := Keep.mk h2
  have H3 := Keep.mk h3
  clear h1 h2 h3
  simp only [Act.put, List.setIfInBounds_toArray, List.set_cons_zero, List.set_cons_succ]
  by_cases hE : W = 0
  · rcases H3.out with ⟨e1, rfl, rfl⟩ | ⟨e1, _⟩
    rotate_left
    · exact absurd hE e1
    refine WL.val (by kernel_rfl) (.int .u8 c) (by go_simp) ?_
    simp only [Act.put, List.setIfInBounds_toArray, List.set_cons_zero, List.set_cons_succ]
    refine WL.val (by kernel_rfl) (.nilIface) (by go_simp) ?_
    simp only [Act.put, List.setIfInBounds_toArray, List.set_cons_zero, List.set_cons_succ]
    refine WL.callF (by kernel_rfl) 86 _ _ rfl Try.in86 #[.int .u8 c, .nilIface] (by simp [Act.eval]) ?_
    refine (must86_ok (.int .u8 c) w1).mono ?_
    rintro e w0 ⟨rfl, hw0⟩
    rw [hw0]
    clear hw0 w0
    refine ⟨_, rfl, ?_⟩
    simp only [Act.put, List.setIfInBounds_toArray, List.set_cons_zero, List.set_cons_succ]
    by_cases h1_5 : c = 1
    · skip
      refine WL.val (by kernel_rfl) (.bool false) (by go_simp) ?_
      simp only [Act.put, List.setIfInBounds_toArray, List.set_cons_zero, List.set_cons_succ]
      refine WL.nil ?_
      refine hK2 _ _ ?_
      refine wp_cond_false rfl ?_
      refine wp_skip ?_
      go_end0
      exact .inl ⟨by rw [HR2.out hE h1_5], rfl, by rw [HR2.out hE h1_5, ← HN1.out hE]; exact H1.out, H2.out⟩
    · skip
      refine WL.val (by kernel_rfl) (.bool true) (by go_simp) ?_
      simp only [Act.put, List.setIfInBounds_toArray, List.set_cons_zero, List.set_cons_succ]
      refine WL.nil ?_
      refine hK2 _ _ ?_
      refine wp_cond_true rfl ?_
      refine wp_region_list (WL.out ?_)
      refine WL.val (by kernel_rfl) (.int .i64 (a : Int)) (by go_simp) ?_
      simp only [Act.put, List.setIfInBounds_toArray, List.set_cons_zero, List.set_cons_succ]
      refine WL.callP (by kernel_rfl) 62 _ _ rfl Try.in62 #[.int .i64 5, .int .i64 (a : Int)] (by simp [Act.eval]) ?_
      refine (at_any 5 a w1).mono ?_
      rintro e wz ⟨rfl, hbz, hwz⟩
      have HBd : Keep (BadAt wz w1.heap.size 5 a) := ⟨hbz⟩
      have HGd : Keep (Grown w wz fun k => k = p) := ⟨H2.out.trans (Grown.below hwz)⟩
      clear hbz hwz
      refine .inr ⟨_, rfl, ?_⟩
      try simp only [Exit.inBlock, Exit.then]
      refine ⟨rfl, ?_⟩
      exact .inr ⟨by rw [HR3.out hE h1_5]; exact (by decide : (5 : Int) ≠ 0), w1.heap.size, H2.out.size, rfl, by rw [HR3.out hE h1_5]; exact HBd.out, HGd.out⟩
  · rcases H3.out with ⟨e1, _, _⟩ | ⟨_, q, hq, rfl, rfl, hbad⟩
    · exact absurd e1 hE
    have Hbad := Keep.mk hbad
    clear hbad
    unfold err
    refine WL.val (by kernel_rfl) (.int .u8 c) (by go_simp) ?_
    simp only [Act.put, List.setIfInBounds_toArray, List.set_cons_zero, List.set_cons_succ]
    refine WL.val (by kernel_rfl) (.iface 68 (ptr q)) (by go_simp) ?_
    simp only [Act.put, List.setIfInBounds_toArray, List.set_cons_zero, List.set_cons_succ]
    refine WL.callP (by kernel_rfl) 86 _ _ rfl Try.in86 #[.int .u8 c, err q] (by simp [Act.eval, err]) ?_
    refine (must86_bad _ q w1).mono ?_
    rintro e w' ⟨rfl, rfl⟩
    refine .inr ⟨_, rfl, ?_⟩
    try simp only [Exit.inBlock, Exit.then]
    refine ⟨rfl, ?_⟩
    exact .inr ⟨by rw [HR1.out hE]; exact hE, q, hq, rfl, by rw [HR1.out hE]; exact Hbad.out, H2.out⟩
theorem readAuthor_any (p : Nat) (s : ByteArray) (a : Nat) (w : World) (hI : InAt w p s a none) (hb : s.size ≤ 140737488355328) :
    Calls Try.prog 57 #[ptr p] w (Reads p s (auR (lst s) a) (.int .i64 (((lst s).drop a).getD 0 0)) w) := by
  have HI := Keep.mk hI
  obtain ⟨D, hD⟩ : ∃ D, D = (lst s).drop a := ⟨_, rfl⟩
  obtain ⟨W, hW⟩ : ∃ W, W = nextW D 1 := ⟨_, rfl⟩
  obtain ⟨N, hN⟩ : ∃ N, N = nextN D 1 := ⟨_, rfl⟩
  obtain ⟨c, hc⟩ : ∃ c, c = if W = 0 then D.getD 0 0 else 0 := ⟨_, rfl⟩
  have HC := Keep.mk (ibyte_good p s a w hI hb D hD W hW N hN c hc)
  obtain ⟨R, hR⟩ : ∃ R, R = auR (lst s) a := ⟨_, rfl⟩
  have HR1 : Keep (¬ W = 0 → R = (W, a + N)) := ⟨fun h => by rw [hR]; unfold auR; rw [← hD, ← hW, ← hN, if_pos h]⟩
  have HN1 : Keep (W = 0 → N = 1) := ⟨fun h => by rw [hN, (nextN_0 D 1 (by rw [← hW]; exact h)).1]; rfl⟩
  have HR2 : Keep (W = 0 → (1 ≤ c ∧ c ≤ 8) → R = (0, a + 1)) := ⟨fun h1 h2 => by rw [hR]; unfold auR; rw [← hD, ← hW, if_neg (by simp [h1])]; rw [hc, if_pos h1] at h2; rw [if_pos h2]⟩
  have HR3 : Keep (W = 0 → ¬ (1 ≤ c ∧ c ≤ 8) → R = (50, a)) := ⟨fun h1 h2 => by rw [hR]; unfold auR; rw [← hD, ← hW, if_neg (by simp [h1])]; rw [hc, if_pos h1] at h2; rw [if_neg h2]⟩
  have Hcv : Keep (W = 0 → c = ((lst s).drop a).getD 0 0) := ⟨fun h => by rw [hc, if_pos h, hD]⟩
  have Hcr : Keep (0 ≤ c ∧ c < 256) := ⟨by
    have := ((lst_byts s).drop a).getD 0
    rw [← hD] at this
    rw [hc]; split <;> omega⟩
  rw [← hR]
  clear hI hb hD hW hN hc hR
  go_enter Try.func57, Try.ntmps57
  refine wp_seq_k fun K1 hK1 => ?_
  refine wp_region_list (WL.out ?_)
  refine WL.val (by kernel_rfl) (.int .i64 0) (by go_simp) ?_
  simp only [Act.put, List.setIfInBounds_toArray, List.set_cons_zero, List.set_cons_succ]
  refine WL.nil ?_
  refine hK1 _ _ ?_
  refine wp_seq_k fun K2 hK2 => ?_
  refine wp_region_list (WL.out ?_)
  refine WL.val (by kernel_rfl) (.pointer (some ⟨p, 0, none⟩)) (by go_simp) ?_
  simp only [Act.put, List.setIfInBounds_toArray, List.set_cons_zero, List.set_cons_succ]
  refine WL.callF (by kernel_rfl) 58 _ _ rfl Try.in58 #[ptr p] (by simp [Act.eval]) ?_
  refine (iat_any p s a none w HI.out).mono ?_
  rintro e w0 ⟨rfl, hw0⟩
  rw [hw0]
  clear hw0 w0
  refine ⟨_, rfl, ?_⟩
  simp only [Act.put, List.setIfInBounds_toArray, List.set_cons_zero, List.set_cons_succ]
  refine WL.val (by kernel_rfl) (.int .i64 (a : Int)) (by go_simp) ?_
  simp only [Act.put, List.setIfInBounds_toArray, List.set_cons_zero, List.set_cons_succ]
  refine WL.nil ?_
  refine hK2 _ _ ?_
  refine wp_seq_k fun K3 hK3 => ?_
  refine wp_region_list (WL.out ?_)
  refine WL.val (by kernel_rfl) (.pointer (some ⟨p, 0, none⟩)) (by go_simp) ?_
  simp only [Act.put, List.setIfInBounds_toArray, List.set_cons_zero, List.set_cons_succ]
  refine WL.callF (by kernel_rfl) 87 _ _ rfl Try.in87 #[ptr p] (by simp [Act.eval]) ?_
  refine (HC.out).mono ?_
  rintro e w1 ⟨bad, er, rfl, h1, h2, h3⟩
  refine ⟨_, rfl, ?_⟩
  have H1 := Keep.mk h1
  have H2 := Keep.mk h2
  have H3 := Keep.mk h3
  clear h1 h2 h3
  simp only [Act.put, List.setIfInBounds_toArray, List.set_cons_zero, List.set_cons_succ]
  by_cases hE : W = 0
  · rcases H3.out with ⟨e1, rfl, rfl⟩ | ⟨e1, _⟩
    rotate_left
    · exact absurd hE e1
    have hwc : IntKind.i64.wrap c = c := by rw [IntKind.wrap_i64]; have := Hcr.out; omega
    refine WL.val (by kernel_rfl) (.int .u8 c) (by go_simp) ?_
    simp only [Act.put, List.setIfInBounds_toArray, List.set_cons_zero, List.set_cons_succ]
    refine WL.val (by kernel_rfl) (.nilIface) (by go_simp) ?_
    simp only [Act.put, List.setIfInBounds_toArray, List.set_cons_zero, List.set_cons_succ]
    refine WL.callF (by kernel_rfl) 86 _ _ rfl Try.in86 #[.int .u8 c, .nilIface] (by simp [Act.eval]) ?_
    refine (must86_ok (.int .u8 c) w1).mono ?_
    rintro e w0 ⟨rfl, hw0⟩
    rw [hw0]
    clear hw0 w0
    refine ⟨_, rfl, ?_⟩
    simp only [Act.put, List.setIfInBounds_toArray, List.set_cons_zero, List.set_cons_succ]
    refine WL.val (by kernel_rfl) (.int .i64 c) (by go_simp) ?_
    simp only [Act.put, List.setIfInBounds_toArray, List.set_cons_zero, List.set_cons_succ]
    refine WL.val (by kernel_rfl) (.int .i64 c) (by go_simp) ?_
    simp only [Act.put, List.setIfInBounds_toArray, List.set_cons_zero, List.set_cons_succ]
    refine WL.nil ?_
    refine hK3 _ _ ?_
    refine wp_seq_k fun K4 hK4 => ?_
    refine wp_seq_k fun K5 hK5 => ?_
    by_cases hA : 1 ≤ c ∧ c ≤ 8
    · skip
      refine wp_region_list (WL.out ?_)
      refine WL.val (by kernel_rfl) (.int .i64 c) (by go_simp) ?_
      simp only [Act.put, List.setIfInBounds_toArray, List.set_cons_zero, List.set_cons_succ]
      refine WL.callF (by kernel_rfl) 50 _ _ rfl Try.in50 #[.int .i64 c] (by simp [Act.eval]) ?_
      refine (isAuthor_yes c w1 hA).mono ?_
      rintro e w0 ⟨rfl, hw0⟩
      rw [hw0]
      clear hw0 w0
      refine ⟨_, rfl, ?_⟩
      simp only [Act.put, List.setIfInBounds_toArray, List.set_cons_zero, List.set_cons_succ]
      refine WL.val (by kernel_rfl) (.bool false) (by go_simp) ?_
      simp only [Act.put, List.setIfInBounds_toArray, List.set_cons_zero, List.set_cons_succ]
      refine WL.nil ?_
      refine hK5 _ _ ?_
      refine wp_cond_false rfl ?_
      refine wp_skip ?_
      refine hK4 _ _ ?_
      refine wp_seq_k fun K6 hK6 => ?_
      refine wp_region_list (WL.out ?_)
      refine WL.val (by kernel_rfl) (.int .i64 c) (by go_simp) ?_
      simp only [Act.put, List.setIfInBounds_toArray, List.set_cons_zero, List.set_cons_succ]
      refine WL.val (by kernel_rfl) (.int .i64 c) (by go_simp) ?_
      simp only [Act.put, List.setIfInBounds_toArray, List.set_cons_zero, List.set_cons_succ]
      refine WL.nil ?_
      refine hK6 _ _ ?_
      refine wp_ret ?_
      go_ret
      exact .inl ⟨by rw [HR2.out hE hA], by rw [← Hcv.out hE]; rfl, by rw [HR2.out hE hA, ← HN1.out hE]; exact H1.out, H2.out⟩
    · skip
      refine wp_region_list (WL.out ?_)
      refine WL.val (by kernel_rfl) (.int .i64 c) (by go_simp) ?_
      simp only [Act.put, List.setIfInBounds_toArray, List.set_cons_zero, List.set_cons_succ]
      refine WL.callF (by kernel_rfl) 50 _ _ rfl Try.in50 #[.int .i64 c] (by simp [Act.eval]) ?_
      refine (isAuthor_no c w1 hA).mono ?_
      rintro e w0 ⟨rfl, hw0⟩
      rw [hw0]
      clear hw0 w0
      refine ⟨_, rfl, ?_⟩
      simp only [Act.put, List.setIfInBounds_toArray, List.set_cons_zero, List.set_cons_succ]
      refine WL.val (by kernel_rfl) (.bool true) (by go_simp) ?_
      simp only [Act.put, List.setIfInBounds_toArray, List.set_cons_zero, List.set_cons_succ]
      refine WL.nil ?_
      refine hK5 _ _ ?_
      refine wp_cond_true rfl ?_
      refine wp_region_list (WL.out ?_)
      refine WL.val (by kernel_rfl) (.int .i64 (a : Int)) (by go_simp) ?_
      simp only [Act.put, List.setIfInBounds_toArray, List.set_cons_zero, List.set_cons_succ]
      refine WL.callP (by kernel_rfl) 62 _ _ rfl Try.in62 #[.int .i64 50, .int .i64 (a : Int)] (by simp [Act.eval]) ?_
      refine (at_any 50 a w1).mono ?_
      rintro e wz ⟨rfl, hbz, hwz⟩
      have HBd : Keep (BadAt wz w1.heap.size 50 a) := ⟨hbz⟩
      have HGd : Keep (Grown w wz fun k => k = p) := ⟨H2.out.trans (Grown.below hwz)⟩
      clear hbz hwz
      refine .inr ⟨_, rfl, ?_⟩
      try simp only [Exit.inBlock, Exit.then]
      refine ⟨rfl, ?_⟩
      exact .inr ⟨by rw [HR3.out hE hA]; exact (by decide : (50 : Int) ≠ 0), w1.heap.size, H2.out.size, rfl, by rw [HR3.out hE hA]; exact HBd.out, HGd.out⟩
  · rcases H3.out with ⟨e1, _, _⟩ | ⟨_, q, hq, rfl, rfl, hbad⟩
    · exact absurd e1 hE
    have Hbad := Keep.mk hbad
    clear hbad
    unfold err
    refine WL.val (by kernel_rfl) (.int .u8 c) (by go_simp) ?_
    simp only [Act.put, List.setIfInBounds_toArray, List.set_cons_zero, List.set_cons_succ]
    refine WL.val (by kernel_rfl) (.iface 68 (ptr q)) (by go_simp) ?_
    simp only [Act.put, List.setIfInBounds_toArray, List.set_cons_zero, List.set_cons_succ]
    refine WL.callP (by kernel_rfl) 86 _ _ rfl Try.in86 #[.int .u8 c, err q] (by simp [Act.eval, err]) ?_
    refine (must86_bad _ q w1).mono ?_
    rintro e w' ⟨rfl, rfl⟩
    refine .inr ⟨_, rfl, ?_⟩
    try simp only [Exit.inBlock, Exit.then]
    refine ⟨rfl, ?_⟩
    exact .inr ⟨by rw [HR1.out hE]; exact hE, q, hq, rfl, by rw [HR1.out hE]; exact Hbad.out, H2.out⟩
theorem readClock_any (p : Nat) (s : ByteArray) (a : Nat) (w : World) (hI : InAt w p s a none) (hb : s.size ≤ 140737488355328) :
    Calls Try.prog 59 #[ptr p] w (Reads p s (ckR (lst s) a) (.int .i64 (fstM ((lst s).drop a) 4096).1) w) := by
  have HI := Keep.mk hI
  have hrg := fst_rng ((lst s).drop a) ((lst_byts s).drop a) 4096 (by decide)
  have hc0 : Calls Try.prog 61 #[ptr p, .int .u64 4096] w (RdPost p s (fstM ((lst s).drop a) 4096).2.2 (a + (fstM ((lst s).drop a) 4096).2.1.toNat) (.int .u64 (fstM ((lst s).drop a) 4096).1) w) := inum_good p s a 4096 w hI hb
  obtain ⟨R, hR⟩ : ∃ R, R = ckR (lst s) a := ⟨_, rfl⟩
  rw [← hR]
  unfold ckR at hR
  generalize fstM ((lst s).drop a) 4096 = M at *
  obtain ⟨c, n, W⟩ := M
  simp only at hR hc0 hrg ⊢
  obtain ⟨N, hN⟩ : ∃ N, N = n.toNat := ⟨_, rfl⟩
  rw [← hN] at hR hc0
  have HC := Keep.mk hc0
  have Hcr := Keep.mk hrg
  have HR1 : Keep (¬ W = 0 → R = (W, a + N)) := ⟨fun h => by rw [hR, if_pos h]⟩
  have HR2 : Keep (W = 0 → ¬ c = 0 → R = (0, a + N)) := ⟨fun h1 h2 => by rw [hR, if_neg (by simp [h1]), if_neg h2]⟩
  have HR3 : Keep (W = 0 → c = 0 → R = (51, a)) := ⟨fun h1 h2 => by rw [hR, if_neg (by simp [h1]), if_pos h2]⟩
  clear hI hb hR hN hrg hc0
  go_enter Try.func59, Try.ntmps59
  refine wp_seq_k fun K1 hK1 => ?_
  refine wp_region_list (WL.out ?_)
  refine WL.val (by kernel_rfl) (.int .i64 0) (by go_simp) ?_
  simp only [Act.put, List.setIfInBounds_toArray, List.set_cons_zero, List.set_cons_succ]
  refine WL.nil ?_
  refine hK1 _ _ ?_
  refine wp_seq_k fun K2 hK2 => ?_
  refine wp_region_list (WL.out ?_)
  refine WL.val (by kernel_rfl) (.pointer (some ⟨p, 0, none⟩)) (by go_simp) ?_
  simp only [Act.put, List.setIfInBounds_toArray, List.set_cons_zero, List.set_cons_succ]
  refine WL.callF (by kernel_rfl) 58 _ _ rfl Try.in58 #[ptr p] (by simp [Act.eval]) ?_
  refine (iat_any p s a none w HI.out).mono ?_
  rintro e w0 ⟨rfl, hw0⟩
  rw [hw0]
  clear hw0 w0
  refine ⟨_, rfl, ?_⟩
  simp only [Act.put, List.setIfInBounds_toArray, List.set_cons_zero, List.set_cons_succ]
  refine WL.val (by kernel_rfl) (.int .i64 (a : Int)) (by go_simp) ?_
  simp only [Act.put, List.setIfInBounds_toArray, List.set_cons_zero, List.set_cons_succ]
  refine WL.nil ?_
  refine hK2 _ _ ?_
  refine wp_seq_k fun K3 hK3 => ?_
  refine wp_region_list (WL.out ?_)
  refine WL.val (by kernel_rfl) (.pointer (some ⟨p, 0, none⟩)) (by go_simp) ?_
  simp only [Act.put, List.setIfInBounds_toArray, List.set_cons_zero, List.set_cons_succ]
  refine WL.callF (by kernel_rfl) 61 _ _ rfl Try.in61 #[ptr p, .int .u64 4096] (by simp [Act.eval]) ?_
  refine (HC.out).mono ?_
  rintro e w1 ⟨bad, er, rfl, h1, h2, h3⟩
  refine ⟨_, rfl, ?_⟩
  have H1 := Keep.mk h1
  have H2 := Keep.mk h2
  have H3 := Keep.mk h3
  clear h1 h2 h3
  simp only [Act.put, List.setIfInBounds_toArray, List.set_cons_zero, List.set_cons_succ]
  by_cases hE : W = 0
  · rcases H3.out with ⟨e1, rfl, rfl⟩ | ⟨e1, _⟩
    rotate_left
    · exact absurd hE e1
    have hwc : IntKind.i64.wrap c = c := by rw [IntKind.wrap_i64]; have := Hcr.out; omega
    refine WL.val (by kernel_rfl) (.int .u64 c) (by go_simp) ?_
    simp only [Act.put, List.setIfInBounds_toArray, List.set_cons_zero, List.set_cons_succ]
    refine WL.val (by kernel_rfl) (.nilIface) (by go_simp) ?_
    simp only [Act.put, List.setIfInBounds_toArray, List.set_cons_zero, List.set_cons_succ]
    refine WL.callF (by kernel_rfl) 60 _ _ rfl Try.in60 #[.int .u64 c, .nilIface] (by simp [Act.eval]) ?_
    refine (must60_ok (.int .u64 c) w1).mono ?_
    rintro e w0 ⟨rfl, hw0⟩
    rw [hw0]
    clear hw0 w0
    refine ⟨_, rfl, ?_⟩
    simp only [Act.put, List.setIfInBounds_toArray, List.set_cons_zero, List.set_cons_succ]
    refine WL.val (by kernel_rfl) (.int .i64 c) (by go_simp) ?_
    simp only [Act.put, List.setIfInBounds_toArray, List.set_cons_zero, List.set_cons_succ]
    refine WL.val (by kernel_rfl) (.int .i64 c) (by go_simp) ?_
    simp only [Act.put, List.setIfInBounds_toArray, List.set_cons_zero, List.set_cons_succ]
    refine WL.nil ?_
    refine hK3 _ _ ?_
    refine wp_seq_k fun K4 hK4 => ?_
    refine wp_seq_k fun K5 hK5 => ?_
    refine wp_region_list (WL.out ?_)
    refine WL.val (by kernel_rfl) (.int .i64 c) (by go_simp) ?_
    simp only [Act.put, List.setIfInBounds_toArray, List.set_cons_zero, List.set_cons_succ]
    by_cases h3_1 : c = 0
    · skip
      refine WL.val (by kernel_rfl) (.bool true) (by go_simp) ?_
      simp only [Act.put, List.setIfInBounds_toArray, List.set_cons_zero, List.set_cons_succ]
      refine WL.nil ?_
      refine hK5 _ _ ?_
      refine wp_cond_true rfl ?_
      refine wp_region_list (WL.out ?_)
      refine WL.val (by kernel_rfl) (.int .i64 (a : Int)) (by go_simp) ?_
      simp only [Act.put, List.setIfInBounds_toArray, List.set_cons_zero, List.set_cons_succ]
      refine WL.callP (by kernel_rfl) 62 _ _ rfl Try.in62 #[.int .i64 51, .int .i64 (a : Int)] (by simp [Act.eval]) ?_
      refine (at_any 51 a w1).mono ?_
      rintro e wz ⟨rfl, hbz, hwz⟩
      have HBd : Keep (BadAt wz w1.heap.size 51 a) := ⟨hbz⟩
      have HGd : Keep (Grown w wz fun k => k = p) := ⟨H2.out.trans (Grown.below hwz)⟩
      clear hbz hwz
      refine .inr ⟨_, rfl, ?_⟩
      try simp only [Exit.inBlock, Exit.then]
      refine ⟨rfl, ?_⟩
      exact .inr ⟨by rw [HR3.out hE h3_1]; exact (by decide : (51 : Int) ≠ 0), w1.heap.size, H2.out.size, rfl, by rw [HR3.out hE h3_1]; exact HBd.out, HGd.out⟩
    · skip
      refine WL.val (by kernel_rfl) (.bool false) (by go_simp) ?_
      simp only [Act.put, List.setIfInBounds_toArray, List.set_cons_zero, List.set_cons_succ]
      refine WL.nil ?_
      refine hK5 _ _ ?_
      refine wp_cond_false rfl ?_
      refine wp_skip ?_
      refine hK4 _ _ ?_
      refine wp_seq_k fun K6 hK6 => ?_
      refine wp_region_list (WL.out ?_)
      refine WL.val (by kernel_rfl) (.int .i64 c) (by go_simp) ?_
      simp only [Act.put, List.setIfInBounds_toArray, List.set_cons_zero, List.set_cons_succ]
      refine WL.val (by kernel_rfl) (.int .i64 c) (by go_simp) ?_
      simp only [Act.put, List.setIfInBounds_toArray, List.set_cons_zero, List.set_cons_succ]
      refine WL.nil ?_
      refine hK6 _ _ ?_
      refine wp_ret ?_
      go_ret
      exact .inl ⟨by rw [HR2.out hE h3_1], rfl, by rw [HR2.out hE h3_1]; exact H1.out, H2.out⟩
  · rcases H3.out with ⟨e1, _, _⟩ | ⟨_, q, hq, rfl, rfl, hbad⟩
    · exact absurd e1 hE
    have Hbad := Keep.mk hbad
    clear hbad
    unfold err
    refine WL.val (by kernel_rfl) (.int .u64 c) (by go_simp) ?_
    simp only [Act.put, List.setIfInBounds_toArray, List.set_cons_zero, List.set_cons_succ]
    refine WL.val (by kernel_rfl) (.iface 68 (ptr q)) (by go_simp) ?_
    simp only [Act.put, List.setIfInBounds_toArray, List.set_cons_zero, List.set_cons_succ]
    refine WL.callP (by kernel_rfl) 60 _ _ rfl Try.in60 #[.int .u64 c, err q] (by simp [Act.eval, err]) ?_
    refine (must60_bad _ q w1).mono ?_
    rintro e w' ⟨rfl, rfl⟩
    refine .inr ⟨_, rfl, ?_⟩
    try simp only [Exit.inBlock, Exit.then]
    refine ⟨rfl, ?_⟩
    exact .inr ⟨by rw [HR1.out hE]; exact hE, q, hq, rfl, by rw [HR1.out hE]; exact Hbad.out, H2.out⟩
def HsPost (p : Nat) (s : ByteArray) (R : Int × Nat × List Hs) (w : World) (e : Ending) (w' : World) : Prop :=
  (R.1 = 0 ∧ ∃ v, e = .returned v ∧ OwnH w' v R.2.2 ∧ (∀ k, v.ownBlock = some k → w.heap.size ≤ k) ∧ InAt w' p s R.2.1 none ∧ Grown w w' fun k => k = p) ∨ Gives p (R.1, R.2.1) w e w'
theorem bytesA_list (c : Nat → Int) : (bytesA 32 c).toList.toArray = bytesA 32 c := Array.toArray_toList
theorem Try.sizeHL (h : Hs) : (Try.prog.info? 40).map (·.size) = some (Sh.encH h).length := by rw [Sh.encH_len]; exact Try.size40
theorem enc_load (h : Hs) : (Sh.encH h).toArray = bytesA 32 h.f := Sh.encH_arr h
theorem OwnH.elem {w : World} {v : Value} {l : List Hs} (h : OwnH w v l) (i : Nat) (hi : i < l.length) : ∃ g cap, v = .slice (some ⟨g, 0, none⟩) l.length cap ∧ ∀ wx, (∀ cs, Blk w g 40 cs → Blk wx g 40 cs) → wx.rangeAt g (i * 32) (Sh.encH (l.getD i default)) := by
  rcases h.form with ⟨_, h0⟩ | ⟨g, cap, cur, rfl, h1, h2, h3⟩
  · rw [h0] at hi; exact absurd hi (Nat.not_lt_zero _)
  · refine ⟨g, cap, rfl, fun wx hx => ?_⟩
    have hr : wx.rangeAt g 0 (Sh.flatH l) := fun j u hu => by
      rw [Nat.zero_add, (hx _ h1).cell]
      rw [← h3, List.getElem?_take] at hu
      split at hu
      · rwa [Array.getElem?_toList] at hu
      · cases hu
    have := Sh.rangeAt_elem hr i hi
    rw [Nat.zero_add] at this
    rwa [show l.getD i default = l[i] by simp [List.getD_eq_getElem?_getD, hi]]
theorem Try.in76 (w : World) (vs : Array Value) : (callFunc 76 vs).run Try.prog w = .ok (.enter 76 vs) w := by kernel_rfl
set_option maxRecDepth 8000 in
set_option maxHeartbeats 4000000 in
theorem readParents_any (p : Nat) (s : ByteArray) (a n : Nat) (w : World) (hI : InAt w p s a none) (hb : s.size ≤ 140737488355328) (hn : n ≤ 64) :
    Calls Try.prog 63 #[ptr p, .int .i64 (n : Int)] w (HsPost p s (getH (lst s) n [] a) w) := by
  have HI := Keep.mk hI
  have Hb := Keep.mk hb
  have Hn := Keep.mk hn
  obtain ⟨R, hR⟩ : ∃ R, R = getH (lst s) n [] a := ⟨_, rfl⟩
  rw [← hR]
  have HR := Keep.mk hR
  clear hI hb hn hR
  go_enter Try.func63, Try.ntmps63
  refine wp_seq_k fun K1 hK1 => ?_
  refine wp_region_list (WL.out ?_)
  refine WL.val (by kernel_rfl) (.slice none 0 0) (by go_simp) ?_
  simp only [Act.put, List.setIfInBounds_toArray, List.set_cons_zero, List.set_cons_succ]
  refine WL.nil ?_
  refine hK1 _ _ ?_
  refine wp_seq_k fun K2 hK2 => ?_
  refine wp_region_list (WL.out ?_)
  refine WL.bs (by kernel_rfl) 24 0 _ rfl #[] (by simp) _ _ (bsHE w) ?_
  have HO3 := Keep.mk (ownH_empty w)
  have B3 : Keep (Below w.heap.size w (w.alloc (.cells #[] 40))) := ⟨below_new w _⟩
  generalize w.alloc (.cells #[] 40) = w3 at *
  have HOn3 : Keep (∀ k, (Value.slice (some ⟨w.heap.size, 0, none⟩) 0 0).ownBlock = some k → w.heap.size ≤ k) := ⟨fun k hk => by simp [Value.ownBlock] at hk; omega⟩
  have HI3 : Keep (InAt w3 p s a none) := ⟨HI.out.blk.below B3.out HI.out.blk.lt, HI.out.le⟩
  have HG3 : Keep (Grown w w3 fun k => k = p) := ⟨Grown.below B3.out⟩
  simp only [Act.put, List.setIfInBounds_toArray, List.set_cons_zero, List.set_cons_succ]
  refine WL.val (by kernel_rfl) (.slice (some ⟨w.heap.size, 0, none⟩) 0 0) (by go_simp) ?_
  simp only [Act.put, List.setIfInBounds_toArray, List.set_cons_zero, List.set_cons_succ]
  refine WL.nil ?_
  refine hK2 _ _ ?_
  refine wp_seq_k fun K3 hK3 => ?_
  refine wp_seq_k fun K4 hK4 => ?_
  refine wp_region_list (WL.out ?_)
  refine WL.val (by kernel_rfl) (.int .i64 (n : Int)) (by go_simp) ?_
  simp only [Act.put, List.setIfInBounds_toArray, List.set_cons_zero, List.set_cons_succ]
  refine WL.val (by kernel_rfl) (.int .i64 0) (by go_simp) ?_
  simp only [Act.put, List.setIfInBounds_toArray, List.set_cons_zero, List.set_cons_succ]
  refine WL.nil ?_
  refine hK4 _ _ ?_
  refine wp_block ?_
  refine wp_loop (fun ac wr => ∃ (t : Nat) (u5 u6 u7 u8 u12 u13 u14 u15 u16 u17 u18 u19 u20 u21 u22 u23 u24 u25 u26 u27 u28 u29 u30 u31 u32 u33 u34 u35 u36 u37 u38 u39 : Value), ac = { tmps := #[.pointer (some ⟨p, 0, none⟩), .int .i64 (n : Int), undef, undef, .slice none 0 0, u5, u6, u7, u8, .slice (some ⟨w.heap.size, 0, none⟩) 0 0, .int .i64 (n : Int), .int .i64 (t : Int), u12, u13, u14, u15, u16, u17, u18, u19, u20, u21, u22, u23, u24, u25, u26, u27, u28, u29, u30, u31, u32, u33, u34, u35, u36, u37, u38, u39, undef], defers := [] } ∧ t ≤ n ∧ ∃ l at_, getH (lst s) n [] a = getH (lst s) (n - t) l at_ ∧ InAt wr p s at_ none ∧ OwnH wr u5 l ∧ (∀ k, u5.ownBlock = some k → w.heap.size ≤ k) ∧ (Grown w wr fun k => k = p) ∧ l.length = t) (fun a _ => n - (intOf (a.tmps.getD 11 undef)).toNat) ⟨0, .slice (some ⟨w.heap.size, 0, none⟩) 0 0, undef, undef, undef, undef, undef, undef, undef, undef, undef, undef, undef, undef, undef, undef, undef, undef, undef, undef, undef, undef, undef, undef, undef, undef, undef, undef, undef, undef, undef, undef, undef, rfl, by omega, [], a, rfl, HI3.out, HO3.out, HOn3.out, HG3.out, rfl⟩ ?_
  rintro ac wr ⟨t, u5, u6, u7, u8, u12, u13, u14, u15, u16, u17, u18, u19, u20, u21, u22, u23, u24, u25, u26, u27, u28, u29, u30, u31, u32, u33, u34, u35, u36, u37, u38, u39, rfl, ht, l, at_, hC, hI, hO, hOn, hG, hLn⟩
  by_cases htl : t < n
  · have htl' : (t : Int) < (n : Int) := by omega
    obtain ⟨k1, hk1⟩ : ∃ k1, n - t = k1 + 1 := ⟨n - t - 1, by omega⟩
    rw [hk1, getH] at hC
    have hk2 : k1 = n - (t + 1) := by omega
    rw [hk2] at hC
    have hwr1 : IntKind.i64.wrap ((t : Int) + 1) = (t : Int) + 1 := by rw [IntKind.wrap_i64]; have := Hn.out; omega
    obtain ⟨oa, oc, rfl⟩ := hO.sl
    obtain ⟨D, hD⟩ : ∃ D, D = (lst s).drop at_ := ⟨_, rfl⟩
    obtain ⟨W, hW⟩ : ∃ W, W = nextW D 32 := ⟨_, rfl⟩
    obtain ⟨N, hN⟩ : ∃ N, N = nextN D 32 := ⟨_, rfl⟩
    obtain ⟨hh, hhh⟩ : ∃ hh, hh = hs (D.take 32) := ⟨_, rfl⟩
    have HC0 := Keep.mk (ihash_good p s at_ wr hI Hb.out D hD W hW N hN)
    rw [← hD, ← hW, ← hN, ← hhh] at hC
    have heq : Keep (W = 0 → bytesA 32 (hrd D W) = bytesA 32 hh.f) := ⟨fun h => by rw [h, hhh]; exact hrd_hs D (by rw [← hW]; exact h) (by rw [hD]; exact (lst_byts s).drop at_)⟩
    have HN32 : Keep (W = 0 → N = 32) := ⟨fun h => by rw [hN, (nextN_0 D 32 (by rw [← hW]; exact h)).1]; rfl⟩
    have JC := Keep.mk hC
    have JI := Keep.mk hI
    have JO := Keep.mk hO
    have JOn := Keep.mk hOn
    have JG := Keep.mk hG
    have JLn := Keep.mk hLn
    clear hC hI hO hOn hG hLn hk1 hk2 hD hW hN hhh
    refine wp_seq_k fun K5 hK5 => ?_
    refine wp_region_list (WL.out ?_)
    refine WL.val (by kernel_rfl) (.bool true) (by go_simp) ?_
    simp only [Act.put, List.setIfInBounds_toArray, List.set_cons_zero, List.set_cons_succ]
    refine WL.nil ?_
    refine hK5 _ _ ?_
    refine wp_seq_k fun K6 hK6 => ?_
    refine wp_cond_true rfl ?_
    refine wp_skip ?_
    refine hK6 _ _ ?_
    refine wp_seq_k fun K7 hK7 => ?_
    refine wp_block ?_
    refine wp_seq_k fun K8 hK8 => ?_
    refine wp_region_list (WL.out ?_)
    refine WL.val (by kernel_rfl) (.int .i64 (t : Int)) (by go_simp) ?_
    simp only [Act.put, List.setIfInBounds_toArray, List.set_cons_zero, List.set_cons_succ]
    refine WL.val (by kernel_rfl) (.int .i64 (t : Int)) (by go_simp) ?_
    simp only [Act.put, List.setIfInBounds_toArray, List.set_cons_zero, List.set_cons_succ]
    refine WL.nil ?_
    refine hK8 _ _ ?_
    refine wp_seq_k fun K9 hK9 => ?_
    refine wp_region_list (WL.out ?_)
    refine WL.val (by kernel_rfl) (.pointer (some ⟨p, 0, none⟩)) (by go_simp) ?_
    simp only [Act.put, List.setIfInBounds_toArray, List.set_cons_zero, List.set_cons_succ]
    refine WL.callF (by kernel_rfl) 58 _ _ rfl Try.in58 #[ptr p] (by simp [Act.eval]) ?_
    refine (iat_any p s at_ none wr JI.out).mono ?_
    rintro e w0 ⟨rfl, hw0⟩
    rw [hw0]
    clear hw0 w0
    refine ⟨_, rfl, ?_⟩
    simp only [Act.put, List.setIfInBounds_toArray, List.set_cons_zero, List.set_cons_succ]
    refine WL.val (by kernel_rfl) (.int .i64 (at_ : Int)) (by go_simp) ?_
    simp only [Act.put, List.setIfInBounds_toArray, List.set_cons_zero, List.set_cons_succ]
    refine WL.nil ?_
    refine hK9 _ _ ?_
    refine wp_seq_k fun K10 hK10 => ?_
    refine wp_region_list (WL.out ?_)
    refine WL.val (by kernel_rfl) (.pointer (some ⟨p, 0, none⟩)) (by go_simp) ?_
    simp only [Act.put, List.setIfInBounds_toArray, List.set_cons_zero, List.set_cons_succ]
    refine WL.callF (by kernel_rfl) 91 _ _ rfl Try.in91 #[ptr p] (by simp [Act.eval]) ?_
    refine (HC0.out).mono ?_
    rintro e w1 ⟨bad, er, rfl, h1, h2, h3⟩
    refine ⟨_, rfl, ?_⟩
    have H1 := Keep.mk h1
    have H2 := Keep.mk (JG.out.trans h2)
    have HO1 := Keep.mk (JO.out.grown h2 (fun k hk e => JO.out.ne JI.out.blk (by decide) (e ▸ hk)))
    have H3 := Keep.mk h3
    clear h1 h2 h3
    simp only [Act.put, List.setIfInBounds_toArray, List.set_cons_zero, List.set_cons_succ]
    by_cases hE : W = 0
    · rcases H3.out with ⟨e1, rfl, rfl⟩ | ⟨e1, _⟩
      rotate_left
      · exact absurd hE e1
      rw [heq.out hE]
      refine WL.val (by kernel_rfl) (.agg (bytesA 32 hh.f)) (by go_simp) ?_
      simp only [Act.put, List.setIfInBounds_toArray, List.set_cons_zero, List.set_cons_succ]
      refine WL.val (by kernel_rfl) (.nilIface) (by go_simp) ?_
      simp only [Act.put, List.setIfInBounds_toArray, List.set_cons_zero, List.set_cons_succ]
      refine WL.callF (by kernel_rfl) 90 _ _ rfl Try.in90 #[.agg (bytesA 32 hh.f), .nilIface] (by simp [Act.eval]) ?_
      refine (mustH_ok hh.f w1).mono ?_
      rintro e w2 ⟨rfl, hb2⟩
      refine ⟨_, rfl, ?_⟩
      have B2 := Keep.mk hb2
      clear hb2
      simp only [Act.put, List.setIfInBounds_toArray, List.set_cons_zero, List.set_cons_succ]
      refine WL.new (by kernel_rfl) 40 rfl _ Try.new40 ?_
      simp only [Act.put, List.setIfInBounds_toArray, List.set_cons_zero, List.set_cons_succ]
      refine WL.storeR (by kernel_rfl) 40 (.tmp 8) (.tmp 20) rfl w2.heap.size (bytesA 32 hh.f) rfl rfl 40 (bytesA 32 fun _ => 0) (Blk.new w2 40 _) (Try.size40B _) (bytesA_sizes _ _ _) (bytesA_one _ _) ?_
      have HX3 := Keep.mk ((Blk.new w2 40 (bytesA 32 fun _ => 0)).setRow (bytesA 32 hh.f))
      have B3 : Keep (Below w2.heap.size w2 ((w2.alloc (.cells (bytesA 32 fun _ => 0) 40)).setRow w2.heap.size (bytesA 32 hh.f))) := ⟨below_setRow (below_new w2 _) (Nat.le_refl _) _⟩
      generalize (w2.alloc (.cells (bytesA 32 fun _ => 0) 40)).setRow w2.heap.size (bytesA 32 hh.f) = w3 at *
      have B13 : Keep (Below w1.heap.size w1 w3) := ⟨B2.out.trans (B3.out.mono B2.out.size)⟩
      have HI3 : Keep (InAt w3 p s (at_ + N) none) := ⟨H1.out.blk.below B13.out H1.out.blk.lt, H1.out.le⟩
      have HO3 := Keep.mk (HO1.out.below B13.out)
      have HG3 : Keep (Grown w w3 fun k => k = p) := ⟨H2.out.trans (Grown.below B13.out)⟩
      have HI3b := Keep.mk HI3.out.blk
      simp only [Act.put]
      refine WL.nil ?_
      refine hK10 _ _ ?_
      refine wp_seq_k fun K11 hK11 => ?_
      refine wp_seq_k fun K12 hK12 => ?_
      have hD0 : Below w3.heap.size w3 w3.drew := (Below.refl _ _).drew
      by_cases ht0 : 0 < t
      · have ht0' : (0 : Int) < (t : Int) := by omega
        have hlt : t - 1 < l.length := by have := JLn.out; omega
        obtain ⟨gL, cL, hsl, hel⟩ := HO3.out.elem (t - 1) hlt
        injection hsl with hs1 hs2 hs3
        subst hs1 hs3
        obtain ⟨hp, hhp⟩ : ∃ hp, hp = l.getD (t - 1) default := ⟨_, rfl⟩
        rw [← hhp] at hel
        have Hcc : Keep (l.getD (l.length - 1) default = hp) := ⟨by rw [JLn.out, hhp]⟩
        have hsub : IntKind.i64.wrap ((t : Int) - 1) = ((t - 1 : Nat) : Int) := by rw [IntKind.wrap_i64]; have := Hn.out; omega
        have hll := JLn.out
        have HS0 : Keep (∀ wx, Below w3.heap.size w3 wx → wx.rangeAt gL ((t - 1) * 32) (Sh.encH hp) ∧ wx.rangeAt w2.heap.size 0 (bytesA 32 hh.f).toList) := ⟨fun wx hb => ⟨hel wx (fun cs h => h.below hb h.lt), blk_range (HX3.out.below hb HX3.out.lt)⟩⟩
        clear hel hhp
        by_cases hcf : 0 ≤ Sh.cf hp hh
        · skip
          have JC2 := Keep.mk (JC.out.trans ((if_neg (by simp [hE])).trans (if_pos ⟨by have := JLn.out; omega, by rw [Hcc.out]; exact hcf⟩)))
          refine wp_region_held_drew (S := fun wx => wx.rangeAt gL ((t - 1) * 32) (Sh.encH hp) ∧ wx.rangeAt w2.heap.size 0 (bytesA 32 hh.f).toList) (by kernel_rfl) (HS0.out _ hD0) (fun hHeld => ?_)
          refine wpAnyH_take (i := 0) (oi := ⟨some 21, Op.move (Operand.tmp 6), 3, _, _, none⟩) (v := .int .i64 (t : Int)) rfl (by kernel_rfl) (by kernel_rfl) (by kernel_rfl) (fun _ _ _ h => h) (Or.inl ⟨by rfl, fun w hS => by go_simp⟩) hHeld ?_
          simp only [Act.put, List.setIfInBounds_toArray, List.set_cons_zero, List.set_cons_succ]
          refine wpAnyH_take (i := 1) (oi := ⟨some 22, Op.binOp BinOp.gtr 3 (Operand.tmp 21) (Operand.const (Value.int IntKind.i64 0)) 3, 4, _, _, none⟩) (v := .bool true) rfl (by kernel_rfl) (by kernel_rfl) (by kernel_rfl) (fun _ _ _ h => h) (Or.inl ⟨by rfl, fun w hS => by go_simp⟩) hHeld ?_
          simp only [Act.put, List.setIfInBounds_toArray, List.set_cons_zero, List.set_cons_succ]
          refine wpAnyH_take (i := 2) (oi := ⟨some 23, Op.move (Operand.tmp 22), 4, _, _, none⟩) (v := .bool true) rfl (by kernel_rfl) (by kernel_rfl) (by kernel_rfl) (fun _ _ _ h => h) (Or.inl ⟨by rfl, fun w hS => by go_simp⟩) hHeld ?_
          simp only [Act.put, List.setIfInBounds_toArray, List.set_cons_zero, List.set_cons_succ]
          refine wpAnyH_take (i := 3) (oi := ⟨some 24, Op.move (Operand.tmp 5), 24, _, _, some (2, true)⟩) (v := .slice (some ⟨gL, 0, none⟩) l.length oc) rfl (by kernel_rfl) (by kernel_rfl) (by kernel_rfl) (fun _ _ _ h => h) (Or.inl ⟨by rfl, fun w hS => by go_simp⟩) hHeld ?_
          simp only [Act.put, List.setIfInBounds_toArray, List.set_cons_zero, List.set_cons_succ]
          refine wpAnyH_take (i := 4) (oi := ⟨some 25, Op.move (Operand.tmp 6), 3, _, _, some (2, true)⟩) (v := .int .i64 (t : Int)) rfl (by kernel_rfl) (by kernel_rfl) (by kernel_rfl) (fun _ _ _ h => h) (Or.inl ⟨by rfl, fun w hS => by go_simp⟩) hHeld ?_
          simp only [Act.put, List.setIfInBounds_toArray, List.set_cons_zero, List.set_cons_succ]
          refine wpAnyH_take (i := 5) (oi := ⟨some 26, Op.binOp BinOp.sub 3 (Operand.tmp 25) (Operand.const (Value.int IntKind.i64 1)) 3, 3, _, _, some (2, true)⟩) (v := .int .i64 ((t - 1 : Nat) : Int)) rfl (by kernel_rfl) (by kernel_rfl) (by kernel_rfl) (fun _ _ _ h => h) (Or.inl ⟨by rfl, fun w hS => by go_simp⟩) hHeld ?_
          simp only [Act.put, List.setIfInBounds_toArray, List.set_cons_zero, List.set_cons_succ]
          refine wpAnyH_take (i := 6) (oi := ⟨some 27, Op.indexAddr 24 (Operand.tmp 24) (Operand.tmp 26), 0, _, _, some (2, true)⟩) (v := .pointer (some ⟨gL, (t - 1) * 32, none⟩)) rfl (by kernel_rfl) (by kernel_rfl) (by kernel_rfl) (fun _ _ _ h => h) (Or.inl ⟨by rfl, fun w hS => by go_simp; intro h; omega⟩) hHeld ?_
          simp only [Act.put, List.setIfInBounds_toArray, List.set_cons_zero, List.set_cons_succ]
          refine wpAnyH_take (i := 7) (oi := ⟨some 28, Op.load 40 (Operand.tmp 27), 40, _, _, some (2, true)⟩) (v := .agg (Sh.encH hp).toArray) rfl (by kernel_rfl) (by kernel_rfl) (by kernel_rfl) (fun _ _ _ h => h) (yieldsIf_load_mid (by rfl) 40 (Operand.tmp 27) rfl gL ((t - 1) * 32) rfl (Sh.encH hp) _ (fun w hS => hS.1) Try.underlying40 rfl (Try.sizeHL hp)) hHeld ?_
          simp only [Act.put, List.setIfInBounds_toArray, List.set_cons_zero, List.set_cons_succ]
          refine wpAnyH_take (i := 8) (oi := ⟨some 29, Op.load 40 (Operand.tmp 8), 40, _, _, some (2, true)⟩) (v := .agg (bytesA 32 hh.f).toList.toArray) rfl (by kernel_rfl) (by kernel_rfl) (by kernel_rfl) (fun _ _ _ h => h) (yieldsIf_load_mid (by rfl) 40 (Operand.tmp 8) rfl w2.heap.size 0 rfl (bytesA 32 hh.f).toList _ (fun w hS => hS.2) Try.underlying40 rfl (by rw [Array.length_toList]; exact Try.size40B _)) hHeld ?_
          simp only [Act.put, List.setIfInBounds_toArray, List.set_cons_zero, List.set_cons_succ]
          refine wpAnyH_ready (rs := [9]) (by kernel_rfl) (by simp) ?_
          refine AllReadyH.cons (o := ⟨some 30, Op.call { callee := Callee.value (Operand.func 76), args := #[Operand.tmp 28, Operand.tmp 29], argTypes := #[40, 40] }, 3, _, _, some (2, true)⟩) rfl (fun K hK => ?_) AllReadyH.nil
          rw [if_pos (by rfl)]
          refine wp_callF 76 _ _ rfl Try.in76 #[.agg (bytesA 32 hp.f), .agg (bytesA 32 hh.f)] (by simp [Act.eval, enc_load]) (fun vz wz => vz = .int .i64 (Sh.cf hp hh) ∧ Below w3.heap.size w3 wz) ?_ ?_
          · refine (cmp_any hp hh w3.drew).mono ?_
            rintro e wz ⟨rfl, h⟩
            exact ⟨_, rfl, rfl, hD0.trans (h.mono hD0.size)⟩
          rintro vz w7 ⟨rfl, h7⟩
          have HB7 := Keep.mk h7
          clear h7
          refine hK.out _ _ (HS0.out _ HB7.out) fun hHeld2 => ?_
          clear hK
          simp only [Act.put, List.setIfInBounds_toArray, List.set_cons_zero, List.set_cons_succ]
          refine wpAnyH_take (i := 10) (oi := ⟨some 31, Op.binOp BinOp.geq 3 (Operand.tmp 30) (Operand.const (Value.int IntKind.i64 0)) 3, 4, _, _, some (2, true)⟩) (v := .bool true) rfl (by kernel_rfl) (by kernel_rfl) (by kernel_rfl) (fun _ _ _ h => h) (Or.inl ⟨by rfl, fun w hS => by go_simp⟩) hHeld2 ?_
          simp only [Act.put, List.setIfInBounds_toArray, List.set_cons_zero, List.set_cons_succ]
          refine wpAnyH_take (i := 11) (oi := ⟨some 32, Op.pick (Operand.tmp 23) (Operand.tmp 31) (Operand.const (Value.bool false)), 4, _, _, none⟩) (v := .bool true) rfl (by kernel_rfl) (by kernel_rfl) (by kernel_rfl) (fun _ _ _ h => h) (Or.inl ⟨by rfl, fun w hS => by go_simp⟩) hHeld2 ?_
          simp only [Act.put, List.setIfInBounds_toArray, List.set_cons_zero, List.set_cons_succ]
          refine wpAnyH_done (by kernel_rfl) ?_ _
          refine hK12 _ _ ?_
          refine wp_cond_true rfl ?_
          have HG7 : Keep (Grown w w7 fun k => k = p) := ⟨HG3.out.trans (Grown.below HB7.out)⟩
          refine wp_region_list (WL.out ?_)
          refine WL.val (by kernel_rfl) (.int .i64 (at_ : Int)) (by go_simp) ?_
          simp only [Act.put, List.setIfInBounds_toArray, List.set_cons_zero, List.set_cons_succ]
          refine WL.callP (by kernel_rfl) 62 _ _ rfl Try.in62 #[.int .i64 52, .int .i64 (at_ : Int)] (by simp [Act.eval]) ?_
          refine (at_any 52 at_ w7).mono ?_
          rintro e wz ⟨rfl, hbz, hwz⟩
          have HBd : Keep (BadAt wz w7.heap.size 52 at_) := ⟨hbz⟩
          have HGd : Keep (Grown w wz fun k => k = p) := ⟨HG7.out.trans (Grown.below hwz)⟩
          clear hbz hwz
          refine .inr ⟨_, rfl, ?_⟩
          try simp only [Exit.inBlock, Exit.then]
          refine ⟨rfl, ?_⟩
          exact .inr ⟨by rw [HR.out, JC2.out]; exact (by decide : (52 : Int) ≠ 0), w7.heap.size, HG7.out.size, rfl, by rw [HR.out, JC2.out]; exact HBd.out, HGd.out⟩
        · skip
          have JC2 := Keep.mk (JC.out.trans ((if_neg (by simp [hE])).trans (if_neg (fun h => hcf (by rw [← Hcc.out]; exact h.2)))))
          refine wp_region_held_drew (S := fun wx => wx.rangeAt gL ((t - 1) * 32) (Sh.encH hp) ∧ wx.rangeAt w2.heap.size 0 (bytesA 32 hh.f).toList) (by kernel_rfl) (HS0.out _ hD0) (fun hHeld => ?_)
          refine wpAnyH_take (i := 0) (oi := ⟨some 21, Op.move (Operand.tmp 6), 3, _, _, none⟩) (v := .int .i64 (t : Int)) rfl (by kernel_rfl) (by kernel_rfl) (by kernel_rfl) (fun _ _ _ h => h) (Or.inl ⟨by rfl, fun w hS => by go_simp⟩) hHeld ?_
          simp only [Act.put, List.setIfInBounds_toArray, List.set_cons_zero, List.set_cons_succ]
          refine wpAnyH_take (i := 1) (oi := ⟨some 22, Op.binOp BinOp.gtr 3 (Operand.tmp 21) (Operand.const (Value.int IntKind.i64 0)) 3, 4, _, _, none⟩) (v := .bool true) rfl (by kernel_rfl) (by kernel_rfl) (by kernel_rfl) (fun _ _ _ h => h) (Or.inl ⟨by rfl, fun w hS => by go_simp⟩) hHeld ?_
          simp only [Act.put, List.setIfInBounds_toArray, List.set_cons_zero, List.set_cons_succ]
          refine wpAnyH_take (i := 2) (oi := ⟨some 23, Op.move (Operand.tmp 22), 4, _, _, none⟩) (v := .bool true) rfl (by kernel_rfl) (by kernel_rfl) (by kernel_rfl) (fun _ _ _ h => h) (Or.inl ⟨by rfl, fun w hS => by go_simp⟩) hHeld ?_
          simp only [Act.put, List.setIfInBounds_toArray, List.set_cons_zero, List.set_cons_succ]
          refine wpAnyH_take (i := 3) (oi := ⟨some 24, Op.move (Operand.tmp 5), 24, _, _, some (2, true)⟩) (v := .slice (some ⟨gL, 0, none⟩) l.length oc) rfl (by kernel_rfl) (by kernel_rfl) (by kernel_rfl) (fun _ _ _ h => h) (Or.inl ⟨by rfl, fun w hS => by go_simp⟩) hHeld ?_
          simp only [Act.put, List.setIfInBounds_toArray, List.set_cons_zero, List.set_cons_succ]
          refine wpAnyH_take (i := 4) (oi := ⟨some 25, Op.move (Operand.tmp 6), 3, _, _, some (2, true)⟩) (v := .int .i64 (t : Int)) rfl (by kernel_rfl) (by kernel_rfl) (by kernel_rfl) (fun _ _ _ h => h) (Or.inl ⟨by rfl, fun w hS => by go_simp⟩) hHeld ?_
          simp only [Act.put, List.setIfInBounds_toArray, List.set_cons_zero, List.set_cons_succ]
          refine wpAnyH_take (i := 5) (oi := ⟨some 26, Op.binOp BinOp.sub 3 (Operand.tmp 25) (Operand.const (Value.int IntKind.i64 1)) 3, 3, _, _, some (2, true)⟩) (v := .int .i64 ((t - 1 : Nat) : Int)) rfl (by kernel_rfl) (by kernel_rfl) (by kernel_rfl) (fun _ _ _ h => h) (Or.inl ⟨by rfl, fun w hS => by go_simp⟩) hHeld ?_
          simp only [Act.put, List.setIfInBounds_toArray, List.set_cons_zero, List.set_cons_succ]
          refine wpAnyH_take (i := 6) (oi := ⟨some 27, Op.indexAddr 24 (Operand.tmp 24) (Operand.tmp 26), 0, _, _, some (2, true)⟩) (v := .pointer (some ⟨gL, (t - 1) * 32, none⟩)) rfl (by kernel_rfl) (by kernel_rfl) (by kernel_rfl) (fun _ _ _ h => h) (Or.inl ⟨by rfl, fun w hS => by go_simp; intro h; omega⟩) hHeld ?_
          simp only [Act.put, List.setIfInBounds_toArray, List.set_cons_zero, List.set_cons_succ]
          refine wpAnyH_take (i := 7) (oi := ⟨some 28, Op.load 40 (Operand.tmp 27), 40, _, _, some (2, true)⟩) (v := .agg (Sh.encH hp).toArray) rfl (by kernel_rfl) (by kernel_rfl) (by kernel_rfl) (fun _ _ _ h => h) (yieldsIf_load_mid (by rfl) 40 (Operand.tmp 27) rfl gL ((t - 1) * 32) rfl (Sh.encH hp) _ (fun w hS => hS.1) Try.underlying40 rfl (Try.sizeHL hp)) hHeld ?_
          simp only [Act.put, List.setIfInBounds_toArray, List.set_cons_zero, List.set_cons_succ]
          refine wpAnyH_take (i := 8) (oi := ⟨some 29, Op.load 40 (Operand.tmp 8), 40, _, _, some (2, true)⟩) (v := .agg (bytesA 32 hh.f).toList.toArray) rfl (by kernel_rfl) (by kernel_rfl) (by kernel_rfl) (fun _ _ _ h => h) (yieldsIf_load_mid (by rfl) 40 (Operand.tmp 8) rfl w2.heap.size 0 rfl (bytesA 32 hh.f).toList _ (fun w hS => hS.2) Try.underlying40 rfl (by rw [Array.length_toList]; exact Try.size40B _)) hHeld ?_
          simp only [Act.put, List.setIfInBounds_toArray, List.set_cons_zero, List.set_cons_succ]
          refine wpAnyH_ready (rs := [9]) (by kernel_rfl) (by simp) ?_
          refine AllReadyH.cons (o := ⟨some 30, Op.call { callee := Callee.value (Operand.func 76), args := #[Operand.tmp 28, Operand.tmp 29], argTypes := #[40, 40] }, 3, _, _, some (2, true)⟩) rfl (fun K hK => ?_) AllReadyH.nil
          rw [if_pos (by rfl)]
          refine wp_callF 76 _ _ rfl Try.in76 #[.agg (bytesA 32 hp.f), .agg (bytesA 32 hh.f)] (by simp [Act.eval, enc_load]) (fun vz wz => vz = .int .i64 (Sh.cf hp hh) ∧ Below w3.heap.size w3 wz) ?_ ?_
          · refine (cmp_any hp hh w3.drew).mono ?_
            rintro e wz ⟨rfl, h⟩
            exact ⟨_, rfl, rfl, hD0.trans (h.mono hD0.size)⟩
          rintro vz w7 ⟨rfl, h7⟩
          have HB7 := Keep.mk h7
          clear h7
          refine hK.out _ _ (HS0.out _ HB7.out) fun hHeld2 => ?_
          clear hK
          simp only [Act.put, List.setIfInBounds_toArray, List.set_cons_zero, List.set_cons_succ]
          refine wpAnyH_take (i := 10) (oi := ⟨some 31, Op.binOp BinOp.geq 3 (Operand.tmp 30) (Operand.const (Value.int IntKind.i64 0)) 3, 4, _, _, some (2, true)⟩) (v := .bool false) rfl (by kernel_rfl) (by kernel_rfl) (by kernel_rfl) (fun _ _ _ h => h) (Or.inl ⟨by rfl, fun w hS => by go_simp⟩) hHeld2 ?_
          simp only [Act.put, List.setIfInBounds_toArray, List.set_cons_zero, List.set_cons_succ]
          refine wpAnyH_take (i := 11) (oi := ⟨some 32, Op.pick (Operand.tmp 23) (Operand.tmp 31) (Operand.const (Value.bool false)), 4, _, _, none⟩) (v := .bool false) rfl (by kernel_rfl) (by kernel_rfl) (by kernel_rfl) (fun _ _ _ h => h) (Or.inl ⟨by rfl, fun w hS => by go_simp⟩) hHeld2 ?_
          simp only [Act.put, List.setIfInBounds_toArray, List.set_cons_zero, List.set_cons_succ]
          refine wpAnyH_done (by kernel_rfl) ?_ _
          refine hK12 _ _ ?_
          refine wp_cond_false rfl ?_
          refine wp_skip ?_
          refine hK11 _ _ ?_
          refine wp_region_list (WL.out ?_)
          refine WL.val (by kernel_rfl) (.slice (some ⟨gL, 0, none⟩) l.length oc) (by go_simp) ?_
          simp only [Act.put, List.setIfInBounds_toArray, List.set_cons_zero, List.set_cons_succ]
          refine WL.row (by kernel_rfl) 40 (.tmp 8) rfl w2.heap.size rfl 40 (bytesA 32 hh.f) _ (HX3.out.below HB7.out HX3.out.lt) Try.underlying40 rfl (Try.size40B _) ?_
          simp only [Act.put, List.setIfInBounds_toArray, List.set_cons_zero, List.set_cons_succ]
          refine WL.bs (by kernel_rfl) 24 1 _ rfl #[(0, .agg (bytesA 32 hh.f))] (by simp [Act.eval]) _ _ (bsH hh w7) ?_
          have HB8 := Keep.mk (Blk.new w7 40 (bytesA 32 hh.f))
          have B8 : Keep (Below w3.heap.size w3 (w7.alloc (.cells (bytesA 32 hh.f) 40))) := ⟨HB7.out.trans ((below_new w7 _).mono HB7.out.size)⟩
          generalize w7.alloc (.cells (bytesA 32 hh.f) 40) = w8 at *
          simp only [Act.put, List.setIfInBounds_toArray, List.set_cons_zero, List.set_cons_succ]
          refine WL.appH (by kernel_rfl) (.tmp 35) (.tmp 37) rfl (.slice (some ⟨gL, 0, none⟩) l.length oc) l w7.heap.size hh rfl rfl (HO3.out.below B8.out) HB8.out (by have := JLn.out; have := Hn.out; omega) ?_
          intro v4 w4 h1 h2 h3
          have HO4 := Keep.mk h1
          have Hg4 : Keep (Grown w w4 fun k => k = p) := ⟨(HG3.out.trans (Grown.below B8.out)).next h2 (fun k hk e => absurd (JOn.out k e) (by omega))⟩
          have HI4 : Keep (InAt w4 p s (at_ + N) none) := ⟨h2.blk (HI3.out.blk.below B8.out HI3.out.blk.lt) (fun e => (HO3.out.below B8.out).ne (HI3.out.blk.below B8.out HI3.out.blk.lt) (by decide) e), HI3.out.le⟩
          have HOn4 : Keep (∀ k, v4.ownBlock = some k → w.heap.size ≤ k) := ⟨fun k hk => by
            rcases h3 with e | ⟨j, e, hj⟩
            · rw [e] at hk; exact JOn.out k hk
            · rw [e] at hk; injection hk with hk; have := HG3.out.size; have := B8.out.size; omega⟩
          clear h1 h2 h3
          simp only [Act.put, List.setIfInBounds_toArray, List.set_cons_zero, List.set_cons_succ]
          refine WL.val (by kernel_rfl) (v4) (by go_simp) ?_
          simp only [Act.put, List.setIfInBounds_toArray, List.set_cons_zero, List.set_cons_succ]
          refine WL.nil ?_
          refine hK7 _ _ ?_
          refine wp_region_list (WL.out ?_)
          refine WL.val (by kernel_rfl) (.int .i64 ((t : Int) + 1)) (by go_simp) ?_
          simp only [Act.put, List.setIfInBounds_toArray, List.set_cons_zero, List.set_cons_succ]
          refine WL.val (by kernel_rfl) (.int .i64 ((t : Int) + 1)) (by go_simp) ?_
          simp only [Act.put, List.setIfInBounds_toArray, List.set_cons_zero, List.set_cons_succ]
          refine WL.nil ?_
          rw [HN32.out hE] at HI4
          refine ⟨⟨t + 1, v4, .int .i64 (t : Int), .int .i64 (at_ : Int), .pointer (some ⟨w2.heap.size, 0, none⟩), .bool true, .int .i64 (t : Int), .pointer (some ⟨p, 0, none⟩), .int .i64 (at_ : Int), .pointer (some ⟨p, 0, none⟩), .tuple #[.agg (bytesA 32 hh.f), .nilIface], .agg (bytesA 32 hh.f), .nilIface, .agg (bytesA 32 hh.f), .int .i64 (t : Int), .bool true, .bool true, .slice (some ⟨gL, 0, none⟩) l.length oc, .int .i64 (t : Int), .int .i64 ((t - 1 : Nat) : Int), .pointer (some ⟨gL, (t - 1) * 32, none⟩), .agg (Sh.encH hp).toArray, .agg (bytesA 32 hh.f).toList.toArray, .int .i64 (Sh.cf hp hh), .bool false, .bool false, u33, u34, .slice (some ⟨gL, 0, none⟩) l.length oc, .agg (bytesA 32 hh.f), .slice (some ⟨w7.heap.size, 0, none⟩) 1 1, v4, .int .i64 ((t : Int) + 1), rfl, by omega, l ++ [hh], at_ + 32, JC2.out, HI4.out, HO4.out, HOn4.out, Hg4.out, by rw [List.length_append]; simp [JLn.out]⟩, ?_⟩
          simp only [intOf]; show n - ((t : Int) + 1).toNat < n - ((t : Int)).toNat; omega
      · have ht0' : ¬ (0 : Int) < (t : Int) := by omega
        have HB7 : Keep (Below w3.heap.size w3 w3.drew) := ⟨hD0⟩
        have JC2 := Keep.mk (JC.out.trans ((if_neg (by simp [hE])).trans (if_neg (fun h => ht0 (by have := JLn.out; have := h.1; omega)))))
        refine wp_region_held_drew (S := fun _ => True) (by kernel_rfl) (trivial) (fun hHeld => ?_)
        refine wpAnyH_take (i := 0) (oi := ⟨some 21, Op.move (Operand.tmp 6), 3, _, _, none⟩) (v := .int .i64 (t : Int)) rfl (by kernel_rfl) (by kernel_rfl) (by kernel_rfl) (fun _ _ _ h => h) (Or.inl ⟨by rfl, fun w hS => by go_simp⟩) hHeld ?_
        simp only [Act.put, List.setIfInBounds_toArray, List.set_cons_zero, List.set_cons_succ]
        refine wpAnyH_take (i := 1) (oi := ⟨some 22, Op.binOp BinOp.gtr 3 (Operand.tmp 21) (Operand.const (Value.int IntKind.i64 0)) 3, 4, _, _, none⟩) (v := .bool false) rfl (by kernel_rfl) (by kernel_rfl) (by kernel_rfl) (fun _ _ _ h => h) (Or.inl ⟨by rfl, fun w hS => by go_simp⟩) hHeld ?_
        simp only [Act.put, List.setIfInBounds_toArray, List.set_cons_zero, List.set_cons_succ]
        refine wpAnyH_take (i := 2) (oi := ⟨some 23, Op.move (Operand.tmp 22), 4, _, _, none⟩) (v := .bool false) rfl (by kernel_rfl) (by kernel_rfl) (by kernel_rfl) (fun _ _ _ h => h) (Or.inl ⟨by rfl, fun w hS => by go_simp⟩) hHeld ?_
        simp only [Act.put, List.setIfInBounds_toArray, List.set_cons_zero, List.set_cons_succ]
        refine wpAnyH_take (i := 3) (oi := ⟨some 24, Op.move (Operand.tmp 5), 24, _, _, some (2, true)⟩) (v := undef) rfl (by kernel_rfl) (by kernel_rfl) (by kernel_rfl) (fun _ _ _ h => h) (Or.inr ⟨by rfl, rfl⟩) hHeld ?_
        simp only [Act.put, List.setIfInBounds_toArray, List.set_cons_zero, List.set_cons_succ]
        refine wpAnyH_take (i := 4) (oi := ⟨some 25, Op.move (Operand.tmp 6), 3, _, _, some (2, true)⟩) (v := undef) rfl (by kernel_rfl) (by kernel_rfl) (by kernel_rfl) (fun _ _ _ h => h) (Or.inr ⟨by rfl, rfl⟩) hHeld ?_
        simp only [Act.put, List.setIfInBounds_toArray, List.set_cons_zero, List.set_cons_succ]
        refine wpAnyH_take (i := 5) (oi := ⟨some 26, Op.binOp BinOp.sub 3 (Operand.tmp 25) (Operand.const (Value.int IntKind.i64 1)) 3, 3, _, _, some (2, true)⟩) (v := undef) rfl (by kernel_rfl) (by kernel_rfl) (by kernel_rfl) (fun _ _ _ h => h) (Or.inr ⟨by rfl, rfl⟩) hHeld ?_
        simp only [Act.put, List.setIfInBounds_toArray, List.set_cons_zero, List.set_cons_succ]
        refine wpAnyH_take (i := 6) (oi := ⟨some 27, Op.indexAddr 24 (Operand.tmp 24) (Operand.tmp 26), 0, _, _, some (2, true)⟩) (v := undef) rfl (by kernel_rfl) (by kernel_rfl) (by kernel_rfl) (fun _ _ _ h => h) (Or.inr ⟨by rfl, rfl⟩) hHeld ?_
        simp only [Act.put, List.setIfInBounds_toArray, List.set_cons_zero, List.set_cons_succ]
        refine wpAnyH_take (i := 7) (oi := ⟨some 28, Op.load 40 (Operand.tmp 27), 40, _, _, some (2, true)⟩) (v := undef) rfl (by kernel_rfl) (by kernel_rfl) (by kernel_rfl) (fun _ _ _ h => h) (Or.inr ⟨by rfl, rfl⟩) hHeld ?_
        simp only [Act.put, List.setIfInBounds_toArray, List.set_cons_zero, List.set_cons_succ]
        refine wpAnyH_take (i := 8) (oi := ⟨some 29, Op.load 40 (Operand.tmp 8), 40, _, _, some (2, true)⟩) (v := undef) rfl (by kernel_rfl) (by kernel_rfl) (by kernel_rfl) (fun _ _ _ h => h) (Or.inr ⟨by rfl, rfl⟩) hHeld ?_
        simp only [Act.put, List.setIfInBounds_toArray, List.set_cons_zero, List.set_cons_succ]
        refine wpAnyH_take (i := 9) (oi := ⟨some 30, Op.call { callee := Callee.value (Operand.func 76), args := #[Operand.tmp 28, Operand.tmp 29], argTypes := #[40, 40] }, 3, _, _, some (2, true)⟩) (v := undef) rfl (by kernel_rfl) (by kernel_rfl) (by kernel_rfl) (fun _ _ _ h => h) (Or.inr ⟨by rfl, rfl⟩) hHeld ?_
        simp only [Act.put, List.setIfInBounds_toArray, List.set_cons_zero, List.set_cons_succ]
        refine wpAnyH_take (i := 10) (oi := ⟨some 31, Op.binOp BinOp.geq 3 (Operand.tmp 30) (Operand.const (Value.int IntKind.i64 0)) 3, 4, _, _, some (2, true)⟩) (v := undef) rfl (by kernel_rfl) (by kernel_rfl) (by kernel_rfl) (fun _ _ _ h => h) (Or.inr ⟨by rfl, rfl⟩) hHeld ?_
        simp only [Act.put, List.setIfInBounds_toArray, List.set_cons_zero, List.set_cons_succ]
        refine wpAnyH_take (i := 11) (oi := ⟨some 32, Op.pick (Operand.tmp 23) (Operand.tmp 31) (Operand.const (Value.bool false)), 4, _, _, none⟩) (v := .bool false) rfl (by kernel_rfl) (by kernel_rfl) (by kernel_rfl) (fun _ _ _ h => h) (Or.inl ⟨by rfl, fun w hS => by go_simp⟩) hHeld ?_
        simp only [Act.put, List.setIfInBounds_toArray, List.set_cons_zero, List.set_cons_succ]
        refine wpAnyH_done (by kernel_rfl) ?_ _
        refine hK12 _ _ ?_
        refine wp_cond_false rfl ?_
        refine wp_skip ?_
        refine hK11 _ _ ?_
        refine wp_region_list (WL.out ?_)
        refine WL.val (by kernel_rfl) (.slice oa l.length oc) (by go_simp) ?_
        simp only [Act.put, List.setIfInBounds_toArray, List.set_cons_zero, List.set_cons_succ]
        refine WL.row (by kernel_rfl) 40 (.tmp 8) rfl w2.heap.size rfl 40 (bytesA 32 hh.f) _ (HX3.out.below HB7.out HX3.out.lt) Try.underlying40 rfl (Try.size40B _) ?_
        simp only [Act.put, List.setIfInBounds_toArray, List.set_cons_zero, List.set_cons_succ]
        refine WL.bs (by kernel_rfl) 24 1 _ rfl #[(0, .agg (bytesA 32 hh.f))] (by simp [Act.eval]) _ _ (bsH hh w3.drew) ?_
        have HB8 := Keep.mk (Blk.new w3.drew 40 (bytesA 32 hh.f))
        have B8 : Keep (Below w3.heap.size w3 (w3.drew.alloc (.cells (bytesA 32 hh.f) 40))) := ⟨HB7.out.trans ((below_new w3.drew _).mono HB7.out.size)⟩
        generalize w3.drew.alloc (.cells (bytesA 32 hh.f) 40) = w8 at *
        simp only [Act.put, List.setIfInBounds_toArray, List.set_cons_zero, List.set_cons_succ]
        refine WL.appH (by kernel_rfl) (.tmp 35) (.tmp 37) rfl (.slice oa l.length oc) l w3.drew.heap.size hh rfl rfl (HO3.out.below B8.out) HB8.out (by have := JLn.out; have := Hn.out; omega) ?_
        intro v4 w4 h1 h2 h3
        have HO4 := Keep.mk h1
        have Hg4 : Keep (Grown w w4 fun k => k = p) := ⟨(HG3.out.trans (Grown.below B8.out)).next h2 (fun k hk e => absurd (JOn.out k e) (by omega))⟩
        have HI4 : Keep (InAt w4 p s (at_ + N) none) := ⟨h2.blk (HI3.out.blk.below B8.out HI3.out.blk.lt) (fun e => (HO3.out.below B8.out).ne (HI3.out.blk.below B8.out HI3.out.blk.lt) (by decide) e), HI3.out.le⟩
        have HOn4 : Keep (∀ k, v4.ownBlock = some k → w.heap.size ≤ k) := ⟨fun k hk => by
          rcases h3 with e | ⟨j, e, hj⟩
          · rw [e] at hk; exact JOn.out k hk
          · rw [e] at hk; injection hk with hk; have := HG3.out.size; have := B8.out.size; omega⟩
        clear h1 h2 h3
        simp only [Act.put, List.setIfInBounds_toArray, List.set_cons_zero, List.set_cons_succ]
        refine WL.val (by kernel_rfl) (v4) (by go_simp) ?_
        simp only [Act.put, List.setIfInBounds_toArray, List.set_cons_zero, List.set_cons_succ]
        refine WL.nil ?_
        refine hK7 _ _ ?_
        refine wp_region_list (WL.out ?_)
        refine WL.val (by kernel_rfl) (.int .i64 ((t : Int) + 1)) (by go_simp) ?_
        simp only [Act.put, List.setIfInBounds_toArray, List.set_cons_zero, List.set_cons_succ]
        refine WL.val (by kernel_rfl) (.int .i64 ((t : Int) + 1)) (by go_simp) ?_
        simp only [Act.put, List.setIfInBounds_toArray, List.set_cons_zero, List.set_cons_succ]
        refine WL.nil ?_
        rw [HN32.out hE] at HI4
        refine ⟨⟨t + 1, v4, .int .i64 (t : Int), .int .i64 (at_ : Int), .pointer (some ⟨w2.heap.size, 0, none⟩), .bool true, .int .i64 (t : Int), .pointer (some ⟨p, 0, none⟩), .int .i64 (at_ : Int), .pointer (some ⟨p, 0, none⟩), .tuple #[.agg (bytesA 32 hh.f), .nilIface], .agg (bytesA 32 hh.f), .nilIface, .agg (bytesA 32 hh.f), .int .i64 (t : Int), .bool false, .bool false, undef, undef, undef, undef, undef, undef, undef, undef, .bool false, u33, u34, .slice oa l.length oc, .agg (bytesA 32 hh.f), .slice (some ⟨w3.drew.heap.size, 0, none⟩) 1 1, v4, .int .i64 ((t : Int) + 1), rfl, by omega, l ++ [hh], at_ + 32, JC2.out, HI4.out, HO4.out, HOn4.out, Hg4.out, by rw [List.length_append]; simp [JLn.out]⟩, ?_⟩
        simp only [intOf]; show n - ((t : Int) + 1).toNat < n - ((t : Int)).toNat; omega
    · rcases H3.out with ⟨e1, _, _⟩ | ⟨_, q, hq, rfl, rfl, hbad⟩
      · exact absurd e1 hE
      have Hbad := Keep.mk hbad
      clear hbad
      unfold err
      refine WL.val (by kernel_rfl) (.agg (bytesA 32 (hrd D W))) (by go_simp) ?_
      simp only [Act.put, List.setIfInBounds_toArray, List.set_cons_zero, List.set_cons_succ]
      refine WL.val (by kernel_rfl) (.iface 68 (ptr q)) (by go_simp) ?_
      simp only [Act.put, List.setIfInBounds_toArray, List.set_cons_zero, List.set_cons_succ]
      refine WL.callP (by kernel_rfl) 90 _ _ rfl Try.in90 #[.agg (bytesA 32 (hrd D W)), err q] (by simp [Act.eval, err]) ?_
      refine (mustH_bad _ q w1).mono ?_
      rintro e w' ⟨rfl, hbz⟩
      refine .inr ⟨_, rfl, ?_⟩
      try simp only [Exit.inBlock, Exit.then]
      refine ⟨rfl, ?_⟩
      exact .inr ⟨by rw [HR.out, JC.out, if_pos hE]; exact hE, q, Nat.le_trans JG.out.size hq, rfl, by rw [HR.out, JC.out, if_pos hE]; exact Hbad.out.below hbz Hbad.out.lt, H2.out.trans (Grown.below hbz)⟩
  · have hte : Keep (t = n) := ⟨by omega⟩
    have htl' : ¬ (t : Int) < (n : Int) := by omega
    refine wp_seq_k fun K13 hK13 => ?_
    refine wp_region_list (WL.out ?_)
    refine WL.val (by kernel_rfl) (.bool false) (by go_simp) ?_
    simp only [Act.put, List.setIfInBounds_toArray, List.set_cons_zero, List.set_cons_succ]
    refine WL.nil ?_
    refine hK13 _ _ ?_
    refine wp_seq_k fun K14 hK14 => ?_
    refine wp_cond_false rfl ?_
    refine wp_exit ?_
    refine hK3 _ _ ?_
    refine wp_seq_k fun K15 hK15 => ?_
    refine wp_region_list (WL.out ?_)
    refine WL.val (by kernel_rfl) (u5) (by go_simp) ?_
    simp only [Act.put, List.setIfInBounds_toArray, List.set_cons_zero, List.set_cons_succ]
    refine WL.val (by kernel_rfl) (u5) (by go_simp) ?_
    simp only [Act.put, List.setIfInBounds_toArray, List.set_cons_zero, List.set_cons_succ]
    refine WL.nil ?_
    refine hK15 _ _ ?_
    refine wp_ret ?_
    go_ret
    rw [hte.out, Nat.sub_self, getH] at hC
    rw [HR.out, hC]
    exact .inl ⟨rfl, u5, rfl, hO, hOn, hI, hG⟩
end Go.Proofs.Ytgpgnldcdimmbaa
