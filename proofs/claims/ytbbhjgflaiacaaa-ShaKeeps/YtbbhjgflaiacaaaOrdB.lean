import Derived.Test.YtbbhjgflaiacaaaOrdA
import Derived.Test.YtbbhjgflaiacaaaSpread
import Derived.Test.YtbbhjgflaiacaaaInv
import Derived.Test.YtbbhjgflaiacaaaWrite
import Derived.ChangeKeysEq
import Derived.Sort.Grow
import Derived.Deep.Draws
import Derived.Deep.QuietTactic
import Derived.BigQuiet
namespace Go.Proofs.Ytbbhjgflaiacaaa
open Go.RowKit Go.Sort

theorem Try.cells5q : Try.prog.cellsOf 5 = 1 := by kernel_rfl
theorem Try.isAgg5q (w : World) : (isAgg 5).run Try.prog w = .ok false w := by kernel_rfl
theorem Try.size5q : (Try.prog.info? 5).map (·.size) = some 1 := by kernel_rfl
theorem run_part5q (c : Nat → Int) (i : Nat) (hi : i < 32) (w : World) : (part 5 (bytesA 32 c) i).run Try.prog w = .ok (.int .u8 (c i)) w := by
  unfold part
  rw [Sem.run_bind, Try.isAgg5q]
  simp [Result.andThen, bytesA_get 32 c i hi]
theorem run_items2 (c e : Nat → Int) (d : Nat) (w : World) : ∀ is : List Nat, (∀ i ∈ is, i < 32) → (Op.eqItems (d + 1) 5 1 (bytesA 32 c) (bytesA 32 e) is).run Try.prog w = .ok (is.all fun i => c i == e i) w
  | [], _ => by simp [Op.eqItems]
  | i :: is, h => by
    have hi := h i (by simp)
    have ih := run_items2 c e d w is (fun j hj => h j (by simp [hj]))
    simp only [Op.eqItems, Sem.run_bind, Nat.mul_one, run_part5q c i hi, run_part5q e i hi, Result.andThen_ok]
    rw [run_equalIn_int (P := Try.prog) (w := w) d 5 .u8 .u8 (c i) (e i) Try.underlying5]
    by_cases hh : c i = e i
    · simp [Result.andThen_ok, ih, hh]
    · simp [Result.andThen_ok, hh]
theorem run_equal_arr2 (c e : Nat → Int) (w : World) : (Op.equalIn 10000 23 (.agg (bytesA 32 c)) (.agg (bytesA 32 e))).run Try.prog w = .ok ((List.range 32).all fun i => c i == e i) w := by
  obtain ⟨i, hi, _⟩ := Option.map_eq_some_iff.1 Try.size5q
  rw [run_equalIn_array (P := Try.prog) w 9999 _ _ Try.underlying23 hi, Try.cells5q]
  exact run_items2 c e 9998 w _ (fun j hj => List.mem_range.1 hj)
theorem all_eq_iff (x y : Hs) : ((List.range 32).all fun i => x.f i == y.f i) = decide (x = y) := by
  by_cases h : x = y
  · subst h; simp
  · rw [decide_eq_false h, Bool.eq_false_iff]
    intro h2
    refine h (Hs.ext' fun i hi => ?_)
    have := List.all_eq_true.1 h2 i (List.mem_range.2 hi)
    simpa using this
theorem run_eqlH (x y : Hs) (w : World) : (binOp .eql 23 (.agg (bytesA 32 x.f)) (.agg (bytesA 32 y.f))).run Try.prog w = .ok (.bool (decide (x = y))) w := by
  rw [run_eql_struct, run_equal_arr2, all_eq_iff]; rfl
theorem run_neqH (x y : Hs) (w : World) : (binOp .neq 23 (.agg (bytesA 32 x.f)) (.agg (bytesA 32 y.f))).run Try.prog w = .ok (.bool (!decide (x = y))) w := by
  rw [run_neq_struct, run_equal_arr2, all_eq_iff]; rfl

theorem grown_below (w : World) (q : Nat) (os : Array Obj) : Below w.heap.size w (grow (w.drewN q) os) where
  os := rfl
  tape := rfl
  output := rfl
  size := by simp [grow]
  block i hi := by simp [grow, Array.getElem?_append, hi]

theorem drewN_grown {w w0 : World} (h : ∃ os, w0 = grow w os) (k : Nat) : ∃ q os, w0.drewN k = grow (w.drewN q) os := by
  obtain ⟨os, rfl⟩ := h
  exact ⟨k, os, rfl⟩

set_option maxHeartbeats 400000 in
/-- cmp.Compare of two bytes that differ. -/
theorem cmpByte_any (a b : Int) (w : World) : Calls Try.prog 42 #[.int .u8 a, .int .u8 b] w fun e w' => e = .returned (.int .i64 (if a < b then -1 else if b < a then 1 else 0)) ∧ ∃ q, w' = w.drewN q := by
  have h52 : ∀ (z : Int) (w : World), Calls Try.prog 51 #[.int .u8 z] w fun e w' => e = .returned (.bool false) ∧ ∃ q, w' = w.drewN q := by
    intro z w
    go_enter Try.func51, Try.ntmps51
    go_wp2
    first
      | (go_quiet (fail); go_wp2; go_ret; exact ⟨rfl, nq, rfl⟩)
      | (go_ret; exact ⟨rfl, 0, rfl⟩)
  have walk : ∀ r : Int, (a < b ∧ r = -1) ∨ (¬ a < b ∧ b < a ∧ r = 1) ∨ (¬ a < b ∧ ¬ b < a ∧ r = 0) → Calls Try.prog 42 #[.int .u8 a, .int .u8 b] w fun e w' => e = .returned (.int .i64 r) ∧ ∃ q, w' = w.drewN q := by
    intro r hr
    have HR : Keep ((a < b ∧ r = -1) ∨ (¬ a < b ∧ b < a ∧ r = 1) ∨ (¬ a < b ∧ ¬ b < a ∧ r = 0)) := ⟨hr⟩
    clear hr
    go_enter Try.func42, Try.ntmps42
    go_wp2_with fail
    refine (h52 a w).mono ?_
    rintro e w1 ⟨rfl, q1, rfl⟩
    go_wp2_with fail
    refine (h52 b _).mono ?_
    rintro e w2 ⟨rfl, q2, rfl⟩
    rw [World.drewN_drewN]
    rcases HR.out with ⟨h1, rfl⟩ | ⟨h1, h2, rfl⟩ | ⟨h1, h2, rfl⟩
    · go_wp2
      go_ret
      exact ⟨rfl, _, rfl⟩
    · go_wp2
      go_ret
      exact ⟨rfl, _, rfl⟩
    · go_wp2
      go_ret
      exact ⟨rfl, _, rfl⟩
  refine walk _ ?_
  by_cases h1 : a < b
  · exact .inl ⟨h1, if_pos h1⟩
  · by_cases h2 : b < a
    · exact .inr (.inl ⟨h1, h2, by rw [if_neg h1, if_pos h2]⟩)
    · exact .inr (.inr ⟨h1, h2, by rw [if_neg h1, if_neg h2]⟩)

theorem cell_arr {w : World} {b : Nat} {c : Nat → Int} (h : Blk w b 23 (bytesA 32 c)) (t : Nat) (ht : t < 32) : w.cell? ⟨b, t, none⟩ = some (.int .u8 (c t)) := by
  rw [h.cell, bytesA_get _ _ _ ht]

set_option maxHeartbeats 400000 in
set_option maxRecDepth 20000 in
theorem compare_walk (A B : Array Value) (x y : Nat → Int) (E : Bool) (w : World) (hA : ∀ t, t < 32 → A[t]? = some (.int .u8 (x t))) (hB : ∀ t, t < 32 → B[t]? = some (.int .u8 (y t))) (hAs : A.size = 32) (hBs : B.size = 32)
    (heq : ∀ w, (binOp .eql 23 (.agg A) (.agg B)).run Try.prog w = .ok (.bool E) w) (hE1 : E = true → cmpG x y 32 0 = 0) (hE2 : E = false → ∃ t, t < 32 ∧ x t ≠ y t) :
    Calls Try.prog 22 #[.agg A, .agg B] w fun e w' => e = .returned (.int .i64 (cmpG x y 32 0)) ∧ ∃ q os, w' = grow (w.drewN q) os := by
  have HA : Keep (∀ t, t < 32 → A[t]? = some (.int .u8 (x t))) := ⟨hA⟩
  have HB : Keep (∀ t, t < 32 → B[t]? = some (.int .u8 (y t))) := ⟨hB⟩
  obtain ⟨r, hr⟩ : ∃ r, Keep (r = cmpG x y 32 0) := ⟨_, ⟨rfl⟩⟩
  rw [← hr.out] at hE1 ⊢
  have H1 : Keep (E = true → r = 0) := ⟨hE1⟩
  have H2 : Keep (E = false → ∃ t, t < 32 ∧ x t ≠ y t) := ⟨hE2⟩
  have hi1 : (Try.prog.info? 23).map (·.size) = some A.size := by rw [hAs]; exact Try.size23
  have hi2 : (Try.prog.info? 23).map (·.size) = some B.size := by rw [hBs]; exact Try.size23
  clear hE1 hE2 hA hB
  have hA1 : (w.alloc (.cells A 23)).heap.size = w.heap.size + 1 := by simp
  have hX : Blk ((w.alloc (.cells A 23)).alloc (.cells B 23)) w.heap.size 23 A := (Blk.new w 23 _).alloc _
  have hY : Blk ((w.alloc (.cells A 23)).alloc (.cells B 23)) (w.heap.size + 1) 23 B := by rw [← hA1]; exact Blk.new _ 23 _
  have hG : (w.alloc (.cells A 23)).alloc (.cells B 23) = grow (w.drewN 0) #[.cells A 23, .cells B 23] := by
    rw [alloc_eq_grow, alloc_eq_grow, grow_grow]; rfl
  have HG : Keep (∃ os, (w.alloc (.cells A 23)).alloc (.cells B 23) = grow w os) := ⟨_, hG⟩
  clear hA1 hG
  go_enter Try.func22, Try.ntmps22
  go_wp2_with (first | (refine wpList_boxA rfl 23 (.tmp 0) rfl A rfl ?_; refine wpList_boxA rfl 23 (.tmp 1) rfl B rfl ?_) | (refine wpList_load_row rfl 23 (.tmp 2) rfl w.heap.size rfl 23 A (0, 0) (.array 32 5) hX Try.underlying23 rfl hi1 ?_; refine wpList_load_row rfl 23 (.tmp 3) rfl (w.heap.size + 1) rfl 23 B (0, 0) (.array 32 5) hY Try.underlying23 rfl hi2 ?_))
  · go_ret
    have := H1.out (by assumption)
    obtain ⟨os, hos⟩ := HG.out
    exact ⟨by rw [this]; rfl, 0, os, by rw [hos]; rfl⟩
  · have hE : E = false := by first | assumption | (cases E <;> simp_all)
    obtain ⟨d, hd, hne⟩ := H2.out hE
    have HN : Keep (x d ≠ y d) := ⟨hne⟩
    clear hne
    generalize (w.alloc (.cells A 23)).alloc (.cells B 23) = w0 at *
    generalize w.heap.size = p at *
    go_loopw [5] (fun i wr => ∃ t n : Nat, t ≤ d ∧ i = .int .i64 (t : Int) ∧ (∀ k, k < t → x k = y k) ∧ wr = w0.drewN n) (fun i _ => d - (intOf i).toNat)
    case atStart => exact ⟨0, 0, by omega, rfl, fun k hk => by omega, by rw [World.drewN_zero]⟩
    case round =>
      obtain ⟨t, n, ht, rfl, hke, rfl⟩ := hrel
      have HK : Keep (∀ k, k < t → x k = y k) := ⟨hke⟩
      clear hke
      have c1 : (w0.drewN n).cell? ⟨p, t, none⟩ = some (.int .u8 (x t)) := by rw [World.cell?_drewN, hX.cell]; exact HA.out t (by omega)
      have c2 : (w0.drewN n).cell? ⟨p + 1, t, none⟩ = some (.int .u8 (y t)) := by rw [World.cell?_drewN, hY.cell]; exact HB.out t (by omega)
      obtain ⟨a, ha⟩ : ∃ a, Keep (x t = a) := ⟨_, ⟨rfl⟩⟩
      obtain ⟨b, hb⟩ : ∃ b, Keep (y t = b) := ⟨_, ⟨rfl⟩⟩
      rw [ha.out] at c1
      rw [hb.out] at c2
      obtain ⟨wn, hwn⟩ : ∃ wn, Keep (w0.drewN n = wn) := ⟨_, ⟨rfl⟩⟩
      rw [hwn.out] at c1 c2 ⊢
      have ht32 : (t : Int) < 32 := by omega
      go_wp2
      go_quiet (fail)
      by_cases hab : a = b
      · have htd : t ≠ d := fun e => by subst e; exact HN.out (by rw [ha.out, hb.out, hab])
        go_wp2
        go_roundw
        case rel => exact ⟨t + 1, n + nq, by omega, by go_num, fun k hk => by
          rcases Nat.lt_or_eq_of_le (Nat.le_of_lt_succ hk) with h | h
          · exact HK.out k h
          · subst h; rw [ha.out, hb.out, hab], by rw [← hwn.out, World.drewN_drewN]⟩
        case measure => simp [intOf]; omega
      · have hra : Keep (r = (if a < b then -1 else if b < a then 1 else 0)) := ⟨by
          rw [hr.out, cmpG_at x y t 32 HK.out (by omega) (by rw [ha.out, hb.out]; exact hab), ha.out, hb.out]
          by_cases h1 : a < b
          · rw [if_pos h1, if_pos h1]
          · rw [if_neg h1, if_neg h1, if_pos (by omega)]⟩
        have hcb : ∀ w, Calls Try.prog 42 #[.int .u8 a, .int .u8 b] w fun e w' => e = .returned (.int .i64 r) ∧ ∃ q, w' = w.drewN q := fun w => by rw [hra.out]; exact cmpByte_any a b w
        have d1 : (wn.drewN nq).cell? ⟨p, t, none⟩ = some (.int .u8 a) := by rw [World.cell?_drewN]; exact c1
        have d2 : (wn.drewN nq).cell? ⟨p + 1, t, none⟩ = some (.int .u8 b) := by rw [World.cell?_drewN]; exact c2
        obtain ⟨wm, hwm⟩ : ∃ wm, Keep (wn.drewN nq = wm) := ⟨_, ⟨rfl⟩⟩
        go_wp2
        rw [hwm.out] at d1 d2 ⊢
        go_quiet (first | (go_at_call 42; refine Calls.quiet_of (hcb _)))
        go_wp2
        go_ret
        refine ⟨rfl, ?_⟩
        rw [← hwm.out, ← hwn.out, World.drewN_drewN, World.drewN_drewN]
        exact drewN_grown HG.out _

/-- sha.Compare. -/
theorem compare_any (x y : Hs) (w : World) : Calls Try.prog 22 #[.agg (bytesA 32 x.f), .agg (bytesA 32 y.f)] w fun e w' => e = .returned (.int .i64 (cf x y)) ∧ ∃ q os, w' = grow (w.drewN q) os :=
  compare_walk (bytesA 32 x.f) (bytesA 32 y.f) x.f y.f (decide (x = y)) w (fun _ ht => bytesA_get _ _ _ ht) (fun _ ht => bytesA_get _ _ _ ht) (bytesA_size _ _) (bytesA_size _ _) (run_eqlH x y)
    (fun h => (cf_zero x y).2 (of_decide_eq_true h)) (fun h => Classical.byContradiction fun hc => of_decide_eq_false h (Hs.ext' fun i hi => Classical.byContradiction fun hn => hc ⟨i, hi, hn⟩))

set_option maxHeartbeats 400000 in
set_option maxRecDepth 20000 in
theorem refCompare_walk (A B : Array Value) (x y : Nat → Int) (w : World) (hA : ∀ t, t < 32 → A[t]? = some (.int .u8 (x t))) (hB : ∀ t, t < 32 → B[t]? = some (.int .u8 (y t))) :
    Calls Try.prog 23 #[.agg A, .agg B] w fun e w' => e = .returned (.int .i64 (cmpG x y 32 0)) ∧ ∃ q os, w' = grow (w.drewN q) os := by
  have HA : Keep (∀ t, t < 32 → A[t]? = some (.int .u8 (x t))) := ⟨hA⟩
  have HB : Keep (∀ t, t < 32 → B[t]? = some (.int .u8 (y t))) := ⟨hB⟩
  obtain ⟨r, hr⟩ : ∃ r, Keep (r = cmpG x y 32 0) := ⟨_, ⟨rfl⟩⟩
  rw [← hr.out]
  clear hA hB
  have hA1 : (w.alloc (.cells A 23)).heap.size = w.heap.size + 1 := by simp
  have hX : Blk ((w.alloc (.cells A 23)).alloc (.cells B 23)) w.heap.size 23 A := (Blk.new w 23 _).alloc _
  have hY : Blk ((w.alloc (.cells A 23)).alloc (.cells B 23)) (w.heap.size + 1) 23 B := by rw [← hA1]; exact Blk.new _ 23 _
  have hG : (w.alloc (.cells A 23)).alloc (.cells B 23) = grow (w.drewN 0) #[.cells A 23, .cells B 23] := by
    rw [alloc_eq_grow, alloc_eq_grow, grow_grow]; rfl
  have HG : Keep (∃ os, (w.alloc (.cells A 23)).alloc (.cells B 23) = grow w os) := ⟨_, hG⟩
  clear hA1 hG
  go_enter Try.func23, Try.ntmps23
  go_wp2_with (first | (refine wpList_boxA rfl 23 (.tmp 0) rfl A rfl ?_; refine wpList_boxA rfl 23 (.tmp 1) rfl B rfl ?_))
  generalize (w.alloc (.cells A 23)).alloc (.cells B 23) = w0 at *
  generalize w.heap.size = p at *
  go_loopw [5] (fun i wr => ∃ t n : Nat, t ≤ 32 ∧ i = .int .i64 (t : Int) ∧ (∀ k, k < t → x k = y k) ∧ wr = w0.drewN n) (fun i _ => 32 - (intOf i).toNat)
  case atStart => exact ⟨0, 0, by omega, rfl, fun k hk => by omega, by rw [World.drewN_zero]⟩
  case round =>
    obtain ⟨t, n, ht, rfl, hke, rfl⟩ := hrel
    have HK : Keep (∀ k, k < t → x k = y k) := ⟨hke⟩
    clear hke
    by_cases hlt : t < 32
    · have c1 : (w0.drewN n).cell? ⟨p, t, none⟩ = some (.int .u8 (x t)) := by rw [World.cell?_drewN, hX.cell]; exact HA.out t (by omega)
      have c2 : (w0.drewN n).cell? ⟨p + 1, t, none⟩ = some (.int .u8 (y t)) := by rw [World.cell?_drewN, hY.cell]; exact HB.out t (by omega)
      obtain ⟨a, ha⟩ : ∃ a, Keep (x t = a) := ⟨_, ⟨rfl⟩⟩
      obtain ⟨b, hb⟩ : ∃ b, Keep (y t = b) := ⟨_, ⟨rfl⟩⟩
      rw [ha.out] at c1
      rw [hb.out] at c2
      obtain ⟨wn, hwn⟩ : ∃ wn, Keep (w0.drewN n = wn) := ⟨_, ⟨rfl⟩⟩
      rw [hwn.out] at c1 c2 ⊢
      have ht32 : (t : Int) < 32 := by omega
      go_wp2
      go_quiet (fail)
      have HR : Keep (a ≠ b → r = if a < b then -1 else 1) := ⟨fun h => by
        rw [hr.out, cmpG_at x y t 32 HK.out (by omega) (by rw [ha.out, hb.out]; exact h), ha.out, hb.out]⟩
      have d1 : (wn.drewN nq).cell? ⟨p, t, none⟩ = some (.int .u8 a) := by rw [World.cell?_drewN]; exact c1
      have d2 : (wn.drewN nq).cell? ⟨p + 1, t, none⟩ = some (.int .u8 b) := by rw [World.cell?_drewN]; exact c2
      obtain ⟨wm, hwm⟩ : ∃ wm, Keep (wn.drewN nq = wm) := ⟨_, ⟨rfl⟩⟩
      have HD : Keep (∃ k, wm = w0.drewN k) := ⟨_, by rw [← hwm.out, ← hwn.out, World.drewN_drewN]⟩
      rw [hwm.out] at d1 d2
      by_cases h1 : a < b
      · go_wp2
        go_ret
        obtain ⟨os, hos⟩ := HG.out
        refine ⟨by rw [HR.out (by omega), if_pos (by omega)]; rfl, n + nq, os, ?_⟩
        rw [← hwn.out, hos, World.drewN_drewN]
        rfl
      · go_wp2
        rw [hwm.out]
        go_quiet (fail)
        by_cases h2 : b < a
        · go_wp2
          go_ret
          obtain ⟨k, hk⟩ := HD.out
          refine ⟨by rw [HR.out (by omega), if_neg (by omega)]; rfl, ?_⟩
          rw [hk, World.drewN_drewN]
          exact drewN_grown HG.out _
        · have hab : a = b := by omega
          go_wp2
          go_roundw
          case rel =>
            obtain ⟨k, hk⟩ := HD.out
            exact ⟨t + 1, _, by omega, by go_num, fun k hk => by
              rcases Nat.lt_or_eq_of_le (Nat.le_of_lt_succ hk) with h | h
              · exact HK.out k h
              · subst h; rw [ha.out, hb.out, hab], by rw [hk, World.drewN_drewN]⟩
          case measure => simp [intOf]; omega
    · obtain rfl : t = 32 := by omega
      go_wp2
      go_ret
      obtain ⟨os, hos⟩ := HG.out
      exact ⟨by rw [hr.out, (cmpG_zero x y 32 0).2 fun k _ hk => HK.out k (by omega)]; rfl, n, os, by rw [hos]; rfl⟩

/-- The document's Compare. -/
theorem refCompare_any (x y : Hs) (w : World) : Calls Try.prog 23 #[.agg (bytesA 32 x.f), .agg (bytesA 32 y.f)] w fun e w' => e = .returned (.int .i64 (cf x y)) ∧ ∃ q os, w' = grow (w.drewN q) os :=
  refCompare_walk (bytesA 32 x.f) (bytesA 32 y.f) x.f y.f w (fun _ ht => bytesA_get _ _ _ ht) (fun _ ht => bytesA_get _ _ _ ht)
end Go.Proofs.Ytbbhjgflaiacaaa
