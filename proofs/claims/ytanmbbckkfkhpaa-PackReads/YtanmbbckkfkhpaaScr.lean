import Derived.Test.YtanmbbckkfkhpaaLay
namespace Go.Proofs.Ytanmbbckkfkhpaa
open Go.RowKit

/-- The slice v holds the calls of a script. -/
structure ScriptAt (w : World) (v : Value) (m : Nat) (K : Nat → Int) (X : Nat → Nat) (N : Nat → Int) (V : Nat → Value) (rows : Nat → List Int) : Prop where
  form : (∃ a c, v = .slice a 0 c ∧ m = 0) ∨ ∃ q o cap, v = .slice (some ⟨q, o, none⟩) m cap ∧ ∀ i, i < m → w.rangeAt q (o + i * 4) [.int .i64 (K i), .int .u64 (X i : Int), .int .i64 (N i), V i]
  row : ∀ i, i < m → RowAt w (V i) (rows i)
  byts : ∀ i, i < m → Byts (rows i)
  num : ∀ i, i < m → X i < 18446744073709551616
  len : ∀ i, i < m → (rows i).length ≤ 140737488351232
  nn : ∀ i, i < m → -9223372036854775808 ≤ N i ∧ N i ≤ 9223372036854775807
theorem script_form {w : World} {v : Value} {m : Nat} {K : Nat → Int} {X : Nat → Nat} {N : Nat → Int} {V : Nat → Value} {rows : Nat → List Int} (h : ScriptAt w v m K X N V rows) : ∃ a c, v = .slice a m c := by
  rcases h.form with ⟨a, c, rfl, rfl⟩ | ⟨q, o, cap, rfl, _⟩
  · exact ⟨_, _, rfl⟩
  · exact ⟨_, _, rfl⟩
theorem rangeAt_below {w w' : World} {b o : Nat} {cs : List Value} (h : w.rangeAt b o cs) (hb : Below w.heap.size w w') : w'.rangeAt b o cs := fun j v hv => by
  have h1 := h j v hv
  rw [hb.cell (p := ⟨b, o + j, none⟩) (cell_lt h1)]; exact h1
theorem ScriptAt.below {w w' : World} {v : Value} {m : Nat} {K : Nat → Int} {X : Nat → Nat} {N : Nat → Int} {V : Nat → Value} {rows : Nat → List Int} (h : ScriptAt w v m K X N V rows) (hb : Below w.heap.size w w') : ScriptAt w' v m K X N V rows where
  form := by
    rcases h.form with h1 | ⟨q, o, cap, h1, h2⟩
    · exact .inl h1
    · exact .inr ⟨q, o, cap, h1, fun i hi => rangeAt_below (h2 i hi) hb⟩
  row i hi := (h.row i hi).below hb
  byts := h.byts
  num := h.num
  len := h.len
  nn := h.nn
theorem ScriptAt.at {w : World} {a : Option Addr} {m c : Nat} {K : Nat → Int} {X : Nat → Nat} {N : Nat → Int} {V : Nat → Value} {rows : Nat → List Int} (h : ScriptAt w (.slice a m c) m K X N V rows) {t : Nat} (ht : t < m) :
    ∃ q o, a = some ⟨q, o, none⟩ ∧ w.rangeAt q (o + t * 4) [.int .i64 (K t), .int .u64 (X t : Int), .int .i64 (N t), V t] := by
  rcases h.form with ⟨_, _, _, h2⟩ | ⟨q, o, cap, h1, h2⟩
  · omega
  · injection h1 with h1 h3 h4
    exact ⟨q, o, h1, h2 t ht⟩

/-- So many bytes the first t calls count. -/
def tot (rows : Nat → List Int) : Nat → Nat
  | 0 => 0
  | t + 1 => tot rows t + 32 + (rows t).length
theorem tot_le (rows : Nat → List Int) (i m : Nat) (hi : i ≤ m) : tot rows i ≤ tot rows m := by
  obtain ⟨k, rfl⟩ : ∃ k, m = i + k := ⟨m - i, by omega⟩
  clear hi
  induction k with
  | zero => exact Nat.le_refl _
  | succ k ih => rw [← Nat.add_assoc]; simp only [tot]; omega
/-- What the first t calls lay. -/
def laid (K : Nat → Int) (X : Nat → Nat) (rows : Nat → List Int) : Nat → List Int
  | 0 => []
  | t + 1 => laid K X rows t ++ frm (K t) (X t) (rows t)
theorem laid_len (K : Nat → Int) (X : Nat → Nat) (rows : Nat → List Int) (t : Nat) : (laid K X rows t).length ≤ tot rows t := by
  induction t with
  | zero => exact Nat.le_refl _
  | succ t ih =>
    have := frm_len (K t) (X t) (rows t)
    simp only [laid, tot, List.length_append]
    omega
theorem laid_pre (K : Nat → Int) (X : Nat → Nat) (rows : Nat → List Int) (t m : Nat) (h : t ≤ m) : ∃ rest, laid K X rows m = laid K X rows t ++ rest := by
  obtain ⟨k, rfl⟩ : ∃ k, m = t + k := ⟨m - t, by omega⟩
  clear h
  induction k with
  | zero => exact ⟨[], by simp⟩
  | succ k ih =>
    obtain ⟨r, hr⟩ := ih
    exact ⟨r ++ frm (K (t + k)) (X (t + k)) (rows (t + k)), by rw [← Nat.add_assoc]; simp only [laid, hr, List.append_assoc]⟩
theorem frm_byts (K : Int) (X : Nat) (m : List Int) (hX : X < 18446744073709551616) (hm : Byts m) (hlm : m.length < 18446744073709551616) : Byts (frm K X m) := by
  unfold frm
  split
  · exact Byts.one (by omega)
  split
  · exact numL_byts X hX
  split
  · exact numL_byts _ (zig_lt _ (by unfold wrap64; omega) (by unfold wrap64; omega))
  split
  · exact hm
  split
  · exact (numL_byts _ hlm).app hm
  split
  · exact (numL_byts _ hlm).app hm
  split
  · intro c hc
    simp [hl] at hc
    obtain ⟨i, _, rfl⟩ := hc
    exact hm.getD i
  · exact Byts.nil

/-- What beyond tells. -/
def BeyPost (n : Nat) (w : World) (e : Ending) (w' : World) : Prop := ∃ bb, e = .returned (.bool bb) ∧ (bb = false → n ≤ 2147483647) ∧ w' = w
set_option maxHeartbeats 1000000 in
theorem beyond_any (v : Value) (m : Nat) (K : Nat → Int) (X : Nat → Nat) (N : Nat → Int) (V : Nat → Value) (rows : Nat → List Int) (w : World) (hr : ScriptAt w v m K X N V rows) (hm : (m : Int) ≤ 9223372036854775807) :
    Calls Try.prog 10 #[v] w (BeyPost (tot rows m) w) := by
  have HR := Keep.mk hr
  obtain ⟨pa, pc, rfl⟩ := script_form hr
  clear hr
  go_enter Try.func10, Try.ntmps10
  go_wp2
  go_loop [3, 4] (fun lf i => ∃ t : Nat, t ≤ m ∧ i = .int .i64 (t : Int) ∧ lf = .int .i64 (2147483647 - (tot rows t : Int)) ∧ (tot rows t : Int) ≤ 140737488355328000) (fun _ i => m - (intOf i).toNat)
  case atStart => exact ⟨0, by omega, rfl, by simp [tot], by simp [tot]⟩
  case round =>
    obtain ⟨t, ht, rfl, rfl, hb⟩ := hrel
    by_cases hlt : t < m
    · obtain ⟨q, o, rfl, hc0⟩ := HR.out.at hlt
      have hc := hc0 3 (V t) rfl
      obtain ⟨a, c, hv⟩ := row_form (HR.out.row t hlt)
      rw [hv] at hc
      have hlt' : (t : Int) < (m : Int) := by omega
      have hll : ((rows t).length : Int) ≤ 140737488351232 := by have := HR.out.len t hlt; omega
      by_cases hneg : tot rows t ≤ 2147483647
      · have hz : (0 : Int) ≤ 2147483647 - (tot rows t : Int) := by omega
        have hcc : Keep (tot rows (t + 1) = tot rows t + 32 + (rows t).length) := ⟨rfl⟩
        obtain ⟨T, hT⟩ : ∃ T, Keep (T = tot rows t) := ⟨_, ⟨rfl⟩⟩
        rw [← hT.out] at hz hneg hb ⊢
        have hTi : (T : Int) ≤ 2147483647 := by omega
        clear hc0 hneg hb
        go_wp2
        refine ⟨⟨t + 1, by omega, by go_num, ?_, ?_⟩, by simp [intOf]; omega⟩
        · rw [hcc.out, ← hT.out]; congr 1; omega
        · rw [hcc.out, ← hT.out]; omega
      · have hz : ¬ (0 : Int) ≤ 2147483647 - (tot rows t : Int) := by omega
        have hz2 : 2147483647 - (tot rows t : Int) < 0 := by omega
        clear hc0
        go_wp2
        go_ret
        exact ⟨_, rfl, fun h => by simp at h <;> omega, rfl⟩
    · obtain rfl : t = m := by omega
      have hlt' : ¬ ((t : Int) < (t : Int)) := by omega
      go_wp2
      go_ret
      exact ⟨_, rfl, fun h => by simp at h <;> omega, rfl⟩
end Go.Proofs.Ytanmbbckkfkhpaa
