import Derived.Test.YtollbkibocdbmaaPcs
namespace Go.Proofs.Ytollbkibocdbmaa
open Go.RowKit

/-- The slice v holds the steps of a script. -/
structure ScriptAt (w : World) (v : Value) (m : Nat) (K O : Nat → Int) (V : Nat → Value) (rows : Nat → List Int) : Prop where
  form : (∃ a c, v = .slice a 0 c ∧ m = 0) ∨ ∃ q o cap, v = .slice (some ⟨q, o, none⟩) m cap ∧ ∀ i, i < m → w.cell? ⟨q, o + i * 3, none⟩ = some (.int .i64 (K i)) ∧ w.cell? ⟨q, o + i * 3 + 1, none⟩ = some (.int .i64 (O i)) ∧ w.cell? ⟨q, o + i * 3 + 2, none⟩ = some (V i)
  row : ∀ i, i < m → RowAt w (V i) (rows i)
theorem script_form {w : World} {v : Value} {m : Nat} {K O : Nat → Int} {V : Nat → Value} {rows : Nat → List Int} (h : ScriptAt w v m K O V rows) : ∃ a c, v = .slice a m c := by
  rcases h.form with ⟨a, c, rfl, rfl⟩ | ⟨q, o, cap, rfl, _⟩
  · exact ⟨_, _, rfl⟩
  · exact ⟨_, _, rfl⟩

set_option maxHeartbeats 1000000 in
theorem beyond15_any (v : Value) (m : Nat) (K O : Nat → Int) (V : Nat → Value) (rows : Nat → List Int) (w : World) (hr : ScriptAt w v m K O V rows) (hm : (m : Int) ≤ 9223372036854775807) (hrl : ∀ i, i < m → ((rows i).length : Int) ≤ 9223372036854775807) :
    Calls Try.prog 15 #[v] w (BeyPost (concat rows m).length w) := by
  have HR : Keep (ScriptAt w v m K O V rows) := ⟨hr⟩
  have HL : Keep (∀ i, i < m → ((rows i).length : Int) ≤ 9223372036854775807) := ⟨hrl⟩
  obtain ⟨pa, pc, rfl⟩ := script_form hr
  clear hr hrl
  go_enter Try.func15, Try.ntmps15
  go_wp2
  go_loop [3, 4] (fun lf i => ∃ t : Nat, t ≤ m ∧ i = .int .i64 (t : Int) ∧ lf = .int .i64 (2147483647 - ((concat rows t).length : Int)) ∧ ((concat rows t).length : Int) ≤ 9223372039002259454) (fun _ i => m - (intOf i).toNat)
  case atStart => exact ⟨0, by omega, rfl, by simp [concat], by simp [concat]⟩
  case round =>
    obtain ⟨t, ht, rfl, rfl, hb⟩ := hrel
    by_cases hlt : t < m
    · rcases HR.out.form with ⟨_, _, h1, h2⟩ | ⟨q, o, cap, h1, h2⟩
      · omega
      · injection h1 with h1 h3 h4
        subst h1
        have hc := (h2 t hlt).2.2
        obtain ⟨a, c, hv⟩ := row_form (HR.out.row t hlt)
        rw [hv] at hc
        have hlt' : (t : Int) < (m : Int) := by omega
        have hll := HL.out t hlt
        by_cases hneg : (concat rows t).length ≤ 2147483647
        · have hz : (0 : Int) ≤ 2147483647 - ((concat rows t).length : Int) := by omega
          have hcc : Keep ((concat rows (t + 1)).length = (concat rows t).length + (rows t).length) := ⟨by simp [concat]⟩
          clear h2
          go_wp2
          refine ⟨⟨t + 1, by omega, by go_num, by rw [hcc.out]; congr 1; omega, by rw [hcc.out]; omega⟩, by simp [intOf]; omega⟩
        · have hz : ¬ (0 : Int) ≤ 2147483647 - ((concat rows t).length : Int) := by omega
          have hz2 : 2147483647 - ((concat rows t).length : Int) < 0 := by omega
          clear h2
          go_wp2
          go_ret
          exact ⟨_, rfl, fun h => by simp at h <;> omega, rfl⟩
    · obtain rfl : t = m := by omega
      have hlt' : ¬ ((t : Int) < (t : Int)) := by omega
      go_wp2
      go_ret
      exact ⟨_, rfl, fun h => by simp at h <;> omega, rfl⟩
end Go.Proofs.Ytollbkibocdbmaa
