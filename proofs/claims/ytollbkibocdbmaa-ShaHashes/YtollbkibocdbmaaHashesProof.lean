/- The statement of ShaHashes, out of its walk (the frame: the guide's proof-skeleton). -/
import Derived.Test.YtollbkibocdbmaaRows
import Derived.Test.YtollbkibocdbmaaHashes
import Derived.ProofKit
import Derived.OpenShut
import Derived.ShutString
import Derived.ChangeOld
import Derived.Below
import Derived.Deep.Slices
namespace Go.Proofs.Ytollbkibocdbmaa
open Go.ChangeShapes Go.WideShapes Go.ChangeAt Go.RowKit Go.Deep

theorem shaHashes_own : ownKnob Try.prog.godebug = none := by kernel_rfl
theorem shaHashes_laidOut : laidOutB Try.prog = true := by kernel_rfl
theorem Try.cells28 : Try.prog.cellsOf 28 = 1 := by kernel_rfl

theorem add_none (b o i : Nat) : (⟨b, o, none⟩ : Addr).add i = ⟨b, o + i, none⟩ := by
  cases i with
  | zero => rfl
  | succ i => rfl

/-- A reading of a slice of bytes tells a row. -/
theorem row_of_trod {H : Type} {enc : TypeId × Value → H} {W : World} {sp : Nat → Bool} {held : Bool} {n base : Nat} {v : Value} {x : DataW H × List MemPlace} (hf : DataW.trod enc Try.prog W base sp held n 28 [v] = some x) :
    ∃ l : List Int, RowAt W v l ∧ (l.length : Int) ≤ 9223372036854775807 := by
  rcases open_ints Try.underlying28 Try.underlying5 Try.cells5 hf with ⟨hcs, _⟩ | ⟨a, len, cap, zs, hcs, _, hl, hm, hz, _, hcell, hwz⟩
  · simp at hcs
    subst hcs
    exact ⟨[], .inl ⟨rfl, rfl⟩, by simp⟩
  · simp at hcs
    subst hcs
    unfold maxLen at hm
    have hlz : len ≤ zs.length := by rw [hz]; split <;> omega
    by_cases h0 : len = 0
    · subst h0
      exact ⟨[], .inr (.inl ⟨a, cap, rfl, rfl⟩), by simp⟩
    · have hs : a.spot = none := by
        have := hcell 0 (by omega)
        rw [show a.add 0 = a from rfl] at this
        exact World.cell?_spot this
      obtain ⟨b, off, sp⟩ := a
      obtain rfl : sp = none := hs
      have hlen : (zs.take len).length = len := by rw [List.length_take]; omega
      refine ⟨zs.take len, .inr (.inr ⟨b, off, cap, by rw [hlen], by omega, fun i hi => ?_⟩), by omega⟩
      rw [hlen] at hi
      have := hcell i (by omega)
      rw [add_none] at this
      rw [this]
      simp [List.getD, hi]

set_option maxRecDepth 100000 in
theorem shaHashes_lifted (os : Os) (started : os.Started) (H : Type) (enc : TypeId × Value → H) :
    ReturnsInHanded {} Try.checked os 4 .any (Rows.shaHashesSpec.pre6 enc Try.prog Try.f4 Rows.shaHashesRow.domain false) (Rows.shaHashesSpec.post enc Try.prog Try.f4 false true false false) := by
  refine returnsInHanded_of_change (C := Try.checked) shaHashes_own started (by kernel_rfl) Try.func4
    (ChangeSpec.witness6 (enc := enc) (C := Try.checked) false ⟨#[], #[.slice none 0 0], []⟩ 8 (by kernel_rfl) (by kernel_rfl) (by kernel_rfl) (by kernel_rfl)) ?_
  intro W base args ds gs before hval0 hW hcnd _
  have hval : ∀ (j : Nat) t v, Try.f4.params[j]? = some t → args[j]? = some v → Value.okWide Try.prog W .any base t v := hval0
  have hW' := hW
  obtain ⟨p, q, hA0, hV, rfl, hfz, hnd⟩ := hW
  have hA : DataW.TrodAll enc Try.prog W 0 (fun _ => true) true Try.f4.params.toList args.toList ds p := hA0
  rw [Try.params4] at hA hval
  obtain ⟨v0, vs0, d0, ds0, p0, q0, hargs, rfl, rfl, h0, r0⟩ := trodAll_cons hA
  obtain ⟨rfl, rfl, rfl⟩ := trodAll_nil r0
  obtain rfl : args = #[v0] := by cases args; simp_all
  obtain ⟨rfl, rfl⟩ := trodVars_none hV
  obtain ⟨a0, len0, cap0, rfl⟩ := okWide_slice Try.underlying25 (hval 0 25 v0 rfl rfl)
  have k0 := h0
  have lt0 : ∀ x ∈ p0, x.block < W.heap.size := by obtain ⟨m, hm⟩ := k0; exact DataW.trod_lt m _ _ _ hm
  have hrows : ∃ (V : Nat → Value) (rows : Nat → List Int), RowsAt W (.slice a0 len0 cap0) len0 V rows ∧ (len0 : Int) ≤ 9223372036854775807 ∧ ∀ i, i < len0 → ((rows i).length : Int) ≤ 9223372036854775807 := by
    obtain ⟨fuel, hf⟩ := h0
    rcases open_slice1 Try.underlying25 Try.cells28 hf with ⟨hcs, _⟩ | ⟨a, len, cap, m, n, V, D, Pl, hcs, _, hl, hm, hz, _, hcell⟩
    · cases hcs
      exact ⟨fun _ => .slice none 0 0, fun _ => [], ⟨.inl ⟨none, 0, rfl, rfl⟩, fun i hi => by omega⟩, by simp, fun i hi => by omega⟩
    · cases hcs
      unfold maxLen at hm
      have hlz : len0 ≤ m := by rw [hz]; split <;> omega
      obtain ⟨rows, hrows⟩ := Go.Deep.choose_lt (n := len0) (p := fun i l => RowAt W (V i) l ∧ (l.length : Int) ≤ 9223372036854775807) fun i hi => row_of_trod (hcell i (by omega)).2
      refine ⟨V, rows, ⟨?_, fun i hi => (hrows i hi).1⟩, by omega, fun i hi => (hrows i hi).2⟩
      by_cases h0 : len0 = 0
      · subst h0
        exact .inl ⟨_, _, rfl, rfl⟩
      · have hs : a.spot = none := by
          have := (hcell 0 (by omega)).1
          rw [show a.add 0 = a from rfl] at this
          exact World.cell?_spot this
        obtain ⟨b, off, sp⟩ := a
        obtain rfl : sp = none := hs
        refine .inr ⟨b, off, cap0, rfl, fun i hi => ?_⟩
        have := (hcell i (by omega)).1
        rw [add_none] at this
        exact this
  obtain ⟨V, rows, hR, hm, hrl⟩ := hrows
  clear hA0 hval0
  refine (hashes_any (.slice a0 len0 cap0) len0 V rows W hR hm hrl).mono fun e W' ⟨he, bel⟩ => ?_
  subst he
  exact ⟨_, rfl, _, _, _, [], _, [], hW', trodAll_mk1 (shut_bool Try.underlying4 _), (trodAll_cons_mk (Below.trod shaHashes_laidOut (by kernel_rfl) (of_decide_eq_true (by kernel_rfl)) k0 bel lt0) trodAll_mk0), rfl, bel.frame _, fun h => by cases h⟩

theorem shaHashes_over : Rows.shaHashesRow.holds Try.pinned (OpenSpec.ofChange Rows.shaHashesSpec) :=
  OpenClaim.holds_of_wide 4 Try.f4 rfl rfl rfl rfl rfl rfl rfl ⟨rfl, rfl, rfl, rfl, rfl⟩ rfl rfl rfl rfl rfl (by kernel_rfl) Try.func4 (by kernel_rfl)
    (of_decide_eq_true (by kernel_rfl)) (by unfold Func.isWrapper; first | (rw [if_pos (by decide +kernel)]; kernel_rfl) | (rw [if_neg (by decide +kernel)]; exact ⟨rfl, rfl⟩))
    (fun os started H enc _ => shaHashes_lifted os started H enc)

theorem shaHashes_holds : Rows.ShaHashesSaid := shaHashes_over
#print axioms shaHashes_holds
end Go.Proofs.Ytollbkibocdbmaa
