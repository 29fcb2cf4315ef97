/- The statement of ShaKeeps, out of its walk (the frame: the guide's proof-skeleton). -/
import Derived.Test.YtbbhjgflaiacaaaRows
import Derived.Test.YtbbhjgflaiacaaaKeepC
import Derived.ProofKit
import Derived.OpenShut
import Derived.ShutString
import Derived.ChangeOld
import Derived.Below
import Derived.SizedLaws
import Derived.Deep.Slices
namespace Go.Proofs.Ytbbhjgflaiacaaa
open Go.ChangeShapes Go.WideShapes Go.ChangeAt Go.RowKit Go.Deep

theorem shaKeeps_own : ownKnob Try.prog.godebug = none := by kernel_rfl
theorem shaKeeps_laidOut : laidOutB Try.prog = true := by kernel_rfl
theorem Try.bytes5K : Try.prog.bytesOf 5 = 1 := by kernel_rfl

theorem add_noneF (b o i : Nat) : (⟨b, o, none⟩ : Addr).add i = ⟨b, o + i, none⟩ := by
  cases i with
  | zero => rfl
  | succ i => rfl
/-- A reading of a slice of bytes tells a row. -/
theorem row_of_trodK {H : Type} {enc : TypeId × Value → H} {W : World} {sp : Nat → Bool} {held : Bool} {n base : Nat} {v : Value} {x : DataW H × List MemPlace} (hf : DataW.trod enc Try.prog W base sp held n 28 [v] = some x) :
    ∃ l : List Int, RowAt W v l ∧ (l = [] ∨ ∃ (D : Nat → DataW H) (rest : List (DataW H)), x.1 = .slice ((List.range l.length).map D) rest) := by
  rcases open_ints Try.underlying28 Try.underlying5 Try.cells5 hf with ⟨hcs, _⟩ | ⟨a, len, cap, zs, hcs, _, hl, hm, hz, _, hcell, hwz⟩
  · simp at hcs
    subst hcs
    exact ⟨[], .inl ⟨rfl, rfl⟩, .inl rfl⟩
  · simp at hcs
    subst hcs
    unfold maxLen at hm
    have hlz : len ≤ zs.length := by rw [hz]; split <;> omega
    by_cases h0 : len = 0
    · subst h0
      exact ⟨[], .inr (.inl ⟨a, cap, rfl, rfl⟩), .inl rfl⟩
    · have hs : a.spot = none := by
        have := hcell 0 (by omega)
        rw [show a.add 0 = a from rfl] at this
        exact World.cell?_spot this
      obtain ⟨b, off, sp⟩ := a
      obtain rfl : sp = none := hs
      have hlen : (zs.take len).length = len := by rw [List.length_take]; omega
      refine ⟨zs.take len, .inr (.inr ⟨b, off, cap, by rw [hlen], by omega, fun i hi => ?_⟩), .inr ?_⟩
      · rw [hlen] at hi
        have := hcell i (by omega)
        rw [add_noneF] at this
        rw [this]
        simp [List.getD, hi]
      · rcases open_slice Try.underlying28 hf with ⟨hcs, _⟩ | ⟨a', len', cap', m, n', D, Pl, hcs, _, _, _, _, hx, _⟩
        · simp at hcs
        · simp only [List.cons.injEq, Value.slice.injEq, and_true] at hcs
          obtain ⟨_, e2, _⟩ := hcs
          subst e2
          exact ⟨D, (List.range (m - len)).map fun j => D (len + j), by rw [hx, hlen]⟩

set_option maxRecDepth 100000 in
theorem shaKeeps_lifted (os : Os) (started : os.Started) (H : Type) (enc : TypeId × Value → H) :
    ReturnsInHanded {} Try.checked os 8 .any (Rows.shaKeepsSpec.pre6 enc Try.prog Try.f8 Rows.shaKeepsRow.domain false) (Rows.shaKeepsSpec.post enc Try.prog Try.f8 false true false false) := by
  refine returnsInHanded_of_change_sized (C := Try.checked) shaKeeps_own started (by kernel_rfl) Try.func8
    (ChangeSpec.witness6 (enc := enc) (C := Try.checked) false ⟨#[], #[.slice none 0 0, .slice none 0 0], []⟩ 8 (by kernel_rfl) (by kernel_rfl) (by kernel_rfl) (by kernel_rfl)) ?_
  intro W base args ds gs before hval0 hW hcnd hsized _
  have hval : ∀ (j : Nat) t v, Try.f8.params[j]? = some t → args[j]? = some v → Value.okWide Try.prog W .any base t v := hval0
  have hW' := hW
  obtain ⟨p, q, hA0, hV, rfl, hfz, hnd⟩ := hW
  have hA : DataW.TrodAll enc Try.prog W 0 (fun _ => true) true Try.f8.params.toList args.toList ds p := hA0
  have hsz : (DataW.weightsEach Try.prog (Try.f8.params.toList ++ Rows.shaKeepsSpec.plain.varTypes Try.prog) (ds ++ gs)).all (· ≤ reachBytes) = true := hsized
  rw [Try.params8] at hA hval hsz
  obtain ⟨v0, vs0, d0, ds0, p0, q0, hargs, rfl, rfl, h0, r0⟩ := trodAll_cons hA
  obtain ⟨v1, vs1, d1, ds1, p1, q1, rfl, rfl, rfl, h1, r1⟩ := trodAll_cons r0
  obtain ⟨rfl, rfl, rfl⟩ := trodAll_nil r1
  obtain rfl : args = #[v0, v1] := by cases args; simp_all
  obtain ⟨rfl, rfl⟩ := trodVars_none hV
  obtain ⟨a0, len0, cap0, rfl⟩ := okWide_slice Try.underlying28 (hval 0 28 v0 rfl rfl)
  obtain ⟨a1, len1, cap1, rfl⟩ := okWide_slice Try.underlying45 (hval 1 45 v1 rfl rfl)
  have k0 := h0
  have k1 := h1
  have lt0 : ∀ x ∈ p0, x.block < W.heap.size := by obtain ⟨m, hm⟩ := k0; exact DataW.trod_lt m _ _ _ hm
  have lt1 : ∀ x ∈ p1, x.block < W.heap.size := by obtain ⟨m, hm⟩ := k1; exact DataW.trod_lt m _ _ _ hm
  have hrb : reachBytes = 140737488351232 := rfl
  have hrowb : ∃ l : List Int, RowAt W (.slice a0 len0 cap0) l ∧ l.length ≤ 140737488351232 := by
    obtain ⟨fuel, hf⟩ := h0
    obtain ⟨l, hl, hx⟩ := row_of_trodK hf
    refine ⟨l, hl, ?_⟩
    rcases hx with rfl | ⟨D, rest, hx⟩
    · simp
    · have h1 := sized_slice hsz (j := 0) (t := 28) (e := 5) rfl (by rw [show d0 = _ from hx]; rfl) Try.underlying28
      rw [Try.bytes5K] at h1
      simp only [List.length_map, List.length_range] at h1
      omega
  have hrow : ∃ L : List Hs, HRow W (.slice a1 len1 cap1) L ∧ L.length ≤ 4398046511000 := by
    obtain ⟨fuel, hf⟩ := h1
    obtain ⟨L, hL, hx⟩ := hrow_of_trod hf
    refine ⟨L, hL, ?_⟩
    rcases hx with rfl | ⟨D, rest, hx⟩
    · simp
    · have h32 := sized_slice hsz (j := 1) (t := 45) (e := 23) rfl (by rw [show d1 = _ from hx]; rfl) Try.underlying45
      rw [Try.bytes23] at h32
      simp only [List.length_map, List.length_range] at h32
      omega
  obtain ⟨lb, hlb, hlbl⟩ := hrowb
  obtain ⟨L, hR, hm⟩ := hrow
  clear hA0 hval0
  refine (keeps_any _ _ lb L W hlb hR hlbl hm).mono fun e W' ⟨he, bel⟩ => ?_
  subst he
  exact ⟨_, rfl, _, _, _, [], _, [], hW', trodAll_mk1 (shut_bool Try.underlying4 _), (trodAll_cons_mk (Below.trod shaKeeps_laidOut (by kernel_rfl) (of_decide_eq_true (by kernel_rfl)) k0 bel lt0) (trodAll_cons_mk (Below.trod shaKeeps_laidOut (by kernel_rfl) (of_decide_eq_true (by kernel_rfl)) k1 bel lt1) trodAll_mk0)), rfl, bel.frame _, fun h => by cases h⟩

theorem shaKeeps_over : Rows.shaKeepsRow.holds Try.pinned (OpenSpec.ofChange Rows.shaKeepsSpec) :=
  OpenClaim.holds_of_wide 8 Try.f8 rfl rfl rfl rfl rfl rfl rfl ⟨rfl, rfl, rfl, rfl, rfl⟩ rfl rfl rfl rfl rfl (by kernel_rfl) Try.func8 (by kernel_rfl)
    (of_decide_eq_true (by kernel_rfl)) (by unfold Func.isWrapper; first | (rw [if_pos (by decide +kernel)]; kernel_rfl) | (rw [if_neg (by decide +kernel)]; exact ⟨rfl, rfl⟩))
    (fun os started H enc _ => shaKeeps_lifted os started H enc)

theorem shaKeeps_holds : Rows.ShaKeepsSaid := shaKeeps_over
#print axioms shaKeeps_holds
end Go.Proofs.Ytbbhjgflaiacaaa
