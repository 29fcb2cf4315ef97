/- The statement of ShaFollows, out of its walk (the frame: the guide's proof-skeleton). -/
import Derived.Test.YtollbkibocdbmaaRows
import Derived.Test.YtollbkibocdbmaaFolD
import Derived.Test.YtollbkibocdbmaaOrdN
import Derived.ProofKit
import Derived.OpenShut
import Derived.ShutString
import Derived.ChangeOld
import Derived.Below
import Derived.SizedLaws
import Derived.Deep.Slices
namespace Go.Proofs.Ytollbkibocdbmaa
open Go.ChangeShapes Go.WideShapes Go.ChangeAt Go.RowKit Go.Deep

theorem shaFollows_own : ownKnob Try.prog.godebug = none := by kernel_rfl
theorem shaFollows_laidOut : laidOutB Try.prog = true := by kernel_rfl

theorem add_noneF (b o i : Nat) : (⟨b, o, none⟩ : Addr).add i = ⟨b, o + i, none⟩ := by
  cases i with
  | zero => rfl
  | succ i => rfl
/-- A reading of a slice of bytes tells a row. -/
theorem row_of_trodF {H : Type} {enc : TypeId × Value → H} {W : World} {sp : Nat → Bool} {held : Bool} {n base : Nat} {v : Value} {x : DataW H × List MemPlace} (hf : DataW.trod enc Try.prog W base sp held n 28 [v] = some x) :
    ∃ l : List Int, RowAt W v l ∧ (l.length : Int) ≤ 9223372036854775807 := by
  rcases open_ints Try.underlying28 Try.underlying5 Try.cells5 hf with ⟨hcs, _⟩ | ⟨a, len, cap, zs, hcs, _, hl, hm, hz, _, hcell, hwz⟩
  · simp at hcs
    subst hcs
    exact ⟨[], .inl ⟨rfl, rfl⟩, by simp⟩
  · simp at hcs
    subst hcs
    unfold maxLen at hm
    have hlz : len ≤ zs.length := by rw [hz]; split <;> omega
    by_cases h0 : len = 0
    · subst h0
      exact ⟨[], .inr (.inl ⟨a, cap, rfl, rfl⟩), by simp⟩
    · have hs : a.spot = none := by
        have := hcell 0 (by omega)
        rw [show a.add 0 = a from rfl] at this
        exact World.cell?_spot this
      obtain ⟨b, off, sp⟩ := a
      obtain rfl : sp = none := hs
      have hlen : (zs.take len).length = len := by rw [List.length_take]; omega
      refine ⟨zs.take len, .inr (.inr ⟨b, off, cap, by rw [hlen], by omega, fun i hi => ?_⟩), by omega⟩
      rw [hlen] at hi
      have := hcell i (by omega)
      rw [add_noneF] at this
      rw [this]
      simp [List.getD, hi]

set_option maxRecDepth 100000 in
theorem shaFollows_lifted (os : Os) (started : os.Started) (H : Type) (enc : TypeId × Value → H) :
    ReturnsInHanded {} Try.checked os 8 .any (Rows.shaFollowsSpec.pre6 enc Try.prog Try.f8 Rows.shaFollowsRow.domain false) (Rows.shaFollowsSpec.post enc Try.prog Try.f8 false true false false) := by
  refine returnsInHanded_of_change_sized (C := Try.checked) shaFollows_own started (by kernel_rfl) Try.func8
    (ChangeSpec.witness6 (enc := enc) (C := Try.checked) false ⟨#[], #[.slice none 0 0, .slice none 0 0, .slice none 0 0], []⟩ 8 (by kernel_rfl) (by kernel_rfl) (by kernel_rfl) (by kernel_rfl)) ?_
  intro W base args ds gs before hval0 hW hcnd hsized _
  have hval : ∀ (j : Nat) t v, Try.f8.params[j]? = some t → args[j]? = some v → Value.okWide Try.prog W .any base t v := hval0
  have hW' := hW
  obtain ⟨p, q, hA0, hV, rfl, hfz, hnd⟩ := hW
  have hA : DataW.TrodAll enc Try.prog W 0 (fun _ => true) true Try.f8.params.toList args.toList ds p := hA0
  have hsz : (DataW.weightsEach Try.prog (Try.f8.params.toList ++ Rows.shaFollowsSpec.plain.varTypes Try.prog) (ds ++ gs)).all (· ≤ reachBytes) = true := hsized
  rw [Try.params8] at hA hval hsz
  obtain ⟨v0, vs0, d0, ds0, p0, q0, hargs, rfl, rfl, h0, r0⟩ := trodAll_cons hA
  obtain ⟨v1, vs1, d1, ds1, p1, q1, rfl, rfl, rfl, h1, r1⟩ := trodAll_cons r0
  obtain ⟨v2, vs2, d2, ds2, p2, q2, rfl, rfl, rfl, h2, r2⟩ := trodAll_cons r1
  obtain ⟨rfl, rfl, rfl⟩ := trodAll_nil r2
  obtain rfl : args = #[v0, v1, v2] := by cases args; simp_all
  obtain ⟨rfl, rfl⟩ := trodVars_none hV
  obtain ⟨a0, len0, cap0, rfl⟩ := okWide_slice Try.underlying28 (hval 0 28 v0 rfl rfl)
  obtain ⟨a1, len1, cap1, rfl⟩ := okWide_slice Try.underlying28 (hval 1 28 v1 rfl rfl)
  obtain ⟨a2, len2, cap2, rfl⟩ := okWide_slice Try.underlying45 (hval 2 45 v2 rfl rfl)
  have k0 := h0
  have k1 := h1
  have k2 := h2
  have lt0 : ∀ x ∈ p0, x.block < W.heap.size := by obtain ⟨m, hm⟩ := k0; exact DataW.trod_lt m _ _ _ hm
  have lt1 : ∀ x ∈ p1, x.block < W.heap.size := by obtain ⟨m, hm⟩ := k1; exact DataW.trod_lt m _ _ _ hm
  have lt2 : ∀ x ∈ p2, x.block < W.heap.size := by obtain ⟨m, hm⟩ := k2; exact DataW.trod_lt m _ _ _ hm
  obtain ⟨la, hla, hlla⟩ : ∃ l : List Int, RowAt W (.slice a0 len0 cap0) l ∧ (l.length : Int) ≤ 9223372036854775807 := by obtain ⟨m, hm⟩ := h0; exact row_of_trodF hm
  obtain ⟨lb, hlb, hllb⟩ : ∃ l : List Int, RowAt W (.slice a1 len1 cap1) l ∧ (l.length : Int) ≤ 9223372036854775807 := by obtain ⟨m, hm⟩ := h1; exact row_of_trodF hm
  have hrow : ∃ L : List Hs, HRow W (.slice a2 len2 cap2) L ∧ L.length ≤ 4398046511000 := by
    obtain ⟨fuel, hf⟩ := h2
    obtain ⟨L, hL, hx⟩ := hrow_of_trod hf
    refine ⟨L, hL, ?_⟩
    rcases hx with rfl | ⟨D, rest, hx⟩
    · simp
    · have h32 := sized_slice hsz (j := 2) (t := 45) (e := 23) rfl (by rw [show d2 = _ from hx]; rfl) Try.underlying45
      rw [Try.bytes23] at h32
      simp only [List.length_map, List.length_range] at h32
      have : reachBytes = 140737488351232 := rfl
      omega
  obtain ⟨L, hR, hm⟩ := hrow
  clear hA0 hval0
  refine (follows_any _ _ _ la lb L W hla hlb hR hlla hllb hm).mono fun e W' ⟨he, bel⟩ => ?_
  subst he
  exact ⟨_, rfl, _, _, _, [], _, [], hW', trodAll_mk1 (shut_bool Try.underlying4 _), (trodAll_cons_mk (Below.trod shaFollows_laidOut (by kernel_rfl) (of_decide_eq_true (by kernel_rfl)) k0 bel lt0) (trodAll_cons_mk (Below.trod shaFollows_laidOut (by kernel_rfl) (of_decide_eq_true (by kernel_rfl)) k1 bel lt1) (trodAll_cons_mk (Below.trod shaFollows_laidOut (by kernel_rfl) (of_decide_eq_true (by kernel_rfl)) k2 bel lt2) trodAll_mk0))), rfl, bel.frame _, fun h => by cases h⟩

theorem shaFollows_over : Rows.shaFollowsRow.holds Try.pinned (OpenSpec.ofChange Rows.shaFollowsSpec) :=
  OpenClaim.holds_of_wide 8 Try.f8 rfl rfl rfl rfl rfl rfl rfl ⟨rfl, rfl, rfl, rfl, rfl⟩ rfl rfl rfl rfl rfl (by kernel_rfl) Try.func8 (by kernel_rfl)
    (of_decide_eq_true (by kernel_rfl)) (by unfold Func.isWrapper; first | (rw [if_pos (by decide +kernel)]; kernel_rfl) | (rw [if_neg (by decide +kernel)]; exact ⟨rfl, rfl⟩))
    (fun os started H enc _ => shaFollows_lifted os started H enc)

theorem shaFollows_holds : Rows.ShaFollowsSaid := shaFollows_over
#print axioms shaFollows_holds
end Go.Proofs.Ytollbkibocdbmaa
