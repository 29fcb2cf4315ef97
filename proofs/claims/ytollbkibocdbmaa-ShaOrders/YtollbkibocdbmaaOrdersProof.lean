/- The statement of ShaOrders, out of its walk (the frame: the guide's proof-skeleton). -/
import Derived.Test.YtollbkibocdbmaaRows
import Derived.Test.YtollbkibocdbmaaOrdN
import Derived.ProofKit
import Derived.OpenShut
import Derived.ShutString
import Derived.ChangeOld
import Derived.Below
import Derived.SizedLaws
import Derived.Deep.Slices
namespace Go.Proofs.Ytollbkibocdbmaa
open Go.ChangeShapes Go.WideShapes Go.ChangeAt Go.RowKit Go.Deep

theorem shaOrders_own : ownKnob Try.prog.godebug = none := by kernel_rfl
theorem shaOrders_laidOut : laidOutB Try.prog = true := by kernel_rfl

set_option maxRecDepth 100000 in
theorem shaOrders_lifted (os : Os) (started : os.Started) (H : Type) (enc : TypeId × Value → H) :
    ReturnsInHanded {} Try.checked os 6 .any (Rows.shaOrdersSpec.pre6 enc Try.prog Try.f6 Rows.shaOrdersRow.domain false) (Rows.shaOrdersSpec.post enc Try.prog Try.f6 false true false false) := by
  refine returnsInHanded_of_change_sized (C := Try.checked) shaOrders_own started (by kernel_rfl) Try.func6
    (ChangeSpec.witness6 (enc := enc) (C := Try.checked) false ⟨#[], #[.slice none 0 0], []⟩ 8 (by kernel_rfl) (by kernel_rfl) (by kernel_rfl) (by kernel_rfl)) ?_
  intro W base args ds gs before hval0 hW hcnd hsized _
  have hval : ∀ (j : Nat) t v, Try.f6.params[j]? = some t → args[j]? = some v → Value.okWide Try.prog W .any base t v := hval0
  have hW' := hW
  obtain ⟨p, q, hA0, hV, rfl, hfz, hnd⟩ := hW
  have hA : DataW.TrodAll enc Try.prog W 0 (fun _ => true) true Try.f6.params.toList args.toList ds p := hA0
  have hsz : (DataW.weightsEach Try.prog (Try.f6.params.toList ++ Rows.shaOrdersSpec.plain.varTypes Try.prog) (ds ++ gs)).all (· ≤ reachBytes) = true := hsized
  rw [Try.params6] at hA hval hsz
  obtain ⟨v0, vs0, d0, ds0, p0, q0, hargs, rfl, rfl, h0, r0⟩ := trodAll_cons hA
  obtain ⟨rfl, rfl, rfl⟩ := trodAll_nil r0
  obtain rfl : args = #[v0] := by cases args; simp_all
  obtain ⟨rfl, rfl⟩ := trodVars_none hV
  obtain ⟨a0, len0, cap0, rfl⟩ := okWide_slice Try.underlying45 (hval 0 45 v0 rfl rfl)
  have k0 := h0
  have lt0 : ∀ x ∈ p0, x.block < W.heap.size := by obtain ⟨m, hm⟩ := k0; exact DataW.trod_lt m _ _ _ hm
  have hrow : ∃ L : List Hs, HRow W (.slice a0 len0 cap0) L ∧ L.length ≤ 4398046511104 := by
    obtain ⟨fuel, hf⟩ := h0
    obtain ⟨L, hL, hx⟩ := hrow_of_trod hf
    refine ⟨L, hL, ?_⟩
    rcases hx with rfl | ⟨D, rest, hx⟩
    · simp
    · have h32 := sized_slice hsz (j := 0) (t := 45) (e := 23) rfl (by rw [show d0 = _ from hx]; rfl) Try.underlying45
      rw [Try.bytes23] at h32
      simp only [List.length_map, List.length_range] at h32
      have := reachBytes_lt
      omega
  obtain ⟨L, hR, hm⟩ := hrow
  clear hA0 hval0
  refine (orders_any (.slice a0 len0 cap0) L W hR hm).mono fun e W' ⟨he, bel⟩ => ?_
  subst he
  exact ⟨_, rfl, _, _, _, [], _, [], hW', trodAll_mk1 (shut_bool Try.underlying4 _), (trodAll_cons_mk (Below.trod shaOrders_laidOut (by kernel_rfl) (of_decide_eq_true (by kernel_rfl)) k0 bel lt0) trodAll_mk0), rfl, bel.frame _, fun h => by cases h⟩

theorem shaOrders_over : Rows.shaOrdersRow.holds Try.pinned (OpenSpec.ofChange Rows.shaOrdersSpec) :=
  OpenClaim.holds_of_wide 6 Try.f6 rfl rfl rfl rfl rfl rfl rfl ⟨rfl, rfl, rfl, rfl, rfl⟩ rfl rfl rfl rfl rfl (by kernel_rfl) Try.func6 (by kernel_rfl)
    (of_decide_eq_true (by kernel_rfl)) (by unfold Func.isWrapper; first | (rw [if_pos (by decide +kernel)]; kernel_rfl) | (rw [if_neg (by decide +kernel)]; exact ⟨rfl, rfl⟩))
    (fun os started H enc _ => shaOrders_lifted os started H enc)

theorem shaOrders_holds : Rows.ShaOrdersSaid := shaOrders_over
#print axioms shaOrders_holds
end Go.Proofs.Ytollbkibocdbmaa
