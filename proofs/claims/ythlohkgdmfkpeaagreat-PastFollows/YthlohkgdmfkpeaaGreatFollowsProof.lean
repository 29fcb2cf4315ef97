import Derived.Test.YthlohkgdmfkpeaaGreatRows
import Derived.Test.YthlohkgdmfkpeaaGreatB19
import Derived.WalkKit
import Derived.ProofKit
import Derived.OpenShut
import Derived.ChangeOld
import Derived.Below
import Derived.SizedLaws
namespace Go.Proofs.YthlohkgdmfkpeaaGreat
open Go.ChangeShapes Go.WideShapes Go.ChangeAt Go.RowKit Go.Deep

theorem pastFollows_own : ownKnob Tryz.prog.godebug = none := by kernel_rfl
theorem pastFollows_laidOut : laidOutB Tryz.prog = true := by kernel_rfl
theorem Tryz.und66A : Tryz.prog.underlying 66 = some (.array 2 3) := by kernel_rfl
theorem Tryz.cells66A : Tryz.prog.cellsOf 66 = 2 := by kernel_rfl
theorem two_of_trod {H : Type} {enc : TypeId × Value → H} {W : World} {sp : Nat → Bool} {held : Bool} {n base : Nat} {l : List Value} {x : DataW H × List MemPlace} (hf : DataW.trod enc Tryz.prog W base sp held n 66 l = some x) : ∃ x0 x1 : Int, l = [.int .i64 x0, .int .i64 x1] := by
 obtain ⟨xs, m, _, _, hl_, hx, hel⟩ := DataW.trod_array Tryz.und66A hf
 rw [Tryz.cells66A] at hl_
 rw [Nd.Tryz.cellsOf3] at hel
 have each : ∀ i, i < 2 → ∃ z : Int, l[i]? = some (.int .i64 z) := by
  intro i hi
  have h1 := hel i hi
  rw [List.getElem?_eq_getElem (by omega), Nat.mul_one] at h1
  obtain ⟨z, hz, _, hw⟩ := DataW.trod_int Tryz.underlying3 h1
  exact ⟨z, Nd.take_one hz⟩
 obtain ⟨x0, h0⟩ := each 0 (by omega)
 obtain ⟨x1, h1⟩ := each 1 (by omega)
 clear hel each hf
 match l, hl_, h0, h1 with
 | [a, b], _, h0, h1 =>
  have e0 : a = .int .i64 x0 := Option.some.inj h0
  have e1 : b = .int .i64 x1 := Option.some.inj h1
  exact ⟨x0, x1, by rw [e0, e1]⟩
set_option maxRecDepth 100000 in
theorem pastFollows_lifted (os : Os) (started : os.Started) (H : Type) (enc : TypeId × Value → H) :
  ReturnsInHanded {} Tryz.checked os 8 .any (Rows.pastFollowsSpec.pre6 enc Tryz.prog Tryz.f8 Rows.pastFollowsRow.domain false) (Rows.pastFollowsSpec.post enc Tryz.prog Tryz.f8 false true false false) := by
 refine returnsInHanded_of_change_sized (C := Tryz.checked) pastFollows_own started (by kernel_rfl) Tryz.func8
  (ChangeSpec.witness6 (enc := enc) (C := Tryz.checked) false ⟨#[], #[.slice none 0 0, .agg #[.int .i64 0, .int .i64 0]], []⟩ 8 (by kernel_rfl) (by kernel_rfl) (by kernel_rfl) (by kernel_rfl)) ?_
 intro W base args ds gs before hval0 hW hcnd hsized _
 have hval : ∀ (j : Nat) t v, Tryz.f8.params[j]? = some t → args[j]? = some v → Value.okWide Tryz.prog W .any base t v := hval0
 have hW' := hW
 obtain ⟨p, q, hA0, hV, rfl, hfz, hnd⟩ := hW
 have hA : DataW.TrodAll enc Tryz.prog W 0 (fun _ => true) true Tryz.f8.params.toList args.toList ds p := hA0
 have hsz : (DataW.weightsEach Tryz.prog (Tryz.f8.params.toList ++ Rows.pastFollowsSpec.plain.varTypes Tryz.prog) (ds ++ gs)).all (· ≤ reachBytes) = true := hsized
 rw [Tryz.params8] at hA hval hsz
 obtain ⟨v0, vs0, d0, ds0, p0, q0, hargs, rfl, rfl, h0, r0⟩ := trodAll_cons hA
 obtain ⟨v1, vs1, d1, ds1, p1, q1, rfl, rfl, rfl, h1, r1⟩ := trodAll_cons r0
 obtain ⟨rfl, rfl, rfl⟩ := trodAll_nil r1
 obtain rfl : args = #[v0, v1] := by cases args; simp_all
 obtain ⟨rfl, rfl⟩ := trodVars_none hV
 obtain ⟨a0, len0, cap0, rfl⟩ := okWide_slice Tryz.underlying23 (hval 0 23 v0 rfl rfl)
 have k0 := h0
 have lt0 : ∀ x ∈ p0, x.block < W.heap.size := by obtain ⟨m, hm⟩ := k0; exact DataW.trod_lt m _ _ _ hm
 obtain ⟨as1, rfl⟩ : ∃ cz, v1 = .agg cz := by
  have hv := hval 1 66 v1 rfl rfl
  simp only [Value.okWide, Tryz.und66A] at hv
  obtain ⟨cz, h1, _⟩ := hv
  exact ⟨cz, h1⟩
 have k1 := h1
 have lt1 : ∀ x ∈ p1, x.block < W.heap.size := by obtain ⟨m, hm⟩ := k1; exact DataW.trod_lt m _ _ _ hm
 obtain ⟨f0, hf0⟩ := h0
 obtain ⟨f1, hf1⟩ := h1
 obtain ⟨l0, hR0, hI0, hl0⟩ := ents_of_trod hf0 (fun n hn => by
  have := List.all_eq_true.1 hsz n (DataW.weights_mem_each (j := 0) (t := 23) rfl rfl n hn)
  simpa using this)
 obtain ⟨x1, y1, hcs1⟩ := two_of_trod hf1
 obtain rfl : as1 = #[.int .i64 x1, .int .i64 y1] := Array.ext' (by simpa [Value.cells] using hcs1)
 clear hA0 hval0
 refine (follows_any (.slice a0 len0 cap0) l0 x1 y1 W hR0 hI0 hl0).mono fun e W' ⟨he, bel⟩ => ?_
 subst he
 exact ⟨_, rfl, _, _, _, [], _, [], hW', trodAll_mk1 (shut_bool Tryz.underlying4 _), (trodAll_cons_mk (Below.trod pastFollows_laidOut (by kernel_rfl) (of_decide_eq_true (by kernel_rfl)) k0 bel lt0) (trodAll_cons_mk (Below.trod pastFollows_laidOut (by kernel_rfl) (of_decide_eq_true (by kernel_rfl)) k1 bel lt1) trodAll_mk0)), rfl, bel.frame _, fun h => by cases h⟩

theorem pastFollows_over : Rows.pastFollowsRow.holds Tryz.pinned (OpenSpec.ofChange Rows.pastFollowsSpec) :=
 OpenClaim.holds_of_wide 8 Tryz.f8 rfl rfl rfl rfl rfl rfl rfl ⟨rfl, rfl, rfl, rfl, rfl⟩ rfl rfl rfl rfl rfl (by kernel_rfl) Tryz.func8 (by kernel_rfl)
  (of_decide_eq_true (by kernel_rfl)) (by unfold Func.isWrapper; first | (rw [if_pos (by decide +kernel)]; kernel_rfl) | (rw [if_neg (by decide +kernel)]; exact ⟨rfl, rfl⟩))
  (fun os started H enc _ => pastFollows_lifted os started H enc)

theorem pastFollows_holds : Rows.PastFollowsSaid := pastFollows_over
#print axioms pastFollows_holds
end Go.Proofs.YthlohkgdmfkpeaaGreat
