import Derived.Test.YtjklmkeedhgncaaRows
import Derived.Test.YtjklmkeedhgncaaA24
import Derived.Test.YtjklmkeedhgncaaA25
import Derived.Deep.CondSized
namespace Go.Proofs.Ytjklmkeedhgncaa
open Go.ChangeShapes Go.WideShapes Go.ChangeAt Go.RowKit Go.Deep

theorem rootsTrue_own : ownKnob Try.prog.godebug = none := by kernel_rfl
theorem rootsTrue_laidOut : laidOutB Try.prog = true := by kernel_rfl
set_option maxRecDepth 100000 in
theorem rootsTrue_contract (H : Type) (enc : TypeId × Value → H) (W : World) (base : Nat) (args : Array Value) (ds gs : List (DataW H)) (before : List MemPlace)
  (hval0 : ∀ (j : Nat) t v, Try.f7.params[j]? = some t → args[j]? = some v → Value.okWide Try.prog W .any base t v)
  (hW : DataW.Whole enc Try.prog Try.f7.params.toList Rows.rootsTrueSpec.vars false W args.toList ds gs before) (hk : Rows.uptoSmall H (ds ++ gs) = true) :
  Calls Try.prog 7 args W fun e W' => ∃ v, e = .returned v ∧ Rows.rootsTrueSpec.post enc Try.prog Try.f7 false true false false W args v W' := by
 have hval : ∀ (j : Nat) t v, Try.f7.params[j]? = some t → args[j]? = some v → Value.okWide Try.prog W .any base t v := hval0
 have hW' := hW
 obtain ⟨p, q, hA0, hV, rfl, hfz, hnd⟩ := hW
 have hA : DataW.TrodAll enc Try.prog W 0 (fun _ => true) true Try.f7.params.toList args.toList ds p := hA0
 rw [Try.params7] at hA hval
 obtain ⟨v0, vs0, d0, ds0, p0, q0, hargs, rfl, rfl, h0, r0⟩ := trodAll_cons hA
 obtain ⟨rfl, rfl, rfl⟩ := trodAll_nil r0
 obtain rfl : args = #[v0] := by cases args; simp_all
 obtain ⟨rfl, rfl⟩ := trodVars_none hV
 obtain ⟨as0, rfl, _⟩ := okWide_struct Try.underlying46 (hval 0 46 v0 rfl rfl)
 have k0 := h0
 have lt0 : ∀ x ∈ p0, x.block < W.heap.size := by obtain ⟨m, hm⟩ := k0; exact DataW.trod_lt m _ _ _ hm
 obtain ⟨f0, hf0⟩ := h0
 obtain ⟨G0, ha0, hG0⟩ := asked_of_trod hf0
 obtain rfl : as0 = #[G0.v, .int .i64 G0.kind, .string G0.key, .int .i64 G0.n, G0.u] := Array.ext' (by simpa [Value.cells] using ha0)
 obtain ⟨⟨hC0, hL0⟩, hn0, hkd0, ⟨hN0, hP0⟩, hQ0⟩ := hG0
 dsimp only at hN0 hP0 hQ0
 have hbk := of_decide_eq_true hk
 simp only [Rows.uptoBulkAll, List.cons_append, List.nil_append] at hbk
 clear hA0 hval0
 refine (true_any G0.v G0.u G0.L G0.ls G0.kind G0.n G0.key W hC0 hL0 (fun c hc => by have := (hP0 c hc).2.2; omega) (by omega) (fun c hc => (hP0 c hc).1) (by omega) (fun y hy => by have := hQ0 y hy; omega) (fun x hx => (hQ0 x hx).1)).mono fun e W' ⟨he, bel⟩ => ?_
 subst he
 exact ⟨_, rfl, _, _, _, [], _, [], hW', trodAll_mk1 (shut_bool Try.underlying4 _), (trodAll_cons_mk (Below.trod rootsTrue_laidOut (by kernel_rfl) (of_decide_eq_true (by kernel_rfl)) k0 bel lt0) trodAll_mk0), rfl, bel.frame _, fun h => by cases h⟩

set_option maxRecDepth 100000 in
theorem rootsTrue_lifted (os : Os) (started : os.Started) (H : Type) (enc : TypeId × Value → H) (F : Stop.Interp) :
  ReturnsInHanded {} Try.checked os 7 .any ((Rows.OpenSpec.upto Rows.rootsTrueSpec).pre6 enc Try.prog Try.f7 Rows.rootsTrueUptoRow.domain false) (((Rows.OpenSpec.upto Rows.rootsTrueSpec).at F).post enc Try.prog Try.f7 false true false false) := by
 refine returnsInHanded_of_cond_sized (C := Try.checked) (s := Rows.OpenSpec.upto Rows.rootsTrueSpec) (k := Rows.uptoSmall) rfl rootsTrue_own started (by kernel_rfl) Try.func7
  (OpenSpec.witness (enc := enc) (C := Try.checked) (s := Rows.OpenSpec.upto Rows.rootsTrueSpec) (k := Rows.uptoSmall) rfl false ⟨#[], #[.agg #[.slice none 0 0, .int .i64 0, .string ByteArray.empty, .int .i64 0, .slice none 0 0]], []⟩ 8 (by kernel_rfl) (by kernel_rfl) (by kernel_rfl)
   (x := ([.agg [.nil, .lit (.int .i64 0), .lit (.string []), .agg [.lit (.int .i64 0), .nil]]], [], [])) (by kernel_rfl) rfl (by kernel_rfl)) ?_
 intro W base args ds gs before hval hW _ hk _ _
 exact rootsTrue_contract H enc W base args ds gs before hval hW hk

theorem rootsTrue_over : Rows.rootsTrueUptoRow.holds Try.pinned (Rows.OpenSpec.upto Rows.rootsTrueSpec) :=
 OpenClaim.holds_of_cond 7 Try.f7 rfl rfl rfl rfl rfl rfl rfl ⟨rfl, rfl, rfl, rfl, rfl⟩ rfl rfl rfl rfl rfl (by kernel_rfl) Try.func7 (by kernel_rfl)
  (of_decide_eq_true (by kernel_rfl)) (by unfold Func.isWrapper; first | (rw [if_pos (by decide +kernel)]; kernel_rfl) | (rw [if_neg (by decide +kernel)]; exact ⟨rfl, rfl⟩))
  (fun os started H enc _ F => rootsTrue_lifted os started H enc F)

theorem rootsTrueUpto_holds : Rows.RootsTrueUptoSaid := rootsTrue_over
#print axioms rootsTrueUpto_holds
end Go.Proofs.Ytjklmkeedhgncaa
