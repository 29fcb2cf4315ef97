import Derived.Test.YtennogmeeefopaaDoorCards
import Derived.Test.YtennogmeeefopaaDoorTie
import Derived.Test.YtennogmeeefopaaDoorA09
import Derived.Test.YtennogmeeefopaaDoorA14
import Derived.Lib.LaidTab
import Derived.ChangeSame
import Derived.ChangeVars
import Derived.JoinedOf
import Derived.LaidLaws
import Derived.LaidHandle
import Derived.LaidMore
import Derived.OpenShut
import Derived.ProofKit
import Derived.Stop.Joined
import Derived.SevenTiedAt
import Derived.Deep.CondSized
import Derived.Deep.DeepHandedRow
import Derived.Deep.DeepWitnessRowRef
namespace Go.Proofs.YtennogmeeefopaaDoor
open Go.ChangeShapes Go.WideShapes Go.ChangeAt Go.RowKit Go.Deep

theorem journalAgain_own : ownKnob Tryd.prog.godebug = none := by kernel_rfl
theorem journalAgain_laidOut : laidOutB Tryd.prog = true := by kernel_rfl
theorem journalAgain_met (os : Os) (args : Array Value) : laidMetH Tryd.prog Rows.journalAgainUptoRow.laid ((World.doorLaid Tryd.prog 400 os).forCall (fun _ _ => 0) ⟨#[], args, []⟩).memory :=
 laidMetH_of_parts3 (fuel := 8) (laidMet_of_run' 8 (by kernel_rfl) (by kernel_rfl)) (by kernel_rfl) (by kernel_rfl)
theorem journalAgain_tab {W : World} (hL : laidMetH Tryd.prog Rows.journalAgainUptoRow.laid W) : Tab W ∧ 0 < W.heap.size := by
 have h : laidMet Tryd.prog Rows.journalAgainUptoRow.laid W := hL
 obtain ⟨ps, ⟨_, _, _, _, _, q1, _, _, _, _, ⟨_, _, _, _, _, q2, _, _, _, _, h3, _⟩, _⟩, _⟩ := h
 obtain ⟨g', t', cs, fuel, p, q, hg', ht', hvar, hd, _, _⟩ := h3
 obtain rfl := Option.some.inj (Tryd.gPow.symm.trans hg')
 obtain rfl := Option.some.inj ((show (Tryd.prog.globals[0]?).map (·.type) = some 158 by kernel_rfl).symm.trans ht')
 have hT : Tab W := by
  unfold Tab Lib.TabIs
  rw [hvar, ← Lib.cells_of_tab (zs := Lib.pow10Tab) (k := .u64) Tryd.underlying158 Tryd.underlying133 (by kernel_rfl) (by kernel_rfl) hd]
 exact ⟨hT, cell_lt (Lib.TabIs.cell hT Tryd.gPow 0 (by decide))⟩
set_option maxRecDepth 100000 in
theorem journalAgain_contract (H : Type) (enc : TypeId × Value → H) (W : World) (base : Nat) (args : Array Value) (ds gs : List (DataW H)) (before : List MemPlace)
  (hval0 : ∀ (j : Nat) t v, Tryd.f5.params[j]? = some t → args[j]? = some v → Value.okWide Tryd.prog W .any base t v)
  (hW : DataW.Whole enc Tryd.prog Tryd.f5.params.toList Rows.journalAgainSpec.vars false W args.toList ds gs before) (hk : Rows.uptoSmall H (ds ++ gs) = true)
  (hL : laidMetH Tryd.prog Rows.journalAgainUptoRow.laid W) :
  Calls Tryd.prog 5 args W fun e W' => ∃ v, e = .returned v ∧ Rows.journalAgainSpec.post enc Tryd.prog Tryd.f5 false true false false W args v W' := by
 have hval : ∀ (j : Nat) t v, Tryd.f5.params[j]? = some t → args[j]? = some v → Value.okWide Tryd.prog W .any base t v := hval0
 have hW' := hW
 obtain ⟨p, q, hA0, hV, rfl, hfz, hnd⟩ := hW
 have hA : DataW.TrodAll enc Tryd.prog W 0 (fun _ => true) true Tryd.f5.params.toList args.toList ds p := hA0
 rw [Tryd.params5] at hA hval
 obtain ⟨v0, vs0, d0, ds0, p0, q0, hargs, rfl, rfl, h0, r0⟩ := trodAll_cons hA
 obtain ⟨v1, vs1, d1, ds1, p1, q1, rfl, rfl, rfl, h1, r1⟩ := trodAll_cons r0
 obtain ⟨v2, vs2, d2, ds2, p2, q2, rfl, rfl, rfl, h2, r2⟩ := trodAll_cons r1
 obtain ⟨rfl, rfl, rfl⟩ := trodAll_nil r2
 obtain rfl : args = #[v0, v1, v2] := by cases args; simp_all
 obtain ⟨rfl, rfl⟩ := trodVars_none hV
 obtain ⟨a0, len0, cap0, rfl⟩ := okWide_slice Tryd.underlying44 (hval 0 44 v0 rfl rfl)
 obtain ⟨a1, len1, cap1, rfl⟩ := okWide_slice Tryd.underlying29 (hval 1 29 v1 rfl rfl)
 obtain ⟨n2, rfl⟩ := okWide_int Tryd.underlying3 (hval 2 3 v2 rfl rfl)
 have k0 := h0
 have lt0 : ∀ x ∈ p0, x.block < W.heap.size := by obtain ⟨m, hm⟩ := k0; exact DataW.trod_lt m _ _ _ hm
 have k1 := h1
 have lt1 : ∀ x ∈ p1, x.block < W.heap.size := by obtain ⟨m, hm⟩ := k1; exact DataW.trod_lt m _ _ _ hm
 have k2 := h2
 have lt2 : ∀ x ∈ p2, x.block < W.heap.size := by obtain ⟨m, hm⟩ := k2; exact DataW.trod_lt m _ _ _ hm
 obtain ⟨f0, hf0⟩ := h0
 obtain ⟨f1, hf1⟩ := h1
 obtain ⟨f2, hf2⟩ := h2
 obtain ⟨ks, hX, hkl, hku, hkb⟩ := files_of_trod hf0
 obtain ⟨kp, hI, hIl⟩ := jints_of_trod hf1
 obtain ⟨z, hz1, _, hz2⟩ := DataW.trod_int Tryd.underlying3 hf2
 have hz3 : n2 = z := by
  have h : [Value.int .i64 n2] = [Value.int .i64 z] := hz1
  injection h with h
  injection h
 have hn := jwf_i64 hz2
 have hbk := of_decide_eq_true hk
 have hbd : Rows.uptoBulk d0 ≤ 1048576 := by
  simp only [Rows.uptoBulkAll, List.cons_append] at hbk
  omega
 clear hA0 hval0
 refine (again_any (.slice a0 len0 cap0) (.slice a1 len1 cap1) n2 ks kp W (journalAgain_tab hL).1 (journalAgain_tab hL).2 hX (by have h : ks.length ≤ Rows.uptoBulk d0 := hkl; omega) (by have h : usd ks ≤ (Rows.uptoBulk d0 : Int) := hku; omega) hkb hI hIl (by omega)).mono fun e W' ⟨he, bel⟩ => ?_
 subst he
 exact ⟨_, rfl, _, _, _, [], _, [], hW', trodAll_mk1 (shut_bool Tryd.underlying4 _), (trodAll_cons_mk (Below.trod journalAgain_laidOut (by kernel_rfl) (of_decide_eq_true (by kernel_rfl)) k0 bel lt0) (trodAll_cons_mk (Below.trod journalAgain_laidOut (by kernel_rfl) (of_decide_eq_true (by kernel_rfl)) k1 bel lt1) (trodAll_cons_mk (Below.trod journalAgain_laidOut (by kernel_rfl) (of_decide_eq_true (by kernel_rfl)) k2 bel lt2) trodAll_mk0))), rfl, bel.frame _, fun h => by cases h⟩
set_option maxRecDepth 100000 in
theorem journalAgain_lifted (os : Os) (started : os.Started) (H : Type) (enc : TypeId × Value → H) (F : Stop.Interp) :
  ReturnsInHanded {} Tryd.checked os 5 .any ((Rows.OpenSpec.upto Rows.journalAgainSpec).preRow enc Tryd.prog Tryd.f5 Rows.journalAgainUptoRow.domain false Rows.journalAgainUptoRow.laid) (((Rows.OpenSpec.upto Rows.journalAgainSpec).at F).post enc Tryd.prog Tryd.f5 false true false false) := by
 refine returnsInHanded_of_row (C := Tryd.checked) (s := Rows.OpenSpec.upto Rows.journalAgainSpec) journalAgain_own started (by kernel_rfl) Tryd.func5
  (witness_row_atRef (enc := enc) (C := Tryd.checked) (s := Rows.OpenSpec.upto Rows.journalAgainSpec) false (World.doorLaid Tryd.prog 400 os) #[.slice none 0 0, .slice none 0 0, .int .i64 0] rfl (by kernel_rfl) (by kernel_rfl) (by kernel_rfl)
   ⟨⟨(OpenSpec.pre_some (k := Rows.uptoSmall) rfl _ _ _ _).2 ⟨[.nil, .nil, .lit (.int .i64 0)], [], [], DataW.Whole_of_whole (x := ([.nil, .nil, .lit (.int .i64 0)], [], [])) (fuel := 8) (by kernel_rfl), rfl, by kernel_rfl⟩, journalAgain_met os _⟩, sizedMet_of_sizedB (fuel := 8) (by kernel_rfl)⟩) ?_
 intro W base args ds gs before hval hW _ hk _ hL _ _
 exact journalAgain_contract H enc W base args ds gs before hval hW (hk _ rfl) hL
theorem journalAgain_over : Rows.journalAgainUptoRow.holds Tryd.pinned (Rows.OpenSpec.upto Rows.journalAgainSpec) :=
 OpenClaim.holds_of_cond 5 Tryd.f5 rfl rfl rfl rfl rfl rfl rfl ⟨rfl, rfl, rfl, rfl, rfl⟩ rfl rfl rfl rfl rfl (by kernel_rfl) Tryd.func5 (by kernel_rfl)
  (of_decide_eq_true (by kernel_rfl)) (by unfold Func.isWrapper; first | (rw [if_pos (by decide +kernel)]; kernel_rfl) | (rw [if_neg (by decide +kernel)]; exact ⟨rfl, rfl⟩))
  (fun os started H enc _ F => by rw [OpenClaim.pre_eq_preRow]; exact journalAgain_lifted os started H enc F)
theorem journalAgainUpto_holds : Rows.JournalAgainUptoCardSaid :=
 Claim7.holds_tied_plain_at .later [] _ _ _ _ journalAgain_over (fun _ h => by cases h) (by kernel_rfl) (fun _ h => by cases h) journalAgainUpto_row_tie rfl ⟨rfl, rfl⟩ (by kernel_rfl) rfl
  (fun f fn hf hfn => by
   obtain rfl : f = 5 := Option.some.inj ((show Tryd.prog.funcNamed "pleach/pleachlaw08.JournalAgain" = some 5 by kernel_rfl).symm.trans hf) |>.symm
   obtain rfl : fn = Tryd.f5 := (Option.some.inj (Tryd.func5.symm.trans hfn)).symm
   exact ⟨by kernel_rfl, fun j t ht => by
    rw [Tryd.params5] at ht
    have hm : t = 44 ∨ t = 29 ∨ t = 3 := by simpa using Array.mem_of_getElem? ht
    rcases hm with rfl | rfl | rfl
    ·exact (show Tryd.prog.wantsStandIn 44 = false by kernel_rfl)
    ·exact (show Tryd.prog.wantsStandIn 29 = false by kernel_rfl)
    ·exact (show Tryd.prog.wantsStandIn 3 = false by kernel_rfl)⟩)
  (by kernel_rfl)
#print axioms journalAgainUpto_holds
end Go.Proofs.YtennogmeeefopaaDoor
