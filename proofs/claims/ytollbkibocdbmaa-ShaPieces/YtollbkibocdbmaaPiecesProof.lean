/- The statement of ShaPieces, out of its walk (the frame: the guide's proof-skeleton). -/
import Derived.Test.YtollbkibocdbmaaRows
import Derived.Test.YtollbkibocdbmaaPieces
import Derived.ProofKit
import Derived.OpenShut
import Derived.ShutString
import Derived.ChangeOld
import Derived.Below
import Derived.SizedLaws
import Derived.Deep.Slices
import Derived.Deep.Strs
namespace Go.Proofs.Ytollbkibocdbmaa
open Go.ChangeShapes Go.WideShapes Go.ChangeAt Go.RowKit Go.Deep

theorem shaPieces_own : ownKnob Try.prog.godebug = none := by kernel_rfl
theorem shaPieces_laidOut : laidOutB Try.prog = true := by kernel_rfl
theorem Try.cells40 : Try.prog.cellsOf 40 = 3 := by kernel_rfl
theorem Try.cells28' : Try.prog.cellsOf 28 = 1 := by kernel_rfl
theorem Try.cells3' : Try.prog.cellsOf 3 = 1 := by kernel_rfl
theorem Try.bytes40 : Try.prog.bytesOf 40 = 40 := by kernel_rfl

theorem add_none' (b o i : Nat) : (⟨b, o, none⟩ : Addr).add i = ⟨b, o + i, none⟩ := by
  cases i with
  | zero => rfl
  | succ i => rfl

/-- A reading of a slice of bytes tells a row. -/
theorem row_of_trod' {H : Type} {enc : TypeId × Value → H} {W : World} {sp : Nat → Bool} {held : Bool} {n base : Nat} {v : Value} {x : DataW H × List MemPlace} (hf : DataW.trod enc Try.prog W base sp held n 28 [v] = some x) :
    ∃ l : List Int, RowAt W v l ∧ (l.length : Int) ≤ 9223372036854775807 := by
  rcases open_ints Try.underlying28 Try.underlying5 Try.cells5 hf with ⟨hcs, _⟩ | ⟨a, len, cap, zs, hcs, _, hl, hm, hz, _, hcell, hwz⟩
  · simp at hcs
    subst hcs
    exact ⟨[], .inl ⟨rfl, rfl⟩, by simp⟩
  · simp at hcs
    subst hcs
    unfold maxLen at hm
    have hlz : len ≤ zs.length := by rw [hz]; split <;> omega
    by_cases h0 : len = 0
    · subst h0
      exact ⟨[], .inr (.inl ⟨a, cap, rfl, rfl⟩), by simp⟩
    · have hs : a.spot = none := by
        have := hcell 0 (by omega)
        rw [show a.add 0 = a from rfl] at this
        exact World.cell?_spot this
      obtain ⟨b, off, sp⟩ := a
      obtain rfl : sp = none := hs
      have hlen : (zs.take len).length = len := by rw [List.length_take]; omega
      refine ⟨zs.take len, .inr (.inr ⟨b, off, cap, by rw [hlen], by omega, fun i hi => ?_⟩), by omega⟩
      rw [hlen] at hi
      have := hcell i (by omega)
      rw [add_none'] at this
      rw [this]
      simp [List.getD, hi]

theorem list3 (cs : List Value) (h : cs.length = 3) : ∃ a b c, cs = [a, b, c] := by
  match cs, h with
  | [a, b, c], _ => exact ⟨a, b, c, rfl⟩

/-- A reading of a step tells its three cells. -/
theorem op_of_trod {H : Type} {enc : TypeId × Value → H} {W : World} {sp : Nat → Bool} {held : Bool} {n base : Nat} {cs : List Value} {x : DataW H × List MemPlace} (hf : DataW.trod enc Try.prog W base sp held n 40 cs = some x) :
    ∃ (k o : Int) (v : Value) (l : List Int), cs = [.int .i64 k, .int .i64 o, v] ∧ RowAt W v l ∧ (l.length : Int) ≤ 9223372036854775807 := by
  obtain ⟨y0, y1, y2, k, _, hl, h0, h1, h2⟩ := trod_struct3 Try.underlying40 hf
  rw [Try.cells40] at hl
  obtain ⟨a, b, c, rfl⟩ := list3 cs hl
  · simp only [Try.cells3', Try.cells28', List.drop_zero, List.take_succ_cons, List.take_zero, List.drop_succ_cons] at h0 h1 h2
    obtain ⟨n0, e0, _⟩ := DataW.trod_int Try.underlying3 h0
    obtain ⟨n1, e1, _⟩ := DataW.trod_int Try.underlying3 h1
    obtain ⟨l, h3, h4⟩ := row_of_trod' h2
    simp at e0 e1
    exact ⟨n0, n1, c, l, by rw [e0, e1], h3, h4⟩

set_option maxRecDepth 100000 in
theorem shaPieces_lifted (os : Os) (started : os.Started) (H : Type) (enc : TypeId × Value → H) :
    ReturnsInHanded {} Try.checked os 5 .any (Rows.shaPiecesSpec.pre6 enc Try.prog Try.f5 Rows.shaPiecesRow.domain false) (Rows.shaPiecesSpec.post enc Try.prog Try.f5 false true false false) := by
  refine returnsInHanded_of_change_sized (C := Try.checked) shaPieces_own started (by kernel_rfl) Try.func5
    (ChangeSpec.witness6 (enc := enc) (C := Try.checked) false ⟨#[], #[.slice none 0 0], []⟩ 8 (by kernel_rfl) (by kernel_rfl) (by kernel_rfl) (by kernel_rfl)) ?_
  intro W base args ds gs before hval0 hW hcnd hsized _
  have hval : ∀ (j : Nat) t v, Try.f5.params[j]? = some t → args[j]? = some v → Value.okWide Try.prog W .any base t v := hval0
  have hW' := hW
  obtain ⟨p, q, hA0, hV, rfl, hfz, hnd⟩ := hW
  have hA : DataW.TrodAll enc Try.prog W 0 (fun _ => true) true Try.f5.params.toList args.toList ds p := hA0
  have hsz : (DataW.weightsEach Try.prog (Try.f5.params.toList ++ Rows.shaPiecesSpec.plain.varTypes Try.prog) (ds ++ gs)).all (· ≤ reachBytes) = true := hsized
  rw [Try.params5] at hA hval hsz
  obtain ⟨v0, vs0, d0, ds0, p0, q0, hargs, rfl, rfl, h0, r0⟩ := trodAll_cons hA
  obtain ⟨rfl, rfl, rfl⟩ := trodAll_nil r0
  obtain rfl : args = #[v0] := by cases args; simp_all
  obtain ⟨rfl, rfl⟩ := trodVars_none hV
  obtain ⟨a0, len0, cap0, rfl⟩ := okWide_slice Try.underlying31 (hval 0 31 v0 rfl rfl)
  have k0 := h0
  have lt0 : ∀ x ∈ p0, x.block < W.heap.size := by obtain ⟨m, hm⟩ := k0; exact DataW.trod_lt m _ _ _ hm
  have hscr : ∃ (K O : Nat → Int) (V : Nat → Value) (rows : Nat → List Int), ScriptAt W (.slice a0 len0 cap0) len0 K O V rows ∧ len0 ≤ 4398046511104 ∧ ∀ i, i < len0 → ((rows i).length : Int) ≤ 9223372036854775807 := by
    obtain ⟨fuel, hf⟩ := h0
    rcases open_slice Try.underlying31 hf with ⟨hcs, _⟩ | ⟨a, len, cap, m, n, D, Pl, hcs, _, hl, hm, hz, hx, hcell⟩
    · cases hcs
      exact ⟨fun _ => 0, fun _ => 0, fun _ => .slice none 0 0, fun _ => [], ⟨.inl ⟨none, 0, rfl, rfl⟩, fun i hi => by omega⟩, by omega, fun i hi => by omega⟩
    · cases hcs
      unfold maxLen at hm
      have hlz : len0 ≤ m := by rw [hz]; split <;> omega
      have hb : len0 ≤ 4398046511104 := by
        simp only [Prod.mk.injEq] at hx
        have h40 := sized_slice hsz (j := 0) (t := 31) (e := 40) rfl (by rw [hx.1]; rfl) Try.underlying31
        rw [Try.bytes40] at h40
        simp only [List.length_map, List.length_range] at h40
        have := reachBytes_lt
        omega
      have each : ∀ i, i < len0 → ∃ q : Int × Int × Value × List Int, W.cell? (a.add (i * 3)) = some (.int .i64 q.1) ∧ W.cell? ((a.add (i * 3)).add 1) = some (.int .i64 q.2.1) ∧ W.cell? ((a.add (i * 3)).add 2) = some q.2.2.1 ∧ RowAt W q.2.2.1 q.2.2.2 ∧ (q.2.2.2.length : Int) ≤ 9223372036854775807 := by
        intro i hi
        obtain ⟨cs', h1, h2⟩ := hcell i (by omega)
        rw [Try.cells40] at h1
        obtain ⟨_, hlen, hce⟩ := World.cells?_some h1
        obtain ⟨k, o, v, l, rfl, h3, h4⟩ := op_of_trod h2
        have e0 := hce 0 (by omega)
        have e1 := hce 1 (by omega)
        have e2 := hce 2 (by omega)
        exact ⟨(k, o, v, l), e0, e1, e2, h3, h4⟩
      obtain ⟨q, hq⟩ := Go.Deep.choose_lt each
      refine ⟨fun i => (q i).1, fun i => (q i).2.1, fun i => (q i).2.2.1, fun i => (q i).2.2.2, ⟨?_, fun i hi => (hq i hi).2.2.2.1⟩, hb, fun i hi => (hq i hi).2.2.2.2⟩
      by_cases h0 : len0 = 0
      · subst h0
        exact .inl ⟨_, _, rfl, rfl⟩
      · have hs : a.spot = none := by
          have := (hq 0 (by omega)).1
          rw [Nat.zero_mul, show a.add 0 = a from rfl] at this
          exact World.cell?_spot this
        obtain ⟨b, off, sp⟩ := a
        obtain rfl : sp = none := hs
        refine .inr ⟨b, off, cap0, rfl, fun i hi => ?_⟩
        have h := hq i hi
        simp only [add_none'] at h
        exact ⟨h.1, h.2.1, h.2.2.1⟩
  obtain ⟨K, O, V, rows, hR, hm, hrl⟩ := hscr
  clear hA0 hval0
  refine (pieces_any (.slice a0 len0 cap0) len0 K O V rows W hR hm hrl).mono fun e W' ⟨he, bel⟩ => ?_
  subst he
  exact ⟨_, rfl, _, _, _, [], _, [], hW', trodAll_mk1 (shut_bool Try.underlying4 _), (trodAll_cons_mk (Below.trod shaPieces_laidOut (by kernel_rfl) (of_decide_eq_true (by kernel_rfl)) k0 bel lt0) trodAll_mk0), rfl, bel.frame _, fun h => by cases h⟩

theorem shaPieces_over : Rows.shaPiecesRow.holds Try.pinned (OpenSpec.ofChange Rows.shaPiecesSpec) :=
  OpenClaim.holds_of_wide 5 Try.f5 rfl rfl rfl rfl rfl rfl rfl ⟨rfl, rfl, rfl, rfl, rfl⟩ rfl rfl rfl rfl rfl (by kernel_rfl) Try.func5 (by kernel_rfl)
    (of_decide_eq_true (by kernel_rfl)) (by unfold Func.isWrapper; first | (rw [if_pos (by decide +kernel)]; kernel_rfl) | (rw [if_neg (by decide +kernel)]; exact ⟨rfl, rfl⟩))
    (fun os started H enc _ => shaPieces_lifted os started H enc)

theorem shaPieces_holds : Rows.ShaPiecesSaid := shaPieces_over
#print axioms shaPieces_holds
end Go.Proofs.Ytollbkibocdbmaa
