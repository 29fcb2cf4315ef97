import Derived.Test.YtpakaladpdoejaaSealR
namespace Go.Proofs.Ytpakaladpdoejaa
open Go.RowKit

/-- What is asked of the program's Seal. -/
def SealOkPost (key : List Int) (f t : Int) (body : List Int) (w : World) (e : Ending) (w' : World) : Prop :=
  ∃ v l, e = .returned (.tuple #[v, .int .i64 (sealW key f t body)]) ∧ Below w.heap.size w w' ∧ OwnT w' v l ∧ (∀ k, v.ownBlock = some k → w.heap.size ≤ k) ∧ ((sealW key f t body = 0 ∧ l = sealL key f t body) ∨ (sealW key f t body ≠ 0 ∧ l = []))
def SealOk : Prop := ∀ (vk vb : Value) (key : List Int) (f t : Int) (body : List Int) (w : World), RowAt w vk key → RowAt w vb body → key.length ≤ 140737488351232 → body.length ≤ 140737488351232 → Byts body →
  Calls Try.prog 15 #[vk, .agg #[.int .i64 f, .int .i64 t, vb]] w (SealOkPost key f t body w)
/-- What is asked of the program's Open, as far as it needs no look into the error. -/
def OpenOkPost (key b : List Int) (w : World) (e : Ending) (w' : World) : Prop :=
  ∃ v l f t er, e = .returned (.tuple #[.agg #[.int .i64 f, .int .i64 t, v], er]) ∧ Below w.heap.size w w' ∧ OwnT w' v l ∧ (∀ k, v.ownBlock = some k → w.heap.size ≤ k) ∧
    (((openE key b).1 = 0 ∧ er = .nilIface ∧ f = b.getD 4 0 ∧ t = b.getD 5 0 ∧ l = openB b) ∨ ((openE key b).1 ≠ 0 ∧ (∃ T x, er = .iface T x) ∧ f = 0 ∧ t = 0 ∧ l = []))
def OpenOk : Prop := ∀ (vk vb : Value) (key b : List Int) (w : World), RowAt w vk key → RowAt w vb b → key.length ≤ 140737488351232 → b.length ≤ 140737500000000 → Byts b →
  Calls Try.prog 18 #[vk, vb] w (OpenOkPost key b w)
theorem Try.new31 (w : World) : (Instr.alloc 31 true (.tuple #[])).run Try.prog w = .ok (.pointer (some ⟨w.heap.size, 0, none⟩)) (w.alloc (.cells #[.int .i64 0, .int .i64 0, .slice none 0 0] 31)) := by kernel_rfl
theorem neq_iface (T : TypeId) (x : Value) (w : World) : (binOp .neq 39 (.iface T x) .nilIface).run Try.prog w = .ok (.bool true) w := run_neq_held_nil w 39 T x Try.underlying39
theorem eql_iface (T : TypeId) (x : Value) (w : World) : (binOp .eql 39 (.iface T x) .nilIface).run Try.prog w = .ok (.bool false) w := run_eql_held_nil w 39 T x Try.underlying39

set_option maxRecDepth 4000 in
set_option maxHeartbeats 2000000 in
theorem once_any (hM : MacOk) (hS : SealOk) (hO : OpenOk) (vk vb : Value) (key b : List Int) (w : World) (hk : RowAt w vk key) (hb : RowAt w vb b) (hkl : key.length ≤ 140737488351232) (hbl : b.length ≤ 140737488351232) (hby : Byts b) :
    Calls Try.prog 7 #[vk, vb] w fun e w' => e = .returned (.bool true) ∧ Below w.heap.size w w' := by
  have HF := Keep.mk (fixed3_any hM w)
  have HS := Keep.mk hS
  have HO := Keep.mk hO
  have HRk := Keep.mk hk
  have HRb := Keep.mk hb
  have HKl := Keep.mk hkl
  have HBl := Keep.mk hbl
  have HBy := Keep.mk hby
  obtain ⟨ka, kc, rfl⟩ := row_form hk
  obtain ⟨ba, bc, rfl⟩ := row_form hb
  clear hM hS hO hk hb hkl hbl hby
  go_enter Try.func7, Try.ntmps7
  go_wp2_with fail
  refine HF.out.mono ?_
  rintro e w1 ⟨rfl, hb1⟩
  have HB1 := Keep.mk hb1
  clear hb1 HF
  go_wp2_with fail
  refine (HO.out _ _ key b w1 (HRk.out.below HB1.out) (HRb.out.below HB1.out) HKl.out (by have := HBl.out; omega) HBy.out).mono ?_
  rintro e w2 ⟨v, l, f, t, er, rfl, hb2, hv, hfr, hcase⟩
  have HB2 := Keep.mk (HB1.out.trans (hb2.mono HB1.out.size))
  have HV := Keep.mk hv
  have HC := Keep.mk hcase
  obtain ⟨xa, xn, xc, rfl⟩ := hv.sl
  have hxn : xn = l.length := hv.plain.2.2.2
  subst hxn
  clear hb2 hv hfr hcase HB1 HO
  rcases HC.out with ⟨h0, rfl, rfl, rfl, rfl⟩ | ⟨h0, ⟨T, x, rfl⟩, rfl, rfl, rfl⟩
  · obtain ⟨e1, e2⟩ := seal_open HBy.out h0
    have HE1 := Keep.mk e1
    have HE2 := Keep.mk e2
    obtain ⟨f, hf⟩ : ∃ f, Keep (f = b.getD 4 0) := ⟨_, ⟨rfl⟩⟩
    obtain ⟨t, ht⟩ : ∃ t, Keep (t = b.getD 5 0) := ⟨_, ⟨rfl⟩⟩
    obtain ⟨L, hL⟩ : ∃ L, Keep (L = openB b) := ⟨_, ⟨rfl⟩⟩
    rw [← hf.out, ← ht.out, ← hL.out] at HE1 HE2
    rw [← hL.out] at HV
    rw [← hf.out, ← ht.out, ← hL.out]
    have HLb : Keep (L.length ≤ 140737488351232 ∧ Byts L) := ⟨by
      rw [hL.out]; unfold openB
      refine ⟨by rw [List.length_take, List.length_drop]; have := HBl.out; omega, fun c hc => HBy.out c (List.mem_of_mem_drop (List.mem_of_mem_take hc))⟩⟩
    clear e1 e2 h0 HC hf ht hL
    go_wp2_with (first | (refine wpList_new rfl 31 rfl _ Try.new31 ?_; refine Hid.out ?_))
    refine hid_in ?_
    have HNb := Keep.mk (Blk.new w2 31 #[.int .i64 0, .int .i64 0, .slice none 0 0])
    have HAb := Keep.mk (below_new w2 (.cells #[.int .i64 0, .int .i64 0, .slice none 0 0] 31))
    generalize w2.alloc (.cells #[.int .i64 0, .int .i64 0, .slice none 0 0] 31) = w3 at *
    have n0 : w3.cell? ⟨w2.heap.size, 0, none⟩ = some (.int .i64 0) := by rw [HNb.out.cell]; rfl
    have n1 : w3.cell? ⟨w2.heap.size, 1, none⟩ = some (.int .i64 0) := by rw [HNb.out.cell]; rfl
    have n2 : w3.cell? ⟨w2.heap.size, 2, none⟩ = some (.slice none 0 0) := by rw [HNb.out.cell]; rfl
    have m0 := HNb.out.frozen 0
    have m1 := HNb.out.frozen 1
    have m2 := HNb.out.frozen 2
    have hb5 := ((HAb.out.setCell (p := ⟨w2.heap.size, 0, none⟩) (Nat.le_refl _) (.int .i64 f)).setCell (p := ⟨w2.heap.size, 1, none⟩) (Nat.le_refl _) (.int .i64 t)).setCell (p := ⟨w2.heap.size, 2, none⟩) (Nat.le_refl _) (.slice xa L.length xc)
    have HB5 := Keep.mk (HB2.out.trans (hb5.mono HB2.out.size))
    have HV5 := Keep.mk (HV.out.grown (Grown.below (S := fun _ => False) hb5) fun _ _ h => h)
    clear hb5 HB2 HV
    go_wp2_with fail
    generalize ((w3.setCell ⟨w2.heap.size, 0, none⟩ (.int .i64 f)).setCell ⟨w2.heap.size, 1, none⟩ (.int .i64 t)).setCell ⟨w2.heap.size, 2, none⟩ (.slice xa L.length xc) = w5 at *
    refine (HS.out _ _ key f t L w5 (HRk.out.below HB5.out) HV5.out.row HKl.out HLb.out.1 HLb.out.2).mono ?_
    rintro e w6 ⟨v6, l6, rfl, hb6, hv6, _, hc⟩
    rw [HE1.out] at hc ⊢
    have hl6 : l6 = b := by
      rcases hc with ⟨_, h⟩ | ⟨h, _⟩
      · rw [h]; exact HE2.out
      · exact absurd rfl h
    subst hl6
    have HB6 := Keep.mk (HB5.out.trans (hb6.mono HB5.out.size))
    have HV6 := Keep.mk hv6
    clear hb6 hv6 hc HB5 HV5 HAb HNb n0 n1 n2 m0 m1 m2
    go_wp2_with fail
    refine (same3_any v6 _ l6 l6 w6 HV6.out.row (HRb.out.below HB6.out) true (by rw [beq_toListBytes, beq_self_eq_true])).mono ?_
    rintro e w7 ⟨rfl, hw7⟩
    rw [hw7]
    clear hw7
    go_wp2
    go_ret
    exact ⟨rfl, HB6.out⟩
  · clear HC h0
    go_wp2_with (first | (refine wpList_new rfl 31 rfl _ Try.new31 ?_; refine Hid.out ?_))
    refine hid_in ?_
    have HNb := Keep.mk (Blk.new w2 31 #[.int .i64 0, .int .i64 0, .slice none 0 0])
    have HAb := Keep.mk (below_new w2 (.cells #[.int .i64 0, .int .i64 0, .slice none 0 0] 31))
    generalize w2.alloc (.cells #[.int .i64 0, .int .i64 0, .slice none 0 0] 31) = w3 at *
    have n0 : w3.cell? ⟨w2.heap.size, 0, none⟩ = some (.int .i64 0) := by rw [HNb.out.cell]; rfl
    have n1 : w3.cell? ⟨w2.heap.size, 1, none⟩ = some (.int .i64 0) := by rw [HNb.out.cell]; rfl
    have n2 : w3.cell? ⟨w2.heap.size, 2, none⟩ = some (.slice none 0 0) := by rw [HNb.out.cell]; rfl
    have m0 := HNb.out.frozen 0
    have m1 := HNb.out.frozen 1
    have m2 := HNb.out.frozen 2
    have hne := neq_iface T x
    have HBe := Keep.mk (HB2.out.trans ((((HAb.out.setCell (p := ⟨w2.heap.size, 0, none⟩) (Nat.le_refl _) (.int .i64 0)).setCell (p := ⟨w2.heap.size, 1, none⟩) (Nat.le_refl _) (.int .i64 0)).setCell (p := ⟨w2.heap.size, 2, none⟩) (Nat.le_refl _) (.slice xa ([] : List Int).length xc)).mono HB2.out.size))
    go_wp2
    go_ret
    exact ⟨rfl, HBe.out⟩
end Go.Proofs.Ytpakaladpdoejaa
