import Derived.Test.YtbkboebinhafhaaInC
import Derived.Lib.Strings
import Derived.Lib.Slices
import Derived.Lib.Small
import Derived.Lib.Walk
import Derived.Lib.BitFns
namespace Go.Proofs.Ytbkboebinhafhaa
open Go.RowKit

/-- Bytes read: what is wrong, how many were passed, they. -/
def byt (D : List Int) (mm : Int) : Int × Nat × List Int :=
  if (fstM D mm).2.2 = 0 then (nextW (D.drop (fstM D mm).2.1.toNat) (fstM D mm).1, (fstM D mm).2.1.toNat + nextN (D.drop (fstM D mm).2.1.toNat) (fstM D mm).1, (D.drop (fstM D mm).2.1.toNat).take (nextN (D.drop (fstM D mm).2.1.toNat) (fstM D mm).1)) else ((fstM D mm).2.2, 0, [])
theorem byt_eq (D : List Int) (mm : Int) : byt D mm = if (fstM D mm).2.2 = 0 then (nextW (D.drop (fstM D mm).2.1.toNat) (fstM D mm).1, (fstM D mm).2.1.toNat + nextN (D.drop (fstM D mm).2.1.toNat) (fstM D mm).1, (D.drop (fstM D mm).2.1.toNat).take (nextN (D.drop (fstM D mm).2.1.toNat) (fstM D mm).1)) else ((fstM D mm).2.2, 0, []) := rfl
theorem fstM_le (D : List Int) (mm : Int) (hB : Byts D) : (fstM D mm).2.2 = 0 → 0 ≤ (fstM D mm).1 ∧ (fstM D mm).1 ≤ mm := by
  unfold fstM
  split
  · intro h; cases h
  · rename_i h
    intro h0
    obtain ⟨x, h1, _⟩ := fstG_form D (fstG D 0 0).1 (fstG D 0 0).2.1 hB (Prod.ext rfl (Prod.ext rfl h0))
    refine ⟨by rw [h1]; omega, ?_⟩
    by_cases hle : (fstG D 0 0).1 ≤ mm
    · exact hle
    · exact absurd ⟨h0, by omega⟩ h

set_option maxRecDepth 8000 in
set_option maxHeartbeats 1000000 in
theorem ireadS_good (p : Nat) (s : ByteArray) (a : Nat) (most : Int) (mm : Nat) (hmm : (mm : Int) = max most 0) (w : World) (h : InAt w p s a none) (hb : s.size ≤ 140737488355328) (hm2 : mm ≤ 9223372036854775807) (D : List Int) (hD : D = (lst s).drop a) (W : Int) (hW : W = (byt D (mm : Int)).1) (N : Nat) (hN : N = (byt D (mm : Int)).2.1) (l : List Int) (hl : l = (byt D (mm : Int)).2.2) (st : ByteArray) (hst : st = strOfNums l) :
    Calls Try.prog 84 #[ptr p, .int .i64 most] w (RdPost p s W (a + N) (.string st) w) := by
  have hc := inum_good p s a mm w h hb
  rw [← hD] at hc
  have HLD : Keep (D.length = s.size - a) := ⟨by rw [hD, List.length_drop, lst_len]⟩
  have HL := Keep.mk h.le
  have HS := Keep.mk hb
  have HDD := Keep.mk hD
  have HBy := Keep.mk (byt_eq D (mm : Int))
  have HSh := Keep.mk (fstM_shape D (mm : Int))
  have HLe := Keep.mk (fstM_le D (mm : Int) (by rw [hD]; exact (lst_byts s).drop a))
  have HW := Keep.mk hW
  have HN := Keep.mk hN
  have Hl := Keep.mk hl
  have Hst := Keep.mk hst
  have hmx := hmm.symm
  have hwm : IntKind.u64.wrap (mm : Int) = (mm : Int) := by rw [IntKind.wrap_u64]; omega
  have Hm2 := Keep.mk hm2
  clear hW hN hl hD hmm h hb hm2 hst
  generalize fstM D (mm : Int) = R at *
  obtain ⟨x, k, y⟩ := R
  simp only at hc HBy HSh HLe
  have HC := Keep.mk hc
  clear hc
  go_enter Try.func84, Try.ntmps84
  go_wp2_with fail
  refine HC.out.mono ?_
  rintro e w1 ⟨bad, er, rfl, h1, h2, h3⟩
  have H1 := Keep.mk h1
  have H2 := Keep.mk h2
  have H3 := Keep.mk h3
  clear h1 h2 HC hwm hmx
  rcases h3 with ⟨h0, rfl, rfl⟩ | ⟨h0, q, hq, rfl, rfl, hbad⟩
  · obtain ⟨hx0, hx1⟩ := HLe.out h0
    have hk0 : 0 ≤ k := HSh.out.2.1
    have hk1 : k ≤ D.length := HSh.out.2.2
    obtain ⟨kn, rfl⟩ : ∃ kn : Nat, k = (kn : Int) := ⟨k.toNat, by omega⟩
    rw [if_pos h0, Int.toNat_natCast] at HBy
    have hx2 : x ≤ 9223372036854775807 := by have := Hm2.out; omega
    have hak : Keep (a + kn ≤ s.size) := ⟨by have := HLD.out; have := HL.out; omega⟩
    rw [Int.toNat_natCast] at H1
    have hc2 := inext_good p s (a + kn) x w1 H1.out HS.out (by omega) hx2
    have hDk : (lst s).drop (a + kn) = D.drop kn := by rw [HDD.out, List.drop_drop]
    rw [hDk] at hc2
    obtain ⟨W2, hW2⟩ : ∃ W2, Keep (W2 = nextW (D.drop kn) x) := ⟨_, ⟨rfl⟩⟩
    obtain ⟨N2, hN2⟩ : ∃ N2, Keep (N2 = nextN (D.drop kn) x) := ⟨_, ⟨rfl⟩⟩
    rw [← hW2.out, ← hN2.out] at hc2 HBy
    have eW : W = W2 := by rw [HW.out, HBy.out]
    have eN : N = kn + N2 := by rw [HN.out, HBy.out]
    have el : l = (D.drop kn).take N2 := by rw [Hl.out, HBy.out]
    have HC2 := Keep.mk hc2
    subst eW
    have HeN := Keep.mk eN
    have Hel := Keep.mk el
    have HDk := Keep.mk hDk
    clear hc2 h0 eN el hDk HW HN Hl HBy HSh HLe H3 hk0 hk1
    go_wp2_with fail
    refine HC2.out.mono ?_
    rintro e w2 ⟨bad, er, rfl, h4, h5, h6⟩
    have H4 : Keep (InAt w2 p s (a + N) bad) := ⟨by rw [HeN.out, ← Nat.add_assoc]; exact h4⟩
    have H5 := Keep.mk (H2.out.trans h5)
    have hsz := H2.out.size
    have H6 : Keep (ErrAs w w2 W (a + N) bad er) := ⟨by
      rw [HeN.out, ← Nat.add_assoc]
      rcases h6 with h6 | ⟨h6, q, h7, h8⟩
      · exact .inl h6
      · exact .inr ⟨h6, q, by omega, h8⟩⟩
    have hNl : Keep (N2 ≤ (D.drop kn).length) := ⟨by
      by_cases hw : W = 0
      · have := nextN_0 (D.drop kn) x (by rw [← hW2.out]; exact hw); rw [hN2.out, this.1]; exact this.2.2
      · rw [hN2.out, nextN_1 (D.drop kn) x (by rw [← hW2.out]; exact hw)]; omega⟩
    have hls : lst (s.extract (a + kn) (a + kn + N2)) = l := by rw [lst_extract, HDk.out, Hel.out, show a + kn + N2 - (a + kn) = N2 by omega]
    have hsz2 : (s.extract (a + kn) (a + kn + N2)).size = N2 := ext_size s (a + kn) N2 (by have := HLD.out; have := HL.out; have := hNl.out; have h8 := hak.out; have h9 := hNl.out; rw [List.length_drop] at h9; omega)
    clear h4 h5 HC2 hsz
    rcases h6 with ⟨h0, rfl, rfl⟩ | ⟨h0, q, hq, rfl, rfl, hbad⟩
    · have hS2 : s.extract (a + kn) (a + kn + N2) = st := by rw [Hst.out, ← hls, nums_lst]
      rw [hS2]
      clear hls hsz2 h0 hNl hS2
      go_wp2
      go_ret2
      exact ⟨none, .nilIface, rfl, H4.out, H5.out, H6.out⟩
    · have hN0 : N2 = 0 := by rw [hN2.out, nextN_1 (D.drop kn) x (by rw [← hW2.out]; exact h0)]
      have hS2 : st = ByteArray.empty := by rw [Hst.out, Hel.out, hN0]; rfl
      subst hS2
      clear h0 hbad hls hsz2 Hst Hel hN0
      unfold err
      go_wp2
      go_ret2
      exact ⟨some q, err q, rfl, H4.out, H5.out, H6.out⟩
  · rw [if_neg h0] at HBy
    have eW : W = y := by rw [HW.out, HBy.out]
    have eN : N = 0 := by rw [HN.out, HBy.out]
    have el : l = [] := by rw [Hl.out, HBy.out]
    have hS2 : st = ByteArray.empty := by rw [Hst.out, el]; rfl
    subst eW eN hS2
    obtain ⟨rfl, rfl⟩ := HSh.out.1 h0
    have H0 := Keep.mk h0
    clear h0 hbad HBy HSh HLe HW HN Hl Hst el
    unfold err
    go_wp2
    go_ret2
    exact ⟨some q, err q, rfl, H1.out, H2.out, H3.out⟩
set_option maxRecDepth 8000 in
set_option maxHeartbeats 1000000 in
theorem ireadS_bad (p : Nat) (s : ByteArray) (a q : Nat) (most : Int) (mm : Nat) (hmm : (mm : Int) = max most 0) (hm2 : mm ≤ 9223372036854775807) (w : World) (h : InAt w p s a (some q)) :
    Calls Try.prog 84 #[ptr p, .int .i64 most] w (StuckPost q (.string ByteArray.empty) w) := by
  have HC := Keep.mk (inum_bad p s a q (.int .u64 (mm : Int)) w h)
  have hmx := hmm.symm
  have hwm : IntKind.u64.wrap (mm : Int) = (mm : Int) := by rw [IntKind.wrap_u64]; omega
  clear h hmm hm2
  go_enter Try.func84, Try.ntmps84
  go_wp2_with fail
  refine HC.out.mono ?_
  rintro e w1 ⟨rfl, h1⟩
  clear hmx hwm
  unfold err
  go_wp2
  go_ret2
  exact ⟨rfl, h1⟩

set_option maxRecDepth 8000 in
set_option maxHeartbeats 1000000 in
theorem itext_good (p : Nat) (s : ByteArray) (a : Nat) (most : Int) (mm : Nat) (hmm : (mm : Int) = max most 0) (w : World) (h : InAt w p s a none) (hb : s.size ≤ 140737488355328) (hm2 : mm ≤ 9223372036854775807) (D : List Int) (hD : D = (lst s).drop a) (W : Int) (hW : W = (byt D (mm : Int)).1) (N : Nat) (hN : N = (byt D (mm : Int)).2.1) (l : List Int) (hl : l = (byt D (mm : Int)).2.2) (st : ByteArray) (hst : st = strOfNums l) :
    Calls Try.prog 69 #[ptr p, .int .i64 most] w (RdPost p s W (a + N) (.string st) w) := by
  have HC := Keep.mk (ireadS_good p s a most mm hmm w h hb hm2 D hD W hW N hN l hl st hst)
  clear hmm h hb hm2 hD hW hN hl hst
  go_enter Try.func69, Try.ntmps69
  go_wp2_with fail
  refine HC.out.mono ?_
  rintro e w1 ⟨bad, er, rfl, h1⟩
  have H := Keep.mk h1
  clear h1 HC
  go_wp2
  go_ret2
  exact ⟨bad, er, rfl, H.out⟩
set_option maxRecDepth 8000 in
set_option maxHeartbeats 1000000 in
theorem itext_bad (p : Nat) (s : ByteArray) (a q : Nat) (most : Int) (mm : Nat) (hmm : (mm : Int) = max most 0) (hm2 : mm ≤ 9223372036854775807) (w : World) (h : InAt w p s a (some q)) :
    Calls Try.prog 69 #[ptr p, .int .i64 most] w (StuckPost q (.string ByteArray.empty) w) := by
  have HC := Keep.mk (ireadS_bad p s a q most mm hmm hm2 w h)
  clear h hmm hm2
  go_enter Try.func69, Try.ntmps69
  go_wp2_with fail
  refine HC.out.mono ?_
  rintro e w1 ⟨rfl, h1⟩
  go_wp2
  go_ret2
  exact ⟨rfl, h1⟩
end Go.Proofs.Ytbkboebinhafhaa
