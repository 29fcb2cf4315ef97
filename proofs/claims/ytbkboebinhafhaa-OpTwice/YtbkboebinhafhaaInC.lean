import Derived.Test.YtbkboebinhafhaaInB
namespace Go.Proofs.Ytbkboebinhafhaa
open Go.RowKit

theorem lst_at0 (s : ByteArray) (h : 0 < s.size) : (s[0].toNat : Int) = (lst s).getD 0 0 := by
  have := lst_get s 0 h
  rw [List.drop_zero] at this
  rw [this]; rfl
theorem ext_size (s : ByteArray) (a n : Nat) (h : a + n ≤ s.size) : (s.extract a (a + n)).size = n := by
  rw [← lst_len, lst_extract, List.length_take, List.length_drop, lst_len]; omega
theorem nextW_1 (D : List Int) : nextW D 1 = if D.length = 0 then 20 else 0 := by
  unfold nextW
  rw [if_neg (by decide)]
  by_cases h : D.length = 0
  · rw [if_pos (by omega), if_pos h]
  · rw [if_neg (by omega), if_neg h]

/-- A call of a reader that tells bytes. -/
def RdPostB (p : Nat) (s : ByteArray) (why : Int) (a : Nat) (l : List Int) (w : World) (e : Ending) (w' : World) : Prop :=
  ∃ bad er res, e = .returned (.tuple #[res, er]) ∧ InAt w' p s a bad ∧ (Grown w w' fun k => k = p) ∧ ErrAs w w' why a bad er ∧
    ((why = 0 ∧ OwnT w' res l ∧ ∃ k, res.ownBlock = some k ∧ w.heap.size ≤ k ∧ bad = none) ∨ (why ≠ 0 ∧ res = .slice none 0 0))

theorem nextN_0 (D : List Int) (n : Int) (h : nextW D n = 0) : nextN D n = n.toNat ∧ 0 ≤ n ∧ n.toNat ≤ D.length := by
  unfold nextN
  rw [if_pos h]
  unfold nextW at h
  by_cases h1 : n < 0
  · rw [if_pos h1] at h; cases h
  · rw [if_neg h1] at h
    by_cases h2 : (D.length : Int) < n
    · rw [if_pos h2] at h; cases h
    · exact ⟨rfl, by omega, by omega⟩
theorem nextN_1 (D : List Int) (n : Int) (h : nextW D n ≠ 0) : nextN D n = 0 := by unfold nextN; rw [if_neg h]

set_option maxRecDepth 8000 in
set_option maxHeartbeats 1000000 in
theorem ibyte_good (p : Nat) (s : ByteArray) (a : Nat) (w : World) (h : InAt w p s a none) (hb : s.size ≤ 140737488355328) (D : List Int) (hD : D = (lst s).drop a) (W : Int) (hW : W = nextW D 1) (N : Nat) (hN : N = nextN D 1) (c : Int) (hc : c = if W = 0 then D.getD 0 0 else 0) :
    Calls Try.prog 60 #[ptr p] w (RdPost p s W (a + N) (.int .u8 c) w) := by
  have HC := Keep.mk (inext_good p s a 1 w h hb (by decide) (by decide))
  have HD : Keep (((lst s).drop a).length = s.size - a) := ⟨by rw [List.length_drop, lst_len]⟩
  have HL := Keep.mk h.le
  rw [← hD] at HC HD
  rw [← hW, ← hN] at HC
  have HDD := Keep.mk hD
  have HW := Keep.mk hW
  have HN := Keep.mk hN
  have Hc := Keep.mk hc
  clear h hb hD hW hN hc
  go_enter Try.func60, Try.ntmps60
  go_wp2_with fail
  refine HC.out.mono ?_
  rintro e w1 ⟨bad, er, rfl, h1, h2, h3⟩
  have H1 := Keep.mk h1
  have H2 := Keep.mk h2
  have H3 := Keep.mk h3
  clear h1 h2 HC
  rcases h3 with ⟨h0, rfl, rfl⟩ | ⟨h0, q, hq, rfl, rfl, hbad⟩
  · have hx := nextN_0 D 1 (by rw [← HW.out]; exact h0)
    have hN1 : N = 1 := by rw [HN.out, hx.1]; rfl
    subst hN1
    have hDl : 1 ≤ D.length := hx.2.2
    have hsz : (s.extract a (a + 1)).size = 1 := ext_size s a 1 (by have := HD.out; omega)
    have hz2 : 0 < (s.extract a (a + 1)).size := by omega
    have hv := lst_at0 (s.extract a (a + 1)) hz2
    have hl : (lst (s.extract a (a + 1))).getD 0 0 = c := by
      rw [lst_extract, ← HDD.out, Hc.out, if_pos h0]
      cases D with
      | nil => simp at hDl
      | cons c D => simp
    rw [hl] at hv
    have hz : (0 : Int) < ((s.extract a (a + 1)).size : Int) := by omega
    have H0 := Keep.mk h0
    clear hl h0 hx hDl hsz HN HDD
    generalize s.extract a (a + 1) = st at *
    go_wp2
    go_ret2
    exact ⟨none, .nilIface, rfl, H1.out, H2.out, H3.out⟩
  · have hc0 : c = 0 := by rw [Hc.out, if_neg h0]
    have H0 := Keep.mk h0
    have Hb := Keep.mk hbad
    subst hc0
    clear h0 hbad
    unfold err
    go_wp2
    go_ret2
    exact ⟨some q, err q, rfl, H1.out, H2.out, H3.out⟩
theorem stuck_in {p : Nat} {s : ByteArray} {a q : Nat} {w w' : World} (h : InAt w p s a (some q)) (hb : Below w.heap.size w w') : InAt w' p s a (some q) := ⟨h.blk.below hb h.blk.lt, h.le⟩
set_option maxRecDepth 8000 in
set_option maxHeartbeats 1000000 in
theorem ibyte_bad (p : Nat) (s : ByteArray) (a q : Nat) (w : World) (h : InAt w p s a (some q)) :
    Calls Try.prog 60 #[ptr p] w (StuckPost q (.int .u8 0) w) := by
  have HC := Keep.mk (inext_bad p s a q (.int .i64 1) w h)
  clear h
  go_enter Try.func60, Try.ntmps60
  go_wp2_with fail
  refine HC.out.mono ?_
  rintro e w1 ⟨rfl, h1⟩
  unfold err
  go_wp2
  go_ret2
  exact ⟨rfl, h1⟩

/-- The signed number that has the form of a number. -/
def zag (x : Int) : Int := if x % 2 = 1 then -(x / 2) - 1 else x / 2
set_option maxRecDepth 8000 in
set_option maxHeartbeats 1000000 in
theorem isigned_good (p : Nat) (s : ByteArray) (a : Nat) (w : World) (h : InAt w p s a none) (hb : s.size ≤ 140737488355328) (R : Int × Int × Int) (hR : R = fstM ((lst s).drop a) 18446744073709551615) (y : Int) (hy : y = if R.2.2 = 0 then zag R.1 else 0) (hx0 : 0 ≤ R.1) (hx1 : R.1 < 18446744073709551616) :
    Calls Try.prog 77 #[ptr p] w (RdPost p s R.2.2 (a + R.2.1.toNat) (.int .i64 y) w) := by
  have hc := inum_good p s a 18446744073709551615 w h hb
  rw [show ((18446744073709551615 : Nat) : Int) = 18446744073709551615 from rfl, ← hR] at hc
  have HC := Keep.mk hc
  obtain ⟨x, k, W⟩ := R
  have HY := Keep.mk hy
  have HX1 : Keep (x / 2 ≤ 9223372036854775807) := ⟨by simp only at hx1; omega⟩
  simp only at hx0
  have hx2 : 0 ≤ x / 2 := by omega
  have hx3 : x / 2 ≤ 9223372036854775807 := HX1.out
  clear hc h hb hR hy hx1
  go_enter Try.func77, Try.ntmps77
  go_wp2_with fail
  refine HC.out.mono ?_
  rintro e w1 ⟨bad, er, rfl, h1, h2, h3⟩
  have H1 := Keep.mk h1
  have H2 := Keep.mk h2
  have H3 := Keep.mk h3
  clear h1 h2 HC
  rcases h3 with ⟨h0, rfl, rfl⟩ | ⟨h0, q, hq, rfl, rfl, hbad⟩
  · by_cases hodd : x % 2 = 1
    · have hyy : y = -(x / 2) - 1 := by rw [HY.out, if_pos h0]; unfold zag; rw [if_pos hodd]
      subst hyy
      have ho : (x % 2 == 1) = true := by simpa using hodd
      clear hodd h0 HY
      go_wp2
      go_ret2
      exact ⟨none, .nilIface, rfl, H1.out, H2.out, H3.out⟩
    · have hyy : y = x / 2 := by rw [HY.out, if_pos h0]; unfold zag; rw [if_neg hodd]
      subst hyy
      have ho : (x % 2 == 1) = false := by simpa using hodd
      clear hodd h0 HY
      go_wp2
      go_ret2
      exact ⟨none, .nilIface, rfl, H1.out, H2.out, H3.out⟩
  · have hc0 : y = 0 := by rw [HY.out, if_neg h0]
    subst hc0
    clear h0 hbad HY
    unfold err
    go_wp2
    go_ret2
    exact ⟨some q, err q, rfl, H1.out, H2.out, H3.out⟩
set_option maxRecDepth 8000 in
set_option maxHeartbeats 1000000 in
theorem isigned_bad (p : Nat) (s : ByteArray) (a q : Nat) (w : World) (h : InAt w p s a (some q)) :
    Calls Try.prog 77 #[ptr p] w (StuckPost q (.int .i64 0) w) := by
  have HC := Keep.mk (inum_bad p s a q (.int .u64 18446744073709551615) w h)
  clear h
  go_enter Try.func77, Try.ntmps77
  go_wp2_with fail
  refine HC.out.mono ?_
  rintro e w1 ⟨rfl, h1⟩
  unfold err
  go_wp2
  go_ret2
  exact ⟨rfl, h1⟩

set_option maxRecDepth 8000 in
set_option maxHeartbeats 1000000 in
theorem iraw_good (p : Nat) (s : ByteArray) (a : Nat) (n : Int) (w : World) (h : InAt w p s a none) (hb : s.size ≤ 140737488355328) (hn1 : -9223372036854775808 ≤ n) (hn2 : n ≤ 9223372036854775807) (D : List Int) (hD : D = (lst s).drop a) (W : Int) (hW : W = nextW D n) (N : Nat) (hN : N = nextN D n) :
    Calls Try.prog 23 #[ptr p, .int .i64 n] w (RdPostB p s W (a + N) (D.take N) w) := by
  have HC := Keep.mk (inext_good p s a n w h hb hn1 hn2)
  have HL := Keep.mk h.le
  have HLD : Keep (D.length = s.size - a) := ⟨by rw [hD, List.length_drop, lst_len]⟩
  have HS := Keep.mk hb
  rw [← hD, ← hW, ← hN] at HC
  have HDD := Keep.mk hD
  have HW := Keep.mk hW
  have HN := Keep.mk hN
  clear h hb hD hW hN hn1 hn2
  go_enter Try.func23, Try.ntmps23
  go_wp2_with fail
  refine HC.out.mono ?_
  rintro e w1 ⟨bad, er, rfl, h1, h2, h3⟩
  have H1 := Keep.mk h1
  have H2 := Keep.mk h2
  have H3 := Keep.mk h3
  clear h1 h2 HC
  rcases h3 with ⟨h0, rfl, rfl⟩ | ⟨h0, q, hq, rfl, rfl, hbad⟩
  · have hx := nextN_0 D n (by rw [← HW.out]; exact h0)
    have hNl : N ≤ D.length := by rw [HN.out, hx.1]; exact hx.2.2
    have hl : lst (s.extract a (a + N)) = D.take N := by rw [lst_extract, ← HDD.out, show a + N - a = N by omega]
    have hsz : (s.extract a (a + N)).size = N := ext_size s a N (by have := HLD.out; have := HL.out; omega)
    obtain ⟨v, w2, hr, hO, hk, hB⟩ := conv_bytes w1 (s.extract a (a + N)) (by rw [hsz]; have := HLD.out; have := HS.out; omega)
    rw [hl] at hO
    have HO := Keep.mk hO
    have HK := Keep.mk hk
    have HB := Keep.mk hB
    have H0 := Keep.mk h0
    clear hl hsz hx hNl h0 hO hk hB HN HW HDD HLD
    generalize s.extract a (a + N) = st at *
    go_wp2
    go_ret2
    refine ⟨none, .nilIface, v, rfl, ⟨H1.out.blk.below HB.out H1.out.blk.lt, H1.out.le⟩, H2.out.next (Grown.below (S := fun _ => False) HB.out) fun _ _ h => h.elim, .inl ⟨H0.out, rfl, rfl⟩, .inl ⟨H0.out, HO.out, _, HK.out, H2.out.size, rfl⟩⟩
  · have H0 := Keep.mk h0
    clear h0 hbad
    unfold err
    go_wp2
    go_ret2
    exact ⟨some q, err q, _, rfl, H1.out, H2.out, H3.out, .inr ⟨H0.out, rfl⟩⟩
set_option maxRecDepth 8000 in
set_option maxHeartbeats 1000000 in
theorem iraw_bad (p : Nat) (s : ByteArray) (a q : Nat) (v : Value) (w : World) (h : InAt w p s a (some q)) :
    Calls Try.prog 23 #[ptr p, v] w (StuckPost q (.slice none 0 0) w) := by
  have HC := Keep.mk (inext_bad p s a q v w h)
  clear h
  go_enter Try.func23, Try.ntmps23
  go_wp2_with fail
  refine HC.out.mono ?_
  rintro e w1 ⟨rfl, h1⟩
  unfold err
  go_wp2
  go_ret2
  exact ⟨rfl, h1⟩
end Go.Proofs.Ytbkboebinhafhaa
