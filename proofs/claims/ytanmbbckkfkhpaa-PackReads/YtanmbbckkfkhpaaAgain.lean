import Derived.Test.YtanmbbckkfkhpaaRet
namespace Go.Proofs.Ytanmbbckkfkhpaa
open Go.RowKit

theorem fst_take (D : List Int) (most x k : Int) (hB : Byts D) (h : fstM D most = (x, k, 0)) : ∃ xn kn : Nat, x = (xn : Int) ∧ k = (kn : Int) ∧ xn < 18446744073709551616 ∧ numL xn = D.take kn ∧ kn ≤ D.length := by
  have h2 : fstG D 0 0 = (x, k, 0) := by
    unfold fstM at h
    split at h
    · simp at h
    · exact h
  obtain ⟨xn, rfl, hx, rfl, rest, hr⟩ := fstG_form D x k hB h2
  exact ⟨xn, (numL xn).length, rfl, rfl, hx, by rw [hr, List.take_left], by rw [hr, List.length_append]; omega⟩
theorem zig_zag (x : Nat) : zig (zag (x : Int)) = x := by
  unfold zig zag
  by_cases h : (x : Int) % 2 = 1
  · rw [if_pos h, if_neg (by omega)]; omega
  · rw [if_neg h, if_pos (by omega)]; omega
theorem byt_take (D : List Int) (mm : Int) (hB : Byts D) (n : Nat) (l : List Int) (h : byt D mm = (0, n, l)) : bform l = D.take n ∧ n ≤ D.length := by
  rw [byt_eq] at h
  by_cases h0 : (fstM D mm).2.2 = 0
  · rw [if_pos h0] at h
    obtain ⟨xn, kn, e1, e2, hx, hn, hk⟩ := fst_take D mm (fstM D mm).1 (fstM D mm).2.1 hB (Prod.ext rfl (Prod.ext rfl h0))
    rw [e1, e2, Int.toNat_natCast] at h
    simp only [Prod.mk.injEq] at h
    obtain ⟨hw, rfl, rfl⟩ := h
    have hN := nextN_0 _ _ hw
    rw [hN.1, Int.toNat_natCast] at *
    have hle := hN.2.2
    have hl : ((D.drop kn).take xn).length = xn := by rw [List.length_take]; omega
    refine ⟨?_, by rw [List.length_drop] at hle; omega⟩
    unfold bform
    rw [hl, hn, List.take_add]
  · rw [if_neg h0] at h
    simp only [Prod.mk.injEq] at h
    exact absurd h.1 h0
theorem hl_take (D : List Int) (h : 32 ≤ D.length) : hl 32 (hrd D 0) = D.take 32 := by
  apply List.ext_getElem?
  intro i
  by_cases hi : i < 32
  · have hD : i < D.length := by omega
    simp [hl, hrd, hi, List.getD_eq_getElem?_getD, hD]
  · rw [List.getElem?_eq_none (by rw [hl_len]; omega), List.getElem?_eq_none (by rw [List.length_take]; omega)]

/-- What again leaves. -/
def AgainPost (r o : Nat) (s : ByteArray) (a : Nat) (v : Value) (w : World) (e : Ending) (w' : World) : Prop :=
  (e = .returned (.bool true) ∧ ∃ n v', a + n ≤ s.size ∧ InAt w' r s (a + n) none ∧ OutAt w' o v' ((lst s).take (a + n)) ∧ Moved w v v' ∧ Grown w w' fun k => k = r ∨ OF o v k) ∨
  (e = .returned (.bool false) ∧ ∃ bad a', a ≤ a' ∧ InAt w' r s a' bad ∧ OutAt w' o v ((lst s).take a) ∧ Grown w w' fun k => k = r ∨ OF o v k)
theorem take_next (L : List Int) (a n : Nat) : L.take a ++ (L.drop a).take n = L.take (a + n) := List.take_add.symm
/-- The In and the Out apart. -/
theorem in_ne_out {w : World} {r o : Nat} {s : ByteArray} {a : Nat} {bad : Option Nat} {v : Value} {l : List Int} (hi : InAt w r s a bad) (ho : OutAt w o v l) : ¬ OF o v r := by
  rintro (e | e)
  · exact blk_ne hi.blk ho.blk (by decide) e
  · exact absurd (hi.blk.typ.one (ho.own.typ e)) (by decide)
theorem out_keep {w w' : World} {r o : Nat} {s : ByteArray} {a : Nat} {bad : Option Nat} {v : Value} {l : List Int} (hi : InAt w r s a bad) (ho : OutAt w o v l) (hg : Grown w w' fun k => k = r) : OutAt w' o v l :=
  ho.grown hg fun k hk e => by rw [e] at hk; exact in_ne_out hi ho hk
theorem in_keep {w w' : World} {r o : Nat} {s : ByteArray} {a : Nat} {bad : Option Nat} {v : Value} {l : List Int} (hi : InAt w r s a bad) (ho : OutAt w o v l) (hg : Grown w w' (OF o v)) : InAt w' r s a bad :=
  ⟨hg.blk hi.blk (in_ne_out hi ho), hi.le⟩

set_option maxRecDepth 2000 in
set_option maxHeartbeats 1000000 in
theorem again_byte (r o : Nat) (s : ByteArray) (a : Nat) (v : Value) (w : World) (hI : InAt w r s a none) (hb : s.size ≤ 140737488351232) (hO : OutAt w o v ((lst s).take a)) :
    Calls Try.prog 29 #[ptr r, ptr o, .int .i64 0] w (AgainPost r o s a v w) := by
  have HI := Keep.mk hI
  have HO := Keep.mk hO
  have HS : Keep (s.size ≤ 140737488355328) := ⟨by omega⟩
  have HL := Keep.mk hI.le
  obtain ⟨D, hD⟩ : ∃ D, Keep (D = (lst s).drop a) := ⟨_, ⟨rfl⟩⟩
  have HB : Keep (Byts D) := ⟨by rw [hD.out]; exact (lst_byts s).drop a⟩
  have HLD : Keep (D.length = s.size - a) := ⟨by rw [hD.out, List.length_drop, lst_len]⟩
  have HLt : Keep (((lst s).take a).length = a) := ⟨by rw [List.length_take, lst_len]; exact Nat.min_eq_left hI.le⟩
  clear hI hO hb
  have hc := ibyte_good r s a w HI.out HS.out D hD.out _ rfl _ rfl _ rfl
  obtain ⟨W, hW⟩ : ∃ W, Keep (W = nextW D 1) := ⟨_, ⟨rfl⟩⟩
  obtain ⟨N, hN⟩ : ∃ N, Keep (N = nextN D 1) := ⟨_, ⟨rfl⟩⟩
  rw [← hW.out, ← hN.out] at hc
  obtain ⟨c, hcc⟩ : ∃ c, Keep (c = if W = 0 then D.getD 0 0 else 0) := ⟨_, ⟨rfl⟩⟩
  rw [← hcc.out] at hc
  have HC := Keep.mk hc
  clear hc
  go_enter Try.func29, Try.ntmps29
  go_wp2_with fail
  refine HC.out.mono ?_
  rintro e w1 ⟨bad, er, rfl, h1, h2, h3⟩
  have HI1 := Keep.mk h1
  have HO1 := Keep.mk (out_keep HI.out HO.out h2)
  have HG1 : Keep (Grown w w1 fun k => k = r ∨ OF o v k) := ⟨h2.mono fun _ _ e => .inl e⟩
  clear h1 h2 HC
  rcases h3 with ⟨h0, rfl, rfl⟩ | ⟨h0, q, hq, rfl, rfl, hbad⟩
  · have hx := nextN_0 D 1 (by rw [← hW.out]; exact h0)
    have hN1 : N = 1 := by rw [hN.out, hx.1]; rfl
    have hl : 1 ≤ D.length := hx.2.2
    have hcD : [c] = D.take 1 := by
      rw [hcc.out, if_pos h0]
      cases D with
      | nil => simp at hl
      | cons c D => simp
    have Hf : Keep ((lst s).take a ++ [c] = (lst s).take (a + N)) := ⟨by rw [hcD, hN1, hD.out, take_next]⟩
    clear h0 hx hcD
    go_wp2_with fail
    have hoc := obyte_any o v _ c w1 HO1.out (by rw [List.length_append, HLt.out]; have := HLD.out; have := HS.out; simp only [List.length_cons, List.length_nil]; omega)
    rw [Hf.out] at hoc
    refine hoc.mono ?_
    intro e w2 hpost
    obtain ⟨rfl, v2, hO2, hm2, hg2⟩ := hpost
    have HO2 := Keep.mk hO2
    have HI2 := Keep.mk (in_keep HI1.out HO1.out hg2)
    have HG2 : Keep (Grown w w2 fun k => k = r ∨ OF o v k) := ⟨HG1.out.next hg2 fun i hi e => .inr e⟩
    have HM2 : Keep (Moved w v v2) := ⟨(Moved.refl w v).trans HG1.out.size hm2⟩
    clear hO2 hm2 hg2
    go_wp2
    go_ret
    exact .inl ⟨rfl, N, v2, HI2.out.le, HI2.out, HO2.out, HM2.out, HG2.out⟩
  · clear h0 hbad
    unfold err
    go_wp2
    go_ret
    exact .inr ⟨rfl, _, _, Nat.le_add_right _ _, HI1.out, HO1.out, HG1.out⟩

set_option maxRecDepth 2000 in
set_option maxHeartbeats 1000000 in
theorem again_num (r o : Nat) (s : ByteArray) (a : Nat) (v : Value) (w : World) (hI : InAt w r s a none) (hb : s.size ≤ 140737488351232) (hO : OutAt w o v ((lst s).take a)) :
    Calls Try.prog 29 #[ptr r, ptr o, .int .i64 1] w (AgainPost r o s a v w) := by
  have HI := Keep.mk hI
  have HO := Keep.mk hO
  have HS : Keep (s.size ≤ 140737488355328) := ⟨by omega⟩
  have HL := Keep.mk hI.le
  obtain ⟨D, hD⟩ : ∃ D, Keep (D = (lst s).drop a) := ⟨_, ⟨rfl⟩⟩
  have HB : Keep (Byts D) := ⟨by rw [hD.out]; exact (lst_byts s).drop a⟩
  have HLD : Keep (D.length = s.size - a) := ⟨by rw [hD.out, List.length_drop, lst_len]⟩
  have HLt : Keep (((lst s).take a).length = a) := ⟨by rw [List.length_take, lst_len]; exact Nat.min_eq_left hI.le⟩
  clear hI hO hb
  have hc := inum_good r s a 18446744073709551615 w HI.out HS.out
  rw [← hD.out] at hc
  obtain ⟨R, hR⟩ : ∃ R, Keep (R = fstM D ((18446744073709551615 : Nat) : Int)) := ⟨_, ⟨rfl⟩⟩
  rw [← hR.out] at hc
  obtain ⟨x, k, W⟩ := R
  have HC := Keep.mk hc
  clear hc
  go_enter Try.func29, Try.ntmps29
  go_wp2_with fail
  refine HC.out.mono ?_
  rintro e w1 ⟨bad, er, rfl, h1, h2, h3⟩
  have HI1 := Keep.mk h1
  have HO1 := Keep.mk (out_keep HI.out HO.out h2)
  have HG1 : Keep (Grown w w1 fun k => k = r ∨ OF o v k) := ⟨h2.mono fun _ _ e => .inl e⟩
  clear h1 h2 HC
  rcases h3 with ⟨h0, rfl, rfl⟩ | ⟨h0, q, hq, rfl, rfl, hbad⟩
  · have h00 : W = 0 := h0
    subst h00
    obtain ⟨xn, kn, rfl, rfl, hx, hn, hk⟩ := fst_take D _ x k HB.out hR.out.symm
    have Hf : Keep ((lst s).take a ++ numL xn = (lst s).take (a + kn)) := ⟨by rw [hn, hD.out, take_next]⟩
    have Hx := Keep.mk hx
    have Hk : Keep ((numL xn).length = kn) := ⟨by rw [hn, List.length_take]; omega⟩
    have HI1' : Keep (InAt w1 r s (a + kn) none) := ⟨by have := HI1.out; simpa using this⟩
    clear h0 hn hx HI1
    have HI1 := HI1'
    have hk2 := HI1.out.le
    go_wp2_with fail
    have hoc := onum_any o v _ xn w1 HO1.out Hx.out (by rw [List.length_append, HLt.out, Hk.out]; have := HS.out; omega)
    rw [Hf.out] at hoc
    refine hoc.mono ?_
    intro e w2 hpost
    obtain ⟨rfl, v2, hO2, hm2, hg2⟩ := hpost
    have HO2 := Keep.mk hO2
    have HI2 := Keep.mk (in_keep HI1.out HO1.out hg2)
    have HG2 : Keep (Grown w w2 fun k => k = r ∨ OF o v k) := ⟨HG1.out.next hg2 fun i hi e => .inr e⟩
    have HM2 : Keep (Moved w v v2) := ⟨(Moved.refl w v).trans HG1.out.size hm2⟩
    clear hO2 hm2 hg2
    go_wp2
    go_ret
    exact .inl ⟨rfl, kn, v2, HI2.out.le, HI2.out, HO2.out, HM2.out, HG2.out⟩
  · clear h0 hbad
    unfold err
    go_wp2
    go_ret
    exact .inr ⟨rfl, _, _, Nat.le_add_right _ _, HI1.out, HO1.out, HG1.out⟩

set_option maxRecDepth 2000 in
set_option maxHeartbeats 1000000 in
theorem again_signed (r o : Nat) (s : ByteArray) (a : Nat) (v : Value) (w : World) (hI : InAt w r s a none) (hb : s.size ≤ 140737488351232) (hO : OutAt w o v ((lst s).take a)) :
    Calls Try.prog 29 #[ptr r, ptr o, .int .i64 2] w (AgainPost r o s a v w) := by
  have HI := Keep.mk hI
  have HO := Keep.mk hO
  have HS : Keep (s.size ≤ 140737488355328) := ⟨by omega⟩
  have HL := Keep.mk hI.le
  obtain ⟨D, hD⟩ : ∃ D, Keep (D = (lst s).drop a) := ⟨_, ⟨rfl⟩⟩
  have HB : Keep (Byts D) := ⟨by rw [hD.out]; exact (lst_byts s).drop a⟩
  have HLD : Keep (D.length = s.size - a) := ⟨by rw [hD.out, List.length_drop, lst_len]⟩
  have HLt : Keep (((lst s).take a).length = a) := ⟨by rw [List.length_take, lst_len]; exact Nat.min_eq_left hI.le⟩
  clear hI hO hb
  obtain ⟨R, hR⟩ : ∃ R, Keep (R = fstM D 18446744073709551615) := ⟨_, ⟨rfl⟩⟩
  have hrng : 0 ≤ R.1 ∧ R.1 < 18446744073709551616 := by
    rw [hR.out]
    by_cases h0 : (fstM D 18446744073709551615).2.2 = 0
    · obtain ⟨xn, kn, e1, _, hx, _⟩ := fst_take D 18446744073709551615 (fstM D 18446744073709551615).1 (fstM D 18446744073709551615).2.1 HB.out (Prod.ext rfl (Prod.ext rfl h0))
      rw [e1]; omega
    · rw [((fstM_shape D 18446744073709551615).1 h0).1]; decide
  have hc := isigned_good r s a w HI.out HS.out R (by rw [hR.out, hD.out]) _ rfl hrng.1 hrng.2
  obtain ⟨x, k, W⟩ := R
  obtain ⟨y, hy⟩ : ∃ y, Keep (y = if W = 0 then zag x else 0) := ⟨_, ⟨rfl⟩⟩
  simp only at hc
  rw [← hy.out] at hc
  have HC := Keep.mk hc
  clear hc hrng
  go_enter Try.func29, Try.ntmps29
  go_wp2_with fail
  refine HC.out.mono ?_
  rintro e w1 ⟨bad, er, rfl, h1, h2, h3⟩
  have HI1 := Keep.mk h1
  have HO1 := Keep.mk (out_keep HI.out HO.out h2)
  have HG1 : Keep (Grown w w1 fun k => k = r ∨ OF o v k) := ⟨h2.mono fun _ _ e => .inl e⟩
  clear h1 h2 HC
  rcases h3 with ⟨h0, rfl, rfl⟩ | ⟨h0, q, hq, rfl, rfl, hbad⟩
  · have h00 : W = 0 := h0
    subst h00
    obtain ⟨xn, kn, rfl, rfl, hx, hn, hk⟩ := fst_take D _ x k HB.out hR.out.symm
    have hyz : y = zag (xn : Int) := by rw [hy.out, if_pos rfl]
    have hz : zig y = xn := by rw [hyz, zig_zag]
    have Hf : Keep ((lst s).take a ++ numL (zig y) = (lst s).take (a + kn)) := ⟨by rw [hz, hn, hD.out, take_next]⟩
    have hy1 : Keep (-9223372036854775808 ≤ y ∧ y ≤ 9223372036854775807) := ⟨by rw [hyz]; unfold zag; split <;> omega⟩
    have Hk : Keep ((numL (zig y)).length = kn) := ⟨by rw [hz, hn, List.length_take]; omega⟩
    have HI1' : Keep (InAt w1 r s (a + kn) none) := ⟨by have := HI1.out; simpa using this⟩
    clear h0 hn hx HI1 hyz hz hy
    have HI1 := HI1'
    have hk2 := HI1.out.le
    go_wp2_with fail
    have hoc := osigned_any o v _ y w1 HO1.out hy1.out.1 hy1.out.2 (by rw [List.length_append, HLt.out, Hk.out]; have := HS.out; omega)
    rw [Hf.out] at hoc
    refine hoc.mono ?_
    intro e w2 hpost
    obtain ⟨rfl, v2, hO2, hm2, hg2⟩ := hpost
    have HO2 := Keep.mk hO2
    have HI2 := Keep.mk (in_keep HI1.out HO1.out hg2)
    have HG2 : Keep (Grown w w2 fun k => k = r ∨ OF o v k) := ⟨HG1.out.next hg2 fun i hi e => .inr e⟩
    have HM2 : Keep (Moved w v v2) := ⟨(Moved.refl w v).trans HG1.out.size hm2⟩
    clear hO2 hm2 hg2
    go_wp2
    go_ret
    exact .inl ⟨rfl, kn, v2, HI2.out.le, HI2.out, HO2.out, HM2.out, HG2.out⟩
  · clear h0 hbad
    unfold err
    go_wp2
    go_ret
    exact .inr ⟨rfl, _, _, Nat.le_add_right _ _, HI1.out, HO1.out, HG1.out⟩

set_option maxRecDepth 2000 in
set_option maxHeartbeats 1000000 in
theorem again_bytes (r o : Nat) (s : ByteArray) (a : Nat) (v : Value) (w : World) (hI : InAt w r s a none) (hb : s.size ≤ 140737488351232) (hO : OutAt w o v ((lst s).take a)) :
    Calls Try.prog 29 #[ptr r, ptr o, .int .i64 4] w (AgainPost r o s a v w) := by
  have HI := Keep.mk hI
  have HO := Keep.mk hO
  have HS : Keep (s.size ≤ 140737488355328) := ⟨by omega⟩
  have HL := Keep.mk hI.le
  obtain ⟨D, hD⟩ : ∃ D, Keep (D = (lst s).drop a) := ⟨_, ⟨rfl⟩⟩
  have HB : Keep (Byts D) := ⟨by rw [hD.out]; exact (lst_byts s).drop a⟩
  have HLD : Keep (D.length = s.size - a) := ⟨by rw [hD.out, List.length_drop, lst_len]⟩
  have HLt : Keep (((lst s).take a).length = a) := ⟨by rw [List.length_take, lst_len]; exact Nat.min_eq_left hI.le⟩
  clear hI hO hb
  obtain ⟨W, hW⟩ : ∃ W, Keep (W = (byt D 1099511627776).1) := ⟨_, ⟨rfl⟩⟩
  obtain ⟨N, hN⟩ : ∃ N, Keep (N = (byt D 1099511627776).2.1) := ⟨_, ⟨rfl⟩⟩
  obtain ⟨l, hl⟩ : ∃ l, Keep (l = (byt D 1099511627776).2.2) := ⟨_, ⟨rfl⟩⟩
  have HC := Keep.mk (ibytes_good r s a 1099511627776 1099511627776 rfl w HI.out HS.out (by decide) D hD.out W hW.out N hN.out l hl.out)
  go_enter Try.func29, Try.ntmps29
  go_wp2_with fail
  refine HC.out.mono ?_
  rintro e w1 ⟨bad, er, res, rfl, h1, h2, h3, h4⟩
  have HI1 := Keep.mk h1
  have HO1 := Keep.mk (out_keep HI.out HO.out h2)
  have HG1 : Keep (Grown w w1 fun k => k = r ∨ OF o v k) := ⟨h2.mono fun _ _ e => .inl e⟩
  clear h1 h2 HC
  rcases h3 with ⟨h0, rfl, rfl⟩ | ⟨h0, q, hq, rfl, rfl, hbad⟩
  · have h00 : W = 0 := h0
    subst h00
    rcases h4 with ⟨_, hres, k, hk, hkw, _⟩ | ⟨h, _⟩
    case inr => exact absurd rfl h
    obtain ⟨hf, hn⟩ := byt_take D 1099511627776 HB.out N l (Prod.ext hW.out.symm (Prod.ext hN.out.symm hl.out.symm))
    have Hf : Keep ((lst s).take a ++ bform l = (lst s).take (a + N)) := ⟨by rw [hf, hD.out, take_next]⟩
    have Hk : Keep ((bform l).length = N) := ⟨by rw [hf, List.length_take]; omega⟩
    have HRes := Keep.mk hres
    have Hsep : Keep (∀ k, res.ownBlock = some k → ¬ OF o v k) := ⟨fun k' hk' hf' => by
      rw [hk] at hk'; injection hk' with hk'
      have := HO.out.lt hf'
      omega⟩
    have hk2 := HI1.out.le
    clear h0 hf hres hk hkw
    go_wp2_with fail
    have hoc := obytes_any o v res _ l w1 HO1.out HRes.out.row Hsep.out (by rw [HLt.out, Hk.out]; have := HS.out; omega)
    rw [Hf.out] at hoc
    refine hoc.mono ?_
    intro e w2 hpost
    obtain ⟨rfl, v2, hO2, hm2, hg2⟩ := hpost
    have HO2 := Keep.mk hO2
    have HI2 := Keep.mk (in_keep HI1.out HO1.out hg2)
    have HG2 : Keep (Grown w w2 fun k => k = r ∨ OF o v k) := ⟨HG1.out.next hg2 fun i hi e => .inr e⟩
    have HM2 : Keep (Moved w v v2) := ⟨(Moved.refl w v).trans HG1.out.size hm2⟩
    clear hO2 hm2 hg2
    go_wp2
    go_ret
    exact .inl ⟨rfl, N, v2, HI2.out.le, HI2.out, HO2.out, HM2.out, HG2.out⟩
  · clear h0 hbad h4
    unfold err
    go_wp2
    go_ret
    exact .inr ⟨rfl, _, _, Nat.le_add_right _ _, HI1.out, HO1.out, HG1.out⟩

set_option maxRecDepth 2000 in
set_option maxHeartbeats 1000000 in
theorem again_text (r o : Nat) (s : ByteArray) (a : Nat) (v : Value) (w : World) (hI : InAt w r s a none) (hb : s.size ≤ 140737488351232) (hO : OutAt w o v ((lst s).take a)) :
    Calls Try.prog 29 #[ptr r, ptr o, .int .i64 5] w (AgainPost r o s a v w) := by
  have HI := Keep.mk hI
  have HO := Keep.mk hO
  have HS : Keep (s.size ≤ 140737488355328) := ⟨by omega⟩
  have HL := Keep.mk hI.le
  obtain ⟨D, hD⟩ : ∃ D, Keep (D = (lst s).drop a) := ⟨_, ⟨rfl⟩⟩
  have HB : Keep (Byts D) := ⟨by rw [hD.out]; exact (lst_byts s).drop a⟩
  have HLD : Keep (D.length = s.size - a) := ⟨by rw [hD.out, List.length_drop, lst_len]⟩
  have HLt : Keep (((lst s).take a).length = a) := ⟨by rw [List.length_take, lst_len]; exact Nat.min_eq_left hI.le⟩
  clear hI hO hb
  obtain ⟨W, hW⟩ : ∃ W, Keep (W = (byt D 1099511627776).1) := ⟨_, ⟨rfl⟩⟩
  obtain ⟨N, hN⟩ : ∃ N, Keep (N = (byt D 1099511627776).2.1) := ⟨_, ⟨rfl⟩⟩
  obtain ⟨l, hl⟩ : ∃ l, Keep (l = (byt D 1099511627776).2.2) := ⟨_, ⟨rfl⟩⟩
  obtain ⟨st, hst⟩ : ∃ st, Keep (st = strOfNums l) := ⟨_, ⟨rfl⟩⟩
  have HC := Keep.mk (itext_good r s a 1099511627776 1099511627776 rfl w HI.out HS.out (by decide) D hD.out W hW.out N hN.out l hl.out st hst.out)
  go_enter Try.func29, Try.ntmps29
  go_wp2_with fail
  refine HC.out.mono ?_
  rintro e w1 ⟨bad, er, rfl, h1, h2, h3⟩
  have HI1 := Keep.mk h1
  have HO1 := Keep.mk (out_keep HI.out HO.out h2)
  have HG1 : Keep (Grown w w1 fun k => k = r ∨ OF o v k) := ⟨h2.mono fun _ _ e => .inl e⟩
  clear h1 h2 HC
  rcases h3 with ⟨h0, rfl, rfl⟩ | ⟨h0, q, hq, rfl, rfl, hbad⟩
  · have h00 : W = 0 := h0
    subst h00
    obtain ⟨hf, hn⟩ := byt_take D 1099511627776 HB.out N l (Prod.ext hW.out.symm (Prod.ext hN.out.symm hl.out.symm))
    have hbl : Byts l := by
      intro c hc
      have h1 : c ∈ bform l := by unfold bform; exact List.mem_append_right _ hc
      rw [hf] at h1
      exact HB.out c (List.mem_of_mem_take h1)
    have hls : lst st = l := by rw [hst.out, lst_nums hbl]
    have Hf : Keep ((lst s).take a ++ bform (lst st) = (lst s).take (a + N)) := ⟨by rw [hls, hf, hD.out, take_next]⟩
    have Hk : Keep ((bform (lst st)).length = N) := ⟨by rw [hls, hf, List.length_take]; omega⟩
    have hk2 := HI1.out.le
    clear h0 hf hbl hls
    go_wp2_with fail
    have hoc := otext_any o v _ st w1 HO1.out (by rw [HLt.out, Hk.out]; have := HS.out; omega)
    rw [Hf.out] at hoc
    refine hoc.mono ?_
    intro e w2 hpost
    obtain ⟨rfl, v2, hO2, hm2, hg2⟩ := hpost
    have HO2 := Keep.mk hO2
    have HI2 := Keep.mk (in_keep HI1.out HO1.out hg2)
    have HG2 : Keep (Grown w w2 fun k => k = r ∨ OF o v k) := ⟨HG1.out.next hg2 fun i hi e => .inr e⟩
    have HM2 : Keep (Moved w v v2) := ⟨(Moved.refl w v).trans HG1.out.size hm2⟩
    clear hO2 hm2 hg2
    go_wp2
    go_ret
    exact .inl ⟨rfl, N, v2, HI2.out.le, HI2.out, HO2.out, HM2.out, HG2.out⟩
  · clear h0 hbad
    unfold err
    go_wp2
    go_ret
    exact .inr ⟨rfl, _, _, Nat.le_add_right _ _, HI1.out, HO1.out, HG1.out⟩

set_option maxRecDepth 2000 in
set_option maxHeartbeats 1000000 in
theorem again_other (r o : Nat) (s : ByteArray) (a : Nat) (v : Value) (K : Int) (w : World) (hI : InAt w r s a none) (hb : s.size ≤ 140737488351232) (hO : OutAt w o v ((lst s).take a)) (k0 : (K == 0) = false) (k1 : (K == 1) = false) (k2 : (K == 2) = false) (k4 : (K == 4) = false) (k5 : (K == 5) = false) (k6 : (K == 6) = false) :
    Calls Try.prog 29 #[ptr r, ptr o, .int .i64 K] w (AgainPost r o s a v w) := by
  have HI := Keep.mk hI
  have HO := Keep.mk hO
  have HS : Keep (s.size ≤ 140737488355328) := ⟨by omega⟩
  have HL := Keep.mk hI.le
  obtain ⟨D, hD⟩ : ∃ D, Keep (D = (lst s).drop a) := ⟨_, ⟨rfl⟩⟩
  have HB : Keep (Byts D) := ⟨by rw [hD.out]; exact (lst_byts s).drop a⟩
  have HLD : Keep (D.length = s.size - a) := ⟨by rw [hD.out, List.length_drop, lst_len]⟩
  have HLt : Keep (((lst s).take a).length = a) := ⟨by rw [List.length_take, lst_len]; exact Nat.min_eq_left hI.le⟩
  clear hI hO hb
  go_enter Try.func29, Try.ntmps29
  go_wp2
  go_ret
  exact .inl ⟨rfl, 0, v, HL.out, HI.out, HO.out, Moved.refl _ _, Grown.refl _ _⟩

set_option maxRecDepth 2000 in
set_option maxHeartbeats 1000000 in
theorem again_hash (r o : Nat) (s : ByteArray) (a : Nat) (v : Value) (w : World) (hI : InAt w r s a none) (hb : s.size ≤ 140737488351232) (hO : OutAt w o v ((lst s).take a)) :
    Calls Try.prog 29 #[ptr r, ptr o, .int .i64 6] w (AgainPost r o s a v w) := by
  have HI := Keep.mk hI
  have HO := Keep.mk hO
  have HS : Keep (s.size ≤ 140737488355328) := ⟨by omega⟩
  have HL := Keep.mk hI.le
  obtain ⟨D, hD⟩ : ∃ D, Keep (D = (lst s).drop a) := ⟨_, ⟨rfl⟩⟩
  have HB : Keep (Byts D) := ⟨by rw [hD.out]; exact (lst_byts s).drop a⟩
  have HLD : Keep (D.length = s.size - a) := ⟨by rw [hD.out, List.length_drop, lst_len]⟩
  have HLt : Keep (((lst s).take a).length = a) := ⟨by rw [List.length_take, lst_len]; exact Nat.min_eq_left hI.le⟩
  clear hI hO hb
  obtain ⟨W, hW⟩ : ∃ W, Keep (W = nextW D 32) := ⟨_, ⟨rfl⟩⟩
  obtain ⟨N, hN⟩ : ∃ N, Keep (N = nextN D 32) := ⟨_, ⟨rfl⟩⟩
  have hc := ihash_good r s a w HI.out HS.out D hD.out W hW.out N hN.out
  obtain ⟨c, hcd⟩ : ∃ c, Keep (c = hrd D W) := ⟨_, ⟨rfl⟩⟩
  rw [← hcd.out] at hc
  have HC := Keep.mk hc
  clear hc
  go_enter Try.func29, Try.ntmps29
  go_wp2_with fail
  refine HC.out.mono ?_
  rintro e w1 ⟨bad, er, rfl, h1, h2, h3⟩
  have HI1 := Keep.mk h1
  have HO1 := Keep.mk (out_keep HI.out HO.out h2)
  have HG1 : Keep (Grown w w1 fun k => k = r ∨ OF o v k) := ⟨h2.mono fun _ _ e => .inl e⟩
  have HNw := Keep.mk (Blk.new w1 84 (bytesA 32 fun _ => 0))
  have HN2 := Keep.mk (HNw.out.setRow (bytesA 32 c))
  have HBw : Keep (Below w1.heap.size w1 ((w1.alloc (.cells (bytesA 32 fun _ => 0) 84)).setRow w1.heap.size (bytesA 32 c))) := ⟨below_setRow (below_new w1 _) (Nat.le_refl _) _⟩
  clear h1 h2 HC
  rcases h3 with ⟨h0, rfl, rfl⟩ | ⟨h0, q, hq, rfl, rfl, hbad⟩
  · have h00 : W = 0 := h0
    subst h00
    have hx := nextN_0 D 32 (by rw [← hW.out])
    have hN32 : N = 32 := by rw [hN.out, hx.1]; rfl
    have hl32 : 32 ≤ D.length := hx.2.2
    have Hf : Keep ((lst s).take a ++ hl 32 c = (lst s).take (a + N)) := ⟨by rw [hcd.out, hl_take D hl32, hN32, hD.out, take_next]⟩
    clear h0 hx
    go_wp2_with (first | (refine wpList_new rfl 84 rfl _ Try.new84 ?_) | (refine wpList_store_row rfl 84 (.tmp 17) (.tmp 85) rfl w1.heap.size (bytesA 32 c) rfl rfl 84 (bytesA 32 fun _ => 0) HNw.out (Try.size84B _) (bytesA_sizes _ _ _) (bytesA_one _ _) ?_; refine Hid.out ?_))
    refine hid_in ?_
    generalize (w1.alloc (.cells (bytesA 32 fun _ => 0) 84)).setRow w1.heap.size (bytesA 32 c) = wA at *
    have HI1' : Keep (InAt wA r s (a + N) none) := ⟨⟨HI1.out.blk.below HBw.out HI1.out.blk.lt, HI1.out.le⟩⟩
    have HO1' := Keep.mk (HO1.out.grown (Grown.below (S := fun _ => False) HBw.out) fun _ _ h => h)
    have HG1' : Keep (Grown w wA fun k => k = r ∨ OF o v k) := ⟨HG1.out.next (Grown.below (S := fun _ => False) HBw.out) fun _ _ h => h.elim⟩
    clear HI1 HO1 HG1 HBw HNw
    have HI1 := HI1'
    have HO1 := HO1'
    have HG1 := HG1'
    have hk2 := HI1.out.le
    go_wp2_with (first | (refine wpList_load_row rfl 84 (.tmp 17) rfl w1.heap.size rfl 84 (bytesA 32 c) (0, 0) (.array 32 5) HN2.out Try.underlying84 rfl (Try.size84B _) ?_))
    have hoc := ohash_any o v _ c wA HO1.out (by rw [HLt.out]; have := HS.out; omega)
    rw [Hf.out] at hoc
    refine hoc.mono ?_
    intro e w2 hpost
    obtain ⟨rfl, v2, hO2, hm2, hg2⟩ := hpost
    have HO2 := Keep.mk hO2
    have HI2 := Keep.mk (in_keep HI1.out HO1.out hg2)
    have HG2 : Keep (Grown w w2 fun k => k = r ∨ OF o v k) := ⟨HG1.out.next hg2 fun i hi e => .inr e⟩
    have HM2 : Keep (Moved w v v2) := ⟨(Moved.refl w v).trans HG1.out.size hm2⟩
    clear hO2 hm2 hg2
    go_wp2
    go_ret
    exact .inl ⟨rfl, N, v2, HI2.out.le, HI2.out, HO2.out, HM2.out, HG2.out⟩
  · clear h0 hbad
    unfold err
    go_wp2_with (first | (refine wpList_new rfl 84 rfl _ Try.new84 ?_) | (refine wpList_store_row rfl 84 (.tmp 17) (.tmp 85) rfl w1.heap.size (bytesA 32 c) rfl rfl 84 (bytesA 32 fun _ => 0) HNw.out (Try.size84B _) (bytesA_sizes _ _ _) (bytesA_one _ _) ?_))
    go_ret
    exact .inr ⟨rfl, _, _, Nat.le_add_right _ _, ⟨HI1.out.blk.below HBw.out HI1.out.blk.lt, HI1.out.le⟩, HO1.out.grown (Grown.below (S := fun _ => False) HBw.out) fun _ _ h => h, HG1.out.next (Grown.below (S := fun _ => False) HBw.out) fun _ _ h => h.elim⟩

theorem again_any (r o : Nat) (s : ByteArray) (a : Nat) (v : Value) (K : Int) (w : World) (hI : InAt w r s a none) (hb : s.size ≤ 140737488351232) (hO : OutAt w o v ((lst s).take a)) :
    Calls Try.prog 29 #[ptr r, ptr o, .int .i64 K] w (AgainPost r o s a v w) := by
  by_cases k0 : K = 0
  · subst k0; exact again_byte r o s a v w hI hb hO
  by_cases k1 : K = 1
  · subst k1; exact again_num r o s a v w hI hb hO
  by_cases k2 : K = 2
  · subst k2; exact again_signed r o s a v w hI hb hO
  by_cases k4 : K = 4
  · subst k4; exact again_bytes r o s a v w hI hb hO
  by_cases k5 : K = 5
  · subst k5; exact again_text r o s a v w hI hb hO
  by_cases k6 : K = 6
  · subst k6; exact again_hash r o s a v w hI hb hO
  exact again_other r o s a v K w hI hb hO (by simpa using k0) (by simpa using k1) (by simpa using k2) (by simpa using k4) (by simpa using k5) (by simpa using k6)
end Go.Proofs.Ytanmbbckkfkhpaa
