import Derived.Test.YtpakaladpdoejaaSealP
import Derived.Test.YtpakaladpdoejaaMacs
namespace Go.Proofs.Ytpakaladpdoejaa
open Go.RowKit

set_option maxHeartbeats 400000 in
theorem rep_any (n : Int) (r : Bool) (hr : r = decide (okN n)) (w : World) : Calls Try.prog 26 #[.int .i64 n] w fun e w' => e = .returned (.bool r) ∧ w' = w := by
  have HR := Keep.mk hr
  clear hr
  by_cases h1 : 1 ≤ n
  · by_cases h2 : n ≤ 8
    · have hr : r = true := by rw [HR.out]; exact decide_eq_true ⟨h1, h2⟩
      subst hr
      clear HR
      go_enter Try.func26, Try.ntmps26
      go_wp2
      go_ret
      exact ⟨rfl, rfl⟩
    · have hr : r = false := by rw [HR.out]; exact decide_eq_false fun h => h2 h.2
      subst hr
      clear HR
      go_enter Try.func26, Try.ntmps26
      go_wp2
      go_ret
      exact ⟨rfl, rfl⟩
  · have hr : r = false := by rw [HR.out]; exact decide_eq_false fun h => h1 h.1
    subst hr
    clear HR
    go_enter Try.func26, Try.ntmps26
    go_wp2
    go_ret
    exact ⟨rfl, rfl⟩
/-- What is left behind Seal. -/
def SealPost (key : List Int) (f t : Int) (body : List Int) (w : World) (e : Ending) (w' : World) : Prop :=
  ∃ v', e = .returned (.tuple #[v', .int .i64 (sealW key f t body)]) ∧ Below w.heap.size w w' ∧ ((sealW key f t body = 0 ∧ FreshB w v' (sealL key f t body) w') ∨ (sealW key f t body ≠ 0 ∧ v' = .slice none 0 0))

set_option maxRecDepth 4000 in
set_option maxHeartbeats 2000000 in
theorem refSeal_any (vk vb : Value) (key : List Int) (f t : Int) (body : List Int) (w : World) (hk : RowAt w vk key) (hb : RowAt w vb body) (hkl : key.length ≤ 140737488351232) (hbl : body.length ≤ 140737488351232) :
    Calls Try.prog 14 #[vk, .agg #[.int .i64 f, .int .i64 t, vb]] w (SealPost key f t body w) := by
  have HRk := Keep.mk hk
  have HRb := Keep.mk hb
  have HKl := Keep.mk hkl
  have HBl := Keep.mk hbl
  obtain ⟨ka, kc, rfl⟩ := row_form hk
  obtain ⟨xa, xc, rfl⟩ := row_form hb
  have HA := Keep.mk (below_new w (.cells #[.int .i64 f, .int .i64 t, .slice xa body.length xc] 31))
  have HX := Keep.mk (Blk.new w 31 #[.int .i64 f, .int .i64 t, .slice xa body.length xc])
  obtain ⟨W, hW⟩ : ∃ W, Keep (W = sealW key f t body) := ⟨_, ⟨rfl⟩⟩
  have HP : Keep (∀ e w', (∃ v', e = .returned (.tuple #[v', .int .i64 W]) ∧ Below w.heap.size w w' ∧ ((W = 0 ∧ FreshB w v' (sealL key f t body) w') ∨ (W ≠ 0 ∧ v' = .slice none 0 0))) → SealPost key f t body w e w') := ⟨fun e w' h => by unfold SealPost; rw [← hW.out]; exact h⟩
  refine Calls.mono ?_ HP.out
  clear HP hk hb hkl hbl
  by_cases hk32 : key.length = 32
  · have hk32' : ((key.length : Int) == 32) = true := by simp; omega
    have hkI : (key.length : Int) = 32 := by omega
    by_cases hf : okN f
    · have HF : Keep (true = decide (okN f)) := ⟨(decide_eq_true hf).symm⟩
      by_cases ht : okN t
      · have HT : Keep (true = decide (okN t)) := ⟨(decide_eq_true ht).symm⟩
        have hnn : ¬ (key.length ≠ 32 ∨ ¬ okN f ∨ ¬ okN t) := by rintro (h | h | h) <;> first | exact h hk32 | exact h hf | exact h ht
        by_cases hbig : 2097152 < body.length
        · have hbig' : (2097152 : Int) < (body.length : Int) := by omega
          have HW : Keep (W = 4) := ⟨by rw [hW.out]; unfold sealW; rw [if_neg hnn, if_pos hbig]⟩
          clear hf ht hnn hbig hW hk32
          go_enter Try.func14, Try.ntmps14
          go_wp2_with (first | (refine wpList_boxA rfl 31 (.tmp 1) rfl _ rfl ?_; refine Hid.out ?_))
          refine hid_in ?_
          generalize w.alloc (.cells #[.int .i64 f, .int .i64 t, .slice xa body.length xc] 31) = w1 at *
          have c0 : w1.cell? ⟨w.heap.size, 0, none⟩ = some (.int .i64 f) := by rw [HX.out.cell]; rfl
          have c1 : w1.cell? ⟨w.heap.size, 1, none⟩ = some (.int .i64 t) := by rw [HX.out.cell]; rfl
          have c2 : w1.cell? ⟨w.heap.size, 2, none⟩ = some (.slice xa body.length xc) := by rw [HX.out.cell]; rfl
          go_wp2_with fail
          refine (rep_any f _ HF.out w1).mono ?_
          rintro e w2 ⟨rfl, hw2⟩
          rw [hw2]
          clear hw2
          go_wp2_with fail
          refine (rep_any t _ HT.out w1).mono ?_
          rintro e w2 ⟨rfl, hw2⟩
          rw [hw2]
          clear hw2
          go_wp2
          go_ret2
          exact ⟨_, by rw [HW.out]; rfl, HA.out, .inr ⟨by rw [HW.out]; decide, rfl⟩⟩
        · have hbig' : ¬ (2097152 : Int) < (body.length : Int) := by omega
          have HW : Keep (W = 0) := ⟨by rw [hW.out]; unfold sealW; rw [if_neg hnn, if_neg hbig]⟩
          have Hf := Keep.mk hf
          have Ht := Keep.mk ht
          have Hbig : Keep (body.length ≤ 2097152) := ⟨by omega⟩
          clear hf ht hnn hbig hW hk32
          go_enter Try.func14, Try.ntmps14
          go_wp2_with (first | (refine wpList_boxA rfl 31 (.tmp 1) rfl _ rfl ?_; refine Hid.out ?_))
          refine hid_in ?_
          generalize w.alloc (.cells #[.int .i64 f, .int .i64 t, .slice xa body.length xc] 31) = w1 at *
          have c0 : w1.cell? ⟨w.heap.size, 0, none⟩ = some (.int .i64 f) := by rw [HX.out.cell]; rfl
          have c1 : w1.cell? ⟨w.heap.size, 1, none⟩ = some (.int .i64 t) := by rw [HX.out.cell]; rfl
          have c2 : w1.cell? ⟨w.heap.size, 2, none⟩ = some (.slice xa body.length xc) := by rw [HX.out.cell]; rfl
          go_wp2_with fail
          refine (rep_any f _ HF.out w1).mono ?_
          rintro e w2 ⟨rfl, hw2⟩
          rw [hw2]
          clear hw2
          go_wp2_with fail
          refine (rep_any t _ HT.out w1).mono ?_
          rintro e w2 ⟨rfl, hw2⟩
          rw [hw2]
          clear hw2
          have c2a : ∀ cs, (w1.alloc (.cells cs 5)).cell? ⟨w.heap.size, 2, none⟩ = some (.slice xa body.length xc) := fun cs => by rw [(HX.out.alloc (.cells cs 5)).cell]; rfl
          obtain ⟨n0, hn0⟩ : ∃ n0, (body.length : Int) % 256 = n0 := ⟨_, rfl⟩
          obtain ⟨n1, hn1⟩ : ∃ n1, (body.length : Int) / 256 % 256 = n1 := ⟨_, rfl⟩
          obtain ⟨n2, hn2⟩ : ∃ n2, (body.length : Int) / 65536 = n2 := ⟨_, rfl⟩
          obtain ⟨n3, hn3⟩ : ∃ n3, (body.length : Int) / 16777216 = n3 := ⟨_, rfl⟩
          have hfm : f % 256 = f := by have := Hf.out; omega
          have htm : t % 256 = t := by have := Ht.out; omega
          have Hhh : Keep ([80, 76, 69, 49, f, t, n0, n1, n2, n3] = hdrL f t body.length) := ⟨by
            unfold hdrL
            rw [hn0, hn1, hn2, hn3, show n2 % 256 = n2 by have := Hbig.out; omega, show n3 % 256 = n3 by have := Hbig.out; omega]⟩
          have HF0 : Keep (FreshB w (.slice (some ⟨w1.heap.size, 0, none⟩) 10 10) [80, 76, 69, 49, f, t, n0, n1, n2, n3] (w1.alloc (.cells #[.int .u8 80, .int .u8 76, .int .u8 69, .int .u8 49, .int .u8 f, .int .u8 t, .int .u8 n0, .int .u8 n1, .int .u8 n2, .int .u8 n3] 5))) := ⟨own_done w1 [80, 76, 69, 49, f, t, n0, n1, n2, n3] (by simp), ⟨_, rfl, HA.out.size⟩, HA.out.trans ((below_new w1 _).mono HA.out.size)⟩
          have HX2 := Keep.mk (HX.out.alloc (.cells #[.int .u8 80, .int .u8 76, .int .u8 69, .int .u8 49, .int .u8 f, .int .u8 t, .int .u8 n0, .int .u8 n1, .int .u8 n2, .int .u8 n3] 5))
          go_wp2_with (first | (at_builtin; refine wpList_app rfl (.tmp 51) (.tmp 53) rfl (.slice (some ⟨w1.heap.size, 0, none⟩) 10 10) _ [80, 76, 69, 49, f, t, n0, n1, n2, n3] body rfl rfl HF0.out.1 (HRb.out.below HF0.out.2.2) (by have := Hbig.out; simp only [List.length_cons, List.length_nil]; omega) ?_; intro v3 w3 hp; refine Hid.out ?_))
          refine hid_in ?_
          have HF3 := Keep.mk (HF0.out.app hp)
          rw [Hhh.out, show hdrL f t body.length ++ body = sealB f t body from rfl] at HF3
          obtain ⟨L, hL⟩ : ∃ L, Keep (L = sealB f t body) := ⟨_, ⟨rfl⟩⟩
          rw [← hL.out] at HF3
          have HLl : Keep (L.length ≤ 140737488351232) := ⟨by rw [hL.out, sealB_len]; have := Hbig.out; omega⟩
          clear hp HF0 HX HX2 Hhh c0 c1 c2 c2a hn0 hn1 hn2 hn3 hfm htm
          go_wp2_with fail
          refine (refMac_any _ v3 key L w3 (HRk.out.below HF3.out.2.2) HF3.out.1.row HKl.out HLl.out).mono ?_
          rintro e w4 ⟨rfl, hb4⟩
          have HF4 := Keep.mk (HF3.out.later hb4)
          clear hb4 HF3
          obtain ⟨c, hc⟩ : ∃ c, Keep (c = macP key L) := ⟨_, ⟨rfl⟩⟩
          rw [← hc.out]
          obtain ⟨ca, Hca⟩ : ∃ ca, Keep (ca = bytesA 32 c) := ⟨_, ⟨rfl⟩⟩
          have HIca : Keep ((Try.prog.info? 26).map (·.size) = some ca.size) := ⟨by rw [Hca.out]; exact Try.size26B _⟩
          have HZca : Keep ((bytesA 32 fun _ => 0).size = ca.size) := ⟨by rw [Hca.out]; exact bytesA_sizes _ _ _⟩
          have HOca : Keep (ca.all (·.oneCell') = true) := ⟨by rw [Hca.out]; exact bytesA_one _ _⟩
          rw [← Hca.out]
          go_wp2_with (first | (refine wpList_new rfl 26 rfl _ Try.new26 ?_; refine Hid.out ?_))
          refine hid_in ?_
          have HN5 := Keep.mk (Blk.new w4 26 (bytesA 32 fun _ => 0))
          have HA5 := Keep.mk (below_new w4 (.cells (bytesA 32 fun _ => 0) 26))
          generalize w4.alloc (.cells (bytesA 32 fun _ => 0) 26) = w5 at *
          go_wp2_with (first | (refine wpList_store_row rfl 26 (.tmp 10) (.tmp 57) rfl w4.heap.size ca rfl rfl 26 (bytesA 32 fun _ => 0) HN5.out HIca.out HZca.out HOca.out ?_; refine Hid.out ?_))
          refine hid_in ?_
          have HN6 := Keep.mk (HN5.out.setRow ca)
          have HF6 := Keep.mk (HF4.out.later (below_setRow HA5.out (Nat.le_refl _) ca))
          generalize w5.setRow w4.heap.size ca = w6 at *
          clear HN5 HA5 HF4
          go_wp2_with (first | (refine wpList_load_row rfl 26 (.tmp 10) rfl w4.heap.size rfl 26 ca (0, 0) (.array 32 5) HN6.out Try.underlying26 rfl HIca.out ?_))
          rw [Hca.out]
          refine (hashed_any c w6).mono ?_
          rintro e w7 ⟨v7, rfl, hF7⟩
          have HF7 := Keep.mk (HF6.out.later hF7.2.2)
          have HR7 := Keep.mk hF7.1.row
          clear hF7 HF6 HN6
          go_wp2_with (first | (at_builtin; refine wpList_app rfl (.tmp 58) (.tmp 60) rfl _ _ L (hl 32 c) rfl rfl HF7.out.1 HR7.out (by rw [hl_len]; have := HLl.out; omega) ?_; intro v8 w8 hp; refine Hid.out ?_))
          refine hid_in ?_
          have HF8 := Keep.mk (HF7.out.app hp)
          have hsl : L ++ hl 32 c = sealL key f t body := by rw [hc.out, hL.out]; rfl
          rw [hsl] at HF8
          clear hp HF7 HR7 hsl
          go_wp2
          go_ret2
          exact ⟨_, by rw [HW.out]; rfl, HF8.out.2.2, .inl ⟨HW.out, HF8.out⟩⟩
      · have HT : Keep (false = decide (okN t)) := ⟨(decide_eq_false ht).symm⟩
        have HW : Keep (W = 1) := ⟨by rw [hW.out]; unfold sealW; rw [if_pos (.inr (.inr ht))]⟩
        clear hf ht hW hk32
        go_enter Try.func14, Try.ntmps14
        go_wp2_with (first | (refine wpList_boxA rfl 31 (.tmp 1) rfl _ rfl ?_; refine Hid.out ?_))
        refine hid_in ?_
        generalize w.alloc (.cells #[.int .i64 f, .int .i64 t, .slice xa body.length xc] 31) = w1 at *
        have c0 : w1.cell? ⟨w.heap.size, 0, none⟩ = some (.int .i64 f) := by rw [HX.out.cell]; rfl
        have c1 : w1.cell? ⟨w.heap.size, 1, none⟩ = some (.int .i64 t) := by rw [HX.out.cell]; rfl
        have c2 : w1.cell? ⟨w.heap.size, 2, none⟩ = some (.slice xa body.length xc) := by rw [HX.out.cell]; rfl
        go_wp2_with fail
        refine (rep_any f _ HF.out w1).mono ?_
        rintro e w2 ⟨rfl, hw2⟩
        rw [hw2]
        clear hw2
        go_wp2_with fail
        refine (rep_any t _ HT.out w1).mono ?_
        rintro e w2 ⟨rfl, hw2⟩
        rw [hw2]
        clear hw2
        go_wp2
        go_ret2
        exact ⟨_, by rw [HW.out]; rfl, HA.out, .inr ⟨by rw [HW.out]; decide, rfl⟩⟩
    · have HF : Keep (false = decide (okN f)) := ⟨(decide_eq_false hf).symm⟩
      obtain ⟨rt, HT⟩ : ∃ rt, Keep (rt = decide (okN t)) := ⟨_, ⟨rfl⟩⟩
      have HW : Keep (W = 1) := ⟨by rw [hW.out]; unfold sealW; rw [if_pos (.inr (.inl hf))]⟩
      clear hf hW hk32
      go_enter Try.func14, Try.ntmps14
      go_wp2_with (first | (refine wpList_boxA rfl 31 (.tmp 1) rfl _ rfl ?_; refine Hid.out ?_))
      refine hid_in ?_
      generalize w.alloc (.cells #[.int .i64 f, .int .i64 t, .slice xa body.length xc] 31) = w1 at *
      have c0 : w1.cell? ⟨w.heap.size, 0, none⟩ = some (.int .i64 f) := by rw [HX.out.cell]; rfl
      have c1 : w1.cell? ⟨w.heap.size, 1, none⟩ = some (.int .i64 t) := by rw [HX.out.cell]; rfl
      have c2 : w1.cell? ⟨w.heap.size, 2, none⟩ = some (.slice xa body.length xc) := by rw [HX.out.cell]; rfl
      go_wp2_with fail
      refine (rep_any f _ HF.out w1).mono ?_
      rintro e w2 ⟨rfl, hw2⟩
      rw [hw2]
      clear hw2
      go_wp2_with fail
      refine (rep_any t _ HT.out w1).mono ?_
      rintro e w2 ⟨rfl, hw2⟩
      rw [hw2]
      clear hw2
      go_wp2
      go_ret2
      exact ⟨_, by rw [HW.out]; rfl, HA.out, .inr ⟨by rw [HW.out]; decide, rfl⟩⟩
  · have hk32' : ((key.length : Int) == 32) = false := by simp; omega
    have hkI : ¬ (key.length : Int) = 32 := by omega
    obtain ⟨rf, HF⟩ : ∃ rf, Keep (rf = decide (okN f)) := ⟨_, ⟨rfl⟩⟩
    obtain ⟨rt, HT⟩ : ∃ rt, Keep (rt = decide (okN t)) := ⟨_, ⟨rfl⟩⟩
    have HW : Keep (W = 1) := ⟨by rw [hW.out]; unfold sealW; rw [if_pos (.inl hk32)]⟩
    clear hW hk32
    go_enter Try.func14, Try.ntmps14
    go_wp2_with (first | (refine wpList_boxA rfl 31 (.tmp 1) rfl _ rfl ?_; refine Hid.out ?_))
    refine hid_in ?_
    generalize w.alloc (.cells #[.int .i64 f, .int .i64 t, .slice xa body.length xc] 31) = w1 at *
    have c0 : w1.cell? ⟨w.heap.size, 0, none⟩ = some (.int .i64 f) := by rw [HX.out.cell]; rfl
    have c1 : w1.cell? ⟨w.heap.size, 1, none⟩ = some (.int .i64 t) := by rw [HX.out.cell]; rfl
    have c2 : w1.cell? ⟨w.heap.size, 2, none⟩ = some (.slice xa body.length xc) := by rw [HX.out.cell]; rfl
    go_wp2_with fail
    refine (rep_any f _ HF.out w1).mono ?_
    rintro e w2 ⟨rfl, hw2⟩
    rw [hw2]
    clear hw2
    go_wp2_with fail
    refine (rep_any t _ HT.out w1).mono ?_
    rintro e w2 ⟨rfl, hw2⟩
    rw [hw2]
    clear hw2
    go_wp2
    go_ret2
    exact ⟨_, by rw [HW.out]; rfl, HA.out, .inr ⟨by rw [HW.out]; decide, rfl⟩⟩
end Go.Proofs.Ytpakaladpdoejaa
