import Derived.Test.YtpakaladpdoejaaOnce
import Derived.Test.YtpakaladpdoejaaPrgB
namespace Go.Proofs.Ytpakaladpdoejaa
open Go.RowKit

set_option maxHeartbeats 400000 in
theorem isRep_any (n : Int) (r : Bool) (hr : r = decide (okN n)) (w : World) : Calls Try.prog 27 #[.int .i64 n] w fun e w' => e = .returned (.bool r) ∧ w' = w := by
  have HR := Keep.mk hr
  clear hr
  by_cases h1 : 1 ≤ n
  · by_cases h2 : n ≤ 8
    · have hr : r = true := by rw [HR.out]; exact decide_eq_true ⟨h1, h2⟩
      subst hr
      clear HR
      go_enter Try.func27, Try.ntmps27
      go_wp2
      go_ret
      exact ⟨rfl, rfl⟩
    · have hr : r = false := by rw [HR.out]; exact decide_eq_false fun h => h2 h.2
      subst hr
      clear HR
      go_enter Try.func27, Try.ntmps27
      go_wp2
      go_ret
      exact ⟨rfl, rfl⟩
  · have hr : r = false := by rw [HR.out]; exact decide_eq_false fun h => h1 h.1
    subst hr
    clear HR
    go_enter Try.func27, Try.ntmps27
    go_wp2
    go_ret
    exact ⟨rfl, rfl⟩
theorem app_blk {w w' : World} {v v' : Value} {l l0 : List Int} {b : Nat} {cs : Array Value} (hp : AppPost w v l v' w') (ho : Own w v l0) (hX : Blk w b 31 cs) : Blk w' b 31 cs := hp.grown.blk hX (ho.ne hX (by decide))

set_option maxRecDepth 4000 in
set_option maxHeartbeats 2000000 in
theorem seal_ok : SealOk := by
  intro vk vb key f t body w hk hb hkl hbl hby
  have HRk := Keep.mk hk
  have HRb := Keep.mk hb
  have HKl := Keep.mk hkl
  have HBl := Keep.mk hbl
  obtain ⟨ka, kc, rfl⟩ := row_form hk
  obtain ⟨xa, xc, rfl⟩ := row_form hb
  have HA := Keep.mk (below_new w (.cells #[.int .i64 f, .int .i64 t, .slice xa body.length xc] 31))
  have HX := Keep.mk (Blk.new w 31 #[.int .i64 f, .int .i64 t, .slice xa body.length xc])
  obtain ⟨W, hW⟩ : ∃ W, Keep (W = sealW key f t body) := ⟨_, ⟨rfl⟩⟩
  have HP : Keep (∀ e w', (∃ v l, e = .returned (.tuple #[v, .int .i64 W]) ∧ Below w.heap.size w w' ∧ OwnT w' v l ∧ (∀ k, v.ownBlock = some k → w.heap.size ≤ k) ∧ ((W = 0 ∧ l = sealL key f t body) ∨ (W ≠ 0 ∧ l = []))) → SealOkPost key f t body w e w') := ⟨fun e w' h => by unfold SealOkPost; rw [← hW.out]; exact h⟩
  refine Calls.mono ?_ HP.out
  clear HP hk hb hkl hbl hby
  by_cases hk32 : key.length = 32
  · have hk32' : ((key.length : Int) == 32) = true := by simp; omega
    have hkI : (key.length : Int) = 32 := by omega
    by_cases hf : okN f
    · have HF : Keep (true = decide (okN f)) := ⟨(decide_eq_true hf).symm⟩
      by_cases ht : okN t
      · have HT : Keep (true = decide (okN t)) := ⟨(decide_eq_true ht).symm⟩
        have hnn : ¬ (key.length ≠ 32 ∨ ¬ okN f ∨ ¬ okN t) := by rintro (h | h | h) <;> first | exact h hk32 | exact h hf | exact h ht
        by_cases hbig : 2097152 < body.length
        · have hbig' : (2097152 : Int) < (body.length : Int) := by omega
          have HW : Keep (W = 4) := ⟨by rw [hW.out]; unfold sealW; rw [if_neg hnn, if_pos hbig]⟩
          clear hf ht hnn hbig hW hk32
          go_enter Try.func15, Try.ntmps15
          go_wp2_with (first | (refine wpList_boxA rfl 31 (.tmp 1) rfl _ rfl ?_; refine Hid.out ?_))
          refine hid_in ?_
          generalize w.alloc (.cells #[.int .i64 f, .int .i64 t, .slice xa body.length xc] 31) = w1 at *
          have c0 : w1.cell? ⟨w.heap.size, 0, none⟩ = some (.int .i64 f) := by rw [HX.out.cell]; rfl
          have c1 : w1.cell? ⟨w.heap.size, 1, none⟩ = some (.int .i64 t) := by rw [HX.out.cell]; rfl
          have c2 : w1.cell? ⟨w.heap.size, 2, none⟩ = some (.slice xa body.length xc) := by rw [HX.out.cell]; rfl
          go_wp2_with fail
          refine (isRep_any f _ HF.out w1).mono ?_
          rintro e w2 ⟨rfl, hw2⟩
          rw [hw2]
          clear hw2
          go_wp2_with fail
          refine (isRep_any t _ HT.out w1).mono ?_
          rintro e w2 ⟨rfl, hw2⟩
          rw [hw2]
          clear hw2
          go_wp2
          go_ret2
          exact ⟨.slice none 0 0, [], by rw [HW.out]; rfl, HA.out, .inl ⟨rfl, rfl⟩, by simp [Value.ownBlock], .inr ⟨by rw [HW.out]; decide, rfl⟩⟩
        · have hbig' : (body.length : Int) ≤ 2097152 := by omega
          have HW : Keep (W = 0) := ⟨by rw [hW.out]; unfold sealW; rw [if_neg hnn, if_neg hbig]⟩
          have Hf := Keep.mk hf
          have Ht := Keep.mk ht
          have Hbig : Keep (body.length ≤ 2097152) := ⟨by omega⟩
          clear hf ht hnn hbig hW hk32
          go_enter Try.func15, Try.ntmps15
          go_wp2_with (first | (refine wpList_boxA rfl 31 (.tmp 1) rfl _ rfl ?_; refine Hid.out ?_))
          refine hid_in ?_
          generalize w.alloc (.cells #[.int .i64 f, .int .i64 t, .slice xa body.length xc] 31) = w1 at *
          have c0 : w1.cell? ⟨w.heap.size, 0, none⟩ = some (.int .i64 f) := by rw [HX.out.cell]; rfl
          have c1 : w1.cell? ⟨w.heap.size, 1, none⟩ = some (.int .i64 t) := by rw [HX.out.cell]; rfl
          have c2 : w1.cell? ⟨w.heap.size, 2, none⟩ = some (.slice xa body.length xc) := by rw [HX.out.cell]; rfl
          go_wp2_with fail
          refine (isRep_any f _ HF.out w1).mono ?_
          rintro e w2 ⟨rfl, hw2⟩
          rw [hw2]
          clear hw2
          go_wp2_with fail
          refine (isRep_any t _ HT.out w1).mono ?_
          rintro e w2 ⟨rfl, hw2⟩
          rw [hw2]
          clear hw2
          go_wp2_with (first | (refine wpList_makeB rfl _ _ rfl 0 (body.length + 42) (Nat.zero_le _) (by have := Hbig.out; omega) rfl (by show Value.int .i64 _ = _; congr 1; omega) ?_; refine Hid.out ?_))
          refine hid_in ?_
          have HF0 : Keep (FreshB w (.slice (some ⟨w1.heap.size, 0, none⟩) 0 (body.length + 42)) [] (w1.alloc (.cells (bytesA (body.length + 42) fun _ => 0) 5))) := ⟨Own.mk (l := []) (Blk.new w1 5 _) (Nat.zero_le _) (by unfold maxLen; have := Hbig.out; omega) (bytesA_size _ _) (by simp [bv]), ⟨_, rfl, HA.out.size⟩, HA.out.trans ((below_new w1 _).mono HA.out.size)⟩
          have HX1 := Keep.mk (HX.out.alloc (.cells (bytesA (body.length + 42) fun _ => 0) 5))
          obtain ⟨g0, hg0⟩ : ∃ g0, Keep (g0 = w1.heap.size) := ⟨_, ⟨rfl⟩⟩
          rw [← hg0.out] at HF0 ⊢
          generalize w1.alloc (.cells (bytesA (body.length + 42) fun _ => 0) 5) = w2 at *
          clear HX c0 c1 c2 hg0
          go_wp2_with (first | (at_builtin; refine wpList_appS rfl _ _ rfl _ [] _ rfl rfl HF0.out.1 (by decide) ?_; intro v3 w3 hp; refine Hid.out ?_))
          refine hid_in ?_
          have HF1 := Keep.mk (HF0.out.app hp)
          have HX2 := Keep.mk (app_blk hp HF0.out.1 HX1.out)
          clear hp HF0 HX1
          have c0 : w3.cell? ⟨w.heap.size, 0, none⟩ = some (.int .i64 f) := by rw [HX2.out.cell]; rfl
          have c1 : w3.cell? ⟨w.heap.size, 1, none⟩ = some (.int .i64 t) := by rw [HX2.out.cell]; rfl
          have hfm : f % 256 = f := by have := Hf.out; omega
          have htm : t % 256 = t := by have := Ht.out; omega
          obtain ⟨sz3, hs3⟩ : ∃ sz3, Keep (sz3 = w3.heap.size) := ⟨_, ⟨rfl⟩⟩
          have HR4 := Keep.mk (own_done w3 [f, t] (by simp)).row
          have HB4 := Keep.mk (below_new w3 (.cells #[.int .u8 f, .int .u8 t] 5))
          have HF4 := Keep.mk (HF1.out.later HB4.out)
          have HX4 := Keep.mk (HX2.out.alloc (.cells #[.int .u8 f, .int .u8 t] 5))
          go_wp2_with (first | (at_builtin; refine wpList_app rfl _ _ rfl _ _ _ [f, t] rfl rfl HF4.out.1 HR4.out (by simp only [List.length_append, List.length_cons, List.length_nil]; decide) ?_; intro v5 w5 hp; refine Hid.out ?_))
          refine hid_in ?_
          have HF5 := Keep.mk (HF4.out.app hp)
          have HX5 := Keep.mk (app_blk hp HF4.out.1 HX4.out)
          clear hp HF1 HF4 HX2 HX4 c0 c1 HR4 HB4 hs3
          clear hfm htm
          obtain ⟨n0, hn0⟩ : ∃ n0, (body.length : Int) % 256 = n0 := ⟨_, rfl⟩
          obtain ⟨n1, hn1⟩ : ∃ n1, (body.length : Int) / 256 % 256 = n1 := ⟨_, rfl⟩
          obtain ⟨n2, hn2⟩ : ∃ n2, (body.length : Int) / 65536 = n2 := ⟨_, rfl⟩
          obtain ⟨n3, hn3⟩ : ∃ n3, (body.length : Int) / 16777216 = n3 := ⟨_, rfl⟩
          have Hhh : Keep ([] ++ lst { data := #[80, 76, 69, 49] } ++ [f, t] ++ [n0, n1, n2, n3] = hdrL f t body.length) := ⟨by
            unfold hdrL
            rw [hn0, hn1, hn2, hn3, show n2 % 256 = n2 by have := Hbig.out; omega, show n3 % 256 = n3 by have := Hbig.out; omega]
            rfl⟩
          have HR6 := Keep.mk (own_done w5 [n0, n1, n2, n3] (by simp)).row
          have HB6 := Keep.mk (below_new w5 (.cells #[.int .u8 n0, .int .u8 n1, .int .u8 n2, .int .u8 n3] 5))
          have HF6 := Keep.mk (HF5.out.later HB6.out)
          have HX6 := Keep.mk (HX5.out.alloc (.cells #[.int .u8 n0, .int .u8 n1, .int .u8 n2, .int .u8 n3] 5))
          go_wp2_with (first | (at_builtin; refine wpList_app rfl _ _ rfl _ _ _ [n0, n1, n2, n3] rfl rfl HF6.out.1 HR6.out (by simp only [List.length_append, List.length_cons, List.length_nil]; decide) ?_; intro v7 w7 hp; refine Hid.out ?_))
          refine hid_in ?_
          have HF7 := Keep.mk (HF6.out.app hp)
          have HX7 := Keep.mk (app_blk hp HF6.out.1 HX6.out)
          rw [Hhh.out] at HF7
          clear hp HF5 HF6 HX5 HX6 HR6 HB6 Hhh hn0 hn1 hn2 hn3
          have c2 : w7.cell? ⟨w.heap.size, 2, none⟩ = some (.slice xa body.length xc) := by rw [HX7.out.cell]; rfl
          go_wp2_with (first | (at_builtin; refine wpList_app rfl _ _ rfl _ _ _ body rfl rfl HF7.out.1 (HRb.out.below HF7.out.2.2) (by have := Hbig.out; show (hdrL f t body.length).length + _ ≤ _; rw [show (hdrL f t body.length).length = 10 from rfl]; omega) ?_; intro v8 w8 hp; refine Hid.out ?_))
          refine hid_in ?_
          have HF8 := Keep.mk (HF7.out.app hp)
          rw [show hdrL f t body.length ++ body = sealB f t body from rfl] at HF8
          obtain ⟨L, hL⟩ : ∃ L, Keep (L = sealB f t body) := ⟨_, ⟨rfl⟩⟩
          rw [← hL.out] at HF8
          have HLl : Keep (L.length ≤ 2097162) := ⟨by rw [hL.out, sealB_len]; have := Hbig.out; omega⟩
          clear hp HF7 HX7 c2
          go_wp2_with fail
          refine (mac_ok _ v8 key L w8 (HRk.out.below HF8.out.2.2) HF8.out.1.row HKl.out (by have := HLl.out; omega)).mono ?_
          rintro e w9 ⟨rfl, hb9⟩
          have HF9 := Keep.mk (HF8.out.later hb9)
          clear hb9 HF8
          obtain ⟨c, hc⟩ : ∃ c, Keep (c = macP key L) := ⟨_, ⟨rfl⟩⟩
          rw [← hc.out]
          obtain ⟨ca, Hca⟩ : ∃ ca, Keep (ca = bytesA 32 c) := ⟨_, ⟨rfl⟩⟩
          have HIca : Keep ((Try.prog.info? 26).map (·.size) = some ca.size) := ⟨by rw [Hca.out]; exact Try.size26B _⟩
          have HZca : Keep ((bytesA 32 fun _ => 0).size = ca.size) := ⟨by rw [Hca.out]; exact bytesA_sizes _ _ _⟩
          have HOca : Keep (ca.all (·.oneCell') = true) := ⟨by rw [Hca.out]; exact bytesA_one _ _⟩
          rw [← Hca.out]
          go_wp2_with (first | (refine wpList_new rfl 26 rfl _ Try.new26 ?_; refine Hid.out ?_))
          refine hid_in ?_
          have HN10 := Keep.mk (Blk.new w9 26 (bytesA 32 fun _ => 0))
          have HA10 := Keep.mk (below_new w9 (.cells (bytesA 32 fun _ => 0) 26))
          generalize w9.alloc (.cells (bytesA 32 fun _ => 0) 26) = w10 at *
          go_wp2_with (first | (refine wpList_store_row rfl 26 (.tmp 8) (.tmp 66) rfl w9.heap.size ca rfl rfl 26 (bytesA 32 fun _ => 0) HN10.out HIca.out HZca.out HOca.out ?_; refine Hid.out ?_))
          refine hid_in ?_
          have HN11 := Keep.mk (HN10.out.setRow ca)
          have HF11 := Keep.mk (HF9.out.later (below_setRow HA10.out (Nat.le_refl _) ca))
          generalize w10.setRow w9.heap.size ca = w11 at *
          clear HN10 HA10 HF9
          have HR11 : Keep (RowAt w11 (.slice (some ⟨w9.heap.size, 0, none⟩) 32 32) (hl 32 c)) := ⟨row_arr (by rw [← Hca.out]; exact HN11.out)⟩
          go_wp2_with (first | (at_builtin; refine wpList_app rfl _ _ rfl _ _ L (hl 32 c) rfl rfl HF11.out.1 HR11.out (by rw [hl_len]; have := HLl.out; omega) ?_; intro v12 w12 hp; refine Hid.out ?_))
          refine hid_in ?_
          have HF12 := Keep.mk (HF11.out.app hp)
          have hsl : L ++ hl 32 c = sealL key f t body := by rw [hc.out, hL.out]; rfl
          rw [hsl] at HF12
          clear hp HF11 HR11 hsl
          go_wp2
          go_ret2
          obtain ⟨k, hk, hkw⟩ := HF12.out.2.1
          exact ⟨_, _, by rw [HW.out]; rfl, HF12.out.2.2, HF12.out.1.tail, fun j hj => by rw [hk] at hj; injection hj with hj; omega, .inl ⟨HW.out, rfl⟩⟩
      · have HT : Keep (false = decide (okN t)) := ⟨(decide_eq_false ht).symm⟩
        have HW : Keep (W = 1) := ⟨by rw [hW.out]; unfold sealW; rw [if_pos (.inr (.inr ht))]⟩
        clear hf ht hW hk32
        go_enter Try.func15, Try.ntmps15
        go_wp2_with (first | (refine wpList_boxA rfl 31 (.tmp 1) rfl _ rfl ?_; refine Hid.out ?_))
        refine hid_in ?_
        generalize w.alloc (.cells #[.int .i64 f, .int .i64 t, .slice xa body.length xc] 31) = w1 at *
        have c0 : w1.cell? ⟨w.heap.size, 0, none⟩ = some (.int .i64 f) := by rw [HX.out.cell]; rfl
        have c1 : w1.cell? ⟨w.heap.size, 1, none⟩ = some (.int .i64 t) := by rw [HX.out.cell]; rfl
        have c2 : w1.cell? ⟨w.heap.size, 2, none⟩ = some (.slice xa body.length xc) := by rw [HX.out.cell]; rfl
        go_wp2_with fail
        refine (isRep_any f _ HF.out w1).mono ?_
        rintro e w2 ⟨rfl, hw2⟩
        rw [hw2]
        clear hw2
        go_wp2_with fail
        refine (isRep_any t _ HT.out w1).mono ?_
        rintro e w2 ⟨rfl, hw2⟩
        rw [hw2]
        clear hw2
        go_wp2
        go_ret2
        exact ⟨.slice none 0 0, [], by rw [HW.out]; rfl, HA.out, .inl ⟨rfl, rfl⟩, by simp [Value.ownBlock], .inr ⟨by rw [HW.out]; decide, rfl⟩⟩
    · have HF : Keep (false = decide (okN f)) := ⟨(decide_eq_false hf).symm⟩
      have HW : Keep (W = 1) := ⟨by rw [hW.out]; unfold sealW; rw [if_pos (.inr (.inl hf))]⟩
      clear hf hW hk32
      go_enter Try.func15, Try.ntmps15
      go_wp2_with (first | (refine wpList_boxA rfl 31 (.tmp 1) rfl _ rfl ?_; refine Hid.out ?_))
      refine hid_in ?_
      generalize w.alloc (.cells #[.int .i64 f, .int .i64 t, .slice xa body.length xc] 31) = w1 at *
      have c0 : w1.cell? ⟨w.heap.size, 0, none⟩ = some (.int .i64 f) := by rw [HX.out.cell]; rfl
      have c1 : w1.cell? ⟨w.heap.size, 1, none⟩ = some (.int .i64 t) := by rw [HX.out.cell]; rfl
      have c2 : w1.cell? ⟨w.heap.size, 2, none⟩ = some (.slice xa body.length xc) := by rw [HX.out.cell]; rfl
      go_wp2_with fail
      refine (isRep_any f _ HF.out w1).mono ?_
      rintro e w2 ⟨rfl, hw2⟩
      rw [hw2]
      clear hw2
      go_wp2
      go_ret2
      exact ⟨.slice none 0 0, [], by rw [HW.out]; rfl, HA.out, .inl ⟨rfl, rfl⟩, by simp [Value.ownBlock], .inr ⟨by rw [HW.out]; decide, rfl⟩⟩
  · have hk32' : ((key.length : Int) == 32) = false := by simp; omega
    have hkI : ¬ (key.length : Int) = 32 := by omega
    have HW : Keep (W = 1) := ⟨by rw [hW.out]; unfold sealW; rw [if_pos (.inl hk32)]⟩
    clear hW hk32
    go_enter Try.func15, Try.ntmps15
    go_wp2_with (first | (refine wpList_boxA rfl 31 (.tmp 1) rfl _ rfl ?_; refine Hid.out ?_))
    refine hid_in ?_
    generalize w.alloc (.cells #[.int .i64 f, .int .i64 t, .slice xa body.length xc] 31) = w1 at *
    have c0 : w1.cell? ⟨w.heap.size, 0, none⟩ = some (.int .i64 f) := by rw [HX.out.cell]; rfl
    have c1 : w1.cell? ⟨w.heap.size, 1, none⟩ = some (.int .i64 t) := by rw [HX.out.cell]; rfl
    have c2 : w1.cell? ⟨w.heap.size, 2, none⟩ = some (.slice xa body.length xc) := by rw [HX.out.cell]; rfl
    go_wp2
    go_ret2
    exact ⟨.slice none 0 0, [], by rw [HW.out]; rfl, HA.out, .inl ⟨rfl, rfl⟩, by simp [Value.ownBlock], .inr ⟨by rw [HW.out]; decide, rfl⟩⟩
end Go.Proofs.Ytpakaladpdoejaa
