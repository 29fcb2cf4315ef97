import Derived.Test.YtpakaladpdoejaaRnd
import Derived.Test.YtpakaladpdoejaaKitE
namespace Go.Proofs.Ytpakaladpdoejaa
open Go.RowKit


set_option maxRecDepth 4000 in
set_option maxHeartbeats 4000000 in
theorem back_any (hM : MacOk) (hS : SealOk) (hO : OpenOk) (vk vb vm : Value) (key body more : List Int) (f t pl cu : Int) (by_ : Int) (w : World) (hk : RowAt w vk key) (hb : RowAt w vb body) (hm : RowAt w vm more)
    (hkl : key.length ≤ 140737488351232) (hbl : body.length ≤ 140737488351232) (hml : more.length ≤ 140737488351232) (hby : Byts body) (hbm : Byts more) (hy0 : 0 ≤ by_ ∧ by_ < 256) :
    Calls Try.prog 6 #[vk, .agg #[.int .i64 f, .int .i64 t, vb], .int .i64 pl, .int .u8 by_, .int .i64 cu, vm] w fun e w' => e = .returned (.bool true) ∧ Below w.heap.size w w' := by
  have HF := Keep.mk (fun wx => fixed3_any hM wx)
  have HS := Keep.mk hS
  have HO := Keep.mk hO
  have HMk := Keep.mk hM
  have HRk := Keep.mk hk
  have HRb := Keep.mk hb
  have HRm := Keep.mk hm
  have HKl := Keep.mk hkl
  have HBl := Keep.mk hbl
  have HMl := Keep.mk hml
  have HBy := Keep.mk hby
  have HBm := Keep.mk hbm
  have HY0 := Keep.mk hy0
  obtain ⟨ka, kc, rfl⟩ := row_form hk
  obtain ⟨xa, xc, rfl⟩ := row_form hb
  obtain ⟨ma, mc, rfl⟩ := row_form hm
  have HA := Keep.mk (below_new w (.cells #[.int .i64 f, .int .i64 t, .slice xa body.length xc] 31))
  have HX := Keep.mk (Blk.new w 31 #[.int .i64 f, .int .i64 t, .slice xa body.length xc])
  clear hM hS hO hk hb hm hkl hbl hml hby hbm hy0
  go_enter Try.func6, Try.ntmps6
  go_wp2_with (first | (refine wpList_boxA rfl 31 (.tmp 1) rfl _ rfl ?_; refine Hid.out ?_))
  refine hid_in ?_
  generalize w.alloc (.cells #[.int .i64 f, .int .i64 t, .slice xa body.length xc] 31) = w1 at *
  go_wp2_with fail
  refine (HF.out w1).mono ?_
  rintro e w2 ⟨rfl, hb2⟩
  have HB2 := Keep.mk (HA.out.trans (hb2.mono HA.out.size))
  have HX2 := Keep.mk (HX.out.below hb2 HX.out.lt)
  clear hb2 HA HX HF
  have c0 : w2.cell? ⟨w.heap.size, 0, none⟩ = some (.int .i64 f) := by rw [HX2.out.cell]; rfl
  have c1 : w2.cell? ⟨w.heap.size, 1, none⟩ = some (.int .i64 t) := by rw [HX2.out.cell]; rfl
  have c2 : w2.cell? ⟨w.heap.size, 2, none⟩ = some (.slice xa body.length xc) := by rw [HX2.out.cell]; rfl
  go_wp2_with fail
  refine (HS.out _ _ key f t body w2 (HRk.out.below HB2.out) (HRb.out.below HB2.out) HKl.out HBl.out HBy.out).mono ?_
  rintro e w3 ⟨v, l, rfl, hb3, hv, _, hcase⟩
  clear c0 c1 c2
  have HV3 := Keep.mk hv
  have HC := Keep.mk hcase
  have HB3 := Keep.mk (HB2.out.trans (hb3.mono HB2.out.size))
  have HX3 := Keep.mk (HX2.out.below hb3 HX2.out.lt)
  clear HB2 HX2
  obtain ⟨ya, yn, yc, rfl⟩ := hv.sl
  have hyn : yn = l.length := hv.plain.2.2.2
  subst hyn
  obtain ⟨W, hW⟩ : ∃ W, Keep (W = sealW key f t body) := ⟨_, ⟨rfl⟩⟩
  rw [← hW.out]
  clear hb3 hv hcase HS
  rcases HC.out with ⟨h0, hle⟩ | ⟨h0, rfl⟩
  case inr =>
    rw [← hW.out] at h0
    have h14 : W = 1 ∨ W = 4 := by
      rw [hW.out] at h0 ⊢
      unfold sealW at h0 ⊢
      split
      · exact .inl rfl
      · rename_i hn
        rw [if_neg hn] at h0
        split
        · exact .inr rfl
        · rename_i hn2
          rw [if_neg hn2] at h0
          exact absurd rfl h0
    clear HC h0 hW
    rcases h14 with rfl | rfl
    all_goals
      go_wp2
      go_ret
      exact ⟨rfl, HB3.out⟩
  case inl =>
    obtain ⟨hk32, hokf, hokt, hb20⟩ := sealW_0 h0
    obtain ⟨ho1, ho2, ho3⟩ := open_seal h0
    rw [← hle] at ho1 ho2 ho3
    have hll : l.length = body.length + 42 := by rw [hle]; exact sealL_len _ _ _ _
    have hW0 : W = 0 := by rw [hW.out]; exact h0
    subst hW0
    have H1 : Keep (openE key l = (0, 0) ∧ openB l = body ∧ l.getD 4 0 = f ∧ l.getD 5 0 = t) := ⟨ho1, ho3, by rw [hle]; rfl, by rw [hle]; rfl⟩
    have HLl : Keep (l.length = body.length + 42) := ⟨hll⟩
    have Hb20 : Keep (body.length ≤ 2097152) := ⟨hb20⟩
    have HLb : Keep (Byts l) := ⟨by
      rw [hle]; unfold sealL sealB
      refine Byts.app (Byts.app ?_ HBy.out) ?_
      · intro c hc
        unfold hdrL at hc
        have h3 := hokf.1; have h4 := hokf.2; have h5 := hokt.1; have h6 := hokt.2
        simp only [List.mem_cons, List.not_mem_nil, or_false] at hc
        rcases hc with rfl | rfl | rfl | rfl | rfl | rfl | rfl | rfl | rfl | rfl <;> omega
      · intro c hc
        unfold hl at hc
        simp only [List.mem_map, List.mem_range] at hc
        obtain ⟨i, hi, rfl⟩ := hc
        exact shaP_rng _ i⟩
    have hkI : (key.length : Int) = 32 := by omega
    have hlI : (l.length : Int) = (body.length : Int) + 42 := by omega
    have hb20' : (body.length : Int) ≤ 2097152 := by omega
    clear HC h0 hle hW ho1 ho2 ho3 hokf hokt hk32 hll hb20
    have c2 : w3.cell? ⟨w.heap.size, 2, none⟩ = some (.slice xa body.length xc) := by rw [HX3.out.cell]; rfl
    go_wp2_with fail
    refine (HO.out _ _ key l w3 (HRk.out.below HB3.out) HV3.out.row HKl.out (by have := HLl.out; have := Hb20.out; omega) HLb.out).mono ?_
    rintro e w4 ⟨v4, l4, f4, t4, er4, rfl, hb4, hv4, _, hcase4⟩
    have HB4 := Keep.mk (HB3.out.trans (hb4.mono HB3.out.size))
    have HV4 := Keep.mk (HV3.out.grown (Grown.below (S := fun _ => False) hb4) fun _ _ h => h)
    have HX4 := Keep.mk (HX3.out.below hb4 HX3.out.lt)
    clear HB3 HV3 HX3
    obtain ⟨a4, n4, c4, rfl⟩ := hv4.sl
    have hn4 : n4 = l4.length := hv4.plain.2.2.2
    subst hn4
    have HV4x := Keep.mk hv4
    have hc4 : er4 = .nilIface ∧ f4 = f ∧ t4 = t ∧ l4 = body := by
      rcases hcase4 with ⟨_, h1, h2, h3, h4⟩ | ⟨h, _⟩
      · exact ⟨h1, h2.trans H1.out.2.2.1, h3.trans H1.out.2.2.2, h4.trans H1.out.2.1⟩
      · exact absurd (by rw [H1.out.1]) h
    obtain ⟨rfl, rfl, rfl, rfl⟩ := hc4
    clear hb4 hv4 hcase4 c2 hlI
    go_wp2_with (first | (refine wpList_new rfl 31 rfl _ Try.new31 ?_; refine Hid.out ?_))
    refine hid_in ?_
    have HNb := Keep.mk (Blk.new w4 31 #[.int .i64 0, .int .i64 0, .slice none 0 0])
    have HAb := Keep.mk (below_new w4 (.cells #[.int .i64 0, .int .i64 0, .slice none 0 0] 31))
    generalize w4.alloc (.cells #[.int .i64 0, .int .i64 0, .slice none 0 0] 31) = w5 at *
    have n0 : w5.cell? ⟨w4.heap.size, 0, none⟩ = some (.int .i64 0) := by rw [HNb.out.cell]; rfl
    have n1 : w5.cell? ⟨w4.heap.size, 1, none⟩ = some (.int .i64 0) := by rw [HNb.out.cell]; rfl
    have n2 : w5.cell? ⟨w4.heap.size, 2, none⟩ = some (.slice none 0 0) := by rw [HNb.out.cell]; rfl
    have m0 := HNb.out.frozen 0
    have m1 := HNb.out.frozen 1
    have m2 := HNb.out.frozen 2
    have hb6 := ((HAb.out.setCell (p := ⟨w4.heap.size, 0, none⟩) (Nat.le_refl _) (.int .i64 f4)).setCell (p := ⟨w4.heap.size, 1, none⟩) (Nat.le_refl _) (.int .i64 t4)).setCell (p := ⟨w4.heap.size, 2, none⟩) (Nat.le_refl _) (.slice a4 l4.length c4)
    have HN6 : Keep (Blk (((w5.setCell ⟨w4.heap.size, 0, none⟩ (.int .i64 f4)).setCell ⟨w4.heap.size, 1, none⟩ (.int .i64 t4)).setCell ⟨w4.heap.size, 2, none⟩ (.slice a4 l4.length c4)) w4.heap.size 31 #[.int .i64 f4, .int .i64 t4, .slice a4 l4.length c4]) := ⟨((HNb.out.set 0 _).set 1 _).set 2 _⟩
    have HB6 := Keep.mk (HB4.out.trans (hb6.mono HB4.out.size))
    have HV6 := Keep.mk (HV4.out.grown (Grown.below (S := fun _ => False) hb6) fun _ _ h => h)
    have HX6 := Keep.mk (HX4.out.below hb6 HX4.out.lt)
    clear HB4 HV4 HX4
    have HV6x := Keep.mk (HV4x.out.grown (Grown.below (S := fun _ => False) hb6) fun _ _ h => h)
    have e2 : (((w5.setCell ⟨w4.heap.size, 0, none⟩ (.int .i64 f4)).setCell ⟨w4.heap.size, 1, none⟩ (.int .i64 t4)).setCell ⟨w4.heap.size, 2, none⟩ (.slice a4 l4.length c4)).cell? ⟨w.heap.size, 2, none⟩ = some (.slice xa l4.length xc) := by rw [HX6.out.cell]; rfl
    clear hb6 HV4x HAb HNb
    go_wp2_with fail
    generalize ((w5.setCell ⟨w4.heap.size, 0, none⟩ (.int .i64 f4)).setCell ⟨w4.heap.size, 1, none⟩ (.int .i64 t4)).setCell ⟨w4.heap.size, 2, none⟩ (.slice a4 l4.length c4) = w6 at *
    have e0 : w6.cell? ⟨w.heap.size, 0, none⟩ = some (.int .i64 f4) := by rw [HX6.out.cell]; rfl
    have e1 : w6.cell? ⟨w.heap.size, 1, none⟩ = some (.int .i64 t4) := by rw [HX6.out.cell]; rfl
    have g0 : w6.cell? ⟨w4.heap.size, 0, none⟩ = some (.int .i64 f4) := by rw [HN6.out.cell]; rfl
    have g1 : w6.cell? ⟨w4.heap.size, 1, none⟩ = some (.int .i64 t4) := by rw [HN6.out.cell]; rfl
    refine (same3_any _ _ l4 l4 w6 HV6x.out.row (HRb.out.below HB6.out) true (by rw [beq_toListBytes, beq_self_eq_true])).mono ?_
    rintro e w7 ⟨rfl, hw7⟩
    rw [hw7]
    clear hw7 n0 n1 n2 m0 m1 m2 HN6 HV6x
    go_wp2_with fail
    refine (round_any pl l.length w6 (by have := HLl.out; omega) (by have := HLl.out; have := Hb20.out; omega)).mono ?_
    rintro e w8 ⟨r, hr, rfl, hw8⟩
    rw [hw8]
    have Hr := Keep.mk hr
    clear hw8 hr e0 e1 e2 g0 g1 HX6
    have HF7 := Keep.mk (FreshB.empty w6)
    have HVlt : Keep (∀ k, (Value.slice ya l.length yc).ownBlock = some k → k < w6.heap.size) := ⟨HV6.out.lt⟩
    have Hw6 : Keep (w.heap.size ≤ w6.heap.size) := ⟨HB6.out.size⟩
    have HR7 := Keep.mk ((HV6.out.row).below (below_new w6 (.cells #[] 5)))
    go_wp2_with (first | (at_builtin; refine wpList_app rfl (.tmp 103) (.tmp 104) rfl (.slice (some ⟨w6.heap.size, 0, none⟩) 0 0) _ [] l rfl rfl HF7.out.1 HR7.out (by have := HLl.out; have := Hb20.out; simp; omega) ?_; intro v8 w8 hp; refine Hid.out ?_))
    refine hid_in ?_
    have HC8 := Keep.mk (HF7.out.app hp)
    rw [List.nil_append] at HC8
    have hbl8 := HC8.out.2.2
    have HB8 := Keep.mk (HB6.out.trans (hbl8.mono HB6.out.size))
    have HV8 := Keep.mk (HV6.out.grown (Grown.below (S := fun _ => False) hbl8) fun _ _ h => h)
    clear HB6 HV6
    obtain ⟨cg, cc, hvc, hcg⟩ := HC8.out.sl
    subst hvc
    clear hp HF7 HR7 hbl8
    obtain ⟨z, hz⟩ : ∃ z, Keep (z = l.getD r 0) := ⟨_, ⟨rfl⟩⟩
    have hrI : (r : Int) < (l.length : Int) := by have := Hr.out; omega
    have hx := HC8.out.1.cells r Hr.out
    rw [← hz.out] at hx
    obtain ⟨zc, zf⟩ := hx
    obtain ⟨zx, hzx⟩ : ∃ zx, bits .xor .u8 z by_ = zx := ⟨_, rfl⟩
    have HC9 := Keep.mk (HC8.out.set (t := r) zx)
    have hcg' : w.heap.size ≤ cg := Nat.le_trans Hw6.out hcg
    have HV9 := Keep.mk (HV8.out.grown (Grown.setCell w8 cg r (.int .u8 zx) (S := fun k => k = cg) fun _ => rfl) fun k hk e => by have := HVlt.out k hk; omega)
    have HB9 := Keep.mk (HB8.out.setCell (p := ⟨cg, r, none⟩) hcg' (.int .u8 zx))
    obtain ⟨C, hC⟩ : ∃ C, Keep (C = l.set r zx) := ⟨_, ⟨rfl⟩⟩
    rw [← hC.out] at HC9
    have HCl : Keep (C.length = l.length) := ⟨by rw [hC.out, List.length_set]⟩
    have Hzr : Keep (0 ≤ z ∧ z < 256) := ⟨by
      rw [hz.out, List.getD_eq_getElem?_getD, List.getElem?_eq_getElem Hr.out, Option.getD_some]
      exact HLb.out _ (List.getElem_mem _)⟩
    have HCb : Keep (Byts C) := ⟨fun c hc => by
      rw [hC.out] at hc
      rcases List.mem_or_eq_of_mem_set hc with h | h
      · exact HLb.out c h
      · rw [h, ← hzx]; exact xor_rng _ _ Hzr.out HY0.out⟩
    have HC0 : Keep (by_ = 0 → C = l) := ⟨fun h => by
      rw [hC.out, ← hzx, h, xor_zero z Hzr.out, hz.out, List.getD_eq_getElem?_getD, List.getElem?_eq_getElem Hr.out, Option.getD_some]
      exact List.set_getElem_self _⟩
    have HCr := Keep.mk hC.out
    clear HV8 HB8 HC8 Hzr hC hz
    go_wp2_with fail
    generalize w8.setCell ⟨cg, r, none⟩ (.int .u8 zx) = w9 at *
    have HQ9 := Keep.mk HC9.out.1
    clear zc zf hzx HC9 hrI hcg
    refine (HO.out _ _ key C w9 (HRk.out.below HB9.out) HQ9.out.row HKl.out (by rw [HCl.out]; have := HLl.out; have := Hb20.out; omega) HCb.out).mono ?_
    rintro e w10 ⟨vC, lC, fC, tC, erC, rfl, hb10, hvC, _, hcaseC⟩
    have HB10 := Keep.mk (HB9.out.trans (hb10.mono HB9.out.size))
    have HV10 := Keep.mk (HV9.out.grown (Grown.below (S := fun _ => False) hb10) fun _ _ h => h)
    have HQ10 := Keep.mk (HQ9.out.grown (Grown.below (S := fun _ => False) hb10) fun _ _ h => h)
    clear HB9 HV9 HQ9
    obtain ⟨aC, nC, cC, rfl⟩ := hvC.sl
    have hnC : nC = lC.length := hvC.plain.2.2.2
    subst hnC
    have HcC := Keep.mk hcaseC
    clear hb10 hvC hcaseC
    rcases HcC.out with ⟨hc0, rfl, -, -, -⟩ | ⟨hc0, ⟨TC, xC, rfl⟩, -, -, -⟩
    · have Hc0 : Keep ((openE key C).1 = 0) := ⟨hc0⟩
      clear hc0 HcC
      go_wp2_with (first | (refine wpList_new rfl 31 rfl _ Try.new31 ?_; refine Hid.out ?_))
      refine hid_in ?_
      have HNb := Keep.mk (Blk.new w10 31 #[.int .i64 0, .int .i64 0, .slice none 0 0])
      have HAb := Keep.mk (below_new w10 (.cells #[.int .i64 0, .int .i64 0, .slice none 0 0] 31))
      generalize w10.alloc (.cells #[.int .i64 0, .int .i64 0, .slice none 0 0] 31) = w11 at *
      have n0 : w11.cell? ⟨w10.heap.size, 0, none⟩ = some (.int .i64 0) := by rw [HNb.out.cell]; rfl
      have n1 : w11.cell? ⟨w10.heap.size, 1, none⟩ = some (.int .i64 0) := by rw [HNb.out.cell]; rfl
      have n2 : w11.cell? ⟨w10.heap.size, 2, none⟩ = some (.slice none 0 0) := by rw [HNb.out.cell]; rfl
      have m0 := HNb.out.frozen 0
      have m1 := HNb.out.frozen 1
      have m2 := HNb.out.frozen 2
      have hbn := ((HAb.out.setCell (p := ⟨w10.heap.size, 0, none⟩) (Nat.le_refl _) (.int .i64 fC)).setCell (p := ⟨w10.heap.size, 1, none⟩) (Nat.le_refl _) (.int .i64 tC)).setCell (p := ⟨w10.heap.size, 2, none⟩) (Nat.le_refl _) (.slice aC lC.length cC)
      have HB12 := Keep.mk (HB10.out.trans (hbn.mono HB10.out.size))
      have HV12 := Keep.mk (HV10.out.grown (Grown.below (S := fun _ => False) hbn) fun _ _ h => h)
      have HQ12 := Keep.mk (HQ10.out.grown (Grown.below (S := fun _ => False) hbn) fun _ _ h => h)
      clear HB10 HV10 HQ10
      clear HAb HNb hbn
      go_wp2_with fail
      generalize ((w11.setCell ⟨w10.heap.size, 0, none⟩ (.int .i64 fC)).setCell ⟨w10.heap.size, 1, none⟩ (.int .i64 tC)).setCell ⟨w10.heap.size, 2, none⟩ (.slice aC lC.length cC) = w12 at *
      clear n0 n1 n2 m0 m1 m2
      refine (round_any cu l.length w12 (by have := HLl.out; omega) (by have := HLl.out; have := Hb20.out; omega)).mono ?_
      rintro e w13 ⟨r2, hr2, rfl, hw13⟩
      rw [hw13]
      clear hw13
      obtain ⟨vs, hsl, hrs⟩ := sub_any _ l w12 HV12.out.row r2 (by omega)
      have HRs := Keep.mk (hrs _ HV12.out.row)
      have Hr2 := Keep.mk hr2
      have Htk : Keep ((l.take r2).length ≤ 140737500000000 ∧ Byts (l.take r2)) := ⟨by
        refine ⟨by rw [List.length_take]; have := HLl.out; have := Hb20.out; omega, fun c hc => HLb.out c (List.mem_of_mem_take hc)⟩⟩
      clear hrs hr2
      go_wp2_with fail
      clear hsl
      refine (HO.out _ _ key (l.take r2) w12 (HRk.out.below HB12.out) HRs.out HKl.out Htk.out.1 Htk.out.2).mono ?_
      rintro e w14 ⟨vS, lS, fS, tS, erS, rfl, hb14, hvS, _, hcaseS⟩
      have HB14 := Keep.mk (HB12.out.trans (hb14.mono HB12.out.size))
      have HV14 := Keep.mk (HV12.out.grown (Grown.below (S := fun _ => False) hb14) fun _ _ h => h)
      have HQ14 := Keep.mk (HQ12.out.grown (Grown.below (S := fun _ => False) hb14) fun _ _ h => h)
      clear HB12 HV12 HQ12
      obtain ⟨aS, nS, cS, rfl⟩ := hvS.sl
      have hnS : nS = lS.length := hvS.plain.2.2.2
      subst hnS
      have hcS : ∃ T x, erS = .iface T x := by
        rcases hcaseS with ⟨h, _⟩ | ⟨_, h, _⟩
        · exact absurd h (open_cut (by rw [H1.out.1]) r2 Hr2.out)
        · exact h
      obtain ⟨TS, xS, rfl⟩ := hcS
      clear hb14 hvS hcaseS HRs Htk Hr2
      go_wp2_with (first | (refine wpList_new rfl 31 rfl _ Try.new31 ?_; refine Hid.out ?_))
      refine hid_in ?_
      have HNb := Keep.mk (Blk.new w14 31 #[.int .i64 0, .int .i64 0, .slice none 0 0])
      have HAb := Keep.mk (below_new w14 (.cells #[.int .i64 0, .int .i64 0, .slice none 0 0] 31))
      generalize w14.alloc (.cells #[.int .i64 0, .int .i64 0, .slice none 0 0] 31) = w15 at *
      have n0 : w15.cell? ⟨w14.heap.size, 0, none⟩ = some (.int .i64 0) := by rw [HNb.out.cell]; rfl
      have n1 : w15.cell? ⟨w14.heap.size, 1, none⟩ = some (.int .i64 0) := by rw [HNb.out.cell]; rfl
      have n2 : w15.cell? ⟨w14.heap.size, 2, none⟩ = some (.slice none 0 0) := by rw [HNb.out.cell]; rfl
      have m0 := HNb.out.frozen 0
      have m1 := HNb.out.frozen 1
      have m2 := HNb.out.frozen 2
      have hbn := ((HAb.out.setCell (p := ⟨w14.heap.size, 0, none⟩) (Nat.le_refl _) (.int .i64 fS)).setCell (p := ⟨w14.heap.size, 1, none⟩) (Nat.le_refl _) (.int .i64 tS)).setCell (p := ⟨w14.heap.size, 2, none⟩) (Nat.le_refl _) (.slice aS lS.length cS)
      have HB16 := Keep.mk (HB14.out.trans (hbn.mono HB14.out.size))
      have HV16 := Keep.mk (HV14.out.grown (Grown.below (S := fun _ => False) hbn) fun _ _ h => h)
      have HQ16 := Keep.mk (HQ14.out.grown (Grown.below (S := fun _ => False) hbn) fun _ _ h => h)
      clear HB14 HV14 HQ14
      clear HAb HNb hbn
      have hszn : (((w15.setCell ⟨w14.heap.size, 0, none⟩ (.int .i64 fS)).setCell ⟨w14.heap.size, 1, none⟩ (.int .i64 tS)).setCell ⟨w14.heap.size, 2, none⟩ (.slice aS lS.length cS)).heap.size = w15.heap.size := by simp
      have h17 := FreshB.empty (((w15.setCell ⟨w14.heap.size, 0, none⟩ (.int .i64 fS)).setCell ⟨w14.heap.size, 1, none⟩ (.int .i64 tS)).setCell ⟨w14.heap.size, 2, none⟩ (.slice aS lS.length cS))
      rw [hszn] at h17
      have HF17 := Keep.mk h17
      have HR17 := Keep.mk ((HV16.out.row).below (below_new (((w15.setCell ⟨w14.heap.size, 0, none⟩ (.int .i64 fS)).setCell ⟨w14.heap.size, 1, none⟩ (.int .i64 tS)).setCell ⟨w14.heap.size, 2, none⟩ (.slice aS lS.length cS)) (.cells #[] 5)))
      clear hszn h17
      have SZ16 : Keep (w.heap.size ≤ (((w15.setCell ⟨w14.heap.size, 0, none⟩ (.int .i64 fS)).setCell ⟨w14.heap.size, 1, none⟩ (.int .i64 tS)).setCell ⟨w14.heap.size, 2, none⟩ (.slice aS lS.length cS)).heap.size) := ⟨HB16.out.size⟩
      have VL16 : Keep (∀ k, (Value.slice ya l.length yc).ownBlock = some k → k < (((w15.setCell ⟨w14.heap.size, 0, none⟩ (.int .i64 fS)).setCell ⟨w14.heap.size, 1, none⟩ (.int .i64 tS)).setCell ⟨w14.heap.size, 2, none⟩ (.slice aS lS.length cS)).heap.size) := ⟨HV16.out.lt⟩
      have CL16 : Keep (cg < (((w15.setCell ⟨w14.heap.size, 0, none⟩ (.int .i64 fS)).setCell ⟨w14.heap.size, 1, none⟩ (.int .i64 tS)).setCell ⟨w14.heap.size, 2, none⟩ (.slice aS lS.length cS)).heap.size) := ⟨HQ16.out.lt cg rfl⟩
      go_wp2_with (first | (at_builtin; refine wpList_app rfl (.tmp 130) (.tmp 131) rfl (.slice (some ⟨w15.heap.size, 0, none⟩) 0 0) _ [] l rfl rfl HF17.out.1 HR17.out (by have := HLl.out; have := Hb20.out; simp; omega) ?_; intro v17 w17 hp; refine Hid.out ?_))
      refine hid_in ?_
      have HD17 := Keep.mk (HF17.out.app hp)
      rw [List.nil_append] at HD17
      have hb17 := HD17.out.2.2
      clear HF17 HR17 hp
      generalize ((w15.setCell ⟨w14.heap.size, 0, none⟩ (.int .i64 fS)).setCell ⟨w14.heap.size, 1, none⟩ (.int .i64 tS)).setCell ⟨w14.heap.size, 2, none⟩ (.slice aS lS.length cS) = w16 at *
      clear n0 n1 n2 m0 m1 m2
      have HB17 := Keep.mk (HB16.out.trans (hb17.mono HB16.out.size))
      have HV17 := Keep.mk (HV16.out.grown (Grown.below (S := fun _ => False) hb17) fun _ _ h => h)
      have HQ17 := Keep.mk (HQ16.out.grown (Grown.below (S := fun _ => False) hb17) fun _ _ h => h)
      clear HB16 HV16 HQ16
      clear hb17
      go_wp2_with (first | (at_builtin; refine wpList_appW rfl (.tmp 133) (.tmp 134) rfl v17 (.slice ma more.length mc) l more rfl rfl (by have := HLl.out; omega) HD17.out.1 (HRm.out.below HB17.out) (by have := HLl.out; have := Hb20.out; have := HMl.out; omega) ?_; intro v18 w18 hp; refine Hid.out ?_))
      refine hid_in ?_
      have HD18 := Keep.mk (HD17.out.app hp)
      have hb18 : Below w16.heap.size w17 w18 := by
        obtain ⟨k, hk1, hk2⟩ := HD17.out.2.1
        exact hp.grown.to_below (fun i hi e => by rw [hk1] at e; injection e with e; omega) HD17.out.2.2.size
      have Hw16 : Keep (w.heap.size ≤ w16.heap.size) := ⟨SZ16.out⟩
      have HB18 := Keep.mk (HB17.out.trans (hb18.mono Hw16.out))
      have HV18 := Keep.mk (HV17.out.grown hp.grown fun k hk e => by
        obtain ⟨k2, hk1, hk2⟩ := HD17.out.2.1
        rw [hk1] at e; injection e with e
        have := VL16.out k hk
        omega)
      have HQ18 := Keep.mk (HQ17.out.grown hp.grown fun k hk e => by
        obtain ⟨k2, hk1, hk2⟩ := HD17.out.2.1
        rw [hk1] at e; injection e with e
        simp [Value.ownBlock] at hk
        have := CL16.out
        omega)
      clear HB17 HV17 HQ17 hp hb18 HD17
      obtain ⟨D, hD⟩ : ∃ D, Keep (D = l ++ more) := ⟨_, ⟨rfl⟩⟩
      rw [← hD.out] at HD18
      have HDl : Keep (D.length ≤ 140737500000000 ∧ Byts D) := ⟨by rw [hD.out]; exact ⟨by rw [List.length_append]; have := HLl.out; have := Hb20.out; have := HMl.out; omega, Byts.app HLb.out HBm.out⟩⟩
      obtain ⟨dg, dc, hvd, _⟩ := HD18.out.sl
      subst hvd
      go_wp2_with fail
      refine (HO.out _ _ key D w18 (HRk.out.below HB18.out) HD18.out.1.row HKl.out HDl.out.1 HDl.out.2).mono ?_
      rintro e w20 ⟨vD, lD, fD, tD, erD, rfl, hb20, hvD, _, hcaseD⟩
      have HB20 := Keep.mk (HB18.out.trans (hb20.mono HB18.out.size))
      have HV20 := Keep.mk (HV18.out.grown (Grown.below (S := fun _ => False) hb20) fun _ _ h => h)
      have HQ20 := Keep.mk (HQ18.out.grown (Grown.below (S := fun _ => False) hb20) fun _ _ h => h)
      clear HB18 HV18 HQ18
      obtain ⟨aD, nD, cD, rfl⟩ := hvD.sl
      have hnD : nD = lD.length := hvD.plain.2.2.2
      subst hnD
      have HcD := Keep.mk hcaseD
      clear hb20 hvD hcaseD HD18 Hw16 SZ16 VL16 CL16
      rcases HcD.out with ⟨hd0, rfl, -, -, -⟩ | ⟨hd0, ⟨TD, xD, rfl⟩, -, -, -⟩
      · have HmD := Keep.mk (open_more (key := key) (b := l) (more := more) (by rw [H1.out.1]))
        have hmz : more = [] := HmD.out.1 (by rw [← hD.out]; exact hd0)
        have hmI : ((more.length : Int) == 0) = true := by rw [hmz]; rfl
        have hmI2 : (more.length : Int) = 0 := by rw [hmz]; rfl
        clear hmz
        have hnS := neq_iface TS xS
        clear HmD hd0 HcD
        by_cases hy : by_ = 0
        · have hyb : (by_ == 0) = true := by simpa using hy
          go_wp2_with (first | (refine wpList_new rfl 31 rfl _ Try.new31 ?_; refine Hid.out ?_))
          refine hid_in ?_
          have HNb := Keep.mk (Blk.new w20 31 #[.int .i64 0, .int .i64 0, .slice none 0 0])
          have HAb := Keep.mk (below_new w20 (.cells #[.int .i64 0, .int .i64 0, .slice none 0 0] 31))
          generalize w20.alloc (.cells #[.int .i64 0, .int .i64 0, .slice none 0 0] 31) = w21 at *
          have n0 : w21.cell? ⟨w20.heap.size, 0, none⟩ = some (.int .i64 0) := by rw [HNb.out.cell]; rfl
          have n1 : w21.cell? ⟨w20.heap.size, 1, none⟩ = some (.int .i64 0) := by rw [HNb.out.cell]; rfl
          have n2 : w21.cell? ⟨w20.heap.size, 2, none⟩ = some (.slice none 0 0) := by rw [HNb.out.cell]; rfl
          have m0 := HNb.out.frozen 0
          have m1 := HNb.out.frozen 1
          have m2 := HNb.out.frozen 2
          have hbn := ((HAb.out.setCell (p := ⟨w20.heap.size, 0, none⟩) (Nat.le_refl _) (.int .i64 fD)).setCell (p := ⟨w20.heap.size, 1, none⟩) (Nat.le_refl _) (.int .i64 tD)).setCell (p := ⟨w20.heap.size, 2, none⟩) (Nat.le_refl _) (.slice aD lD.length cD)
          have HB22 := Keep.mk (HB20.out.trans (hbn.mono HB20.out.size))
          have HV22 := Keep.mk (HV20.out.grown (Grown.below (S := fun _ => False) hbn) fun _ _ h => h)
          have HQ22 := Keep.mk (HQ20.out.grown (Grown.below (S := fun _ => False) hbn) fun _ _ h => h)
          clear HB20 HV20 HQ20
          clear HAb HNb hbn
          go_wp2
          go_ret
          exact ⟨rfl, HB22.out⟩
        · have hyb : (by_ == 0) = false := by simpa using hy
          have hyn : (by_ != 0) = true := by simpa using hy
          go_wp2_with (first | (refine wpList_new rfl 31 rfl _ Try.new31 ?_; refine Hid.out ?_))
          refine hid_in ?_
          have HNb := Keep.mk (Blk.new w20 31 #[.int .i64 0, .int .i64 0, .slice none 0 0])
          have HAb := Keep.mk (below_new w20 (.cells #[.int .i64 0, .int .i64 0, .slice none 0 0] 31))
          generalize w20.alloc (.cells #[.int .i64 0, .int .i64 0, .slice none 0 0] 31) = w21 at *
          have n0 : w21.cell? ⟨w20.heap.size, 0, none⟩ = some (.int .i64 0) := by rw [HNb.out.cell]; rfl
          have n1 : w21.cell? ⟨w20.heap.size, 1, none⟩ = some (.int .i64 0) := by rw [HNb.out.cell]; rfl
          have n2 : w21.cell? ⟨w20.heap.size, 2, none⟩ = some (.slice none 0 0) := by rw [HNb.out.cell]; rfl
          have m0 := HNb.out.frozen 0
          have m1 := HNb.out.frozen 1
          have m2 := HNb.out.frozen 2
          have hbn := ((HAb.out.setCell (p := ⟨w20.heap.size, 0, none⟩) (Nat.le_refl _) (.int .i64 fD)).setCell (p := ⟨w20.heap.size, 1, none⟩) (Nat.le_refl _) (.int .i64 tD)).setCell (p := ⟨w20.heap.size, 2, none⟩) (Nat.le_refl _) (.slice aD lD.length cD)
          have HB22 := Keep.mk (HB20.out.trans (hbn.mono HB20.out.size))
          have HV22 := Keep.mk (HV20.out.grown (Grown.below (S := fun _ => False) hbn) fun _ _ h => h)
          have HQ22 := Keep.mk (HQ20.out.grown (Grown.below (S := fun _ => False) hbn) fun _ _ h => h)
          clear HB20 HV20 HQ20
          clear HAb HNb hbn
          have hcast : ((l.length : Int) - 32) = ((l.length - 32 : Nat) : Int) := by have := HLl.out; omega
          obtain ⟨vp, hsp, hrp⟩ := sub_any _ l _ HV22.out.row (l.length - 32) (by omega)
          obtain ⟨vq, hsq, hrq⟩ := sub_any _ C _ HQ22.out.row (l.length - 32) (by rw [HCl.out]; omega)
          rw [← hcast] at hsp hsq
          have Hrp := Keep.mk hrp
          have Hrq := Keep.mk hrq
          have hlI2 : (42 : Int) ≤ (l.length : Int) := by have := HLl.out; omega
          have hwr : IntKind.i64.wrap ((l.length : Int) - 32) = (l.length : Int) - 32 := by
            have h1 := HLl.out; have h2 := Hb20.out
            rw [IntKind.wrap_i64]; omega
          have hlI3 : (l.length : Int) ≤ 2097194 := by have := HLl.out; have := Hb20.out; omega
          have Hll2 : Keep ((l.take (l.length - 32)).length ≤ 140737488351232 ∧ (C.take (l.length - 32)).length ≤ 140737488351232) := ⟨by rw [List.length_take, List.length_take]; have := HLl.out; have := Hb20.out; omega⟩
          clear hrp hrq hcast
          go_wp2_with fail
          generalize ((w21.setCell ⟨w20.heap.size, 0, none⟩ (.int .i64 fD)).setCell ⟨w20.heap.size, 1, none⟩ (.int .i64 tD)).setCell ⟨w20.heap.size, 2, none⟩ (.slice aD lD.length cD) = w22 at *
          clear n0 n1 n2 m0 m1 m2
          refine (refMac_any _ vp key (l.take (l.length - 32)) w22 (HRk.out.below HB22.out) (Hrp.out _ HV22.out.row) HKl.out Hll2.out.1).mono ?_
          rintro e w23 ⟨rfl, hb23⟩
          have HB23 := Keep.mk (HB22.out.trans (hb23.mono HB22.out.size))
          have HV23 := Keep.mk (HV22.out.grown (Grown.below (S := fun _ => False) hb23) fun _ _ h => h)
          have HQ23 := Keep.mk (HQ22.out.grown (Grown.below (S := fun _ => False) hb23) fun _ _ h => h)
          clear HB22 HV22 HQ22
          clear hb23
          obtain ⟨ca, Hca⟩ : ∃ ca, Keep (ca = bytesA 32 (macP key (l.take (l.length - 32)))) := ⟨_, ⟨rfl⟩⟩
          have HIca : Keep ((Try.prog.info? 26).map (·.size) = some ca.size) := ⟨by rw [Hca.out]; exact Try.size26B _⟩
          have HZca : Keep ((bytesA 32 fun _ => 0).size = ca.size) := ⟨by rw [Hca.out]; exact bytesA_sizes _ _ _⟩
          have HOca : Keep (ca.all (·.oneCell') = true) := ⟨by rw [Hca.out]; exact bytesA_one _ _⟩
          have Hcq : Keep (ca = bytesA 32 (macP key (C.take (l.length - 32)))) := ⟨by
            have h := open_turned (key := key) (b := l) (c := C) (by rw [H1.out.1]) r zx HCr.out Hc0.out
            rw [HCl.out] at h
            have h2 := congrArg (fun q => (bv q).toArray) h
            simp only [← hl_bytesA, Array.toArray_toList] at h2
            rw [Hca.out, h2]⟩
          rw [← Hca.out]
          go_wp2_with (first | (refine wpList_new rfl 26 rfl _ Try.new26 ?_; refine Hid.out ?_))
          refine hid_in ?_
          have HN24 := Keep.mk (Blk.new w23 26 (bytesA 32 fun _ => 0))
          have HA24 := Keep.mk (below_new w23 (.cells (bytesA 32 fun _ => 0) 26))
          generalize w23.alloc (.cells (bytesA 32 fun _ => 0) 26) = w24 at *
          go_wp2_with (first | (refine wpList_store_row rfl 26 (.tmp 28) (.tmp 154) rfl w23.heap.size ca rfl rfl 26 (bytesA 32 fun _ => 0) HN24.out HIca.out HZca.out HOca.out ?_; refine Hid.out ?_))
          refine hid_in ?_
          have hb25 := below_setRow HA24.out (Nat.le_refl _) ca
          have HN25 := Keep.mk (HN24.out.setRow ca)
          generalize w24.setRow w23.heap.size ca = w25 at *
          have HB25 := Keep.mk (HB23.out.trans (hb25.mono HB23.out.size))
          have HQ25 := Keep.mk (HQ23.out.grown (Grown.below (S := fun _ => False) hb25) fun _ _ h => h)
          clear HB23 HQ23
          clear hb25 HN24 HA24
          obtain ⟨CM, hCM⟩ : ∃ CM, Keep (CM = ca.toList) := ⟨_, ⟨rfl⟩⟩
          have hCA : CM.toArray = ca := by rw [hCM.out]
          have hi : (Try.prog.info? 26).map (·.size) = some CM.length := by rw [hCM.out, Array.length_toList]; exact HIca.out
          have hu := Try.underlying26
          have HS25 : Keep (∀ wx, Below w25.heap.size w25 wx → wx.rangeAt w23.heap.size 0 CM) := ⟨fun wx hx => by rw [hCM.out]; exact blk_range (HN25.out.below hx HN25.out.lt)⟩
          have hD0 : Below w25.heap.size w25 w25.drew := (Below.refl _ _).drew
          have hnq : ∀ wx, (binOp .neq 26 (.agg ca) (.agg ca)).run Try.prog wx = .ok (.bool false) wx := fun wx => by rw [Hca.out]; exact neq_arr _ wx
          go_wp2_with fail
          refine wp_region_held_drew (S := fun wx => wx.rangeAt w23.heap.size 0 CM) (by kernel_rfl) (HS25.out _ hD0) (fun hHeld => ?_)
          refine wpAnyH_take (i := 0) (oi := ⟨some 155, Op.load 26 (Operand.tmp 28), 26, _, _, none⟩) (v := .agg (CM).toArray) rfl (by kernel_rfl) (by kernel_rfl) (by kernel_rfl) (fun _ _ _ h => h) (yieldsIf_load_mid (by rfl) 26 (Operand.tmp 28) rfl w23.heap.size 0 rfl CM _ (fun w hS => hS) hu rfl hi) hHeld ?_
          simp only [Act.put, List.setIfInBounds_toArray, List.set_cons_zero, List.set_cons_succ]
          rw [hCA]
          refine wpAnyH_take (i := 1) (oi := ⟨some 156, Op.move (Operand.tmp 0), 23, _, _, none⟩) (v := .slice ka key.length kc) rfl (by kernel_rfl) (by kernel_rfl) (by kernel_rfl) (fun _ _ _ h => h) (Or.inl ⟨by rfl, fun w hS => by go_simp⟩) hHeld ?_
          simp only [Act.put, List.setIfInBounds_toArray, List.set_cons_zero, List.set_cons_succ]
          refine wpAnyH_take (i := 2) (oi := ⟨some 157, Op.move (Operand.tmp 20), 23, _, _, none⟩) (v := .slice (some ⟨cg, 0, none⟩) l.length cc) rfl (by kernel_rfl) (by kernel_rfl) (by kernel_rfl) (fun _ _ _ h => h) (Or.inl ⟨by rfl, fun w hS => by go_simp⟩) hHeld ?_
          simp only [Act.put, List.setIfInBounds_toArray, List.set_cons_zero, List.set_cons_succ]
          refine wpAnyH_take (i := 3) (oi := ⟨some 158, Op.move (Operand.tmp 20), 23, _, _, none⟩) (v := .slice (some ⟨cg, 0, none⟩) l.length cc) rfl (by kernel_rfl) (by kernel_rfl) (by kernel_rfl) (fun _ _ _ h => h) (Or.inl ⟨by rfl, fun w hS => by go_simp⟩) hHeld ?_
          simp only [Act.put, List.setIfInBounds_toArray, List.set_cons_zero, List.set_cons_succ]
          refine wpAnyH_take (i := 4) (oi := ⟨some 159, Op.call { callee := Callee.builtin Builtin.len, args := #[Operand.tmp 158], argTypes := #[23] }, 3, _, _, none⟩) (v := .int .i64 (l.length : Int)) rfl (by kernel_rfl) (by kernel_rfl) (by kernel_rfl) (fun _ _ _ h => h) (Or.inl ⟨by rfl, fun w hS => by go_simp⟩) hHeld ?_
          simp only [Act.put, List.setIfInBounds_toArray, List.set_cons_zero, List.set_cons_succ]
          refine wpAnyH_take (i := 5) (oi := ⟨some 160, Op.binOp BinOp.sub 3 (Operand.tmp 159) (Operand.const (Value.int IntKind.i64 32)) 3, 3, _, _, none⟩) (v := .int .i64 ((l.length : Int) - 32)) rfl (by kernel_rfl) (by kernel_rfl) (by kernel_rfl) (fun _ _ _ h => h) (Or.inl ⟨by rfl, fun w hS => by go_simp⟩) hHeld ?_
          simp only [Act.put, List.setIfInBounds_toArray, List.set_cons_zero, List.set_cons_succ]
          refine wpAnyH_take (i := 6) (oi := ⟨some 161, Op.slice 23 (Operand.tmp 157) none (some (Operand.tmp 160)) none, 23, _, _, none⟩) (v := vq) rfl (by kernel_rfl) (by kernel_rfl) (by kernel_rfl) (fun _ _ _ h => h) (yieldsIf_slice (by rfl) 23 (Operand.tmp 157) (Operand.tmp 160) rfl _ _ _ rfl rfl hsq) hHeld ?_
          simp only [Act.put, List.setIfInBounds_toArray, List.set_cons_zero, List.set_cons_succ]
          refine wpAnyH_ready (rs := [7]) (by kernel_rfl) (by simp) ?_
          refine AllReadyH.cons (o := ⟨some 162, Op.call { callee := Callee.value (Operand.func 11), args := #[Operand.tmp 156, Operand.tmp 161], argTypes := #[23, 23] }, 26, _, _, none⟩) rfl (fun K hK => ?_) AllReadyH.nil
          rw [if_pos (by rfl)]
          refine wp_callF 11 _ _ rfl Try.enter11 #[.slice ka key.length kc, vq] (by simp [Act.eval]) (fun vz wz => vz = .agg ca ∧ Below w25.heap.size w25 wz) ?_ ?_
          · refine (refMac_any _ vq key (C.take (l.length - 32)) w25.drew (HRk.out.below (HB25.out.trans (hD0.mono HB25.out.size))) (Hrq.out _ (HQ25.out.row.below hD0)) HKl.out Hll2.out.2).mono ?_
            rintro e wz ⟨rfl, hbz⟩
            exact ⟨_, rfl, by rw [Hcq.out], hD0.trans (hbz.mono hD0.size)⟩
          rintro vz w26 ⟨rfl, hb26⟩
          have HB26 := Keep.mk (HB25.out.trans (hb26.mono HB25.out.size))
          refine hK.out _ _ (HS25.out _ hb26) fun hHeld2 => ?_
          clear hK hb26
          simp only [Act.put, List.setIfInBounds_toArray, List.set_cons_zero, List.set_cons_succ]
          refine wpAnyH_take (i := 8) (oi := ⟨some 163, Op.binOp BinOp.neq 26 (Operand.tmp 155) (Operand.tmp 162) 26, 4, _, _, none⟩) (v := .bool false) rfl (by kernel_rfl) (by kernel_rfl) (by kernel_rfl) (fun _ _ _ h => h) (Or.inl ⟨by rfl, fun w hS => by go_simp⟩) hHeld2 ?_
          simp only [Act.put, List.setIfInBounds_toArray, List.set_cons_zero, List.set_cons_succ]
          refine wpAnyH_done (by kernel_rfl) ?_ _
          clear hHeld hHeld2 hsp hsq
          go_wp2
          go_ret
          exact ⟨rfl, HB26.out⟩
      · have HmD := Keep.mk (open_more (key := key) (b := l) (more := more) (by rw [H1.out.1]))
        have hmz : more ≠ [] := fun h => hd0 (by rw [hD.out]; exact HmD.out.2 h)
        have hmI2 : ¬ (more.length : Int) = 0 := fun h => hmz (List.eq_nil_of_length_eq_zero (by omega))
        have hmI : ((more.length : Int) == 0) = false := by simpa using hmI2
        have heD := eql_iface TD xD
        clear hmz
        have hnS := neq_iface TS xS
        clear HmD hd0 HcD
        by_cases hy : by_ = 0
        · have hyb : (by_ == 0) = true := by simpa using hy
          go_wp2_with (first | (refine wpList_new rfl 31 rfl _ Try.new31 ?_; refine Hid.out ?_))
          refine hid_in ?_
          have HNb := Keep.mk (Blk.new w20 31 #[.int .i64 0, .int .i64 0, .slice none 0 0])
          have HAb := Keep.mk (below_new w20 (.cells #[.int .i64 0, .int .i64 0, .slice none 0 0] 31))
          generalize w20.alloc (.cells #[.int .i64 0, .int .i64 0, .slice none 0 0] 31) = w21 at *
          have n0 : w21.cell? ⟨w20.heap.size, 0, none⟩ = some (.int .i64 0) := by rw [HNb.out.cell]; rfl
          have n1 : w21.cell? ⟨w20.heap.size, 1, none⟩ = some (.int .i64 0) := by rw [HNb.out.cell]; rfl
          have n2 : w21.cell? ⟨w20.heap.size, 2, none⟩ = some (.slice none 0 0) := by rw [HNb.out.cell]; rfl
          have m0 := HNb.out.frozen 0
          have m1 := HNb.out.frozen 1
          have m2 := HNb.out.frozen 2
          have hbn := ((HAb.out.setCell (p := ⟨w20.heap.size, 0, none⟩) (Nat.le_refl _) (.int .i64 fD)).setCell (p := ⟨w20.heap.size, 1, none⟩) (Nat.le_refl _) (.int .i64 tD)).setCell (p := ⟨w20.heap.size, 2, none⟩) (Nat.le_refl _) (.slice aD lD.length cD)
          have HB22 := Keep.mk (HB20.out.trans (hbn.mono HB20.out.size))
          have HV22 := Keep.mk (HV20.out.grown (Grown.below (S := fun _ => False) hbn) fun _ _ h => h)
          have HQ22 := Keep.mk (HQ20.out.grown (Grown.below (S := fun _ => False) hbn) fun _ _ h => h)
          clear HB20 HV20 HQ20
          clear HAb HNb hbn
          go_wp2
          go_ret
          exact ⟨rfl, HB22.out⟩
        · have hyb : (by_ == 0) = false := by simpa using hy
          have hyn : (by_ != 0) = true := by simpa using hy
          go_wp2_with (first | (refine wpList_new rfl 31 rfl _ Try.new31 ?_; refine Hid.out ?_))
          refine hid_in ?_
          have HNb := Keep.mk (Blk.new w20 31 #[.int .i64 0, .int .i64 0, .slice none 0 0])
          have HAb := Keep.mk (below_new w20 (.cells #[.int .i64 0, .int .i64 0, .slice none 0 0] 31))
          generalize w20.alloc (.cells #[.int .i64 0, .int .i64 0, .slice none 0 0] 31) = w21 at *
          have n0 : w21.cell? ⟨w20.heap.size, 0, none⟩ = some (.int .i64 0) := by rw [HNb.out.cell]; rfl
          have n1 : w21.cell? ⟨w20.heap.size, 1, none⟩ = some (.int .i64 0) := by rw [HNb.out.cell]; rfl
          have n2 : w21.cell? ⟨w20.heap.size, 2, none⟩ = some (.slice none 0 0) := by rw [HNb.out.cell]; rfl
          have m0 := HNb.out.frozen 0
          have m1 := HNb.out.frozen 1
          have m2 := HNb.out.frozen 2
          have hbn := ((HAb.out.setCell (p := ⟨w20.heap.size, 0, none⟩) (Nat.le_refl _) (.int .i64 fD)).setCell (p := ⟨w20.heap.size, 1, none⟩) (Nat.le_refl _) (.int .i64 tD)).setCell (p := ⟨w20.heap.size, 2, none⟩) (Nat.le_refl _) (.slice aD lD.length cD)
          have HB22 := Keep.mk (HB20.out.trans (hbn.mono HB20.out.size))
          have HV22 := Keep.mk (HV20.out.grown (Grown.below (S := fun _ => False) hbn) fun _ _ h => h)
          have HQ22 := Keep.mk (HQ20.out.grown (Grown.below (S := fun _ => False) hbn) fun _ _ h => h)
          clear HB20 HV20 HQ20
          clear HAb HNb hbn
          have hcast : ((l.length : Int) - 32) = ((l.length - 32 : Nat) : Int) := by have := HLl.out; omega
          obtain ⟨vp, hsp, hrp⟩ := sub_any _ l _ HV22.out.row (l.length - 32) (by omega)
          obtain ⟨vq, hsq, hrq⟩ := sub_any _ C _ HQ22.out.row (l.length - 32) (by rw [HCl.out]; omega)
          rw [← hcast] at hsp hsq
          have Hrp := Keep.mk hrp
          have Hrq := Keep.mk hrq
          have hlI2 : (42 : Int) ≤ (l.length : Int) := by have := HLl.out; omega
          have hwr : IntKind.i64.wrap ((l.length : Int) - 32) = (l.length : Int) - 32 := by
            have h1 := HLl.out; have h2 := Hb20.out
            rw [IntKind.wrap_i64]; omega
          have hlI3 : (l.length : Int) ≤ 2097194 := by have := HLl.out; have := Hb20.out; omega
          have Hll2 : Keep ((l.take (l.length - 32)).length ≤ 140737488351232 ∧ (C.take (l.length - 32)).length ≤ 140737488351232) := ⟨by rw [List.length_take, List.length_take]; have := HLl.out; have := Hb20.out; omega⟩
          clear hrp hrq hcast
          go_wp2_with fail
          generalize ((w21.setCell ⟨w20.heap.size, 0, none⟩ (.int .i64 fD)).setCell ⟨w20.heap.size, 1, none⟩ (.int .i64 tD)).setCell ⟨w20.heap.size, 2, none⟩ (.slice aD lD.length cD) = w22 at *
          clear n0 n1 n2 m0 m1 m2
          refine (refMac_any _ vp key (l.take (l.length - 32)) w22 (HRk.out.below HB22.out) (Hrp.out _ HV22.out.row) HKl.out Hll2.out.1).mono ?_
          rintro e w23 ⟨rfl, hb23⟩
          have HB23 := Keep.mk (HB22.out.trans (hb23.mono HB22.out.size))
          have HV23 := Keep.mk (HV22.out.grown (Grown.below (S := fun _ => False) hb23) fun _ _ h => h)
          have HQ23 := Keep.mk (HQ22.out.grown (Grown.below (S := fun _ => False) hb23) fun _ _ h => h)
          clear HB22 HV22 HQ22
          clear hb23
          obtain ⟨ca, Hca⟩ : ∃ ca, Keep (ca = bytesA 32 (macP key (l.take (l.length - 32)))) := ⟨_, ⟨rfl⟩⟩
          have HIca : Keep ((Try.prog.info? 26).map (·.size) = some ca.size) := ⟨by rw [Hca.out]; exact Try.size26B _⟩
          have HZca : Keep ((bytesA 32 fun _ => 0).size = ca.size) := ⟨by rw [Hca.out]; exact bytesA_sizes _ _ _⟩
          have HOca : Keep (ca.all (·.oneCell') = true) := ⟨by rw [Hca.out]; exact bytesA_one _ _⟩
          have Hcq : Keep (ca = bytesA 32 (macP key (C.take (l.length - 32)))) := ⟨by
            have h := open_turned (key := key) (b := l) (c := C) (by rw [H1.out.1]) r zx HCr.out Hc0.out
            rw [HCl.out] at h
            have h2 := congrArg (fun q => (bv q).toArray) h
            simp only [← hl_bytesA, Array.toArray_toList] at h2
            rw [Hca.out, h2]⟩
          rw [← Hca.out]
          go_wp2_with (first | (refine wpList_new rfl 26 rfl _ Try.new26 ?_; refine Hid.out ?_))
          refine hid_in ?_
          have HN24 := Keep.mk (Blk.new w23 26 (bytesA 32 fun _ => 0))
          have HA24 := Keep.mk (below_new w23 (.cells (bytesA 32 fun _ => 0) 26))
          generalize w23.alloc (.cells (bytesA 32 fun _ => 0) 26) = w24 at *
          go_wp2_with (first | (refine wpList_store_row rfl 26 (.tmp 28) (.tmp 154) rfl w23.heap.size ca rfl rfl 26 (bytesA 32 fun _ => 0) HN24.out HIca.out HZca.out HOca.out ?_; refine Hid.out ?_))
          refine hid_in ?_
          have hb25 := below_setRow HA24.out (Nat.le_refl _) ca
          have HN25 := Keep.mk (HN24.out.setRow ca)
          generalize w24.setRow w23.heap.size ca = w25 at *
          have HB25 := Keep.mk (HB23.out.trans (hb25.mono HB23.out.size))
          have HQ25 := Keep.mk (HQ23.out.grown (Grown.below (S := fun _ => False) hb25) fun _ _ h => h)
          clear HB23 HQ23
          clear hb25 HN24 HA24
          obtain ⟨CM, hCM⟩ : ∃ CM, Keep (CM = ca.toList) := ⟨_, ⟨rfl⟩⟩
          have hCA : CM.toArray = ca := by rw [hCM.out]
          have hi : (Try.prog.info? 26).map (·.size) = some CM.length := by rw [hCM.out, Array.length_toList]; exact HIca.out
          have hu := Try.underlying26
          have HS25 : Keep (∀ wx, Below w25.heap.size w25 wx → wx.rangeAt w23.heap.size 0 CM) := ⟨fun wx hx => by rw [hCM.out]; exact blk_range (HN25.out.below hx HN25.out.lt)⟩
          have hD0 : Below w25.heap.size w25 w25.drew := (Below.refl _ _).drew
          have hnq : ∀ wx, (binOp .neq 26 (.agg ca) (.agg ca)).run Try.prog wx = .ok (.bool false) wx := fun wx => by rw [Hca.out]; exact neq_arr _ wx
          go_wp2_with fail
          refine wp_region_held_drew (S := fun wx => wx.rangeAt w23.heap.size 0 CM) (by kernel_rfl) (HS25.out _ hD0) (fun hHeld => ?_)
          refine wpAnyH_take (i := 0) (oi := ⟨some 155, Op.load 26 (Operand.tmp 28), 26, _, _, none⟩) (v := .agg (CM).toArray) rfl (by kernel_rfl) (by kernel_rfl) (by kernel_rfl) (fun _ _ _ h => h) (yieldsIf_load_mid (by rfl) 26 (Operand.tmp 28) rfl w23.heap.size 0 rfl CM _ (fun w hS => hS) hu rfl hi) hHeld ?_
          simp only [Act.put, List.setIfInBounds_toArray, List.set_cons_zero, List.set_cons_succ]
          rw [hCA]
          refine wpAnyH_take (i := 1) (oi := ⟨some 156, Op.move (Operand.tmp 0), 23, _, _, none⟩) (v := .slice ka key.length kc) rfl (by kernel_rfl) (by kernel_rfl) (by kernel_rfl) (fun _ _ _ h => h) (Or.inl ⟨by rfl, fun w hS => by go_simp⟩) hHeld ?_
          simp only [Act.put, List.setIfInBounds_toArray, List.set_cons_zero, List.set_cons_succ]
          refine wpAnyH_take (i := 2) (oi := ⟨some 157, Op.move (Operand.tmp 20), 23, _, _, none⟩) (v := .slice (some ⟨cg, 0, none⟩) l.length cc) rfl (by kernel_rfl) (by kernel_rfl) (by kernel_rfl) (fun _ _ _ h => h) (Or.inl ⟨by rfl, fun w hS => by go_simp⟩) hHeld ?_
          simp only [Act.put, List.setIfInBounds_toArray, List.set_cons_zero, List.set_cons_succ]
          refine wpAnyH_take (i := 3) (oi := ⟨some 158, Op.move (Operand.tmp 20), 23, _, _, none⟩) (v := .slice (some ⟨cg, 0, none⟩) l.length cc) rfl (by kernel_rfl) (by kernel_rfl) (by kernel_rfl) (fun _ _ _ h => h) (Or.inl ⟨by rfl, fun w hS => by go_simp⟩) hHeld ?_
          simp only [Act.put, List.setIfInBounds_toArray, List.set_cons_zero, List.set_cons_succ]
          refine wpAnyH_take (i := 4) (oi := ⟨some 159, Op.call { callee := Callee.builtin Builtin.len, args := #[Operand.tmp 158], argTypes := #[23] }, 3, _, _, none⟩) (v := .int .i64 (l.length : Int)) rfl (by kernel_rfl) (by kernel_rfl) (by kernel_rfl) (fun _ _ _ h => h) (Or.inl ⟨by rfl, fun w hS => by go_simp⟩) hHeld ?_
          simp only [Act.put, List.setIfInBounds_toArray, List.set_cons_zero, List.set_cons_succ]
          refine wpAnyH_take (i := 5) (oi := ⟨some 160, Op.binOp BinOp.sub 3 (Operand.tmp 159) (Operand.const (Value.int IntKind.i64 32)) 3, 3, _, _, none⟩) (v := .int .i64 ((l.length : Int) - 32)) rfl (by kernel_rfl) (by kernel_rfl) (by kernel_rfl) (fun _ _ _ h => h) (Or.inl ⟨by rfl, fun w hS => by go_simp⟩) hHeld ?_
          simp only [Act.put, List.setIfInBounds_toArray, List.set_cons_zero, List.set_cons_succ]
          refine wpAnyH_take (i := 6) (oi := ⟨some 161, Op.slice 23 (Operand.tmp 157) none (some (Operand.tmp 160)) none, 23, _, _, none⟩) (v := vq) rfl (by kernel_rfl) (by kernel_rfl) (by kernel_rfl) (fun _ _ _ h => h) (yieldsIf_slice (by rfl) 23 (Operand.tmp 157) (Operand.tmp 160) rfl _ _ _ rfl rfl hsq) hHeld ?_
          simp only [Act.put, List.setIfInBounds_toArray, List.set_cons_zero, List.set_cons_succ]
          refine wpAnyH_ready (rs := [7]) (by kernel_rfl) (by simp) ?_
          refine AllReadyH.cons (o := ⟨some 162, Op.call { callee := Callee.value (Operand.func 11), args := #[Operand.tmp 156, Operand.tmp 161], argTypes := #[23, 23] }, 26, _, _, none⟩) rfl (fun K hK => ?_) AllReadyH.nil
          rw [if_pos (by rfl)]
          refine wp_callF 11 _ _ rfl Try.enter11 #[.slice ka key.length kc, vq] (by simp [Act.eval]) (fun vz wz => vz = .agg ca ∧ Below w25.heap.size w25 wz) ?_ ?_
          · refine (refMac_any _ vq key (C.take (l.length - 32)) w25.drew (HRk.out.below (HB25.out.trans (hD0.mono HB25.out.size))) (Hrq.out _ (HQ25.out.row.below hD0)) HKl.out Hll2.out.2).mono ?_
            rintro e wz ⟨rfl, hbz⟩
            exact ⟨_, rfl, by rw [Hcq.out], hD0.trans (hbz.mono hD0.size)⟩
          rintro vz w26 ⟨rfl, hb26⟩
          have HB26 := Keep.mk (HB25.out.trans (hb26.mono HB25.out.size))
          refine hK.out _ _ (HS25.out _ hb26) fun hHeld2 => ?_
          clear hK hb26
          simp only [Act.put, List.setIfInBounds_toArray, List.set_cons_zero, List.set_cons_succ]
          refine wpAnyH_take (i := 8) (oi := ⟨some 163, Op.binOp BinOp.neq 26 (Operand.tmp 155) (Operand.tmp 162) 26, 4, _, _, none⟩) (v := .bool false) rfl (by kernel_rfl) (by kernel_rfl) (by kernel_rfl) (fun _ _ _ h => h) (Or.inl ⟨by rfl, fun w hS => by go_simp⟩) hHeld2 ?_
          simp only [Act.put, List.setIfInBounds_toArray, List.set_cons_zero, List.set_cons_succ]
          refine wpAnyH_done (by kernel_rfl) ?_ _
          clear hHeld hHeld2 hsp hsq
          go_wp2
          go_ret
          exact ⟨rfl, HB26.out⟩
    · have Hc0 : Keep ((openE key C).1 ≠ 0) := ⟨hc0⟩
      have HBy0 : Keep (by_ ≠ 0) := ⟨fun h => Hc0.out (by rw [HC0.out h, H1.out.1])⟩
      clear hc0 HcC
      go_wp2_with (first | (refine wpList_new rfl 31 rfl _ Try.new31 ?_; refine Hid.out ?_))
      refine hid_in ?_
      have HNb := Keep.mk (Blk.new w10 31 #[.int .i64 0, .int .i64 0, .slice none 0 0])
      have HAb := Keep.mk (below_new w10 (.cells #[.int .i64 0, .int .i64 0, .slice none 0 0] 31))
      generalize w10.alloc (.cells #[.int .i64 0, .int .i64 0, .slice none 0 0] 31) = w11 at *
      have n0 : w11.cell? ⟨w10.heap.size, 0, none⟩ = some (.int .i64 0) := by rw [HNb.out.cell]; rfl
      have n1 : w11.cell? ⟨w10.heap.size, 1, none⟩ = some (.int .i64 0) := by rw [HNb.out.cell]; rfl
      have n2 : w11.cell? ⟨w10.heap.size, 2, none⟩ = some (.slice none 0 0) := by rw [HNb.out.cell]; rfl
      have m0 := HNb.out.frozen 0
      have m1 := HNb.out.frozen 1
      have m2 := HNb.out.frozen 2
      have hbn := ((HAb.out.setCell (p := ⟨w10.heap.size, 0, none⟩) (Nat.le_refl _) (.int .i64 fC)).setCell (p := ⟨w10.heap.size, 1, none⟩) (Nat.le_refl _) (.int .i64 tC)).setCell (p := ⟨w10.heap.size, 2, none⟩) (Nat.le_refl _) (.slice aC lC.length cC)
      have HB12 := Keep.mk (HB10.out.trans (hbn.mono HB10.out.size))
      have HV12 := Keep.mk (HV10.out.grown (Grown.below (S := fun _ => False) hbn) fun _ _ h => h)
      have HQ12 := Keep.mk (HQ10.out.grown (Grown.below (S := fun _ => False) hbn) fun _ _ h => h)
      clear HB10 HV10 HQ10
      clear HAb HNb hbn
      go_wp2_with fail
      generalize ((w11.setCell ⟨w10.heap.size, 0, none⟩ (.int .i64 fC)).setCell ⟨w10.heap.size, 1, none⟩ (.int .i64 tC)).setCell ⟨w10.heap.size, 2, none⟩ (.slice aC lC.length cC) = w12 at *
      clear n0 n1 n2 m0 m1 m2
      refine (round_any cu l.length w12 (by have := HLl.out; omega) (by have := HLl.out; have := Hb20.out; omega)).mono ?_
      rintro e w13 ⟨r2, hr2, rfl, hw13⟩
      rw [hw13]
      clear hw13
      obtain ⟨vs, hsl, hrs⟩ := sub_any _ l w12 HV12.out.row r2 (by omega)
      have HRs := Keep.mk (hrs _ HV12.out.row)
      have Hr2 := Keep.mk hr2
      have Htk : Keep ((l.take r2).length ≤ 140737500000000 ∧ Byts (l.take r2)) := ⟨by
        refine ⟨by rw [List.length_take]; have := HLl.out; have := Hb20.out; omega, fun c hc => HLb.out c (List.mem_of_mem_take hc)⟩⟩
      clear hrs hr2
      go_wp2_with fail
      clear hsl
      refine (HO.out _ _ key (l.take r2) w12 (HRk.out.below HB12.out) HRs.out HKl.out Htk.out.1 Htk.out.2).mono ?_
      rintro e w14 ⟨vS, lS, fS, tS, erS, rfl, hb14, hvS, _, hcaseS⟩
      have HB14 := Keep.mk (HB12.out.trans (hb14.mono HB12.out.size))
      have HV14 := Keep.mk (HV12.out.grown (Grown.below (S := fun _ => False) hb14) fun _ _ h => h)
      have HQ14 := Keep.mk (HQ12.out.grown (Grown.below (S := fun _ => False) hb14) fun _ _ h => h)
      clear HB12 HV12 HQ12
      obtain ⟨aS, nS, cS, rfl⟩ := hvS.sl
      have hnS : nS = lS.length := hvS.plain.2.2.2
      subst hnS
      have hcS : ∃ T x, erS = .iface T x := by
        rcases hcaseS with ⟨h, _⟩ | ⟨_, h, _⟩
        · exact absurd h (open_cut (by rw [H1.out.1]) r2 Hr2.out)
        · exact h
      obtain ⟨TS, xS, rfl⟩ := hcS
      clear hb14 hvS hcaseS HRs Htk Hr2
      go_wp2_with (first | (refine wpList_new rfl 31 rfl _ Try.new31 ?_; refine Hid.out ?_))
      refine hid_in ?_
      have HNb := Keep.mk (Blk.new w14 31 #[.int .i64 0, .int .i64 0, .slice none 0 0])
      have HAb := Keep.mk (below_new w14 (.cells #[.int .i64 0, .int .i64 0, .slice none 0 0] 31))
      generalize w14.alloc (.cells #[.int .i64 0, .int .i64 0, .slice none 0 0] 31) = w15 at *
      have n0 : w15.cell? ⟨w14.heap.size, 0, none⟩ = some (.int .i64 0) := by rw [HNb.out.cell]; rfl
      have n1 : w15.cell? ⟨w14.heap.size, 1, none⟩ = some (.int .i64 0) := by rw [HNb.out.cell]; rfl
      have n2 : w15.cell? ⟨w14.heap.size, 2, none⟩ = some (.slice none 0 0) := by rw [HNb.out.cell]; rfl
      have m0 := HNb.out.frozen 0
      have m1 := HNb.out.frozen 1
      have m2 := HNb.out.frozen 2
      have hbn := ((HAb.out.setCell (p := ⟨w14.heap.size, 0, none⟩) (Nat.le_refl _) (.int .i64 fS)).setCell (p := ⟨w14.heap.size, 1, none⟩) (Nat.le_refl _) (.int .i64 tS)).setCell (p := ⟨w14.heap.size, 2, none⟩) (Nat.le_refl _) (.slice aS lS.length cS)
      have HB16 := Keep.mk (HB14.out.trans (hbn.mono HB14.out.size))
      have HV16 := Keep.mk (HV14.out.grown (Grown.below (S := fun _ => False) hbn) fun _ _ h => h)
      have HQ16 := Keep.mk (HQ14.out.grown (Grown.below (S := fun _ => False) hbn) fun _ _ h => h)
      clear HB14 HV14 HQ14
      clear HAb HNb hbn
      have hszn : (((w15.setCell ⟨w14.heap.size, 0, none⟩ (.int .i64 fS)).setCell ⟨w14.heap.size, 1, none⟩ (.int .i64 tS)).setCell ⟨w14.heap.size, 2, none⟩ (.slice aS lS.length cS)).heap.size = w15.heap.size := by simp
      have h17 := FreshB.empty (((w15.setCell ⟨w14.heap.size, 0, none⟩ (.int .i64 fS)).setCell ⟨w14.heap.size, 1, none⟩ (.int .i64 tS)).setCell ⟨w14.heap.size, 2, none⟩ (.slice aS lS.length cS))
      rw [hszn] at h17
      have HF17 := Keep.mk h17
      have HR17 := Keep.mk ((HV16.out.row).below (below_new (((w15.setCell ⟨w14.heap.size, 0, none⟩ (.int .i64 fS)).setCell ⟨w14.heap.size, 1, none⟩ (.int .i64 tS)).setCell ⟨w14.heap.size, 2, none⟩ (.slice aS lS.length cS)) (.cells #[] 5)))
      clear hszn h17
      have SZ16 : Keep (w.heap.size ≤ (((w15.setCell ⟨w14.heap.size, 0, none⟩ (.int .i64 fS)).setCell ⟨w14.heap.size, 1, none⟩ (.int .i64 tS)).setCell ⟨w14.heap.size, 2, none⟩ (.slice aS lS.length cS)).heap.size) := ⟨HB16.out.size⟩
      have VL16 : Keep (∀ k, (Value.slice ya l.length yc).ownBlock = some k → k < (((w15.setCell ⟨w14.heap.size, 0, none⟩ (.int .i64 fS)).setCell ⟨w14.heap.size, 1, none⟩ (.int .i64 tS)).setCell ⟨w14.heap.size, 2, none⟩ (.slice aS lS.length cS)).heap.size) := ⟨HV16.out.lt⟩
      have CL16 : Keep (cg < (((w15.setCell ⟨w14.heap.size, 0, none⟩ (.int .i64 fS)).setCell ⟨w14.heap.size, 1, none⟩ (.int .i64 tS)).setCell ⟨w14.heap.size, 2, none⟩ (.slice aS lS.length cS)).heap.size) := ⟨HQ16.out.lt cg rfl⟩
      go_wp2_with (first | (at_builtin; refine wpList_app rfl (.tmp 130) (.tmp 131) rfl (.slice (some ⟨w15.heap.size, 0, none⟩) 0 0) _ [] l rfl rfl HF17.out.1 HR17.out (by have := HLl.out; have := Hb20.out; simp; omega) ?_; intro v17 w17 hp; refine Hid.out ?_))
      refine hid_in ?_
      have HD17 := Keep.mk (HF17.out.app hp)
      rw [List.nil_append] at HD17
      have hb17 := HD17.out.2.2
      clear HF17 HR17 hp
      generalize ((w15.setCell ⟨w14.heap.size, 0, none⟩ (.int .i64 fS)).setCell ⟨w14.heap.size, 1, none⟩ (.int .i64 tS)).setCell ⟨w14.heap.size, 2, none⟩ (.slice aS lS.length cS) = w16 at *
      clear n0 n1 n2 m0 m1 m2
      have HB17 := Keep.mk (HB16.out.trans (hb17.mono HB16.out.size))
      have HV17 := Keep.mk (HV16.out.grown (Grown.below (S := fun _ => False) hb17) fun _ _ h => h)
      have HQ17 := Keep.mk (HQ16.out.grown (Grown.below (S := fun _ => False) hb17) fun _ _ h => h)
      clear HB16 HV16 HQ16
      clear hb17
      go_wp2_with (first | (at_builtin; refine wpList_appW rfl (.tmp 133) (.tmp 134) rfl v17 (.slice ma more.length mc) l more rfl rfl (by have := HLl.out; omega) HD17.out.1 (HRm.out.below HB17.out) (by have := HLl.out; have := Hb20.out; have := HMl.out; omega) ?_; intro v18 w18 hp; refine Hid.out ?_))
      refine hid_in ?_
      have HD18 := Keep.mk (HD17.out.app hp)
      have hb18 : Below w16.heap.size w17 w18 := by
        obtain ⟨k, hk1, hk2⟩ := HD17.out.2.1
        exact hp.grown.to_below (fun i hi e => by rw [hk1] at e; injection e with e; omega) HD17.out.2.2.size
      have Hw16 : Keep (w.heap.size ≤ w16.heap.size) := ⟨SZ16.out⟩
      have HB18 := Keep.mk (HB17.out.trans (hb18.mono Hw16.out))
      have HV18 := Keep.mk (HV17.out.grown hp.grown fun k hk e => by
        obtain ⟨k2, hk1, hk2⟩ := HD17.out.2.1
        rw [hk1] at e; injection e with e
        have := VL16.out k hk
        omega)
      have HQ18 := Keep.mk (HQ17.out.grown hp.grown fun k hk e => by
        obtain ⟨k2, hk1, hk2⟩ := HD17.out.2.1
        rw [hk1] at e; injection e with e
        simp [Value.ownBlock] at hk
        have := CL16.out
        omega)
      clear HB17 HV17 HQ17 hp hb18 HD17
      obtain ⟨D, hD⟩ : ∃ D, Keep (D = l ++ more) := ⟨_, ⟨rfl⟩⟩
      rw [← hD.out] at HD18
      have HDl : Keep (D.length ≤ 140737500000000 ∧ Byts D) := ⟨by rw [hD.out]; exact ⟨by rw [List.length_append]; have := HLl.out; have := Hb20.out; have := HMl.out; omega, Byts.app HLb.out HBm.out⟩⟩
      obtain ⟨dg, dc, hvd, _⟩ := HD18.out.sl
      subst hvd
      go_wp2_with fail
      refine (HO.out _ _ key D w18 (HRk.out.below HB18.out) HD18.out.1.row HKl.out HDl.out.1 HDl.out.2).mono ?_
      rintro e w20 ⟨vD, lD, fD, tD, erD, rfl, hb20, hvD, _, hcaseD⟩
      have HB20 := Keep.mk (HB18.out.trans (hb20.mono HB18.out.size))
      have HV20 := Keep.mk (HV18.out.grown (Grown.below (S := fun _ => False) hb20) fun _ _ h => h)
      have HQ20 := Keep.mk (HQ18.out.grown (Grown.below (S := fun _ => False) hb20) fun _ _ h => h)
      clear HB18 HV18 HQ18
      obtain ⟨aD, nD, cD, rfl⟩ := hvD.sl
      have hnD : nD = lD.length := hvD.plain.2.2.2
      subst hnD
      have HcD := Keep.mk hcaseD
      clear hb20 hvD hcaseD HD18 Hw16 SZ16 VL16 CL16
      rcases HcD.out with ⟨hd0, rfl, -, -, -⟩ | ⟨hd0, ⟨TD, xD, rfl⟩, -, -, -⟩
      · have HmD := Keep.mk (open_more (key := key) (b := l) (more := more) (by rw [H1.out.1]))
        have hmz : more = [] := HmD.out.1 (by rw [← hD.out]; exact hd0)
        have hmI : ((more.length : Int) == 0) = true := by rw [hmz]; rfl
        have hmI2 : (more.length : Int) = 0 := by rw [hmz]; rfl
        clear hmz
        have hnS := neq_iface TS xS
        clear HmD hd0 HcD
        have heC := eql_iface TC xC
        have hyb : (by_ == 0) = false := by simpa using HBy0.out
        have hyb2 : ¬ by_ = 0 := HBy0.out
        have hyn : (by_ != 0) = true := by simpa using HBy0.out
        go_wp2_with (first | (refine wpList_new rfl 31 rfl _ Try.new31 ?_; refine Hid.out ?_))
        refine hid_in ?_
        have HNb := Keep.mk (Blk.new w20 31 #[.int .i64 0, .int .i64 0, .slice none 0 0])
        have HAb := Keep.mk (below_new w20 (.cells #[.int .i64 0, .int .i64 0, .slice none 0 0] 31))
        generalize w20.alloc (.cells #[.int .i64 0, .int .i64 0, .slice none 0 0] 31) = w21 at *
        have n0 : w21.cell? ⟨w20.heap.size, 0, none⟩ = some (.int .i64 0) := by rw [HNb.out.cell]; rfl
        have n1 : w21.cell? ⟨w20.heap.size, 1, none⟩ = some (.int .i64 0) := by rw [HNb.out.cell]; rfl
        have n2 : w21.cell? ⟨w20.heap.size, 2, none⟩ = some (.slice none 0 0) := by rw [HNb.out.cell]; rfl
        have m0 := HNb.out.frozen 0
        have m1 := HNb.out.frozen 1
        have m2 := HNb.out.frozen 2
        have hbn := ((HAb.out.setCell (p := ⟨w20.heap.size, 0, none⟩) (Nat.le_refl _) (.int .i64 fD)).setCell (p := ⟨w20.heap.size, 1, none⟩) (Nat.le_refl _) (.int .i64 tD)).setCell (p := ⟨w20.heap.size, 2, none⟩) (Nat.le_refl _) (.slice aD lD.length cD)
        have HB22 := Keep.mk (HB20.out.trans (hbn.mono HB20.out.size))
        have HV22 := Keep.mk (HV20.out.grown (Grown.below (S := fun _ => False) hbn) fun _ _ h => h)
        have HQ22 := Keep.mk (HQ20.out.grown (Grown.below (S := fun _ => False) hbn) fun _ _ h => h)
        clear HB20 HV20 HQ20
        clear HAb HNb hbn
        go_wp2
        go_ret
        exact ⟨rfl, HB22.out⟩
      · have HmD := Keep.mk (open_more (key := key) (b := l) (more := more) (by rw [H1.out.1]))
        have hmz : more ≠ [] := fun h => hd0 (by rw [hD.out]; exact HmD.out.2 h)
        have hmI2 : ¬ (more.length : Int) = 0 := fun h => hmz (List.eq_nil_of_length_eq_zero (by omega))
        have hmI : ((more.length : Int) == 0) = false := by simpa using hmI2
        have heD := eql_iface TD xD
        clear hmz
        have hnS := neq_iface TS xS
        clear HmD hd0 HcD
        have heC := eql_iface TC xC
        have hyb : (by_ == 0) = false := by simpa using HBy0.out
        have hyb2 : ¬ by_ = 0 := HBy0.out
        have hyn : (by_ != 0) = true := by simpa using HBy0.out
        go_wp2_with (first | (refine wpList_new rfl 31 rfl _ Try.new31 ?_; refine Hid.out ?_))
        refine hid_in ?_
        have HNb := Keep.mk (Blk.new w20 31 #[.int .i64 0, .int .i64 0, .slice none 0 0])
        have HAb := Keep.mk (below_new w20 (.cells #[.int .i64 0, .int .i64 0, .slice none 0 0] 31))
        generalize w20.alloc (.cells #[.int .i64 0, .int .i64 0, .slice none 0 0] 31) = w21 at *
        have n0 : w21.cell? ⟨w20.heap.size, 0, none⟩ = some (.int .i64 0) := by rw [HNb.out.cell]; rfl
        have n1 : w21.cell? ⟨w20.heap.size, 1, none⟩ = some (.int .i64 0) := by rw [HNb.out.cell]; rfl
        have n2 : w21.cell? ⟨w20.heap.size, 2, none⟩ = some (.slice none 0 0) := by rw [HNb.out.cell]; rfl
        have m0 := HNb.out.frozen 0
        have m1 := HNb.out.frozen 1
        have m2 := HNb.out.frozen 2
        have hbn := ((HAb.out.setCell (p := ⟨w20.heap.size, 0, none⟩) (Nat.le_refl _) (.int .i64 fD)).setCell (p := ⟨w20.heap.size, 1, none⟩) (Nat.le_refl _) (.int .i64 tD)).setCell (p := ⟨w20.heap.size, 2, none⟩) (Nat.le_refl _) (.slice aD lD.length cD)
        have HB22 := Keep.mk (HB20.out.trans (hbn.mono HB20.out.size))
        have HV22 := Keep.mk (HV20.out.grown (Grown.below (S := fun _ => False) hbn) fun _ _ h => h)
        have HQ22 := Keep.mk (HQ20.out.grown (Grown.below (S := fun _ => False) hbn) fun _ _ h => h)
        clear HB20 HV20 HQ20
        clear HAb HNb hbn
        go_wp2
        go_ret
        exact ⟨rfl, HB22.out⟩
end Go.Proofs.Ytpakaladpdoejaa
