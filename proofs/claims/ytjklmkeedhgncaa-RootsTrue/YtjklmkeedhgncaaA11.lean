import Derived.Test.YtjklmkeedhgncaaA10
import Derived.Deep.RegionHeld3
namespace Go.Proofs.Ytjklmkeedhgncaa
open Go.RowKit
set_option linter.unusedSimpArgs false
set_option linter.unusedVariables false
theorem eqB {a b : Array Value} {x y : Hs} {c : Bool} (ha : a = bytesA 32 x.f) (hb : b = bytesA 32 y.f) (hc : decide (x = y) = c) (w : World) : (Op.equalIn 10000 25 (.agg a) (.agg b)).run Try.prog w = .ok c w := by
 rw [ha, hb, run_equal_arr2, all_eq_iff, hc]
def Twi (rs : List (List Int)) (i j : Nat) : Prop := ∃ a b, rs[i]? = some a ∧ rs[j]? = some b ∧ shaH a = shaH b ∧ strOfNums a ≠ strOfNums b
theorem hsL_inj {x y : Hs} (h : hsL x = hsL y) : x = y := by
 refine Hs.ext' fun i hi => ?_
 have h1 : (hl 32 x.f).getD i 0 = (hl 32 y.f).getD i 0 := congrArg (fun l : List Int => l.getD i 0) h
 rw [hl_get _ _ _ hi, hl_get _ _ _ hi] at h1
 exact h1
theorem nums_inj {a b : List Int} (ha : Byts a) (hb : Byts b) (h : strOfNums a = strOfNums b) : a = b := by
 rw [← lst_nums ha, ← lst_nums hb, h]
theorem twi_of_cl {rs : List (List Int)} (hB : ∀ r ∈ rs, Byts r) (h : RtP.Cl shaL rs) : ∃ i j, j < i ∧ i < rs.length ∧ Twi rs i j := by
 obtain ⟨a, ha, b, hb, hne, he⟩ := h
 obtain ⟨i, hi, ei⟩ := List.getElem_of_mem ha
 obtain ⟨j, hj, ej⟩ := List.getElem_of_mem hb
 have hh : shaH a = shaH b := hsL_inj (by rw [shaH_L, shaH_L, he])
 have hs : strOfNums a ≠ strOfNums b := fun e => hne (nums_inj (hB a ha) (hB b hb) e)
 have e1 : rs[i]? = some a := by rw [List.getElem?_eq_getElem hi, ei]
 have e2 : rs[j]? = some b := by rw [List.getElem?_eq_getElem hj, ej]
 rcases Nat.lt_trichotomy i j with h | h | h
 ·exact ⟨j, i, h, hj, b, a, e2, e1, hh.symm, hs.symm⟩
 ·subst h
  rw [ei] at ej
  exact absurd ej hne
 ·exact ⟨i, j, h, hi, a, b, e1, e2, hh, hs⟩
def HSl (rs : List (List Int)) : List Hs := rs.map shaH
set_option maxRecDepth 8000 in
set_option maxHeartbeats 1000000 in
theorem twice_any (v : Value) (us : List Value) (rs : List (List Int)) (w : World) (hx : RsV w v us rs) (hN : us.length ≤ 4398046511000) (hL : ∀ r ∈ rs, r.length ≤ 140737488355000) (hBy : ∀ r ∈ rs, Byts r) :
  Calls Try.prog 40 #[v] w fun e w' => ∃ b : Bool, e = .returned (.bool b) ∧ (RtP.Cl shaL rs → b = true) ∧ Below w.heap.size w w' := by
 obtain ⟨n, hn⟩ : ∃ z, Keep (us.length = z) := ⟨_, ⟨rfl⟩⟩
 obtain ⟨la, cap, rfl, hG⟩ : ∃ la cap, v = .slice la n cap ∧ (0 < n → ∃ g, la = some ⟨g, 0, none⟩) := by
  rcases hx.2.2 with ⟨rfl, h⟩ | ⟨g, cap, rfl, _⟩
  ·exact ⟨none, 0, by rw [← hn.out, h]; rfl, fun h0 => by rw [← hn.out, h] at h0; simp at h0⟩
  ·exact ⟨_, cap, by rw [hn.out], fun _ => ⟨g, rfl⟩⟩
 have HX := Keep.mk hx
 have HG := Keep.mk hG
 have HN : Keep (n ≤ 4398046511000) := ⟨by rw [← hn.out]; exact hN⟩
 have HL := Keep.mk hL
 have HBy := Keep.mk hBy
 clear hx hG hN hL hBy
 go_enter Try.func40, Try.ntmps40
 refine wp_seq_k fun K1 hK1 => rgn ?_
 refine VbF ?_
 refine WL.nil (hK1 _ _ ?_)
 refine wp_seq_k fun K2 hK2 => rgn ?_
 refine WL.bs (by kernel_rfl) 67 0 _ rfl #[] (by simp [Act.eval]) _ _ (Try.bs0 w) ?_
 have O0 : Keep ((w.alloc (.cells #[] 25)).ownsRow w.heap.size 25 32 (.slice (some ⟨w.heap.size, 0, none⟩) 0 0) (HSl (rs.take 0)).length (flatH (HSl (rs.take 0)))) := ⟨rfl, .inr ⟨w.heap.size, 0, #[], rfl, Nat.le_refl _, Blk.new w 25 #[], Nat.le_refl _, by decide, rfl, rfl⟩⟩
 have B0 := Keep.mk (below_new w (.cells #[] 25))
 generalize w.alloc (.cells #[] 25) = w0 at *
 obtain ⟨v0, hv0⟩ : ∃ z, Keep (z = Value.slice (some ⟨w.heap.size, 0, none⟩) 0 0) := ⟨_, ⟨rfl⟩⟩
 rw [← hv0.out] at O0 ⊢
 simp only [Act.put, pqA, pqB, pqC]
 refine VlS (v0) ?_
 refine WL.nil (hK2 _ _ ?_)
 refine wp_seq_k fun K3 hK3 => ?_
 refine wp_seq_k fun K4 hK4 => rgn ?_
 refine VlS (.int .i64 0) ?_
 refine WL.nil (hK4 _ _ ?_)
 refine wp_block ?_
 refine wp_loop (fun ac wr => ∃ (t : Nat) (vh : Value), ac = apF (fun f => { tmps := #[.slice la n cap, undef, .bool false, vh, .int .i64 (t : Int), undef, undef, v0, f 8, f 9, f 10, f 11, f 12, f 13, f 14, f 15, f 16, f 17, f 18, f 19, f 20, f 21, undef, undef, undef, undef, undef, undef, undef, undef, undef, undef, undef, undef, undef, undef, undef, undef, undef, undef, undef, undef, undef, undef, undef, undef, undef, undef, undef, undef, undef, undef, undef, undef, undef], defers := [] }) ac ∧ t ≤ n ∧ wr.ownsRow w.heap.size 25 32 vh (HSl (rs.take t)).length (flatH (HSl (rs.take t))) ∧ Below w.heap.size w wr) (fun a _ => n - (intOf (a.tmps.getD 4 undef)).toNat) ⟨0, v0, rfl, by omega, O0.out, B0.out⟩ ?_
 rintro ac wr ⟨t, vh, hac, ht, hO, hb⟩
 obtain ⟨f, rfl⟩ := unF hac
 have O1 := Keep.mk hO
 have B1 := Keep.mk hb
 clear hO hb
 by_cases htl : t < n
 ·have htl' : (t : Int) < (n : Int) := by omega
  have hw3 : IntKind.i64.wrap ((t : Int) + 1) = ((t + 1 : Nat) : Int) := by rw [IntKind.wrap_i64]; have := HN.out; omega
  have X1 := Keep.mk (HX.out.below B1.out)
  obtain ⟨g, hla⟩ := HG.out (by omega)
  subst hla
  obtain ⟨ut, Hu⟩ : ∃ z, Keep (us[t]? = some z) := ⟨us[t]'(by rw [hn.out]; exact htl), ⟨List.getElem?_eq_getElem _⟩⟩
  obtain ⟨rt, Hr⟩ : ∃ z, Keep (rs[t]? = some z) := ⟨rs[t]'(by rw [← HX.out.1, hn.out]; exact htl), ⟨List.getElem?_eq_getElem _⟩⟩
  have Yt := Keep.mk (X1.out.2.1 t ut rt Hu.out Hr.out)
  have cu : wr.cell? ⟨g, t, none⟩ = some ut := by
   rcases X1.out.2.2 with ⟨e, _⟩ | ⟨g', c', e, hc⟩
   ·cases e
   ·injection e with e _ _
    injection e with e
    injection e with e
    subst e
    exact hc t ut Hu.out
  refine wp_seq_k fun K5 hK5 => ?_
  refine wp_seq_k fun K6 hK6 => rgn ?_
  refine VlS (.int .i64 (t : Int)) ?_
  refine VlS (.slice (some ⟨g, 0, none⟩) n cap) ?_
  refine VlS (.int .i64 (n : Int)) ?_
  refine VbT ?_
  refine WL.nil (hK6 _ _ ?_)
  refine wp_cond_true rfl ?_
  refine wp_skip ?_
  refine hK5 _ _ ?_
  refine wp_seq_k fun K7 hK7 => ?_
  refine wp_block ?_
  refine rgn ?_
  refine VlS (vh) ?_
  refine VlS (.slice (some ⟨g, 0, none⟩) n cap) ?_
  refine VlS (.int .i64 (t : Int)) ?_
  refine VlS (.pointer (some ⟨g, t, none⟩)) ?_
  refine WL.val (by kernel_rfl) ut (by go_simp) ?_
  clear cu
  simp only [Act.put, pqA, pqB, pqC]
  refine WL.callF (by kernel_rfl) 23 _ _ rfl Try.in23 #[ut] (by simp [Act.eval]) ?_
  refine (refOf_sha ut rt wr Yt.out (HL.out rt (List.mem_of_getElem? Hr.out))).mono ?_
  rintro e w2 ⟨rfl, k1⟩
  refine ⟨_, rfl, ?_⟩
  rw [shaH_arr]
  have O2 := Keep.mk (owns_below O1.out k1)
  have B2 : Keep (Below w.heap.size w w2) := ⟨B1.out.trans (k1.mono B1.out.size)⟩
  clear k1 O1 B1 X1 Yt
  simp only [Act.put, pqA, pqB, pqC]
  refine WL.bs (by kernel_rfl) 67 1 _ rfl #[(0, .agg (encH (shaH rt)).toArray)] (by simp [Act.eval]) _ _ (bs1H (shaH rt) w2) ?_
  have b3 := below_new w2 (.cells (encH (shaH rt)).toArray 25)
  have Q3 := Keep.mk (Blk.new w2 25 (encH (shaH rt)).toArray)
  have O3 := Keep.mk (owns_below O2.out b3)
  have B3 : Keep (Below w.heap.size w _) := ⟨B2.out.trans (b3.mono B2.out.size)⟩
  generalize w2.alloc (.cells (encH (shaH rt)).toArray 25) = w3 at *
  obtain ⟨gg, hg0⟩ : ∃ z, Keep (z = w2.heap.size) := ⟨_, ⟨rfl⟩⟩
  rw [← hg0.out] at Q3 ⊢
  clear b3 O2 B2
  simp only [Act.put, pqA, pqB, pqC]
  refine ⟨wpList_appAt rfl (.tmp 14) (.tmp 20) rfl w.heap.size vh (HSl (rs.take t)) [shaH rt] gg 0 1 rfl rfl O3.out (by have h := blk_range Q3.out; simpa [flatH] using h) (by have := HN.out; simp [HSl]; omega) B3.out.size (fun v4 w4 k1 k2 k3 => WL.out ?_)⟩
  have O4 : Keep (w4.ownsRow w.heap.size 25 32 v4 (HSl (rs.take (t + 1))).length (flatH (HSl (rs.take (t + 1))))) := ⟨by
   have e : HSl (rs.take (t + 1)) = HSl (rs.take t) ++ [shaH rt] := by simp [HSl, List.take_add_one, Hr.out]
   rw [e]; exact k1⟩
  have B4 : Keep (Below w.heap.size w w4) := ⟨B3.out.trans ((Grown.of (S := fun k => w.heap.size ≤ k) k2 fun k _ e => (owns_lt O3.out k e).1).to_below (fun k hk e => by omega) B3.out.size)⟩
  clear k1 k2 k3 O3 B3 Q3 hg0
  simp only [Act.put, pqA, pqB, pqC]
  refine VlS (v4) ?_
  refine WL.nil (hK7 _ _ ?_)
  refine rgn ?_
  refine VlS (.int .i64 (t : Int)) ?_
  refine VlS (.int .i64 ((t + 1 : Nat) : Int)) ?_
  refine VlS (.int .i64 ((t + 1 : Nat) : Int)) ?_
  refine WL.nil ?_
  refine ⟨⟨t + 1, v4, rfl, by omega, O4.out, B4.out⟩, ?_⟩
  simp only [intOf]; show n - (((t + 1 : Nat) : Int)).toNat < n - ((t : Int)).toNat; omega
 ·have htl' : ¬ (t : Int) < (n : Int) := by omega
  have O5 : Keep (wr.ownsRow w.heap.size 25 32 vh (HSl rs).length (flatH (HSl rs))) := ⟨by
   have h := O1.out
   rw [List.take_of_length_le (by rw [← HX.out.1, hn.out]; omega)] at h
   exact h⟩
  clear O1
  refine wp_seq_k fun K8 hK8 => ?_
  refine wp_seq_k fun K9 hK9 => rgn ?_
  refine VlS (.int .i64 (t : Int)) ?_
  refine VlS (.slice la n cap) ?_
  refine VlS (.int .i64 (n : Int)) ?_
  refine VbF ?_
  refine WL.nil (hK9 _ _ ?_)
  refine wp_cond_false rfl ?_
  refine wp_exit ?_
  refine hK3 _ _ ?_
  refine wp_seq_k fun K10 hK10 => ?_
  refine wp_seq_k fun K11 hK11 => rgn ?_
  refine VlS (.int .i64 0) ?_
  refine WL.nil (hK11 _ _ ?_)
  refine wp_block ?_
  refine wp_loop (fun ac wq => ∃ (p : Nat), ac = apF (fun ff => { tmps := #[.slice la n cap, undef, ff 2, vh, .int .i64 (t : Int), .int .i64 (p : Int), ff 6, v0, .int .i64 (t : Int), .slice la n cap, .int .i64 (n : Int), .bool false, f 12, f 13, f 14, f 15, f 16, f 17, f 18, f 19, f 20, f 21, ff 22, ff 23, ff 24, ff 25, ff 26, ff 27, ff 28, ff 29, ff 30, ff 31, ff 32, ff 33, ff 34, ff 35, ff 36, ff 37, ff 38, ff 39, ff 40, ff 41, ff 42, ff 43, ff 44, ff 45, ff 46, ff 47, ff 48, ff 49, ff 50, ff 51, ff 52, ff 53, ff 54], defers := [] }) ac ∧ p ≤ n ∧ wq.ownsRow w.heap.size 25 32 vh (HSl rs).length (flatH (HSl rs)) ∧ Below w.heap.size w wq ∧ (∀ i j, j < i → i < p → ¬ Twi rs i j)) (fun a _ => n - (intOf (a.tmps.getD 5 undef)).toNat) ⟨0, rfl, by omega, O5.out, B1.out, fun i j _ h => by omega⟩ ?_
  rintro ac wq ⟨p, hac, hp, hO2, hb2, hJ⟩
  obtain ⟨ff, rfl⟩ := unF hac
  have O6 := Keep.mk hO2
  have B6 := Keep.mk hb2
  have HJ := Keep.mk hJ
  clear hO2 hb2 hJ
  by_cases hpl : p < n
  ·have hpl' : (p : Int) < (n : Int) := by omega
   have hwp : IntKind.i64.wrap ((p : Int) + 1) = ((p + 1 : Nat) : Int) := by rw [IntKind.wrap_i64]; have := HN.out; omega
   refine wp_seq_k fun K12 hK12 => ?_
   refine wp_seq_k fun K13 hK13 => rgn ?_
   refine VlS (.int .i64 (p : Int)) ?_
   refine VlS (.slice la n cap) ?_
   refine VlS (.int .i64 (n : Int)) ?_
   refine VbT ?_
   refine WL.nil (hK13 _ _ ?_)
   refine wp_cond_true rfl ?_
   refine wp_skip ?_
   refine hK12 _ _ ?_
   refine wp_seq_k fun K14 hK14 => ?_
   refine wp_block ?_
   refine wp_seq_k fun K15 hK15 => rgn ?_
   refine VlS (.int .i64 0) ?_
   refine WL.nil (hK15 _ _ ?_)
   refine wp_block ?_
   refine wp_loop (fun ac wt => ∃ (q : Nat), ac = apF (fun fg => { tmps := #[.slice la n cap, undef, fg 2, vh, .int .i64 (t : Int), .int .i64 (p : Int), .int .i64 (q : Int), v0, .int .i64 (t : Int), .slice la n cap, .int .i64 (n : Int), .bool false, f 12, f 13, f 14, f 15, f 16, f 17, f 18, f 19, f 20, f 21, .int .i64 (p : Int), .slice la n cap, .int .i64 (n : Int), .bool true, ff 26, ff 27, fg 28, fg 29, fg 30, fg 31, fg 32, fg 33, fg 34, fg 35, fg 36, fg 37, fg 38, fg 39, fg 40, fg 41, fg 42, fg 43, fg 44, fg 45, fg 46, fg 47, fg 48, fg 49, fg 50, fg 51, fg 52, fg 53, fg 54], defers := [] }) ac ∧ q ≤ p ∧ wt.ownsRow w.heap.size 25 32 vh (HSl rs).length (flatH (HSl rs)) ∧ Below w.heap.size w wt ∧ (∀ j, j < q → ¬ Twi rs p j)) (fun a _ => p - (intOf (a.tmps.getD 6 undef)).toNat) ⟨0, rfl, by omega, O6.out, B6.out, fun j h => by omega⟩ ?_
   rintro ac wt ⟨q, hac, hq, hO3, hb3, hI⟩
   obtain ⟨fg, rfl⟩ := unF hac
   have O7 := Keep.mk hO3
   have B7 := Keep.mk hb3
   have HI := Keep.mk hI
   clear hO3 hb3 hI
   by_cases hql : q < p
   ·have hql' : (q : Int) < (p : Int) := by omega
    have hqn : (q : Int) < (n : Int) := by omega
    have hwq : IntKind.i64.wrap ((q : Int) + 1) = ((q + 1 : Nat) : Int) := by rw [IntKind.wrap_i64]; have := HN.out; omega
    obtain ⟨g, hla⟩ := HG.out (by omega)
    subst hla
    obtain ⟨up, Hup⟩ : ∃ z, Keep (us[p]? = some z) := ⟨us[p]'(by rw [hn.out]; exact hpl), ⟨List.getElem?_eq_getElem _⟩⟩
    obtain ⟨rp, Hrp⟩ : ∃ z, Keep (rs[p]? = some z) := ⟨rs[p]'(by rw [← HX.out.1, hn.out]; exact hpl), ⟨List.getElem?_eq_getElem _⟩⟩
    obtain ⟨uq, Huq⟩ : ∃ z, Keep (us[q]? = some z) := ⟨us[q]'(by rw [hn.out]; omega), ⟨List.getElem?_eq_getElem _⟩⟩
    obtain ⟨rq, Hrq⟩ : ∃ z, Keep (rs[q]? = some z) := ⟨rs[q]'(by rw [← HX.out.1, hn.out]; omega), ⟨List.getElem?_eq_getElem _⟩⟩
    obtain ⟨xp, exp⟩ : ∃ z, Keep (z = shaH rp) := ⟨_, ⟨rfl⟩⟩
    obtain ⟨xq, exq⟩ : ∃ z, Keep (z = shaH rq) := ⟨_, ⟨rfl⟩⟩
    obtain ⟨hp_, hpe⟩ : ∃ z : Array Value, Keep (z = bytesA 32 xp.f) := ⟨_, ⟨rfl⟩⟩
    obtain ⟨hq_, hqe⟩ : ∃ z : Array Value, Keep (z = bytesA 32 xq.f) := ⟨_, ⟨rfl⟩⟩
    obtain ⟨gh, ch, hvh, hgB, hnc⟩ : ∃ gh ch, vh = .slice (some ⟨gh, 0, none⟩) n ch ∧ gh < wt.heap.size ∧ n ≤ ch := by
     obtain ⟨gh, ch, e1, e2, e3, e4⟩ := ownsH_form O7.out (by simp [HSl]; rw [← HX.out.1, hn.out]; omega)
     refine ⟨gh, ch, ?_, e4, ?_⟩
     ·rw [e1]; congr 1; simp [HSl]; rw [← HX.out.1, hn.out]
     ·have : (HSl rs).length = n := by simp [HSl]; rw [← HX.out.1, hn.out]
      omega
    subst hvh
    have hS0 : Keep (∀ wx : World, Below wt.heap.size wt wx → (RsV wx (.slice (some ⟨g, 0, none⟩) n cap) us rs ∧ wx.rangeAt gh (p * 32) hp_.toList ∧ wx.rangeAt gh (q * 32) hq_.toList ∧ wx.cell? ⟨g, p, none⟩ = some up ∧ wx.cell? ⟨g, q, none⟩ = some uq)) := ⟨fun wx hb => by
     have X := (HX.out.below B7.out).below hb
     have O := owns_below O7.out hb
     have hcl : wx.rangeAt gh 0 (flatH (HSl rs)) := fun j v hv => by
      have := O.cells (g := gh) rfl j v hv
      rw [Addr.add_mid] at this
      exact this
     have hcu : ∀ j u, us[j]? = some u → wx.cell? ⟨g, j, none⟩ = some u := by
      rcases X.2.2 with ⟨e, _⟩ | ⟨g', c', e, hc⟩
      ·cases e
      ·injection e with e _ _
       injection e with e
       injection e with e
       subst e
       exact hc
     have hel : ∀ (j : Nat) (r : List Int), rs[j]? = some r → wx.rangeAt gh (j * 32) (encH (shaH r)) := fun j r hr => by
      have hj := (List.getElem?_eq_some_iff.1 hr).1
      have h := rangeAt_elem hcl j (by simpa [HSl] using hj)
      rw [Nat.zero_add] at h
      have e : (HSl rs)[j]'(by simpa [HSl] using hj) = shaH r := by
       have := (List.getElem?_eq_some_iff.1 hr).2
       simp [HSl, this]
      rw [e] at h
      exact h
     refine ⟨X, ?_, ?_, hcu p up Hup.out, hcu q uq Huq.out⟩
     ·rw [hpe.out, exp.out]; exact hel p rp Hrp.out
     ·rw [hqe.out, exq.out]; exact hel q rq Hrq.out⟩
    have hYp : Keep (∀ wx : World, RsV wx (.slice (some ⟨g, 0, none⟩) n cap) us rs → RowAt wx up rp ∧ RowAt wx uq rq) := ⟨fun wx h => ⟨h.2.1 p up rp Hup.out Hrp.out, h.2.1 q uq rq Huq.out Hrq.out⟩⟩
    have O8 := Keep.mk (owns_below O7.out (Below.refl wt.heap.size wt).drew)
    have B8 : Keep (Below w.heap.size w wt.drew) := ⟨B7.out.drew⟩
    by_cases heq : decide (xp = xq) = true
    ·have HE := Keep.mk heq
     clear heq
     by_cases hst : (strOfNums rp).toList = (strOfNums rq).toList
     ·have HS_ : Keep (strOfNums rp = strOfNums rq) := ⟨toL_inj hst⟩
      refine wp_seq_k fun K16 hK16 => ?_
      refine wp_seq_k fun K17 hK17 => rgn ?_
      refine VlS (.int .i64 (q : Int)) ?_
      refine VlS (.int .i64 (p : Int)) ?_
      refine VbT ?_
      refine WL.nil (hK17 _ _ ?_)
      refine wp_cond_true rfl ?_
      refine wp_skip ?_
      refine hK16 _ _ ?_
      refine wp_seq_k fun K18 hK18 => ?_
      refine wp_block ?_
      refine wp_seq_k fun K19 hK19 => ?_
      refine wp_region_held_drew (S := fun wx => RsV wx (.slice (some ⟨g, 0, none⟩) n cap) us rs ∧ wx.rangeAt gh (p * 32) hp_.toList ∧ wx.rangeAt gh (q * 32) hq_.toList ∧ wx.cell? ⟨g, p, none⟩ = some up ∧ wx.cell? ⟨g, q, none⟩ = some uq) (by kernel_rfl) (hS0.out _ (Below.refl _ _).drew) (fun hHeld => ?_)
      refine tkS (i := 0) (oi := ⟨some 33, Op.move (Operand.tmp 3), 67, _, _, none⟩) (v := .slice (some ⟨gh, 0, none⟩) n ch) rfl (Or.inl ⟨by rfl, fun w hS => by obtain ⟨hS1, hS2, hS3, hS4, hS5⟩ := hS; clear hS1 hS2 hS3; go_simp⟩) hHeld ?_
      refine tkS (i := 1) (oi := ⟨some 34, Op.move (Operand.tmp 5), 3, _, _, none⟩) (v := .int .i64 (p : Int)) rfl (Or.inl ⟨by rfl, fun w hS => by obtain ⟨hS1, hS2, hS3, hS4, hS5⟩ := hS; clear hS1 hS2 hS3; go_simp⟩) hHeld ?_
      refine tkS (i := 4) (oi := ⟨some 37, Op.move (Operand.tmp 3), 67, _, _, none⟩) (v := .slice (some ⟨gh, 0, none⟩) n ch) rfl (Or.inl ⟨by rfl, fun w hS => by obtain ⟨hS1, hS2, hS3, hS4, hS5⟩ := hS; clear hS1 hS2 hS3; go_simp⟩) hHeld ?_
      refine tkS (i := 5) (oi := ⟨some 38, Op.move (Operand.tmp 6), 3, _, _, none⟩) (v := .int .i64 (q : Int)) rfl (Or.inl ⟨by rfl, fun w hS => by obtain ⟨hS1, hS2, hS3, hS4, hS5⟩ := hS; clear hS1 hS2 hS3; go_simp⟩) hHeld ?_
      refine tkS (i := 2) (oi := ⟨some 35, Op.indexAddr 67 (Operand.tmp 33) (Operand.tmp 34), 0, _, _, none⟩) (v := .pointer (some ⟨gh, p * 32, none⟩)) rfl (Or.inl ⟨by rfl, fun w hS => by obtain ⟨hS1, hS2, hS3, hS4, hS5⟩ := hS; clear hS1 hS2 hS3; go_simp⟩) hHeld ?_
      refine tkS (i := 6) (oi := ⟨some 39, Op.indexAddr 67 (Operand.tmp 37) (Operand.tmp 38), 0, _, _, none⟩) (v := .pointer (some ⟨gh, q * 32, none⟩)) rfl (Or.inl ⟨by rfl, fun w hS => by obtain ⟨hS1, hS2, hS3, hS4, hS5⟩ := hS; clear hS1 hS2 hS3; go_simp⟩) hHeld ?_
      refine tkS (i := 3) (oi := ⟨some 36, Op.load 25 (Operand.tmp 35), 25, _, _, none⟩) (v := .agg hp_) rfl (yieldsIf_ld (by rfl) (Operand.tmp 35) 25 rfl gh (p * 32) rfl hp_ _ Try.underlying25 rfl (by rw [hpe.out]; exact Try.size25B _) fun w hS => hS.2.1) hHeld ?_
      refine tkS (i := 7) (oi := ⟨some 40, Op.load 25 (Operand.tmp 39), 25, _, _, none⟩) (v := .agg hq_) rfl (yieldsIf_ld (by rfl) (Operand.tmp 39) 25 rfl gh (q * 32) rfl hq_ _ Try.underlying25 rfl (by rw [hqe.out]; exact Try.size25B _) fun w hS => hS.2.2.1) hHeld ?_
      refine tkS (i := 8) (oi := ⟨some 41, Op.binOp BinOp.eql 25 (Operand.tmp 36) (Operand.tmp 40) 25, 4, _, _, none⟩) (v := .bool true) rfl (Or.inl ⟨by rfl, fun w hS => by have hq_ := eqB hpe.out hqe.out HE.out w; clear hS; go_simp⟩) hHeld ?_
      refine tkS (i := 9) (oi := ⟨some 42, Op.move (Operand.tmp 41), 4, _, _, none⟩) (v := .bool true) rfl (Or.inl ⟨by rfl, fun w hS => by obtain ⟨hS1, hS2, hS3, hS4, hS5⟩ := hS; clear hS1 hS2 hS3; go_simp⟩) hHeld ?_
      refine tkS (i := 10) (oi := ⟨some 43, Op.move (Operand.tmp 0), 59, _, _, some (9, true)⟩) (v := .slice (some ⟨g, 0, none⟩) n cap) rfl (Or.inl ⟨by rfl, fun w hS => by obtain ⟨hS1, hS2, hS3, hS4, hS5⟩ := hS; clear hS1 hS2 hS3; go_simp⟩) hHeld ?_
      refine tkS (i := 11) (oi := ⟨some 44, Op.move (Operand.tmp 5), 3, _, _, some (9, true)⟩) (v := .int .i64 (p : Int)) rfl (Or.inl ⟨by rfl, fun w hS => by obtain ⟨hS1, hS2, hS3, hS4, hS5⟩ := hS; clear hS1 hS2 hS3; go_simp⟩) hHeld ?_
      refine tkS (i := 15) (oi := ⟨some 48, Op.move (Operand.tmp 0), 59, _, _, some (9, true)⟩) (v := .slice (some ⟨g, 0, none⟩) n cap) rfl (Or.inl ⟨by rfl, fun w hS => by obtain ⟨hS1, hS2, hS3, hS4, hS5⟩ := hS; clear hS1 hS2 hS3; go_simp⟩) hHeld ?_
      refine tkS (i := 16) (oi := ⟨some 49, Op.move (Operand.tmp 6), 3, _, _, some (9, true)⟩) (v := .int .i64 (q : Int)) rfl (Or.inl ⟨by rfl, fun w hS => by obtain ⟨hS1, hS2, hS3, hS4, hS5⟩ := hS; clear hS1 hS2 hS3; go_simp⟩) hHeld ?_
      refine tkS (i := 12) (oi := ⟨some 45, Op.indexAddr 59 (Operand.tmp 43) (Operand.tmp 44), 0, _, _, some (9, true)⟩) (v := .pointer (some ⟨g, p, none⟩)) rfl (Or.inl ⟨by rfl, fun w hS => by obtain ⟨hS1, hS2, hS3, hS4, hS5⟩ := hS; clear hS1 hS2 hS3; go_simp⟩) hHeld ?_
      refine tkS (i := 17) (oi := ⟨some 50, Op.indexAddr 59 (Operand.tmp 48) (Operand.tmp 49), 0, _, _, some (9, true)⟩) (v := .pointer (some ⟨g, q, none⟩)) rfl (Or.inl ⟨by rfl, fun w hS => by obtain ⟨hS1, hS2, hS3, hS4, hS5⟩ := hS; clear hS1 hS2 hS3; go_simp⟩) hHeld ?_
      refine tkS (i := 13) (oi := ⟨some 46, Op.load 38 (Operand.tmp 45), 38, _, _, some (9, true)⟩) (v := up) rfl (Or.inl ⟨by rfl, fun w hS => by obtain ⟨hS1, hS2, hS3, hS4, hS5⟩ := hS; clear hS1 hS2 hS3; go_simp⟩) hHeld ?_
      refine tkS (i := 18) (oi := ⟨some 51, Op.load 38 (Operand.tmp 50), 38, _, _, some (9, true)⟩) (v := uq) rfl (Or.inl ⟨by rfl, fun w hS => by obtain ⟨hS1, hS2, hS3, hS4, hS5⟩ := hS; clear hS1 hS2 hS3; go_simp⟩) hHeld ?_
      refine tkS (i := 14) (oi := ⟨some 47, Op.convert 38 9 (Operand.tmp 46), 9, _, _, some (9, true)⟩) (v := .string (strOfNums rp)) rfl (Or.inl ⟨by rfl, fun w hS => by have hc_ := conv_row _ _ w (hYp.out w hS.1).1; clear hS; go_simp⟩) hHeld ?_
      refine tkS (i := 19) (oi := ⟨some 52, Op.convert 38 9 (Operand.tmp 51), 9, _, _, some (9, true)⟩) (v := .string (strOfNums rq)) rfl (Or.inl ⟨by rfl, fun w hS => by have hc_ := conv_row _ _ w (hYp.out w hS.1).2; clear hS; go_simp⟩) hHeld ?_
      refine tkS (i := 20) (oi := ⟨some 53, Op.binOp BinOp.neq 9 (Operand.tmp 47) (Operand.tmp 52) 9, 4, _, _, some (9, true)⟩) (v := .bool false) rfl (Or.inl ⟨by rfl, fun w hS => by obtain ⟨hS1, hS2, hS3, hS4, hS5⟩ := hS; clear hS1 hS2 hS3; go_simp⟩) hHeld ?_
      refine tkS (i := 21) (oi := ⟨some 54, Op.pick (Operand.tmp 42) (Operand.tmp 53) (Operand.const (Value.bool false)), 4, _, _, none⟩) (v := .bool false) rfl (Or.inl ⟨by rfl, fun w hS => by obtain ⟨hS1, hS2, hS3, hS4, hS5⟩ := hS; clear hS1 hS2 hS3; go_simp⟩) hHeld ?_
      refine wpAnyH_done (by kernel_rfl) ?_ _
      refine hK19 _ _ ?_
      refine wp_cond_false rfl ?_
      refine wp_skip ?_
      refine hK18 _ _ ?_
      refine rgn ?_
      refine VlS (.int .i64 (q : Int)) ?_
      refine VlS (.int .i64 ((q + 1 : Nat) : Int)) ?_
      refine VlS (.int .i64 ((q + 1 : Nat) : Int)) ?_
      refine WL.nil ?_
      refine ⟨⟨q + 1, rfl, by omega, O8.out, B8.out, fun j hj => ?_⟩, ?_⟩
      ·by_cases e : j = q
       ·subst e
        rintro ⟨a, b, h1, h2, h3, h4⟩
        rw [Hrp.out] at h1; rw [Hrq.out] at h2
        injection h1 with h1; injection h2 with h2
        subst h1 h2
        exact h4 HS_.out
       ·exact HI.out j (by omega)
      ·simp only [intOf]; show p - (((q + 1 : Nat) : Int)).toNat < p - ((q : Int)).toNat; omega
     ·refine wp_seq_k fun K20 hK20 => ?_
      refine wp_seq_k fun K21 hK21 => rgn ?_
      refine VlS (.int .i64 (q : Int)) ?_
      refine VlS (.int .i64 (p : Int)) ?_
      refine VbT ?_
      refine WL.nil (hK21 _ _ ?_)
      refine wp_cond_true rfl ?_
      refine wp_skip ?_
      refine hK20 _ _ ?_
      refine wp_seq_k fun K22 hK22 => ?_
      refine wp_block ?_
      refine wp_seq_k fun K23 hK23 => ?_
      refine wp_region_held_drew (S := fun wx => RsV wx (.slice (some ⟨g, 0, none⟩) n cap) us rs ∧ wx.rangeAt gh (p * 32) hp_.toList ∧ wx.rangeAt gh (q * 32) hq_.toList ∧ wx.cell? ⟨g, p, none⟩ = some up ∧ wx.cell? ⟨g, q, none⟩ = some uq) (by kernel_rfl) (hS0.out _ (Below.refl _ _).drew) (fun hHeld => ?_)
      refine tkS (i := 0) (oi := ⟨some 33, Op.move (Operand.tmp 3), 67, _, _, none⟩) (v := .slice (some ⟨gh, 0, none⟩) n ch) rfl (Or.inl ⟨by rfl, fun w hS => by obtain ⟨hS1, hS2, hS3, hS4, hS5⟩ := hS; clear hS1 hS2 hS3; go_simp⟩) hHeld ?_
      refine tkS (i := 1) (oi := ⟨some 34, Op.move (Operand.tmp 5), 3, _, _, none⟩) (v := .int .i64 (p : Int)) rfl (Or.inl ⟨by rfl, fun w hS => by obtain ⟨hS1, hS2, hS3, hS4, hS5⟩ := hS; clear hS1 hS2 hS3; go_simp⟩) hHeld ?_
      refine tkS (i := 4) (oi := ⟨some 37, Op.move (Operand.tmp 3), 67, _, _, none⟩) (v := .slice (some ⟨gh, 0, none⟩) n ch) rfl (Or.inl ⟨by rfl, fun w hS => by obtain ⟨hS1, hS2, hS3, hS4, hS5⟩ := hS; clear hS1 hS2 hS3; go_simp⟩) hHeld ?_
      refine tkS (i := 5) (oi := ⟨some 38, Op.move (Operand.tmp 6), 3, _, _, none⟩) (v := .int .i64 (q : Int)) rfl (Or.inl ⟨by rfl, fun w hS => by obtain ⟨hS1, hS2, hS3, hS4, hS5⟩ := hS; clear hS1 hS2 hS3; go_simp⟩) hHeld ?_
      refine tkS (i := 2) (oi := ⟨some 35, Op.indexAddr 67 (Operand.tmp 33) (Operand.tmp 34), 0, _, _, none⟩) (v := .pointer (some ⟨gh, p * 32, none⟩)) rfl (Or.inl ⟨by rfl, fun w hS => by obtain ⟨hS1, hS2, hS3, hS4, hS5⟩ := hS; clear hS1 hS2 hS3; go_simp⟩) hHeld ?_
      refine tkS (i := 6) (oi := ⟨some 39, Op.indexAddr 67 (Operand.tmp 37) (Operand.tmp 38), 0, _, _, none⟩) (v := .pointer (some ⟨gh, q * 32, none⟩)) rfl (Or.inl ⟨by rfl, fun w hS => by obtain ⟨hS1, hS2, hS3, hS4, hS5⟩ := hS; clear hS1 hS2 hS3; go_simp⟩) hHeld ?_
      refine tkS (i := 3) (oi := ⟨some 36, Op.load 25 (Operand.tmp 35), 25, _, _, none⟩) (v := .agg hp_) rfl (yieldsIf_ld (by rfl) (Operand.tmp 35) 25 rfl gh (p * 32) rfl hp_ _ Try.underlying25 rfl (by rw [hpe.out]; exact Try.size25B _) fun w hS => hS.2.1) hHeld ?_
      refine tkS (i := 7) (oi := ⟨some 40, Op.load 25 (Operand.tmp 39), 25, _, _, none⟩) (v := .agg hq_) rfl (yieldsIf_ld (by rfl) (Operand.tmp 39) 25 rfl gh (q * 32) rfl hq_ _ Try.underlying25 rfl (by rw [hqe.out]; exact Try.size25B _) fun w hS => hS.2.2.1) hHeld ?_
      refine tkS (i := 8) (oi := ⟨some 41, Op.binOp BinOp.eql 25 (Operand.tmp 36) (Operand.tmp 40) 25, 4, _, _, none⟩) (v := .bool true) rfl (Or.inl ⟨by rfl, fun w hS => by have hq_ := eqB hpe.out hqe.out HE.out w; clear hS; go_simp⟩) hHeld ?_
      refine tkS (i := 9) (oi := ⟨some 42, Op.move (Operand.tmp 41), 4, _, _, none⟩) (v := .bool true) rfl (Or.inl ⟨by rfl, fun w hS => by obtain ⟨hS1, hS2, hS3, hS4, hS5⟩ := hS; clear hS1 hS2 hS3; go_simp⟩) hHeld ?_
      refine tkS (i := 10) (oi := ⟨some 43, Op.move (Operand.tmp 0), 59, _, _, some (9, true)⟩) (v := .slice (some ⟨g, 0, none⟩) n cap) rfl (Or.inl ⟨by rfl, fun w hS => by obtain ⟨hS1, hS2, hS3, hS4, hS5⟩ := hS; clear hS1 hS2 hS3; go_simp⟩) hHeld ?_
      refine tkS (i := 11) (oi := ⟨some 44, Op.move (Operand.tmp 5), 3, _, _, some (9, true)⟩) (v := .int .i64 (p : Int)) rfl (Or.inl ⟨by rfl, fun w hS => by obtain ⟨hS1, hS2, hS3, hS4, hS5⟩ := hS; clear hS1 hS2 hS3; go_simp⟩) hHeld ?_
      refine tkS (i := 15) (oi := ⟨some 48, Op.move (Operand.tmp 0), 59, _, _, some (9, true)⟩) (v := .slice (some ⟨g, 0, none⟩) n cap) rfl (Or.inl ⟨by rfl, fun w hS => by obtain ⟨hS1, hS2, hS3, hS4, hS5⟩ := hS; clear hS1 hS2 hS3; go_simp⟩) hHeld ?_
      refine tkS (i := 16) (oi := ⟨some 49, Op.move (Operand.tmp 6), 3, _, _, some (9, true)⟩) (v := .int .i64 (q : Int)) rfl (Or.inl ⟨by rfl, fun w hS => by obtain ⟨hS1, hS2, hS3, hS4, hS5⟩ := hS; clear hS1 hS2 hS3; go_simp⟩) hHeld ?_
      refine tkS (i := 12) (oi := ⟨some 45, Op.indexAddr 59 (Operand.tmp 43) (Operand.tmp 44), 0, _, _, some (9, true)⟩) (v := .pointer (some ⟨g, p, none⟩)) rfl (Or.inl ⟨by rfl, fun w hS => by obtain ⟨hS1, hS2, hS3, hS4, hS5⟩ := hS; clear hS1 hS2 hS3; go_simp⟩) hHeld ?_
      refine tkS (i := 17) (oi := ⟨some 50, Op.indexAddr 59 (Operand.tmp 48) (Operand.tmp 49), 0, _, _, some (9, true)⟩) (v := .pointer (some ⟨g, q, none⟩)) rfl (Or.inl ⟨by rfl, fun w hS => by obtain ⟨hS1, hS2, hS3, hS4, hS5⟩ := hS; clear hS1 hS2 hS3; go_simp⟩) hHeld ?_
      refine tkS (i := 13) (oi := ⟨some 46, Op.load 38 (Operand.tmp 45), 38, _, _, some (9, true)⟩) (v := up) rfl (Or.inl ⟨by rfl, fun w hS => by obtain ⟨hS1, hS2, hS3, hS4, hS5⟩ := hS; clear hS1 hS2 hS3; go_simp⟩) hHeld ?_
      refine tkS (i := 18) (oi := ⟨some 51, Op.load 38 (Operand.tmp 50), 38, _, _, some (9, true)⟩) (v := uq) rfl (Or.inl ⟨by rfl, fun w hS => by obtain ⟨hS1, hS2, hS3, hS4, hS5⟩ := hS; clear hS1 hS2 hS3; go_simp⟩) hHeld ?_
      refine tkS (i := 14) (oi := ⟨some 47, Op.convert 38 9 (Operand.tmp 46), 9, _, _, some (9, true)⟩) (v := .string (strOfNums rp)) rfl (Or.inl ⟨by rfl, fun w hS => by have hc_ := conv_row _ _ w (hYp.out w hS.1).1; clear hS; go_simp⟩) hHeld ?_
      refine tkS (i := 19) (oi := ⟨some 52, Op.convert 38 9 (Operand.tmp 51), 9, _, _, some (9, true)⟩) (v := .string (strOfNums rq)) rfl (Or.inl ⟨by rfl, fun w hS => by have hc_ := conv_row _ _ w (hYp.out w hS.1).2; clear hS; go_simp⟩) hHeld ?_
      refine tkS (i := 20) (oi := ⟨some 53, Op.binOp BinOp.neq 9 (Operand.tmp 47) (Operand.tmp 52) 9, 4, _, _, some (9, true)⟩) (v := .bool true) rfl (Or.inl ⟨by rfl, fun w hS => by obtain ⟨hS1, hS2, hS3, hS4, hS5⟩ := hS; clear hS1 hS2 hS3; go_simp⟩) hHeld ?_
      refine tkS (i := 21) (oi := ⟨some 54, Op.pick (Operand.tmp 42) (Operand.tmp 53) (Operand.const (Value.bool false)), 4, _, _, none⟩) (v := .bool true) rfl (Or.inl ⟨by rfl, fun w hS => by obtain ⟨hS1, hS2, hS3, hS4, hS5⟩ := hS; clear hS1 hS2 hS3; go_simp⟩) hHeld ?_
      refine wpAnyH_done (by kernel_rfl) ?_ _
      refine hK23 _ _ ?_
      refine wp_cond_true rfl ?_
      refine wp_seq_k fun K24 hK24 => rgn ?_
      refine VbT ?_
      refine WL.nil (hK24 _ _ ?_)
      refine wp_ret ?_
      try simp only [Exit.inBlock, Exit.then]
      go_ret
      exact ⟨true, rfl, fun _ => rfl, B8.out⟩
    ·have HE : Keep (decide (xp = xq) = false) := ⟨by simpa using heq⟩
     clear heq
     refine wp_seq_k fun K25 hK25 => ?_
     refine wp_seq_k fun K26 hK26 => rgn ?_
     refine VlS (.int .i64 (q : Int)) ?_
     refine VlS (.int .i64 (p : Int)) ?_
     refine VbT ?_
     refine WL.nil (hK26 _ _ ?_)
     refine wp_cond_true rfl ?_
     refine wp_skip ?_
     refine hK25 _ _ ?_
     refine wp_seq_k fun K27 hK27 => ?_
     refine wp_block ?_
     refine wp_seq_k fun K28 hK28 => ?_
     refine wp_region_held_drew (S := fun wx => RsV wx (.slice (some ⟨g, 0, none⟩) n cap) us rs ∧ wx.rangeAt gh (p * 32) hp_.toList ∧ wx.rangeAt gh (q * 32) hq_.toList ∧ wx.cell? ⟨g, p, none⟩ = some up ∧ wx.cell? ⟨g, q, none⟩ = some uq) (by kernel_rfl) (hS0.out _ (Below.refl _ _).drew) (fun hHeld => ?_)
     refine tkS (i := 0) (oi := ⟨some 33, Op.move (Operand.tmp 3), 67, _, _, none⟩) (v := .slice (some ⟨gh, 0, none⟩) n ch) rfl (Or.inl ⟨by rfl, fun w hS => by obtain ⟨hS1, hS2, hS3, hS4, hS5⟩ := hS; clear hS1 hS2 hS3; go_simp⟩) hHeld ?_
     refine tkS (i := 1) (oi := ⟨some 34, Op.move (Operand.tmp 5), 3, _, _, none⟩) (v := .int .i64 (p : Int)) rfl (Or.inl ⟨by rfl, fun w hS => by obtain ⟨hS1, hS2, hS3, hS4, hS5⟩ := hS; clear hS1 hS2 hS3; go_simp⟩) hHeld ?_
     refine tkS (i := 4) (oi := ⟨some 37, Op.move (Operand.tmp 3), 67, _, _, none⟩) (v := .slice (some ⟨gh, 0, none⟩) n ch) rfl (Or.inl ⟨by rfl, fun w hS => by obtain ⟨hS1, hS2, hS3, hS4, hS5⟩ := hS; clear hS1 hS2 hS3; go_simp⟩) hHeld ?_
     refine tkS (i := 5) (oi := ⟨some 38, Op.move (Operand.tmp 6), 3, _, _, none⟩) (v := .int .i64 (q : Int)) rfl (Or.inl ⟨by rfl, fun w hS => by obtain ⟨hS1, hS2, hS3, hS4, hS5⟩ := hS; clear hS1 hS2 hS3; go_simp⟩) hHeld ?_
     refine tkS (i := 2) (oi := ⟨some 35, Op.indexAddr 67 (Operand.tmp 33) (Operand.tmp 34), 0, _, _, none⟩) (v := .pointer (some ⟨gh, p * 32, none⟩)) rfl (Or.inl ⟨by rfl, fun w hS => by obtain ⟨hS1, hS2, hS3, hS4, hS5⟩ := hS; clear hS1 hS2 hS3; go_simp⟩) hHeld ?_
     refine tkS (i := 6) (oi := ⟨some 39, Op.indexAddr 67 (Operand.tmp 37) (Operand.tmp 38), 0, _, _, none⟩) (v := .pointer (some ⟨gh, q * 32, none⟩)) rfl (Or.inl ⟨by rfl, fun w hS => by obtain ⟨hS1, hS2, hS3, hS4, hS5⟩ := hS; clear hS1 hS2 hS3; go_simp⟩) hHeld ?_
     refine tkS (i := 3) (oi := ⟨some 36, Op.load 25 (Operand.tmp 35), 25, _, _, none⟩) (v := .agg hp_) rfl (yieldsIf_ld (by rfl) (Operand.tmp 35) 25 rfl gh (p * 32) rfl hp_ _ Try.underlying25 rfl (by rw [hpe.out]; exact Try.size25B _) fun w hS => hS.2.1) hHeld ?_
     refine tkS (i := 7) (oi := ⟨some 40, Op.load 25 (Operand.tmp 39), 25, _, _, none⟩) (v := .agg hq_) rfl (yieldsIf_ld (by rfl) (Operand.tmp 39) 25 rfl gh (q * 32) rfl hq_ _ Try.underlying25 rfl (by rw [hqe.out]; exact Try.size25B _) fun w hS => hS.2.2.1) hHeld ?_
     refine tkS (i := 8) (oi := ⟨some 41, Op.binOp BinOp.eql 25 (Operand.tmp 36) (Operand.tmp 40) 25, 4, _, _, none⟩) (v := .bool false) rfl (Or.inl ⟨by rfl, fun w hS => by have hq_ := eqB hpe.out hqe.out HE.out w; clear hS; go_simp⟩) hHeld ?_
     refine tkS (i := 9) (oi := ⟨some 42, Op.move (Operand.tmp 41), 4, _, _, none⟩) (v := .bool false) rfl (Or.inl ⟨by rfl, fun w hS => by obtain ⟨hS1, hS2, hS3, hS4, hS5⟩ := hS; clear hS1 hS2 hS3; go_simp⟩) hHeld ?_
     refine tkS (i := 10) (oi := ⟨some 43, Op.move (Operand.tmp 0), 59, _, _, some (9, true)⟩) (v := undef) rfl (Or.inr ⟨by rfl, rfl⟩) hHeld ?_
     refine tkS (i := 11) (oi := ⟨some 44, Op.move (Operand.tmp 5), 3, _, _, some (9, true)⟩) (v := undef) rfl (Or.inr ⟨by rfl, rfl⟩) hHeld ?_
     refine tkS (i := 15) (oi := ⟨some 48, Op.move (Operand.tmp 0), 59, _, _, some (9, true)⟩) (v := undef) rfl (Or.inr ⟨by rfl, rfl⟩) hHeld ?_
     refine tkS (i := 16) (oi := ⟨some 49, Op.move (Operand.tmp 6), 3, _, _, some (9, true)⟩) (v := undef) rfl (Or.inr ⟨by rfl, rfl⟩) hHeld ?_
     refine tkS (i := 12) (oi := ⟨some 45, Op.indexAddr 59 (Operand.tmp 43) (Operand.tmp 44), 0, _, _, some (9, true)⟩) (v := undef) rfl (Or.inr ⟨by rfl, rfl⟩) hHeld ?_
     refine tkS (i := 17) (oi := ⟨some 50, Op.indexAddr 59 (Operand.tmp 48) (Operand.tmp 49), 0, _, _, some (9, true)⟩) (v := undef) rfl (Or.inr ⟨by rfl, rfl⟩) hHeld ?_
     refine tkS (i := 13) (oi := ⟨some 46, Op.load 38 (Operand.tmp 45), 38, _, _, some (9, true)⟩) (v := undef) rfl (Or.inr ⟨by rfl, rfl⟩) hHeld ?_
     refine tkS (i := 18) (oi := ⟨some 51, Op.load 38 (Operand.tmp 50), 38, _, _, some (9, true)⟩) (v := undef) rfl (Or.inr ⟨by rfl, rfl⟩) hHeld ?_
     refine tkS (i := 14) (oi := ⟨some 47, Op.convert 38 9 (Operand.tmp 46), 9, _, _, some (9, true)⟩) (v := undef) rfl (Or.inr ⟨by rfl, rfl⟩) hHeld ?_
     refine tkS (i := 19) (oi := ⟨some 52, Op.convert 38 9 (Operand.tmp 51), 9, _, _, some (9, true)⟩) (v := undef) rfl (Or.inr ⟨by rfl, rfl⟩) hHeld ?_
     refine tkS (i := 20) (oi := ⟨some 53, Op.binOp BinOp.neq 9 (Operand.tmp 47) (Operand.tmp 52) 9, 4, _, _, some (9, true)⟩) (v := undef) rfl (Or.inr ⟨by rfl, rfl⟩) hHeld ?_
     refine tkS (i := 21) (oi := ⟨some 54, Op.pick (Operand.tmp 42) (Operand.tmp 53) (Operand.const (Value.bool false)), 4, _, _, none⟩) (v := .bool false) rfl (Or.inl ⟨by rfl, fun w hS => by obtain ⟨hS1, hS2, hS3, hS4, hS5⟩ := hS; clear hS1 hS2 hS3; go_simp⟩) hHeld ?_
     refine wpAnyH_done (by kernel_rfl) ?_ _
     refine hK28 _ _ ?_
     refine wp_cond_false rfl ?_
     refine wp_skip ?_
     refine hK27 _ _ ?_
     refine rgn ?_
     refine VlS (.int .i64 (q : Int)) ?_
     refine VlS (.int .i64 ((q + 1 : Nat) : Int)) ?_
     refine VlS (.int .i64 ((q + 1 : Nat) : Int)) ?_
     refine WL.nil ?_
     refine ⟨⟨q + 1, rfl, by omega, O8.out, B8.out, fun j hj => ?_⟩, ?_⟩
     ·by_cases e : j = q
      ·subst e
       rintro ⟨a, b, h1, h2, h3, h4⟩
       rw [Hrp.out] at h1; rw [Hrq.out] at h2
       injection h1 with h1; injection h2 with h2
       subst h1 h2
       have h5 := HE.out
       rw [exp.out, exq.out] at h5
       exact absurd h3 (by simpa using h5)
      ·exact HI.out j (by omega)
     ·simp only [intOf]; show p - (((q + 1 : Nat) : Int)).toNat < p - ((q : Int)).toNat; omega
   ·have hql' : ¬ (q : Int) < (p : Int) := by omega
    refine wp_seq_k fun K29 hK29 => ?_
    refine wp_seq_k fun K30 hK30 => rgn ?_
    refine VlS (.int .i64 (q : Int)) ?_
    refine VlS (.int .i64 (p : Int)) ?_
    refine VbF ?_
    refine WL.nil (hK30 _ _ ?_)
    refine wp_cond_false rfl ?_
    refine wp_exit ?_
    refine hK14 _ _ ?_
    refine rgn ?_
    refine VlS (.int .i64 (p : Int)) ?_
    refine VlS (.int .i64 ((p + 1 : Nat) : Int)) ?_
    refine VlS (.int .i64 ((p + 1 : Nat) : Int)) ?_
    refine WL.nil ?_
    refine ⟨⟨p + 1, rfl, by omega, O7.out, B7.out, fun i j hj hi => ?_⟩, ?_⟩
    ·by_cases e : i = p
     ·subst e; exact HI.out j (by omega)
     ·exact HJ.out i j hj (by omega)
    ·simp only [intOf]; show n - (((p + 1 : Nat) : Int)).toNat < n - ((p : Int)).toNat; omega
  ·have hpl' : ¬ (p : Int) < (n : Int) := by omega
   refine wp_seq_k fun K31 hK31 => ?_
   refine wp_seq_k fun K32 hK32 => rgn ?_
   refine VlS (.int .i64 (p : Int)) ?_
   refine VlS (.slice la n cap) ?_
   refine VlS (.int .i64 (n : Int)) ?_
   refine VbF ?_
   refine WL.nil (hK32 _ _ ?_)
   refine wp_cond_false rfl ?_
   refine wp_exit ?_
   refine hK10 _ _ ?_
   refine wp_seq_k fun K33 hK33 => rgn ?_
   refine VbF ?_
   refine WL.nil (hK33 _ _ ?_)
   refine wp_ret ?_
   try simp only [Exit.inBlock, Exit.then]
   go_ret
   refine ⟨false, rfl, fun hc => ?_, B6.out⟩
   obtain ⟨i, j, h1, h2, h3⟩ := twi_of_cl HBy.out hc
   exact absurd h3 (HJ.out i j h1 (by rw [← HX.out.1, hn.out] at h2; omega))

theorem Try.in37 (w : World) (vs : Array Value) : (callFunc 37 vs).run Try.prog w = .ok (.enter 37 vs) w := by kernel_rfl
def rgtB (n : Nat) (x : LV) (root : Hs) : Bool := match climbL n x.num.toNat (lfH x) x.ps with
 | some (t, _) => decide (shaH (RtP.topR le8 n t) = root)
 | none => false
def rtB (n : Int) (ls : List LV) (root : Hs) : Bool := if n = 0 then decide (shaH (2 :: (le8 0 ++ [])) = root) else ls.all fun x => rgtB n.toNat x root
def SmL (ls : List LV) : Prop := ∀ x ∈ ls, x.c.s.size + x.c.l.length ≤ 140737488350000 ∧ x.ps.length ≤ 4398046511104
set_option maxRecDepth 8000 in
theorem rt_zero_t (la : Option Addr) (m cap : Nat) (hr h0 : Array Value) (root x0 : Hs) (w : World) (hre : Keep (hr = bytesA 32 root.f)) (h0e : Keep (h0 = bytesA 32 x0.f)) (hx0 : Keep (x0 = shaH (2 :: (le8 0 ++ [])))) (HE : Keep (decide (x0 = root) = true)) :
  Calls Try.prog 37 #[.agg (wtA 0 (.slice la m cap)), .agg hr] w fun e w' => e = .returned (.bool true) ∧ Below w.heap.size w w' := by
 go_enter Try.func37, Try.ntmps37
 refine wp_seq_k fun K1 hK1 => rgn ?_
 refine WL.box (by kernel_rfl) 31 (.tmp 0) rfl (wtA 0 (.slice la m cap)) rfl ?_
 have W1 := Keep.mk (Blk.new w 31 (wtA 0 (.slice la m cap)))
 have b_ := below_new w (.cells (wtA 0 (.slice la m cap)) 31)
 change WL _ _ _ _ _ (w.alloc (.cells (wtA 0 (.slice la m cap)) 31))
 generalize w.alloc (.cells (wtA 0 (.slice la m cap)) 31) = w1 at *
 obtain ⟨d, hd0⟩ : ∃ z, Keep (z = w.heap.size) := ⟨_, ⟨rfl⟩⟩
 rw [← hd0.out] at W1 ⊢
 have B1 : Keep (Below w.heap.size w w1) := ⟨b_⟩
 have gd : Keep (w.heap.size ≤ d) := ⟨by rw [hd0.out]; exact Nat.le_refl _⟩
 clear b_
 have w0_ : w1.cell? ⟨d, 0, none⟩ = some (.int .i64 0) := W1.out.c 0 rfl
 have w1_ : w1.cell? ⟨d, 1, none⟩ = some (.slice la m cap) := W1.out.c 1 rfl
 simp only [Act.put, pqA, pqB, pqC]
 refine WL.box (by kernel_rfl) 25 (.tmp 1) rfl hr rfl ?_
 have G2 := Keep.mk (Blk.new w1 25 hr)
 have b_ := below_new w1 (.cells hr 25)
 change WL _ _ _ _ _ (w1.alloc (.cells hr 25))
 generalize w1.alloc (.cells hr 25) = w2 at *
 obtain ⟨g, hg0⟩ : ∃ z, Keep (z = w1.heap.size) := ⟨_, ⟨rfl⟩⟩
 rw [← hg0.out] at G2 ⊢
 have W2 := Keep.mk (W1.out.below b_ W1.out.lt)
 have B2 : Keep (Below w.heap.size w w2) := ⟨B1.out.trans (b_.mono B1.out.size)⟩
 have gg : Keep (w.heap.size ≤ g) := ⟨by rw [hg0.out]; exact B1.out.size⟩
 clear b_
 clear w0_ w1_
 have w0_ : w2.cell? ⟨d, 0, none⟩ = some (.int .i64 0) := W2.out.c 0 rfl
 have w1_ : w2.cell? ⟨d, 1, none⟩ = some (.slice la m cap) := W2.out.c 1 rfl
 simp only [Act.put, pqA, pqB, pqC]
 refine VbF ?_
 refine WL.nil (hK1 _ _ ?_)
 refine wp_seq_k fun K2 hK2 => ?_
 refine wp_seq_k fun K3 hK3 => rgn ?_
 refine VlS (.pointer (some ⟨d, 0, none⟩)) ?_
 refine VlS (.int .i64 0) ?_
 refine VbT ?_
 refine WL.nil (hK3 _ _ ?_)
 refine wp_cond_true rfl ?_
 refine wp_seq_k fun K4 hK4 => ?_
 have Gd : Keep (Blk w2.drew g 25 hr) := ⟨G2.out⟩
 have Bd : Keep (Below w.heap.size w w2.drew) := ⟨B2.out.drew⟩
 clear G2 B2 w0_ w1_
 refine wp_region_held_drew (S := fun wx => wx.rangeAt g 0 hr.toList) (by kernel_rfl) (blk_range Gd.out) (fun hHeld => ?_)
 refine tkS (i := 1) (oi := ⟨some 13, Op.load 25 (Operand.tmp 3), 25, _, _, none⟩) (v := .agg hr) rfl (yieldsIf_ld (by rfl) (Operand.tmp 3) 25 rfl g 0 rfl hr _ Try.underlying25 rfl (by rw [hre.out]; exact Try.size25B _) fun w hS => hS) hHeld ?_
 refine wpAnyH_ready (rs := [0]) (by kernel_rfl) (by simp) ?_
 refine AllReadyH.cons (o := ⟨some 12, Op.call { callee := Callee.value (Operand.func 25), args := #[Operand.const (Value.int IntKind.i64 0), Operand.const (Value.slice none 0 0)], argTypes := #[3, 59] }, 25, _, _, none⟩) rfl (fun K hK => ?_) AllReadyH.nil
 rw [if_pos (by rfl)]
 refine wp_callF 25 _ _ rfl Try.in25 #[.int .i64 ((0 : Nat) : Int), .slice none 0 0] (by simp [Act.eval]) (fun vz wz => vz = .agg h0 ∧ Below w2.drew.heap.size w2.drew wz) ?_ ?_
 ·refine (proot_any 0 (.slice none 0 0) [] [] w2.drew ⟨rfl, fun j u l h _ => by simp at h, .inl ⟨rfl, rfl⟩⟩ (by simp) (by simp)).mono ?_
  rintro e wz ⟨rfl, k1⟩
  exact ⟨_, rfl, by rw [h0e.out, hx0.out, ← encH_arr, ← shaH_arr]; rfl, k1⟩
 rintro vz w3 ⟨rfl, k1⟩
 have G3 := Keep.mk (Gd.out.below k1 Gd.out.lt)
 have B3 : Keep (Below w.heap.size w w3) := ⟨Bd.out.trans (k1.mono Bd.out.size)⟩
 clear k1 Gd Bd
 refine hK _ _ (blk_range G3.out) fun hH1 => ?_
 clear hK
 simp only [Act.put, pqA, pqB, pqC]
 refine tkS (i := 2) (oi := ⟨some 14, Op.binOp BinOp.eql 25 (Operand.tmp 12) (Operand.tmp 13) 25, 4, _, _, none⟩) (v := .bool true) rfl (Or.inl ⟨by rfl, fun w hS => by have hq_ := eqB h0e.out hre.out HE.out w; clear hS; go_simp⟩) hH1 ?_
 refine TkG (i := 3) (oi := ⟨some 4, Op.assign (Operand.tmp 14), 4, _, _, none⟩) (v := .bool true) rfl hH1 ?_
 refine wpAnyH_done (by kernel_rfl) ?_ _
 refine hK4 _ _ ?_
 refine wp_ret ?_
 go_ret
 exact ⟨rfl, B3.out⟩
set_option maxRecDepth 8000 in
theorem rt_zero_f (la : Option Addr) (m cap : Nat) (hr h0 : Array Value) (root x0 : Hs) (w : World) (hre : Keep (hr = bytesA 32 root.f)) (h0e : Keep (h0 = bytesA 32 x0.f)) (hx0 : Keep (x0 = shaH (2 :: (le8 0 ++ [])))) (HE : Keep (decide (x0 = root) = false)) :
  Calls Try.prog 37 #[.agg (wtA 0 (.slice la m cap)), .agg hr] w fun e w' => e = .returned (.bool false) ∧ Below w.heap.size w w' := by
 go_enter Try.func37, Try.ntmps37
 refine wp_seq_k fun K1 hK1 => rgn ?_
 refine WL.box (by kernel_rfl) 31 (.tmp 0) rfl (wtA 0 (.slice la m cap)) rfl ?_
 have W1 := Keep.mk (Blk.new w 31 (wtA 0 (.slice la m cap)))
 have b_ := below_new w (.cells (wtA 0 (.slice la m cap)) 31)
 change WL _ _ _ _ _ (w.alloc (.cells (wtA 0 (.slice la m cap)) 31))
 generalize w.alloc (.cells (wtA 0 (.slice la m cap)) 31) = w1 at *
 obtain ⟨d, hd0⟩ : ∃ z, Keep (z = w.heap.size) := ⟨_, ⟨rfl⟩⟩
 rw [← hd0.out] at W1 ⊢
 have B1 : Keep (Below w.heap.size w w1) := ⟨b_⟩
 have gd : Keep (w.heap.size ≤ d) := ⟨by rw [hd0.out]; exact Nat.le_refl _⟩
 clear b_
 have w0_ : w1.cell? ⟨d, 0, none⟩ = some (.int .i64 0) := W1.out.c 0 rfl
 have w1_ : w1.cell? ⟨d, 1, none⟩ = some (.slice la m cap) := W1.out.c 1 rfl
 simp only [Act.put, pqA, pqB, pqC]
 refine WL.box (by kernel_rfl) 25 (.tmp 1) rfl hr rfl ?_
 have G2 := Keep.mk (Blk.new w1 25 hr)
 have b_ := below_new w1 (.cells hr 25)
 change WL _ _ _ _ _ (w1.alloc (.cells hr 25))
 generalize w1.alloc (.cells hr 25) = w2 at *
 obtain ⟨g, hg0⟩ : ∃ z, Keep (z = w1.heap.size) := ⟨_, ⟨rfl⟩⟩
 rw [← hg0.out] at G2 ⊢
 have W2 := Keep.mk (W1.out.below b_ W1.out.lt)
 have B2 : Keep (Below w.heap.size w w2) := ⟨B1.out.trans (b_.mono B1.out.size)⟩
 have gg : Keep (w.heap.size ≤ g) := ⟨by rw [hg0.out]; exact B1.out.size⟩
 clear b_
 clear w0_ w1_
 have w0_ : w2.cell? ⟨d, 0, none⟩ = some (.int .i64 0) := W2.out.c 0 rfl
 have w1_ : w2.cell? ⟨d, 1, none⟩ = some (.slice la m cap) := W2.out.c 1 rfl
 simp only [Act.put, pqA, pqB, pqC]
 refine VbF ?_
 refine WL.nil (hK1 _ _ ?_)
 refine wp_seq_k fun K2 hK2 => ?_
 refine wp_seq_k fun K3 hK3 => rgn ?_
 refine VlS (.pointer (some ⟨d, 0, none⟩)) ?_
 refine VlS (.int .i64 0) ?_
 refine VbT ?_
 refine WL.nil (hK3 _ _ ?_)
 refine wp_cond_true rfl ?_
 refine wp_seq_k fun K4 hK4 => ?_
 have Gd : Keep (Blk w2.drew g 25 hr) := ⟨G2.out⟩
 have Bd : Keep (Below w.heap.size w w2.drew) := ⟨B2.out.drew⟩
 clear G2 B2 w0_ w1_
 refine wp_region_held_drew (S := fun wx => wx.rangeAt g 0 hr.toList) (by kernel_rfl) (blk_range Gd.out) (fun hHeld => ?_)
 refine tkS (i := 1) (oi := ⟨some 13, Op.load 25 (Operand.tmp 3), 25, _, _, none⟩) (v := .agg hr) rfl (yieldsIf_ld (by rfl) (Operand.tmp 3) 25 rfl g 0 rfl hr _ Try.underlying25 rfl (by rw [hre.out]; exact Try.size25B _) fun w hS => hS) hHeld ?_
 refine wpAnyH_ready (rs := [0]) (by kernel_rfl) (by simp) ?_
 refine AllReadyH.cons (o := ⟨some 12, Op.call { callee := Callee.value (Operand.func 25), args := #[Operand.const (Value.int IntKind.i64 0), Operand.const (Value.slice none 0 0)], argTypes := #[3, 59] }, 25, _, _, none⟩) rfl (fun K hK => ?_) AllReadyH.nil
 rw [if_pos (by rfl)]
 refine wp_callF 25 _ _ rfl Try.in25 #[.int .i64 ((0 : Nat) : Int), .slice none 0 0] (by simp [Act.eval]) (fun vz wz => vz = .agg h0 ∧ Below w2.drew.heap.size w2.drew wz) ?_ ?_
 ·refine (proot_any 0 (.slice none 0 0) [] [] w2.drew ⟨rfl, fun j u l h _ => by simp at h, .inl ⟨rfl, rfl⟩⟩ (by simp) (by simp)).mono ?_
  rintro e wz ⟨rfl, k1⟩
  exact ⟨_, rfl, by rw [h0e.out, hx0.out, ← encH_arr, ← shaH_arr]; rfl, k1⟩
 rintro vz w3 ⟨rfl, k1⟩
 have G3 := Keep.mk (Gd.out.below k1 Gd.out.lt)
 have B3 : Keep (Below w.heap.size w w3) := ⟨Bd.out.trans (k1.mono Bd.out.size)⟩
 clear k1 Gd Bd
 refine hK _ _ (blk_range G3.out) fun hH1 => ?_
 clear hK
 simp only [Act.put, pqA, pqB, pqC]
 refine tkS (i := 2) (oi := ⟨some 14, Op.binOp BinOp.eql 25 (Operand.tmp 12) (Operand.tmp 13) 25, 4, _, _, none⟩) (v := .bool false) rfl (Or.inl ⟨by rfl, fun w hS => by have hq_ := eqB h0e.out hre.out HE.out w; clear hS; go_simp⟩) hH1 ?_
 refine TkG (i := 3) (oi := ⟨some 4, Op.assign (Operand.tmp 14), 4, _, _, none⟩) (v := .bool false) rfl hH1 ?_
 refine wpAnyH_done (by kernel_rfl) ?_ _
 refine hK4 _ _ ?_
 refine wp_ret ?_
 go_ret
 exact ⟨rfl, B3.out⟩
set_option maxRecDepth 8000 in
set_option maxHeartbeats 1000000 in
theorem rt_some (b off m cap n : Nat) (ls : List LV) (hr : Array Value) (root : Hs) (w : World) (hre : Keep (hr = bytesA 32 root.f)) (hml : Keep (ls.length = m)) (hn : 0 < n) (Hn : Keep (n < 9223372036854775808)) (hm2 : m ≤ 2) (hO : ∀ x ∈ ls, okL (n : Int) x = true) (hSm : SmL ls) (hL : LsAt w.heap.size w b off ls) : Calls Try.prog 37 #[.agg (wtA (n : Int) (.slice (some ⟨b, off, none⟩) m cap)), .agg hr] w fun e w' => e = .returned (.bool (ls.all fun x => rgtB n x root)) ∧ Below w.heap.size w w' := by
 have HL := Keep.mk hL
 have HO := Keep.mk hO
 have HSm := Keep.mk hSm
 clear hL hO hSm
 have hn0 : ((n : Int) == 0) = false := by simp; omega
 have hn0' : ¬ n = 0 := by omega
 go_enter Try.func37, Try.ntmps37
 refine wp_seq_k fun K1 hK1 => rgn ?_
 refine WL.box (by kernel_rfl) 31 (.tmp 0) rfl (wtA (n : Int) (.slice (some ⟨b, off, none⟩) m cap)) rfl ?_
 have W1 := Keep.mk (Blk.new w 31 (wtA (n : Int) (.slice (some ⟨b, off, none⟩) m cap)))
 have b_ := below_new w (.cells (wtA (n : Int) (.slice (some ⟨b, off, none⟩) m cap)) 31)
 change WL _ _ _ _ _ (w.alloc (.cells (wtA (n : Int) (.slice (some ⟨b, off, none⟩) m cap)) 31))
 generalize w.alloc (.cells (wtA (n : Int) (.slice (some ⟨b, off, none⟩) m cap)) 31) = w1 at *
 obtain ⟨d, hd0⟩ : ∃ z, Keep (z = w.heap.size) := ⟨_, ⟨rfl⟩⟩
 rw [← hd0.out] at W1 ⊢
 have B1 : Keep (Below w.heap.size w w1) := ⟨b_⟩
 have gd : Keep (w.heap.size ≤ d) := ⟨by rw [hd0.out]; exact Nat.le_refl _⟩
 clear b_
 have w0_ : w1.cell? ⟨d, 0, none⟩ = some (.int .i64 (n : Int)) := W1.out.c 0 rfl
 have w1_ : w1.cell? ⟨d, 1, none⟩ = some (.slice (some ⟨b, off, none⟩) m cap) := W1.out.c 1 rfl
 simp only [Act.put, pqA, pqB, pqC]
 refine WL.box (by kernel_rfl) 25 (.tmp 1) rfl hr rfl ?_
 have G2 := Keep.mk (Blk.new w1 25 hr)
 have b_ := below_new w1 (.cells hr 25)
 change WL _ _ _ _ _ (w1.alloc (.cells hr 25))
 generalize w1.alloc (.cells hr 25) = w2 at *
 obtain ⟨g, hg0⟩ : ∃ z, Keep (z = w1.heap.size) := ⟨_, ⟨rfl⟩⟩
 rw [← hg0.out] at G2 ⊢
 have W2 := Keep.mk (W1.out.below b_ W1.out.lt)
 have B2 : Keep (Below w.heap.size w w2) := ⟨B1.out.trans (b_.mono B1.out.size)⟩
 have gg : Keep (w.heap.size ≤ g) := ⟨by rw [hg0.out]; exact B1.out.size⟩
 clear b_
 clear w0_ w1_
 have w0_ : w2.cell? ⟨d, 0, none⟩ = some (.int .i64 (n : Int)) := W2.out.c 0 rfl
 have w1_ : w2.cell? ⟨d, 1, none⟩ = some (.slice (some ⟨b, off, none⟩) m cap) := W2.out.c 1 rfl
 simp only [Act.put, pqA, pqB, pqC]
 refine VbF ?_
 refine WL.nil (hK1 _ _ ?_)
 refine wp_seq_k fun K2 hK2 => ?_
 refine wp_seq_k fun K3 hK3 => rgn ?_
 refine VlS (.pointer (some ⟨d, 0, none⟩)) ?_
 refine VlS (.int .i64 (n : Int)) ?_
 refine VbF ?_
 refine WL.nil (hK3 _ _ ?_)
 refine wp_cond_false rfl ?_
 refine wp_skip ?_
 refine hK2 _ _ ?_
 refine wp_seq_k fun K4 hK4 => ?_
 refine wp_seq_k fun K5 hK5 => rgn ?_
 refine VlS (.pointer (some ⟨d, 1, none⟩)) ?_
 refine VlS (.slice (some ⟨b, off, none⟩) m cap) ?_
 refine VlS (.int .i64 (m : Int)) ?_
 refine VlS (.int .i64 0) ?_
 refine WL.nil (hK5 _ _ ?_)
 refine wp_block ?_
 refine wp_loop (fun ac wr => ∃ (t : Nat), ac = apF (fun f => { tmps := #[.agg (wtA (n : Int) (.slice (some ⟨b, off, none⟩) m cap)), .agg hr, .pointer (some ⟨d, 0, none⟩), .pointer (some ⟨g, 0, none⟩), f 4, undef, f 6, f 7, f 8, .pointer (some ⟨d, 0, none⟩), .int .i64 (n : Int), .bool false, undef, undef, undef, .pointer (some ⟨d, 1, none⟩), .slice (some ⟨b, off, none⟩) m cap, .int .i64 (m : Int), .int .i64 (t : Int), f 19, f 20, f 21, f 22, f 23, f 24, f 25, f 26, f 27, f 28, f 29, f 30, f 31, f 32, f 33, f 34, f 35, f 36, f 37, f 38, f 39, f 40], defers := [] }) ac ∧ t ≤ m ∧ Blk wr d 31 (wtA (n : Int) (.slice (some ⟨b, off, none⟩) m cap)) ∧ Blk wr g 25 hr ∧ Below w.heap.size w wr ∧ (∀ (i : Nat) (x : LV), i < t → ls[i]? = some x → rgtB n x root = true)) (fun a _ => m - (intOf (a.tmps.getD 18 undef)).toNat) ⟨0, rfl, by omega, W2.out, G2.out, B2.out, fun i x hi _ => by omega⟩ ?_
 rintro ac wr ⟨t, hac, ht, hD, hG, hb, hI⟩
 obtain ⟨f, rfl⟩ := unF hac
 have D2 := Keep.mk hD
 have H2 := Keep.mk hG
 have Be2 := Keep.mk hb
 have HI := Keep.mk hI
 clear hD hG hb hI
 try clear w0_ w1_
 by_cases htl : t < m
 ·have htl' : (t : Int) < (m : Int) := by omega
  have hw3 : IntKind.i64.wrap ((t : Int) + 1) = ((t + 1 : Nat) : Int) := by rw [IntKind.wrap_i64]; omega
  obtain ⟨x, Hx⟩ : ∃ z, Keep (ls[t]? = some z) := ⟨ls[t]'(by rw [hml.out]; exact htl), ⟨List.getElem?_eq_getElem _⟩⟩
  have XR : Keep (wr.rangeAt b (off + t * 5) (lvA x).toList) := ⟨(HL.out.below Be2.out).at_ t x Hx.out⟩
  have XL : Keep (LfAt w.heap.size wr x) := ⟨(HL.out.below Be2.out).lf x (List.mem_of_getElem? Hx.out)⟩
  have HOx : Keep (okL (n : Int) x = true) := ⟨HO.out x (List.mem_of_getElem? Hx.out)⟩
  obtain ⟨i, hi⟩ : ∃ i : Nat, Keep (x.num = (i : Int)) := ⟨x.num.toNat, ⟨by have h := HOx.out; unfold okL at h; simp at h; omega⟩⟩
  have Hin : Keep (i < n) := ⟨by have h := HOx.out; have h2 := hi.out; unfold okL at h; simp at h; omega⟩
  have HFx : Keep ((0 ≤ x.c.k ∧ x.c.k < 9223372036854775808) ∧ x.c.s.size + x.c.l.length ≤ 140737488350000) := ⟨by have h := HOx.out; have h2 := HSm.out x (List.mem_of_getElem? Hx.out); unfold okL kmay at h; simp at h; omega⟩
  refine wp_seq_k fun K6 hK6 => rgn ?_
  refine VbT ?_
  refine WL.nil (hK6 _ _ ?_)
  refine wp_seq_k fun K7 hK7 => ?_
  refine wp_cond_true rfl ?_
  refine wp_skip ?_
  refine hK7 _ _ ?_
  refine wp_seq_k fun K8 hK8 => ?_
  refine wp_block ?_
  refine wp_seq_k fun K9 hK9 => rgn ?_
  refine VlS (.pointer (some ⟨b, off + t * 5, none⟩)) ?_
  refine WL.midA (by kernel_rfl) 69 (.tmp 20) rfl b (off + t * 5) rfl (lvA x) _ XR.out Try.underlying69 rfl (Try.sizeLf x) ?_
  simp only [Act.put, pqA, pqB, pqC]
  refine WL.new (by kernel_rfl) 69 rfl _ Try.newLf ?_
  have b_ := below_new wr (.cells zLf 69)
  have Z3 := Keep.mk (Blk.new wr 69 zLf)
  change WL _ _ _ _ _ (wr.alloc (.cells zLf 69))
  generalize wr.alloc (.cells zLf 69) = w3 at *
  obtain ⟨z, hz⟩ : ∃ z, Keep (z = wr.heap.size) := ⟨_, ⟨rfl⟩⟩
  rw [← hz.out] at Z3 ⊢
  have D3 := Keep.mk (D2.out.below b_ D2.out.lt)
  have H3 := Keep.mk (H2.out.below b_ H2.out.lt)
  have nz : Keep (d ≠ z) := ⟨by have := D2.out.lt; have := hz.out; omega⟩
  have nz2 : Keep (g ≠ z) := ⟨by have := H2.out.lt; have := hz.out; omega⟩
  have Be3 : Keep (Below w.heap.size w w3) := ⟨Be2.out.trans (b_.mono Be2.out.size)⟩
  have gz : Keep (w.heap.size ≤ z) := ⟨by rw [hz.out]; exact Be2.out.size⟩
  clear b_ hz
  simp only [Act.put, pqA, pqB, pqC]
  refine WL.storeR (by kernel_rfl) 69 (.tmp 6) (.tmp 21) rfl z (lvA x) rfl rfl 69 zLf Z3.out (Try.sizeLf x) rfl (lvA_one XL.out) ?_
  have Z4 := Keep.mk (Z3.out.setRow (lvA x))
  have D4 := Keep.mk (D3.out.setRow_ne nz.out (lvA x))
  have H4 := Keep.mk (H3.out.setRow_ne nz2.out (lvA x))
  have Be4 : Keep (Below w.heap.size w (w3.setRow z (lvA x))) := ⟨below_setRow Be3.out gz.out _⟩
  generalize w3.setRow z (lvA x) = w4 at *
  have dn : w4.cell? ⟨d, 0, none⟩ = some (.int .i64 (n : Int)) := D4.out.c 0 rfl
  simp only [Act.put]
  refine WL.nil (hK9 _ _ ?_)
  refine wp_seq_k fun K10 hK10 => rgn ?_
  refine WL.row (by kernel_rfl) 69 (.tmp 6) rfl z rfl 69 (lvA x) _ Z4.out Try.underlying69 rfl (Try.sizeLf x) ?_
  simp only [Act.put, pqA, pqB, pqC]
  refine VlS (.pointer (some ⟨d, 0, none⟩)) ?_
  refine VlS (.int .i64 (n : Int)) ?_
  clear dn
  refine WL.callF (by kernel_rfl) 58 _ _ rfl Try.in58 #[.agg (lvA x), .int .i64 (n : Int)] (by simp [Act.eval]) ?_
  refine (pclimb_any x n i w4 hi Hin.out Hn ((((HL.out.below Be4.out).lf x (List.mem_of_getElem? Hx.out))).mono Be4.out.size) HFx.out (HSm.out x (List.mem_of_getElem? Hx.out)).2).mono ?_
  rintro e w5 ⟨cc, ok, rfl, k1, k2⟩
  refine ⟨_, rfl, ?_⟩
  have D5 := Keep.mk (D4.out.below k1 D4.out.lt)
  have H5 := Keep.mk (H4.out.below k1 H4.out.lt)
  have Be5 : Keep (Below w.heap.size w w5) := ⟨Be4.out.trans (k1.mono Be4.out.size)⟩
  have M5 := Keep.mk k2
  clear k1 k2 Z4 D4 H4
  simp only [Act.put, pqA, pqB, pqC]
  refine VlS (.tuple #[.agg (bytesA 32 cc), .bool ok]) ?_
  refine VlS (.agg (bytesA 32 cc)) ?_
  refine VlS (.bool ok) ?_
  refine WL.new (by kernel_rfl) 25 rfl _ Try.new25 ?_
  have U6 := Keep.mk (Blk.new w5 25 (bytesA 32 fun _ => 0))
  have b_ := below_new w5 (.cells (bytesA 32 fun _ => 0) 25)
  change WL _ _ _ _ _ (w5.alloc (.cells (bytesA 32 fun _ => 0) 25))
  generalize w5.alloc (.cells (bytesA 32 fun _ => 0) 25) = w6 at *
  obtain ⟨u, hu0⟩ : ∃ z, Keep (z = w5.heap.size) := ⟨_, ⟨rfl⟩⟩
  rw [← hu0.out] at U6 ⊢
  have D6 := Keep.mk (D5.out.below b_ D5.out.lt)
  have H6 := Keep.mk (H5.out.below b_ H5.out.lt)
  have Be6 : Keep (Below w.heap.size w w6) := ⟨Be5.out.trans (b_.mono Be5.out.size)⟩
  have gu : Keep (w.heap.size ≤ u) := ⟨by rw [hu0.out]; exact Be5.out.size⟩
  clear b_
  have nu : Keep (d ≠ u) := ⟨blk_ne D6.out U6.out (by decide)⟩
  have nu2 : Keep (g ≠ u) := ⟨by have := H5.out.lt; have := hu0.out; omega⟩
  simp only [Act.put, pqA, pqB, pqC]
  refine WL.storeR (by kernel_rfl) 25 (.tmp 7) (.tmp 27) rfl u (bytesA 32 cc) rfl rfl 25 (bytesA 32 fun _ => 0) U6.out (Try.size25B _) (bytesA_sizes _ _ _) (bytesA_one _ _) ?_
  have U7 := Keep.mk (U6.out.setRow (bytesA 32 cc))
  have D7 := Keep.mk (D6.out.setRow_ne nu.out (bytesA 32 cc))
  have H7 := Keep.mk (H6.out.setRow_ne nu2.out (bytesA 32 cc))
  have Be7 : Keep (Below w.heap.size w (w6.setRow u (bytesA 32 cc))) := ⟨below_setRow Be6.out gu.out _⟩
  generalize w6.setRow u (bytesA 32 cc) = w7 at *
  simp only [Act.put]
  refine VlS (.bool ok) ?_
  refine WL.nil (hK10 _ _ ?_)
  refine wp_seq_k fun K11 hK11 => ?_
  have Ud : Keep (Blk w7.drew u 25 (bytesA 32 cc)) := ⟨U7.out⟩
  have Dd : Keep (Blk w7.drew d 31 (wtA (n : Int) (.slice (some ⟨b, off, none⟩) m cap))) := ⟨D7.out⟩
  have Hd : Keep (Blk w7.drew g 25 hr) := ⟨H7.out⟩
  have Bd : Keep (Below w.heap.size w w7.drew) := ⟨Be7.out.drew⟩
  clear U7 D7 H7 Be7
  rcases hcl : climbL n i (lfH x) x.ps with _ | ⟨t_, rs_⟩
  ·have HB_ : Keep (rgtB n x root = false) := ⟨by unfold rgtB; rw [hi.out, Int.toNat_natCast, hcl]⟩
   obtain rfl : ok = false := by have h := M5.out; rw [hcl] at h; exact h
   clear hcl M5
   refine wp_region_held_drew (S := fun wx => wx.cell? ⟨d, 0, none⟩ = some (.int .i64 (n : Int)) ∧ wx.rangeAt g 0 hr.toList) (by kernel_rfl) (⟨Dd.out.c 0 rfl, blk_range Hd.out⟩) (fun hHeld => ?_)
   refine tkS (i := 0) (oi := ⟨some 29, Op.move (Operand.tmp 8), 4, _, _, none⟩) (v := .bool false) rfl (Or.inl ⟨by rfl, fun w hS => by obtain ⟨hS1, hS2⟩ := hS; clear hS1 hS2; go_simp⟩) hHeld ?_
   refine tkS (i := 1) (oi := ⟨some 30, Op.unOp UnOp.not 4 (Operand.tmp 29), 4, _, _, none⟩) (v := .bool true) rfl (Or.inl ⟨by rfl, fun w hS => by obtain ⟨hS1, hS2⟩ := hS; clear hS1 hS2; go_simp⟩) hHeld ?_
   refine tkS (i := 2) (oi := ⟨some 31, Op.move (Operand.tmp 30), 4, _, _, none⟩) (v := .bool true) rfl (Or.inl ⟨by rfl, fun w hS => by obtain ⟨hS1, hS2⟩ := hS; clear hS1 hS2; go_simp⟩) hHeld ?_
   refine tkS (i := 3) (oi := ⟨some 32, Op.fieldAddr 31 (Operand.tmp 2) 0, 0, _, _, some (2, false)⟩) (v := undef) rfl (Or.inr ⟨by rfl, rfl⟩) hHeld ?_
   refine tkS (i := 5) (oi := ⟨some 34, Op.slice 25 (Operand.tmp 7) none none none, 38, _, _, some (2, false)⟩) (v := undef) rfl (Or.inr ⟨by rfl, rfl⟩) hHeld ?_
   refine tkS (i := 8) (oi := ⟨some 37, Op.load 25 (Operand.tmp 3), 25, _, _, some (2, false)⟩) (v := undef) rfl (Or.inr ⟨by rfl, rfl⟩) hHeld ?_
   refine tkS (i := 4) (oi := ⟨some 33, Op.load 3 (Operand.tmp 32), 3, _, _, some (2, false)⟩) (v := undef) rfl (Or.inr ⟨by rfl, rfl⟩) hHeld ?_
   refine tkS (i := 6) (oi := ⟨some 35, Op.buildSlice 59 1 #[(0, Operand.tmp 34)], 59, _, _, some (2, false)⟩) (v := undef) rfl (Or.inr ⟨by rfl, rfl⟩) hHeld ?_
   refine tkS (i := 7) (oi := ⟨some 36, Op.call { callee := Callee.value (Operand.func 25), args := #[Operand.tmp 33, Operand.tmp 35], argTypes := #[3, 59] }, 25, _, _, some (2, false)⟩) (v := undef) rfl (Or.inr ⟨by rfl, rfl⟩) hHeld ?_
   refine tkS (i := 9) (oi := ⟨some 38, Op.binOp BinOp.neq 25 (Operand.tmp 36) (Operand.tmp 37) 25, 4, _, _, some (2, false)⟩) (v := undef) rfl (Or.inr ⟨by rfl, rfl⟩) hHeld ?_
   refine tkS (i := 10) (oi := ⟨some 39, Op.pick (Operand.tmp 31) (Operand.const (Value.bool true)) (Operand.tmp 38), 4, _, _, none⟩) (v := .bool true) rfl (Or.inl ⟨by rfl, fun w hS => by obtain ⟨hS1, hS2⟩ := hS; clear hS1 hS2; go_simp⟩) hHeld ?_
   refine wpAnyH_done (by kernel_rfl) ?_ _
   refine hK11 _ _ ?_
   refine wp_cond_true rfl ?_
   refine wp_seq_k fun K12 hK12 => rgn ?_
   refine VbF ?_
   refine WL.nil (hK12 _ _ ?_)
   refine wp_ret ?_
   try simp only [Exit.inBlock, Exit.then]
   go_ret
   refine ⟨?_, Bd.out⟩
   rw [show (ls.all fun x => rgtB n x root) = false from by
    rw [List.all_eq_false]
    exact ⟨x, List.mem_of_getElem? Hx.out, by rw [HB_.out]; simp⟩]
   rfl
  ·obtain ⟨hok, hct⟩ : ok = true ∧ bytesA 32 cc = bytesA 32 (hof t_) := by have h := M5.out; rw [hcl] at h; exact h
   subst hok
   have hlt : t_.length = 32 := RtP.climb_len shaL shaL_len _ _ _ _ _ _ _ (shaL_len _) hcl
   have hlc : Keep (hl 32 cc = t_) := ⟨by rw [hl_of_arr hct, hl_hof hlt]⟩
   obtain ⟨xt, hxt⟩ : ∃ z, Keep (z = shaH (RtP.topR le8 n t_)) := ⟨_, ⟨rfl⟩⟩
   obtain ⟨ht_, hte⟩ : ∃ z : Array Value, Keep (z = bytesA 32 xt.f) := ⟨_, ⟨rfl⟩⟩
   have Hrow : Keep (bytesA 32 (shaP (2 :: (le8 n ++ [hl 32 cc].flatten))) = ht_) := ⟨by rw [hte.out, hxt.out, ← encH_arr, ← shaH_arr, hlc.out]; unfold RtP.topR; rw [if_pos (by omega)]; simp⟩
   have HRg : Keep (rgtB n x root = decide (xt = root)) := ⟨by unfold rgtB; rw [hi.out, Int.toNat_natCast, hcl, hxt.out]⟩
   clear hcl M5 hct hlt
   by_cases heq : decide (xt = root) = true
   ·have HE : Keep (decide (xt = root) = true) := ⟨heq⟩
    clear heq
    have HG_ : Keep (rgtB n x root = true) := ⟨by rw [HRg.out, HE.out]⟩
    refine wp_region_held_drew (S := fun wx => wx.cell? ⟨d, 0, none⟩ = some (.int .i64 (n : Int)) ∧ wx.rangeAt g 0 hr.toList) (by kernel_rfl) (⟨Dd.out.c 0 rfl, blk_range Hd.out⟩) (fun hHeld => ?_)
    refine tkS (i := 0) (oi := ⟨some 29, Op.move (Operand.tmp 8), 4, _, _, none⟩) (v := .bool true) rfl (Or.inl ⟨by rfl, fun w hS => by obtain ⟨hS1, hS2⟩ := hS; clear hS2; go_simp⟩) hHeld ?_
    refine tkS (i := 1) (oi := ⟨some 30, Op.unOp UnOp.not 4 (Operand.tmp 29), 4, _, _, none⟩) (v := .bool false) rfl (Or.inl ⟨by rfl, fun w hS => by obtain ⟨hS1, hS2⟩ := hS; clear hS2; go_simp⟩) hHeld ?_
    refine tkS (i := 2) (oi := ⟨some 31, Op.move (Operand.tmp 30), 4, _, _, none⟩) (v := .bool false) rfl (Or.inl ⟨by rfl, fun w hS => by obtain ⟨hS1, hS2⟩ := hS; clear hS2; go_simp⟩) hHeld ?_
    refine tkS (i := 3) (oi := ⟨some 32, Op.fieldAddr 31 (Operand.tmp 2) 0, 0, _, _, some (2, false)⟩) (v := .pointer (some ⟨d, 0, none⟩)) rfl (Or.inl ⟨by rfl, fun w hS => by obtain ⟨hS1, hS2⟩ := hS; clear hS2; go_simp⟩) hHeld ?_
    refine tkS (i := 5) (oi := ⟨some 34, Op.slice 25 (Operand.tmp 7) none none none, 38, _, _, some (2, false)⟩) (v := .slice (some ⟨u, 0, none⟩) 32 32) rfl (Or.inl ⟨by rfl, fun w hS => by obtain ⟨hS1, hS2⟩ := hS; clear hS2; go_simp⟩) hHeld ?_
    refine tkS (i := 8) (oi := ⟨some 37, Op.load 25 (Operand.tmp 3), 25, _, _, some (2, false)⟩) (v := .agg hr) rfl (yieldsIf_ld (by rfl) (Operand.tmp 3) 25 rfl g 0 rfl hr _ Try.underlying25 rfl (by rw [hre.out]; exact Try.size25B _) fun w hS => hS.2) hHeld ?_
    refine tkS (i := 4) (oi := ⟨some 33, Op.load 3 (Operand.tmp 32), 3, _, _, some (2, false)⟩) (v := .int .i64 (n : Int)) rfl (Or.inl ⟨by rfl, fun w hS => by obtain ⟨hS1, hS2⟩ := hS; clear hS2; go_simp⟩) hHeld ?_
    refine wpAnyH_ready (rs := [6]) (by kernel_rfl) (by simp) ?_
    refine AllReadyH.cons (o := ⟨some 35, Op.buildSlice 59 1 #[(0, Operand.tmp 34)], 59, _, _, some (2, false)⟩) rfl (fun K hK => ?_) AllReadyH.nil
    rw [if_pos (by rfl)]
    refine wp_bs 59 1 _ rfl #[(0, .slice (some ⟨u, 0, none⟩) 32 32)] (by simp [Act.eval]) _ _ (bsRw1 _ _ _ _) ?_
    have b_ := below_new w7.drew (.cells #[.slice (some ⟨u, 0, none⟩) 32 32] 38)
    have Q8 := Keep.mk (Blk.new w7.drew 38 #[.slice (some ⟨u, 0, none⟩) 32 32])
    generalize w7.drew.alloc (.cells #[.slice (some ⟨u, 0, none⟩) 32 32] 38) = w8 at *
    obtain ⟨gg, hgg⟩ : ∃ z, Keep (z = w7.drew.heap.size) := ⟨_, ⟨rfl⟩⟩
    rw [← hgg.out] at Q8 ⊢
    have X8 : Keep (RsV w8 (.slice (some ⟨gg, 0, none⟩) 1 1) [.slice (some ⟨u, 0, none⟩) 32 32] [hl 32 cc]) := ⟨RsV.one Q8.out ((row_arr Ud.out).below b_)⟩
    have D8 := Keep.mk (Dd.out.below b_ Dd.out.lt)
    have H8 := Keep.mk (Hd.out.below b_ Hd.out.lt)
    have Be8 : Keep (Below w.heap.size w w8) := ⟨Bd.out.trans (b_.mono Bd.out.size)⟩
    clear b_ hgg Q8 Ud Dd Hd Bd
    refine hK _ _ ⟨D8.out.c 0 rfl, blk_range H8.out⟩ fun hH1 => ?_
    clear hK
    simp only [Act.put, pqA, pqB, pqC]
    refine wpAnyH_ready (rs := [7]) (by kernel_rfl) (by simp) ?_
    refine AllReadyH.cons (o := ⟨some 36, Op.call { callee := Callee.value (Operand.func 25), args := #[Operand.tmp 33, Operand.tmp 35], argTypes := #[3, 59] }, 25, _, _, some (2, false)⟩) rfl (fun K hK => ?_) AllReadyH.nil
    rw [if_pos (by rfl)]
    refine wp_callF 25 _ _ rfl Try.in25 #[.int .i64 (n : Int), .slice (some ⟨gg, 0, none⟩) 1 1] (by simp [Act.eval]) (fun vz wz => vz = .agg ht_ ∧ Below w8.heap.size w8 wz) ?_ ?_
    ·refine (proot_any n _ _ _ w8 X8.out (by simp) (by simp [hl_len])).mono ?_
     rintro e wz ⟨rfl, k1⟩
     exact ⟨_, rfl, by rw [Hrow.out], k1⟩
    rintro vz w9 ⟨rfl, k1⟩
    have D9 := Keep.mk (D8.out.below k1 D8.out.lt)
    have H9 := Keep.mk (H8.out.below k1 H8.out.lt)
    have Be9 : Keep (Below w.heap.size w w9) := ⟨Be8.out.trans (k1.mono Be8.out.size)⟩
    clear k1 D8 H8 Be8 X8
    refine hK _ _ (⟨D9.out.c 0 rfl, blk_range H9.out⟩) fun hH2 => ?_
    clear hK
    simp only [Act.put, pqA, pqB, pqC]
    refine tkS (i := 9) (oi := ⟨some 38, Op.binOp BinOp.neq 25 (Operand.tmp 36) (Operand.tmp 37) 25, 4, _, _, some (2, false)⟩) (v := .bool false) rfl (Or.inl ⟨by rfl, fun w hS => by have hq_ := eqB hte.out hre.out HE.out w; clear hS; go_simp⟩) hH2 ?_
    refine tkS (i := 10) (oi := ⟨some 39, Op.pick (Operand.tmp 31) (Operand.const (Value.bool true)) (Operand.tmp 38), 4, _, _, none⟩) (v := .bool false) rfl (Or.inl ⟨by rfl, fun w hS => by obtain ⟨hS1, hS2⟩ := hS; clear hS2; go_simp⟩) hH2 ?_
    refine wpAnyH_done (by kernel_rfl) ?_ _
    refine hK11 _ _ ?_
    refine wp_cond_false rfl ?_
    refine wp_skip ?_
    refine hK8 _ _ ?_
    refine rgn ?_
    refine VlS (.int .i64 ((t + 1 : Nat) : Int)) ?_
    refine VlS (.int .i64 ((t + 1 : Nat) : Int)) ?_
    refine WL.nil ?_
    refine ⟨⟨t + 1, rfl, by omega, D9.out, H9.out, Be9.out, fun i y hi hy => ?_⟩, ?_⟩
    ·by_cases e : i = t
     ·subst e; rw [Hx.out] at hy; injection hy with hy; subst hy; exact HG_.out
     ·exact HI.out i y (by omega) hy
    ·simp only [intOf]; show m - (((t + 1 : Nat) : Int)).toNat < m - ((t : Int)).toNat; omega
   ·have HE : Keep (decide (xt = root) = false) := ⟨by simpa using heq⟩
    clear heq
    have HG_ : Keep (rgtB n x root = false) := ⟨by rw [HRg.out, HE.out]⟩
    refine wp_region_held_drew (S := fun wx => wx.cell? ⟨d, 0, none⟩ = some (.int .i64 (n : Int)) ∧ wx.rangeAt g 0 hr.toList) (by kernel_rfl) (⟨Dd.out.c 0 rfl, blk_range Hd.out⟩) (fun hHeld => ?_)
    refine tkS (i := 0) (oi := ⟨some 29, Op.move (Operand.tmp 8), 4, _, _, none⟩) (v := .bool true) rfl (Or.inl ⟨by rfl, fun w hS => by obtain ⟨hS1, hS2⟩ := hS; clear hS2; go_simp⟩) hHeld ?_
    refine tkS (i := 1) (oi := ⟨some 30, Op.unOp UnOp.not 4 (Operand.tmp 29), 4, _, _, none⟩) (v := .bool false) rfl (Or.inl ⟨by rfl, fun w hS => by obtain ⟨hS1, hS2⟩ := hS; clear hS2; go_simp⟩) hHeld ?_
    refine tkS (i := 2) (oi := ⟨some 31, Op.move (Operand.tmp 30), 4, _, _, none⟩) (v := .bool false) rfl (Or.inl ⟨by rfl, fun w hS => by obtain ⟨hS1, hS2⟩ := hS; clear hS2; go_simp⟩) hHeld ?_
    refine tkS (i := 3) (oi := ⟨some 32, Op.fieldAddr 31 (Operand.tmp 2) 0, 0, _, _, some (2, false)⟩) (v := .pointer (some ⟨d, 0, none⟩)) rfl (Or.inl ⟨by rfl, fun w hS => by obtain ⟨hS1, hS2⟩ := hS; clear hS2; go_simp⟩) hHeld ?_
    refine tkS (i := 5) (oi := ⟨some 34, Op.slice 25 (Operand.tmp 7) none none none, 38, _, _, some (2, false)⟩) (v := .slice (some ⟨u, 0, none⟩) 32 32) rfl (Or.inl ⟨by rfl, fun w hS => by obtain ⟨hS1, hS2⟩ := hS; clear hS2; go_simp⟩) hHeld ?_
    refine tkS (i := 8) (oi := ⟨some 37, Op.load 25 (Operand.tmp 3), 25, _, _, some (2, false)⟩) (v := .agg hr) rfl (yieldsIf_ld (by rfl) (Operand.tmp 3) 25 rfl g 0 rfl hr _ Try.underlying25 rfl (by rw [hre.out]; exact Try.size25B _) fun w hS => hS.2) hHeld ?_
    refine tkS (i := 4) (oi := ⟨some 33, Op.load 3 (Operand.tmp 32), 3, _, _, some (2, false)⟩) (v := .int .i64 (n : Int)) rfl (Or.inl ⟨by rfl, fun w hS => by obtain ⟨hS1, hS2⟩ := hS; clear hS2; go_simp⟩) hHeld ?_
    refine wpAnyH_ready (rs := [6]) (by kernel_rfl) (by simp) ?_
    refine AllReadyH.cons (o := ⟨some 35, Op.buildSlice 59 1 #[(0, Operand.tmp 34)], 59, _, _, some (2, false)⟩) rfl (fun K hK => ?_) AllReadyH.nil
    rw [if_pos (by rfl)]
    refine wp_bs 59 1 _ rfl #[(0, .slice (some ⟨u, 0, none⟩) 32 32)] (by simp [Act.eval]) _ _ (bsRw1 _ _ _ _) ?_
    have b_ := below_new w7.drew (.cells #[.slice (some ⟨u, 0, none⟩) 32 32] 38)
    have Q8 := Keep.mk (Blk.new w7.drew 38 #[.slice (some ⟨u, 0, none⟩) 32 32])
    generalize w7.drew.alloc (.cells #[.slice (some ⟨u, 0, none⟩) 32 32] 38) = w8 at *
    obtain ⟨gg, hgg⟩ : ∃ z, Keep (z = w7.drew.heap.size) := ⟨_, ⟨rfl⟩⟩
    rw [← hgg.out] at Q8 ⊢
    have X8 : Keep (RsV w8 (.slice (some ⟨gg, 0, none⟩) 1 1) [.slice (some ⟨u, 0, none⟩) 32 32] [hl 32 cc]) := ⟨RsV.one Q8.out ((row_arr Ud.out).below b_)⟩
    have D8 := Keep.mk (Dd.out.below b_ Dd.out.lt)
    have H8 := Keep.mk (Hd.out.below b_ Hd.out.lt)
    have Be8 : Keep (Below w.heap.size w w8) := ⟨Bd.out.trans (b_.mono Bd.out.size)⟩
    clear b_ hgg Q8 Ud Dd Hd Bd
    refine hK _ _ ⟨D8.out.c 0 rfl, blk_range H8.out⟩ fun hH1 => ?_
    clear hK
    simp only [Act.put, pqA, pqB, pqC]
    refine wpAnyH_ready (rs := [7]) (by kernel_rfl) (by simp) ?_
    refine AllReadyH.cons (o := ⟨some 36, Op.call { callee := Callee.value (Operand.func 25), args := #[Operand.tmp 33, Operand.tmp 35], argTypes := #[3, 59] }, 25, _, _, some (2, false)⟩) rfl (fun K hK => ?_) AllReadyH.nil
    rw [if_pos (by rfl)]
    refine wp_callF 25 _ _ rfl Try.in25 #[.int .i64 (n : Int), .slice (some ⟨gg, 0, none⟩) 1 1] (by simp [Act.eval]) (fun vz wz => vz = .agg ht_ ∧ Below w8.heap.size w8 wz) ?_ ?_
    ·refine (proot_any n _ _ _ w8 X8.out (by simp) (by simp [hl_len])).mono ?_
     rintro e wz ⟨rfl, k1⟩
     exact ⟨_, rfl, by rw [Hrow.out], k1⟩
    rintro vz w9 ⟨rfl, k1⟩
    have D9 := Keep.mk (D8.out.below k1 D8.out.lt)
    have H9 := Keep.mk (H8.out.below k1 H8.out.lt)
    have Be9 : Keep (Below w.heap.size w w9) := ⟨Be8.out.trans (k1.mono Be8.out.size)⟩
    clear k1 D8 H8 Be8 X8
    refine hK _ _ (⟨D9.out.c 0 rfl, blk_range H9.out⟩) fun hH2 => ?_
    clear hK
    simp only [Act.put, pqA, pqB, pqC]
    refine tkS (i := 9) (oi := ⟨some 38, Op.binOp BinOp.neq 25 (Operand.tmp 36) (Operand.tmp 37) 25, 4, _, _, some (2, false)⟩) (v := .bool true) rfl (Or.inl ⟨by rfl, fun w hS => by have hq_ := eqB hte.out hre.out HE.out w; clear hS; go_simp⟩) hH2 ?_
    refine tkS (i := 10) (oi := ⟨some 39, Op.pick (Operand.tmp 31) (Operand.const (Value.bool true)) (Operand.tmp 38), 4, _, _, none⟩) (v := .bool true) rfl (Or.inl ⟨by rfl, fun w hS => by obtain ⟨hS1, hS2⟩ := hS; clear hS2; go_simp⟩) hH2 ?_
    refine wpAnyH_done (by kernel_rfl) ?_ _
    refine hK11 _ _ ?_
    refine wp_cond_true rfl ?_
    refine wp_seq_k fun K13 hK13 => rgn ?_
    refine VbF ?_
    refine WL.nil (hK13 _ _ ?_)
    refine wp_ret ?_
    try simp only [Exit.inBlock, Exit.then]
    go_ret
    refine ⟨?_, Be9.out⟩
    rw [show (ls.all fun x => rgtB n x root) = false from by
     rw [List.all_eq_false]
     exact ⟨x, List.mem_of_getElem? Hx.out, by rw [HG_.out]; simp⟩]
    rfl
 ·have htl' : ¬ (t : Int) < (m : Int) := by omega
  refine wp_seq_k fun K14 hK14 => rgn ?_
  refine VbF ?_
  refine WL.nil (hK14 _ _ ?_)
  refine wp_seq_k fun K15 hK15 => ?_
  refine wp_cond_false rfl ?_
  refine wp_exit ?_
  refine hK4 _ _ ?_
  refine wp_seq_k fun K16 hK16 => rgn ?_
  refine VbT ?_
  refine WL.nil (hK16 _ _ ?_)
  refine wp_ret ?_
  try simp only [Exit.inBlock, Exit.then]
  go_ret
  refine ⟨?_, Be2.out⟩
  rw [show (ls.all fun x => rgtB n x root) = true from by
   rw [List.all_eq_true]
   intro x hx
   obtain ⟨i, hi, e⟩ := List.getElem_of_mem hx
   exact HI.out i x (by rw [hml.out] at hi; omega) (by rw [List.getElem?_eq_getElem hi, e])]
  rfl

theorem rooted_any (v : Value) (n : Int) (ls : List LV) (root : Hs) (w : World) (hL : LsV w.heap.size w v ls) (hF : formB n ls = true) (hn : n < 9223372036854775808) (hSm : SmL ls) : Calls Try.prog 37 #[.agg (wtA n v), .agg (bytesA 32 root.f)] w fun e w' => e = .returned (.bool (rtB n ls root)) ∧ Below w.heap.size w w' := by
 obtain ⟨la, cap, rfl, hA⟩ := hL.form
 unfold rtB
 unfold formB at hF
 by_cases h0 : n = 0
 ·subst h0
  rw [if_pos rfl]
  cases e : decide (shaH (2 :: (le8 0 ++ [])) = root)
  ·exact rt_zero_f la _ cap _ _ root _ w ⟨rfl⟩ ⟨rfl⟩ ⟨rfl⟩ ⟨e⟩
  ·exact rt_zero_t la _ cap _ _ root _ w ⟨rfl⟩ ⟨rfl⟩ ⟨rfl⟩ ⟨e⟩
 ·rw [if_neg h0] at hF ⊢
  by_cases h1 : n < 0 ∨ ls.length < 1 ∨ 2 < ls.length
  ·rw [if_pos h1] at hF; cases hF
  ·rw [if_neg h1, List.all_eq_true] at hF
   obtain ⟨b, off, rfl, h⟩ := hA (by omega)
   obtain ⟨k, rfl⟩ : ∃ k : Nat, n = (k : Int) := ⟨n.toNat, by omega⟩
   rw [Int.toNat_natCast]
   exact rt_some b off _ cap k ls _ root w ⟨rfl⟩ ⟨rfl⟩ (by omega) ⟨by omega⟩ (by omega) hF hSm h

end Go.Proofs.Ytjklmkeedhgncaa
