import Derived.Test.YtpakaladpdoejaaDoorHshd
import Derived.Test.YtpakaladpdoejaaDoorShaHashes
namespace Go.Proofs.YtpakaladpdoejaaDoor
open Go.RowKit

/-- A key as at most 64 bytes. -/
def hk (key : List Int) : List Int := if 64 < key.length then hl 32 (shaP key) else key
theorem hk_len (key : List Int) : (hk key).length ≤ 64 := by
  unfold hk
  by_cases h : 64 < key.length
  · rw [if_pos h, hl_len]; decide
  · rw [if_neg h]; omega
def zpad (l : List Int) : List Int := l ++ List.replicate (64 - l.length) 0
def xorL (l : List Int) (c : Int) : List Int := l.map fun z => bits .xor .u8 z c
/-- A key as 64 bytes, each xor c. -/
def padL (key : List Int) (c : Int) : List Int := xorL (zpad (hk key)) c
theorem zpad_len {l : List Int} (h : l.length ≤ 64) : (zpad l).length = 64 := by simp [zpad]; omega
theorem padL_len (key : List Int) (c : Int) : (padL key c).length = 64 := by unfold padL xorL; rw [List.length_map, zpad_len (hk_len key)]
/-- What Mac tells. -/
def macP (key b : List Int) : Nat → Int := shaP (padL key 92 ++ hl 32 (shaP (padL key 54 ++ b)))
theorem xor_next (l : List Int) (c : Int) (t : Nat) (ht : t < l.length) (z : Int) (hz : z = l.getD t 0) : (xorL (l.take t) c ++ l.drop t).set t (bits .xor .u8 z c) = xorL (l.take (t + 1)) c ++ l.drop (t + 1) := by
  have e1 : l.drop t = l.getD t 0 :: l.drop (t + 1) := by
    rw [List.drop_eq_getElem_cons ht, List.getD_eq_getElem?_getD, List.getElem?_eq_getElem ht, Option.getD_some]
  have e2 : l.take (t + 1) = l.take t ++ [l.getD t 0] := by
    rw [List.take_add_one, List.getElem?_eq_getElem ht, List.getD_eq_getElem?_getD, List.getElem?_eq_getElem ht, Option.getD_some]; rfl
  have hl : t = (xorL (l.take t) c).length := by simp [xorL]; omega
  rw [e1, e2]
  conv => lhs; arg 2; rw [hl]
  rw [List.set_append_right _ _ (Nat.le_refl _), Nat.sub_self]
  simp [xorL, hz]
theorem xor_get (l : List Int) (c : Int) (t : Nat) (ht : t < l.length) : (xorL (l.take t) c ++ l.drop t).getD t 0 = l.getD t 0 := by
  rw [List.getD_eq_getElem?_getD, List.getElem?_append_right (by simp [xorL]; omega)]
  simp [xorL, List.getD_eq_getElem?_getD, Nat.min_eq_left (Nat.le_of_lt ht)]
def lenOfV : Value → Nat
  | .slice _ n _ => n
  | _ => 0
theorem FreshB.sl {w w' : World} {v : Value} {l : List Int} (h : FreshB w v l w') : ∃ g c, v = .slice (some ⟨g, 0, none⟩) l.length c ∧ w.heap.size ≤ g := by
  obtain ⟨hO, ⟨k, hk, hl⟩, _⟩ := h
  rcases hO.form with ⟨rfl, _⟩ | ⟨g, cap, cur, rfl, _⟩
  · simp [Value.ownBlock] at hk
  · simp [Value.ownBlock] at hk; exact ⟨g, cap, rfl, by omega⟩

theorem FreshB.set {w w' : World} {g n cap : Nat} {l : List Int} {t : Nat} (h : FreshB w (.slice (some ⟨g, 0, none⟩) n cap) l w') (c : Int) : FreshB w (.slice (some ⟨g, 0, none⟩) n cap) (l.set t c) (w'.setCell ⟨g, t, none⟩ (.int .u8 c)) := by
  obtain ⟨hO, ⟨k, hk, hl⟩, hb⟩ := h
  have hg : w.heap.size ≤ g := by simp [Value.ownBlock] at hk; omega
  exact ⟨hO.set t c, ⟨k, hk, hl⟩, hb.setCell hg _⟩

set_option maxRecDepth 8000 in
set_option maxHeartbeats 1000000 in
theorem pad3_any (vk : Value) (key : List Int) (c : Int) (w : World) (hr : RowAt w vk key) (hb : key.length ≤ 140737488351232) :
    Calls Tryd.prog 21 #[vk, .int .u8 c] w fun e w' => ∃ v', e = .returned v' ∧ FreshB w v' (padL key c) w' := by
  have HR := Keep.mk hr
  have HR0 := Keep.mk (hr.below (below_new w (.cells #[] 5)))
  have HF0 := Keep.mk (FreshB.empty w)
  have Hb := Keep.mk hb
  obtain ⟨xa, xc, rfl⟩ := row_form hr
  have hsm : (key.length : Int) ≤ 9223372036854775000 := by omega
  obtain ⟨K, hK⟩ : ∃ K, Keep (K = hk key) := ⟨_, ⟨rfl⟩⟩
  have hKl : K.length ≤ 64 := by rw [hK.out]; exact hk_len key
  clear hr hb
  by_cases hbig : 64 < key.length
  · have hbig' : (64 : Int) < (key.length : Int) := by omega
    have HK : Keep (K = hl 32 (shaP key)) := ⟨by rw [hK.out]; unfold hk; rw [if_pos hbig]⟩
    go_enter Tryd.func21, Tryd.ntmps21
    go_wp2_with (first | (at_builtin; refine wpList_app rfl (.tmp 7) (.tmp 8) rfl (.slice (some ⟨w.heap.size, 0, none⟩) 0 0) _ [] key rfl rfl HF0.out.1 HR0.out (by have := Hb.out; simp; omega) ?_; intro v1 w1 hp; refine Hid.out ?_))
    refine hid_in ?_
    have HF1 := Keep.mk (HF0.out.app hp)
    rw [List.nil_append] at HF1
    clear hp HF0 HR0
    go_wp2_with fail
    refine (refOf_sha _ key w1 (HR.out.below HF1.out.2.2) (by have := Hb.out; omega)).mono ?_
    rintro e w2 ⟨rfl, hb2⟩
    have HB2 := Keep.mk (HF1.out.2.2.trans (hb2.mono HF1.out.2.2.size))
    clear hb2 HF1
    go_wp2_with fail
    refine (hashed_any (shaP key) w2).mono ?_
    rintro e w3 ⟨v3, rfl, hF3⟩
    have HF : Keep (FreshB w v3 K w3) := ⟨by rw [HK.out]; exact hF3.from HB2.out⟩
    clear hF3 HB2
    go_wp2
    go_loopw [5] (fun b wr => ∃ t : Nat, t ≤ 64 - K.length ∧ FreshB w b (K ++ List.replicate t 0) wr) (fun b _ => 64 - lenOfV b)
    case atStart => exact ⟨0, by omega, by simpa using HF.out⟩
    case round =>
      clear HF
      rename_i b wr
      obtain ⟨t, ht, hF⟩ := hrel
      have hln : (K ++ List.replicate t (0 : Int)).length = K.length + t := by simp
      obtain ⟨g, bc, hbv, hgl⟩ := hF.sl
      rw [hln] at hbv
      obtain ⟨n, hn⟩ : ∃ n, Keep (n = K.length + t) := ⟨_, ⟨rfl⟩⟩
      rw [← hn.out] at hbv
      subst hbv
      by_cases hlt : n < 64
      · have hlt' : (n : Int) < 64 := by omega
        have HO1 := Keep.mk (hF.1.box (.cells #[.int .u8 0] 5))
        have HF1 := Keep.mk (hF.later (below_new wr (.cells #[.int .u8 0] 5)))
        have hlen : Keep ((K ++ List.replicate t (0 : Int)).length + [(0 : Int)].length ≤ 140737488355328) := ⟨by rw [hln]; simp; omega⟩
        have Hln := Keep.mk hln
        have Ht1 : Keep (t + 1 ≤ 64 - K.length) := ⟨by have := hn.out; omega⟩
        clear hF hln
        go_wp2_with (first | (at_builtin; refine wpList_app rfl (.tmp 19) (.tmp 20) rfl _ (.slice (some ⟨wr.heap.size, 0, none⟩) 1 1) (K ++ List.replicate t 0) [0] rfl rfl HO1.out (row_one wr _) hlen.out ?_; intro v' w' hp; refine Hid.out ?_))
        refine hid_in ?_
        have HP := Keep.mk (HF1.out.app hp)
        obtain ⟨g2, c2, hv2, _⟩ := HP.out.sl
        have hl2 : lenOfV v' = n + 1 := by rw [hv2]; simp only [lenOfV, List.length_append, List.length_replicate, List.length_cons, List.length_nil]; have := hn.out; omega
        have Hl2 := Keep.mk hl2
        clear hp hv2 hl2 HO1 HF1
        go_wp2
        go_roundw
        case rel =>
          refine ⟨t + 1, Ht1.out, ?_⟩
          have e : K ++ List.replicate (t + 1) (0 : Int) = K ++ List.replicate t 0 ++ [0] := by rw [List.append_assoc, List.replicate_succ']
          rw [e]; exact HP.out
        case measure => rw [Hl2.out]; simp only [lenOfV]; omega
      · have hn64 : n = 64 := by have := hn.out; omega
        subst hn64
        have hl2 : K ++ List.replicate t 0 = zpad K := by unfold zpad; rw [show 64 - K.length = t by have := hn.out; omega]
        rw [hl2] at hF
        have HF2 : Keep (FreshB w (.slice (some ⟨g, 0, none⟩) 64 bc) (xorL ((zpad K).take 0) c ++ (zpad K).drop 0) wr) := ⟨by simpa [xorL] using hF⟩
        have Hzl : Keep ((zpad K).length = 64) := ⟨zpad_len hKl⟩
        clear hF hl2 hln hlt hn ht
        go_wp2
        go_loopw [6] (fun i wi => ∃ u : Nat, u ≤ 64 ∧ i = .int .i64 (u : Int) ∧ FreshB w (.slice (some ⟨g, 0, none⟩) 64 bc) (xorL ((zpad K).take u) c ++ (zpad K).drop u) wi) (fun i _ => 64 - (intOf i).toNat)
        case atStart => exact ⟨0, by omega, rfl, HF2.out⟩
        case round =>
          clear HF2
          obtain ⟨u, hu, rfl, hF⟩ := hrel
          by_cases hlt : u < 64
          · have hlt' : (u : Int) < 64 := by omega
            obtain ⟨z, hz⟩ : ∃ z, Keep (z = (zpad K).getD u 0) := ⟨_, ⟨rfl⟩⟩
            have hx := hF.1.cells u (by simp [xorL, Hzl.out]; omega)
            rw [xor_get (zpad K) c u (by rw [Hzl.out]; exact hlt), ← hz.out] at hx
            obtain ⟨cc, ff⟩ := hx
            have HF3 := Keep.mk (hF.set (t := u) (bits .xor .u8 z c))
            rw [xor_next (zpad K) c u (by rw [Hzl.out]; exact hlt) z hz.out] at HF3
            clear hF hz
            go_wp2
            go_roundw
            case rel => exact ⟨u + 1, by omega, by go_num, HF3.out⟩
            case measure => simp only [intOf]; omega
          · obtain rfl : u = 64 := by omega
            have HF3 : Keep (FreshB w (.slice (some ⟨g, 0, none⟩) 64 bc) (padL key c) wr) := ⟨by
              have e : xorL ((zpad K).take 64) c ++ (zpad K).drop 64 = padL key c := by
                rw [List.take_of_length_le (by rw [Hzl.out]; decide), List.drop_of_length_le (by rw [Hzl.out]; decide), List.append_nil, hK.out]; rfl
              rw [← e]; exact hF⟩
            clear hF
            go_wp2
            go_ret
            exact ⟨_, rfl, HF3.out⟩
  · have hbig' : ¬ (64 : Int) < (key.length : Int) := by omega
    have HK : Keep (K = key) := ⟨by rw [hK.out]; unfold hk; rw [if_neg hbig]⟩
    go_enter Tryd.func21, Tryd.ntmps21
    go_wp2_with (first | (at_builtin; refine wpList_app rfl (.tmp 7) (.tmp 8) rfl (.slice (some ⟨w.heap.size, 0, none⟩) 0 0) _ [] key rfl rfl HF0.out.1 HR0.out (by have := Hb.out; simp; omega) ?_; intro v1 w1 hp; refine Hid.out ?_))
    refine hid_in ?_
    have HF1 := Keep.mk (HF0.out.app hp)
    rw [List.nil_append] at HF1
    clear hp HF0 HR0
    have HF : Keep (FreshB w v1 K w1) := ⟨by rw [HK.out]; exact HF1.out⟩
    clear HF1
    go_wp2
    go_loopw [5] (fun b wr => ∃ t : Nat, t ≤ 64 - K.length ∧ FreshB w b (K ++ List.replicate t 0) wr) (fun b _ => 64 - lenOfV b)
    case atStart => exact ⟨0, by omega, by simpa using HF.out⟩
    case round =>
      clear HF
      rename_i b wr
      obtain ⟨t, ht, hF⟩ := hrel
      have hln : (K ++ List.replicate t (0 : Int)).length = K.length + t := by simp
      obtain ⟨g, bc, hbv, hgl⟩ := hF.sl
      rw [hln] at hbv
      obtain ⟨n, hn⟩ : ∃ n, Keep (n = K.length + t) := ⟨_, ⟨rfl⟩⟩
      rw [← hn.out] at hbv
      subst hbv
      by_cases hlt : n < 64
      · have hlt' : (n : Int) < 64 := by omega
        have HO1 := Keep.mk (hF.1.box (.cells #[.int .u8 0] 5))
        have HF1 := Keep.mk (hF.later (below_new wr (.cells #[.int .u8 0] 5)))
        have hlen : Keep ((K ++ List.replicate t (0 : Int)).length + [(0 : Int)].length ≤ 140737488355328) := ⟨by rw [hln]; simp; omega⟩
        have Hln := Keep.mk hln
        have Ht1 : Keep (t + 1 ≤ 64 - K.length) := ⟨by have := hn.out; omega⟩
        clear hF hln
        go_wp2_with (first | (at_builtin; refine wpList_app rfl (.tmp 19) (.tmp 20) rfl _ (.slice (some ⟨wr.heap.size, 0, none⟩) 1 1) (K ++ List.replicate t 0) [0] rfl rfl HO1.out (row_one wr _) hlen.out ?_; intro v' w' hp; refine Hid.out ?_))
        refine hid_in ?_
        have HP := Keep.mk (HF1.out.app hp)
        obtain ⟨g2, c2, hv2, _⟩ := HP.out.sl
        have hl2 : lenOfV v' = n + 1 := by rw [hv2]; simp only [lenOfV, List.length_append, List.length_replicate, List.length_cons, List.length_nil]; have := hn.out; omega
        have Hl2 := Keep.mk hl2
        clear hp hv2 hl2 HO1 HF1
        go_wp2
        go_roundw
        case rel =>
          refine ⟨t + 1, Ht1.out, ?_⟩
          have e : K ++ List.replicate (t + 1) (0 : Int) = K ++ List.replicate t 0 ++ [0] := by rw [List.append_assoc, List.replicate_succ']
          rw [e]; exact HP.out
        case measure => rw [Hl2.out]; simp only [lenOfV]; omega
      · have hn64 : n = 64 := by have := hn.out; omega
        subst hn64
        have hl2 : K ++ List.replicate t 0 = zpad K := by unfold zpad; rw [show 64 - K.length = t by have := hn.out; omega]
        rw [hl2] at hF
        have HF2 : Keep (FreshB w (.slice (some ⟨g, 0, none⟩) 64 bc) (xorL ((zpad K).take 0) c ++ (zpad K).drop 0) wr) := ⟨by simpa [xorL] using hF⟩
        have Hzl : Keep ((zpad K).length = 64) := ⟨zpad_len hKl⟩
        clear hF hl2 hln hlt hn ht
        go_wp2
        go_loopw [6] (fun i wi => ∃ u : Nat, u ≤ 64 ∧ i = .int .i64 (u : Int) ∧ FreshB w (.slice (some ⟨g, 0, none⟩) 64 bc) (xorL ((zpad K).take u) c ++ (zpad K).drop u) wi) (fun i _ => 64 - (intOf i).toNat)
        case atStart => exact ⟨0, by omega, rfl, HF2.out⟩
        case round =>
          clear HF2
          obtain ⟨u, hu, rfl, hF⟩ := hrel
          by_cases hlt : u < 64
          · have hlt' : (u : Int) < 64 := by omega
            obtain ⟨z, hz⟩ : ∃ z, Keep (z = (zpad K).getD u 0) := ⟨_, ⟨rfl⟩⟩
            have hx := hF.1.cells u (by simp [xorL, Hzl.out]; omega)
            rw [xor_get (zpad K) c u (by rw [Hzl.out]; exact hlt), ← hz.out] at hx
            obtain ⟨cc, ff⟩ := hx
            have HF3 := Keep.mk (hF.set (t := u) (bits .xor .u8 z c))
            rw [xor_next (zpad K) c u (by rw [Hzl.out]; exact hlt) z hz.out] at HF3
            clear hF hz
            go_wp2
            go_roundw
            case rel => exact ⟨u + 1, by omega, by go_num, HF3.out⟩
            case measure => simp only [intOf]; omega
          · obtain rfl : u = 64 := by omega
            have HF3 : Keep (FreshB w (.slice (some ⟨g, 0, none⟩) 64 bc) (padL key c) wr) := ⟨by
              have e : xorL ((zpad K).take 64) c ++ (zpad K).drop 64 = padL key c := by
                rw [List.take_of_length_le (by rw [Hzl.out]; decide), List.drop_of_length_le (by rw [Hzl.out]; decide), List.append_nil, hK.out]; rfl
              rw [← e]; exact hF⟩
            clear hF
            go_wp2
            go_ret
            exact ⟨_, rfl, HF3.out⟩
end Go.Proofs.YtpakaladpdoejaaDoor
