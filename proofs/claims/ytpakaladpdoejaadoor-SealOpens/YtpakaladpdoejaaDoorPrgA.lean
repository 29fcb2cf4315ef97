import Derived.Test.YtpakaladpdoejaaDoorPadR
import Derived.Test.YtpakaladpdoejaaDoorShaHashes
namespace Go.Proofs.YtpakaladpdoejaaDoor
open Go.RowKit

theorem Tryd.size50 : (Tryd.prog.info? 50).map (·.size) = some 64 := by kernel_rfl
theorem Tryd.size50B (c : Nat → Int) : (Tryd.prog.info? 50).map (·.size) = some (bytesA 64 c).size := by rw [bytesA_size]; exact Tryd.size50
theorem Tryd.new50 (w : World) : (Instr.alloc 50 true (.tuple #[])).run Tryd.prog w = .ok (.pointer (some ⟨w.heap.size, 0, none⟩)) (w.alloc (.cells (bytesA 64 fun _ => 0) 50)) := by kernel_rfl
/-- The first t bytes xor x. -/
def xorUp (c : Nat → Int) (x : Int) (t : Nat) : Nat → Int := fun i => if i < t then bits .xor .u8 (c i) x else c i
theorem xorUp_next (c : Nat → Int) (x : Int) (t : Nat) : upd (xorUp c x t) t (bits .xor .u8 (c t) x) = xorUp c x (t + 1) := by
  funext i
  unfold upd xorUp
  by_cases h : i = t
  · subst h; simp
  · by_cases h2 : i < t
    · simp [h, h2, Nat.lt_succ_of_lt h2]
    · have h3 : ¬ i < t + 1 := by omega
      simp [h, h2, h3]
theorem xorUp_at (c : Nat → Int) (x : Int) (t : Nat) : xorUp c x t t = c t := by simp [xorUp]
set_option maxRecDepth 8000 in
set_option maxHeartbeats 1000000 in
theorem blkXor_any (c : Nat → Int) (x : Int) (w : World) :
    Calls Tryd.prog 19 #[.agg (bytesA 64 c), .int .u8 x] w fun e w' => e = .returned (.agg (bytesA 64 (xorUp c x 64))) ∧ Below w.heap.size w w' := by
  go_enter Tryd.func19, Tryd.ntmps19
  go_wp2_with (first | (refine wpList_boxA rfl 50 (.tmp 0) rfl (bytesA 64 c) rfl ?_; refine wpList_new rfl 50 rfl _ Tryd.new50 ?_))
  have hK := (Blk.new w 50 (bytesA 64 c)).alloc (.cells (bytesA 64 fun _ => 0) 50)
  have hR := Blk.new (w.alloc (.cells (bytesA 64 c) 50)) 50 (bytesA 64 fun _ => 0)
  have hB : Below w.heap.size w ((w.alloc (.cells (bytesA 64 c) 50)).alloc (.cells (bytesA 64 fun _ => 0) 50)) :=
    ((Below.refl _ _).alloc (Nat.le_refl _) _).alloc (by simp) _
  simp only [World.size_alloc] at hR hK
  generalize ((w.alloc (.cells (bytesA 64 c) 50)).alloc (.cells (bytesA 64 fun _ => 0) 50)) = w0 at *
  go_loopw [6] (fun i wr => ∃ t : Nat, t ≤ 64 ∧ i = .int .i64 t ∧ Blk wr (w.heap.size + 1) 50 (bytesA 64 fun _ => 0) ∧ Blk wr w.heap.size 50 (bytesA 64 (xorUp c x t)) ∧ Below w.heap.size w wr) (fun i _ => 64 - (intOf i).toNat)
  case atStart => exact ⟨0, by omega, rfl, hR, by rw [show xorUp c x 0 = c by funext i; simp [xorUp]]; exact hK, hB⟩
  case round =>
    clear hR hK hB
    obtain ⟨t, ht, rfl, hR, hK, hB⟩ := hrel
    by_cases hlt : t < 64
    · have hlt' : (t : Int) < 64 := by omega
      have c0 : wr.cell? ⟨w.heap.size, t, none⟩ = some (.int .u8 (c t)) := by rw [hK.cell, bytesA_get _ _ _ (by omega), xorUp_at]
      have f0 : wr.frozen? ⟨w.heap.size, t, none⟩ = false := hK.frozen _
      go_wp2
      go_roundw
      case rel =>
        have ne : w.heap.size + 1 ≠ w.heap.size := by omega
        have h := hK.set t (.int .u8 (bits .xor .u8 (c t) x))
        rw [bytesA_set, xorUp_next] at h
        exact ⟨t + 1, by omega, by go_num, hR.set_ne ne _, h, hB.setCell (Nat.le_refl _) _⟩
      case measure => simp [intOf]; omega
    · obtain rfl : t = 64 := by omega
      clear hlt ht
      obtain ⟨d, hd⟩ : ∃ d, Keep (d = xorUp c x 64) := ⟨_, ⟨rfl⟩⟩
      rw [← hd.out] at hK
      go_wp2_with (refine wpList_load_row rfl 50 (.tmp 2) rfl w.heap.size rfl 50 (bytesA 64 d) (0, 0) (.array 64 5) hK Tryd.underlying50 rfl (Tryd.size50B _) ?_; refine wpList_store_row rfl 50 (.tmp 4) (.tmp 16) rfl (w.heap.size + 1) (bytesA 64 d) rfl rfl 50 (bytesA 64 fun _ => 0) hR (Tryd.size50B _) (bytesA_sizes _ _ _) (bytesA_one _ _) ?_)
      exact bodyPost_ret (v := .agg (bytesA 64 d)) (results_cell_row Tryd.results19 _ _ (w.heap.size + 1) 50 _ (0, 0) _ rfl (hR.setRow _) Tryd.underlying50 rfl (Tryd.size50B _)) rfl ⟨by rw [hd.out], below_setRow hB (by omega) _⟩

/-- The bytes of a key's block. -/
def keyF (key : List Int) : Nat → Int := fun i => (zpad (hk key)).getD i 0
theorem keyF_of (l : List Int) (h : l.length ≤ 64) : ((bytesA 64 fun _ => 0).toList.take 0 ++ bv l ++ (bytesA 64 fun _ => 0).toList.drop (0 + l.length)).toArray = bytesA 64 fun i => (zpad l).getD i 0 := by
  apply Array.ext_getElem?
  intro i
  rw [List.take_zero, List.nil_append, Nat.zero_add, List.getElem?_toArray, List.getElem?_append, bv_len]
  by_cases h1 : i < l.length
  · rw [if_pos h1, bv_get _ _ h1, bytesA_get _ _ _ (by omega)]
    simp [zpad, List.getD_eq_getElem?_getD, List.getElem?_append, h1]
  · rw [if_neg h1, List.getElem?_drop, Array.getElem?_toList, show l.length + (i - l.length) = i by omega]
    by_cases h2 : i < 64
    · rw [bytesA_get _ _ _ h2, bytesA_get _ _ _ h2]
      have h3 : i - l.length < 64 - l.length := by omega
      simp [zpad, List.getD_eq_getElem?_getD, List.getElem?_append, h1, h3]
    · rw [Array.getElem?_eq_none (by rw [bytesA_size]; omega), Array.getElem?_eq_none (by rw [bytesA_size]; omega)]
set_option maxRecDepth 8000 in
set_option maxHeartbeats 1000000 in
theorem blockOf_any (vk : Value) (key : List Int) (w : World) (hr : RowAt w vk key) (hb : key.length ≤ 140737488351232) :
    Calls Tryd.prog 18 #[vk] w fun e w' => e = .returned (.agg (bytesA 64 (keyF key))) ∧ Below w.heap.size w w' := by
  have HR := Keep.mk hr
  have HL := Keep.mk hb
  obtain ⟨ka, kc, rfl⟩ := row_form hr
  have hsk : (key.length : Int) ≤ 140737488351232 := by omega
  clear hr hb
  go_enter Tryd.func18, Tryd.ntmps18
  go_wp2_with (first | (refine wpList_new rfl 50 rfl _ Tryd.new50 ?_; refine Hid.out ?_))
  refine hid_in ?_
  have HR2 := Keep.mk (Blk.new w 50 (bytesA 64 fun _ => 0))
  have HB2 := Keep.mk (below_new w (.cells (bytesA 64 fun _ => 0) 50))
  obtain ⟨g2, hg2⟩ : ∃ g2, Keep (g2 = w.heap.size) := ⟨_, ⟨rfl⟩⟩
  rw [← hg2.out] at HR2 ⊢
  generalize w.alloc (.cells (bytesA 64 fun _ => 0) 50) = w1 at *
  go_wp2_with (first | (refine wpList_new rfl 50 rfl _ Tryd.new50 ?_; refine Hid.out ?_))
  refine hid_in ?_
  have HK3 := Keep.mk (Blk.new w1 50 (bytesA 64 fun _ => 0))
  have HR3 := Keep.mk (HR2.out.alloc (.cells (bytesA 64 fun _ => 0) 50))
  have HB3 := Keep.mk (HB2.out.alloc HB2.out.size (.cells (bytesA 64 fun _ => 0) 50))
  obtain ⟨g3, hg3⟩ : ∃ g3, Keep (g3 = w1.heap.size) := ⟨_, ⟨rfl⟩⟩
  rw [← hg3.out] at HK3 ⊢
  have Hne : Keep (g2 ≠ g3 ∧ w.heap.size ≤ g2 ∧ w.heap.size ≤ g3) := ⟨by
    have h1 := HR2.out.lt; have h2 := hg2.out; have h3 := hg3.out; have h4 := HB2.out.size
    exact ⟨by omega, by omega, by omega⟩⟩
  generalize w1.alloc (.cells (bytesA 64 fun _ => 0) 50) = w2 at *
  clear HR2 HB2 hg2 hg3
  have HRw := Keep.mk (HR.out.below HB3.out)
  by_cases hc : key.length ≤ 64
  · have hc' : (key.length : Int) ≤ 64 := by omega
    have Hc := Keep.mk hc
    clear hc
    have hcp := run_copyG w2 g3 0 64 64 _ key 3 50 _ HK3.out Hc.out (by rw [bytesA_size]; have := Hc.out; omega) HRw.out
    rw [keyF_of _ Hc.out, show (bytesA 64 fun i => (zpad key).getD i 0) = bytesA 64 (keyF key) by unfold keyF; rw [show hk key = key from if_neg (by have := Hc.out; omega)]] at hcp
    obtain ⟨ca, hca⟩ : ∃ ca, Keep (ca = bytesA 64 (keyF key)) := ⟨_, ⟨rfl⟩⟩
    have HI : Keep ((Tryd.prog.info? 50).map (·.size) = some ca.size) := ⟨by rw [hca.out]; exact Tryd.size50B _⟩
    have HZ : Keep ((bytesA 64 fun _ => 0).size = ca.size) := ⟨by rw [hca.out]; exact bytesA_sizes _ _ _⟩
    have HO : Keep (ca.all (·.oneCell') = true) := ⟨by rw [hca.out]; exact bytesA_one _ _⟩
    rw [← hca.out] at hcp
    obtain ⟨w5, hw5⟩ : ∃ w5, Keep (w5 = w2.setRow g3 ca) := ⟨_, ⟨rfl⟩⟩
    rw [← hw5.out] at hcp
    have HK5 : Keep (Blk w5 g3 50 ca) := ⟨by rw [hw5.out]; exact HK3.out.setRow ca⟩
    have HR5 : Keep (Blk w5 g2 50 (bytesA 64 fun _ => 0)) := ⟨by rw [hw5.out]; exact HR3.out.setRow_ne Hne.out.1 _⟩
    have HB5 : Keep (Below w.heap.size w w5) := ⟨by rw [hw5.out]; exact below_setRow HB3.out Hne.out.2.2 _⟩
    clear hw5 HRw HK3 HR3 HB3
    go_wp2_with (refine wpList_load_row rfl 50 (.tmp 3) rfl g3 rfl 50 ca (0, 0) (.array 64 5) HK5.out Tryd.underlying50 rfl HI.out ?_; refine wpList_store_row rfl 50 (.tmp 2) (.tmp 14) rfl g2 ca rfl rfl 50 (bytesA 64 fun _ => 0) HR5.out HI.out HZ.out HO.out ?_)
    exact bodyPost_ret (v := .agg ca) (results_cell_row Tryd.results18 _ _ g2 50 _ (0, 0) _ rfl (HR5.out.setRow _) Tryd.underlying50 rfl HI.out) rfl ⟨by rw [hca.out], below_setRow HB5.out Hne.out.2.1 _⟩
  · have hc' : ¬ (key.length : Int) ≤ 64 := by omega
    have Hc := Keep.mk hc
    clear hc
    go_wp2_with fail
    refine (of_any _ key w2 HRw.out (by have := HL.out; omega)).mono ?_
    rintro e w3 ⟨rfl, hb3⟩
    obtain ⟨cb, hcb⟩ : ∃ cb, Keep (cb = bytesA 32 (shaP key)) := ⟨_, ⟨rfl⟩⟩
    rw [← hcb.out]
    have HJ : Keep ((Tryd.prog.info? 40).map (·.size) = some cb.size) := ⟨by rw [hcb.out]; exact Tryd.size40B _⟩
    have HJz : Keep ((bytesA 32 fun _ => 0).size = cb.size) := ⟨by rw [hcb.out]; exact bytesA_sizes _ _ _⟩
    have HJo : Keep (cb.all (·.oneCell') = true) := ⟨by rw [hcb.out]; exact bytesA_one _ _⟩
    have HKa := Keep.mk (HK3.out.below hb3 HK3.out.lt)
    have HRa := Keep.mk (HR3.out.below hb3 HR3.out.lt)
    have HBa := Keep.mk (HB3.out.trans (hb3.mono HB3.out.size))
    clear hb3 HK3 HR3 HB3
    go_wp2_with (first | (refine wpList_new rfl 40 rfl _ Tryd.new40 ?_; refine Hid.out ?_))
    refine hid_in ?_
    have HN := Keep.mk (Blk.new w3 40 (bytesA 32 fun _ => 0))
    have HKb := Keep.mk (HKa.out.alloc (.cells (bytesA 32 fun _ => 0) 40))
    have HRb := Keep.mk (HRa.out.alloc (.cells (bytesA 32 fun _ => 0) 40))
    have HBb := Keep.mk (HBa.out.alloc HBa.out.size (.cells (bytesA 32 fun _ => 0) 40))
    obtain ⟨g4, hg4⟩ : ∃ g4, Keep (g4 = w3.heap.size) := ⟨_, ⟨rfl⟩⟩
    have Hn4 : Keep (g3 ≠ g4 ∧ g2 ≠ g4 ∧ w.heap.size ≤ g4) := ⟨by
      have h1 := HKa.out.lt; have h2 := HRa.out.lt; have h3 := HBa.out.size; have h4 := hg4.out
      exact ⟨by omega, by omega, by omega⟩⟩
    rw [← hg4.out] at HN ⊢
    generalize w3.alloc (.cells (bytesA 32 fun _ => 0) 40) = w4 at *
    clear HKa HRa HBa hg4
    go_wp2_with (first | (refine wpList_store_row rfl 40 (.tmp 4) (.tmp 9) rfl g4 cb rfl rfl 40 (bytesA 32 fun _ => 0) HN.out HJ.out HJz.out HJo.out ?_; refine Hid.out ?_))
    refine hid_in ?_
    have HNc := Keep.mk (HN.out.setRow cb)
    have HKc := Keep.mk (HKb.out.setRow_ne (b' := g4) Hn4.out.1 cb)
    have HRc := Keep.mk (HRb.out.setRow_ne (b' := g4) Hn4.out.2.1 cb)
    have HBc := Keep.mk (below_setRow HBb.out Hn4.out.2.2 cb)
    generalize w4.setRow g4 cb = wd at *
    clear HN HKb HRb HBb
    have HRh : Keep (RowAt wd (.slice (some ⟨g4, 0, none⟩) 32 32) (hl 32 (shaP key))) := ⟨row_arr (by rw [← hcb.out]; exact HNc.out)⟩
    obtain ⟨hh, hhh⟩ : ∃ hh, Keep (hh = hl 32 (shaP key)) := ⟨_, ⟨rfl⟩⟩
    rw [← hhh.out] at HRh
    have Hhl : Keep (hh.length ≤ 64) := ⟨by rw [hhh.out, hl_len]; omega⟩
    have hcp := run_copyG wd g3 0 64 64 _ hh 3 50 _ HKc.out Hhl.out (by rw [bytesA_size]; have := Hhl.out; omega) HRh.out
    rw [keyF_of _ Hhl.out, show (bytesA 64 fun i => (zpad hh).getD i 0) = bytesA 64 (keyF key) by unfold keyF; rw [show hk key = hh by rw [hhh.out]; exact if_pos (by have := Hc.out; omega)]] at hcp
    obtain ⟨ca, hca⟩ : ∃ ca, Keep (ca = bytesA 64 (keyF key)) := ⟨_, ⟨rfl⟩⟩
    have HI : Keep ((Tryd.prog.info? 50).map (·.size) = some ca.size) := ⟨by rw [hca.out]; exact Tryd.size50B _⟩
    have HZ : Keep ((bytesA 64 fun _ => 0).size = ca.size) := ⟨by rw [hca.out]; exact bytesA_sizes _ _ _⟩
    have HO : Keep (ca.all (·.oneCell') = true) := ⟨by rw [hca.out]; exact bytesA_one _ _⟩
    rw [← hca.out] at hcp
    obtain ⟨w5, hw5⟩ : ∃ w5, Keep (w5 = wd.setRow g3 ca) := ⟨_, ⟨rfl⟩⟩
    rw [← hw5.out] at hcp
    have HK5 : Keep (Blk w5 g3 50 ca) := ⟨by rw [hw5.out]; exact HKc.out.setRow ca⟩
    have HR5 : Keep (Blk w5 g2 50 (bytesA 64 fun _ => 0)) := ⟨by rw [hw5.out]; exact HRc.out.setRow_ne Hne.out.1 _⟩
    have HB5 : Keep (Below w.heap.size w w5) := ⟨by rw [hw5.out]; exact below_setRow HBc.out Hne.out.2.2 _⟩
    clear hw5 HRw HKc HRc HBc
    go_wp2_with (refine wpList_load_row rfl 50 (.tmp 3) rfl g3 rfl 50 ca (0, 0) (.array 64 5) HK5.out Tryd.underlying50 rfl HI.out ?_; refine wpList_store_row rfl 50 (.tmp 2) (.tmp 14) rfl g2 ca rfl rfl 50 (bytesA 64 fun _ => 0) HR5.out HI.out HZ.out HO.out ?_)
    exact bodyPost_ret (v := .agg ca) (results_cell_row Tryd.results18 _ _ g2 50 _ (0, 0) _ rfl (HR5.out.setRow _) Tryd.underlying50 rfl HI.out) rfl ⟨by rw [hca.out], below_setRow HB5.out Hne.out.2.1 _⟩
end Go.Proofs.YtpakaladpdoejaaDoor
