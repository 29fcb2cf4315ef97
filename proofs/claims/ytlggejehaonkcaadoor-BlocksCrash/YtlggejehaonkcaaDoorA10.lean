import Derived.Test.YtlggejehaonkcaaDoorA09
import Derived.Deep.RegionHeld3
import Derived.Lib.Small
import Derived.Lib.SliceRun
namespace Go.Proofs.YtlggejehaonkcaaDoor
open Go.RowKit
set_option linter.unusedSimpArgs false
set_option linter.unusedVariables false

set_option maxRecDepth 8000 in
set_option maxHeartbeats 2000000 in
theorem begun_at (v : Value) (l : List Int) (w : World) (hr : RowAt w v l) (hL : 16 ≤ l.length) (hB : Byts l) (hC : 1 ≤ (leN l 4).toNat ∧ (leN l 4).toNat ≤ 1048576 ∧ (leN l 4).toNat ≤ l.length - 16) (hE : eq16 (hdF ((l.drop 16).take (leN l 4).toNat)) (fun i => l.getD i 0) = true) : Calls Tryd.prog 39 #[v] w fun e w' => ∃ v', e = .returned v' ∧ (∀ wx, RowAt wx v l → RowAt wx v' ((l.drop 16).take (leN l 4).toNat)) ∧ Below w.heap.size w w' := by
 obtain ⟨va, vc, rfl⟩ := row_form hr
 have HR := Keep.mk hr
 have HL := Keep.mk hL
 have HB := Keep.mk hB
 have HC := Keep.mk hC
 have HE := Keep.mk hE
 clear hr hL hB hC hE
 go_enter Tryd.func39, Tryd.ntmps39
 have h16 : ¬ (l.length : Int) < 16 := by have := HL.out; omega
 obtain ⟨gb, go, hva, hcell⟩ : ∃ gb go, va = some ⟨gb, go, none⟩ ∧ Keep (∀ i, i < l.length → w.cell? ⟨gb, go + i, none⟩ = some (.int .u8 (l.getD i 0))) := by
  rcases HR.out with ⟨_, h⟩ | ⟨_, _, _, h⟩ | ⟨b, off, cap, e, _, h⟩
  ·have := HL.out; rw [h] at this; simp at this
  ·have := HL.out; rw [h] at this; simp at this
  ·injection e with e1; exact ⟨b, off, e1, ⟨h⟩⟩
 subst hva
 refine wp_seq_k fun K1 hK1 => rgn ?_
 refine VlS (.slice none 0 0) ?_
 refine WL.nil (hK1 _ _ ?_)
 refine wp_seq_k fun K2 hK2 => ?_
 refine wp_seq_k fun K3 hK3 => rgn ?_
 refine VlS (.slice (some ⟨gb, go, none⟩) l.length vc) ?_
 refine VlS (.int .i64 (l.length : Int)) ?_
 refine VlS (.bool false) ?_
 refine WL.nil (hK3 _ _ ?_)
 refine wp_cond_false rfl ?_
 refine wp_skip ?_
 refine hK2 _ _ ?_
 refine wp_seq_k fun K4 hK4 => rgn ?_
 refine VlS (.int .u32 0) ?_
 refine WL.nil (hK4 _ _ ?_)
 refine wp_seq_k fun K5 hK5 => ?_
 refine wp_seq_k fun K6 hK6 => rgn ?_
 refine VlS (.int .i64 0) ?_
 refine WL.nil (hK6 _ _ ?_)
 refine wp_block ?_
 refine wp_loop (fun ac wr => ∃ (t : Nat) (f : Nat → Value), ac = { tmps := #[.slice (some ⟨gb, go, none⟩) l.length vc, undef, .slice none 0 0, .int .u32 (leN l t), f 4, undef, undef, .slice (some ⟨gb, go, none⟩) l.length vc, .int .i64 (l.length : Int), .bool false, .int .i64 (t : Int), f 11, f 12, f 13, f 14, f 15, f 16, f 17, f 18, f 19, f 20, f 21, f 22, f 23, undef, undef, undef, undef, undef, undef, undef, undef, undef, undef, undef, undef, undef, undef, undef, undef, undef, undef, undef, undef, undef, undef, undef, undef, undef], defers := [] } ∧ t ≤ 4 ∧ w = wr) (fun a _ => 4 - (intOf (a.tmps.getD 10 undef)).toNat) ⟨0, fun zz => [.slice (some ⟨gb, go, none⟩) l.length vc, undef, .slice none 0 0, .int .u32 0, undef, undef, undef, .slice (some ⟨gb, go, none⟩) l.length vc, .int .i64 (l.length : Int), .bool false, .int .i64 0, undef, undef, undef, undef, undef, undef, undef, undef, undef, undef, undef, undef, undef, undef, undef, undef, undef, undef, undef, undef, undef, undef, undef, undef, undef, undef, undef, undef, undef, undef, undef, undef, undef, undef, undef, undef, undef, undef].getD zz undef, rfl, by omega, rfl⟩ ?_
 rintro ac wr ⟨t, f, rfl, ht, rfl⟩
 by_cases hlt : t < 4
 ·have hlt' : (t : Int) < 4 := by omega
  have htl : (t : Int) < (l.length : Int) := by have := HL.out; omega
  have hwt : IntKind.i64.wrap ((t : Int) + 1) = (t : Int) + 1 := by rw [IntKind.wrap_i64]; omega
  have hw8 : IntKind.i64.wrap (8 * (t : Int)) = 8 * (t : Int) := by rw [IntKind.wrap_i64]; omega
  obtain ⟨c, hc⟩ : ∃ c, Keep (c = l.getD t 0) := ⟨_, ⟨rfl⟩⟩
  obtain ⟨n, hn⟩ : ∃ n, Keep (n = leN l t) := ⟨_, ⟨rfl⟩⟩
  rw [← hn.out]
  have hcb : 0 ≤ c ∧ c < 256 := by rw [hc.out]; exact HB.out.getD t
  have hct := hcell.out t (by have := HL.out; omega)
  rw [← hc.out] at hct
  have hwc : IntKind.u32.wrap c = c := by rw [IntKind.wrap_u32]; omega
  have hsh := sh_byte c t hlt hcb
  have hor := or_byte n c t hlt (by rw [hn.out]; exact leN_lt l HB.out t) hcb
  refine wp_seq_k fun K7 hK7 => rgn ?_
  refine VlS (.bool true) ?_
  refine WL.nil (hK7 _ _ ?_)
  refine wp_seq_k fun K8 hK8 => ?_
  refine wp_cond_true rfl ?_
  refine wp_skip ?_
  refine hK8 _ _ ?_
  refine wp_seq_k fun K9 hK9 => ?_
  refine wp_block ?_
  refine wp_seq_k fun K10 hK10 => rgn ?_
  refine VlS (.int .i64 (t : Int)) ?_
  refine VlS (.int .i64 (t : Int)) ?_
  refine WL.nil (hK10 _ _ ?_)
  refine rgn ?_
  refine VlS (.int .u32 n) ?_
  refine VlS (.slice (some ⟨gb, go, none⟩) l.length vc) ?_
  refine VlS (.int .i64 (t : Int)) ?_
  refine VlS (.pointer (some ⟨gb, go + t, none⟩)) ?_
  refine VlS (.int .u8 c) ?_
  refine VlS (.int .u32 c) ?_
  refine VlS (.int .i64 (t : Int)) ?_
  refine VlS (.int .i64 (8 * (t : Int))) ?_
  refine VlS (.int .u32 (c * 256 ^ t)) ?_
  refine VlS (.int .u32 (n + c * 256 ^ t)) ?_
  refine VlS (.int .u32 (n + c * 256 ^ t)) ?_
  refine WL.nil (hK9 _ _ ?_)
  refine rgn ?_
  refine VlS (.int .i64 ((t : Int) + 1)) ?_
  refine VlS (.int .i64 ((t : Int) + 1)) ?_
  refine WL.nil ?_
  refine ⟨⟨t + 1, fun zz => [.slice (some ⟨gb, go, none⟩) l.length vc, undef, .slice none 0 0, .int .u32 (n + c * 256 ^ t), .int .i64 (t : Int), undef, undef, .slice (some ⟨gb, go, none⟩) l.length vc, .int .i64 (l.length : Int), .bool false, .int .i64 ((t : Int) + 1), .bool true, .int .i64 (t : Int), .int .u32 n, .slice (some ⟨gb, go, none⟩) l.length vc, .int .i64 (t : Int), .pointer (some ⟨gb, go + t, none⟩), .int .u8 c, .int .u32 c, .int .i64 (t : Int), .int .i64 (8 * (t : Int)), .int .u32 (c * 256 ^ t), .int .u32 (n + c * 256 ^ t), .int .i64 ((t : Int) + 1), undef, undef, undef, undef, undef, undef, undef, undef, undef, undef, undef, undef, undef, undef, undef, undef, undef, undef, undef, undef, undef, undef, undef, undef, undef].getD zz undef, ?_, by omega, rfl⟩, ?_⟩
  ·have e : leN l (t + 1) = n + c * 256 ^ t := by rw [hn.out, hc.out]; rfl
   rw [e]; rfl
  ·simp only [intOf]; show 4 - ((t : Int) + 1).toNat < 4 - ((t : Int)).toNat; omega
 ·obtain rfl : t = 4 := by omega
  obtain ⟨N, hN⟩ : ∃ N : Nat, Keep (N = (leN l 4).toNat) := ⟨_, ⟨rfl⟩⟩
  have hNe : leN l 4 = (N : Int) := by rw [hN.out]; have := leN_lt l HB.out 4; omega
  rw [hNe]
  have hNb : (N : Int) < 4294967296 := by rw [← hNe]; have := leN_lt l HB.out 4; omega
  clear hNe
  obtain ⟨vs, hs1, hs2⟩ := slB_lo (.slice (some ⟨gb, go, none⟩) l.length vc) l w HR.out 16 HL.out
  have HS1 := Keep.mk (hs1 w)
  have HV := Keep.mk (hs2 w HR.out)
  have HVa := Keep.mk hs2
  clear hs1 hs2
  obtain ⟨ra, rc, hv⟩ := row_form HV.out
  subst hv
  obtain ⟨rl, hrl⟩ : ∃ r, Keep (r = l.drop 16) := ⟨_, ⟨rfl⟩⟩
  rw [← hrl.out] at HS1 HV HVa
  have hrn : Keep (rl.length = l.length - 16) := ⟨by rw [hrl.out, List.length_drop]⟩
  have hwN : IntKind.i64.wrap (N : Int) = (N : Int) := by rw [IntKind.wrap_i64]; omega
  have hn1 : ¬ (N : Int) < 1 := by have := HC.out; rw [← hN.out] at this; omega
  have hn2 : ¬ (1048576 : Int) < (N : Int) := by have := HC.out; rw [← hN.out] at this; omega
  have hn3 : ¬ (rl.length : Int) < (N : Int) := by have := HC.out; rw [← hN.out] at this; have := hrn.out; omega
  obtain ⟨vp, hp1, hp2⟩ := slB_hi32 (.slice ra rl.length rc) rl w HV.out N (by omega)
  have HP1 := Keep.mk (hp1 w)
  have HPv := Keep.mk (hp2 w HV.out)
  have HPa := Keep.mk hp2
  clear hp1 hp2
  obtain ⟨pa, pc, hv⟩ := row_form HPv.out
  subst hv
  obtain ⟨pl, hpl⟩ : ∃ r, Keep (r = rl.take N) := ⟨_, ⟨rfl⟩⟩
  rw [← hpl.out] at HP1 HPv HPa
  have hpn : Keep ((pl.length : Int) ≤ 1048576) := ⟨by rw [hpl.out, List.length_take]; omega⟩
  refine wp_seq_k fun K11 hK11 => rgn ?_
  refine VlS (.bool false) ?_
  refine WL.nil (hK11 _ _ ?_)
  refine wp_seq_k fun K12 hK12 => ?_
  refine wp_cond_false rfl ?_
  refine wp_exit ?_
  refine hK5 _ _ ?_
  refine wp_seq_k fun K13 hK13 => rgn ?_
  refine VlS (.slice (some ⟨gb, go, none⟩) l.length vc) ?_
  refine WL.slLoB (by kernel_rfl) (.tmp 24) (.const (.int .i64 16)) rfl (.slice (some ⟨gb, go, none⟩) l.length vc) (.int .i64 16) (.slice ra rl.length rc) rfl rfl HS1.out ?_
  simp only [Act.put, pqA, pqB, pqC]
  refine VlS (.slice ra rl.length rc) ?_
  refine WL.nil (hK13 _ _ ?_)
  refine wp_seq_k fun K14 hK14 => ?_
  refine wp_seq_k fun K15 hK15 => rgn ?_
  refine VlS (.int .u32 (N : Int)) ?_
  refine VlS (.bool false) ?_
  refine VlS (.bool false) ?_
  refine VlS (.int .u32 (N : Int)) ?_
  refine VlS (.bool false) ?_
  refine VlS (.bool false) ?_
  refine VlS (.bool false) ?_
  refine VlS (.int .u32 (N : Int)) ?_
  refine VlS (.int .i64 (N : Int)) ?_
  refine VlS (.slice ra rl.length rc) ?_
  refine VlS (.int .i64 (rl.length : Int)) ?_
  refine VlS (.bool false) ?_
  refine VlS (.bool false) ?_
  refine WL.nil (hK15 _ _ ?_)
  refine wp_cond_false rfl ?_
  refine wp_skip ?_
  refine hK14 _ _ ?_
  refine wp_seq_k fun K16 hK16 => rgn ?_
  refine VlS (.slice ra rl.length rc) ?_
  refine VlS (.int .u32 (N : Int)) ?_
  refine WL.slHiB (by kernel_rfl) (.tmp 39) (.tmp 40) rfl (.slice ra rl.length rc) (.int .u32 (N : Int)) (.slice pa pl.length pc) rfl rfl HP1.out ?_
  simp only [Act.put, pqA, pqB, pqC]
  refine VlS (.slice pa pl.length pc) ?_
  refine WL.nil (hK16 _ _ ?_)
  refine wp_seq_k fun K17 hK17 => ?_
  refine wp_seq_k fun K18 hK18 => ?_
  obtain ⟨E, hE⟩ : ∃ E : Nat → Int, Keep (E = fun i => l.getD i 0) := ⟨_, ⟨rfl⟩⟩
  have HEq : Keep (eq16 (hdF pl) E = true) := ⟨by rw [hpl.out, hrl.out, hN.out, hE.out]; exact HE.out⟩
  have D0 : Keep (Below w.heap.size w w.drew) := ⟨(Below.refl _ _).drew⟩
  have HRg : Keep (∀ wx, Below w.heap.size w wx → wx.rangeAt gb go (bytesA 16 E).toList) := ⟨fun wx hx j v hv => by
   rw [hE.out, hl_bytesA] at hv
   have hj : j < 16 := by have := (List.getElem?_eq_some_iff.1 hv).1; rw [bv_len, hl_len] at this; exact this
   rw [bv_get _ _ (by rw [hl_len]; exact hj), hl_get _ _ _ hj] at hv
   injection hv with hv
   rw [← hv]
   exact bcl hx ⟨cell_lt (hcell.out j (by have := HL.out; omega)), hcell.out j (by have := HL.out; omega)⟩⟩
  refine wp_region_held_drew (S := fun wx => Below w.heap.size w wx) (by kernel_rfl) (D0.out) (fun hHeld => ?_)
  refine tkS (i := 0) (oi := ⟨some 42, Op.move (Operand.tmp 6), 41, _, _, none⟩) (v := .slice pa pl.length pc) rfl (Or.inl ⟨by rfl, fun w hS => by go_simp⟩) hHeld ?_
  refine tkS (i := 2) (oi := ⟨some 44, Op.move (Operand.tmp 0), 41, _, _, none⟩) (v := .slice (some ⟨gb, go, none⟩) l.length vc) rfl (Or.inl ⟨by rfl, fun w hS => by go_simp⟩) hHeld ?_
  refine tkS (i := 3) (oi := ⟨some 45, Op.sliceToArrayPointer 104 (Operand.tmp 44), 0, _, _, none⟩) (v := .pointer (some ⟨gb, go, none⟩)) rfl (Or.inl ⟨by rfl, fun w hS => by have hq := run_arrayAt (P := Tryd.prog) (w := w) 104 5 16 (some ⟨gb, go, none⟩) l.length vc Tryd.underlying104 HL.out; clear hS; go_simp⟩) hHeld ?_
  refine tkS (i := 4) (oi := ⟨some 46, Op.load 104 (Operand.tmp 45), 104, _, _, none⟩) (v := .agg (bytesA 16 E)) rfl (yieldsIf_loadAj (by rfl) 104 (.tmp 45) rfl gb go rfl (bytesA 16 E) _ (fun w hS => HRg.out w hS) Tryd.underlying104 rfl (Tryd.size104B _)) hHeld ?_
  refine wpAnyH_ready (rs := [1]) (by kernel_rfl) (by simp) ?_
  refine AllReadyH.cons (o := ⟨some 43, Op.call { callee := Callee.value (Operand.func 48), args := #[Operand.tmp 42], argTypes := #[41] }, 104, _, _, none⟩) rfl (fun K hK => ?_) AllReadyH.nil
  rw [if_pos (by rfl)]
  refine wp_callF 48 _ _ rfl Tryd.in48 #[.slice pa pl.length pc] (by simp [Act.eval]) (fun vz wz => vz = .agg (bytesA 16 (hdF pl)) ∧ Below w.heap.size w wz) ?_ ?_
  ·refine (head_any _ pl w.drew (HPv.out.below D0.out) hpn.out).mono ?_
   rintro e wz ⟨rfl, h⟩
   exact ⟨_, rfl, rfl, D0.out.trans (h.mono D0.out.size)⟩
  rintro vz w2 ⟨rfl, h2⟩
  have B2 := Keep.mk h2
  clear h2
  refine hK _ _ B2.out fun hH2 => ?_
  clear hK
  simp only [Act.put, pqA, pqB, pqC]
  refine tkS (i := 5) (oi := ⟨some 47, Op.binOp BinOp.neq 104 (Operand.tmp 43) (Operand.tmp 46) 104, 4, _, _, none⟩) (v := .bool false) rfl (Or.inl ⟨by rfl, fun w hS => by have hq := run_neq16 (hdF pl) E w; rw [HEq.out] at hq; clear hS; unfold execOp; simp only [Sem.run_bind, Act.eval]; exact (congrArg (fun z => Result.andThen z fun a w => Result.ok (Next.value a) w) hq)⟩) hH2 ?_
  refine wpAnyH_done (by kernel_rfl) ?_ _
  refine hK18 _ _ ?_
  refine wp_cond_false rfl ?_
  refine wp_skip ?_
  refine hK17 _ _ ?_
  refine wp_seq_k fun K19 hK19 => rgn ?_
  refine VlS (.slice pa pl.length pc) ?_
  refine VlS (.slice pa pl.length pc) ?_
  refine WL.nil (hK19 _ _ ?_)
  refine wp_ret ?_
  go_ret
  refine ⟨_, rfl, fun wx hx => ?_, B2.out⟩
  have h := HPa.out wx (HVa.out wx hx)
  rw [hpl.out, hrl.out, hN.out] at h
  rw [hpl.out, hrl.out, hN.out]
  exact h
theorem begun_none (v : Value) (l : List Int) (w : World) (hr : RowAt w v l) (hB : Byts l) (h : bgn l = none) : Calls Tryd.prog 39 #[v] w fun e w' => e = .returned (.slice none 0 0) ∧ Below w.heap.size w w' := by
 unfold bgn at h
 split at h
 ·rename_i h1; exact begun_short v l w hr h1
 ·rename_i h1
  simp only at h
  split at h
  ·rename_i h2; exact begun_len v l w hr (by omega) hB h2
  ·rename_i h2
   split at h
   ·cases h
   ·rename_i h3
    exact begun_off v l w hr (by omega) hB ⟨by omega, by omega, by omega⟩ (by simpa using h3)
theorem begun_some (v : Value) (l p : List Int) (w : World) (hr : RowAt w v l) (hB : Byts l) (h : bgn l = some p) : Calls Tryd.prog 39 #[v] w fun e w' => ∃ q off cap, e = .returned (.slice (some ⟨q, off, none⟩) p.length cap) ∧ (∀ wx, RowAt wx v l → RowAt wx (.slice (some ⟨q, off, none⟩) p.length cap) p) ∧ Below w.heap.size w w' := by
 have hp := (bgn_some h).1
 unfold bgn at h
 split at h
 ·cases h
 ·rename_i h1
  simp only at h
  split at h
  ·cases h
  ·rename_i h2
   split at h
   ·rename_i h3
    injection h with h
    refine (begun_at v l w hr (by omega) hB ⟨by omega, by omega, by omega⟩ h3).mono ?_
    rintro e w' ⟨v', rfl, hra, hb⟩
    rw [h] at hra
    have hr' := hra w hr
    rcases hr' with ⟨_, h5⟩ | ⟨_, _, _, h5⟩ | ⟨q, off, cap, rfl, h6⟩
    ·have := hp.1; rw [h5] at this; simp at this
    ·have := hp.1; rw [h5] at this; simp at this
    ·exact ⟨q, off, cap, rfl, hra, hb⟩
   ·cases h
theorem clone_row (q off cap : Nat) (l : List Int) (w : World) (hr : RowAt w (.slice (some ⟨q, off, none⟩) l.length cap) l) (h0 : 0 < l.length) (hl : l.length ≤ 140737488355328) : Calls Tryd.prog 21 #[.slice (some ⟨q, off, none⟩) l.length cap] w fun e w' => ∃ v', e = .returned v' ∧ Own w' v' l ∧ (∀ k, v'.ownBlock = some k → w.heap.size ≤ k) ∧ Below w.heap.size w w' := by
 refine (Tryd.bytes_Clone_at ⟨q, off, none⟩ l.length cap l w rfl hl fun i hi => ?_).mono ?_
 ·rcases hr with ⟨h, _⟩ | ⟨a, c, h, h1⟩ | ⟨h, o, c, h1, _, h2⟩
  ·cases h
  ·rw [h1] at h0; simp at h0
  ·injection h1 with h1 _ _
   injection h1 with h1
   injection h1 with h3 h4 _
   subst h3 h4
   rw [Addr.add_mid]; exact h2 i hi
 ·rintro e w' ⟨v', rfl, ho, _, hb⟩
  refine ⟨v', rfl, ?_, fun k hk => (World.ownsRow.lt ho k hk).1, hb⟩
  obtain ⟨h1, h2⟩ := ho
  refine ⟨by simp [bv], ?_⟩
  rcases h2 with h2 | ⟨g, cap, cur, h3, h4, h5⟩
  ·exact .inl h2
  ·exact .inr ⟨g, cap, cur, h3, Nat.zero_le _, h5⟩
theorem OwnS.typ {w : World} {v : Value} {l : List ByteArray} (h : OwnS w v l) {k : Nat} (hk : v.ownBlock = some k) : Typ w k 9 := by
 rcases h.2 with ⟨rfl, _⟩ | ⟨g, cap, cur, rfl, _, h3, _⟩
 ·simp [Value.ownBlock] at hk
 ·simp [Value.ownBlock] at hk
  subst hk
  exact ⟨_, _, h3⟩
def RwO (w : World) (v : Value) (ls : List (List Int)) (b : Nat) : Prop :=
 ∃ vs : List Value, OwnR w v vs ∧ (∀ k, v.ownBlock = some k → b ≤ k) ∧ vs.length = ls.length ∧ ∀ i, i < ls.length → Own w (vs.getD i noS) (ls.getD i []) ∧ ∀ k, (vs.getD i noS).ownBlock = some k → b ≤ k
theorem RwO.grown {w w' : World} {v : Value} {ls : List (List Int)} {b : Nat} {S : Nat → Prop} (h : RwO w v ls b) (hg : Grown w w' S) (hT : ∀ k, Typ w k 5 ∨ Typ w k 41 → ¬ S k) : RwO w' v ls b := by
 obtain ⟨vs, h1, h2, h3, h4⟩ := h
 exact ⟨vs, h1.grown hg fun k hk => hT k (.inr (h1.typ hk)), h2, h3, fun i hi => ⟨(h4 i hi).1.grown hg fun k hk => hT k (.inl ((h4 i hi).1.typ hk)), (h4 i hi).2⟩⟩
theorem RwO.rwn {w : World} {v : Value} {ls : List (List Int)} {b : Nat} (h : RwO w v ls b) : RwN w v ls fun k => b ≤ k ∧ k < w.heap.size := by
 obtain ⟨vs, h1, h2, h3, h4⟩ := h
 exact ⟨vs, h1, fun k hk => ⟨h2 k hk, h1.lt k hk⟩, h3, fun i hi => ⟨(h4 i hi).1.row, fun k hk => ⟨(h4 i hi).2 k hk, (h4 i hi).1.lt k hk⟩⟩⟩
theorem RwO.form {w : World} {v : Value} {ls : List (List Int)} {b : Nat} (h : RwO w v ls b) : ∃ a c, v = .slice a ls.length c := h.rwn.form
structure RS (w0 w : World) (g d : Nat) (vp vl : Value) (V : JV) : Prop where
 blk : Blk w g 81 (jA d vp V.pr V.sz false false)
 own : OwnP w vp V.pl
 new : ∀ k, vp.ownBlock = some k → w0.heap.size ≤ k
 row : RwO w vl V.ps w0.heap.size
 gr : Grown w0 w fun k => k = g
theorem RS.below {w0 w w' : World} {g d : Nat} {vp vl : Value} {V : JV} (h : RS w0 w g d vp vl V) (hb : Below w.heap.size w w') : RS w0 w' g d vp vl V :=
 ⟨h.blk.below hb h.blk.lt, h.own.grown (Grown.below (S := fun _ => False) hb) fun _ _ h => h, h.new, h.row.grown (Grown.below (S := fun _ => False) hb) fun _ _ h => h, h.gr.trans (Grown.below hb)⟩
theorem RS.drew {w0 w : World} {g d : Nat} {vp vl : Value} {V : JV} (h : RS w0 w g d vp vl V) : RS w0 w.drew g d vp vl V := h.below (Below.refl _ _).drew
theorem RS.cell {w0 w : World} {g d : Nat} {vp vl : Value} {V V' : JV} (h : RS w0 w g d vp vl V) {j : Nat} {v : Value} (hy : (jA d vp V.pr V.sz false false).setIfInBounds j v = jA d vp V'.pr V'.sz false false) (hp : V'.pl = V.pl) (hs : V'.ps = V.ps) : RS w0 (w.setCell ⟨g, j, none⟩ v) g d vp vl V' := by
 have hg : Grown w (w.setCell ⟨g, j, none⟩ v) fun k => k = g := Grown.setCell w g j v fun _ => rfl
 refine ⟨hy ▸ h.blk.set j v, ?_, h.new, ?_, h.gr.trans hg⟩
 ·rw [hp]
  exact h.own.grown hg fun k hk e => by subst e; have := (h.own.typ hk).one h.blk.typ; revert this; decide
 ·rw [hs]
  exact h.row.grown hg fun k hk e => by subst e; rcases hk with hk | hk <;> (have := hk.one h.blk.typ; revert this; decide)
theorem RS.place {w0 w w' : World} {g d : Nat} {vp vl v' : Value} {V : JV} {x : Int × Int} (h : RS w0 w g d vp vl V) (ho : OwnP w' v' (V.pl ++ [x])) (hg : Grown w w' fun k => vp.ownBlock = some k) (hm : Moved w vp v') (hz : g < w0.heap.size) : RS w0 (w'.setCell ⟨g, 1, none⟩ v') g d v' vl { V with pl := V.pl ++ [x] } := by
 have ht : ∀ {k : Nat} {T : TypeId}, Typ w k T → T ≠ 88 → ¬ vp.ownBlock = some k := fun hk hT e => hT (hk.one (h.own.typ e))
 have hb : Blk w' g 81 (jA d vp V.pr V.sz false false) := hg.blk h.blk (ht h.blk.typ (by decide))
 have hs : Grown w' (w'.setCell ⟨g, 1, none⟩ v') fun k => k = g := Grown.setCell w' g 1 v' fun _ => rfl
 have hn : ∀ k, v'.ownBlock = some k → w0.heap.size ≤ k := fun k hk => by
  rcases hm with e | ⟨j, e, hj⟩
  ·rw [hk] at e; exact h.new k e.symm
  ·rw [hk] at e
   have := Option.some.inj e
   have := h.gr.size
   omega
 refine ⟨hb.set 1 v', ho.grown hs fun k hk e => ?_, hn, (h.row.grown hg fun k hk => ?_).grown hs fun k hk e => ?_, (h.gr.next hg fun k hk e => ?_).trans hs⟩
 ·subst e; have := (ho.typ hk).one hb.typ; revert this; decide
 ·rcases hk with hk | hk <;> exact ht hk (by decide)
 ·subst e; rcases hk with hk | hk <;> (have := hk.one hb.typ; revert this; decide)
 ·have := h.new k e
  omega
theorem RS.pay {w0 w w' : World} {g d : Nat} {vp vl v' vx : Value} {V : JV} {x : List Int} {vs : List Value} (h : RS w0 w g d vp vl V) (hl : OwnR w vl vs) (h2 : vs.length = V.ps.length) (h3 : ∀ i, i < V.ps.length → Own w (vs.getD i noS) (V.ps.getD i []) ∧ ∀ k, (vs.getD i noS).ownBlock = some k → w0.heap.size ≤ k) (h4 : ∀ k, vl.ownBlock = some k → w0.heap.size ≤ k) (ho : OwnR w' v' (vs ++ [vx])) (hg : Grown w w' fun k => vl.ownBlock = some k) (hm : Moved w vl v') (hx : Own w vx x) (hxn : ∀ k, vx.ownBlock = some k → w0.heap.size ≤ k) : RS w0 w' g d vp v' { V with ps := V.ps ++ [x] } := by
 have ht : ∀ {k : Nat} {T : TypeId}, Typ w k T → T ≠ 41 → ¬ vl.ownBlock = some k := fun hk hT e => hT (hk.one (hl.typ e))
 have hn : ∀ k, v'.ownBlock = some k → w0.heap.size ≤ k := fun k hk => by
  rcases hm with e | ⟨j, e, hj⟩
  ·rw [hk] at e; exact h4 k e.symm
  ·rw [hk] at e
   have := Option.some.inj e
   have := h.gr.size
   omega
 refine ⟨hg.blk h.blk (ht h.blk.typ (by decide)), h.own.grown hg fun k hk => ht (h.own.typ hk) (by decide), h.new, ⟨vs ++ [vx], ho, hn, by simp [h2], fun i hi => ?_⟩, h.gr.next hg fun k hk e => ?_⟩
 ·rw [List.length_append, List.length_singleton] at hi
  by_cases hlt : i < V.ps.length
  ·have e1 : (vs ++ [vx]).getD i noS = vs.getD i noS := by rw [List.getD_eq_getElem?_getD, List.getD_eq_getElem?_getD, List.getElem?_append_left (by omega)]
   have e2 : (V.ps ++ [x]).getD i [] = V.ps.getD i [] := by rw [List.getD_eq_getElem?_getD, List.getD_eq_getElem?_getD, List.getElem?_append_left hlt]
   rw [e1, e2]
   exact ⟨(h3 i hlt).1.grown hg fun k hk => ht ((h3 i hlt).1.typ hk) (by decide), (h3 i hlt).2⟩
  ·obtain rfl : i = V.ps.length := by omega
   have e1 : (vs ++ [vx]).getD V.ps.length noS = vx := by rw [← h2, List.getD_eq_getElem?_getD]; simp
   have e2 : (V.ps ++ [x]).getD V.ps.length [] = x := by rw [List.getD_eq_getElem?_getD]; simp
   rw [e1, e2]
   exact ⟨hx.grown hg fun k hk => ht (hx.typ hk) (by decide), hxn⟩
 ·have := h4 k e
  omega
def szOf (w : World) (g : Nat) : Nat := (intOf ((w.cell? ⟨g, 3, none⟩).getD undef)).toNat
theorem szOf_blk {w : World} {g d : Nat} {vp : Value} {pr sz : Int} {la de : Bool} (h : Blk w g 81 (jA d vp pr sz la de)) : szOf w g = sz.toNat := by
 unfold szOf
 rw [h.c 3 (by rfl : (jA d vp pr sz la de)[3]? = some (.int .i64 sz))]
 rfl
theorem rd_one {b p : List Int} {s : Nat} {P : List (List Int)} (hs : s = (frs P).length) (h : rdB b = P ++ rdB (b.drop s)) (hb : bgn (b.drop s) = some p) (hl : s ≤ b.length) : s + 16 + p.length = (frs (P ++ [p])).length ∧ rdB b = (P ++ [p]) ++ rdB (b.drop (s + 16 + p.length)) ∧ s + 16 + p.length ≤ b.length := by
 obtain ⟨_, r, e⟩ := bgn_some hb
 have h1 : (b.drop s).length = 16 + p.length + r.length := by rw [e, List.length_append, fr_len]
 rw [List.length_drop] at h1
 refine ⟨?_, ?_, by omega⟩
 ·rw [frs_app, List.length_append, ← hs]
  show _ = s + (frs [p]).length
  rw [frs_cons, List.length_append, fr_len]
  simp [frs]
  omega
 ·rw [rdB_some hb, List.drop_drop] at h
  rw [h, Nat.add_assoc]
  simp
theorem rd_last {b : List Int} {s : Nat} {P : List (List Int)} (hs : s = (frs P).length) (h : rdB b = P ++ rdB (b.drop s)) (hb : bgn (b.drop s) = none) : rdB b = P ∧ enB b = s := by
 rw [rdB_none hb, List.append_nil] at h
 exact ⟨h, by unfold enB; rw [h, hs]⟩
theorem rd_end {b : List Int} {s : Nat} {P : List (List Int)} (hs : s = (frs P).length) (h : rdB b = P ++ rdB (b.drop s)) (hb : s = b.length) : rdB b = P ∧ enB b = s := rd_last hs h (by rw [hb, List.drop_of_length_le (Nat.le_refl _)]; exact bgn_nil)
theorem frs_ge : ∀ P : List (List Int), P.length ≤ (frs P).length
 | [] => Nat.zero_le _
 | p :: P => by
  have := frs_ge P
  rw [frs_cons, List.length_append, fr_len, List.length_cons]
  omega
theorem rdJ_seg {F : Nat → Option (List Int)} {t : Nat} {V : JV} {b : List Int} (ht : t < 256) (hF : F t = some b) : rdJ F (256 - t) t V = if (V.more t b).torn = true then V.more t b else rdJ F (256 - (t + 1)) (t + 1) (V.more t b) := by
 obtain ⟨n, hn⟩ : ∃ n, 256 - t = n + 1 := ⟨255 - t, by omega⟩
 rw [hn, rdJ, hF, show 256 - (t + 1) = n by omega]
theorem usd_ins (fs : List PF) (i : Nat) (x : PF) : usd (fs.take i ++ [x] ++ fs.drop i) = usd fs + (x.bs.length : Int) := by
 have h : usd (fs.take i) + usd (fs.drop i) = usd fs := by rw [← usd_app, List.take_append_drop]
 rw [usd_app, usd_app]
 simp only [usd, List.map_cons, List.map_nil, List.sum_cons, List.sum_nil] at h ⊢
 omega
theorem crT_nm (kp : List Int) (t : Nat) (fs : List PF) : (crT kp t fs).map PF.nm = fs.map PF.nm := by
 apply List.ext_getElem?
 intro i
 unfold crT
 rw [List.getElem?_map, List.getElem?_map, List.getElem?_mapIdx]
 cases fs[i]? with
 | none => rfl
 | some f =>
  simp only [Option.map_some]
  split <;> rfl
theorem srt_nm {fs gs : List PF} (h : Srt fs) (e : gs.map PF.nm = fs.map PF.nm) : Srt gs := by
 have hm : ∀ l : List PF, Srt l ↔ (l.map PF.nm).Pairwise nlt := fun l => List.pairwise_map.symm
 rw [hm] at h ⊢
 rw [e]
 exact h
theorem crT_mem {kp : List Int} {fs : List PF} {f : PF} (h : f ∈ crT kp fs.length fs) : ∃ (i : Nat) (g : PF), fs[i]? = some g ∧ f = g.crash (kpN kp i g) := by
 obtain ⟨i, hi, rfl⟩ := List.getElem_of_mem h
 have hl : i < fs.length := by rw [crT_len] at hi; exact hi
 refine ⟨i, fs[i], List.getElem?_eq_getElem hl, ?_⟩
 simp only [crT, List.getElem_mapIdx]
 rw [if_pos hl]
theorem crash_len {f : PF} {n : Int} (h : 0 ≤ f.sf ∧ f.sf ≤ (f.bs.length : Int)) (hn : 0 ≤ n ∧ n ≤ (f.bs.length : Int) - f.sf) : (f.crash n).sf = ((f.crash n).bs.length : Int) := by
 simp only [PF.crash, List.length_take]
 omega
theorem DOk.crash {D : DV} (h : DOk D) (kp : List Int) : DOk (D.crash kp) := by
 refine ⟨srt_nm h.srt (crT_nm _ _ _), by show (crT kp _ _).length ≤ 256; rw [crT_len]; exact h.len, fun f hf => ?_, fun f hf => ?_, rfl, ?_, h.acts, by show (-1 : Int) ≤ -1 ∧ (-1 : Int) ≤ _; omega⟩
 ·obtain ⟨i, g, hg, rfl⟩ := crT_mem hf
  have h1 := h.sf g (List.mem_of_getElem? hg)
  have h2 := kpN_le kp i g h1
  have h3 := crash_len h1 h2
  have h4 : (g.crash (kpN kp i g)).sf = g.sf + kpN kp i g := rfl
  omega
 ·obtain ⟨i, g, hg, rfl⟩ := crT_mem hf
  intro c hc
  exact h.byt g (List.mem_of_getElem? hg) c (List.mem_of_mem_take hc)
 ·have h1 := usd_crT kp D.fs h.sf D.fs.length (Nat.le_refl _)
  rw [List.take_of_length_le (by rw [crT_len]; exact Nat.le_refl _), List.take_of_length_le (Nat.le_refl _)] at h1
  have := h.big
  show usd (crT kp D.fs.length D.fs) ≤ _
  omega
theorem openV_empty {F : Nat → Option (List Int)} (h : (openV F).pr = -1) : (openV F).ps = [] := by
 have := rdJ_stay F 256 0 JV.nil rfl h
 unfold openV
 rw [this]
 rfl
theorem leN_take (l : List Int) (s : Nat) (h : 4 ≤ s) : leN (l.take s) 4 = leN l 4 := by
 have e : ∀ i, i < 4 → (l.take s).getD i 0 = l.getD i 0 := fun i hi => by
  rw [List.getD_eq_getElem?_getD, List.getD_eq_getElem?_getD, List.getElem?_take, if_pos (by omega)]
 simp only [leN, e 0 (by omega), e 1 (by omega), e 2 (by omega), e 3 (by omega)]
theorem bgn_short (p r : List Int) (s : Nat) (hp : p.length ≤ 1048576) (hs : s < (fr p).length) : bgn ((fr p ++ r).take s) = none := by
 cases hb : bgn ((fr p ++ r).take s) with
 | none => rfl
 | some q =>
  exfalso
  obtain ⟨hq, r', e⟩ := bgn_some hb
  have hl : 16 + q.length ≤ s := by
   have h1 := congrArg List.length e
   rw [List.length_append, fr_len, List.length_take] at h1
   omega
  have h1 := fr_leN q r' (by have := hq.2; omega)
  rw [← e, leN_take _ _ (by omega), fr_leN p r (by omega)] at h1
  rw [fr_len] at hs
  omega
theorem frs_take_cons (p : List Int) (P : List (List Int)) (j : Nat) : (frs ((p :: P).take (j + 1))).length = 16 + p.length + (frs (P.take j)).length := by
 rw [List.take_succ_cons, frs_cons, List.length_append, fr_len]
theorem rdB_cut : ∀ (P : List (List Int)) (s : Nat), (∀ p ∈ P, PayOk p) → ∃ k, k ≤ P.length ∧ rdB ((frs P).take s) = P.take k ∧ (frs (P.take k)).length ≤ s ∧ ∀ j, j ≤ P.length → (frs (P.take j)).length ≤ s → j ≤ k
 | [], s, _ => ⟨0, Nat.le_refl _, by simp [frs, rdB_nil], by simp [frs], fun j hj _ => hj⟩
 | p :: P, s, h => by
  have hp := h p (by simp)
  by_cases hs : s < (fr p).length
  ·refine ⟨0, Nat.zero_le _, ?_, by simp [frs], fun j hj hl => ?_⟩
   ·rw [frs_cons, rdB_none (bgn_short p _ s hp.2 hs)]
    rfl
   ·cases j with
    | zero => exact Nat.le_refl _
    | succ j =>
     rw [frs_take_cons] at hl
     rw [fr_len] at hs
     omega
  ·obtain ⟨k, h1, h2, h3, h4⟩ := rdB_cut P (s - (fr p).length) fun q hq => h q (by simp [hq])
   refine ⟨k + 1, by simp; exact h1, ?_, ?_, fun j hj hl => ?_⟩
   ·rw [frs_cons, List.take_append, List.take_of_length_le (by omega), rdB_fr _ _ hp, h2, List.take_succ_cons]
   ·rw [frs_take_cons]
    rw [fr_len] at h3 hs
    omega
   ·cases j with
    | zero => exact Nat.zero_le _
    | succ j =>
     rw [frs_take_cons] at hl
     have := h4 j (by simpa using hj) (by rw [fr_len]; omega)
     omega
theorem rdJ_to (F : Nat → Option (List Int)) : ∀ (d n k : Nat) (s : JV), s.pr = (k : Int) - 1 → s.torn = false → (rdJ F n k s).pr = ((k + d : Nat) : Int) → ∃ s', s'.pr = ((k + d : Nat) : Int) - 1 ∧ s'.torn = false ∧ d < n ∧ (∀ j, k ≤ j → j < k + d → ∃ b, F j = some b ∧ enB b = b.length) ∧ ∀ F' : Nat → Option (List Int), (∀ j, k ≤ j → j < k + d → F' j = F j) → rdJ F' n k s = rdJ F' (n - d) (k + d) s'
 | 0, n, k, s, h1, h2, h3 => by
  refine ⟨s, h1, h2, ?_, fun j _ _ => by omega, fun F' _ => rfl⟩
  cases n with
  | zero => rw [rdJ] at h3; omega
  | succ n => omega
 | d + 1, n, k, s, h1, h2, h3 => by
  cases n with
  | zero => rw [rdJ] at h3; omega
  | succ n =>
   rw [rdJ] at h3
   cases hF : F k with
   | none => rw [hF] at h3; simp only at h3; omega
   | some b =>
    rw [hF] at h3
    simp only at h3
    by_cases ht : (s.more k b).torn = true
    ·rw [if_pos ht] at h3
     have : (s.more k b).pr = (k : Int) := rfl
     omega
    ·rw [if_neg ht] at h3
     have hb : enB b = b.length := by
      have e1 := enB_le b
      have e2 : ¬ enB b < b.length := fun h => ht (by simp only [JV.more]; exact decide_eq_true h)
      omega
     obtain ⟨s', e1, e2, e3, e4, e5⟩ := rdJ_to F d n (k + 1) (s.more k b) (by simp only [JV.more]; omega) (by simpa using ht) (by rw [h3]; omega)
     refine ⟨s', by rw [e1]; omega, e2, by omega, fun j hj1 hj2 => ?_, fun F' hF' => ?_⟩
     ·by_cases e : j = k
      ·subst e; exact ⟨b, hF, hb⟩
      ·exact e4 j (by omega) (by omega)
     ·rw [rdJ, hF' k (Nat.le_refl _) (by omega), hF]
      simp only
      rw [if_neg ht, e5 F' fun j hj1 hj2 => hF' j (by omega) (by omega)]
      congr 1 <;> omega
theorem openV_to {F : Nat → Option (List Int)} {m : Nat} (h : (openV F).pr = (m : Int)) : ∃ s, s.pr = (m : Int) - 1 ∧ s.torn = false ∧ m < 256 ∧ (∀ j, j < m → ∃ b, F j = some b ∧ enB b = b.length) ∧ ∀ F' : Nat → Option (List Int), (∀ j, j < m → F' j = F j) → openV F' = rdJ F' (256 - m) m s := by
 obtain ⟨s, h1, h2, h3, h4, h5⟩ := rdJ_to F m 256 0 JV.nil rfl rfl (by rw [Nat.zero_add]; exact h)
 rw [Nat.zero_add] at h1
 refine ⟨s, h1, h2, h3, fun j hj => h4 j (Nat.zero_le _) (by omega), fun F' hF' => ?_⟩
 have := h5 F' fun j _ hj => hF' j (by omega)
 rw [Nat.zero_add] at this
 exact this
theorem rdJ_one {F : Nat → Option (List Int)} {m : Nat} {s : JV} {b : List Int} (hm : m < 256) (hb : F m = some b) (hn : ∀ j, m < j → j < 256 → F j = none) : rdJ F (256 - m) m s = s.more m b := by
 rw [rdJ_seg hm hb]
 split
 ·rfl
 ·by_cases h : m = 255
  ·subst h; rfl
  ·exact rdJ_none (hn (m + 1) (by omega) (by omega))
theorem rdJ_two {F : Nat → Option (List Int)} {m : Nat} {s : JV} {b c : List Int} (hm : m + 1 < 256) (hb : F m = some b) (ht : enB b = b.length) (hc : F (m + 1) = some c) (hn : ∀ j, m + 1 < j → j < 256 → F j = none) : rdJ F (256 - m) m s = (s.more m b).more (m + 1) c := by
 rw [rdJ_seg (by omega) hb, if_neg (by simp only [JV.more, ht]; simp)]
 exact rdJ_one hm hc hn
theorem openV_one {F : Nat → Option (List Int)} {b : List Int} (hb : F 0 = some b) (hn : ∀ j, 0 < j → j < 256 → F j = none) : openV F = JV.nil.more 0 b := rdJ_one (m := 0) (by omega) hb hn
theorem openV_zero {F : Nat → Option (List Int)} (h : F 0 = none) : openV F = JV.nil := rdJ_none h
structure JI (D : DV) (V : JV) : Prop where
 ok : DOk D
 rd : openV (Fk D.fs) = V
 tn : V.torn = false
 hi : ∀ j : Nat, V.pr < (j : Int) → j < 256 → lk D.fs (nmS j) = none
 nm : ∀ f ∈ D.fs, ∃ j : Nat, j < 256 ∧ f.nm = nmS j
 lo : ∀ (j : Nat) (f : PF), (j : Int) < V.pr → lk D.fs (nmS j) = some f → f.sf = (f.bs.length : Int)
 room : 1073741824 ≤ D.room ∧ D.room ≤ 1099511627776
 siz : ∀ f ∈ D.fs, f.bs.length ≤ 1114128
def SU (D : DV) (V : JV) (sure : Nat) : Prop := sure ≤ V.ps.length ∧ ∀ (m : Nat) (f : PF), V.pr = (m : Int) → lk D.fs (nmS m) = some f → ∃ j, (frs ((rdB f.bs).take j)).length ≤ f.sf.toNat ∧ j ≤ (rdB f.bs).length ∧ sure + (rdB f.bs).length ≤ V.ps.length + j
structure CR (D : DV) (all : List (List Int)) (sure : Nat) : Prop where
 ok : DOk D
 nm : ∀ f ∈ D.fs, ∃ j : Nat, j < 256 ∧ f.nm = nmS j
 room : 1073741824 ≤ D.room ∧ D.room ≤ 1099511627776
 siz : ∀ f ∈ D.fs, f.bs.length ≤ 1114128
 rd : ∀ kp, ∃ k, sure ≤ k ∧ k ≤ all.length ∧ (openV (Fk (D.crash kp).fs)).ps = all.take k
theorem lk_crash {D : DV} (h : DOk D) (kp : List Int) (n : ByteArray) : (lk D.fs n = none → lk (D.crash kp).fs n = none) ∧ ∀ f, lk D.fs n = some f → ∃ z, 0 ≤ z ∧ z ≤ (f.bs.length : Int) - f.sf ∧ lk (D.crash kp).fs n = some (f.crash z) := by
 have hs := (h.crash kp).srt
 refine ⟨fun hn => lk_absent fun g hg e => ?_, fun f hf => ?_⟩
 ·obtain ⟨i, g', hg', rfl⟩ := crT_mem hg
  exact lk_none hn g' (List.mem_of_getElem? hg') e
 ·obtain ⟨i, hi, e⟩ := lk_some hf
  have hl := (List.getElem?_eq_some_iff.1 hi).1
  have hk := kpN_le kp i f (h.sf f (List.mem_of_getElem? hi))
  refine ⟨kpN kp i f, hk.1, hk.2, ?_⟩
  have hc : (D.crash kp).fs[i]? = some (f.crash (kpN kp i f)) := by
   show (crT kp D.fs.length D.fs)[i]? = _
   unfold crT
   rw [List.getElem?_mapIdx, hi]
   simp only [Option.map_some]
   rw [if_pos hl]
  have := lk_at hs hc
  rw [show (f.crash (kpN kp i f)).nm = f.nm from rfl, e] at this
  exact this
theorem crash_full {f : PF} {z : Int} (h : f.sf = (f.bs.length : Int)) (h0 : 0 ≤ z) (h1 : z ≤ (f.bs.length : Int) - f.sf) : (f.crash z).bs = f.bs := by
 have : z = 0 := by omega
 subst this
 simp only [PF.crash]
 rw [Int.add_zero, h, Int.toNat_natCast, List.take_of_length_le (Nat.le_refl _)]
theorem JI.cr {D : DV} {V : JV} {sure : Nat} (h : JI D V) (hs : SU D V sure) : CR D V.ps sure := by
 refine ⟨h.ok, h.nm, h.room, h.siz, fun kp => ?_⟩
 have hrd := h.rd
 rcases openV_at (Fk D.fs) with ⟨h1, _⟩ | ⟨m, b, hm, hb, h3, h4, h5⟩
 ·have e0 : Fk D.fs 0 = none := openV_none h1
  have e1 : Fk (D.crash kp).fs 0 = none := by
   cases hl : lk D.fs (nmS 0) with
   | none => exact Fk_none ((lk_crash h.ok kp _).1 hl)
   | some f => unfold Fk at e0; rw [hl] at e0; cases e0
  have e2 : V.ps = [] := by rw [← hrd]; exact openV_empty h1
  refine ⟨0, by have := hs.1; rw [e2] at this; exact this, Nat.zero_le _, ?_⟩
  rw [openV_zero e1, e2]
  rfl
 ·rw [hrd] at h3 h4 h5
  obtain ⟨s, s1, s2, _, s4, s5⟩ := openV_to (F := Fk D.fs) (m := m) (by rw [hrd]; exact h3)
  unfold Fk at hb
  obtain ⟨f, hf, hfb⟩ := Option.map_eq_some_iff.1 hb
  subst hfb
  have hF : ∀ j : Nat, m < j → j < 256 → Fk D.fs j = none := fun j h6 h7 => Fk_none (h.hi j (by omega) h7)
  have hV : V = s.more m f.bs := by
   rw [← hrd, s5 _ fun _ _ => rfl]
   exact rdJ_one hm (by unfold Fk; rw [hf]; rfl) hF
  have hfull : f.bs = frs (rdB f.bs) := by
   have := enB_take f.bs
   rw [h.tn] at h5
   have h6 : ¬ enB f.bs < f.bs.length := of_decide_eq_false h5.symm
   rwa [List.take_of_length_le (by omega)] at this
  obtain ⟨z, z0, z1, z2⟩ := (lk_crash h.ok kp (nmS m)).2 f hf
  have hF' : ∀ j, j < m → Fk (D.crash kp).fs j = Fk D.fs j := fun j hj => by
   obtain ⟨bj, hbj, _⟩ := s4 j hj
   unfold Fk at hbj ⊢
   obtain ⟨g, hg, _⟩ := Option.map_eq_some_iff.1 hbj
   obtain ⟨y, y0, y1, y2⟩ := (lk_crash h.ok kp (nmS j)).2 g hg
   rw [y2, hg]
   simp only [Option.map_some]
   rw [crash_full (h.lo j g (by omega) hg) y0 y1]
  have hsf := h.ok.sf f (by obtain ⟨i, hi, _⟩ := lk_some hf; exact List.mem_of_getElem? hi)
  have hread : openV (Fk (D.crash kp).fs) = s.more m (f.crash z).bs := by
   rw [s5 _ hF']
   exact rdJ_one hm (by unfold Fk; rw [z2]; rfl) fun j h6 h7 => Fk_none ((lk_crash h.ok kp _).1 (h.hi j (by omega) h7))
  obtain ⟨k, k1, k2, _, k4⟩ := rdB_cut (rdB f.bs) (f.sf + z).toNat (rdB_all f.bs)
  rw [← hfull] at k2
  obtain ⟨j, j1, j2, j3⟩ := hs.2 m f h3 hf
  have hjk := k4 j j2 (by omega)
  have hlen : V.ps.length = s.ps.length + (rdB f.bs).length := by rw [hV]; simp [JV.more]
  refine ⟨s.ps.length + k, by omega, by omega, ?_⟩
  rw [hread, hV]
  show s.ps ++ rdB (f.bs.take (f.sf + z).toNat) = (s.ps ++ rdB f.bs).take (s.ps.length + k)
  rw [k2, List.take_length_add_append]
theorem layUp_byte (s : Nat → Int) : ∀ t i, 0 ≤ layUp s t i ∧ layUp s t i < 256
 | 0, i => by simp [layUp]
 | t + 1, i => by
  have h := layUp_byte s t i
  have hm : ∀ x : Int, 0 ≤ x % 256 ∧ x % 256 < 256 := fun x => by omega
  unfold layUp upd
  repeat' split
  ·exact hm _
  ·exact hm _
  ·exact hm _
  ·exact hm _
  ·exact h
theorem fr_byts {p : List Int} (h : Byts p) : Byts (fr p) := fun c hc => by
 unfold fr at hc
 rcases List.mem_append.1 hc with hc | hc
 ·obtain ⟨i, _, rfl⟩ := List.mem_map.1 hc
  unfold hdF
  have hb : ∀ k, 0 ≤ byN (p.length : Int) k ∧ byN (p.length : Int) k < 256 := fun k => by unfold byN; omega
  split
  ·exact hb _
  ·split
   ·have := hb (i - 4); omega
   ·exact layUp_byte _ _ _
 ·exact h c hc
theorem usd_le {fs : List PF} (h : ∀ f ∈ fs, f.bs.length ≤ 1114128) : usd fs ≤ (fs.length : Int) * 1114128 := by
 induction fs with
 | nil => simp [usd]
 | cons f r ih =>
  have h1 := ih fun g hg => h g (by simp [hg])
  have h2 := h f (by simp)
  simp only [usd, List.map_cons, List.sum_cons, List.length_cons] at h1 ⊢
  push_cast
  omega
theorem JI.act {D : DV} {V : JV} (h : JI D V) : JI D.act V := ⟨h.ok.act, h.rd, h.tn, h.hi, h.nm, h.lo, h.room, h.siz⟩
theorem SU.act {D : DV} {V : JV} {sure : Nat} (h : SU D V sure) : SU D.act V sure := h
theorem JI.last {D : DV} {V : JV} {m : Nat} (h : JI D V) (hp : V.pr = (m : Int)) : m < 256 ∧ ∃ (f : PF) (s : JV), lk D.fs (nmS m) = some f ∧ V.sz = (f.bs.length : Int) ∧ f.bs = frs (rdB f.bs) ∧ V = s.more m f.bs ∧ s.pr = (m : Int) - 1 ∧ s.torn = false ∧ (∀ j, j < m → ∃ b, Fk D.fs j = some b ∧ enB b = b.length) ∧ ∀ F' : Nat → Option (List Int), (∀ j, j < m → F' j = Fk D.fs j) → openV F' = rdJ F' (256 - m) m s := by
 have hrd := h.rd
 rcases openV_at (Fk D.fs) with ⟨h1, _⟩ | ⟨m', b, hm, hb, h3, h4, h5⟩
 ·rw [hrd] at h1; omega
 ·rw [hrd] at h3 h4 h5
  obtain rfl : m' = m := by omega
  obtain ⟨s, s1, s2, _, s4, s5⟩ := openV_to (F := Fk D.fs) (m := m') (by rw [hrd]; exact h3)
  unfold Fk at hb
  obtain ⟨f, hf, hfb⟩ := Option.map_eq_some_iff.1 hb
  subst hfb
  have hen : enB f.bs = f.bs.length := by
   rw [h.tn] at h5
   have h6 : ¬ enB f.bs < f.bs.length := of_decide_eq_false h5.symm
   have := enB_le f.bs
   omega
  have hV : V = s.more m' f.bs := by
   rw [← hrd, s5 _ fun _ _ => rfl]
   exact rdJ_one hm (by unfold Fk; rw [hf]; rfl) fun j h6 h7 => Fk_none (h.hi j (by omega) h7)
  refine ⟨hm, f, s, hf, by rw [h4, hen], ?_, hV, s1, s2, s4, s5⟩
  have := enB_take f.bs
  rwa [List.take_of_length_le (by omega)] at this
theorem lk_syn {D : DV} {i m : Nat} {f : PF} (hs : Srt D.fs) (hf : D.fs[i]? = some f) (hn : f.nm = nmS m) (j : Nat) : lk (D.sync i).fs (nmS j) = if m = j then some f.sync else lk D.fs (nmS j) := by
 have e : (D.sync i).fs = D.fs.set i f.sync := sync_set _ _ _ hf
 rw [e, lk_set (g := f.sync) hs hf rfl, hn]
 by_cases e : m = j
 ·rw [if_pos (by rw [e]), if_pos e]
 ·rw [if_neg fun h => e (nmS_inj h), if_neg e]
theorem JI.sync {D : DV} {V : JV} {i m : Nat} {f : PF} (h : JI D V) (hp : V.pr = (m : Int)) (hf : D.fs[i]? = some f) (hn : f.nm = nmS m) : JI (D.sync i) V ∧ SU (D.sync i) V V.ps.length := by
 have hl := lk_syn h.ok.srt hf hn
 have hkf : lk D.fs (nmS m) = some f := by rw [← hn]; exact lk_at h.ok.srt hf
 have hF : Fk (D.sync i).fs = Fk D.fs := by
  funext j
  unfold Fk
  rw [hl]
  split
  ·rename_i e; subst e; rw [hkf]; rfl
  ·rfl
 have e : (D.sync i).fs = D.fs.set i f.sync := sync_set _ _ _ hf
 have hmem : ∀ g ∈ (D.sync i).fs, g ∈ D.fs ∨ g = f.sync := fun g hg => by rw [e] at hg; exact set_sub hg
 have hfm := List.mem_of_getElem? hf
 refine ⟨⟨h.ok.sync hf, by rw [hF]; exact h.rd, h.tn, fun j h1 h2 => ?_, fun g hg => ?_, fun j g h1 h2 => ?_, h.room, fun g hg => ?_⟩, Nat.le_refl _, fun m' g h1 h2 => ?_⟩
 ·rw [hl, if_neg (by omega)]; exact h.hi j h1 h2
 ·rcases hmem g hg with hg | rfl
  ·exact h.nm g hg
  ·exact h.nm f hfm
 ·rw [hl, if_neg (by omega)] at h2; exact h.lo j g h1 h2
 ·rcases hmem g hg with hg | rfl
  ·exact h.siz g hg
  ·exact h.siz f hfm
 ·obtain rfl : m' = m := by omega
  rw [hl, if_pos rfl] at h2
  injection h2 with h2
  subst h2
  refine ⟨(rdB f.bs).length, ?_, Nat.le_refl _, Nat.le_refl _⟩
  rw [show f.sync.bs = f.bs from rfl, List.take_of_length_le (Nat.le_refl _)]
  show enB f.bs ≤ (f.bs.length : Int).toNat
  rw [Int.toNat_natCast]
  exact enB_le f.bs
theorem JI.big {D : DV} {fs : List PF} (hl : fs.length ≤ 256) (hs : ∀ f ∈ fs, f.bs.length ≤ 1114128) : usd fs ≤ 1000000000 := by
 have := usd_le hs
 have h2 : (fs.length : Int) * 1114128 ≤ 256 * 1114128 := Int.mul_le_mul_of_nonneg_right (by omega) (by omega)
 omega
def JV.app (V : JV) (m : Nat) (p : List Int) : JV := ⟨V.ps ++ [p], V.pl ++ [((m : Int), V.sz)], (m : Int), V.sz + 16 + (p.length : Int), false⟩
theorem rdB_snoc {b p : List Int} (hb : b = frs (rdB b)) (hp : PayOk p) : rdB (b ++ fr p) = rdB b ++ [p] ∧ enB (b ++ fr p) = (b ++ fr p).length := by
 have e : b ++ fr p = frs (rdB b ++ [p]) := by rw [frs_app, ← hb]; simp [frs]
 have h1 : rdB (b ++ fr p) = rdB b ++ [p] := by
  rw [e]
  exact rdB_self _ fun q hq => by
   rcases List.mem_append.1 hq with hq | hq
   ·exact rdB_all b q hq
   ·rw [List.mem_singleton.1 hq]; exact hp
 refine ⟨h1, ?_⟩
 unfold enB
 rw [h1, ← e]
theorem JI.app {D : DV} {V : JV} {i m sure : Nat} {f : PF} {p : List Int} (h : JI D V) (hs : SU D V sure) (hp : V.pr = (m : Int)) (hf : D.fs[i]? = some f) (hn : f.nm = nmS m) (hpo : PayOk p) (hpb : Byts p) (hsz : f.bs.length + 16 + p.length ≤ 1114128) : JI (D.appIs i f (fr p)) (V.app m p) ∧ SU (D.appIs i f (fr p)) (V.app m p) sure := by
 obtain ⟨hm, f', s, hf', hz, hfull, hV, s1, s2, s4, s5⟩ := h.last hp
 have hkf : lk D.fs (nmS m) = some f := by rw [← hn]; exact lk_at h.ok.srt hf
 rw [hkf] at hf'
 injection hf' with hf'
 subst hf'
 obtain ⟨e1, e2⟩ := rdB_snoc hfull hpo
 have hl : ∀ j : Nat, lk (D.appIs i f (fr p)).fs (nmS j) = if m = j then some (f.app (fr p)) else lk D.fs (nmS j) := fun j => by
  show lk (D.fs.set i (f.app (fr p))) (nmS j) = _
  rw [lk_set (g := f.app (fr p)) h.ok.srt hf rfl, hn]
  by_cases e : m = j
  ·rw [if_pos (by rw [e]), if_pos e]
  ·rw [if_neg fun h => e (nmS_inj h), if_neg e]
 have hfm := List.mem_of_getElem? hf
 have hmem : ∀ g ∈ (D.appIs i f (fr p)).fs, g ∈ D.fs ∨ g = f.app (fr p) := fun g hg => set_sub (fs := D.fs) hg
 have hsiz : ∀ g ∈ (D.appIs i f (fr p)).fs, g.bs.length ≤ 1114128 := fun g hg => by
  rcases hmem g hg with hg | rfl
  ·exact h.siz g hg
  ·show (f.bs ++ fr p).length ≤ _
   rw [List.length_append, fr_len]
   omega
 have hlen : (D.appIs i f (fr p)).fs.length ≤ 256 := by show (D.fs.set i _).length ≤ 256; rw [List.length_set]; exact h.ok.len
 have hVapp : s.more m (f.bs ++ fr p) = V.app m p := by
  rw [hV]
  unfold JV.more JV.app
  simp only [e1, e2, Nat.lt_irrefl, decide_false, List.append_assoc]
  have e3 : enB f.bs = f.bs.length := by unfold enB; rw [← hfull]
  rw [plc_app, Int.zero_add, ← hfull, e3, List.length_append, fr_len]
  refine JV.mk.injEq .. |>.mpr ⟨rfl, ?_, rfl, ?_, rfl⟩
  ·rfl
  ·push_cast
   omega
 have hrd : openV (Fk (D.appIs i f (fr p)).fs) = V.app m p := by
  rw [← hVapp, s5 _ fun j hj => Fk_eq (by rw [hl, if_neg (by omega)])]
  exact rdJ_one hm (by unfold Fk; rw [hl, if_pos rfl]; rfl) fun j h6 h7 => Fk_none (by rw [hl, if_neg (by omega)]; exact h.hi j (by omega) h7)
 have hsf := h.ok.sf f hfm
 refine ⟨⟨?_, hrd, rfl, fun j h1 h2 => ?_, fun g hg => ?_, fun j g h1 h2 => ?_, h.room, hsiz⟩, ?_, fun m' g h1 h2 => ?_⟩
 ·have hok : DOk { D with fs := D.fs.set i (f.app (fr p)), used := D.used + ((fr p).length : Int) } := by
   refine ⟨srt_set h.ok.srt hf rfl, hlen, fun g hg => ?_, fun g hg => ?_, ?_, JI.big (D := D) hlen hsiz, h.ok.acts, h.ok.fuse⟩
   ·rcases hmem g hg with hg | rfl
    ·exact h.ok.sf g hg
    ·show 0 ≤ f.sf ∧ f.sf ≤ ((f.bs ++ fr p).length : Int)
     rw [List.length_append]
     omega
   ·rcases hmem g hg with hg | rfl
    ·exact h.ok.byt g hg
    ·intro c hc
     rcases List.mem_append.1 hc with hc | hc
     ·exact h.ok.byt f hfm c hc
     ·exact fr_byts hpb c hc
   ·show D.used + ((fr p).length : Int) = usd (D.fs.set i (f.app (fr p)))
    rw [usd_set hf, h.ok.used]
    show _ = _ - _ + ((f.bs ++ fr p).length : Int)
    rw [List.length_append]
    omega
  exact hok.act
 ·have h1' : (m : Int) < (j : Int) := h1
  rw [hl, if_neg (by omega)]; exact h.hi j (by omega) h2
 ·rcases hmem g hg with hg | rfl
  ·exact h.nm g hg
  ·exact h.nm f hfm
 ·have h1' : (j : Int) < (m : Int) := h1
  rw [hl, if_neg (by omega)] at h2
  exact h.lo j g (by omega) h2
 ·have := hs.1
  show sure ≤ (V.ps ++ [p]).length
  rw [List.length_append]
  omega
 ·have h1' : (m : Int) = (m' : Int) := h1
  obtain rfl : m = m' := by omega
  rw [hl, if_pos rfl] at h2
  injection h2 with h2
  subst h2
  obtain ⟨j, j1, j2, j3⟩ := hs.2 m f hp hkf
  refine ⟨j, ?_, ?_, ?_⟩
  ·show (frs ((rdB (f.bs ++ fr p)).take j)).length ≤ f.sf.toNat
   rw [e1, List.take_append_of_le_length j2]
   exact j1
  ·show j ≤ (rdB (f.bs ++ fr p)).length
   rw [e1, List.length_append]
   omega
  ·show sure + (rdB (f.bs ++ fr p)).length ≤ (V.ps ++ [p]).length + j
   rw [e1, List.length_append, List.length_append]
   omega
def JV.new (V : JV) (m : Nat) (p : List Int) : JV := ⟨V.ps ++ [p], V.pl ++ [((m : Int), 0)], (m : Int), 16 + (p.length : Int), false⟩
theorem JI.new {D : DV} {V : JV} {i m sure : Nat} {p : List Int} (h : JI D V) (hs : sure ≤ V.ps.length) (hp : V.pr = (m : Int) - 1) (hm : m < 256) (hall : ∀ (j : Nat) (f : PF), lk D.fs (nmS j) = some f → f.sf = (f.bs.length : Int)) (hf : fnd (nmS m) D.fs 0 = (i, false)) (hl256 : D.fs.length < 256) (hpo : PayOk p) (hpb : Byts p) : JI (D.appNew i (nmS m) (fr p)) (V.new m p) ∧ SU (D.appNew i (nmS m) (fr p)) (V.new m p) sure := by
 let g0 : PF := ⟨nmS m, fr p, 0⟩
 have hl : ∀ j : Nat, lk (D.appNew i (nmS m) (fr p)).fs (nmS j) = if j = m then some g0 else lk D.fs (nmS j) := fun j => by
  show lk (D.fs.take i ++ [g0] ++ D.fs.drop i) (nmS j) = _
  rw [lk_ins h.ok.srt hf rfl]
  by_cases e : j = m
  ·rw [if_pos (by rw [e]), if_pos e]
  ·rw [if_neg fun h => e (nmS_inj h), if_neg e]
 have hi := (fnd_le (nmS m) D.fs 0).2
 rw [hf] at hi
 simp only at hi
 have hmem : ∀ g ∈ (D.appNew i (nmS m) (fr p)).fs, g ∈ D.fs ∨ g = g0 := fun g hg => by
  have hg' : g ∈ D.fs.take i ++ [g0] ++ D.fs.drop i := hg
  rw [List.append_assoc, List.mem_append] at hg'
  rcases hg' with h1 | h1
  ·exact .inl (List.mem_of_mem_take h1)
  ·rcases List.mem_append.1 h1 with h1 | h1
   ·exact .inr (List.mem_singleton.1 h1)
   ·exact .inl (List.mem_of_mem_drop h1)
 have hlen : (D.appNew i (nmS m) (fr p)).fs.length ≤ 256 := by
  show (D.fs.take i ++ [g0] ++ D.fs.drop i).length ≤ 256
  simp only [List.length_append, List.length_take, List.length_drop, List.length_singleton]
  omega
 have hsiz : ∀ g ∈ (D.appNew i (nmS m) (fr p)).fs, g.bs.length ≤ 1114128 := fun g hg => by
  rcases hmem g hg with hg | rfl
  ·exact h.siz g hg
  ·show (fr p).length ≤ _
   rw [fr_len]
   have := hpo.2
   omega
 have e1 : rdB (fr p) = [p] := by have := rdB_fr p [] hpo; rwa [List.append_nil, rdB_nil] at this
 have e2 : enB (fr p) = (fr p).length := by unfold enB; rw [e1]; simp [frs]
 have hFlow : ∀ j, j < m → Fk (D.appNew i (nmS m) (fr p)).fs j = Fk D.fs j := fun j hj => Fk_eq (by rw [hl, if_neg (by omega)])
 have hFm : Fk (D.appNew i (nmS m) (fr p)).fs m = some (fr p) := by unfold Fk; rw [hl, if_pos rfl]; rfl
 have hFhi : ∀ j : Nat, m < j → j < 256 → Fk (D.appNew i (nmS m) (fr p)).fs j = none := fun j h1 h2 => Fk_none (by rw [hl, if_neg (by omega)]; exact h.hi j (by omega) h2)
 have hmore : V.more m (fr p) = V.new m p := by
  unfold JV.more JV.new
  rw [e1, e2, fr_len]
  simp [plc]
 have hrd : openV (Fk (D.appNew i (nmS m) (fr p)).fs) = V.new m p := by
  cases m with
  | zero =>
   have hV : V = JV.nil := by
    rw [← h.rd]
    exact rdJ_stay _ 256 0 JV.nil rfl (by show (openV _).pr = _; rw [h.rd, hp]; rfl)
   rw [← hmore, hV]
   exact openV_one hFm fun j h1 h2 => hFhi j h1 h2
  | succ m =>
   obtain ⟨_, f, s, hf', hz, hfull, hV, s1, s2, s4, s5⟩ := h.last (m := m) (by omega)
   have e3 : enB f.bs = f.bs.length := by unfold enB; rw [← hfull]
   rw [← hmore, s5 _ fun j hj => hFlow j (by omega), hV]
   exact rdJ_two hm (by rw [hFlow m (by omega)]; unfold Fk; rw [hf']; rfl) e3 hFm hFhi
 refine ⟨⟨?_, hrd, rfl, fun j h1 h2 => ?_, fun g hg => ?_, fun j g h1 h2 => ?_, h.room, hsiz⟩, ?_, fun m' g h1 h2 => ?_⟩
 ·have hok : DOk { D with fs := D.fs.take i ++ [g0] ++ D.fs.drop i, used := D.used + ((fr p).length : Int) } := by
   refine ⟨srt_ins h.ok.srt hf rfl, hlen, fun g hg => ?_, fun g hg => ?_, ?_, JI.big (D := D) hlen hsiz, h.ok.acts, h.ok.fuse⟩
   ·rcases hmem g hg with hg | rfl
    ·exact h.ok.sf g hg
    ·show (0 : Int) ≤ 0 ∧ (0 : Int) ≤ ((fr p).length : Int)
     omega
   ·rcases hmem g hg with hg | rfl
    ·exact h.ok.byt g hg
    ·exact fr_byts hpb
   ·show D.used + ((fr p).length : Int) = usd (D.fs.take i ++ [g0] ++ D.fs.drop i)
    rw [usd_ins, h.ok.used]
  exact hok.act
 ·have h1' : (m : Int) < (j : Int) := h1
  rw [hl, if_neg (by omega)]; exact h.hi j (by omega) h2
 ·rcases hmem g hg with hg | rfl
  ·exact h.nm g hg
  ·exact ⟨m, hm, rfl⟩
 ·have h1' : (j : Int) < (m : Int) := h1
  rw [hl, if_neg (by omega)] at h2
  exact hall j g h2
 ·show sure ≤ (V.ps ++ [p]).length
  rw [List.length_append]
  omega
 ·have h1' : (m : Int) = (m' : Int) := h1
  obtain rfl : m = m' := by omega
  rw [hl, if_pos rfl] at h2
  injection h2 with h2
  subst h2
  refine ⟨0, by simp [frs], Nat.zero_le _, ?_⟩
  show sure + (rdB (fr p)).length ≤ (V.ps ++ [p]).length + 0
  rw [e1, List.length_append]
  simp
  exact hs
theorem Tryd.in21 (w : World) (vs : Array Value) : (callFunc 21 vs).run Tryd.prog w = .ok (.enter 21 vs) w := by kernel_rfl
theorem run_bldP (a b : Int) (w : World) : (Next.value <$> Instr.build 88 #[(0, .int .i64 a), (1, .int .i64 b)]).run Tryd.prog w = .ok (.value (.agg #[.int .i64 a, .int .i64 b])) w := by kernel_rfl
set_option maxRecDepth 8000 in
set_option maxHeartbeats 4000000 in
theorem read_any (g d p : Nat) (vn vf : Value) (cs : List FC) (D : DV) (w : World) (hT : Tab w) (hg0 : g ≠ 0) (hJ : Blk w g 81 (jA d (.slice none 0 0) (-1) 0 false false)) (hDk : Blk w d 53 #[ptr p]) (hD : DskAt w p vf cs D) (hOk : DOk D) (hO : D.out = false) (hVn : OwnS w vn (D.fs.map PF.nm)) :
  Calls Tryd.prog 26 #[ptr g, vn] w fun e w' => ∃ vl vp, e = .returned (.tuple #[vl, .bool (openV (Fk D.fs)).torn, .int .i64 0]) ∧ RS w w' g d vp vl (openV (Fk D.fs)) := by
 have HT := Keep.mk hT
 have Hg0 := Keep.mk hg0
 have HJ := Keep.mk hJ
 have HDk := Keep.mk hDk
 have HD := Keep.mk hD
 have HOk := Keep.mk hOk
 have HO := Keep.mk hO
 have HVn := Keep.mk hVn
 clear hT hg0 hJ hDk hD hOk hO hVn
 go_enter Tryd.func26, Tryd.ntmps26
 refine wp_seq_k fun K1 hK1 => rgn ?_
 refine VlS (.slice none 0 0) ?_
 refine VlS (.bool false) ?_
 refine VlS (.int .i64 0) ?_
 refine WL.nil (hK1 _ _ ?_)
 refine wp_scope_straight ?_
 refine wp_seq_k fun K2 hK2 => rgn ?_
 refine WL.bs (by kernel_rfl) 22 0 _ rfl #[] (by simp) _ _ (bsRE w) ?_
 have hb1 := below_new w (.cells #[] 41)
 have R1 : Keep (RS w (w.alloc (.cells #[] 41)) g d (.slice none 0 0) (.slice (some ⟨w.heap.size, 0, none⟩) 0 0) JV.nil) := ⟨⟨HJ.out.below hb1 HJ.out.lt, ownP_nil _, fun k h => by simp [Value.ownBlock] at h, ⟨[], ownR_empty w, fun k h => by have e : w.heap.size = k := Option.some.inj h; omega, rfl, fun i hi => by simp [JV.nil] at hi⟩, Grown.below hb1⟩⟩
 clear hb1
 generalize w.alloc (.cells #[] 41) = w1 at *
 obtain ⟨pg, hpg⟩ : ∃ p, Keep (p = w.heap.size) := ⟨_, ⟨rfl⟩⟩
 rw [← hpg.out] at R1 ⊢
 simp only [Act.put, pqA, pqB, pqC]
 refine VlS (.slice (some ⟨pg, 0, none⟩) 0 0) ?_
 refine WL.nil (hK2 _ _ ?_)
 refine wp_seq_k fun K3 hK3 => rgn ?_
 refine VlS (.bool false) ?_
 refine WL.nil (hK3 _ _ ?_)
 refine wp_seq_k fun K4 hK4 => ?_
 refine wp_label ?_
 refine hK4 _ _ ?_
 refine wp_seq_k fun K5 hK5 => ?_
 refine wp_seq_k fun K6 hK6 => rgn ?_
 refine VlS (.int .i64 0) ?_
 refine WL.nil (hK6 _ _ ?_)
 refine wp_block ?_
 refine wp_loop (fun ac wr => ∃ (fz : Nat → Value) (t : Nat) (la : Option Addr) (ln lc : Nat) (vp : Value) (V : JV), ac = { tmps := #[.pointer (some ⟨g, 0, none⟩), vn, undef, undef, fz 4, fz 5, fz 6, .slice la ln lc, .bool false, fz 9, fz 10, fz 11, fz 12, .slice (some ⟨pg, 0, none⟩) 0 0, .int .i64 (t : Int), fz 15, fz 16, fz 17, fz 18, fz 19, fz 20, fz 21, fz 22, fz 23, fz 24, fz 25, fz 26, fz 27, fz 28, fz 29, fz 30, fz 31, fz 32, fz 33, fz 34, fz 35, fz 36, fz 37, fz 38, fz 39, fz 40, fz 41, fz 42, fz 43, fz 44, fz 45, fz 46, fz 47, fz 48, fz 49, fz 50, fz 51, fz 52, fz 53, fz 54, fz 55, fz 56, fz 57, fz 58, fz 59, fz 60, fz 61, fz 62, fz 63, fz 64, fz 65, fz 66, fz 67, fz 68, fz 69, fz 70, fz 71, fz 72, fz 73, fz 74, fz 75, fz 76, fz 77, fz 78, fz 79, fz 80, fz 81, fz 82, fz 83, fz 84, undef, undef], defers := [] } ∧ t ≤ 256 ∧ V.pr = (t : Int) - 1 ∧ V.torn = false ∧ openV (Fk D.fs) = rdJ (Fk D.fs) (256 - t) t V ∧ V.ps.length ≤ t * 1000000000 ∧ V.pl.length = V.ps.length ∧ RS w wr g d vp (.slice la ln lc) V) (fun a wr => 256 - (intOf (a.tmps.getD 14 undef)).toNat) ⟨fun zz => [.pointer (some ⟨g, 0, none⟩), vn, undef, undef, .slice none 0 0, .bool false, .int .i64 0, .slice (some ⟨pg, 0, none⟩) 0 0, .bool false, undef, undef, undef, undef, .slice (some ⟨pg, 0, none⟩) 0 0, .int .i64 0, undef, undef, undef, undef, undef, undef, undef, undef, undef, undef, undef, undef, undef, undef, undef, undef, undef, undef, undef, undef, undef, undef, undef, undef, undef, undef, undef, undef, undef, undef, undef, undef, undef, undef, undef, undef, undef, undef, undef, undef, undef, undef, undef, undef, undef, undef, undef, undef, undef, undef, undef, undef, undef, undef, undef, undef, undef, undef, undef, undef, undef, undef, undef, undef, undef, undef, undef, undef, undef, undef, undef, undef].getD zz undef, 0, some ⟨pg, 0, none⟩, 0, 0, .slice none 0 0, JV.nil, rfl, Nat.zero_le _, rfl, rfl, rfl, Nat.zero_le _, rfl, R1.out⟩ ?_
 clear R1 hpg
 rintro ac wr ⟨fz, t, la, ln, lc, vp, V, rfl, ht, hv1, hv2, hv3, hv4, hv5, hR⟩
 have JV1 := Keep.mk hv1
 have JV2 := Keep.mk hv2
 have JV3 := Keep.mk hv3
 have JV4 := Keep.mk hv4
 have JV5 := Keep.mk hv5
 have JR := Keep.mk hR
 clear hv1 hv2 hv3 hv4 hv5 hR
 have T_wr : Keep (Tab wr) := ⟨HT.out.grown JR.out.gr (fun e => Hg0.out e.symm)⟩
 have K_wr : Keep (Blk wr d 53 #[ptr p]) := ⟨JR.out.gr.blk HDk.out fun e => by rw [e] at HDk; have := HDk.out.typ.one HJ.out.typ; revert this; decide⟩
 have D_wr : Keep (DskAt wr p vf cs D) := ⟨HD.out.grown JR.out.gr fun k hk e => by subst e; rcases hk with h | h | h <;> (have := h.one HJ.out.typ; revert this; decide)⟩
 have N_wr : Keep (OwnS wr vn (D.fs.map PF.nm)) := ⟨HVn.out.grown JR.out.gr fun k hk e => by subst e; have := (HVn.out.typ hk).one HJ.out.typ; revert this; decide⟩
 by_cases hlt : t < 256
 ·have hlt' : (t : Int) < 256 := by omega
  have hwt : IntKind.i64.wrap ((t : Int) + 1) = (t : Int) + 1 := by rw [IntKind.wrap_i64]; omega
  refine wp_seq_k fun K7 hK7 => rgn ?_
  refine VlS (.bool true) ?_
  refine WL.nil (hK7 _ _ ?_)
  refine wp_seq_k fun K8 hK8 => ?_
  refine wp_cond_true rfl ?_
  refine wp_skip ?_
  refine hK8 _ _ ?_
  refine wp_seq_k fun K9 hK9 => ?_
  refine wp_block ?_
  refine wp_seq_k fun K10 hK10 => rgn ?_
  refine VlS (.int .i64 (t : Int)) ?_
  refine VlS (.int .i64 (t : Int)) ?_
  refine WL.nil (hK10 _ _ ?_)
  refine wp_seq_k fun K11 hK11 => ?_
  refine wp_seq_k fun K12 hK12 => rgn ?_
  refine VlS (vn) ?_
  refine VlS (.int .i64 (t : Int)) ?_
  refine WL.callF (by kernel_rfl) 31 _ _ rfl Tryd.in31 #[.int .i64 (t : Int)] (by simp [Act.eval]) ?_
  refine (name_any t (by omega) wr T_wr.out).mono ?_
  rintro e w2 ⟨rfl, hb1⟩
  refine ⟨_, rfl, ?_⟩
  have R2 := Keep.mk (JR.out.below hb1)
  clear hb1 T_wr K_wr D_wr N_wr JR
  have T_w2 : Keep (Tab w2) := ⟨HT.out.grown R2.out.gr (fun e => Hg0.out e.symm)⟩
  have K_w2 : Keep (Blk w2 d 53 #[ptr p]) := ⟨R2.out.gr.blk HDk.out fun e => by rw [e] at HDk; have := HDk.out.typ.one HJ.out.typ; revert this; decide⟩
  have D_w2 : Keep (DskAt w2 p vf cs D) := ⟨HD.out.grown R2.out.gr fun k hk e => by subst e; rcases hk with h | h | h <;> (have := h.one HJ.out.typ; revert this; decide)⟩
  have N_w2 : Keep (OwnS w2 vn (D.fs.map PF.nm)) := ⟨HVn.out.grown R2.out.gr fun k hk e => by subst e; have := (HVn.out.typ hk).one HJ.out.typ; revert this; decide⟩
  obtain ⟨nn, hnn⟩ : ∃ s, Keep (s = nmS t) := ⟨_, ⟨rfl⟩⟩
  rw [← hnn.out]
  simp only [Act.put, pqA, pqB, pqC]
  refine WL.callF (by kernel_rfl) 37 _ _ rfl Tryd.in37 #[vn, .string nn] (by simp [Act.eval]) ?_
  refine (contains_any vn _ nn w2 N_w2.out (by rw [List.length_map]; have := HOk.out.len; omega)).mono ?_
  rintro e w3 ⟨rfl, hw⟩
  refine ⟨_, rfl, ?_⟩
  obtain rfl : w2 = w3 := hw.symm
  clear hw
  obtain ⟨bb, hbb⟩ : ∃ s, Keep (s = Lib.containsS (D.fs.map PF.nm) nn) := ⟨_, ⟨rfl⟩⟩
  rw [← hbb.out]
  simp only [Act.put, pqA, pqB, pqC]
  by_cases h6_4 : bb = true
  ·obtain ⟨f, hf⟩ := (cont_lk D.fs nn).1 (by rw [← hbb.out]; exact h6_4)
   obtain ⟨i, hfi, hfn, hfd⟩ := fnd_is HOk.out.srt hf
   have HFt : Keep ((Fk D.fs) t = some f.bs) := ⟨by unfold Fk; rw [← hnn.out, hf]; rfl⟩
   have HFb : Keep (Byts f.bs ∧ f.bs.length ≤ 1000000000) := ⟨HOk.out.byt f (List.mem_of_getElem? hfi), by have h1 := usd_at hfi; have h2 := HOk.out.big; omega⟩
   have HFi := Keep.mk hfi
   have HFd : Keep (fnd (nmS t) D.fs 0 = (i, true)) := ⟨by rw [← hnn.out]; exact hfd⟩
   clear hf hfi hfn hfd hbb
   refine VlS (.bool false) ?_
   refine WL.nil (hK12 _ _ ?_)
   refine wp_cond_false rfl ?_
   refine wp_skip ?_
   refine hK11 _ _ ?_
   refine wp_seq_k fun K13 hK13 => rgn ?_
   refine VlS (.pointer (some ⟨g, 0, none⟩)) ?_
   refine VlS (.int .i64 (t : Int)) ?_
   refine WL.callF (by kernel_rfl) 38 _ _ rfl Tryd.in38 #[ptr g, .int .i64 (t : Int)] (by simp [Act.eval]) ?_
   refine (bytesOf_is g d p i t (by omega) vf cs D f w2 T_w2.out (R2.out.blk.c 0 rfl) K_w2.out D_w2.out HO.out HFd.out HFi.out (by rw [HD.out.fcs.len]; exact HOk.out.len) (by have := HFb.out; omega)).mono ?_
   rintro e w3 ⟨vb, rfl, h1, h2, h3⟩
   refine ⟨_, rfl, ?_⟩
   have OB := Keep.mk h1
   have R3 := Keep.mk (R2.out.below h3)
   clear h1 h2 h3 R2 T_w2 K_w2 D_w2 N_w2
   obtain ⟨ba, bc, hba⟩ := row_form OB.out.row
   subst hba
   simp only [Act.put, pqA, pqB, pqC]
   refine VlS (.tuple #[.slice ba f.bs.length bc, .int .i64 0]) ?_
   refine VlS (.slice ba f.bs.length bc) ?_
   refine VlS (.int .i64 0) ?_
   refine VlS (.slice ba f.bs.length bc) ?_
   refine VlS (.int .i64 0) ?_
   refine WL.nil (hK13 _ _ ?_)
   refine wp_seq_k fun K14 hK14 => ?_
   refine wp_seq_k fun K15 hK15 => rgn ?_
   refine VlS (.int .i64 0) ?_
   refine VlS (.bool false) ?_
   refine WL.nil (hK15 _ _ ?_)
   refine wp_cond_false rfl ?_
   refine wp_skip ?_
   refine hK14 _ _ ?_
   refine wp_seq_k fun K16 hK16 => rgn ?_
   refine VlS (.pointer (some ⟨g, 0, none⟩)) ?_
   refine VlS (.pointer (some ⟨g, 0, none⟩)) ?_
   refine VlS (.int .i64 (t : Int)) ?_
   refine VlS (.pointer (some ⟨g, 0, none⟩)) ?_
   refine VlS (.pointer (some ⟨g, 2, none⟩)) ?_
   have f_o := R3.out.blk.frozen 2
   have cl := R3.out.blk.c 2 (by rfl : (jA d vp V.pr V.sz false false)[2]? = some (.int .i64 V.pr))
   refine WL.cell (by kernel_rfl) (w3.setCell ⟨g, 2, none⟩ (.int .i64 (t : Int))) (by go_simp) ?_
   have R4 : Keep (RS w (w3.setCell ⟨g, 2, none⟩ (.int .i64 (t : Int))) g d vp (.slice la ln lc) { V with pr := (t : Int) }) := ⟨R3.out.cell rfl rfl rfl⟩
   have OB4 : Keep (Own (w3.setCell ⟨g, 2, none⟩ (.int .i64 (t : Int))) (.slice ba f.bs.length bc) f.bs) := ⟨OB.out.grown (Grown.setCell w3 g 2 _ (S := fun k => k = g) fun _ => rfl) fun k hk e => by subst e; have := (OB.out.typ hk).one R3.out.blk.typ; revert this; decide⟩
   clear f_o cl R3 OB
   generalize w3.setCell ⟨g, 2, none⟩ (.int .i64 (t : Int)) = w4 at *
   simp only [Act.put]
   refine VlS (.pointer (some ⟨g, 0, none⟩)) ?_
   refine VlS (.pointer (some ⟨g, 3, none⟩)) ?_
   have f_o := R4.out.blk.frozen 3
   have cl := R4.out.blk.c 3 (by rfl : (jA d vp (t : Int) V.sz false false)[3]? = some (.int .i64 V.sz))
   refine WL.cell (by kernel_rfl) (w4.setCell ⟨g, 3, none⟩ (.int .i64 0)) (by go_simp) ?_
   have R5 : Keep (RS w (w4.setCell ⟨g, 3, none⟩ (.int .i64 0)) g d vp (.slice la ln lc) { V with pr := (t : Int), sz := 0 }) := ⟨R4.out.cell rfl rfl rfl⟩
   have OB5 : Keep (Own (w4.setCell ⟨g, 3, none⟩ (.int .i64 0)) (.slice ba f.bs.length bc) f.bs) := ⟨OB4.out.grown (Grown.setCell w4 g 3 _ (S := fun k => k = g) fun _ => rfl) fun k hk e => by subst e; have := (OB4.out.typ hk).one R4.out.blk.typ; revert this; decide⟩
   clear f_o cl R4 OB4
   generalize w4.setCell ⟨g, 3, none⟩ (.int .i64 0) = w5 at *
   simp only [Act.put]
   refine WL.nil (hK16 _ _ ?_)
   refine wp_block ?_
   obtain ⟨lA, hlA⟩ : ∃ z, Keep (z = la) := ⟨_, ⟨rfl⟩⟩
   clear lA hlA
   refine wp_loop (fun ac wq => ∃ (fy : Nat → Value) (s : Nat) (la : Option Addr) (ln lc : Nat) (vp : Value) (P : List (List Int)), ac = { tmps := #[.pointer (some ⟨g, 0, none⟩), vn, undef, undef, fz 4, fz 5, fz 6, .slice la ln lc, .bool false, .int .i64 (t : Int), .slice ba f.bs.length bc, .int .i64 0, fy 12, .slice (some ⟨pg, 0, none⟩) 0 0, .int .i64 (t : Int), .bool true, .int .i64 (t : Int), vn, .int .i64 (t : Int), .string nn, .bool bb, .bool false, .tuple #[.slice ba f.bs.length bc, .int .i64 0], .pointer (some ⟨g, 0, none⟩), .int .i64 (t : Int), .tuple #[.slice ba f.bs.length bc, .int .i64 0], .slice ba f.bs.length bc, .int .i64 0, .int .i64 0, .bool false, fz 30, .pointer (some ⟨g, 0, none⟩), .pointer (some ⟨g, 0, none⟩), .int .i64 (t : Int), .pointer (some ⟨g, 0, none⟩), .pointer (some ⟨g, 2, none⟩), .pointer (some ⟨g, 0, none⟩), .pointer (some ⟨g, 3, none⟩), fy 38, fy 39, fy 40, fy 41, fy 42, fy 43, fy 44, fy 45, fy 46, fy 47, fy 48, fy 49, fy 50, fy 51, fy 52, fy 53, fy 54, fy 55, fy 56, fy 57, fy 58, fy 59, fy 60, fy 61, fy 62, fy 63, fy 64, fy 65, fy 66, fy 67, fy 68, fy 69, fy 70, fy 71, fy 72, fy 73, fy 74, fy 75, fy 76, fy 77, fy 78, fy 79, fy 80, fy 81, fy 82, fy 83, fz 84, undef, undef], defers := [] } ∧ s ≤ f.bs.length ∧ s = (frs P).length ∧ rdB f.bs = P ++ rdB (f.bs.drop s) ∧ Own wq (.slice ba f.bs.length bc) f.bs ∧ RS w wq g d vp (.slice la ln lc) ({ ps := V.ps ++ P, pl := V.pl ++ plc (t : Int) 0 P, pr := (t : Int), sz := (s : Int), torn := false } : JV)) (fun a wq => f.bs.length - szOf wq g) ⟨fun zz => [.pointer (some ⟨g, 0, none⟩), vn, undef, undef, fz 4, fz 5, fz 6, .slice la ln lc, .bool false, .int .i64 (t : Int), .slice ba f.bs.length bc, .int .i64 0, fz 12, .slice (some ⟨pg, 0, none⟩) 0 0, .int .i64 (t : Int), .bool true, .int .i64 (t : Int), vn, .int .i64 (t : Int), .string nn, .bool bb, .bool false, .tuple #[.slice ba f.bs.length bc, .int .i64 0], .pointer (some ⟨g, 0, none⟩), .int .i64 (t : Int), .tuple #[.slice ba f.bs.length bc, .int .i64 0], .slice ba f.bs.length bc, .int .i64 0, .int .i64 0, .bool false, fz 30, .pointer (some ⟨g, 0, none⟩), .pointer (some ⟨g, 0, none⟩), .int .i64 (t : Int), .pointer (some ⟨g, 0, none⟩), .pointer (some ⟨g, 2, none⟩), .pointer (some ⟨g, 0, none⟩), .pointer (some ⟨g, 3, none⟩), fz 38, fz 39, fz 40, fz 41, fz 42, fz 43, fz 44, fz 45, fz 46, fz 47, fz 48, fz 49, fz 50, fz 51, fz 52, fz 53, fz 54, fz 55, fz 56, fz 57, fz 58, fz 59, fz 60, fz 61, fz 62, fz 63, fz 64, fz 65, fz 66, fz 67, fz 68, fz 69, fz 70, fz 71, fz 72, fz 73, fz 74, fz 75, fz 76, fz 77, fz 78, fz 79, fz 80, fz 81, fz 82, fz 83, fz 84, undef, undef].getD zz undef, 0, la, ln, lc, vp, [], rfl, Nat.zero_le _, rfl, rfl, OB5.out, by have h := R5.out; rw [show ({ ps := V.ps ++ [], pl := V.pl ++ plc (t : Int) 0 [], pr := (t : Int), sz := ((0 : Nat) : Int), torn := false } : JV) = { V with pr := (t : Int), sz := 0 } by simp [plc, ← JV2.out]]; exact h⟩ ?_
   clear R5 OB5
   clear vp
   rintro ac wq ⟨fy, s, la, ln, lc, vp, P, rfl, hs, hp1, hp2, hO, hR⟩
   have IP1 := Keep.mk hp1
   have IP2 := Keep.mk hp2
   have IO := Keep.mk hO
   have IR := Keep.mk hR
   clear hp1 hp2 hO hR
   have c3 := IR.out.blk.c 3 (by rfl : (jA d vp (t : Int) (s : Int) false false)[3]? = some (.int .i64 (s : Int)))
   by_cases hsl : s < f.bs.length
   ·have hsl' : (s : Int) < (f.bs.length : Int) := by omega
    have HSl := Keep.mk hsl
    have IRb : Keep (Blk wq g 81 (jA d vp (t : Int) (s : Int) false false)) := ⟨IR.out.blk⟩
    have HPn : Keep ((V.pl ++ plc (t : Int) 0 P).length ≤ 1000000000000) := ⟨by rw [List.length_append, plc_len]; have h1 := JV4.out; have h2 := JV5.out; have h3 := frs_ge P; have h4 := IP1.out; have h5 := HFb.out.2; have h6 : t * 1000000000 ≤ 255 * 1000000000 := Nat.mul_le_mul_right _ (by omega); omega⟩
    have HLn : Keep ((V.ps ++ P).length ≤ 1000000000000) := ⟨by rw [List.length_append]; have h1 := JV4.out; have h3 := frs_ge P; have h4 := IP1.out; have h5 := HFb.out.2; have h6 : t * 1000000000 ≤ 255 * 1000000000 := Nat.mul_le_mul_right _ (by omega); omega⟩
    refine wp_seq_k fun K17 hK17 => ?_
    refine wp_seq_k fun K18 hK18 => rgn ?_
    refine VlS (.pointer (some ⟨g, 0, none⟩)) ?_
    refine VlS (.pointer (some ⟨g, 0, none⟩)) ?_
    refine VlS (.pointer (some ⟨g, 3, none⟩)) ?_
    refine VlS (.int .i64 (s : Int)) ?_
    refine VlS (.slice ba f.bs.length bc) ?_
    refine VlS (.int .i64 (f.bs.length : Int)) ?_
    refine VlS (.bool true) ?_
    refine WL.nil (hK18 _ _ ?_)
    refine wp_cond_true rfl ?_
    refine wp_skip ?_
    refine hK17 _ _ ?_
    refine wp_block ?_
    refine wp_seq_k fun K19 hK19 => ?_
    obtain ⟨vs, hs1, hs2⟩ := slB_lo (.slice ba f.bs.length bc) f.bs wq IO.out.row s hs
    have HS1 := Keep.mk hs1
    have HSa := Keep.mk hs2
    have HS2 : Keep (RowAt wq vs (f.bs.drop s)) := ⟨hs2 wq IO.out.row⟩
    have HBd : Keep (Byts (f.bs.drop s)) := ⟨fun c hc => HFb.out.1 c (List.mem_of_mem_drop hc)⟩
    clear hs1 hs2
    rcases hbg : bgn (f.bs.drop s) with _ | pp
    ·have q37 : ∀ (w : World) (a : Option Addr) (n c n' c' : Nat), (binOp .eql 41 (.slice a n c) (.slice none n' c')).run Tryd.prog w = .ok (.bool a.isNone) w := fun w a n c n' c' => Lib.run_eql_slice_nil w _ _ a n c n' c' Tryd.underlying41
     refine rgn ?_
     refine VlS (.slice ba f.bs.length bc) ?_
     refine VlS (.pointer (some ⟨g, 0, none⟩)) ?_
     refine VlS (.pointer (some ⟨g, 0, none⟩)) ?_
     refine VlS (.pointer (some ⟨g, 3, none⟩)) ?_
     refine VlS (.int .i64 (s : Int)) ?_
     refine WL.slLoB (by kernel_rfl) (.tmp 45) (.tmp 49) rfl (.slice ba f.bs.length bc) (.int .i64 (s : Int)) vs rfl rfl (HS1.out _) ?_
     simp only [Act.put, pqA, pqB, pqC]
     clear c3
     refine WL.callF (by kernel_rfl) 39 _ _ rfl Tryd.in39 #[vs] (by simp [Act.eval]) ?_
     refine (begun_none vs _ wq HS2.out HBd.out hbg).mono ?_
     rintro e w6 ⟨rfl, hb6⟩
     refine ⟨_, rfl, ?_⟩
     have R6 := Keep.mk (IR.out.below hb6)
     clear hb6 HS1 HS2 HBd HSa
     simp only [Act.put, pqA, pqB, pqC]
     refine VlS (.slice none 0 0) ?_
     refine WL.nil (hK19 _ _ ?_)
     refine wp_seq_k fun K20 hK20 => ?_
     refine wp_seq_k fun K21 hK21 => rgn ?_
     refine VlS (.slice none 0 0) ?_
     refine VlS (.bool true) ?_
     refine WL.nil (hK21 _ _ ?_)
     refine wp_cond_true rfl ?_
     refine wp_seq_k fun K22 hK22 => rgn ?_
     refine VlS (.bool true) ?_
     refine WL.nil (hK22 _ _ ?_)
     refine wp_exit ?_
     refine hK5 _ _ ?_
     refine wp_seq_k fun K23 hK23 => rgn ?_
     refine VlS (.slice la ln lc) ?_
     refine VlS (.bool true) ?_
     refine VlS (.slice la ln lc) ?_
     refine VlS (.bool true) ?_
     refine VlS (.int .i64 0) ?_
     refine WL.nil (hK23 _ _ ?_)
     refine wp_ret ?_
     try rw [Exit.noGoto_ret]
     go_ret3
     obtain ⟨h1, h2⟩ := rd_last IP1.out IP2.out hbg
     have hM : V.more t f.bs = { ps := V.ps ++ P, pl := V.pl ++ plc (t : Int) 0 P, pr := (t : Int), sz := (s : Int), torn := true } := by
      unfold JV.more
      rw [h1, h2, decide_eq_true HSl.out]
     have e : openV (Fk D.fs) = V.more t f.bs := by rw [JV3.out, rdJ_seg hlt HFt.out, if_pos (by rw [hM])]
     rw [e, hM]
     exact ⟨_, vp, rfl, ⟨R6.out.blk, R6.out.own, R6.out.new, R6.out.row, R6.out.gr⟩⟩
    ·have q37 : ∀ (w : World) (a : Option Addr) (n c n' c' : Nat), (binOp .eql 41 (.slice a n c) (.slice none n' c')).run Tryd.prog w = .ok (.bool a.isNone) w := fun w a n c n' c' => Lib.run_eql_slice_nil w _ _ a n c n' c' Tryd.underlying41
     refine rgn ?_
     refine VlS (.slice ba f.bs.length bc) ?_
     refine VlS (.pointer (some ⟨g, 0, none⟩)) ?_
     refine VlS (.pointer (some ⟨g, 0, none⟩)) ?_
     refine VlS (.pointer (some ⟨g, 3, none⟩)) ?_
     refine VlS (.int .i64 (s : Int)) ?_
     refine WL.slLoB (by kernel_rfl) (.tmp 45) (.tmp 49) rfl (.slice ba f.bs.length bc) (.int .i64 (s : Int)) vs rfl rfl (HS1.out _) ?_
     simp only [Act.put, pqA, pqB, pqC]
     clear c3
     refine WL.callF (by kernel_rfl) 39 _ _ rfl Tryd.in39 #[vs] (by simp [Act.eval]) ?_
     refine (begun_some vs _ pp wq HS2.out HBd.out hbg).mono ?_
     rintro e w6 ⟨q, qo, qc, rfl, hr6, hb6⟩
     refine ⟨_, rfl, ?_⟩
     have R6 := Keep.mk (IR.out.below hb6)
     have O6 : Keep (Own w6 (.slice ba f.bs.length bc) f.bs) := ⟨IO.out.grown (Grown.below (S := fun _ => False) hb6) fun _ _ h => h⟩
     have QA : Keep (∀ wx, RowAt wx (.slice ba f.bs.length bc) f.bs → RowAt wx (.slice (some ⟨q, qo, none⟩) pp.length qc) pp) := ⟨fun wx hx => hr6 wx (HSa.out wx hx)⟩
     have HPp : Keep (PayOk pp) := ⟨(bgn_some hbg).1⟩
     have HBg := Keep.mk hbg
     clear hb6 hr6 HS1 HS2 HBd HSa IR IO hbg
     simp only [Act.put, pqA, pqB, pqC]
     refine VlS (.slice (some ⟨q, qo, none⟩) pp.length qc) ?_
     refine WL.nil (hK19 _ _ ?_)
     refine wp_seq_k fun K24 hK24 => ?_
     refine wp_seq_k fun K25 hK25 => rgn ?_
     refine VlS (.slice (some ⟨q, qo, none⟩) pp.length qc) ?_
     refine VlS (.bool false) ?_
     refine WL.nil (hK25 _ _ ?_)
     refine wp_cond_false rfl ?_
     refine wp_skip ?_
     refine hK24 _ _ ?_
     refine wp_seq_k fun K26 hK26 => ?_
     have R7 : Keep (RS w w6.drew g d vp (.slice la ln lc) ({ ps := V.ps ++ P, pl := V.pl ++ plc (t : Int) 0 P, pr := (t : Int), sz := (s : Int), torn := false } : JV)) := ⟨R6.out.drew⟩
     have O7 : Keep (Own w6.drew (.slice ba f.bs.length bc) f.bs) := ⟨O6.out⟩
     clear R6 O6
     obtain ⟨pa, pc, hvp⟩ := R7.out.own.sl
     subst hvp
     obtain ⟨pn, hpn⟩ : ∃ z, Keep (z = (V.pl ++ plc (t : Int) 0 P).length) := ⟨_, ⟨rfl⟩⟩
     change Keep (RS w w6.drew g d (.slice pa (V.pl ++ plc (t : Int) 0 P).length pc) (.slice la ln lc) ({ ps := V.ps ++ P, pl := V.pl ++ plc (t : Int) 0 P, pr := (t : Int), sz := (s : Int), torn := false } : JV)) at R7
     rw [← hpn.out] at R7
     refine wp_region_held_drew (S := fun wx => wx.cell? ⟨g, 3, none⟩ = some (.int .i64 (s : Int))) (by kernel_rfl) (R7.out.blk.c 3 rfl) (fun hHeld => ?_)
     generalize w6.drew = w7 at *
     skip
     refine tkS (i := 0) (oi := ⟨some 54, Op.move (Operand.tmp 0), 56, _, _, none⟩) (v := .pointer (some ⟨g, 0, none⟩)) rfl (Or.inl ⟨by rfl, fun w hS => by go_simp⟩) hHeld ?_
     refine tkS (i := 1) (oi := ⟨some 55, Op.move (Operand.tmp 0), 56, _, _, none⟩) (v := .pointer (some ⟨g, 0, none⟩)) rfl (Or.inl ⟨by rfl, fun w hS => by go_simp⟩) hHeld ?_
     refine tkS (i := 2) (oi := ⟨some 56, Op.nilCheck (Operand.tmp 55), 0, _, _, none⟩) (v := .pointer (some ⟨g, 0, none⟩)) rfl (Or.inl ⟨by rfl, fun w hS => by go_simp⟩) hHeld ?_
     refine tkS (i := 3) (oi := ⟨some 57, Op.fieldAddr 81 (Operand.tmp 56) 1, 0, _, _, none⟩) (v := .pointer (some ⟨g, 1, none⟩)) rfl (Or.inl ⟨by rfl, fun w hS => by go_simp⟩) hHeld ?_
     refine tkS (i := 5) (oi := ⟨some 59, Op.move (Operand.tmp 9), 3, _, _, none⟩) (v := .int .i64 (t : Int)) rfl (Or.inl ⟨by rfl, fun w hS => by go_simp⟩) hHeld ?_
     refine tkS (i := 6) (oi := ⟨some 60, Op.move (Operand.tmp 0), 56, _, _, none⟩) (v := .pointer (some ⟨g, 0, none⟩)) rfl (Or.inl ⟨by rfl, fun w hS => by go_simp⟩) hHeld ?_
     refine tkS (i := 7) (oi := ⟨some 61, Op.nilCheck (Operand.tmp 60), 0, _, _, none⟩) (v := .pointer (some ⟨g, 0, none⟩)) rfl (Or.inl ⟨by rfl, fun w hS => by go_simp⟩) hHeld ?_
     refine tkS (i := 8) (oi := ⟨some 62, Op.fieldAddr 81 (Operand.tmp 61) 3, 0, _, _, none⟩) (v := .pointer (some ⟨g, 3, none⟩)) rfl (Or.inl ⟨by rfl, fun w hS => by go_simp⟩) hHeld ?_
     refine tkS (i := 9) (oi := ⟨some 63, Op.load 3 (Operand.tmp 62), 3, _, _, none⟩) (v := .int .i64 (s : Int)) rfl (Or.inl ⟨by rfl, fun w hS => by go_simp⟩) hHeld ?_
     refine tkS (i := 10) (oi := ⟨some 64, Op.build 88 #[(0, Operand.tmp 59), (1, Operand.tmp 63)], 88, _, _, none⟩) (v := .agg #[.int .i64 (t : Int), .int .i64 (s : Int)]) rfl (yieldsIf_bld (by rfl) 88 _ rfl #[(0, .int .i64 (t : Int)), (1, .int .i64 (s : Int))] (by simp [Act.eval]) (.agg #[.int .i64 (t : Int), .int .i64 (s : Int)]) (fun w => run_bldP _ _ w)) hHeld ?_
     refine wpAnyH_ready (rs := [4, 11]) (by kernel_rfl) (by simp) ?_
     refine AllReadyH.cons (o := ⟨some 58, Op.load 79 (Operand.tmp 57), 79, _, _, none⟩) rfl (fun K hK => ?_) (AllReadyH.cons (o := ⟨some 65, Op.buildSlice 79 1 #[(0, Operand.tmp 64)], 79, _, _, none⟩) rfl (fun K hK => ?_) AllReadyH.nil)
     rw [if_pos (by rfl)]
     have cl : w7.cell? ⟨g, 1, none⟩ = some (.slice pa pn pc) := R7.out.blk.c 1 rfl
     refine wp_val (.slice pa pn pc) (by go_simp) ?_
     clear cl
     refine hK _ _ (R7.out.blk.c 3 rfl) fun hL7 => ?_
     clear hK
     simp only [Act.put, pqA, pqB, pqC]
     refine wpAnyH_ready (rs := [11]) (by kernel_rfl) (by simp) ?_
     refine AllReadyH.cons (o := ⟨some 65, Op.buildSlice 79 1 #[(0, Operand.tmp 64)], 79, _, _, none⟩) rfl (fun K hK => ?_) AllReadyH.nil
     rw [if_pos (by rfl)]
     refine wp_bs 79 1 _ rfl #[(0, .agg #[.int .i64 (t : Int), .int .i64 (s : Int)])] (by simp [Act.eval]) _ _ (bsP (t : Int) (s : Int) w7) ?_
     have hbx := below_new w7 (.cells #[.int .i64 (t : Int), .int .i64 (s : Int)] 88)
     have H9 := Keep.mk (Blk.new w7 88 #[.int .i64 (t : Int), .int .i64 (s : Int)])
     have R9 := Keep.mk (R7.out.below hbx)
     have O9 : Keep (Own (w7.alloc (.cells #[.int .i64 (t : Int), .int .i64 (s : Int)] 88)) (.slice ba f.bs.length bc) f.bs) := ⟨O7.out.grown (Grown.below (S := fun _ => False) hbx) fun _ _ h => h⟩
     clear hbx
     generalize w7.alloc (.cells #[.int .i64 (t : Int), .int .i64 (s : Int)] 88) = w9 at *
     obtain ⟨g9, hg9⟩ : ∃ p, Keep (p = w7.heap.size) := ⟨_, ⟨rfl⟩⟩
     rw [← hg9.out] at H9 ⊢
     refine hK _ _ (R9.out.blk.c 3 rfl) fun hB9 => ?_
     clear hK
     simp only [Act.put, pqA, pqB, pqC]
     refine wpAnyH_ready (rs := [12]) (by kernel_rfl) (by simp) ?_
     refine AllReadyH.cons (o := ⟨some 66, Op.call { callee := Callee.builtin Builtin.append, args := #[Operand.tmp 58, Operand.tmp 65], argTypes := #[79, 79] }, 79, _, _, none⟩) rfl (fun K hK => ?_) AllReadyH.nil
     rw [if_pos (by rfl)]
     refine wp_appP (.tmp 58) (.tmp 65) rfl (.slice pa pn pc) (V.pl ++ plc (t : Int) 0 P) g9 1 ((t : Int), (s : Int)) rfl rfl R9.out.own H9.out (by have := HPn.out; have := hpn.out; omega) fun v10 w10 h1 h2 h3 => ?_
     obtain ⟨a10, n10, c10, e10⟩ : ∃ a n c, v10 = .slice a n c := by obtain ⟨a, c, e⟩ := h1.sl; exact ⟨_, _, _, e⟩
     subst e10
     have h4 := R9.out.place h1 h2 h3 HJ.out.lt
     have hj : Blk w10 g 81 (jA d (.slice pa pn pc) (t : Int) (s : Int) false false) := h2.blk R9.out.blk fun e => by have := (R9.out.own.typ e).one R9.out.blk.typ; revert this; decide
     have HJ10 := Keep.mk hj
     have R10 := Keep.mk h4
     have O10 : Keep (Own w10 (.slice ba f.bs.length bc) f.bs) := ⟨O9.out.grown h2 fun k hk e => by have := (O9.out.typ hk).one (R9.out.own.typ e); revert this; decide⟩
     clear h1 h2 h3 h4 hj
     refine hK _ _ (HJ10.out.c 3 rfl) fun hA10 => ?_
     clear hK
     simp only [Act.put, pqA, pqB, pqC]
     refine tkS (i := 13) (oi := ⟨some 67, Op.nilCheck (Operand.tmp 54), 0, _, _, none⟩) (v := .pointer (some ⟨g, 0, none⟩)) rfl (Or.inl ⟨by rfl, fun w hS => by go_simp⟩) hA10 ?_
     refine tkS (i := 14) (oi := ⟨some 68, Op.fieldAddr 81 (Operand.tmp 67) 1, 0, _, _, none⟩) (v := .pointer (some ⟨g, 1, none⟩)) rfl (Or.inl ⟨by rfl, fun w hS => by go_simp⟩) hA10 ?_
     refine wpAnyH_ready (rs := [15]) (by kernel_rfl) (by simp) ?_
     refine AllReadyH.cons (o := ⟨none, Op.store 79 (Operand.tmp 68) (Operand.tmp 66), 0, _, _, none⟩) rfl (fun K hK => ?_) AllReadyH.nil
     rw [if_pos (by rfl)]
     have f_o := HJ10.out.frozen 1
     have cl : w10.cell? ⟨g, 1, none⟩ = some (.slice pa pn pc) := HJ10.out.c 1 rfl
     refine wp_cellS (w10.setCell ⟨g, 1, none⟩ (.slice a10 n10 c10)) (by go_simp) ?_
     clear f_o cl
     have hgs : Grown w10 (w10.setCell ⟨g, 1, none⟩ (.slice a10 n10 c10)) fun k => k = g := Grown.setCell w10 g 1 _ fun _ => rfl
     have O11 : Keep (Own (w10.setCell ⟨g, 1, none⟩ (.slice a10 n10 c10)) (.slice ba f.bs.length bc) f.bs) := ⟨O10.out.grown hgs fun k hk e => by subst e; have := (O10.out.typ hk).one HJ10.out.typ; revert this; decide⟩
     clear hgs O10 HJ10 R7 O7 R9 O9 H9 hg9
     generalize (w10.setCell ⟨g, 1, none⟩ (.slice a10 n10 c10)) = w11 at *
     refine hK _ _ (R10.out.blk.c 3 rfl) fun hS11 => ?_
     clear hK
     simp only [Act.put, pqA, pqB, pqC]
     refine wpAnyH_done (by kernel_rfl) ?_ _
     rotate_left
     rw [if_pos (by rfl)]
     refine wp_bs 79 1 _ rfl #[(0, .agg #[.int .i64 (t : Int), .int .i64 (s : Int)])] (by simp [Act.eval]) _ _ (bsP (t : Int) (s : Int) w7) ?_
     have hbx := below_new w7 (.cells #[.int .i64 (t : Int), .int .i64 (s : Int)] 88)
     have H9 := Keep.mk (Blk.new w7 88 #[.int .i64 (t : Int), .int .i64 (s : Int)])
     have R9 := Keep.mk (R7.out.below hbx)
     have O9 : Keep (Own (w7.alloc (.cells #[.int .i64 (t : Int), .int .i64 (s : Int)] 88)) (.slice ba f.bs.length bc) f.bs) := ⟨O7.out.grown (Grown.below (S := fun _ => False) hbx) fun _ _ h => h⟩
     clear hbx
     generalize w7.alloc (.cells #[.int .i64 (t : Int), .int .i64 (s : Int)] 88) = w9 at *
     obtain ⟨g9, hg9⟩ : ∃ p, Keep (p = w7.heap.size) := ⟨_, ⟨rfl⟩⟩
     rw [← hg9.out] at H9 ⊢
     refine hK _ _ (R9.out.blk.c 3 rfl) fun hB9 => ?_
     clear hK
     simp only [Act.put, pqA, pqB, pqC]
     refine wpAnyH_ready (rs := [4]) (by kernel_rfl) (by simp) ?_
     refine AllReadyH.cons (o := ⟨some 58, Op.load 79 (Operand.tmp 57), 79, _, _, none⟩) rfl (fun K hK => ?_) AllReadyH.nil
     rw [if_pos (by rfl)]
     have cl : w9.cell? ⟨g, 1, none⟩ = some (.slice pa pn pc) := R9.out.blk.c 1 rfl
     refine wp_val (.slice pa pn pc) (by go_simp) ?_
     clear cl
     refine hK _ _ (R9.out.blk.c 3 rfl) fun hL9 => ?_
     clear hK
     simp only [Act.put, pqA, pqB, pqC]
     refine wpAnyH_ready (rs := [12]) (by kernel_rfl) (by simp) ?_
     refine AllReadyH.cons (o := ⟨some 66, Op.call { callee := Callee.builtin Builtin.append, args := #[Operand.tmp 58, Operand.tmp 65], argTypes := #[79, 79] }, 79, _, _, none⟩) rfl (fun K hK => ?_) AllReadyH.nil
     rw [if_pos (by rfl)]
     refine wp_appP (.tmp 58) (.tmp 65) rfl (.slice pa pn pc) (V.pl ++ plc (t : Int) 0 P) g9 1 ((t : Int), (s : Int)) rfl rfl R9.out.own H9.out (by have := HPn.out; have := hpn.out; omega) fun v10 w10 h1 h2 h3 => ?_
     obtain ⟨a10, n10, c10, e10⟩ : ∃ a n c, v10 = .slice a n c := by obtain ⟨a, c, e⟩ := h1.sl; exact ⟨_, _, _, e⟩
     subst e10
     have h4 := R9.out.place h1 h2 h3 HJ.out.lt
     have hj : Blk w10 g 81 (jA d (.slice pa pn pc) (t : Int) (s : Int) false false) := h2.blk R9.out.blk fun e => by have := (R9.out.own.typ e).one R9.out.blk.typ; revert this; decide
     have HJ10 := Keep.mk hj
     have R10 := Keep.mk h4
     have O10 : Keep (Own w10 (.slice ba f.bs.length bc) f.bs) := ⟨O9.out.grown h2 fun k hk e => by have := (O9.out.typ hk).one (R9.out.own.typ e); revert this; decide⟩
     clear h1 h2 h3 h4 hj
     refine hK _ _ (HJ10.out.c 3 rfl) fun hA10 => ?_
     clear hK
     simp only [Act.put, pqA, pqB, pqC]
     refine tkS (i := 13) (oi := ⟨some 67, Op.nilCheck (Operand.tmp 54), 0, _, _, none⟩) (v := .pointer (some ⟨g, 0, none⟩)) rfl (Or.inl ⟨by rfl, fun w hS => by go_simp⟩) hA10 ?_
     refine tkS (i := 14) (oi := ⟨some 68, Op.fieldAddr 81 (Operand.tmp 67) 1, 0, _, _, none⟩) (v := .pointer (some ⟨g, 1, none⟩)) rfl (Or.inl ⟨by rfl, fun w hS => by go_simp⟩) hA10 ?_
     refine wpAnyH_ready (rs := [15]) (by kernel_rfl) (by simp) ?_
     refine AllReadyH.cons (o := ⟨none, Op.store 79 (Operand.tmp 68) (Operand.tmp 66), 0, _, _, none⟩) rfl (fun K hK => ?_) AllReadyH.nil
     rw [if_pos (by rfl)]
     have f_o := HJ10.out.frozen 1
     have cl : w10.cell? ⟨g, 1, none⟩ = some (.slice pa pn pc) := HJ10.out.c 1 rfl
     refine wp_cellS (w10.setCell ⟨g, 1, none⟩ (.slice a10 n10 c10)) (by go_simp) ?_
     clear f_o cl
     have hgs : Grown w10 (w10.setCell ⟨g, 1, none⟩ (.slice a10 n10 c10)) fun k => k = g := Grown.setCell w10 g 1 _ fun _ => rfl
     have O11 : Keep (Own (w10.setCell ⟨g, 1, none⟩ (.slice a10 n10 c10)) (.slice ba f.bs.length bc) f.bs) := ⟨O10.out.grown hgs fun k hk e => by subst e; have := (O10.out.typ hk).one HJ10.out.typ; revert this; decide⟩
     clear hgs O10 HJ10 R7 O7 R9 O9 H9 hg9
     generalize (w10.setCell ⟨g, 1, none⟩ (.slice a10 n10 c10)) = w11 at *
     refine hK _ _ (R10.out.blk.c 3 rfl) fun hS11 => ?_
     clear hK
     simp only [Act.put, pqA, pqB, pqC]
     refine wpAnyH_done (by kernel_rfl) ?_ _
     rotate_left
     all_goals
      refine hK26 _ _ ?_
      refine wp_seq_k fun K28 hK28 => rgn ?_
      refine VlS (.slice la ln lc) ?_
      refine VlS (.slice (some ⟨q, qo, none⟩) pp.length qc) ?_
      have HPp1 := HPp.out
      refine WL.callF (by kernel_rfl) 21 _ _ rfl Tryd.in21 #[.slice (some ⟨q, qo, none⟩) pp.length qc] (by simp [Act.eval]) ?_
      refine (clone_row q qo qc pp w11 (QA.out w11 O11.out.row) (by have := HPp.out.1; omega) (by have := HPp.out.2; omega)).mono ?_
      rintro e w12 ⟨vc, rfl, h1, h2, h3⟩
      refine ⟨_, rfl, ?_⟩
      have R12 := Keep.mk (R10.out.below h3)
      have C12 := Keep.mk h1
      have CN : Keep (∀ k, vc.ownBlock = some k → w.heap.size ≤ k) := ⟨fun k hk => Nat.le_trans R10.out.gr.size (h2 k hk)⟩
      have O12 : Keep (Own w12 (.slice ba f.bs.length bc) f.bs) := ⟨O11.out.grown (Grown.below (S := fun _ => False) h3) fun _ _ h => h⟩
      clear h1 h2 h3 R10 O11 QA
      obtain ⟨ca, cn, cc, ec⟩ : ∃ a n c, vc = .slice a n c := by obtain ⟨a, c, e⟩ := row_form C12.out.row; exact ⟨_, _, _, e⟩
      subst ec
      simp only [Act.put, pqA, pqB, pqC]
      refine WL.bs (by kernel_rfl) 22 1 _ rfl #[(0, .slice ca cn cc)] (by simp [Act.eval]) _ _ (bsR1 ca cn cc w12) ?_
      have hbx := below_new w12 (.cells #[.slice ca cn cc] 41)
      have H13 := Keep.mk (Blk.new w12 41 #[.slice ca cn cc])
      have R13 := Keep.mk (R12.out.below hbx)
      have C13 : Keep (Own (w12.alloc (.cells #[.slice ca cn cc] 41)) (.slice ca cn cc) pp) := ⟨C12.out.grown (Grown.below (S := fun _ => False) hbx) fun _ _ h => h⟩
      have O13 : Keep (Own (w12.alloc (.cells #[.slice ca cn cc] 41)) (.slice ba f.bs.length bc) f.bs) := ⟨O12.out.grown (Grown.below (S := fun _ => False) hbx) fun _ _ h => h⟩
      clear hbx R12 C12 O12
      generalize w12.alloc (.cells #[.slice ca cn cc] 41) = w13 at *
      obtain ⟨g13, hg13⟩ : ∃ p, Keep (p = w12.heap.size) := ⟨_, ⟨rfl⟩⟩
      rw [← hg13.out] at H13 ⊢
      obtain ⟨rs, hl1, hl2, hl3, hl4⟩ := R13.out.row
      have L1 := Keep.mk hl1
      have L2 := Keep.mk hl2
      have L3 := Keep.mk hl3
      have L4 := Keep.mk hl4
      clear hl1 hl2 hl3 hl4
      simp only [Act.put, pqA, pqB, pqC]
      refine WL.appR (by kernel_rfl) (.tmp 69) (.tmp 72) rfl (.slice la ln lc) rs g13 (.slice ca cn cc) rfl rfl rfl L1.out H13.out (by have h1 : rs.length = (V.ps ++ P).length := L3.out; have h2 := HLn.out; omega) fun v14 w14 h1 h2 h3 => ?_
      have R14 := Keep.mk (R13.out.pay L1.out L3.out L4.out L2.out h1 h2 h3 C13.out CN.out)
      have O14 : Keep (Own w14 (.slice ba f.bs.length bc) f.bs) := ⟨O13.out.grown h2 fun k hk e => by have := (O13.out.typ hk).one (L1.out.typ e); revert this; decide⟩
      obtain ⟨a14, n14, c14, e14⟩ : ∃ a n c, v14 = .slice a n c := by obtain ⟨a, c, e⟩ := h1.sl; exact ⟨_, _, _, e⟩
      subst e14
      clear h1 h2 h3 L1 L2 L3 L4 R13 C13 O13 H13 hg13 CN
      have c3 := R14.out.blk.c 3 (by rfl : (jA d (.slice a10 n10 c10) (t : Int) (s : Int) false false)[3]? = some (.int .i64 (s : Int)))
      have f_o := R14.out.blk.frozen 3
      obtain ⟨s2, hs2⟩ : ∃ z : Nat, Keep (z = s + 16 + pp.length) := ⟨_, ⟨rfl⟩⟩
      have hw1 : IntKind.i64.wrap (16 + (pp.length : Int)) = 16 + (pp.length : Int) := by rw [IntKind.wrap_i64]; have := HPp.out.2; omega
      have hw2 : IntKind.i64.wrap ((s : Int) + (16 + (pp.length : Int))) = (s2 : Int) := by rw [IntKind.wrap_i64]; have := HPp.out.2; have := HFb.out.2; have := hs2.out; omega
      simp only [Act.put, pqA, pqB, pqC]
      refine VlS (.slice a14 n14 c14) ?_
      refine WL.nil (hK28 _ _ ?_)
      refine rgn ?_
      refine VlS (.pointer (some ⟨g, 0, none⟩)) ?_
      refine VlS (.pointer (some ⟨g, 0, none⟩)) ?_
      refine VlS (.pointer (some ⟨g, 3, none⟩)) ?_
      refine VlS (.int .i64 (s : Int)) ?_
      refine VlS (.slice (some ⟨q, qo, none⟩) pp.length qc) ?_
      refine VlS (.int .i64 (pp.length : Int)) ?_
      refine VlS (.int .i64 (16 + (pp.length : Int))) ?_
      refine VlS (.int .i64 (s2 : Int)) ?_
      refine VlS (.pointer (some ⟨g, 0, none⟩)) ?_
      refine VlS (.pointer (some ⟨g, 3, none⟩)) ?_
      refine WL.cell (by kernel_rfl) (w14.setCell ⟨g, 3, none⟩ (.int .i64 (s2 : Int))) (by go_simp) ?_
      have R15 : Keep (RS w (w14.setCell ⟨g, 3, none⟩ (.int .i64 (s2 : Int))) g d (.slice a10 n10 c10) (.slice a14 n14 c14) ({ ps := V.ps ++ (P ++ [pp]), pl := V.pl ++ plc (t : Int) 0 (P ++ [pp]), pr := (t : Int), sz := (s2 : Int), torn := false } : JV)) := ⟨R14.out.cell rfl (by show V.pl ++ plc (t : Int) 0 (P ++ [pp]) = (V.pl ++ plc (t : Int) 0 P) ++ [((t : Int), (s : Int))]; rw [plc_app, Int.zero_add, ← IP1.out, List.append_assoc]; rfl) (by show V.ps ++ (P ++ [pp]) = (V.ps ++ P) ++ [pp]; rw [List.append_assoc])⟩
      have O15 : Keep (Own (w14.setCell ⟨g, 3, none⟩ (.int .i64 (s2 : Int))) (.slice ba f.bs.length bc) f.bs) := ⟨O14.out.grown (Grown.setCell w14 g 3 _ (S := fun k => k = g) fun _ => rfl) fun k hk e => by subst e; have := (O14.out.typ hk).one R14.out.blk.typ; revert this; decide⟩
      clear f_o c3 R14 O14 hw1 hw2
      generalize (w14.setCell ⟨g, 3, none⟩ (.int .i64 (s2 : Int))) = w15 at *
      simp only [Act.put]
      refine WL.nil ?_
      obtain ⟨h1, h2, h3⟩ := rd_one IP1.out IP2.out HBg.out hs
      rw [← hs2.out] at h1 h2 h3
      refine ⟨⟨fun zz => [.pointer (some ⟨g, 0, none⟩), vn, undef, undef, fz 4, fz 5, fz 6, .slice a14 n14 c14, .bool false, .int .i64 (t : Int), .slice ba f.bs.length bc, .int .i64 0, .slice (some ⟨q, qo, none⟩) pp.length qc, .slice (some ⟨pg, 0, none⟩) 0 0, .int .i64 (t : Int), .bool true, .int .i64 (t : Int), vn, .int .i64 (t : Int), .string nn, .bool bb, .bool false, .tuple #[.slice ba f.bs.length bc, .int .i64 0], .pointer (some ⟨g, 0, none⟩), .int .i64 (t : Int), .tuple #[.slice ba f.bs.length bc, .int .i64 0], .slice ba f.bs.length bc, .int .i64 0, .int .i64 0, .bool false, fz 30, .pointer (some ⟨g, 0, none⟩), .pointer (some ⟨g, 0, none⟩), .int .i64 (t : Int), .pointer (some ⟨g, 0, none⟩), .pointer (some ⟨g, 2, none⟩), .pointer (some ⟨g, 0, none⟩), .pointer (some ⟨g, 3, none⟩), .pointer (some ⟨g, 0, none⟩), .pointer (some ⟨g, 0, none⟩), .pointer (some ⟨g, 3, none⟩), .int .i64 (s : Int), .slice ba f.bs.length bc, .int .i64 (f.bs.length : Int), .bool true, .slice ba f.bs.length bc, .pointer (some ⟨g, 0, none⟩), .pointer (some ⟨g, 0, none⟩), .pointer (some ⟨g, 3, none⟩), .int .i64 (s : Int), vs, .slice (some ⟨q, qo, none⟩) pp.length qc, .slice (some ⟨q, qo, none⟩) pp.length qc, .bool false, .pointer (some ⟨g, 0, none⟩), .pointer (some ⟨g, 0, none⟩), .pointer (some ⟨g, 0, none⟩), .pointer (some ⟨g, 1, none⟩), .slice pa pn pc, .int .i64 (t : Int), .pointer (some ⟨g, 0, none⟩), .pointer (some ⟨g, 0, none⟩), .pointer (some ⟨g, 3, none⟩), .int .i64 (s : Int), .agg #[.int .i64 (t : Int), .int .i64 (s : Int)], .slice (some ⟨g9, 0, none⟩) 1 1, .slice a10 n10 c10, .pointer (some ⟨g, 0, none⟩), .pointer (some ⟨g, 1, none⟩), .slice la ln lc, .slice (some ⟨q, qo, none⟩) pp.length qc, .slice ca cn cc, .slice (some ⟨g13, 0, none⟩) 1 1, .slice a14 n14 c14, .pointer (some ⟨g, 0, none⟩), .pointer (some ⟨g, 0, none⟩), .pointer (some ⟨g, 3, none⟩), .int .i64 (s : Int), .slice (some ⟨q, qo, none⟩) pp.length qc, .int .i64 (pp.length : Int), .int .i64 (16 + (pp.length : Int)), .int .i64 (s2 : Int), .pointer (some ⟨g, 0, none⟩), .pointer (some ⟨g, 3, none⟩), fz 84, undef, undef].getD zz undef, s2, a14, n14, c14, .slice a10 n10 c10, P ++ [pp], rfl, h3, h1, h2, O15.out, R15.out⟩, ?_⟩
      rw [szOf_blk R15.out.blk, szOf_blk IRb.out]
      have := hs2.out
      simp only [Int.toNat_natCast]
      omega
   ·have hsl' : ¬ (s : Int) < (f.bs.length : Int) := by omega
    refine wp_seq_k fun K28 hK28 => ?_
    refine wp_seq_k fun K29 hK29 => rgn ?_
    refine VlS (.pointer (some ⟨g, 0, none⟩)) ?_
    refine VlS (.pointer (some ⟨g, 0, none⟩)) ?_
    refine VlS (.pointer (some ⟨g, 3, none⟩)) ?_
    refine VlS (.int .i64 (s : Int)) ?_
    refine VlS (.slice ba f.bs.length bc) ?_
    refine VlS (.int .i64 (f.bs.length : Int)) ?_
    refine VlS (.bool false) ?_
    refine WL.nil (hK29 _ _ ?_)
    refine wp_cond_false rfl ?_
    refine wp_exit ?_
    refine hK9 _ _ ?_
    refine rgn ?_
    refine VlS (.int .i64 ((t : Int) + 1)) ?_
    refine VlS (.int .i64 ((t : Int) + 1)) ?_
    refine WL.nil ?_
    obtain ⟨h1, h2⟩ := rd_end IP1.out IP2.out (by omega)
    have hM : V.more t f.bs = ({ ps := V.ps ++ P, pl := V.pl ++ plc (t : Int) 0 P, pr := (t : Int), sz := (s : Int), torn := false } : JV) := by
     unfold JV.more
     rw [h1, h2, decide_eq_false (by omega)]
    refine ⟨⟨fun zz => [.pointer (some ⟨g, 0, none⟩), vn, undef, undef, fz 4, fz 5, fz 6, .slice la ln lc, .bool false, .int .i64 (t : Int), .slice ba f.bs.length bc, .int .i64 0, fy 12, .slice (some ⟨pg, 0, none⟩) 0 0, .int .i64 ((t : Int) + 1), .bool true, .int .i64 (t : Int), vn, .int .i64 (t : Int), .string nn, .bool bb, .bool false, .tuple #[.slice ba f.bs.length bc, .int .i64 0], .pointer (some ⟨g, 0, none⟩), .int .i64 (t : Int), .tuple #[.slice ba f.bs.length bc, .int .i64 0], .slice ba f.bs.length bc, .int .i64 0, .int .i64 0, .bool false, fz 30, .pointer (some ⟨g, 0, none⟩), .pointer (some ⟨g, 0, none⟩), .int .i64 (t : Int), .pointer (some ⟨g, 0, none⟩), .pointer (some ⟨g, 2, none⟩), .pointer (some ⟨g, 0, none⟩), .pointer (some ⟨g, 3, none⟩), .pointer (some ⟨g, 0, none⟩), .pointer (some ⟨g, 0, none⟩), .pointer (some ⟨g, 3, none⟩), .int .i64 (s : Int), .slice ba f.bs.length bc, .int .i64 (f.bs.length : Int), .bool false, fy 45, fy 46, fy 47, fy 48, fy 49, fy 50, fy 51, fy 52, fy 53, fy 54, fy 55, fy 56, fy 57, fy 58, fy 59, fy 60, fy 61, fy 62, fy 63, fy 64, fy 65, fy 66, fy 67, fy 68, fy 69, fy 70, fy 71, fy 72, fy 73, fy 74, fy 75, fy 76, fy 77, fy 78, fy 79, fy 80, fy 81, fy 82, fy 83, .int .i64 ((t : Int) + 1), undef, undef].getD zz undef, t + 1, la, ln, lc, vp, V.more t f.bs, rfl, by omega, ?_, by rw [hM], ?_, ?_, ?_, ?_⟩, ?_⟩
    ·rw [hM]; show (t : Int) = ((t + 1 : Nat) : Int) - 1; omega
    ·rw [JV3.out, rdJ_seg hlt HFt.out, if_neg (by rw [hM]; simp)]
    ·rw [hM]
     show (V.ps ++ P).length ≤ _
     rw [List.length_append, Nat.succ_mul]
     have e1 := JV4.out
     have e2 := frs_ge P
     have e3 := IP1.out
     have e4 := HFb.out.2
     omega
    ·rw [hM]
     show (V.pl ++ plc (t : Int) 0 P).length = (V.ps ++ P).length
     rw [List.length_append, List.length_append, plc_len, JV5.out]
    ·rw [hM]; exact IR.out
    ·simp only [intOf]; show 256 - ((t : Int) + 1).toNat < 256 - ((t : Int)).toNat; omega
  ·have HNo : Keep ((Fk D.fs) t = none) := ⟨by have h := (cont_lk D.fs nn).2 (by rw [← hbb.out]; exact h6_4); unfold Fk; rw [← hnn.out, h]; rfl⟩
   clear hbb
   refine VlS (.bool true) ?_
   refine WL.nil (hK12 _ _ ?_)
   refine wp_cond_true rfl ?_
   refine wp_exit ?_
   refine hK5 _ _ ?_
   refine wp_seq_k fun K30 hK30 => rgn ?_
   refine VlS (.slice la ln lc) ?_
   refine VlS (.bool false) ?_
   refine VlS (.slice la ln lc) ?_
   refine VlS (.bool false) ?_
   refine VlS (.int .i64 0) ?_
   refine WL.nil (hK30 _ _ ?_)
   refine wp_ret ?_
   try rw [Exit.noGoto_ret]
   go_ret3
   have e : openV (Fk D.fs) = V := by rw [JV3.out, rdJ_none HNo.out]
   rw [e, JV2.out]
   exact ⟨_, vp, rfl, R2.out⟩
 ·have hlt' : ¬ (t : Int) < 256 := by omega
  refine wp_seq_k fun K31 hK31 => rgn ?_
  refine VlS (.bool false) ?_
  refine WL.nil (hK31 _ _ ?_)
  refine wp_seq_k fun K32 hK32 => ?_
  refine wp_cond_false rfl ?_
  refine wp_exit ?_
  refine hK5 _ _ ?_
  refine wp_seq_k fun K33 hK33 => rgn ?_
  refine VlS (.slice la ln lc) ?_
  refine VlS (.bool false) ?_
  refine VlS (.slice la ln lc) ?_
  refine VlS (.bool false) ?_
  refine VlS (.int .i64 0) ?_
  refine WL.nil (hK33 _ _ ?_)
  refine wp_ret ?_
  try rw [Exit.noGoto_ret]
  go_ret3
  have e : openV (Fk D.fs) = V := by rw [JV3.out, show 256 - t = 0 by omega]; rfl
  rw [e, JV2.out]
  exact ⟨_, vp, rfl, JR.out⟩
end Go.Proofs.YtlggejehaonkcaaDoor
