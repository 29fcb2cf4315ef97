import Derived.Test.YtennogmeeefopaaDoorA10
import Derived.Test.YtennogmeeefopaaDoorA11
import Derived.Test.YtennogmeeefopaaDoorA12
import Derived.Test.YtennogmeeefopaaDoorA13
import Derived.Test.YtennogmeeefopaaDoorA06
import Derived.Deep.RegionHeld3
import Derived.Lib.Small
namespace Go.Proofs.YtennogmeeefopaaDoor
open Go.RowKit
set_option linter.unusedSimpArgs false
set_option linter.unusedVariables false

theorem Tryd.in14 (w : World) (vs : Array Value) : (callFunc 14 vs).run Tryd.prog w = .ok (.enter 14 vs) w := by kernel_rfl
def sndS : Code → Code
 | .seq _ y => y
 | c => c
def bodyC (f : Func) : Code := match f.body with
 | some c => c
 | none => .skip
structure AgSt (w wi : World) (ps pd ph : Nat) (D : DV) (N ML : Nat → Prop) (vk : Value) (kp : List Int) (vl : Value) (ls : List (List Int)) : Prop where
 bel : Below w.heap.size w wi
 tab : Tab wi
 dsk : DskN wi pd ps D N
 hnd : Blk wi ph 77 #[ptr ps]
 nlo : ∀ k, N k → w.heap.size ≤ k ∧ k < wi.heap.size ∧ k ≠ pd ∧ k ≠ ph
 pos : 0 < w.heap.size
 row : RwN wi vl ls ML
 dis : ∀ k, ML k → ¬ N k ∧ k < wi.heap.size
 kps : IntsAt wi vk kp
 kpl : kp ≠ [] → ∀ k, vk.ownBlock = some k → k < w.heap.size
theorem AgSt.ints {w wi w' : World} {vk : Value} {kp : List Int} {N : Nat → Prop} (h : IntsAt wi vk kp) (hl : kp ≠ [] → ∀ k, vk.ownBlock = some k → k < w.heap.size) (hg : Grown wi w' N) (hn : ∀ k, N k → w.heap.size ≤ k) : IntsAt w' vk kp := by
 by_cases e : kp = []
 ·subst e
  rcases h with h | ⟨q, o, c, rfl, _⟩
  ·exact .inl h
  ·exact .inl ⟨_, _, rfl, rfl⟩
 ·exact h.grown hg fun k hk hN => by have h1 := hl e k hk; have h2 := hn k hN; omega
theorem AgSt.step {w wi w' : World} {ps pd ph : Nat} {D D' : DV} {N N' ML : Nat → Prop} {vk vl : Value} {kp : List Int} {ls : List (List Int)} (h : AgSt w wi ps pd ph D N ML vk kp vl ls) (hg : Grown wi w' N) (hd : DskN w' pd ps D' N') (hN : ∀ k, N' k → (N k ∨ wi.heap.size ≤ k) ∧ k < w'.heap.size) : AgSt w w' ps pd ph D' N' ML vk kp vl ls := by
 have hlo : ∀ k, N k → w.heap.size ≤ k := fun k hk => (h.nlo k hk).1
 have hs := h.bel.size
 refine ⟨h.bel.trans (hg.to_below (B := w.heap.size) (fun k hk e => by have := hlo k e; omega) hs), h.tab.grown hg fun e => by have h1 := hlo 0 e; have := h.pos; omega, hd, hg.blk h.hnd fun e => (h.nlo ph e).2.2.2 rfl, fun k hk => ?_, h.pos, h.row.grown hg fun k _ hk => (h.dis k hk).1, fun k hk => ⟨fun e => ?_, Nat.lt_of_lt_of_le (h.dis k hk).2 hg.size⟩, AgSt.ints h.kps h.kpl hg hlo, h.kpl⟩
 ·obtain ⟨h1, h2⟩ := hN k hk
  rcases h1 with h1 | h1
  ·exact ⟨hlo k h1, h2, (h.nlo k h1).2.2⟩
  ·have h3 := h.dsk.1.lt
   have h4 := h.hnd.lt
   exact ⟨by omega, h2, by omega, by omega⟩
 ·obtain ⟨h1, _⟩ := hN k e
  rcases h1 with h1 | h1
  ·exact (h.dis k hk).1 h1
  ·have := (h.dis k hk).2
   omega
theorem AgSt.below {w wi w' : World} {ps pd ph : Nat} {D : DV} {N ML : Nat → Prop} {vk vl : Value} {kp : List Int} {ls : List (List Int)} (h : AgSt w wi ps pd ph D N ML vk kp vl ls) (hb : Below wi.heap.size wi w') : AgSt w w' ps pd ph D N ML vk kp vl ls :=
 h.step (Grown.below hb) (h.dsk.below hb) fun k hk => ⟨.inl hk, Nat.lt_of_lt_of_le (h.nlo k hk).2.1 hb.size⟩
theorem AgSt.crash {w wi : World} {ps pd ph : Nat} {D : DV} {N ML : Nat → Prop} {vk vl : Value} {kp : List Int} {ls : List (List Int)} (h : AgSt w wi ps pd ph D N ML vk kp vl ls) (hk : DOk D) :
  Calls Tryd.prog 14 #[ptr ph, vk] wi fun e w' => e = .returned (.tuple #[]) ∧ ∃ N', AgSt w w' ps pd ph (D.crash kp) N' ML vk kp vl ls := by
 obtain ⟨h1, vf, cs, h2, h3⟩ := h.dsk
 have hb := h.bel.size
 refine (crash_any ph ps vk vf kp cs D wi h.hnd h2 h.kps (fun hn k hk => ?_) (by rw [h2.fcs.len]; have := hk.len; omega) (fun f hf => ⟨(hk.sf f hf).1, (hk.sf f hf).2, ?_⟩) (by have := hk.big; omega)).mono ?_
 ·have e1 := h.kpl hn k hk
  refine ⟨fun e => ?_, fun e => ?_⟩
  ·have := (h.nlo k (h3 k (.inl e))).1; omega
  ·have := (h.nlo k (h3 k (.inr (.inl e)))).1; omega
 ·obtain ⟨i, hi, rfl⟩ := List.getElem_of_mem hf
  have e1 := usd_at (List.getElem?_eq_getElem hi)
  have := hk.big
  omega
 ·rintro e w' ⟨rfl, cs', h4, h5, h6⟩
  have hg : Grown wi w' N := h5.mono fun k _ hk => hk.elim (fun e => h3 k (.inl e)) fun e => h3 k (.inr (.inl e))
  refine ⟨rfl, fun k => (N k ∨ wi.heap.size ≤ k) ∧ k < w'.heap.size, h.step hg ⟨hg.blk h1 fun e => (h.nlo pd e).2.2.1 rfl, vf, cs', h4, fun k hk => ⟨(h6 k hk).imp (h3 k) id, h4.sLt hk⟩⟩ fun k hk => hk⟩
theorem AgSt.told {w wi : World} {ps pd ph : Nat} {D : DV} {N ML : Nat → Prop} {vk vl : Value} {kp : List Int} {ls : List (List Int)} (h : AgSt w wi ps pd ph D N ML vk kp vl ls) (hk : DOk D) (ho : D.out = false) (ha : D.acts ≤ 4611686018427380000) :
  Calls Tryd.prog 16 #[ptr pd, ptr ph] wi fun e w' => ∃ ee D' N', MPost D D' ee (openV (Fk D.fs)) ∧ AgSt w w' ps pd ph D' N' ML vk kp vl ls ∧
   ((ee = 0 ∧ ∃ vm, e = .returned (.tuple #[vm, .int .i64 (D'.acts - D.acts), .int .i64 0]) ∧ RwsAt w' vm (openV (Fk D.fs)).ps) ∨ (ee = 7 ∧ e = .returned (.tuple #[.slice none 0 0, .int .i64 (D'.acts - D.acts), .int .i64 7]))) := by
 have hb := h.bel.size
 refine (told_any pd ph ps D N wi h.tab h.hnd h.dsk (fun e => by have := (h.nlo 0 e).1; have := h.pos; omega) (fun e => (h.nlo pd e).2.2.1 rfl) (fun e => (h.nlo ph e).2.2.2 rfl) (fun k hk => (h.nlo k hk).2.1) hk ho ha).mono ?_
 rintro e w' ⟨ee, D', B, h1, h2, h3, h4, h5, h6⟩
 refine ⟨ee, D', _, h1, h.step h5 h4 fun k hk => ⟨hk.1.imp id fun e => by omega, hk.2⟩, ?_⟩
 rcases h6 with ⟨he, vm, h7, h8⟩ | h6
 ·exact .inl ⟨he, vm, h7, h8.rws⟩
 ·exact .inr h6
set_option maxRecDepth 8000 in
set_option maxHeartbeats 2000000 in
theorem again_c {w wi : World} {ps pd ph lc : Nat} {D : DV} {N ML : Nat → Prop} {vk : Value} {la : Option Addr} {kp : List Int} {ls : List (List Int)} {n : Int} (fz : Nat → Value) (hS : AgSt w wi ps pd ph D N ML vk kp (.slice la ls.length lc) ls) (hOk : DOk D) (hls : (openV (Fk D.fs)).ps = ls) (hsf : ∀ f ∈ D.fs, f.sf = (f.bs.length : Int)) (hAc : D.acts ≤ 1000) : Code.wp Tryd.prog (sndS (sndS (sndS (sndS (sndS (sndS (sndS (sndS (sndS (sndS (sndS (bodyC Tryd.f5)))))))))))) (bodyPost Tryd.prog Tryd.f5 fun e w' => e = .returned (.bool true) ∧ Below w.heap.size w w') { tmps := #[fz 0, vk, .int .i64 n, fz 3, fz 4, fz 5, fz 6, .pointer (some ⟨pd, 0, none⟩), .pointer (some ⟨ph, 0, none⟩), fz 9, fz 10, .slice la ls.length lc, fz 12, fz 13, fz 14, fz 15, fz 16, fz 17, fz 18, fz 19, fz 20, fz 21, fz 22, fz 23, fz 24, fz 25, fz 26, fz 27, fz 28, fz 29, fz 30, fz 31, fz 32, fz 33, fz 34, fz 35, fz 36, fz 37, fz 38, fz 39, fz 40, fz 41, fz 42, fz 43, fz 44, fz 45, fz 46, fz 47, fz 48, fz 49, fz 50, fz 51, fz 52, fz 53, fz 54, fz 55, fz 56, fz 57, fz 58, fz 59, fz 60, fz 61, fz 62, fz 63, fz 64, fz 65, fz 66, fz 67, fz 68, fz 69, fz 70, fz 71, fz 72, fz 73, fz 74, fz 75, fz 76, fz 77, fz 78, fz 79, fz 80, fz 81, fz 82, fz 83, fz 84, fz 85, fz 86, fz 87, fz 88, fz 89, fz 90, fz 91, fz 92, fz 93, fz 94, fz 95, fz 96, fz 97, fz 98, fz 99, fz 100, fz 101, fz 102, fz 103, fz 104, fz 105, fz 106, fz 107, fz 108, fz 109, fz 110, fz 111, fz 112, fz 113, fz 114, fz 115, fz 116, fz 117, fz 118, fz 119, fz 120, fz 121, fz 122, fz 123, fz 124, fz 125, fz 126, fz 127, fz 128, fz 129, fz 130, fz 131, fz 132], defers := [] } wi := by
 have HS := Keep.mk hS
 have HOk := Keep.mk hOk
 have Hls := Keep.mk hls
 have Hsf := Keep.mk hsf
 have HLn : Keep (ls.length ≤ 256000000000) := ⟨by rw [← hls]; exact openV_many hOk⟩
 have HAc := Keep.mk hAc
 clear hS hOk hls hsf hAc
 generalize hg : (bodyPost Tryd.prog Tryd.f5 fun e w' => e = .returned (.bool true) ∧ Below w.heap.size w w') = Q
 unfold Tryd.f5
 simp only [bodyC, sndS]
 subst hg
 refine wp_seq_k fun K1 hK1 => rgn ?_
 refine VlS (.pointer (some ⟨ph, 0, none⟩)) ?_
 refine VlS (vk) ?_
 refine WL.callF (by kernel_rfl) 14 _ _ rfl Tryd.in14 #[ptr ph, vk] (by simp [Act.eval]) ?_
 refine (HS.out.crash HOk.out).mono ?_
 rintro e w1 ⟨rfl, N1, h1⟩
 refine ⟨_, rfl, ?_⟩
 have S1 := Keep.mk h1
 clear h1 HS
 simp only [Act.put, pqA, pqB, pqC]
 refine WL.nil (hK1 _ _ ?_)
 refine wp_seq_k fun K2 hK2 => rgn ?_
 refine VlS (.pointer (some ⟨pd, 0, none⟩)) ?_
 refine VlS (.pointer (some ⟨ph, 0, none⟩)) ?_
 refine WL.callF (by kernel_rfl) 16 _ _ rfl Tryd.in16 #[ptr pd, ptr ph] (by simp [Act.eval]) ?_
 refine (S1.out.told (HOk.out.crash kp) rfl (by show D.acts ≤ _; have := HAc.out; omega)).mono ?_
 rintro e w2 ⟨ee, Dw2, Nw2, h1, h2, h3⟩
 have MPw2 := Keep.mk h1
 have Sw2 := Keep.mk h2
 have hacw2 : Keep (0 ≤ Dw2.acts - (D.crash kp).acts ∧ Dw2.acts ≤ (D.crash kp).acts + 300) := ⟨by have := h1.acts; omega⟩
 clear h1 h2
 rcases h3 with ⟨he, vm, rfl, hm⟩ | ⟨he, rfl⟩
 case' inr => exact absurd ((MPw2.out.fuse rfl).1) (by rw [he]; decide)
 have HM := Keep.mk hm
 have hps : (openV (Fk (D.crash kp).fs)).ps = ls := by rw [crash_self Hsf.out kp]; exact Hls.out
 rw [hps] at HM
 clear hm hps he
 obtain ⟨ma, mc, e1⟩ := HM.out.form
 subst e1
 obtain ⟨ac, hac⟩ : ∃ z, Keep (z = Dw2.acts - (D.crash kp).acts) := ⟨_, ⟨rfl⟩⟩
 rw [← hac.out]
 have hac0 : 0 ≤ ac := by have := hacw2.out; have := hac.out; omega
 refine ⟨_, rfl, ?_⟩
 simp only [Act.put, pqA, pqB, pqC]
 refine VlS (.tuple #[.slice ma ls.length mc, .int .i64 ac, .int .i64 0]) ?_
 refine VlS (.slice ma ls.length mc) ?_
 refine VlS (.int .i64 ac) ?_
 refine VlS (.int .i64 0) ?_
 refine VlS (.slice ma ls.length mc) ?_
 refine VlS (.int .i64 ac) ?_
 refine VlS (.int .i64 0) ?_
 refine WL.nil (hK2 _ _ ?_)
 refine wp_seq_k fun K3 hK3 => rgn ?_
 refine VlS (.int .i64 0) ?_
 refine VlS (.bool true) ?_
 refine VlS (.bool true) ?_
 refine VlS (.int .i64 ac) ?_
 refine VlS (.bool true) ?_
 refine VlS (.bool true) ?_
 refine VlS (.bool true) ?_
 refine VlS (.slice la ls.length lc) ?_
 refine VlS (.slice ma ls.length mc) ?_
 refine WL.callF (by kernel_rfl) 17 _ _ rfl Tryd.in17 #[.slice la ls.length lc, .slice ma ls.length mc] (by simp [Act.eval]) ?_
 refine (sameAll_refl _ _ ls w2 Sw2.out.row.rws HM.out (by have := HLn.out; omega)).mono ?_
 rintro e w3 ⟨rfl, hb3⟩
 refine ⟨_, rfl, ?_⟩
 have S3 := Keep.mk (Sw2.out.below hb3)
 clear hb3
 simp only [Act.put, pqA, pqB, pqC]
 refine VlS (.bool true) ?_
 refine VlS (.bool true) ?_
 refine WL.nil (hK3 _ _ ?_)
 refine wp_ret ?_
 go_ret
 exact ⟨rfl, S3.out.bel⟩
set_option maxRecDepth 8000 in
set_option maxHeartbeats 2000000 in
theorem again_b {w wi : World} {ps pd ph lc : Nat} {D : DV} {N ML : Nat → Prop} {vk : Value} {la : Option Addr} {kp : List Int} {ls : List (List Int)} {n : Int} (fz : Nat → Value) (hS : AgSt w wi ps pd ph D N ML vk kp (.slice la ls.length lc) ls) (hOk : DOk D) (hls : (openV (Fk D.fs)).ps = ls) (hsf : ∀ f ∈ D.fs, f.sf = (f.bs.length : Int)) (hAc : D.acts ≤ 600) (hO : D.out = false) (hNn : n ≤ 9223372036854775807) : Code.wp Tryd.prog (sndS (sndS (sndS (sndS (sndS (sndS (sndS (sndS (bodyC Tryd.f5))))))))) (bodyPost Tryd.prog Tryd.f5 fun e w' => e = .returned (.bool true) ∧ Below w.heap.size w w') { tmps := #[fz 0, vk, .int .i64 n, fz 3, fz 4, fz 5, fz 6, .pointer (some ⟨pd, 0, none⟩), .pointer (some ⟨ph, 0, none⟩), fz 9, fz 10, .slice la ls.length lc, fz 12, fz 13, fz 14, fz 15, fz 16, fz 17, fz 18, fz 19, fz 20, fz 21, fz 22, fz 23, fz 24, fz 25, fz 26, fz 27, fz 28, fz 29, fz 30, fz 31, fz 32, fz 33, fz 34, fz 35, fz 36, fz 37, fz 38, fz 39, fz 40, fz 41, fz 42, fz 43, fz 44, fz 45, fz 46, fz 47, fz 48, fz 49, fz 50, fz 51, fz 52, fz 53, fz 54, fz 55, fz 56, fz 57, fz 58, fz 59, fz 60, fz 61, fz 62, fz 63, fz 64, fz 65, fz 66, fz 67, fz 68, fz 69, fz 70, fz 71, fz 72, fz 73, fz 74, fz 75, fz 76, fz 77, fz 78, fz 79, fz 80, fz 81, fz 82, fz 83, fz 84, fz 85, fz 86, fz 87, fz 88, fz 89, fz 90, fz 91, fz 92, fz 93, fz 94, fz 95, fz 96, fz 97, fz 98, fz 99, fz 100, fz 101, fz 102, fz 103, fz 104, fz 105, fz 106, fz 107, fz 108, fz 109, fz 110, fz 111, fz 112, fz 113, fz 114, fz 115, fz 116, fz 117, fz 118, fz 119, fz 120, fz 121, fz 122, fz 123, fz 124, fz 125, fz 126, fz 127, fz 128, fz 129, fz 130, fz 131, fz 132], defers := [] } wi := by
 have HS := Keep.mk hS
 have HOk := Keep.mk hOk
 have Hls := Keep.mk hls
 have Hsf := Keep.mk hsf
 have HLn : Keep (ls.length ≤ 256000000000) := ⟨by rw [← hls]; exact openV_many hOk⟩
 have HAc := Keep.mk hAc
 have HO := Keep.mk hO
 have HNn := Keep.mk hNn
 clear hS hOk hls hsf hAc hO hNn
 generalize hg : (bodyPost Tryd.prog Tryd.f5 fun e w' => e = .returned (.bool true) ∧ Below w.heap.size w w') = Q
 unfold Tryd.f5
 simp only [bodyC, sndS]
 subst hg
 refine wp_seq_k fun K1 hK1 => rgn ?_
 refine VlS (.pointer (some ⟨ph, 0, none⟩)) ?_
 refine VlS (.int .i64 n) ?_
 obtain ⟨hd1, vf, cs, hd2, hd3⟩ := HS.out.dsk
 refine WL.callF (by kernel_rfl) 18 _ _ rfl Tryd.in18 #[ptr ph, .int .i64 n] (by simp [Act.eval]) ?_
 refine (fuse_any ph ps n vf cs D wi HS.out.hnd hd2).mono ?_
 rintro e w1 ⟨rfl, h1, h2⟩
 refine ⟨_, rfl, ?_⟩
 have hg : Grown wi w1 N := h2.mono fun k _ e => hd3 k (.inl e)
 have S1 := Keep.mk (HS.out.step hg (N' := N) (D' := { D with fuse := max (-1) n }) ⟨hg.blk hd1 fun e => (HS.out.nlo pd e).2.2.1 rfl, vf, cs, h1, hd3⟩ fun k hk => ⟨.inl hk, Nat.lt_of_lt_of_le (HS.out.nlo k hk).2.1 hg.size⟩)
 have HOk1 : Keep (DOk { D with fuse := max (-1) n }) := ⟨⟨HOk.out.srt, HOk.out.len, HOk.out.sf, HOk.out.byt, HOk.out.used, HOk.out.big, HOk.out.acts, by have := HNn.out; show -1 ≤ max (-1) n ∧ max (-1) n ≤ _; omega⟩⟩
 clear h1 h2 hg hd1 hd2 hd3 HS
 simp only [Act.put, pqA, pqB, pqC]
 refine WL.nil (hK1 _ _ ?_)
 refine wp_seq_k fun K2 hK2 => rgn ?_
 refine VlS (.pointer (some ⟨pd, 0, none⟩)) ?_
 refine VlS (.pointer (some ⟨ph, 0, none⟩)) ?_
 refine WL.callF (by kernel_rfl) 16 _ _ rfl Tryd.in16 #[ptr pd, ptr ph] (by simp [Act.eval]) ?_
 refine (S1.out.told HOk1.out HO.out (by show D.acts ≤ _; have := HAc.out; omega)).mono ?_
 rintro e w2 ⟨ee, Dw2, Nw2, h1, h2, h3⟩
 have MPw2 := Keep.mk h1
 have Sw2 := Keep.mk h2
 have hacw2 : Keep (0 ≤ Dw2.acts - ({ D with fuse := max (-1) n } : DV).acts ∧ Dw2.acts ≤ ({ D with fuse := max (-1) n } : DV).acts + 300) := ⟨by have := h1.acts; omega⟩
 clear h1 h2
 have HMp : Keep (MPost ({ D with fuse := max (-1) n } : DV) Dw2 ee (openV (Fk D.fs))) := MPw2
 have hls2 : Keep ((openV (Fk Dw2.fs)).ps = ls) := ⟨by rw [mid_ps HMp.out]; exact Hls.out⟩
 have hsf2 : Keep (∀ f ∈ Dw2.fs, f.sf = (f.bs.length : Int)) := ⟨HMp.out.safe Hsf.out⟩
 have hA2 : Keep (Dw2.acts ≤ 1000) := ⟨by have h1 := hacw2.out.2; have h2 := HAc.out; simp only at h1; omega⟩
 obtain ⟨ac, hac⟩ : ∃ z, Keep (z = Dw2.acts - ({ D with fuse := max (-1) n } : DV).acts) := ⟨_, ⟨rfl⟩⟩
 rw [← hac.out] at h3
 have hac0 : ¬ ac < 0 := by have := hacw2.out; have := hac.out; omega
 clear MPw2
 rcases h3 with ⟨he, vm, rfl, hm⟩ | ⟨he, rfl⟩
 ·have HM : Keep (RwsAt w2 vm ls) := ⟨by have h : RwsAt w2 vm (openV (Fk D.fs)).ps := hm; rw [Hls.out] at h; exact h⟩
  clear hm
  obtain ⟨ma, mc, e1⟩ := HM.out.form
  subst e1
  have HOut : Keep (Dw2.out = false) := ⟨by rcases HMp.out.ans with ⟨_, h, _⟩ | ⟨h, _⟩; exact h; rw [he] at h; cases h⟩
  clear he
  refine ⟨_, rfl, ?_⟩
  simp only [Act.put, pqA, pqB, pqC]
  refine VlS (.tuple #[.slice ma ls.length mc, .int .i64 ac, .int .i64 0]) ?_
  refine VlS (.slice ma ls.length mc) ?_
  refine VlS (.int .i64 ac) ?_
  refine VlS (.int .i64 0) ?_
  refine VlS (.slice ma ls.length mc) ?_
  refine VlS (.int .i64 ac) ?_
  refine VlS (.int .i64 0) ?_
  refine WL.nil (hK2 _ _ ?_)
  refine wp_seq_k fun K3 hK3 => ?_
  refine wp_seq_k fun K4 hK4 => rgn ?_
  refine VlS (.int .i64 ac) ?_
  refine VlS (.bool false) ?_
  refine VlS (.bool false) ?_
  refine VlS (.int .i64 0) ?_
  refine VlS (.bool false) ?_
  refine VlS (.bool false) ?_
  refine SkS ?_
  refine SkS ?_
  refine VlS (.bool false) ?_
  refine VlS (.bool false) ?_
  refine VlS (.bool false) ?_
  refine VlS (.int .i64 0) ?_
  refine VlS (.bool true) ?_
  refine VlS (.bool true) ?_
  refine VlS (.slice la ls.length lc) ?_
  refine VlS (.slice ma ls.length mc) ?_
  refine WL.callF (by kernel_rfl) 17 _ _ rfl Tryd.in17 #[.slice la ls.length lc, .slice ma ls.length mc] (by simp [Act.eval]) ?_
  refine (sameAll_refl _ _ ls w2 Sw2.out.row.rws HM.out (by have := HLn.out; omega)).mono ?_
  rintro e w3 ⟨rfl, hb3⟩
  refine ⟨_, rfl, ?_⟩
  have S3 := Keep.mk (Sw2.out.below hb3)
  clear hb3 Sw2 HM
  simp only [Act.put, pqA, pqB, pqC]
  refine VlS (.bool false) ?_
  refine VlS (.bool false) ?_
  refine VlS (.bool false) ?_
  refine VlS (.bool false) ?_
  refine VlS (.int .i64 0) ?_
  refine VlS (.bool false) ?_
  refine VlS (.pointer (some ⟨ph, 0, none⟩)) ?_
  have co : w3.cell? ⟨ps, 4, none⟩ = some (.bool false) := by obtain ⟨_, vf, cs, h, _⟩ := S3.out.dsk; have h2 := h.blk.c 4 (by rfl : (stA vf Dw2)[4]? = some (.bool Dw2.out)); rw [HOut.out] at h2; exact h2
  refine WL.callF (by kernel_rfl) 19 _ _ rfl Tryd.in19 #[ptr ph] (by simp [Act.eval]) ?_
  refine (out_any ph ps false w3 (S3.out.hnd.c 0 rfl) co).mono ?_
  rintro e w4 ⟨rfl, hw⟩
  refine ⟨_, rfl, ?_⟩
  obtain rfl : w3 = w4 := hw.symm
  clear hw co
  simp only [Act.put, pqA, pqB, pqC]
  refine VlS (.bool false) ?_
  refine VlS (.bool false) ?_
  refine WL.nil (hK4 _ _ ?_)
  refine wp_cond_false rfl ?_
  refine wp_skip ?_
  refine hK3 _ _ ?_
  exact again_c (fun zz => [fz 0, vk, .int .i64 n, fz 3, fz 4, fz 5, fz 6, .pointer (some ⟨pd, 0, none⟩), .pointer (some ⟨ph, 0, none⟩), fz 9, fz 10, .slice la ls.length lc, fz 12, fz 13, .slice ma ls.length mc, .int .i64 ac, .int .i64 0, fz 17, fz 18, fz 19, fz 20, fz 21, fz 22, fz 23, fz 24, fz 25, fz 26, fz 27, fz 28, fz 29, fz 30, fz 31, fz 32, fz 33, fz 34, fz 35, fz 36, fz 37, fz 38, fz 39, fz 40, fz 41, fz 42, fz 43, fz 44, fz 45, fz 46, fz 47, fz 48, fz 49, fz 50, fz 51, fz 52, fz 53, fz 54, fz 55, fz 56, fz 57, fz 58, fz 59, fz 60, fz 61, fz 62, fz 63, fz 64, fz 65, fz 66, fz 67, fz 68, fz 69, fz 70, fz 71, fz 72, fz 73, fz 74, .pointer (some ⟨ph, 0, none⟩), .int .i64 n, undef, .tuple #[.slice ma ls.length mc, .int .i64 ac, .int .i64 0], .pointer (some ⟨pd, 0, none⟩), .pointer (some ⟨ph, 0, none⟩), .tuple #[.slice ma ls.length mc, .int .i64 ac, .int .i64 0], .slice ma ls.length mc, .int .i64 ac, .int .i64 0, .int .i64 ac, .bool false, .bool false, .int .i64 0, .bool false, .bool false, undef, undef, .bool false, .bool false, .bool false, .int .i64 0, .bool true, .bool true, .slice la ls.length lc, .slice ma ls.length mc, .bool true, .bool false, .bool false, .bool false, .bool false, .int .i64 0, .bool false, .pointer (some ⟨ph, 0, none⟩), .bool false, .bool false, .bool false, fz 112, fz 113, fz 114, fz 115, fz 116, fz 117, fz 118, fz 119, fz 120, fz 121, fz 122, fz 123, fz 124, fz 125, fz 126, fz 127, fz 128, fz 129, fz 130, fz 131, fz 132].getD zz undef) S3.out HMp.out.ok hls2.out hsf2.out hA2.out
 ·have HOut : Keep (Dw2.out = true) := ⟨by rcases HMp.out.ans with ⟨h, _⟩ | ⟨_, h, _⟩; rw [he] at h; cases h; exact h⟩
  clear he
  refine ⟨_, rfl, ?_⟩
  simp only [Act.put, pqA, pqB, pqC]
  refine VlS (.tuple #[.slice none 0 0, .int .i64 ac, .int .i64 7]) ?_
  refine VlS (.slice none 0 0) ?_
  refine VlS (.int .i64 ac) ?_
  refine VlS (.int .i64 7) ?_
  refine VlS (.slice none 0 0) ?_
  refine VlS (.int .i64 ac) ?_
  refine VlS (.int .i64 7) ?_
  refine WL.nil (hK2 _ _ ?_)
  refine wp_seq_k fun K5 hK5 => ?_
  refine wp_seq_k fun K6 hK6 => rgn ?_
  refine VlS (.int .i64 ac) ?_
  refine VlS (.bool false) ?_
  refine VlS (.bool false) ?_
  refine VlS (.int .i64 7) ?_
  refine VlS (.bool true) ?_
  refine VlS (.bool true) ?_
  refine VlS (.int .i64 7) ?_
  refine VlS (.bool false) ?_
  refine VlS (.bool false) ?_
  refine VlS (.bool false) ?_
  refine VlS (.bool false) ?_
  refine VlS (.int .i64 7) ?_
  refine VlS (.bool false) ?_
  refine VlS (.bool false) ?_
  refine SkS ?_
  refine SkS ?_
  refine SkS ?_
  refine SkS ?_
  refine VlS (.bool false) ?_
  refine VlS (.bool false) ?_
  refine VlS (.bool false) ?_
  refine VlS (.int .i64 7) ?_
  refine VlS (.bool true) ?_
  refine VlS (.pointer (some ⟨ph, 0, none⟩)) ?_
  have co : w2.cell? ⟨ps, 4, none⟩ = some (.bool true) := by obtain ⟨_, vf, cs, h, _⟩ := Sw2.out.dsk; have h2 := h.blk.c 4 (by rfl : (stA vf Dw2)[4]? = some (.bool Dw2.out)); rw [HOut.out] at h2; exact h2
  refine WL.callF (by kernel_rfl) 19 _ _ rfl Tryd.in19 #[ptr ph] (by simp [Act.eval]) ?_
  refine (out_any ph ps true w2 (Sw2.out.hnd.c 0 rfl) co).mono ?_
  rintro e w4 ⟨rfl, hw⟩
  refine ⟨_, rfl, ?_⟩
  obtain rfl : w2 = w4 := hw.symm
  clear hw co
  simp only [Act.put, pqA, pqB, pqC]
  refine VlS (.bool false) ?_
  refine VlS (.bool false) ?_
  refine WL.nil (hK6 _ _ ?_)
  refine wp_cond_false rfl ?_
  refine wp_skip ?_
  refine hK5 _ _ ?_
  exact again_c (fun zz => [fz 0, vk, .int .i64 n, fz 3, fz 4, fz 5, fz 6, .pointer (some ⟨pd, 0, none⟩), .pointer (some ⟨ph, 0, none⟩), fz 9, fz 10, .slice la ls.length lc, fz 12, fz 13, .slice none 0 0, .int .i64 ac, .int .i64 7, fz 17, fz 18, fz 19, fz 20, fz 21, fz 22, fz 23, fz 24, fz 25, fz 26, fz 27, fz 28, fz 29, fz 30, fz 31, fz 32, fz 33, fz 34, fz 35, fz 36, fz 37, fz 38, fz 39, fz 40, fz 41, fz 42, fz 43, fz 44, fz 45, fz 46, fz 47, fz 48, fz 49, fz 50, fz 51, fz 52, fz 53, fz 54, fz 55, fz 56, fz 57, fz 58, fz 59, fz 60, fz 61, fz 62, fz 63, fz 64, fz 65, fz 66, fz 67, fz 68, fz 69, fz 70, fz 71, fz 72, fz 73, fz 74, .pointer (some ⟨ph, 0, none⟩), .int .i64 n, undef, .tuple #[.slice none 0 0, .int .i64 ac, .int .i64 7], .pointer (some ⟨pd, 0, none⟩), .pointer (some ⟨ph, 0, none⟩), .tuple #[.slice none 0 0, .int .i64 ac, .int .i64 7], .slice none 0 0, .int .i64 ac, .int .i64 7, .int .i64 ac, .bool false, .bool false, .int .i64 7, .bool true, .bool true, .int .i64 7, .bool false, .bool false, .bool false, .bool false, .int .i64 7, .bool false, .bool false, undef, undef, undef, undef, .bool false, .bool false, .bool false, .int .i64 7, .bool true, .pointer (some ⟨ph, 0, none⟩), .bool true, .bool false, .bool false, fz 112, fz 113, fz 114, fz 115, fz 116, fz 117, fz 118, fz 119, fz 120, fz 121, fz 122, fz 123, fz 124, fz 125, fz 126, fz 127, fz 128, fz 129, fz 130, fz 131, fz 132].getD zz undef) Sw2.out HMp.out.ok hls2.out hsf2.out hA2.out
set_option maxRecDepth 8000 in
set_option maxHeartbeats 4000000 in
theorem again_any (v vk : Value) (n : Int) (ks : List PF) (kp : List Int) (w : World) (hT : Tab w) (hZ : 0 < w.heap.size) (hX : FilesAt w v ks) (hL : ks.length ≤ 1000000000000) (hU : usd ks ≤ 1000000000) (hB : ∀ x ∈ ks, Byts x.bs) (hKp : IntsAt w vk kp) (hKl : kp ≠ [] → ∀ k, vk.ownBlock = some k → k < w.heap.size) (hNn : n ≤ 9223372036854775807) :
  Calls Tryd.prog 5 #[v, vk, .int .i64 n] w fun e w' => e = .returned (.bool true) ∧ Below w.heap.size w w' := by
 obtain ⟨ka, kc, rfl⟩ := hX.form
 have HT := Keep.mk hT
 have HZ := Keep.mk hZ
 have HX := Keep.mk hX
 have HL := Keep.mk hL
 have HU := Keep.mk hU
 have HKp := Keep.mk hKp
 have HKl := Keep.mk hKl
 have HNn := Keep.mk hNn
 have HD0 := Keep.mk (layD_ok 0 ks hB hU)
 clear hT hZ hX hL hU hB hKp hKl hNn
 go_enter Tryd.func5, Tryd.ntmps5
 refine wp_seq_k fun K1 hK1 => rgn ?_
 refine VlS (.bool false) ?_
 refine WL.nil (hK1 _ _ ?_)
 refine wp_seq_k fun K2 hK2 => ?_
 refine wp_seq_k fun K3 hK3 => rgn ?_
 refine WL.callF (by kernel_rfl) 8 _ _ rfl Tryd.in8 #[] (by simp) ?_
 refine (awake_any w HT.out HZ.out).mono ?_
 rintro e w1 ⟨rfl, h1⟩
 refine ⟨_, rfl, ?_⟩
 have B1 := Keep.mk h1
 clear h1
 simp only [Act.put, pqA, pqB, pqC]
 refine VlS (.bool false) ?_
 refine WL.nil (hK3 _ _ ?_)
 refine wp_cond_false rfl ?_
 refine wp_skip ?_
 refine hK2 _ _ ?_
 refine wp_seq_k fun K4 hK4 => rgn ?_
 refine VlS (.slice ka ks.length kc) ?_
 refine WL.callF (by kernel_rfl) 13 _ _ rfl Tryd.in13 #[.int .i64 0, .slice ka ks.length kc] (by simp [Act.eval]) ?_
 refine (dlay_any 0 _ ks w1 (HX.out.below B1.out) HL.out HU.out).mono ?_
 rintro e w2 ⟨ps, pd, ph, vf, cs, rfl, h1, h2, h3, h4, h5, h6⟩
 refine ⟨_, rfl, ?_⟩
 have E2 := Keep.mk h1
 have P2 := Keep.mk h2
 have Q2 := Keep.mk h3
 have L2 := Keep.mk h4
 have S2 := Keep.mk h5
 have B2 := Keep.mk h6
 clear h1 h2 h3 h4 h5 h6
 simp only [Act.put, pqA, pqB, pqC]
 refine VlS (.tuple #[.pointer (some ⟨pd, 0, none⟩), .pointer (some ⟨ph, 0, none⟩)]) ?_
 refine VlS (.pointer (some ⟨pd, 0, none⟩)) ?_
 refine VlS (.pointer (some ⟨ph, 0, none⟩)) ?_
 refine VlS (.pointer (some ⟨pd, 0, none⟩)) ?_
 refine VlS (.pointer (some ⟨ph, 0, none⟩)) ?_
 refine WL.nil (hK4 _ _ ?_)
 refine wp_seq_k fun K5 hK5 => rgn ?_
 refine VlS (.pointer (some ⟨ph, 0, none⟩)) ?_
 refine VlS (vk) ?_
 have HI2 : Keep (IntsAt w2 vk kp) := ⟨(HKp.out.below B1.out).below B2.out⟩
 refine WL.callF (by kernel_rfl) 14 _ _ rfl Tryd.in14 #[ptr ph, vk] (by simp [Act.eval]) ?_
 refine (crash_any ph ps vk vf kp cs (layD 0 ks) w2 Q2.out E2.out HI2.out (fun hn k hk => by have h1 := HKl.out hn k hk; have h2 := B1.out.size; refine ⟨fun e => ?_, fun e => ?_⟩; (have := S2.out k (.inl e); omega); (have := S2.out k (.inr (.inl e)); omega)) (by rw [E2.out.fcs.len]; have := HD0.out.1.len; omega) (fun f hf => ⟨(HD0.out.1.sf f hf).1, (HD0.out.1.sf f hf).2, by obtain ⟨i, hi, rfl⟩ := List.getElem_of_mem hf; have e1 := usd_at (List.getElem?_eq_getElem hi); have := HD0.out.1.big; omega⟩) (by have := HD0.out.1.big; omega)).mono ?_
 rintro e w3 ⟨rfl, cs3, h1, h2, h3⟩
 refine ⟨_, rfl, ?_⟩
 have E3 := Keep.mk h1
 have hlo : ∀ k, k = ps ∨ vf.ownBlock = some k → w1.heap.size ≤ k := fun k hk => S2.out k (hk.elim .inl fun e => .inr (.inl e))
 have hty : ∀ k, k = ps ∨ vf.ownBlock = some k → Typ w2 k 5 ∨ Typ w2 k 70 ∨ Typ w2 k 73 := fun k hk => E2.out.sTyp (hk.elim .inl fun e => .inr (.inl e))
 have P3 : Keep (Blk w3 pd 75 #[ptr ps]) := ⟨h2.blk P2.out fun e => by rcases hty _ e with h | h | h <;> (have := h.one P2.out.typ; revert this; decide)⟩
 have Q3 : Keep (Blk w3 ph 77 #[ptr ps]) := ⟨h2.blk Q2.out fun e => by rcases hty _ e with h | h | h <;> (have := h.one Q2.out.typ; revert this; decide)⟩
 have S3 : Keep (∀ k, DskS ps vf cs3 k → w1.heap.size ≤ k) := ⟨fun k hk => by rcases h3 k hk with h | h; exact S2.out k h; have := B2.out.size; omega⟩
 have B3 : Keep (Below w1.heap.size w1 w3) := ⟨B2.out.trans (h2.to_below (B := w1.heap.size) (fun k hk e => by have := hlo k e; omega) B2.out.size)⟩
 clear h1 h2 h3 hlo hty HI2 E2 P2 Q2 S2 B2
 obtain ⟨D1, hD1⟩ : ∃ z, Keep (z = (layD 0 ks).crash kp) := ⟨_, ⟨rfl⟩⟩
 rw [← hD1.out] at E3
 have HOk1 : Keep (DOk D1) := ⟨by rw [hD1.out]; exact HD0.out.1.crash kp⟩
 have HLy1 : Keep (LayOk D1.fs) := ⟨by rw [hD1.out]; exact LayOk.crash HD0.out.1 HD0.out.2 kp⟩
 have Hsf1 : Keep (∀ f ∈ D1.fs, f.sf = (f.bs.length : Int)) := ⟨by rw [hD1.out]; exact crash_safe HD0.out.1 kp⟩
 have HD1f : Keep (D1.out = false ∧ D1.fuse = -1 ∧ D1.acts = 0 ∧ { D1 with used := usd D1.fs } = D1) := ⟨by rw [hD1.out]; exact ⟨rfl, rfl, rfl, rfl⟩⟩
 clear hD1
 simp only [Act.put, pqA, pqB, pqC]
 refine WL.nil (hK5 _ _ ?_)
 refine wp_seq_k fun K6 hK6 => rgn ?_
 refine VlS (.pointer (some ⟨ph, 0, none⟩)) ?_
 refine WL.callF (by kernel_rfl) 15 _ _ rfl Tryd.in15 #[ptr ph] (by simp [Act.eval]) ?_
 refine (copy_any ph ps vf cs3 D1 w3 Q3.out E3.out HLy1.out HOk1.out.big).mono ?_
 rintro e w4 ⟨cp, cd, ch, vfc, csc, rfl, h1, h2, h3, h4, h5, h6⟩
 refine ⟨_, rfl, ?_⟩
 rw [HD1f.out.2.2.2] at h1
 have hne : ∀ (wx : World) (p : Nat) (v : Value) (c : List FC) (E : DV) (b : Nat) (T : TypeId) (a : Array Value), DskAt wx p v c E → Blk wx b T a → T = 75 ∨ T = 77 → ∀ k, DskS p v c k → k ≠ b := fun wx p v c E b T a hd hb hT k hk e => by
  subst e
  rcases hT with rfl | rfl <;> (rcases hd.sTyp hk with h | h | h <;> (have := h.one hb.typ; revert this; decide))
 have DD : Keep (DskN w4 pd ps D1 (fun k => (w1.heap.size ≤ k ∧ k < w3.heap.size) ∧ k ≠ pd ∧ k ≠ ph)) := ⟨DskN.below (w := w3) (N := (fun k => (w1.heap.size ≤ k ∧ k < w3.heap.size) ∧ k ≠ pd ∧ k ≠ ph)) ⟨P3.out, vf, cs3, E3.out, fun k hk => ⟨⟨S3.out k hk, E3.out.sLt hk⟩, hne _ _ _ _ _ _ _ _ E3.out P3.out (.inl rfl) k hk, hne _ _ _ _ _ _ _ _ E3.out Q3.out (.inr rfl) k hk⟩⟩ h6⟩
 have DC : Keep (DskN w4 cd cp D1 (fun k => (w3.heap.size ≤ k ∧ k < w4.heap.size) ∧ k ≠ cd ∧ k ≠ ch)) := ⟨⟨h2, vfc, csc, h1, fun k hk => ⟨⟨h5 k hk, h1.sLt hk⟩, hne _ _ _ _ _ _ _ _ h1 h2 (.inl rfl) k hk, hne _ _ _ _ _ _ _ _ h1 h3 (.inr rfl) k hk⟩⟩⟩
 have P4 : Keep (Blk w4 pd 75 #[ptr ps]) := ⟨P3.out.below h6 P3.out.lt⟩
 have Q4 : Keep (Blk w4 ph 77 #[ptr ps]) := ⟨Q3.out.below h6 Q3.out.lt⟩
 have L4 : Keep (pd < w3.heap.size ∧ ph < w3.heap.size ∧ w3.heap.size ≤ cd ∧ w3.heap.size ≤ ch ∧ cd < w4.heap.size ∧ ch < w4.heap.size ∧ w.heap.size ≤ w1.heap.size ∧ w1.heap.size ≤ w3.heap.size) := ⟨P3.out.lt, Q3.out.lt, h4.2.1, h4.2.2, h2.lt, h3.lt, B1.out.size, B3.out.size⟩
 have BW4 : Keep (Below w.heap.size w w4) := ⟨(B1.out.trans (B3.out.mono B1.out.size)).trans (h6.mono (Nat.le_trans B1.out.size B3.out.size))⟩
 have HI4 : Keep (IntsAt w4 vk kp) := ⟨HKp.out.below BW4.out⟩
 have AC : Keep (AgSt w w4 cp cd ch D1 (fun k => (w3.heap.size ≤ k ∧ k < w4.heap.size) ∧ k ≠ cd ∧ k ≠ ch) (fun _ => False) vk kp (.slice none 0 0) []) := ⟨⟨BW4.out, HT.out.below BW4.out HZ.out, DC.out, h3, fun k hk => ⟨by have := hk.1.1; have := L4.out; omega, hk.1.2, hk.2.1, hk.2.2⟩, HZ.out, RwN.empty (ownR_nil _) (fun k hk => by simp [Value.ownBlock] at hk), fun k hk => hk.elim, HI4.out, HKl.out⟩⟩
 clear hne h1 h2 h3 h4 h5 h6 E3 P3 Q3 S3 DC
 simp only [Act.put, pqA, pqB, pqC]
 refine VlS (.tuple #[.pointer (some ⟨cd, 0, none⟩), .pointer (some ⟨ch, 0, none⟩)]) ?_
 refine VlS (.pointer (some ⟨cd, 0, none⟩)) ?_
 refine VlS (.pointer (some ⟨ch, 0, none⟩)) ?_
 refine VlS (.pointer (some ⟨cd, 0, none⟩)) ?_
 refine VlS (.pointer (some ⟨ch, 0, none⟩)) ?_
 refine WL.nil (hK6 _ _ ?_)
 refine wp_seq_k fun K7 hK7 => rgn ?_
 refine VlS (.pointer (some ⟨cd, 0, none⟩)) ?_
 refine VlS (.pointer (some ⟨ch, 0, none⟩)) ?_
 refine WL.callF (by kernel_rfl) 16 _ _ rfl Tryd.in16 #[ptr cd, ptr ch] (by simp [Act.eval]) ?_
 refine (told_any cd ch cp D1 (fun k => (w3.heap.size ≤ k ∧ k < w4.heap.size) ∧ k ≠ cd ∧ k ≠ ch) w4 AC.out.tab AC.out.hnd AC.out.dsk (fun e => by have := e.1.1; have := L4.out; have := HZ.out; omega) (fun e => e.2.1 rfl) (fun e => e.2.2 rfl) (fun k hk => hk.1.2) HOk1.out HD1f.out.1 (by have := HD1f.out.2.2.1; omega)).mono ?_
 rintro e w5 ⟨ee, D5, B5, h1, h2, h3, h4, h5, h6⟩
 obtain ⟨he, hf5⟩ := h1.fuse HD1f.out.2.1
 subst he
 have MP5 := Keep.mk h1
 have LB5 : Keep (w4.heap.size ≤ B5 ∧ B5 ≤ w5.heap.size) := ⟨h2, h3⟩
 rcases h6 with ⟨_, vl, rfl, hl⟩ | ⟨h, _⟩
 case' inr => cases h
 obtain ⟨ls, hls⟩ : ∃ z, Keep (z = (openV (Fk D1.fs)).ps) := ⟨_, ⟨rfl⟩⟩
 rw [← hls.out] at hl
 obtain ⟨la, lc, e1⟩ := hl.form
 subst e1
 have AC5 : Keep (AgSt w w5 cp cd ch D5 (fun k => ((fun k => (w3.heap.size ≤ k ∧ k < w4.heap.size) ∧ k ≠ cd ∧ k ≠ ch) k ∨ B5 ≤ k) ∧ k < w5.heap.size) (fun _ => False) vk kp (.slice none 0 0) []) := ⟨AC.out.step h5 h4 fun k hk => ⟨hk.1.imp id fun e => by have := LB5.out; omega, hk.2⟩⟩
 have DD5 : Keep (DskN w5 pd ps D1 (fun k => (w1.heap.size ≤ k ∧ k < w3.heap.size) ∧ k ≠ pd ∧ k ≠ ph)) := ⟨DD.out.grown h5 (fun e => by have := e.1.1; have := L4.out; omega) fun k _ hk e => by have := hk.1.2; have := e.1.1; omega⟩
 have Q5 : Keep (Blk w5 ph 77 #[ptr ps]) := ⟨h5.blk Q4.out fun e => by have := e.1.1; have := L4.out; omega⟩
 have R5 : Keep (RwN w5 (.slice la ls.length lc) ls fun k => w4.heap.size ≤ k ∧ k < B5) := ⟨hl⟩
 have HF5 : Keep (D5.fuse = -1 ∧ D5.out = false ∧ D5.acts ≤ 300) := ⟨hf5, (by rcases h1.ans with ⟨_, h, _⟩ | ⟨h, _⟩; exact h; cases h), by have h7 := h1.acts.2; have := HD1f.out.2.2.1; omega⟩
 obtain ⟨ac, hac⟩ : ∃ z, Keep (z = D5.acts - D1.acts) := ⟨_, ⟨rfl⟩⟩
 rw [← hac.out]
 clear h1 h2 h3 h4 h5 hl hf5 AC DD Q4
 refine ⟨_, rfl, ?_⟩
 simp only [Act.put, pqA, pqB, pqC]
 refine VlS (.tuple #[.slice la ls.length lc, .int .i64 ac, .int .i64 0]) ?_
 refine VlS (.slice la ls.length lc) ?_
 refine VlS (.int .i64 ac) ?_
 refine VlS (.int .i64 0) ?_
 refine VlS (.slice la ls.length lc) ?_
 refine VlS (.int .i64 ac) ?_
 refine VlS (.int .i64 0) ?_
 refine WL.nil (hK7 _ _ ?_)
 refine wp_seq_k fun K8 hK8 => rgn ?_
 refine VlS (.pointer (some ⟨cd, 0, none⟩)) ?_
 refine VlS (.pointer (some ⟨ch, 0, none⟩)) ?_
 refine WL.callF (by kernel_rfl) 16 _ _ rfl Tryd.in16 #[ptr cd, ptr ch] (by simp [Act.eval]) ?_
 refine (told_any cd ch cp D5 (fun k => ((fun k => (w3.heap.size ≤ k ∧ k < w4.heap.size) ∧ k ≠ cd ∧ k ≠ ch) k ∨ B5 ≤ k) ∧ k < w5.heap.size) w5 AC5.out.tab AC5.out.hnd AC5.out.dsk (fun e => by have := (AC5.out.nlo 0 e).1; have := HZ.out; omega) (fun e => (AC5.out.nlo cd e).2.2.1 rfl) (fun e => (AC5.out.nlo ch e).2.2.2 rfl) (fun k hk => (AC5.out.nlo k hk).2.1) MP5.out.ok HF5.out.2.1 (by have := HF5.out; omega)).mono ?_
 rintro e w6 ⟨ee, D6, B6, h1, h2, h3, h4, h5, h6⟩
 obtain ⟨he, hf6⟩ := h1.fuse HF5.out.1
 subst he
 obtain ⟨hV, hA⟩ := again_acts MP5.out h1 rfl
 rcases h6 with ⟨_, vm, rfl, hm⟩ | ⟨h, _⟩
 case' inr => cases h
 have hps : (openV (Fk D5.fs)).ps = ls := by rw [hV, hls.out]
 rw [hps] at hm
 obtain ⟨ma, mc, e1⟩ := hm.form
 subst e1
 have HM := Keep.mk hm.rws
 have hN5 : ∀ k, (fun k => ((fun k => (w3.heap.size ≤ k ∧ k < w4.heap.size) ∧ k ≠ cd ∧ k ≠ ch) k ∨ B5 ≤ k) ∧ k < w5.heap.size) k → w3.heap.size ≤ k ∧ ¬ (w4.heap.size ≤ k ∧ k < B5) := fun k hk => by
  rcases hk.1 with h | h
  ·exact ⟨h.1.1, fun h7 => by have := h.1.2; omega⟩
  ·exact ⟨by have := LB5.out; have := L4.out; omega, fun h7 => by omega⟩
 have DD6 : Keep (DskN w6 pd ps D1 (fun k => (w1.heap.size ≤ k ∧ k < w3.heap.size) ∧ k ≠ pd ∧ k ≠ ph)) := ⟨DD5.out.grown h5 (fun e => by have := (hN5 _ e).1; have := L4.out; omega) fun k _ hk e => by have := hk.1.2; have := (hN5 _ e).1; omega⟩
 have Q6 : Keep (Blk w6 ph 77 #[ptr ps]) := ⟨h5.blk Q5.out fun e => by have := (hN5 _ e).1; have := L4.out; omega⟩
 have R6 : Keep (RwN w6 (.slice la ls.length lc) ls fun k => w4.heap.size ≤ k ∧ k < B5) := ⟨R5.out.grown h5 fun k _ hk e => (hN5 k e).2 hk⟩
 have AC6 : Keep (AgSt w w6 cp cd ch D6 _ (fun _ => False) vk kp (.slice none 0 0) []) := ⟨AC5.out.step h5 h4 fun k hk => ⟨hk.1.imp id fun e => by omega, hk.2⟩⟩
 have LB6 : Keep (B5 ≤ w6.heap.size) := ⟨by have := LB5.out; have := h5.size; omega⟩
 obtain ⟨ac2, hac2⟩ : ∃ z, Keep (z = D6.acts - D5.acts) := ⟨_, ⟨rfl⟩⟩
 rw [← hac2.out] at hA ⊢
 rw [← hls.out] at hA
 have HAc2 := Keep.mk hA
 clear h1 h2 h3 h4 h5 hm hps hN5 hV hA hf6 AC5 DD5 Q5 R5
 have ha1 : ¬ ac2 < 0 := by have := HAc2.out; omega
 have ha2 : ¬ 1 < ac2 := by have := HAc2.out; omega
 refine ⟨_, rfl, ?_⟩
 simp only [Act.put, pqA, pqB, pqC]
 refine VlS (.tuple #[.slice ma ls.length mc, .int .i64 ac2, .int .i64 0]) ?_
 refine VlS (.slice ma ls.length mc) ?_
 refine VlS (.int .i64 ac2) ?_
 refine VlS (.int .i64 0) ?_
 refine VlS (.slice ma ls.length mc) ?_
 refine VlS (.int .i64 ac2) ?_
 refine VlS (.int .i64 0) ?_
 refine WL.nil (hK8 _ _ ?_)
 refine wp_seq_k fun K9 hK9 => ?_
 refine wp_seq_k fun K10 hK10 => rgn ?_
 refine VlS (.int .i64 0) ?_
 refine VlS (.bool false) ?_
 refine VlS (.bool false) ?_
 refine VlS (.int .i64 0) ?_
 refine VlS (.bool false) ?_
 refine VlS (.bool false) ?_
 refine VlS (.bool false) ?_
 refine VlS (.slice la ls.length lc) ?_
 refine VlS (.slice ma ls.length mc) ?_
 refine WL.callF (by kernel_rfl) 17 _ _ rfl Tryd.in17 #[.slice la ls.length lc, .slice ma ls.length mc] (by simp [Act.eval]) ?_
 refine (sameAll_refl _ _ ls w6 R6.out.rws HM.out (by rw [hls.out]; have := openV_many HOk1.out; omega)).mono ?_
 rintro e w7 ⟨rfl, hb7⟩
 refine ⟨_, rfl, ?_⟩
 have BW7 : Keep (Below w.heap.size w w7) := ⟨AC6.out.bel.trans (hb7.mono AC6.out.bel.size)⟩
 have ST7 : Keep (AgSt w w7 ps pd ph D1 (fun k => (w1.heap.size ≤ k ∧ k < w3.heap.size) ∧ k ≠ pd ∧ k ≠ ph) (fun k => w4.heap.size ≤ k ∧ k < B5) vk kp (.slice la ls.length lc) ls) := ⟨⟨BW7.out, HT.out.below BW7.out HZ.out, DD6.out.below hb7, Q6.out.below hb7 Q6.out.lt, fun k hk => ⟨by have := hk.1.1; have := L4.out; omega, by have h1 := hk.1.2; have h2 := LB5.out; have h3 := LB6.out; have h4 := hb7.size; have h5 := BW4.out.size; have h6 := L4.out; omega, hk.2.1, hk.2.2⟩, HZ.out, R6.out.below hb7, fun k hk => ⟨fun e => by have := e.1.2; have := L4.out; omega, by have := LB6.out; have := hb7.size; omega⟩, HKp.out.below BW7.out, HKl.out⟩⟩
 clear hb7 HM R6 DD6 Q6 AC6 BW7
 simp only [Act.put, pqA, pqB, pqC]
 refine VlS (.bool false) ?_
 refine VlS (.bool false) ?_
 refine VlS (.bool false) ?_
 refine VlS (.int .i64 ac2) ?_
 refine VlS (.bool false) ?_
 refine VlS (.bool false) ?_
 refine VlS (.bool false) ?_
 refine VlS (.int .i64 ac2) ?_
 refine VlS (.bool false) ?_
 refine VlS (.bool false) ?_
 refine VlS (.bool false) ?_
 refine VlS (.int .i64 ac2) ?_
 by_cases h8_22 : ac2 = 0
 ·have hl0 : ls.length = 0 := by rcases HAc2.out with h | ⟨_, h⟩; omega; rw [h]; rfl
  have hl1 : ¬ 0 < ls.length := by omega
  have hl2 : ¬ (0 : Int) < (ls.length : Int) := by omega
  clear hl0
  refine VlS (.bool true) ?_
  refine VlS (.bool true) ?_
  refine VlS (.slice la ls.length lc) ?_
  refine VlS (.int .i64 (ls.length : Int)) ?_
  refine VlS (.bool false) ?_
  refine VlS (.bool false) ?_
  refine VlS (.bool false) ?_
  refine WL.nil (hK10 _ _ ?_)
  refine wp_cond_false rfl ?_
  refine wp_skip ?_
  refine hK9 _ _ ?_
  exact again_b (fun zz => [.slice ka ks.length kc, vk, .int .i64 n, undef, undef, undef, .bool false, .pointer (some ⟨pd, 0, none⟩), .pointer (some ⟨ph, 0, none⟩), .pointer (some ⟨cd, 0, none⟩), .pointer (some ⟨ch, 0, none⟩), .slice la ls.length lc, .int .i64 ac, .int .i64 0, .slice ma ls.length mc, .int .i64 ac2, .int .i64 0, .bool true, .bool false, .tuple #[.pointer (some ⟨pd, 0, none⟩), .pointer (some ⟨ph, 0, none⟩)], .slice ka ks.length kc, .tuple #[.pointer (some ⟨pd, 0, none⟩), .pointer (some ⟨ph, 0, none⟩)], .pointer (some ⟨pd, 0, none⟩), .pointer (some ⟨ph, 0, none⟩), .pointer (some ⟨ph, 0, none⟩), vk, undef, .tuple #[.pointer (some ⟨cd, 0, none⟩), .pointer (some ⟨ch, 0, none⟩)], .pointer (some ⟨ph, 0, none⟩), .tuple #[.pointer (some ⟨cd, 0, none⟩), .pointer (some ⟨ch, 0, none⟩)], .pointer (some ⟨cd, 0, none⟩), .pointer (some ⟨ch, 0, none⟩), .tuple #[.slice la ls.length lc, .int .i64 ac, .int .i64 0], .pointer (some ⟨cd, 0, none⟩), .pointer (some ⟨ch, 0, none⟩), .tuple #[.slice la ls.length lc, .int .i64 ac, .int .i64 0], .slice la ls.length lc, .int .i64 ac, .int .i64 0, .tuple #[.slice ma ls.length mc, .int .i64 ac2, .int .i64 0], .pointer (some ⟨cd, 0, none⟩), .pointer (some ⟨ch, 0, none⟩), .tuple #[.slice ma ls.length mc, .int .i64 ac2, .int .i64 0], .slice ma ls.length mc, .int .i64 ac2, .int .i64 0, .int .i64 0, .bool false, .bool false, .int .i64 0, .bool false, .bool false, .bool false, .slice la ls.length lc, .slice ma ls.length mc, .bool true, .bool false, .bool false, .bool false, .int .i64 ac2, .bool false, .bool false, .bool false, .int .i64 ac2, .bool false, .bool false, .bool false, .int .i64 ac2, .bool true, .bool true, .slice la ls.length lc, .int .i64 (ls.length : Int), .bool false, .bool false, .bool false, undef, undef, undef, undef, undef, undef, undef, undef, undef, undef, undef, undef, undef, undef, undef, undef, undef, undef, undef, undef, undef, undef, undef, undef, undef, undef, undef, undef, undef, undef, undef, undef, undef, undef, undef, undef, undef, undef, undef, undef, undef, undef, undef, undef, undef, undef, undef, undef, undef, undef, undef, undef, undef, undef, undef, undef, undef, undef].getD zz undef) ST7.out HOk1.out hls.out.symm Hsf1.out (by have := HD1f.out.2.2.1; omega) HD1f.out.1 HNn.out
 ·skip
  refine VlS (.bool false) ?_
  refine VlS (.bool false) ?_
  refine SkS ?_
  refine SkS ?_
  refine SkS ?_
  refine VlS (.bool false) ?_
  refine VlS (.bool false) ?_
  refine WL.nil (hK10 _ _ ?_)
  refine wp_cond_false rfl ?_
  refine wp_skip ?_
  refine hK9 _ _ ?_
  exact again_b (fun zz => [.slice ka ks.length kc, vk, .int .i64 n, undef, undef, undef, .bool false, .pointer (some ⟨pd, 0, none⟩), .pointer (some ⟨ph, 0, none⟩), .pointer (some ⟨cd, 0, none⟩), .pointer (some ⟨ch, 0, none⟩), .slice la ls.length lc, .int .i64 ac, .int .i64 0, .slice ma ls.length mc, .int .i64 ac2, .int .i64 0, .bool true, .bool false, .tuple #[.pointer (some ⟨pd, 0, none⟩), .pointer (some ⟨ph, 0, none⟩)], .slice ka ks.length kc, .tuple #[.pointer (some ⟨pd, 0, none⟩), .pointer (some ⟨ph, 0, none⟩)], .pointer (some ⟨pd, 0, none⟩), .pointer (some ⟨ph, 0, none⟩), .pointer (some ⟨ph, 0, none⟩), vk, undef, .tuple #[.pointer (some ⟨cd, 0, none⟩), .pointer (some ⟨ch, 0, none⟩)], .pointer (some ⟨ph, 0, none⟩), .tuple #[.pointer (some ⟨cd, 0, none⟩), .pointer (some ⟨ch, 0, none⟩)], .pointer (some ⟨cd, 0, none⟩), .pointer (some ⟨ch, 0, none⟩), .tuple #[.slice la ls.length lc, .int .i64 ac, .int .i64 0], .pointer (some ⟨cd, 0, none⟩), .pointer (some ⟨ch, 0, none⟩), .tuple #[.slice la ls.length lc, .int .i64 ac, .int .i64 0], .slice la ls.length lc, .int .i64 ac, .int .i64 0, .tuple #[.slice ma ls.length mc, .int .i64 ac2, .int .i64 0], .pointer (some ⟨cd, 0, none⟩), .pointer (some ⟨ch, 0, none⟩), .tuple #[.slice ma ls.length mc, .int .i64 ac2, .int .i64 0], .slice ma ls.length mc, .int .i64 ac2, .int .i64 0, .int .i64 0, .bool false, .bool false, .int .i64 0, .bool false, .bool false, .bool false, .slice la ls.length lc, .slice ma ls.length mc, .bool true, .bool false, .bool false, .bool false, .int .i64 ac2, .bool false, .bool false, .bool false, .int .i64 ac2, .bool false, .bool false, .bool false, .int .i64 ac2, .bool false, .bool false, undef, undef, undef, .bool false, .bool false, undef, undef, undef, undef, undef, undef, undef, undef, undef, undef, undef, undef, undef, undef, undef, undef, undef, undef, undef, undef, undef, undef, undef, undef, undef, undef, undef, undef, undef, undef, undef, undef, undef, undef, undef, undef, undef, undef, undef, undef, undef, undef, undef, undef, undef, undef, undef, undef, undef, undef, undef, undef, undef, undef, undef, undef, undef, undef].getD zz undef) ST7.out HOk1.out hls.out.symm Hsf1.out (by have := HD1f.out.2.2.1; omega) HD1f.out.1 HNn.out
end Go.Proofs.YtennogmeeefopaaDoor
