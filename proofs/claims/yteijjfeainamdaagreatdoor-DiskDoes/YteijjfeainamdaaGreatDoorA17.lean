import Derived.Test.YteijjfeainamdaaGreatDoorA15
import Derived.Test.YteijjfeainamdaaGreatDoorA16
import Derived.Test.YteijjfeainamdaaGreatDoorA13
import Derived.Deep.RegionHeld3
import Derived.Lib.Small
namespace Go.Proofs.YteijjfeainamdaaGreatDoor
open Go.RowKit
set_option linter.unusedSimpArgs false
set_option linter.unusedVariables false

theorem Tryz.in5 (w : World) (vs : Array Value) : (callFunc 5 vs).run Tryz.prog w = .ok (.enter 5 vs) w := by kernel_rfl
def stepD (D : DV) (kd on : Int) (nm : ByteArray) (l kp : List Int) : DV :=
 if kd = 1 then apD D nm l else if kd = 2 then syD D nm else if kd = 3 then cuD D nm on else if kd = 4 then drD D nm else if kd = 8 then { D with fuse := max (-1) on } else if kd = 9 then D.crash kp else D
theorem DOk.step {D : DV} {u a : Int} (h : DOk D u a) (kd on : Int) (hon : on ≤ 9223372036854775807) (nm : ByteArray) (l kp : List Int) (hl : Byts l) : DOk (stepD D kd on nm l kp) (u + (l.length : Int)) (a + 1) := by
 have hz : (0 : Int) ≤ (l.length : Int) := Int.natCast_nonneg _
 unfold stepD
 split
 ·exact h.ap nm l hl
 split
 ·exact (h.sy nm).le (by omega) (by omega)
 split
 ·exact (h.cu nm on).le (by omega) (by omega)
 split
 ·exact (h.dr nm).le (by omega) (by omega)
 split
 ·exact (h.fu on hon).le (by omega) (by omega)
 split
 ·exact (h.cr kp).le (by omega) (by omega)
 ·exact h.le (by omega) (by omega)
theorem do_any (G : GV) (D : DV) (u a oa on : Int) (nm : ByteArray) (vb vk : Value) (l kp : List Int) (w : World) (hG : GvAt w G D D) (hO : DOk D u a) (hu : u ≤ 1000000000000) (ha : a ≤ 100000000000) (hl : l.length ≤ 1000000000000) (hn : nm.size ≤ 1000000000000000) (hR : RowAt w vb l) (hRb : l ≠ [] → ∀ k, vb.ownBlock = some k → ¬ G.U k) (hKp : IntsAt w vk kp) (hKb : kp ≠ [] → ∀ k, vk.ownBlock = some k → ¬ G.U k) (kd : Int) :
  Calls Tryz.prog 11 #[ptr G.g, .agg (opA ⟨kd, oa, on, nm, vb, vk⟩)] w fun e w' => e = .returned (.bool true) ∧ ∃ G', GvAt w' G' (stepD D kd on nm l kp) (stepD D kd on nm l kp) ∧ GvN w w' G G' := by
 unfold stepD
 by_cases h1 : kd = 1
 ·subst h1
  rw [if_pos rfl]
  exact do_append G D u a oa on nm vb vk l kp w hG hO hu ha hl hn hR hRb hKp hKb
 by_cases h2 : kd = 2
 ·subst h2
  rw [if_neg h1, if_pos rfl]
  exact do_sync G D u a oa on nm vb vk l kp w hG hO hu ha hl hn hR hRb hKp hKb
 by_cases h3 : kd = 3
 ·subst h3
  rw [if_neg h1, if_neg h2, if_pos rfl]
  exact do_cut G D u a oa on nm vb vk l kp w hG hO hu ha hl hn hR hRb hKp hKb
 by_cases h4 : kd = 4
 ·subst h4
  rw [if_neg h1, if_neg h2, if_neg h3, if_pos rfl]
  exact do_drop G D u a oa on nm vb vk l kp w hG hO hu ha hl hn hR hRb hKp hKb
 rw [if_neg h1, if_neg h2, if_neg h3, if_neg h4]
 by_cases h8 : kd = 8
 ·subst h8
  rw [if_pos rfl]
  exact do_fuse G D u a oa on nm vb vk l kp w hG hO hu ha hl hn hR hRb hKp hKb
 rw [if_neg h8]
 by_cases h9 : kd = 9
 ·subst h9
  rw [if_pos rfl]
  exact do_crash G D u a oa on nm vb vk l kp w hG hO hu ha hl hn hR hRb hKp hKb
 rw [if_neg h9]
 by_cases h5 : kd = 5
 ·subst h5
  exact do_read G D u a oa on nm vb vk l kp w hG hO hu ha hl hn hR hRb hKp hKb
 by_cases h6 : kd = 6
 ·subst h6
  exact do_size G D u a oa on nm vb vk l kp w hG hO hu ha hl hn hR hRb hKp hKb
 exact do_names G D u a oa on nm vb vk l kp w hG hO hu ha hl hn hR hRb hKp hKb kd h1 h2 h3 h4 h5 h6 h8 h9
structure PO where
 kd : Int
 at_ : Int
 n : Int
 nm : ByteArray
 l : List Int
 kp : List Int
def OpsAt (w : World) (v : Value) (os : List PO) : Prop :=
 ∃ V : Nat → OX, ((∃ a c, v = .slice a 0 c ∧ os = []) ∨ ∃ q o cap, v = .slice (some ⟨q, o, none⟩) os.length cap ∧ ∀ i, i < os.length → w.rangeAt q (o + i * 6) (opA (V i)).toList) ∧ ∀ i x, os[i]? = some x → (V i).kd = x.kd ∧ (V i).at_ = x.at_ ∧ (V i).n = x.n ∧ (V i).nm = x.nm ∧ RowAt w (V i).b x.l ∧ IntsAt w (V i).kp x.kp
theorem OpsAt.form {w : World} {v : Value} {os : List PO} (h : OpsAt w v os) : ∃ a c, v = .slice a os.length c := by
 obtain ⟨V, ⟨a, c, rfl, rfl⟩ | ⟨q, o, cap, rfl, _⟩, _⟩ := h
 ·exact ⟨a, c, rfl⟩
 ·exact ⟨_, _, rfl⟩
theorem OpsAt.below {w w' : World} {v : Value} {os : List PO} (h : OpsAt w v os) (hb : Below w.heap.size w w') : OpsAt w' v os := by
 obtain ⟨V, h1, h2⟩ := h
 refine ⟨V, ?_, fun i x hx => ⟨(h2 i x hx).1, (h2 i x hx).2.1, (h2 i x hx).2.2.1, (h2 i x hx).2.2.2.1, (h2 i x hx).2.2.2.2.1.below hb, (h2 i x hx).2.2.2.2.2.below hb⟩⟩
 rcases h1 with h1 | ⟨q, o, cap, h1, h3⟩
 ·exact .inl h1
 ·exact .inr ⟨q, o, cap, h1, fun i hi j u hu => by rw [hb.cell (p := ⟨q, o + i * 6 + j, none⟩) (cell_lt (h3 i hi j u hu))]; exact h3 i hi j u hu⟩
theorem OpsAt.at {w : World} {a : Option Addr} {n c : Nat} {os : List PO} (h : OpsAt w (.slice a n c) os) {t : Nat} {x : PO} (hx : os[t]? = some x) : ∃ q o y, a = some ⟨q, o, none⟩ ∧ w.rangeAt q (o + t * 6) (opA y).toList ∧ y.kd = x.kd ∧ y.at_ = x.at_ ∧ y.n = x.n ∧ y.nm = x.nm ∧ RowAt w y.b x.l ∧ IntsAt w y.kp x.kp := by
 obtain ⟨V, ⟨a', c', h1, rfl⟩ | ⟨q, o, cap, h1, h3⟩, h2⟩ := h
 ·simp at hx
 ·injection h1 with h1
  exact ⟨q, o, V t, h1, h3 t (List.getElem?_eq_some_iff.1 hx).1, h2 t x hx⟩
def opb (os : List PO) : Int := (os.map fun x => (x.l.length : Int)).sum
theorem opb_nonneg : ∀ os : List PO, 0 ≤ opb os
 | [] => by simp [opb]
 | x :: r => by have := opb_nonneg r; simp only [opb, List.map_cons, List.sum_cons] at this ⊢; omega
theorem opb_step {os : List PO} {t : Nat} {x : PO} (h : os[t]? = some x) : opb (os.take (t + 1)) = opb (os.take t) + (x.l.length : Int) := by
 rw [List.take_add_one, h]
 simp [opb]
theorem opb_take (os : List PO) (t : Nat) : opb (os.take t) ≤ opb os := by
 have h : opb os = opb (os.take t) + opb (os.drop t) := by
  have := List.take_append_drop t os
  conv => lhs; rw [← this]
  simp only [opb, List.map_append, List.sum_append]
 have := opb_nonneg (os.drop t)
 omega
theorem usd_snoc {fs : List PF} {t : Nat} {f : PF} (h : fs[t]? = some f) : usd (fs.take (t + 1)) = usd (fs.take t) + (f.bs.length : Int) := by
 rw [List.take_add_one, h]
 simp [usd]
set_option maxRecDepth 8000 in
set_option maxHeartbeats 4000000 in
theorem beyond_any (vf vo : Value) (ks : List PF) (os : List PO) (w : World) (hX : FilesAt w vf ks) (hS : OpsAt w vo os) (hLk : ks.length ≤ 1000000000000000) (hLo : os.length ≤ 1000000000000000) (hBk : ∀ f ∈ ks, f.bs.length ≤ 200000000000000) (hBo : ∀ x ∈ os, x.l.length ≤ 200000000000000) :
  Calls Tryz.prog 5 #[vf, vo] w fun e w' => ∃ b, e = .returned (.bool b) ∧ (b = false → (ks.length : Int) + usd ks + (os.length : Int) + opb os ≤ 2147483647) ∧ w' = w := by
 obtain ⟨fa, fc, rfl⟩ := hX.form
 obtain ⟨pa, pc, rfl⟩ := hS.form
 have HX := Keep.mk hX
 have HS := Keep.mk hS
 have HLk := Keep.mk hLk
 have HLo := Keep.mk hLo
 have HBk := Keep.mk hBk
 have HBo := Keep.mk hBo
 clear hX hS hLk hLo hBk hBo
 go_enter Tryz.func5, Tryz.ntmps5
 refine wp_seq_k fun K1 hK1 => rgn ?_
 refine VbF ?_
 refine WL.nil (hK1 _ _ ?_)
 refine wp_seq_k fun K2 hK2 => rgn ?_
 refine VlS (.int .i64 2147483647) ?_
 refine WL.nil (hK2 _ _ ?_)
 refine wp_seq_k fun K3 hK3 => ?_
 refine wp_seq_k fun K4 hK4 => rgn ?_
 refine VlS (.int .i64 0) ?_
 refine WL.nil (hK4 _ _ ?_)
 refine wp_block ?_
 refine wp_loop (fun ac wr => ∃ (t : Nat) (le : Int), ac = apF (fun fz => { tmps := #[.slice fa ks.length fc, .slice pa os.length pc, undef, undef, .bool false, .int .i64 le, .int .i64 (t : Int), undef, fz 8, fz 9, fz 10, fz 11, fz 12, fz 13, fz 14, fz 15, fz 16, fz 17, fz 18, fz 19, fz 20, fz 21, fz 22, fz 23, fz 24, fz 25, fz 26, fz 27, undef, undef, undef, undef, undef, undef, undef, undef, undef, undef, undef, undef, undef, undef, undef, undef, undef, undef, undef, undef, undef, undef], defers := [] }) ac ∧ w = wr ∧ t ≤ ks.length ∧ le = 2147483647 - (t : Int) - usd (ks.take t) ∧ -300000000000000 ≤ le ∧ le ≤ 2147483647) (fun a _ => ks.length - (intOf (a.tmps.getD 6 undef)).toNat) ⟨0, 2147483647, rfl, rfl, Nat.zero_le _, by simp [usd], by omega, by omega⟩ ?_
 rintro ac wr ⟨t, le, hac, rfl, ht, hJ, hJb⟩
 obtain ⟨fz, rfl⟩ := unF hac
 have JL := Keep.mk hJ
 have JB := Keep.mk hJb
 clear hJ hJb
 by_cases hlt : t < ks.length
 ·have hlt' : (t : Int) < (ks.length : Int) := by omega
  by_cases hle : (0 : Int) ≤ le
  ·have hwt : IntKind.i64.wrap ((t : Int) + 1) = (t : Int) + 1 := by rw [IntKind.wrap_i64]; have := HLk.out; omega
   obtain ⟨f, hx⟩ : ∃ x, ks[t]? = some x := ⟨ks[t], List.getElem?_eq_getElem hlt⟩
   have hbx := HBk.out f (List.mem_of_getElem? hx)
   obtain ⟨q, ko, y, hq, hrg, hy1, hy2, hy3⟩ := HX.out.at hx
   subst hq
   obtain ⟨yn, yb, ys⟩ := y
   obtain ⟨ba, bc, hxb⟩ := row_form hy3
   change yb = _ at hxb
   subst hxb
   have c1 : w.cell? ⟨q, ko + t * 3 + 1, none⟩ = some (.slice ba f.bs.length bc) := hrg 1 _ rfl
   have Hx := Keep.mk hx
   have Hbx := Keep.mk hbx
   have hw1 : IntKind.i64.wrap (le - 1) = le - 1 := by rw [IntKind.wrap_i64]; have := JB.out; omega
   have hw2 : IntKind.i64.wrap (le - 1 - (f.bs.length : Int)) = le - 1 - (f.bs.length : Int) := by rw [IntKind.wrap_i64]; have := JB.out; omega
   clear hx hrg hbx
   refine wp_seq_k fun K5 hK5 => ?_
   refine wp_seq_k fun K6 hK6 => rgn ?_
   refine VlS (.int .i64 (t : Int)) ?_
   refine VlS (.slice (some ⟨q, ko, none⟩) ks.length fc) ?_
   refine VlS (.int .i64 (ks.length : Int)) ?_
   refine VbT ?_
   refine VbT ?_
   refine VlS (.int .i64 le) ?_
   refine VbT ?_
   refine VbT ?_
   refine WL.nil (hK6 _ _ ?_)
   refine wp_cond_true rfl ?_
   refine wp_skip ?_
   refine hK5 _ _ ?_
   refine wp_seq_k fun K7 hK7 => ?_
   refine wp_block ?_
   refine wp_seq_k fun K8 hK8 => rgn ?_
   refine VlS (.int .i64 le) ?_
   refine VlS (.int .i64 (le - 1)) ?_
   refine VlS (.int .i64 (le - 1)) ?_
   refine WL.nil (hK8 _ _ ?_)
   refine rgn ?_
   refine VlS (.int .i64 (le - 1)) ?_
   refine VlS (.slice (some ⟨q, ko, none⟩) ks.length fc) ?_
   refine VlS (.int .i64 (t : Int)) ?_
   refine VlS (.pointer (some ⟨q, ko + t * 3, none⟩)) ?_
   refine VlS (.pointer (some ⟨q, ko + t * 3 + 1, none⟩)) ?_
   refine VlS (.slice ba f.bs.length bc) ?_
   refine VlS (.int .i64 (f.bs.length : Int)) ?_
   refine VlS (.int .i64 (le - 1 - (f.bs.length : Int))) ?_
   refine VlS (.int .i64 (le - 1 - (f.bs.length : Int))) ?_
   refine WL.nil (hK7 _ _ ?_)
   refine rgn ?_
   refine VlS (.int .i64 (t : Int)) ?_
   refine VlS (.int .i64 ((t : Int) + 1)) ?_
   refine VlS (.int .i64 ((t : Int) + 1)) ?_
   refine WL.nil ?_
   refine ⟨⟨t + 1, le - 1 - (f.bs.length : Int), rfl, rfl, by omega, ?_, ?_⟩, ?_⟩
   ·rw [usd_snoc Hx.out, JL.out]; omega
   ·have := JB.out; have := Hbx.out; omega
   ·simp only [intOf]; show ks.length - ((t : Int) + 1).toNat < ks.length - ((t : Int)).toNat; omega
  ·have HLE : Keep (le < 0) := ⟨by omega⟩
   have F1 : Keep (le < 0 ∨ le = 2147483647 - (ks.length : Int) - usd ks) := ⟨.inl HLE.out⟩
   have FB : Keep (-300000000000000 ≤ le ∧ le ≤ 2147483647) := JB
   clear JL JB
   refine wp_seq_k fun K9 hK9 => ?_
   refine wp_seq_k fun K10 hK10 => rgn ?_
   refine VlS (.int .i64 (t : Int)) ?_
   refine VlS (.slice fa ks.length fc) ?_
   refine VlS (.int .i64 (ks.length : Int)) ?_
   refine VbT ?_
   refine VbT ?_
   refine VlS (.int .i64 le) ?_
   refine VbF ?_
   refine VbF ?_
   refine WL.nil (hK10 _ _ ?_)
   refine wp_cond_false rfl ?_
   refine wp_exit ?_
   refine hK3 _ _ ?_
   refine wp_seq_k fun K11 hK11 => ?_
   refine wp_seq_k fun K12 hK12 => ?_
   obtain ⟨tz, htz⟩ : ∃ z : Nat, Keep (z = t) := ⟨_, ⟨rfl⟩⟩
   rw [← htz.out]
   clear htz
   refine rgn ?_
   refine VlS (.int .i64 0) ?_
   refine WL.nil (hK12 _ _ ?_)
   refine wp_block ?_
   refine wp_loop (fun ac wr => ∃ (t : Nat) (l2 : Int), ac = apF (fun fy => { tmps := #[.slice fa ks.length fc, .slice pa os.length pc, undef, undef, .bool false, .int .i64 l2, .int .i64 (tz : Int), .int .i64 (t : Int), .int .i64 (tz : Int), .slice fa ks.length fc, .int .i64 (ks.length : Int), .bool true, .bool true, .int .i64 le, .bool false, .bool false, fz 16, fz 17, fz 18, fz 19, fz 20, fz 21, fz 22, fz 23, fz 24, fz 25, fz 26, fz 27, fy 28, fy 29, fy 30, fy 31, fy 32, fy 33, fy 34, fy 35, fy 36, fy 37, fy 38, fy 39, fy 40, fy 41, fy 42, fy 43, fy 44, fy 45, fy 46, fy 47, undef, undef], defers := [] }) ac ∧ w = wr ∧ t ≤ os.length ∧ l2 = le - (t : Int) - opb (os.take t) ∧ -300000000000000 ≤ l2 ∧ l2 ≤ 2147483647) (fun a _ => os.length - (intOf (a.tmps.getD 7 undef)).toNat) ⟨0, le, rfl, rfl, Nat.zero_le _, by simp [opb], FB.out.1, FB.out.2⟩ ?_
   rintro ac wr ⟨t, l2, hac, rfl, ht, hJ, hJb⟩
   obtain ⟨fy, rfl⟩ := unF hac
   have JL := Keep.mk hJ
   have JB := Keep.mk hJb
   clear hJ hJb
   by_cases hlt : t < os.length
   ·have hlt' : (t : Int) < (os.length : Int) := by omega
    by_cases hle : (0 : Int) ≤ l2
    ·have hwt : IntKind.i64.wrap ((t : Int) + 1) = (t : Int) + 1 := by rw [IntKind.wrap_i64]; have := HLo.out; omega
     obtain ⟨x, hx⟩ : ∃ x, os[t]? = some x := ⟨os[t], List.getElem?_eq_getElem hlt⟩
     have hbx := HBo.out x (List.mem_of_getElem? hx)
     obtain ⟨q, ko, y, hq, hrg, hy1, hy2, hy3, hy4, hy5, hy6⟩ := HS.out.at hx
     subst hq
     obtain ⟨yk, ya, ym, yn, yb, yp⟩ := y
     obtain ⟨ba, bc, hxb⟩ := row_form hy5
     change yb = _ at hxb
     subst hxb
     have c1 : w.cell? ⟨q, ko + t * 6 + 4, none⟩ = some (.slice ba x.l.length bc) := hrg 4 _ rfl
     have Hx := Keep.mk hx
     have Hbx := Keep.mk hbx
     have hw1 : IntKind.i64.wrap (l2 - 1) = l2 - 1 := by rw [IntKind.wrap_i64]; have := JB.out; omega
     have hw2 : IntKind.i64.wrap (l2 - 1 - (x.l.length : Int)) = l2 - 1 - (x.l.length : Int) := by rw [IntKind.wrap_i64]; have := JB.out; omega
     clear hx hrg hbx
     refine wp_seq_k fun K13 hK13 => ?_
     refine wp_seq_k fun K14 hK14 => rgn ?_
     refine VlS (.int .i64 (t : Int)) ?_
     refine VlS (.slice (some ⟨q, ko, none⟩) os.length pc) ?_
     refine VlS (.int .i64 (os.length : Int)) ?_
     refine VbT ?_
     refine VbT ?_
     refine VlS (.int .i64 l2) ?_
     refine VbT ?_
     refine VbT ?_
     refine WL.nil (hK14 _ _ ?_)
     refine wp_cond_true rfl ?_
     refine wp_skip ?_
     refine hK13 _ _ ?_
     refine wp_seq_k fun K15 hK15 => ?_
     refine wp_block ?_
     refine wp_seq_k fun K16 hK16 => rgn ?_
     refine VlS (.int .i64 l2) ?_
     refine VlS (.int .i64 (l2 - 1)) ?_
     refine VlS (.int .i64 (l2 - 1)) ?_
     refine WL.nil (hK16 _ _ ?_)
     refine rgn ?_
     refine VlS (.int .i64 (l2 - 1)) ?_
     refine VlS (.slice (some ⟨q, ko, none⟩) os.length pc) ?_
     refine VlS (.int .i64 (t : Int)) ?_
     refine VlS (.pointer (some ⟨q, ko + t * 6, none⟩)) ?_
     refine VlS (.pointer (some ⟨q, ko + t * 6 + 4, none⟩)) ?_
     refine VlS (.slice ba x.l.length bc) ?_
     refine VlS (.int .i64 (x.l.length : Int)) ?_
     refine VlS (.int .i64 (l2 - 1 - (x.l.length : Int))) ?_
     refine VlS (.int .i64 (l2 - 1 - (x.l.length : Int))) ?_
     refine WL.nil (hK15 _ _ ?_)
     refine rgn ?_
     refine VlS (.int .i64 (t : Int)) ?_
     refine VlS (.int .i64 ((t : Int) + 1)) ?_
     refine VlS (.int .i64 ((t : Int) + 1)) ?_
     refine WL.nil ?_
     refine ⟨⟨t + 1, l2 - 1 - (x.l.length : Int), rfl, rfl, by omega, ?_, ?_⟩, ?_⟩
     ·rw [opb_step Hx.out, JL.out]; omega
     ·have := JB.out; have := Hbx.out; omega
     ·simp only [intOf]; show os.length - ((t : Int) + 1).toNat < os.length - ((t : Int)).toNat; omega
    ·have HLE : Keep (l2 < 0) := ⟨by omega⟩
     have hl20 : l2 < 0 := by omega
     refine wp_seq_k fun K17 hK17 => ?_
     refine wp_seq_k fun K18 hK18 => rgn ?_
     refine VlS (.int .i64 (t : Int)) ?_
     refine VlS (.slice pa os.length pc) ?_
     refine VlS (.int .i64 (os.length : Int)) ?_
     refine VbT ?_
     refine VbT ?_
     refine VlS (.int .i64 l2) ?_
     refine VbF ?_
     refine VbF ?_
     refine WL.nil (hK18 _ _ ?_)
     refine wp_cond_false rfl ?_
     refine wp_exit ?_
     refine hK11 _ _ ?_
     refine wp_seq_k fun K19 hK19 => rgn ?_
     refine VlS (.int .i64 l2) ?_
     refine VbT ?_
     refine VbT ?_
     refine WL.nil (hK19 _ _ ?_)
     refine wp_ret ?_
     go_ret
     exact ⟨true, rfl, (fun h => by cases h), rfl⟩
   ·have hlt' : ¬ (t : Int) < (os.length : Int) := by omega
    have HTE : Keep (t = os.length) := ⟨by omega⟩
    refine wp_seq_k fun K20 hK20 => ?_
    refine wp_seq_k fun K21 hK21 => rgn ?_
    refine VlS (.int .i64 (t : Int)) ?_
    refine VlS (.slice pa os.length pc) ?_
    refine VlS (.int .i64 (os.length : Int)) ?_
    refine VbF ?_
    refine VbF ?_
    refine SkS ?_
    refine SkS ?_
    refine VbF ?_
    refine WL.nil (hK21 _ _ ?_)
    refine wp_cond_false rfl ?_
    refine wp_exit ?_
    refine hK11 _ _ ?_
    refine wp_seq_k fun K22 hK22 => rgn ?_
    refine VlS (.int .i64 l2) ?_
    by_cases h12_1 : l2 < 0
    ·skip
     refine VbT ?_
     refine VbT ?_
     refine WL.nil (hK22 _ _ ?_)
     refine wp_ret ?_
     go_ret
     exact ⟨true, rfl, (fun h => by cases h), rfl⟩
    ·skip
     refine VbF ?_
     refine VbF ?_
     refine WL.nil (hK22 _ _ ?_)
     refine wp_ret ?_
     go_ret
     refine ⟨false, rfl, fun _ => ?_, rfl⟩
     have h := JL.out
     rw [HTE.out, List.take_length] at h
     have h1 := F1.out
     have := opb_nonneg os
     omega
 ·have hlt' : ¬ (t : Int) < (ks.length : Int) := by omega
  have HTE : Keep (t = ks.length) := ⟨by omega⟩
  have F1 : Keep (le < 0 ∨ le = 2147483647 - (ks.length : Int) - usd ks) := ⟨.inr (by have h := JL.out; rw [HTE.out, List.take_length] at h; exact h)⟩
  have FB : Keep (-300000000000000 ≤ le ∧ le ≤ 2147483647) := JB
  clear JL JB
  refine wp_seq_k fun K23 hK23 => ?_
  refine wp_seq_k fun K24 hK24 => rgn ?_
  refine VlS (.int .i64 (t : Int)) ?_
  refine VlS (.slice fa ks.length fc) ?_
  refine VlS (.int .i64 (ks.length : Int)) ?_
  refine VbF ?_
  refine VbF ?_
  refine SkS ?_
  refine SkS ?_
  refine VbF ?_
  refine WL.nil (hK24 _ _ ?_)
  refine wp_cond_false rfl ?_
  refine wp_exit ?_
  refine hK3 _ _ ?_
  refine wp_seq_k fun K25 hK25 => ?_
  refine wp_seq_k fun K26 hK26 => ?_
  obtain ⟨tz, htz⟩ : ∃ z : Nat, Keep (z = t) := ⟨_, ⟨rfl⟩⟩
  rw [← htz.out]
  clear htz
  refine rgn ?_
  refine VlS (.int .i64 0) ?_
  refine WL.nil (hK26 _ _ ?_)
  refine wp_block ?_
  refine wp_loop (fun ac wr => ∃ (t : Nat) (l2 : Int), ac = apF (fun fy => { tmps := #[.slice fa ks.length fc, .slice pa os.length pc, undef, undef, .bool false, .int .i64 l2, .int .i64 (tz : Int), .int .i64 (t : Int), .int .i64 (tz : Int), .slice fa ks.length fc, .int .i64 (ks.length : Int), .bool false, .bool false, undef, undef, .bool false, fz 16, fz 17, fz 18, fz 19, fz 20, fz 21, fz 22, fz 23, fz 24, fz 25, fz 26, fz 27, fy 28, fy 29, fy 30, fy 31, fy 32, fy 33, fy 34, fy 35, fy 36, fy 37, fy 38, fy 39, fy 40, fy 41, fy 42, fy 43, fy 44, fy 45, fy 46, fy 47, undef, undef], defers := [] }) ac ∧ w = wr ∧ t ≤ os.length ∧ l2 = le - (t : Int) - opb (os.take t) ∧ -300000000000000 ≤ l2 ∧ l2 ≤ 2147483647) (fun a _ => os.length - (intOf (a.tmps.getD 7 undef)).toNat) ⟨0, le, rfl, rfl, Nat.zero_le _, by simp [opb], FB.out.1, FB.out.2⟩ ?_
  rintro ac wr ⟨t, l2, hac, rfl, ht, hJ, hJb⟩
  obtain ⟨fy, rfl⟩ := unF hac
  have JL := Keep.mk hJ
  have JB := Keep.mk hJb
  clear hJ hJb
  by_cases hlt : t < os.length
  ·have hlt' : (t : Int) < (os.length : Int) := by omega
   by_cases hle : (0 : Int) ≤ l2
   ·have hwt : IntKind.i64.wrap ((t : Int) + 1) = (t : Int) + 1 := by rw [IntKind.wrap_i64]; have := HLo.out; omega
    obtain ⟨x, hx⟩ : ∃ x, os[t]? = some x := ⟨os[t], List.getElem?_eq_getElem hlt⟩
    have hbx := HBo.out x (List.mem_of_getElem? hx)
    obtain ⟨q, ko, y, hq, hrg, hy1, hy2, hy3, hy4, hy5, hy6⟩ := HS.out.at hx
    subst hq
    obtain ⟨yk, ya, ym, yn, yb, yp⟩ := y
    obtain ⟨ba, bc, hxb⟩ := row_form hy5
    change yb = _ at hxb
    subst hxb
    have c1 : w.cell? ⟨q, ko + t * 6 + 4, none⟩ = some (.slice ba x.l.length bc) := hrg 4 _ rfl
    have Hx := Keep.mk hx
    have Hbx := Keep.mk hbx
    have hw1 : IntKind.i64.wrap (l2 - 1) = l2 - 1 := by rw [IntKind.wrap_i64]; have := JB.out; omega
    have hw2 : IntKind.i64.wrap (l2 - 1 - (x.l.length : Int)) = l2 - 1 - (x.l.length : Int) := by rw [IntKind.wrap_i64]; have := JB.out; omega
    clear hx hrg hbx
    refine wp_seq_k fun K27 hK27 => ?_
    refine wp_seq_k fun K28 hK28 => rgn ?_
    refine VlS (.int .i64 (t : Int)) ?_
    refine VlS (.slice (some ⟨q, ko, none⟩) os.length pc) ?_
    refine VlS (.int .i64 (os.length : Int)) ?_
    refine VbT ?_
    refine VbT ?_
    refine VlS (.int .i64 l2) ?_
    refine VbT ?_
    refine VbT ?_
    refine WL.nil (hK28 _ _ ?_)
    refine wp_cond_true rfl ?_
    refine wp_skip ?_
    refine hK27 _ _ ?_
    refine wp_seq_k fun K29 hK29 => ?_
    refine wp_block ?_
    refine wp_seq_k fun K30 hK30 => rgn ?_
    refine VlS (.int .i64 l2) ?_
    refine VlS (.int .i64 (l2 - 1)) ?_
    refine VlS (.int .i64 (l2 - 1)) ?_
    refine WL.nil (hK30 _ _ ?_)
    refine rgn ?_
    refine VlS (.int .i64 (l2 - 1)) ?_
    refine VlS (.slice (some ⟨q, ko, none⟩) os.length pc) ?_
    refine VlS (.int .i64 (t : Int)) ?_
    refine VlS (.pointer (some ⟨q, ko + t * 6, none⟩)) ?_
    refine VlS (.pointer (some ⟨q, ko + t * 6 + 4, none⟩)) ?_
    refine VlS (.slice ba x.l.length bc) ?_
    refine VlS (.int .i64 (x.l.length : Int)) ?_
    refine VlS (.int .i64 (l2 - 1 - (x.l.length : Int))) ?_
    refine VlS (.int .i64 (l2 - 1 - (x.l.length : Int))) ?_
    refine WL.nil (hK29 _ _ ?_)
    refine rgn ?_
    refine VlS (.int .i64 (t : Int)) ?_
    refine VlS (.int .i64 ((t : Int) + 1)) ?_
    refine VlS (.int .i64 ((t : Int) + 1)) ?_
    refine WL.nil ?_
    refine ⟨⟨t + 1, l2 - 1 - (x.l.length : Int), rfl, rfl, by omega, ?_, ?_⟩, ?_⟩
    ·rw [opb_step Hx.out, JL.out]; omega
    ·have := JB.out; have := Hbx.out; omega
    ·simp only [intOf]; show os.length - ((t : Int) + 1).toNat < os.length - ((t : Int)).toNat; omega
   ·have HLE : Keep (l2 < 0) := ⟨by omega⟩
    have hl20 : l2 < 0 := by omega
    refine wp_seq_k fun K31 hK31 => ?_
    refine wp_seq_k fun K32 hK32 => rgn ?_
    refine VlS (.int .i64 (t : Int)) ?_
    refine VlS (.slice pa os.length pc) ?_
    refine VlS (.int .i64 (os.length : Int)) ?_
    refine VbT ?_
    refine VbT ?_
    refine VlS (.int .i64 l2) ?_
    refine VbF ?_
    refine VbF ?_
    refine WL.nil (hK32 _ _ ?_)
    refine wp_cond_false rfl ?_
    refine wp_exit ?_
    refine hK25 _ _ ?_
    refine wp_seq_k fun K33 hK33 => rgn ?_
    refine VlS (.int .i64 l2) ?_
    refine VbT ?_
    refine VbT ?_
    refine WL.nil (hK33 _ _ ?_)
    refine wp_ret ?_
    go_ret
    exact ⟨true, rfl, (fun h => by cases h), rfl⟩
  ·have hlt' : ¬ (t : Int) < (os.length : Int) := by omega
   have HTE : Keep (t = os.length) := ⟨by omega⟩
   refine wp_seq_k fun K34 hK34 => ?_
   refine wp_seq_k fun K35 hK35 => rgn ?_
   refine VlS (.int .i64 (t : Int)) ?_
   refine VlS (.slice pa os.length pc) ?_
   refine VlS (.int .i64 (os.length : Int)) ?_
   refine VbF ?_
   refine VbF ?_
   refine SkS ?_
   refine SkS ?_
   refine VbF ?_
   refine WL.nil (hK35 _ _ ?_)
   refine wp_cond_false rfl ?_
   refine wp_exit ?_
   refine hK25 _ _ ?_
   refine wp_seq_k fun K36 hK36 => rgn ?_
   refine VlS (.int .i64 l2) ?_
   by_cases h12_1 : l2 < 0
   ·skip
    refine VbT ?_
    refine VbT ?_
    refine WL.nil (hK36 _ _ ?_)
    refine wp_ret ?_
    go_ret
    exact ⟨true, rfl, (fun h => by cases h), rfl⟩
   ·skip
    refine VbF ?_
    refine VbF ?_
    refine WL.nil (hK36 _ _ ?_)
    refine wp_ret ?_
    go_ret
    refine ⟨false, rfl, fun _ => ?_, rfl⟩
    have h := JL.out
    rw [HTE.out, List.take_length] at h
    have h1 := F1.out
    have := opb_nonneg os
    omega
theorem owns_grown {w w' : World} {B T s n : Nat} {v : Value} {xs : List Value} {S : Nat → Prop} (h : w.ownsRow B T s v n xs) (hg : Grown w w' S) (hs : ∀ k, v.ownBlock = some k → ¬ S k) : w'.ownsRow B T s v n xs := by
 rcases h.2 with ⟨rfl, e⟩ | ⟨g, cap, cur, rfl, h1, h2, h3, h4, h5, h6⟩
 ·exact ⟨h.1, .inl ⟨rfl, e⟩⟩
 ·have hB : Blk w g T cur := h2
  exact ⟨h.1, .inr ⟨g, cap, cur, rfl, h1, hg.blk hB (hs g rfl), h3, h4, h5, h6⟩⟩
theorem owns_below {w w' : World} {B T s n : Nat} {v : Value} {xs : List Value} (h : w.ownsRow B T s v n xs) (hb : Below w.heap.size w w') : w'.ownsRow B T s v n xs := owns_grown h (Grown.below (S := fun _ => False) hb) fun _ _ e => e
theorem owns_lt {w : World} {B T s n : Nat} {v : Value} {xs : List Value} (h : w.ownsRow B T s v n xs) : ∀ k, v.ownBlock = some k → B ≤ k ∧ k < w.heap.size := fun k hk => World.ownsRow.lt h k hk
theorem owns_sl {w : World} {B T s n : Nat} {v : Value} {xs : List Value} (h : w.ownsRow B T s v n xs) : ∃ a c, v = .slice a n c := by
 rcases h.2 with ⟨rfl, e⟩ | ⟨g, cap, cur, rfl, _⟩
 ·exact ⟨none, 0, by rw [e]⟩
 ·exact ⟨_, _, rfl⟩
theorem owns_at {w : World} {B T n c : Nat} {a : Option Addr} {xs : List Value} (h : w.ownsRow B T 1 (.slice a n c) n xs) {i : Nat} (hi : i < n) {u : Value} (hu : xs[i]? = some u) : ∃ g, a = some ⟨g, 0, none⟩ ∧ w.cell? ⟨g, i, none⟩ = some u ∧ g < w.heap.size := by
 rcases h.2 with ⟨e, e2⟩ | ⟨g, cap, cur, e, h1, h2, h3, h4, h5, h6⟩
 ·omega
 ·injection e with e1 e2 e3
  have hB : Blk w g T cur := h2
  refine ⟨g, e1, ?_, hB.lt⟩
  rw [hB.cell, ← Array.getElem?_toList]
  rw [← h6, List.getElem?_take] at hu
  split at hu
  ·exact hu
  ·cases hu
theorem run_appQ (st et : TypeId) (hu : Tryz.prog.underlying st = some (.slice et)) (hinf : (Tryz.prog.info? et).map (fun i => (i.zero, i.size, i.bytes)) = some (some (.pointer none), 1, 8)) (w : World) (ty : TypeId) (B : Nat) (v : Value) (n : Nat) (xs : List Value) (hown : w.ownsRow B et 1 v n xs) (gx d : Nat) (hc : w.cell? ⟨gx, 0, none⟩ = some (ptr d)) (hb : n + 1 ≤ 17592186044416) (hB : B ≤ w.heap.size) :
  ∃ v' w', (Builtin.append_ #[st, st] ty #[v, .slice (some ⟨gx, 0, none⟩) 1 1]).run Tryz.prog w = .ok v' w' ∧ w'.ownsRow B et 1 v' (n + 1) (xs ++ [ptr d]) ∧ (Grown w w' fun k => v.ownBlock = some k) ∧ (v'.ownBlock = v.ownBlock ∨ v'.ownBlock = some w.heap.size) := by
 obtain ⟨i, hi, hzz⟩ := Option.map_eq_some_iff.1 hinf
 simp only [Prod.mk.injEq] at hzz
 obtain ⟨hz, hsz, hby⟩ := hzz
 obtain ⟨v', w', hr, h1, h2, _, h3⟩ := run_append_own_at (P := Tryz.prog) w B st ty et i (.pointer none) 1 8 hu hi hz hsz hby rfl (by omega) v n xs hown ⟨gx, 0, none⟩ 1 1 [ptr d] rfl (fun j u hu => by
  cases j with
  | zero => simp at hu; subst hu; exact hc
  | succ j => simp at hu) (fun u hu => by simp at hu; subst hu; rfl) (by unfold maxLen; omega) (by omega) hB
 exact ⟨v', w', hr, h1, Grown.of h2 fun k _ e => e, h3⟩
theorem owns_new (w : World) (T B : Nat) (hB : B ≤ w.heap.size) : (w.alloc (.cells #[] T)).ownsRow B T 1 (.slice (some ⟨w.heap.size, 0, none⟩) 0 0) 0 ([] : List Value) :=
 ⟨rfl, .inr ⟨w.heap.size, 0, #[], rfl, hB, Blk.new w T #[], Nat.le_refl _, by decide, rfl, rfl⟩⟩
theorem infoGp : (Tryz.prog.info? 26).map (fun i => (i.zero, i.size, i.bytes)) = some (some (.pointer none), 1, 8) := by kernel_rfl
theorem bsG0 (w : World) : (Instr.buildSlice 39 0 #[]).run Tryz.prog w = .ok (.slice (some ⟨w.heap.size, 0, none⟩) 0 0) (w.alloc (.cells #[] 26)) := by kernel_rfl
theorem bsG1 (d : Nat) (w : World) : (Instr.buildSlice 39 1 #[(0, .pointer (some ⟨d, 0, none⟩))]).run Tryz.prog w = .ok (.slice (some ⟨w.heap.size, 0, none⟩) 1 1) (w.alloc (.cells #[.pointer (some ⟨d, 0, none⟩)] 26)) := by kernel_rfl
def gz (x : Nat) : Array Value := #[.pointer none, .pointer none, ptr x, .slice none 0 0, .slice none 0 0, .int .i64 0, .bool false]
theorem g_built (x : Nat) : Tryz.prog.built 35 [(2, .pointer (some ⟨x, 0, none⟩))] = some (gz x) := by kernel_rfl
theorem GvAt.fresh {w : World} {c d h p x : Nat} {vf vr va : Value} {cs cr : List FC} {ms : List AC} {D E : DV} (hb : Blk w c 35 (kxG d h x (.slice none 0 0) (.slice none 0 0) 0)) (hd : Blk w d 67 #[ptr p]) (hh : Blk w h 73 #[ptr p]) (h1 : DskAt w p vf cs D) (h2 : RDAt w x vr va cr ms E) (hn : ∀ k, DskS p vf cs k → ¬ RdS x vr va cr k) : GvAt w ⟨c, d, h, p, x, vf, vr, va, cs, cr, ms, fun _ => False⟩ D E :=
 ⟨⟨_, _, 0, fun _ => undef, fun _ => undef, 0, hb, BkL.nil _ _ _ _, by omega, by omega, by omega⟩, hd, hh, h1, h2, hn, fun k hk => hk.elim⟩
structure MG (B : Nat) (w : World) (vo : Value) (Os : List (GV × DV)) (G : GV) (D : DV) (u a : Int) : Prop where
 cur : GvAt w G D D
 ok : DOk D u a
 lo : ∀ k, G.U k → B ≤ k
 old : ∀ P ∈ Os, GvAt w P.1 P.2 P.2 ∧ DOk P.2 1000000000000 100000000000 ∧ ∀ k, P.1.U k → ¬ G.U k
 own : w.ownsRow B 26 1 vo Os.length (Os.map fun P => ptr P.1.g)
 nvo : ∀ k, vo.ownBlock = some k → ¬ G.U k ∧ ∀ P ∈ Os, ¬ P.1.U k
theorem MG.grown {B : Nat} {w w' : World} {vo : Value} {Os : List (GV × DV)} {G : GV} {D : DV} {u a : Int} {S : Nat → Prop} (h : MG B w vo Os G D u a) (hg : Grown w w' S) (hs : ∀ k, k < w.heap.size → ¬ S k) : MG B w' vo Os G D u a :=
 ⟨h.cur.grown hg fun k hk => hs k (h.cur.uLt hk), h.ok, h.lo, fun P hP => ⟨(h.old P hP).1.grown hg fun k hk => hs k ((h.old P hP).1.uLt hk), (h.old P hP).2⟩, owns_grown h.own hg fun k hk => hs k (owns_lt h.own k hk).2, h.nvo⟩
theorem MG.below {B : Nat} {w w' : World} {vo : Value} {Os : List (GV × DV)} {G : GV} {D : DV} {u a : Int} (h : MG B w vo Os G D u a) (hb : Below w.heap.size w w') : MG B w' vo Os G D u a := h.grown (Grown.below (S := fun _ => False) hb) fun _ _ e => e
theorem MG.step {B : Nat} {w w' : World} {vo : Value} {Os : List (GV × DV)} {G G' : GV} {D D' : DV} {u a u' a' : Int} (h : MG B w vo Os G D u a) (hG : GvAt w' G' D' D') (hN : GvN w w' G G') (hO : DOk D' u' a') (hB : B ≤ w.heap.size) : MG B w' vo Os G' D' u' a' := by
 have hn : ∀ k, k < w.heap.size → G'.U k → G.U k := fun k hk e => hN.uLe e hk
 refine ⟨hG, hO, fun k hk => ?_, fun P hP => ⟨(h.old P hP).1.grown hN.2.1 fun k hk => (h.old P hP).2.2 k hk, (h.old P hP).2.1, fun k hk e => (h.old P hP).2.2 k hk (hn k ((h.old P hP).1.uLt hk) e)⟩, owns_grown h.own hN.2.1 fun k hk => (h.nvo k hk).1, fun k hk => ⟨fun e => (h.nvo k hk).1 (hn k (owns_lt h.own k hk).2 e), (h.nvo k hk).2⟩⟩
 rcases hN.2.2 k hk with e | e
 ·exact h.lo k e
 ·omega
theorem MG.copy {B : Nat} {w w2 w3 : World} {vo vo' : Value} {Os : List (GV × DV)} {G C : GV} {D : DV} {u a : Int} (h : MG B w vo Os G D u a) (hb : Below w.heap.size w w2) (hC : GvAt w2 C D D) (hf : ∀ k, C.U k → w.heap.size ≤ k) (ho : w3.ownsRow B 26 1 vo' (Os.length + 1) (Os.map (fun P => ptr P.1.g) ++ [ptr G.g])) (hg : Grown w2 w3 fun k => vo.ownBlock = some k) (hm : vo'.ownBlock = vo.ownBlock ∨ vo'.ownBlock = some w2.heap.size) (hB : B ≤ w.heap.size) (hu : u ≤ 1000000000000) (ha : a ≤ 100000000000) : MG B w3 vo' (Os ++ [(G, D)]) C D u a := by
 have hv : ∀ k, vo.ownBlock = some k → k < w.heap.size := fun k hk => (owns_lt h.own k hk).2
 have h2 := h.below hb
 refine ⟨hC.grown hg fun k hk e => by have := hf k hk; have := hv k e; omega, h.ok, fun k hk => Nat.le_trans hB (hf k hk), fun P hP => ?_, by simpa using ho, fun k hk => ?_⟩
 ·rcases List.mem_append.1 hP with hP | hP
  ·exact ⟨(h2.old P hP).1.grown hg fun k hk e => (h.nvo k e).2 P hP hk, (h.old P hP).2.1, fun k hk e => by have := (h.old P hP).1.uLt hk; have := hf k e; omega⟩
  ·simp at hP
   subst hP
   exact ⟨h2.cur.grown hg fun k hk e => (h.nvo k e).1 hk, h.ok.le hu ha, fun k hk e => by have := h.cur.uLt hk; have := hf k e; omega⟩
 ·have hs := hb.size
  rcases hm with e | e
  ·rw [e] at hk
   refine ⟨fun e => by have := hf k e; have := hv k hk; omega, fun P hP => ?_⟩
   rcases List.mem_append.1 hP with hP | hP
   ·exact (h.nvo k hk).2 P hP
   ·simp at hP; subst hP; exact (h.nvo k hk).1
  ·rw [e] at hk
   have e2 : w2.heap.size = k := Option.some.inj hk
   refine ⟨fun e => by have := hC.uLt e; omega, fun P hP => ?_⟩
   rcases List.mem_append.1 hP with hP | hP
   ·exact fun e => by have := (h2.old P hP).1.uLt e; omega
   ·simp at hP; subst hP; exact fun e => by have := h2.cur.uLt e; omega
theorem dv_used {D : DV} (h : D.used = usd D.fs) : ({ D with used := usd D.fs } : DV) = D := by
 rw [← h]
def XV (wL : World) (v : Value) (n : Nat) (wr : World) : Prop := (n = 0 ∧ wr = wL) ∨ ∃ k c, v = .slice (some ⟨k, 0, none⟩) n c ∧ XR wL k n wr
theorem XV.grown {wL wr : World} {v : Value} {n : Nat} (h : XV wL v n wr) : Grown wL wr fun j => v.ownBlock = some j := by
 rcases h with ⟨_, rfl⟩ | ⟨k, c, rfl, h⟩
 ·exact Grown.refl _ _
 ·exact h.2.mono fun j _ e => by rw [e]; rfl
theorem Own.xv {w : World} {v : Value} {l : List Int} (h : Own w v l) : XV w v l.length w := by
 rcases h.form with ⟨rfl, rfl⟩ | ⟨g, cap, cur, rfl, hb, h1, _, h3, h4⟩
 ·exact .inl ⟨rfl, rfl⟩
 ·refine .inr ⟨g, cap, rfl, ⟨cur, hb, fun i hi => ⟨l.getD i 0, ?_⟩⟩, Grown.refl _ _⟩
  have h5 : (cur.toList.take l.length)[i]? = (bv l)[i]? := by rw [h4]
  rw [List.getElem?_take, if_pos hi, bv_get _ _ hi] at h5
  rw [← Array.getElem?_toList]
  exact h5
structure WrT (B : Nat) (wF : World) (v : Value) (ct : List FC) (t : Nat) (wr : World) : Prop where
 own : OwnF wr v ct
 new : ∀ k, v.ownBlock = some k → B ≤ k
 rows : ∀ (j : Nat) (y : FC), t ≤ j → ct[j]? = some y → ∃ l, Own wr y.b l ∧ l.length ≤ 1000000000000 ∧ ∀ k, y.b.ownBlock = some k → B ≤ k
 gr : Grown wF wr fun k => B ≤ k
theorem WrT.below {B : Nat} {wF wr wr' : World} {v : Value} {ct : List FC} {t : Nat} (h : WrT B wF v ct t wr) (hb : Below wr.heap.size wr wr') : WrT B wF v ct t wr' :=
 ⟨h.own.below hb, h.new, fun j y hj hy => by
  obtain ⟨l, h1, h2, h3⟩ := h.rows j y hj hy
  exact ⟨l, h1.grown (Grown.below (S := fun _ => False) hb) fun _ _ e => e, h2, h3⟩, h.gr.trans (Grown.below hb)⟩
theorem WrT.next {B : Nat} {wF wr wr' : World} {v : Value} {ct : List FC} {t : Nat} {y : FC} (h : WrT B wF v ct t wr) (hy : ct[t]? = some y) (hg : Grown wr wr' fun j => y.b.ownBlock = some j) (ha : ∀ (i j : Nat) (x y : FC), ct[i]? = some x → ct[j]? = some y → i ≠ j → ∀ k, x.b.ownBlock = some k → y.b.ownBlock ≠ some k) : WrT B wF v ct (t + 1) wr' := by
 obtain ⟨l0, h1, _, h3⟩ := h.rows t y (Nat.le_refl _) hy
 refine ⟨h.own.grown hg fun k hk e => ?_, h.new, fun j x hj hx => ?_, h.gr.next hg fun i _ e => h3 i e⟩
 ·have := (h.own.typ hk).one (h1.typ e); revert this; decide
 ·obtain ⟨l, k1, k2, k3⟩ := h.rows j x (by omega) hx
  exact ⟨l, k1.grown hg fun k hk e => ha j t x y hx hy (by omega) k hk e, k2, k3⟩
theorem Tryz.in6 (w : World) (vs : Array Value) : (callFunc 6 vs).run Tryz.prog w = .ok (.enter 6 vs) w := by kernel_rfl
theorem rd_built : Tryz.prog.built 62 [(2, .int .i64 (-1))] = some (rdA (.slice none 0 0) (.slice none 0 0) (⟨[], 0, 0, -1, false, 0⟩ : DV)) := by kernel_rfl
theorem RDAt.roomy {w : World} {x : Nat} {vf va : Value} {cs : List FC} {ms : List AC} {D : DV} (h : RDAt w x vf va cs ms D) (r : Int) : RDAt (w.setCell ⟨x, 1, none⟩ (.int .i64 r)) x vf va cs ms { D with room := r } := h.put rfl rfl rfl
set_option maxRecDepth 8000 in
set_option maxHeartbeats 4000000 in
theorem rlay_any (r : Int) (v : Value) (ks : List PF) (w : World) (hX : FilesAt w v ks) (hL : ks.length ≤ 1000000000000) (hU : usd ks ≤ 1000000000000) (hN : ∀ f ∈ ks, f.nm.size ≤ 1000000000000000) :
  Calls Tryz.prog 6 #[.int .i64 r, v] w fun e w' => ∃ x vf cs, e = .returned (ptr x) ∧ RDAt w' x vf (.slice none 0 0) cs [] (layD r ks) ∧ w.heap.size ≤ x ∧ (∀ k, RdS x vf (.slice none 0 0) cs k → w.heap.size ≤ k) ∧ Below w.heap.size w w' := by
 obtain ⟨ka, kc, rfl⟩ := hX.form
 have HX := Keep.mk hX
 have HL := Keep.mk hL
 have HU := Keep.mk hU
 have HN := Keep.mk hN
 clear hX hL hU hN
 go_enter Tryz.func6, Tryz.ntmps6
 refine wp_seq_k fun K1 hK1 => rgn ?_
 refine VlS (.pointer none) ?_
 refine WL.nil (hK1 _ _ ?_)
 refine wp_seq_k fun K2 hK2 => rgn ?_
 refine WL.bld (by kernel_rfl) 62 _ rfl [(2, .int .i64 (-1))] (by simp [Act.eval]) _ rd_built ?_
 simp only [Act.put, pqA, pqB, pqC]
 refine WL.box (by kernel_rfl) 62 (.tmp 10) rfl (rdA (.slice none 0 0) (.slice none 0 0) (⟨[], 0, 0, -1, false, 0⟩ : DV)) rfl ?_
 have H1 := Keep.mk (Blk.new w 62 (rdA (.slice none 0 0) (.slice none 0 0) (⟨[], 0, 0, -1, false, 0⟩ : DV)))
 have B1 := Keep.mk (below_new w (.cells (rdA (.slice none 0 0) (.slice none 0 0) (⟨[], 0, 0, -1, false, 0⟩ : DV)) 62))
 change WL _ _ _ _ _ (w.alloc (.cells (rdA (.slice none 0 0) (.slice none 0 0) (⟨[], 0, 0, -1, false, 0⟩ : DV)) 62))
 generalize w.alloc (.cells (rdA (.slice none 0 0) (.slice none 0 0) (⟨[], 0, 0, -1, false, 0⟩ : DV)) 62) = w1 at *
 obtain ⟨x, hx⟩ : ∃ z, Keep (z = w.heap.size) := ⟨_, ⟨rfl⟩⟩
 rw [← hx.out] at H1 ⊢
 have L1 : Keep (w.heap.size ≤ x) := ⟨by rw [hx.out]; exact Nat.le_refl _⟩
 have D1 : Keep (RDAt w1 x (.slice none 0 0) (.slice none 0 0) [] [] (⟨[], 0, 0, -1, false, 0⟩ : DV)) := ⟨⟨H1.out, ownF_nil _, RcsAt.nil _, ownAc_nil _, rfl, fun a h => by simp at h⟩⟩
 clear H1 hx
 simp only [Act.put, pqA, pqB, pqC]
 refine VlS (.pointer (some ⟨x, 0, none⟩)) ?_
 refine WL.nil (hK2 _ _ ?_)
 refine wp_seq_k fun K3 hK3 => ?_
 refine wp_seq_k fun K4 hK4 => rgn ?_
 refine VlS (.int .i64 0) ?_
 refine WL.nil (hK4 _ _ ?_)
 refine wp_block ?_
 have S0 : ∀ k, RdS x (.slice none 0 0) (.slice none 0 0) [] k → w.heap.size ≤ k := fun k h => by
  rcases h with (h | h | h) | ⟨_, _, h, _⟩
  ·rw [h]; exact L1.out
  ·simp [Value.ownBlock] at h
  ·simp [Value.ownBlock] at h
  ·simp at h
 refine wp_loop (fun ac wr => ∃ (t : Nat) (vf : Value) (cs : List FC) (Dt : DV), ac = apF (fun fz => { tmps := #[.int .i64 r, .slice ka ks.length kc, undef, undef, .pointer none, .pointer (some ⟨x, 0, none⟩), .int .i64 (t : Int), fz 7, fz 8, fz 9, .agg (rdA (.slice none 0 0) (.slice none 0 0) (⟨[], 0, 0, -1, false, 0⟩ : DV)), .pointer (some ⟨x, 0, none⟩), fz 12, fz 13, fz 14, fz 15, fz 16, fz 17, fz 18, fz 19, fz 20, fz 21, fz 22, fz 23, fz 24, fz 25, fz 26, fz 27, fz 28, fz 29, fz 30, fz 31, fz 32, fz 33, fz 34, fz 35, fz 36, fz 37, fz 38, fz 39, fz 40, fz 41, fz 42, fz 43, fz 44, fz 45, fz 46, fz 47, fz 48, fz 49, fz 50, fz 51, fz 52, fz 53, fz 54, fz 55, fz 56, fz 57, fz 58, fz 59, fz 60, fz 61, fz 62, fz 63, fz 64, fz 65, fz 66, fz 67, fz 68, fz 69, fz 70, fz 71, fz 72, fz 73, fz 74, undef, undef, undef, undef, undef, undef, undef, undef, undef, undef, undef, undef, undef, undef, undef, undef, undef], defers := [] }) ac ∧ t ≤ ks.length ∧ Dt = (⟨layT (ks.take t), 0, 0, -1, false, 0⟩ : DV) ∧ RDAt wr x vf (.slice none 0 0) cs [] Dt ∧ (∀ k, RdS x vf (.slice none 0 0) cs k → w.heap.size ≤ k) ∧ Below w.heap.size w wr) (fun a _ => ks.length - (intOf (a.tmps.getD 6 undef)).toNat) ⟨0, (.slice none 0 0), [], _, rfl, Nat.zero_le _, rfl, D1.out, S0, B1.out⟩ ?_
 clear S0 D1 B1
 rintro ac wr ⟨t, vf, cs, Dt, hac, ht, hJ1, hJ2, hJ3, hJ4⟩
 obtain ⟨fz, rfl⟩ := unF hac
 obtain ⟨vfa, vfc, rfl⟩ := hJ2.own.sl
 have JE := Keep.mk hJ1
 have JD := Keep.mk hJ2
 have JS := Keep.mk hJ3
 have JB := Keep.mk hJ4
 clear hJ1 hJ2 hJ3 hJ4
 by_cases hlt : t < ks.length
 ·have hlt' : (t : Int) < (ks.length : Int) := by omega
  have hwt : IntKind.i64.wrap ((t : Int) + 1) = (t : Int) + 1 := by rw [IntKind.wrap_i64]; have := HL.out; omega
  obtain ⟨f, hx⟩ : ∃ x, ks[t]? = some x := ⟨ks[t], List.getElem?_eq_getElem hlt⟩
  obtain ⟨q, ko, y, hq, hrg0, hy1, hy2, hy3⟩ := HX.out.at hx
  subst hq
  have hrg : wr.rangeAt q (ko + t * 3) (fA y).toList := fun j u hu => by rw [JB.out.cell (p := ⟨q, ko + t * 3 + j, none⟩) (cell_lt (hrg0 j u hu))]; exact hrg0 j u hu
  clear hrg0
  obtain ⟨xn, xb, xs⟩ := y
  obtain ⟨xa, xc, hxb⟩ := row_form hy3
  change xb = _ at hxb
  subst hxb
  have HKx := Keep.mk hx
  have HRg := Keep.mk hrg
  have HXn : Keep (xn = f.nm) := ⟨hy1⟩
  have HXs : Keep (xs = f.sf) := ⟨hy2⟩
  have HXr := Keep.mk hy3
  have LOk : Keep (LayOk Dt.fs) := ⟨by rw [JE.out]; exact layT_ok ks t⟩
  have HUx : Keep ((f.bs.length : Int) ≤ 1000000000000) := ⟨by have h5 := usd_at hx; have := HU.out; omega⟩
  have HNm : Keep (xn.size ≤ 1000000000000000) := ⟨by rw [HXn.out]; exact HN.out f (List.mem_of_getElem? hx)⟩
  clear hx hrg hy1 hy2 hy3
  refine wp_seq_k fun K5 hK5 => ?_
  refine wp_seq_k fun K6 hK6 => rgn ?_
  refine VlS (.int .i64 (t : Int)) ?_
  refine VlS (.slice (some ⟨q, ko, none⟩) ks.length kc) ?_
  refine VlS (.int .i64 (ks.length : Int)) ?_
  refine VbT ?_
  refine WL.nil (hK6 _ _ ?_)
  refine wp_cond_true rfl ?_
  refine wp_skip ?_
  refine hK5 _ _ ?_
  refine wp_seq_k fun K7 hK7 => ?_
  refine wp_block ?_
  refine wp_seq_k fun K8 hK8 => rgn ?_
  refine VlS (.slice (some ⟨q, ko, none⟩) ks.length kc) ?_
  refine VlS (.int .i64 (t : Int)) ?_
  refine VlS (.pointer (some ⟨q, ko + t * 3, none⟩)) ?_
  refine WL.mid (by kernel_rfl) 49 (.tmp 20) rfl q (ko + t * 3) rfl (fA (⟨xn, .slice xa f.bs.length xc, xs⟩ : FC)).toList _ HRg.out Tryz.underlying49 rfl (Tryz.sizeFL (⟨xn, .slice xa f.bs.length xc, xs⟩ : FC)) ?_
  rw [fA_back]
  simp only [Act.put, pqA, pqB, pqC]
  refine WL.new (by kernel_rfl) 49 rfl _ Tryz.newF ?_
  have HNw := Keep.mk (Blk.new wr 49 (fA zeroF))
  have BN := Keep.mk (below_new wr (.cells (fA zeroF) 49))
  generalize wr.alloc (.cells (fA zeroF) 49) = wa at *
  obtain ⟨y, hy⟩ : ∃ z, Keep (z = wr.heap.size) := ⟨_, ⟨rfl⟩⟩
  rw [← hy.out] at HNw ⊢
  have L2 : Keep (wr.heap.size ≤ y) := ⟨by rw [hy.out]; exact Nat.le_refl _⟩
  simp only [Act.put, pqA, pqB, pqC]
  refine WL.storeR (by kernel_rfl) 49 (.tmp 7) (.tmp 21) rfl y (fA (⟨xn, .slice xa f.bs.length xc, xs⟩ : FC)) rfl rfl 49 (fA zeroF) HNw.out (Tryz.sizeFB (⟨xn, .slice xa f.bs.length xc, xs⟩ : FC)) rfl (SlF.one ⟨_, _, _, rfl⟩) ?_
  have H2 := Keep.mk (HNw.out.setRow (fA (⟨xn, .slice xa f.bs.length xc, xs⟩ : FC)))
  have B2 := Keep.mk (below_setRow BN.out (b := y) L2.out (fA (⟨xn, .slice xa f.bs.length xc, xs⟩ : FC)))
  clear HNw BN hy HRg
  generalize wa.setRow y (fA (⟨xn, .slice xa f.bs.length xc, xs⟩ : FC)) = w2 at *
  have KD := Keep.mk (JD.out.below B2.out)
  have y0 := H2.out.c 0 (by rfl : (fA (⟨xn, .slice xa f.bs.length xc, xs⟩ : FC))[0]? = some (.string xn))
  have p0 := KD.out.blk.c 0 (by rfl : (rdA (.slice vfa cs.length vfc) (.slice none 0 0) Dt)[0]? = some (.slice vfa cs.length vfc))
  simp only [Act.put]
  refine WL.nil (hK8 _ _ ?_)
  refine wp_seq_k fun K9 hK9 => ?_
  refine wp_seq_k fun K10 hK10 => ?_
  obtain ⟨rg, hrg⟩ : ∃ z, Keep (z = rgt xn) := ⟨_, ⟨rfl⟩⟩
  obtain ⟨i, is, hF⟩ : ∃ i b, Keep (fnd xn Dt.fs 0 = (i, b)) := ⟨_, _, ⟨rfl⟩⟩
  cases rg
  ·skip
   refine rgn ?_
   refine VlS (.pointer (some ⟨y, 0, none⟩)) ?_
   refine VlS (.string xn) ?_
   refine WL.callF (by kernel_rfl) 21 _ _ rfl Tryz.in21 #[.string xn] (by simp [Act.eval]) ?_
   refine (named_any xn w2 HNm.out).mono ?_
   rintro e w3 ⟨rfl, hw_⟩
   refine ⟨_, rfl, ?_⟩
   have hw_ := hw_.symm
   subst hw_
   rw [← hrg.out]
   simp only [Act.put, pqA, pqB, pqC]
   refine VbT ?_
   refine VbT ?_
   refine SkS ?_
   refine SkS ?_
   refine SkS ?_
   refine SkS ?_
   refine SkS ?_
   refine VbT ?_
   refine VbT ?_
   refine SkS ?_
   refine SkS ?_
   refine SkS ?_
   refine SkS ?_
   refine SkS ?_
   refine SkS ?_
   refine VbT ?_
   refine WL.nil (hK10 _ _ ?_)
   refine wp_cond_true rfl ?_
   refine wp_exit ?_
   refine hK7 _ _ ?_
   refine rgn ?_
   refine VlS (.int .i64 (t : Int)) ?_
   refine VlS (.int .i64 ((t : Int) + 1)) ?_
   refine VlS (.int .i64 ((t : Int) + 1)) ?_
   refine WL.nil ?_
   refine ⟨⟨t + 1, _, cs, Dt, rfl, by omega, ?_, KD.out, JS.out, JB.out.trans (B2.out.mono JB.out.size)⟩, ?_⟩
   ·have h1 : layStep (layT (ks.take t)) f = layT (ks.take t) := by
     have e : Dt.fs = layT (ks.take t) := by rw [JE.out]
     have h := hF.out
     rw [HXn.out, e] at h
     unfold layStep
     rw [h, if_pos]
     exact .inr (.inl (by rw [← HXn.out]; exact hrg.out.symm))
    rw [layT_snoc HKx.out, h1]
    exact JE.out
   ·simp only [intOf]; show ks.length - ((t : Int) + 1).toNat < ks.length - ((t : Int)).toNat; omega
  ·cases is
   ·have hfd : Keep (fdI xn Dt.fs = -1) := ⟨by unfold fdI; rw [hF.out]; simp⟩
    by_cases h256 : (256 : Int) ≤ (cs.length : Int)
    ·skip
     refine rgn ?_
     refine VlS (.pointer (some ⟨y, 0, none⟩)) ?_
     refine VlS (.string xn) ?_
     refine WL.callF (by kernel_rfl) 21 _ _ rfl Tryz.in21 #[.string xn] (by simp [Act.eval]) ?_
     refine (named_any xn w2 HNm.out).mono ?_
     rintro e w3 ⟨rfl, hw_⟩
     refine ⟨_, rfl, ?_⟩
     have hw_ := hw_.symm
     subst hw_
     rw [← hrg.out]
     simp only [Act.put, pqA, pqB, pqC]
     refine VbF ?_
     refine VbF ?_
     refine VlS (.pointer (some ⟨x, 0, none⟩)) ?_
     refine VlS (.pointer (some ⟨y, 0, none⟩)) ?_
     refine VlS (.string xn) ?_
     refine WL.callF (by kernel_rfl) 22 _ _ rfl Tryz.in22 #[ptr x, .string xn] (by simp [Act.eval]) ?_
     refine (rfind_any x xn (.slice vfa cs.length vfc) (.slice none 0 0) cs [] Dt w2 KD.out LOk.out.srt (by rw [KD.out.rcs.len]; have := LOk.out.len; omega)).mono ?_
     rintro e w3 ⟨rfl, hw_⟩
     refine ⟨_, rfl, ?_⟩
     have hw_ := hw_.symm
     subst hw_
     rw [hfd.out]
     simp only [Act.put, pqA, pqB, pqC]
     refine VbF ?_
     refine VbF ?_
     refine VbF ?_
     refine VlS (.pointer (some ⟨x, 0, none⟩)) ?_
     refine VlS (.pointer (some ⟨x, 0, none⟩)) ?_
     refine VlS (.pointer (some ⟨x, 0, none⟩)) ?_
     refine VlS (.slice vfa cs.length vfc) ?_
     refine VlS (.int .i64 (cs.length : Int)) ?_
     refine VbT ?_
     refine VbT ?_
     refine WL.nil (hK10 _ _ ?_)
     refine wp_cond_true rfl ?_
     refine wp_exit ?_
     refine hK7 _ _ ?_
     refine rgn ?_
     refine VlS (.int .i64 (t : Int)) ?_
     refine VlS (.int .i64 ((t : Int) + 1)) ?_
     refine VlS (.int .i64 ((t : Int) + 1)) ?_
     refine WL.nil ?_
     refine ⟨⟨t + 1, _, cs, Dt, rfl, by omega, ?_, KD.out, JS.out, JB.out.trans (B2.out.mono JB.out.size)⟩, ?_⟩
     ·have h1 : layStep (layT (ks.take t)) f = layT (ks.take t) := by
       have e : Dt.fs = layT (ks.take t) := by rw [JE.out]
       have h := hF.out
       rw [HXn.out, e] at h
       unfold layStep
       rw [h, if_pos]
       exact .inr (.inr (by have h3 := KD.out.rcs.len; rw [e] at h3; omega))
      rw [layT_snoc HKx.out, h1]
      exact JE.out
     ·simp only [intOf]; show ks.length - ((t : Int) + 1).toNat < ks.length - ((t : Int)).toNat; omega
    ·skip
     refine rgn ?_
     refine VlS (.pointer (some ⟨y, 0, none⟩)) ?_
     refine VlS (.string xn) ?_
     refine WL.callF (by kernel_rfl) 21 _ _ rfl Tryz.in21 #[.string xn] (by simp [Act.eval]) ?_
     refine (named_any xn w2 HNm.out).mono ?_
     rintro e w3 ⟨rfl, hw_⟩
     refine ⟨_, rfl, ?_⟩
     have hw_ := hw_.symm
     subst hw_
     rw [← hrg.out]
     simp only [Act.put, pqA, pqB, pqC]
     refine VbF ?_
     refine VbF ?_
     refine VlS (.pointer (some ⟨x, 0, none⟩)) ?_
     refine VlS (.pointer (some ⟨y, 0, none⟩)) ?_
     refine VlS (.string xn) ?_
     refine WL.callF (by kernel_rfl) 22 _ _ rfl Tryz.in22 #[ptr x, .string xn] (by simp [Act.eval]) ?_
     refine (rfind_any x xn (.slice vfa cs.length vfc) (.slice none 0 0) cs [] Dt w2 KD.out LOk.out.srt (by rw [KD.out.rcs.len]; have := LOk.out.len; omega)).mono ?_
     rintro e w3 ⟨rfl, hw_⟩
     refine ⟨_, rfl, ?_⟩
     have hw_ := hw_.symm
     subst hw_
     rw [hfd.out]
     simp only [Act.put, pqA, pqB, pqC]
     refine VbF ?_
     refine VbF ?_
     refine VbF ?_
     refine VlS (.pointer (some ⟨x, 0, none⟩)) ?_
     refine VlS (.pointer (some ⟨x, 0, none⟩)) ?_
     refine VlS (.pointer (some ⟨x, 0, none⟩)) ?_
     refine VlS (.slice vfa cs.length vfc) ?_
     refine VlS (.int .i64 (cs.length : Int)) ?_
     refine VbF ?_
     refine VbF ?_
     refine WL.nil (hK10 _ _ ?_)
     refine wp_cond_false rfl ?_
     refine wp_skip ?_
     refine hK9 _ _ ?_
     refine wp_seq_k fun K11 hK11 => ?_
     refine wp_seq_k fun K12 hK12 => ?_
     have rest7 : ∀ (y41 y42 y43 y44 : Value) (s1 : Int) (wX : World), s1 = max 0 xs → Below wr.heap.size wr wX → Blk wX y 49 (fA (⟨xn, .slice xa f.bs.length xc, s1⟩ : FC)) → K11 { tmps := #[.int .i64 r, .slice (some ⟨q, ko, none⟩) ks.length kc, undef, undef, .pointer none, .pointer (some ⟨x, 0, none⟩), .int .i64 (t : Int), .pointer (some ⟨y, 0, none⟩), fz 8, fz 9, .agg (rdA (.slice none 0 0) (.slice none 0 0) (⟨[], 0, 0, -1, false, 0⟩ : DV)), .pointer (some ⟨x, 0, none⟩), .int .i64 (t : Int), .slice (some ⟨q, ko, none⟩) ks.length kc, .int .i64 (ks.length : Int), .bool true, fz 16, fz 17, .slice (some ⟨q, ko, none⟩) ks.length kc, .int .i64 (t : Int), .pointer (some ⟨q, ko + t * 3, none⟩), .agg (fA (⟨xn, .slice xa f.bs.length xc, xs⟩ : FC)), .pointer (some ⟨y, 0, none⟩), .string xn, .bool true, .bool false, .bool false, .pointer (some ⟨x, 0, none⟩), .pointer (some ⟨y, 0, none⟩), .string xn, .int .i64 (-1), .bool false, .bool false, .bool false, .pointer (some ⟨x, 0, none⟩), .pointer (some ⟨x, 0, none⟩), .pointer (some ⟨x, 0, none⟩), .slice vfa cs.length vfc, .int .i64 (cs.length : Int), .bool false, .bool false, y41, y42, y43, y44, fz 45, fz 46, fz 47, fz 48, fz 49, fz 50, fz 51, fz 52, fz 53, fz 54, fz 55, fz 56, fz 57, fz 58, fz 59, fz 60, fz 61, fz 62, fz 63, fz 64, fz 65, fz 66, fz 67, fz 68, fz 69, fz 70, fz 71, fz 72, fz 73, fz 74, undef, undef, undef, undef, undef, undef, undef, undef, undef, undef, undef, undef, undef, undef, undef, undef, undef], defers := [] } wX := by
      intro y41 y42 y43 y44 s1 wX hsn hbn hyn
      have Es1 := Keep.mk hsn
      have Bs1 := Keep.mk hbn
      have Hs1 := Keep.mk hyn
      clear hsn hbn hyn y0 p0
      have z1 := Hs1.out.c 1 (by rfl : (fA (⟨xn, .slice xa f.bs.length xc, s1⟩ : FC))[1]? = some (.slice xa f.bs.length xc))
      have z2 := Hs1.out.c 2 (by rfl : (fA (⟨xn, .slice xa f.bs.length xc, s1⟩ : FC))[2]? = some (.int .i64 s1))
      refine hK11 _ _ ?_
      refine wp_seq_k fun K13 hK13 => ?_
      refine wp_seq_k fun K14 hK14 => ?_
      have rest9 : ∀ (y45 y46 y47 y48 y49 y50 y51 y52 y53 y54 : Value) (s2 : Int) (wY : World), s2 = min s1 (f.bs.length : Int) → Below wr.heap.size wr wY → Blk wY y 49 (fA (⟨xn, .slice xa f.bs.length xc, s2⟩ : FC)) → K13 { tmps := #[.int .i64 r, .slice (some ⟨q, ko, none⟩) ks.length kc, undef, undef, .pointer none, .pointer (some ⟨x, 0, none⟩), .int .i64 (t : Int), .pointer (some ⟨y, 0, none⟩), fz 8, fz 9, .agg (rdA (.slice none 0 0) (.slice none 0 0) (⟨[], 0, 0, -1, false, 0⟩ : DV)), .pointer (some ⟨x, 0, none⟩), .int .i64 (t : Int), .slice (some ⟨q, ko, none⟩) ks.length kc, .int .i64 (ks.length : Int), .bool true, fz 16, fz 17, .slice (some ⟨q, ko, none⟩) ks.length kc, .int .i64 (t : Int), .pointer (some ⟨q, ko + t * 3, none⟩), .agg (fA (⟨xn, .slice xa f.bs.length xc, xs⟩ : FC)), .pointer (some ⟨y, 0, none⟩), .string xn, .bool true, .bool false, .bool false, .pointer (some ⟨x, 0, none⟩), .pointer (some ⟨y, 0, none⟩), .string xn, .int .i64 (-1), .bool false, .bool false, .bool false, .pointer (some ⟨x, 0, none⟩), .pointer (some ⟨x, 0, none⟩), .pointer (some ⟨x, 0, none⟩), .slice vfa cs.length vfc, .int .i64 (cs.length : Int), .bool false, .bool false, y41, y42, y43, y44, y45, y46, y47, y48, y49, y50, y51, y52, y53, y54, fz 55, fz 56, fz 57, fz 58, fz 59, fz 60, fz 61, fz 62, fz 63, fz 64, fz 65, fz 66, fz 67, fz 68, fz 69, fz 70, fz 71, fz 72, fz 73, fz 74, undef, undef, undef, undef, undef, undef, undef, undef, undef, undef, undef, undef, undef, undef, undef, undef, undef], defers := [] } wY := by
       intro y45 y46 y47 y48 y49 y50 y51 y52 y53 y54 s2 wY hsn hbn hyn
       have Es2 := Keep.mk hsn
       have Bs2 := Keep.mk hbn
       have Hs2 := Keep.mk hyn
       clear hsn hbn hyn z1 z2
       have z1 := Hs2.out.c 1 (by rfl : (fA (⟨xn, .slice xa f.bs.length xc, s2⟩ : FC))[1]? = some (.slice xa f.bs.length xc))
       have z2 := Hs2.out.c 2 (by rfl : (fA (⟨xn, .slice xa f.bs.length xc, s2⟩ : FC))[2]? = some (.int .i64 s2))
       refine hK13 _ _ ?_
       refine wp_seq_k fun K15 hK15 => rgn ?_
       refine WL.bs (by kernel_rfl) 40 0 _ rfl #[] (by simp) _ _ (bsBE wY) ?_
       have HE := Keep.mk (own_empty _ _ (Blk.new wY 5 #[]))
       have B4 := Keep.mk (Bs2.out.trans ((below_new wY (.cells #[] 5)).mono Bs2.out.size))
       have H4 := Keep.mk (Hs2.out.below (below_new wY (.cells #[] 5)) Hs2.out.lt)
       clear z1 z2
       generalize wY.alloc (.cells #[] 5) = w4 at *
       obtain ⟨ge, hge⟩ : ∃ g, Keep (g = wY.heap.size) := ⟨_, ⟨rfl⟩⟩
       rw [← hge.out] at HE ⊢
       have LE : Keep (wr.heap.size ≤ ge) := ⟨by rw [hge.out]; exact Bs2.out.size⟩
       have y0 := H4.out.c 0 (by rfl : (fA (⟨xn, .slice xa f.bs.length xc, s2⟩ : FC))[0]? = some (.string xn))
       simp only [Act.put, pqA, pqB, pqC]
       refine VlS (.slice (some ⟨ge, 0, none⟩) 0 0) ?_
       refine WL.nil (hK15 _ _ ?_)
       refine wp_seq_k fun K16 hK16 => rgn ?_
       refine VlS (.pointer (some ⟨x, 0, none⟩)) ?_
       refine VlS (.pointer (some ⟨y, 0, none⟩)) ?_
       refine VlS (.string xn) ?_
       refine WL.callF (by kernel_rfl) 23 _ _ rfl Tryz.in23 #[ptr x, .string xn] (by simp [Act.eval]) ?_
       refine (make_any x i xn (.slice vfa cs.length vfc) (.slice none 0 0) cs [] Dt w4 (JD.out.below B4.out) LOk.out.srt hF.out (by rw [KD.out.rcs.len]; have := LOk.out.len; omega)).mono ?_
       rintro e w5 ⟨rfl, vf5, hd5, hg5, hn5⟩
       refine ⟨_, rfl, ?_⟩
       have D5 := Keep.mk hd5
       have hyx : Keep (y ≠ x) := ⟨fun e => by have h := H2.out.typ; rw [e] at h; have := KD.out.blk.typ.one h; revert this; decide⟩
       have hgx : Keep (ge ≠ x) := ⟨fun e => by have := JD.out.blk.lt; have := LE.out; omega⟩
       have H5 := Keep.mk (hg5.blk H4.out hyx.out)
       have HE5 : Keep (Own w5 (.slice (some ⟨ge, 0, none⟩) 0 0) []) := ⟨HE.out.grown hg5 fun k hk e => hgx.out ((Option.some.inj hk).trans e)⟩
       have B5 : Keep (Below w.heap.size w w5) := ⟨(JB.out.trans (B4.out.mono JB.out.size)).trans (hg5.to_below (fun k hk e => by have := L1.out; omega) (Nat.le_trans JB.out.size B4.out.size))⟩
       have N5 : Keep (NewF wr.heap.size vf5) := ⟨fun k hk => Nat.le_trans B4.out.size (hn5 k hk)⟩
       have Ng : Keep (y < w4.heap.size ∧ ∀ k, vf5.ownBlock = some k → w4.heap.size ≤ k) := ⟨H4.out.lt, hn5⟩
       have SZ5 : Keep (wr.heap.size ≤ w5.heap.size) := ⟨Nat.le_trans B4.out.size hg5.size⟩
       have hil : Keep (i ≤ cs.length) := ⟨by have h := fnd_le xn Dt.fs 0; rw [hF.out] at h; have := KD.out.rcs.len; simp at h; omega⟩
       clear hd5 hg5 hn5 y0 HE H4
       obtain ⟨csi, hcsi⟩ : ∃ z, Keep (z = (cs.take i ++ [(⟨xn, .slice none 0 0, 0⟩ : FC)] ++ cs.drop i)) := ⟨_, ⟨rfl⟩⟩
       rw [← hcsi.out] at D5
       have Hil : Keep (i < csi.length) := ⟨by rw [hcsi.out]; simp; have := hil.out; omega⟩
       have Hc : Keep (csi[i]? = some (⟨xn, .slice none 0 0, 0⟩ : FC)) := ⟨by rw [hcsi.out, ins_get _ _ _ _ hil.out, if_neg (Nat.lt_irrefl i), if_pos rfl]⟩
       obtain ⟨b5, k5, e5⟩ := D5.out.own.sl
       subst e5
       obtain ⟨g, hvg, _⟩ := D5.out.own.at Hc.out
       subst hvg
       simp only [Act.put, pqA, pqB, pqC]
       refine VlS (.int .i64 (i : Int)) ?_
       refine WL.nil (hK16 _ _ ?_)
       have D6 := Keep.mk D5.out.drew
       have H6 : Keep (Blk w5.drew y 49 (fA (⟨xn, .slice xa f.bs.length xc, s2⟩ : FC))) := ⟨H5.out⟩
       have HE6 : Keep (Own w5.drew (.slice (some ⟨ge, 0, none⟩) 0 0) []) := ⟨HE5.out.grown (Grown.refl w5 (fun _ => False)).drew fun _ _ h => h⟩
       have B6 : Keep (Below w.heap.size w w5.drew) := ⟨B5.out.drew⟩
       have SZ6 : Keep (wr.heap.size ≤ w5.drew.heap.size) := ⟨SZ5.out⟩
       have R6 : Keep (RowAt w5.drew (.slice xa f.bs.length xc) f.bs) := ⟨HXr.out.below B6.out⟩
       clear D5 H5 HE5 B5 SZ5
       have hilc : (i : Int) < (csi.length : Int) := by have := Hil.out; omega
       refine wp_region_held_drew (S := fun wx => wx.cell? ⟨x, 0, none⟩ = some (.slice (some ⟨g, 0, none⟩) csi.length k5) ∧ Blk wx y 49 (fA (⟨xn, .slice xa f.bs.length xc, s2⟩ : FC))) (by kernel_rfl) ⟨D6.out.blk.c 0 rfl, H6.out⟩ (fun hHeld => ?_)
       generalize w5.drew = w6 at *
       refine tkS (i := 0) (oi := ⟨some 60, Op.move (Operand.tmp 5), 27, _, _, none⟩) (v := .pointer (some ⟨x, 0, none⟩)) rfl (Or.inl ⟨by rfl, fun w hS => by obtain ⟨hS1, hS2⟩ := hS; have s0 := hS2.c 0 (by rfl : (fA (⟨xn, .slice xa f.bs.length xc, s2⟩ : FC))[0]? = some (.string xn)); have s1_ := hS2.c 1 (by rfl : (fA (⟨xn, .slice xa f.bs.length xc, s2⟩ : FC))[1]? = some (.slice xa f.bs.length xc)); have s2_ := hS2.c 2 (by rfl : (fA (⟨xn, .slice xa f.bs.length xc, s2⟩ : FC))[2]? = some (.int .i64 s2)); go_simp⟩) hHeld ?_
       refine tkS (i := 1) (oi := ⟨some 61, Op.nilCheck (Operand.tmp 60), 0, _, _, none⟩) (v := .pointer (some ⟨x, 0, none⟩)) rfl (Or.inl ⟨by rfl, fun w hS => by obtain ⟨hS1, hS2⟩ := hS; have s0 := hS2.c 0 (by rfl : (fA (⟨xn, .slice xa f.bs.length xc, s2⟩ : FC))[0]? = some (.string xn)); have s1_ := hS2.c 1 (by rfl : (fA (⟨xn, .slice xa f.bs.length xc, s2⟩ : FC))[1]? = some (.slice xa f.bs.length xc)); have s2_ := hS2.c 2 (by rfl : (fA (⟨xn, .slice xa f.bs.length xc, s2⟩ : FC))[2]? = some (.int .i64 s2)); go_simp⟩) hHeld ?_
       refine tkS (i := 2) (oi := ⟨some 62, Op.fieldAddr 62 (Operand.tmp 61) 0, 0, _, _, none⟩) (v := .pointer (some ⟨x, 0, none⟩)) rfl (Or.inl ⟨by rfl, fun w hS => by obtain ⟨hS1, hS2⟩ := hS; have s0 := hS2.c 0 (by rfl : (fA (⟨xn, .slice xa f.bs.length xc, s2⟩ : FC))[0]? = some (.string xn)); have s1_ := hS2.c 1 (by rfl : (fA (⟨xn, .slice xa f.bs.length xc, s2⟩ : FC))[1]? = some (.slice xa f.bs.length xc)); have s2_ := hS2.c 2 (by rfl : (fA (⟨xn, .slice xa f.bs.length xc, s2⟩ : FC))[2]? = some (.int .i64 s2)); go_simp⟩) hHeld ?_
       refine tkS (i := 3) (oi := ⟨some 63, Op.load 22 (Operand.tmp 62), 22, _, _, none⟩) (v := .slice (some ⟨g, 0, none⟩) csi.length k5) rfl (Or.inl ⟨by rfl, fun w hS => by obtain ⟨hS1, hS2⟩ := hS; have s0 := hS2.c 0 (by rfl : (fA (⟨xn, .slice xa f.bs.length xc, s2⟩ : FC))[0]? = some (.string xn)); have s1_ := hS2.c 1 (by rfl : (fA (⟨xn, .slice xa f.bs.length xc, s2⟩ : FC))[1]? = some (.slice xa f.bs.length xc)); have s2_ := hS2.c 2 (by rfl : (fA (⟨xn, .slice xa f.bs.length xc, s2⟩ : FC))[2]? = some (.int .i64 s2)); go_simp⟩) hHeld ?_
       refine tkS (i := 4) (oi := ⟨some 64, Op.move (Operand.tmp 9), 3, _, _, none⟩) (v := .int .i64 (i : Int)) rfl (Or.inl ⟨by rfl, fun w hS => by obtain ⟨hS1, hS2⟩ := hS; have s0 := hS2.c 0 (by rfl : (fA (⟨xn, .slice xa f.bs.length xc, s2⟩ : FC))[0]? = some (.string xn)); have s1_ := hS2.c 1 (by rfl : (fA (⟨xn, .slice xa f.bs.length xc, s2⟩ : FC))[1]? = some (.slice xa f.bs.length xc)); have s2_ := hS2.c 2 (by rfl : (fA (⟨xn, .slice xa f.bs.length xc, s2⟩ : FC))[2]? = some (.int .i64 s2)); go_simp⟩) hHeld ?_
       refine tkS (i := 5) (oi := ⟨some 65, Op.fieldAddr 49 (Operand.tmp 7) 0, 0, _, _, none⟩) (v := .pointer (some ⟨y, 0, none⟩)) rfl (Or.inl ⟨by rfl, fun w hS => by obtain ⟨hS1, hS2⟩ := hS; have s0 := hS2.c 0 (by rfl : (fA (⟨xn, .slice xa f.bs.length xc, s2⟩ : FC))[0]? = some (.string xn)); have s1_ := hS2.c 1 (by rfl : (fA (⟨xn, .slice xa f.bs.length xc, s2⟩ : FC))[1]? = some (.slice xa f.bs.length xc)); have s2_ := hS2.c 2 (by rfl : (fA (⟨xn, .slice xa f.bs.length xc, s2⟩ : FC))[2]? = some (.int .i64 s2)); go_simp⟩) hHeld ?_
       refine tkS (i := 6) (oi := ⟨some 66, Op.load 9 (Operand.tmp 65), 9, _, _, none⟩) (v := .string xn) rfl (Or.inl ⟨by rfl, fun w hS => by obtain ⟨hS1, hS2⟩ := hS; have s0 := hS2.c 0 (by rfl : (fA (⟨xn, .slice xa f.bs.length xc, s2⟩ : FC))[0]? = some (.string xn)); have s1_ := hS2.c 1 (by rfl : (fA (⟨xn, .slice xa f.bs.length xc, s2⟩ : FC))[1]? = some (.slice xa f.bs.length xc)); have s2_ := hS2.c 2 (by rfl : (fA (⟨xn, .slice xa f.bs.length xc, s2⟩ : FC))[2]? = some (.int .i64 s2)); go_simp⟩) hHeld ?_
       refine tkS (i := 7) (oi := ⟨some 67, Op.move (Operand.tmp 8), 40, _, _, none⟩) (v := .slice (some ⟨ge, 0, none⟩) 0 0) rfl (Or.inl ⟨by rfl, fun w hS => by obtain ⟨hS1, hS2⟩ := hS; have s0 := hS2.c 0 (by rfl : (fA (⟨xn, .slice xa f.bs.length xc, s2⟩ : FC))[0]? = some (.string xn)); have s1_ := hS2.c 1 (by rfl : (fA (⟨xn, .slice xa f.bs.length xc, s2⟩ : FC))[1]? = some (.slice xa f.bs.length xc)); have s2_ := hS2.c 2 (by rfl : (fA (⟨xn, .slice xa f.bs.length xc, s2⟩ : FC))[2]? = some (.int .i64 s2)); go_simp⟩) hHeld ?_
       refine tkS (i := 8) (oi := ⟨some 68, Op.fieldAddr 49 (Operand.tmp 7) 1, 0, _, _, none⟩) (v := .pointer (some ⟨y, 1, none⟩)) rfl (Or.inl ⟨by rfl, fun w hS => by obtain ⟨hS1, hS2⟩ := hS; have s0 := hS2.c 0 (by rfl : (fA (⟨xn, .slice xa f.bs.length xc, s2⟩ : FC))[0]? = some (.string xn)); have s1_ := hS2.c 1 (by rfl : (fA (⟨xn, .slice xa f.bs.length xc, s2⟩ : FC))[1]? = some (.slice xa f.bs.length xc)); have s2_ := hS2.c 2 (by rfl : (fA (⟨xn, .slice xa f.bs.length xc, s2⟩ : FC))[2]? = some (.int .i64 s2)); go_simp⟩) hHeld ?_
       refine tkS (i := 9) (oi := ⟨some 69, Op.load 40 (Operand.tmp 68), 40, _, _, none⟩) (v := .slice xa f.bs.length xc) rfl (Or.inl ⟨by rfl, fun w hS => by obtain ⟨hS1, hS2⟩ := hS; have s0 := hS2.c 0 (by rfl : (fA (⟨xn, .slice xa f.bs.length xc, s2⟩ : FC))[0]? = some (.string xn)); have s1_ := hS2.c 1 (by rfl : (fA (⟨xn, .slice xa f.bs.length xc, s2⟩ : FC))[1]? = some (.slice xa f.bs.length xc)); have s2_ := hS2.c 2 (by rfl : (fA (⟨xn, .slice xa f.bs.length xc, s2⟩ : FC))[2]? = some (.int .i64 s2)); go_simp⟩) hHeld ?_
       refine tkS (i := 11) (oi := ⟨some 71, Op.fieldAddr 49 (Operand.tmp 7) 2, 0, _, _, none⟩) (v := .pointer (some ⟨y, 2, none⟩)) rfl (Or.inl ⟨by rfl, fun w hS => by obtain ⟨hS1, hS2⟩ := hS; have s0 := hS2.c 0 (by rfl : (fA (⟨xn, .slice xa f.bs.length xc, s2⟩ : FC))[0]? = some (.string xn)); have s1_ := hS2.c 1 (by rfl : (fA (⟨xn, .slice xa f.bs.length xc, s2⟩ : FC))[1]? = some (.slice xa f.bs.length xc)); have s2_ := hS2.c 2 (by rfl : (fA (⟨xn, .slice xa f.bs.length xc, s2⟩ : FC))[2]? = some (.int .i64 s2)); go_simp⟩) hHeld ?_
       refine tkS (i := 12) (oi := ⟨some 72, Op.load 3 (Operand.tmp 71), 3, _, _, none⟩) (v := .int .i64 s2) rfl (Or.inl ⟨by rfl, fun w hS => by obtain ⟨hS1, hS2⟩ := hS; have s0 := hS2.c 0 (by rfl : (fA (⟨xn, .slice xa f.bs.length xc, s2⟩ : FC))[0]? = some (.string xn)); have s1_ := hS2.c 1 (by rfl : (fA (⟨xn, .slice xa f.bs.length xc, s2⟩ : FC))[1]? = some (.slice xa f.bs.length xc)); have s2_ := hS2.c 2 (by rfl : (fA (⟨xn, .slice xa f.bs.length xc, s2⟩ : FC))[2]? = some (.int .i64 s2)); go_simp⟩) hHeld ?_
       refine wpAnyH_ready (rs := [10]) (by kernel_rfl) (by simp) ?_
       refine AllReadyH.cons (o := ⟨some 70, Op.call { callee := Callee.builtin Builtin.append, args := #[Operand.tmp 67, Operand.tmp 69], argTypes := #[40, 40] }, 40, _, _, none⟩) rfl (fun K hK => ?_) AllReadyH.nil
       rw [if_pos (by rfl)]
       refine wp_app (.tmp 67) (.tmp 69) rfl (.slice (some ⟨ge, 0, none⟩) 0 0) (.slice xa f.bs.length xc) [] f.bs rfl rfl HE6.out R6.out (by have := HUx.out; simp; omega) fun v9 w9 hp => ?_
       have G9 : Keep (Grown w6 w9 fun k => k = ge) := ⟨hp.grown.mono fun k _ e => (Option.some.inj e).symm⟩
       have HV9 : Keep (Own w9 v9 f.bs) := ⟨by have h := hp.1; rw [List.nil_append] at h; exact h⟩
       have N9 : Keep (∀ k, v9.ownBlock = some k → wr.heap.size ≤ k) := ⟨own_new hp SZ6.out fun k hk => by have e : ge = k := Option.some.inj hk; have := LE.out; omega⟩
       clear hp
       obtain ⟨a9, n9, k9, e9⟩ := HV9.out.sl
       subst e9
       have H9 : Keep (Blk w9 y 49 (fA (⟨xn, .slice xa f.bs.length xc, s2⟩ : FC))) := ⟨G9.out.blk H6.out fun e => by have h := H6.out.typ; rw [e] at h; have := h.one (HE6.out.typ (k := ge) rfl); revert this; decide⟩
       have HGn : Keep (∀ k, RdS x (.slice (some ⟨g, 0, none⟩) csi.length k5) (.slice none 0 0) csi k → k ≠ ge) := ⟨fun k hk e => by
        subst e
        rcases hk with (hk | hk | hk) | ⟨j, z, hj, hk⟩
        ·exact hgx.out hk
        ·have := (D6.out.own.typ hk).one (HE6.out.typ rfl); revert this; decide
        ·cases hk
        ·rw [hcsi.out, ins_get _ _ _ _ hil.out] at hj
         have hle := LE.out
         split at hj
         ·have := JD.out.sLt (.inr ⟨_, z, hj, hk⟩); omega
         ·split at hj
          ·injection hj with hj; subst hj; cases hk
          ·have := JD.out.sLt (.inr ⟨_, z, hj, hk⟩); omega⟩
       have D9 : Keep (RDAt w9 x (.slice (some ⟨g, 0, none⟩) csi.length k5) (.slice none 0 0) csi [] ({ Dt with fs := Dt.fs.take i ++ [(⟨xn, [], 0⟩ : PF)] ++ Dt.fs.drop i })) := ⟨D6.out.grown G9.out fun k hk e => HGn.out k hk e⟩
       have B9 : Keep (Below w.heap.size w w9) := ⟨B6.out.trans (G9.out.to_below (fun k hk e => by have := LE.out; have := JB.out.size; omega) B6.out.size)⟩
       clear HE6 HGn
       refine hK _ _ ⟨D9.out.blk.c 0 rfl, H9.out⟩ fun hH2 => ?_
       clear hK
       simp only [Act.put, pqA, pqB, pqC]
       refine tkS (i := 13) (oi := ⟨some 73, Op.build 49 #[(0, Operand.tmp 66), (1, Operand.tmp 70), (2, Operand.tmp 72)], 49, _, _, none⟩) (v := .agg (fA (⟨xn, .slice a9 n9 k9, s2⟩ : FC))) rfl (yieldsIf_bld (by rfl) 49 _ rfl #[(0, .string xn), (1, .slice a9 n9 k9), (2, .int .i64 s2)] (by simp [Act.eval]) (.agg (fA (⟨xn, .slice a9 n9 k9, s2⟩ : FC))) (fun w => run_bldF _ _ _ _ _ w)) hH2 ?_
       refine tkS (i := 14) (oi := ⟨some 74, Op.indexAddr 22 (Operand.tmp 63) (Operand.tmp 64), 0, _, _, none⟩) (v := .pointer (some ⟨g, i * 3, none⟩)) rfl (Or.inl ⟨by rfl, fun w hS => by obtain ⟨hS1, hS2⟩ := hS; have s0 := hS2.c 0 (by rfl : (fA (⟨xn, .slice xa f.bs.length xc, s2⟩ : FC))[0]? = some (.string xn)); have s1_ := hS2.c 1 (by rfl : (fA (⟨xn, .slice xa f.bs.length xc, s2⟩ : FC))[1]? = some (.slice xa f.bs.length xc)); have s2_ := hS2.c 2 (by rfl : (fA (⟨xn, .slice xa f.bs.length xc, s2⟩ : FC))[2]? = some (.int .i64 s2)); go_simp⟩) hH2 ?_
       refine wpAnyH_ready (rs := [15]) (by kernel_rfl) (by simp) ?_
       refine AllReadyH.cons (o := ⟨none, Op.store 49 (Operand.tmp 74) (Operand.tmp 73), 0, _, _, none⟩) rfl (fun K hK => ?_) AllReadyH.nil
       rw [if_pos (by rfl)]
       obtain ⟨cur, hc1, hc2, hc3⟩ := D9.out.file Hil.out
       have C3 := Keep.mk (hc3 (⟨xn, .slice a9 n9 k9, s2⟩ : FC) (layX f) ⟨HXn.out, by show s2 = (layX f).sf; rw [Es2.out, Es1.out, HXs.out]; rfl, HV9.out.row, fun k hk => HV9.out.typ hk⟩)
       clear hc3
       refine wp_store_part 49 (.tmp 74) (.tmp 73) rfl g (i * 3) (fA (⟨xn, .slice a9 n9 k9, s2⟩ : FC)) rfl rfl 49 cur hc1 (Tryz.sizeFB (⟨xn, .slice a9 n9 k9, s2⟩ : FC)) hc2 (SlF.one ⟨_, _, _, rfl⟩) ?_
       have DA := Keep.mk C3.out.1
       have hyg : Keep (y ≠ g) := ⟨fun e => by have h1 := Ng.out.1; have h2 := Ng.out.2 g rfl; omega⟩
       have HA : Keep (Blk (w9.setRow g (cur.toList.take (i * 3) ++ (fA (⟨xn, .slice a9 n9 k9, s2⟩ : FC)).toList ++ cur.toList.drop (i * 3 + (fA (⟨xn, .slice a9 n9 k9, s2⟩ : FC)).size)).toArray) y 49 (fA (⟨xn, .slice xa f.bs.length xc, s2⟩ : FC))) := ⟨C3.out.2.blk H9.out fun e => hyg.out e⟩
       have BA : Keep (Below w.heap.size w (w9.setRow g (cur.toList.take (i * 3) ++ (fA (⟨xn, .slice a9 n9 k9, s2⟩ : FC)).toList ++ cur.toList.drop (i * 3 + (fA (⟨xn, .slice a9 n9 k9, s2⟩ : FC)).size)).toArray)) := ⟨B9.out.trans (C3.out.2.to_below (fun k hk e => by have h1 := N5.out g rfl; have := JB.out.size; omega) B9.out.size)⟩
       clear C3 hc1 hc2
       generalize (w9.setRow g (cur.toList.take (i * 3) ++ (fA (⟨xn, .slice a9 n9 k9, s2⟩ : FC)).toList ++ cur.toList.drop (i * 3 + (fA (⟨xn, .slice a9 n9 k9, s2⟩ : FC)).size)).toArray) = wA at *
       refine hK _ _ ⟨DA.out.blk.c 0 rfl, HA.out⟩ fun hH3 => ?_
       clear hK
       simp only [Act.put, pqA, pqB, pqC]
       refine wpAnyH_done (by kernel_rfl) ?_ _
       refine hK7 _ _ ?_
       refine rgn ?_
       refine VlS (.int .i64 (t : Int)) ?_
       refine VlS (.int .i64 ((t : Int) + 1)) ?_
       refine VlS (.int .i64 ((t : Int) + 1)) ?_
       refine WL.nil ?_
       refine ⟨⟨t + 1, _, csi.set i (⟨xn, .slice a9 n9 k9, s2⟩ : FC), _, rfl, by omega, ?_, DA.out, ?_, BA.out⟩, ?_⟩
       ·have h1 : layStep (layT (ks.take t)) f = Dt.fs.take i ++ [layX f] ++ Dt.fs.drop i := by
         have e : Dt.fs = layT (ks.take t) := by rw [JE.out]
         have h := hF.out
         rw [HXn.out, e] at h
         unfold layStep
         rw [h, if_neg, e]
         rintro (h2 | h2 | h2)
         ·cases h2
         ·have := hrg.out; rw [HXn.out, h2] at this; cases this
         ·have h3 := KD.out.rcs.len; rw [e] at h3; omega
        rw [layT_snoc HKx.out, h1, JE.out]
        show ({ fs := ((layT (ks.take t)).take i ++ [(⟨xn, [], 0⟩ : PF)] ++ (layT (ks.take t)).drop i).set i (layX f), room := 0, used := 0, fuse := -1, out := false, acts := 0 } : DV) = _
        rw [ins_set _ _ _ _ (by have h3 := KD.out.rcs.len; have h4 : Dt.fs = layT (ks.take t) := (by rw [JE.out]); rw [h4] at h3; have := hil.out; omega)]
       ·intro k hk
        have hsz := JB.out.size
        rcases hk with (hk | hk | hk) | ⟨j, z, hj, hk⟩
        ·exact JS.out k (.inl (.inl hk))
        ·have := N5.out k hk; omega
        ·cases hk
        ·rw [List.getElem?_set] at hj
         split at hj
         ·split at hj
          ·injection hj with hj
           subst hj
           have := N9.out k hk
           omega
          ·cases hj
         ·rw [hcsi.out, ins_get _ _ _ _ hil.out] at hj
          split at hj
          ·exact JS.out k (.inr ⟨_, z, hj, hk⟩)
          ·split at hj
           ·injection hj with hj; subst hj; cases hk
           ·exact JS.out k (.inr ⟨_, z, hj, hk⟩)
       ·simp only [intOf]; show ks.length - ((t : Int) + 1).toNat < ks.length - ((t : Int)).toNat; omega
      have f_o := Hs1.out.frozen 2
      by_cases h9 : (f.bs.length : Int) < s1
      ·skip
       refine rgn ?_
       refine VlS (.pointer (some ⟨y, 2, none⟩)) ?_
       refine VlS (.int .i64 s1) ?_
       refine VlS (.pointer (some ⟨y, 1, none⟩)) ?_
       refine VlS (.slice xa f.bs.length xc) ?_
       refine VlS (.int .i64 (f.bs.length : Int)) ?_
       refine VbT ?_
       refine WL.nil (hK14 _ _ ?_)
       refine wp_cond_true rfl ?_
       refine rgn ?_
       refine VlS (.pointer (some ⟨y, 1, none⟩)) ?_
       refine VlS (.slice xa f.bs.length xc) ?_
       refine VlS (.int .i64 (f.bs.length : Int)) ?_
       refine VlS (.pointer (some ⟨y, 2, none⟩)) ?_
       refine WL.cell (by kernel_rfl) (wX.setCell ⟨y, 2, none⟩ (.int .i64 (f.bs.length : Int))) (by go_simp) ?_
       have H3 : Keep (Blk (wX.setCell ⟨y, 2, none⟩ (.int .i64 (f.bs.length : Int))) y 49 (fA ⟨xn, .slice xa f.bs.length xc, (f.bs.length : Int)⟩)) := ⟨Hs1.out.set 2 _⟩
       have B3 := Keep.mk (Bs1.out.setCell (p := ⟨y, 2, none⟩) L2.out (.int .i64 (f.bs.length : Int)))
       generalize (wX.setCell ⟨y, 2, none⟩ (.int .i64 (f.bs.length : Int))) = w3 at *
       simp only [Act.put]
       refine WL.nil ?_
       exact rest9 _ _ _ _ _ _ _ _ _ _ _ _ (by omega) B3.out H3.out
      ·skip
       refine rgn ?_
       refine VlS (.pointer (some ⟨y, 2, none⟩)) ?_
       refine VlS (.int .i64 s1) ?_
       refine VlS (.pointer (some ⟨y, 1, none⟩)) ?_
       refine VlS (.slice xa f.bs.length xc) ?_
       refine VlS (.int .i64 (f.bs.length : Int)) ?_
       refine VbF ?_
       refine WL.nil (hK14 _ _ ?_)
       refine wp_cond_false rfl ?_
       refine wp_skip ?_
       exact rest9 _ _ _ _ _ _ _ _ _ _ _ _ (by omega) Bs1.out Hs1.out
     have y2 := H2.out.c 2 (by rfl : (fA (⟨xn, .slice xa f.bs.length xc, xs⟩ : FC))[2]? = some (.int .i64 xs))
     have f_o := H2.out.frozen 2
     by_cases h7 : xs < 0
     ·skip
      refine rgn ?_
      refine VlS (.pointer (some ⟨y, 2, none⟩)) ?_
      refine VlS (.int .i64 xs) ?_
      refine VbT ?_
      refine WL.nil (hK12 _ _ ?_)
      refine wp_cond_true rfl ?_
      refine rgn ?_
      refine VlS (.pointer (some ⟨y, 2, none⟩)) ?_
      refine WL.cell (by kernel_rfl) (w2.setCell ⟨y, 2, none⟩ (.int .i64 0)) (by go_simp) ?_
      have H3 : Keep (Blk (w2.setCell ⟨y, 2, none⟩ (.int .i64 0)) y 49 (fA ⟨xn, .slice xa f.bs.length xc, 0⟩)) := ⟨H2.out.set 2 _⟩
      have B3 := Keep.mk (B2.out.setCell (p := ⟨y, 2, none⟩) L2.out (.int .i64 0))
      generalize (w2.setCell ⟨y, 2, none⟩ (.int .i64 0)) = w3 at *
      simp only [Act.put]
      refine WL.nil ?_
      exact rest7 _ _ _ _ _ _ (by omega) B3.out H3.out
     ·skip
      refine rgn ?_
      refine VlS (.pointer (some ⟨y, 2, none⟩)) ?_
      refine VlS (.int .i64 xs) ?_
      refine VbF ?_
      refine WL.nil (hK12 _ _ ?_)
      refine wp_cond_false rfl ?_
      refine wp_skip ?_
      exact rest7 _ _ _ _ _ _ (by omega) B2.out H2.out
   ·have hfd : Keep (fdI xn Dt.fs = (i : Int)) := ⟨by unfold fdI; rw [hF.out]; simp⟩
    have hi0 : (0 : Int) ≤ (i : Int) := by omega
    refine rgn ?_
    refine VlS (.pointer (some ⟨y, 0, none⟩)) ?_
    refine VlS (.string xn) ?_
    refine WL.callF (by kernel_rfl) 21 _ _ rfl Tryz.in21 #[.string xn] (by simp [Act.eval]) ?_
    refine (named_any xn w2 HNm.out).mono ?_
    rintro e w3 ⟨rfl, hw_⟩
    refine ⟨_, rfl, ?_⟩
    have hw_ := hw_.symm
    subst hw_
    rw [← hrg.out]
    simp only [Act.put, pqA, pqB, pqC]
    refine VbF ?_
    refine VbF ?_
    refine VlS (.pointer (some ⟨x, 0, none⟩)) ?_
    refine VlS (.pointer (some ⟨y, 0, none⟩)) ?_
    refine VlS (.string xn) ?_
    refine WL.callF (by kernel_rfl) 22 _ _ rfl Tryz.in22 #[ptr x, .string xn] (by simp [Act.eval]) ?_
    refine (rfind_any x xn (.slice vfa cs.length vfc) (.slice none 0 0) cs [] Dt w2 KD.out LOk.out.srt (by rw [KD.out.rcs.len]; have := LOk.out.len; omega)).mono ?_
    rintro e w3 ⟨rfl, hw_⟩
    refine ⟨_, rfl, ?_⟩
    have hw_ := hw_.symm
    subst hw_
    rw [hfd.out]
    simp only [Act.put, pqA, pqB, pqC]
    refine VbT ?_
    refine VbT ?_
    refine VbT ?_
    refine SkS ?_
    refine SkS ?_
    refine SkS ?_
    refine SkS ?_
    refine SkS ?_
    refine SkS ?_
    refine VbT ?_
    refine WL.nil (hK10 _ _ ?_)
    refine wp_cond_true rfl ?_
    refine wp_exit ?_
    refine hK7 _ _ ?_
    refine rgn ?_
    refine VlS (.int .i64 (t : Int)) ?_
    refine VlS (.int .i64 ((t : Int) + 1)) ?_
    refine VlS (.int .i64 ((t : Int) + 1)) ?_
    refine WL.nil ?_
    refine ⟨⟨t + 1, _, cs, Dt, rfl, by omega, ?_, KD.out, JS.out, JB.out.trans (B2.out.mono JB.out.size)⟩, ?_⟩
    ·have h1 : layStep (layT (ks.take t)) f = layT (ks.take t) := by
      have e : Dt.fs = layT (ks.take t) := by rw [JE.out]
      have h := hF.out
      rw [HXn.out, e] at h
      unfold layStep
      rw [h, if_pos]
      exact .inl rfl
     rw [layT_snoc HKx.out, h1]
     exact JE.out
    ·simp only [intOf]; show ks.length - ((t : Int) + 1).toNat < ks.length - ((t : Int)).toNat; omega
 ·have hlt' : ¬ (t : Int) < (ks.length : Int) := by omega
  have JE2 : Keep (Dt = ⟨layT ks, 0, 0, -1, false, 0⟩) := ⟨by rw [JE.out, List.take_of_length_le (by omega)]⟩
  have LOk : Keep (LayOk Dt.fs) := ⟨by rw [JE.out]; exact layT_ok ks t⟩
  have HUt : Keep (0 ≤ usd Dt.fs ∧ usd Dt.fs ≤ 1000000000000) := ⟨by rw [JE2.out]; have h := layT_usd ks ks.length; rw [List.take_length] at h; have := HU.out; exact ⟨usd_nonneg _, by show usd (layT ks) ≤ _; omega⟩⟩
  refine wp_seq_k fun K17 hK17 => ?_
  refine wp_seq_k fun K18 hK18 => rgn ?_
  refine VlS (.int .i64 (t : Int)) ?_
  refine VlS (.slice ka ks.length kc) ?_
  refine VlS (.int .i64 (ks.length : Int)) ?_
  refine VbF ?_
  refine WL.nil (hK18 _ _ ?_)
  refine wp_cond_false rfl ?_
  refine wp_exit ?_
  refine hK3 _ _ ?_
  refine wp_seq_k fun K19 hK19 => rgn ?_
  refine VlS (.pointer (some ⟨x, 0, none⟩)) ?_
  refine VlS (.int .i64 r) ?_
  refine VlS (.pointer (some ⟨x, 0, none⟩)) ?_
  refine VlS (.pointer (some ⟨x, 1, none⟩)) ?_
  have cl := JD.out.blk.c 1 (by rfl : (rdA (.slice vfa cs.length vfc) (.slice none 0 0) Dt)[1]? = some (.int .i64 Dt.room))
  have f_o := JD.out.blk.frozen 1
  refine WL.cell (by kernel_rfl) (wr.setCell ⟨x, 1, none⟩ (.int .i64 r)) (by go_simp) ?_
  have D2 := Keep.mk (JD.out.roomy r)
  have B2 : Keep (Below w.heap.size w (wr.setCell ⟨x, 1, none⟩ (.int .i64 r))) := ⟨JB.out.setCell (p := ⟨x, 1, none⟩) L1.out _⟩
  clear cl f_o JD JB
  generalize wr.setCell ⟨x, 1, none⟩ (.int .i64 r) = w2 at *
  simp only [Act.put]
  refine WL.nil (hK19 _ _ ?_)
  refine wp_seq_k fun K20 hK20 => ?_
  refine wp_seq_k fun K21 hK21 => ?_
  have D3 := Keep.mk D2.out.drew
  have B3 : Keep (Below w.heap.size w w2.drew) := ⟨B2.out.drew⟩
  clear D2 B2
  obtain ⟨us, hus⟩ : ∃ z, Keep (z = usd Dt.fs) := ⟨_, ⟨rfl⟩⟩
  have hS0 : Keep (w2.drew.cell? ⟨x, 1, none⟩ = some (.int .i64 r)) := ⟨D3.out.blk.c 1 rfl⟩
  refine wp_region_held_drew (S := fun wx => wx.cell? ⟨x, 1, none⟩ = some (.int .i64 r)) (by kernel_rfl) (hS0.out) (fun hHeld => ?_)
  generalize w2.drew = w3 at *
  by_cases hroom : r < us
  ·skip
   refine TkG (i := 0) (oi := ⟨some 79, Op.move (Operand.tmp 5), 27, _, _, none⟩) (v := .pointer (some ⟨x, 0, none⟩)) rfl hHeld ?_
   refine TkG (i := 1) (oi := ⟨some 80, Op.nilCheck (Operand.tmp 79), 0, _, _, none⟩) (v := .pointer (some ⟨x, 0, none⟩)) rfl hHeld ?_
   refine TkG (i := 2) (oi := ⟨some 81, Op.fieldAddr 62 (Operand.tmp 80) 1, 0, _, _, none⟩) (v := .pointer (some ⟨x, 1, none⟩)) rfl hHeld ?_
   refine TkG (i := 3) (oi := ⟨some 82, Op.load 3 (Operand.tmp 81), 3, _, _, none⟩) (v := .int .i64 r) rfl hHeld ?_
   refine TkG (i := 4) (oi := ⟨some 83, Op.move (Operand.tmp 5), 27, _, _, none⟩) (v := .pointer (some ⟨x, 0, none⟩)) rfl hHeld ?_
   refine wpAnyH_ready (rs := [5]) (by kernel_rfl) (by simp) ?_
   refine AllReadyH.cons (o := ⟨some 84, Op.call { callee := Callee.value (Operand.func 24), args := #[Operand.tmp 83], argTypes := #[27] }, 3, _, _, none⟩) rfl (fun K hK => ?_) AllReadyH.nil
   rw [if_pos (by rfl)]
   refine wp_callF 24 _ _ rfl Tryz.in24 #[ptr x] (by simp [Act.eval]) (fun vz wz => vz = .int .i64 us ∧ w3 = wz) ?_ ?_
   ·refine (rused_any x (.slice vfa cs.length vfc) (.slice none 0 0) cs [] ({ Dt with room := r }) w3 D3.out (by have := HUt.out; show usd Dt.fs ≤ _; omega) (by rw [D3.out.rcs.len]; have := LOk.out.len; show Dt.fs.length ≤ _; omega)).mono ?_
    rintro e wz ⟨rfl, h⟩
    exact ⟨_, rfl, by rw [hus.out], h.symm⟩
   rintro vz wy ⟨rfl, hy⟩
   subst hy
   refine hK _ _ (hS0.out) fun hH1 => ?_
   clear hK
   simp only [Act.put, pqA, pqB, pqC]
   refine TkG (i := 6) (oi := ⟨some 85, Op.binOp BinOp.lss 3 (Operand.tmp 82) (Operand.tmp 84) 3, 4, _, _, none⟩) (v := .bool true) rfl hH1 ?_
   refine wpAnyH_done (by kernel_rfl) ?_ _
   refine hK21 _ _ ?_
   refine wp_cond_true rfl ?_
   refine rgn ?_
   refine VlS (.pointer (some ⟨x, 0, none⟩)) ?_
   refine VlS (.pointer (some ⟨x, 0, none⟩)) ?_
   refine WL.callF (by kernel_rfl) 24 _ _ rfl Tryz.in24 #[ptr x] (by simp [Act.eval]) ?_
   refine (rused_any x (.slice vfa cs.length vfc) (.slice none 0 0) cs [] ({ Dt with room := r }) w3 D3.out (by have := HUt.out; show usd Dt.fs ≤ _; omega) (by rw [D3.out.rcs.len]; have := LOk.out.len; show Dt.fs.length ≤ _; omega)).mono ?_
   rintro e w4 ⟨rfl, hw_⟩
   refine ⟨_, rfl, ?_⟩
   have hw_ := hw_.symm
   subst hw_
   rw [show usd ({ Dt with room := r } : DV).fs = us from hus.out.symm]
   simp only [Act.put, pqA, pqB, pqC]
   refine VlS (.pointer (some ⟨x, 0, none⟩)) ?_
   refine VlS (.pointer (some ⟨x, 1, none⟩)) ?_
   have cl := D3.out.blk.c 1 (by rfl : (rdA (.slice vfa cs.length vfc) (.slice none 0 0) { Dt with room := r })[1]? = some (.int .i64 r))
   have f_o := D3.out.blk.frozen 1
   refine WL.cell (by kernel_rfl) (w3.setCell ⟨x, 1, none⟩ (.int .i64 us)) (by go_simp) ?_
   have D4 := Keep.mk (D3.out.roomy us)
   have B4 : Keep (Below w.heap.size w (w3.setCell ⟨x, 1, none⟩ (.int .i64 us))) := ⟨B3.out.setCell (p := ⟨x, 1, none⟩) L1.out _⟩
   clear cl f_o
   generalize w3.setCell ⟨x, 1, none⟩ (.int .i64 us) = w4 at *
   simp only [Act.put]
   refine WL.nil (hK20 _ _ ?_)
   refine wp_seq_k fun K22 hK22 => rgn ?_
   refine VlS (.pointer (some ⟨x, 0, none⟩)) ?_
   refine VlS (.pointer (some ⟨x, 0, none⟩)) ?_
   refine WL.nil (hK22 _ _ ?_)
   refine wp_ret ?_
   go_ret
   have h := D4.out.used (usd (layT ks))
   have e2 : us = usd (layT ks) := by rw [hus.out, JE2.out]
   have e : ({ fs := Dt.fs, room := us, used := usd (layT ks), fuse := Dt.fuse, out := Dt.out, acts := Dt.acts } : DV) = layD r ks := by
    rw [JE2.out]
    unfold layD
    have := HUt.out
    rw [← hus.out] at this
    rw [show max (max 0 r) (usd (layT ks)) = us by rw [← e2]; omega]
   refine ⟨x, _, cs, rfl, ?_, L1.out, JS.out, B4.out⟩
   rw [← e]
   exact h
  ·skip
   refine TkG (i := 0) (oi := ⟨some 79, Op.move (Operand.tmp 5), 27, _, _, none⟩) (v := .pointer (some ⟨x, 0, none⟩)) rfl hHeld ?_
   refine TkG (i := 1) (oi := ⟨some 80, Op.nilCheck (Operand.tmp 79), 0, _, _, none⟩) (v := .pointer (some ⟨x, 0, none⟩)) rfl hHeld ?_
   refine TkG (i := 2) (oi := ⟨some 81, Op.fieldAddr 62 (Operand.tmp 80) 1, 0, _, _, none⟩) (v := .pointer (some ⟨x, 1, none⟩)) rfl hHeld ?_
   refine TkG (i := 3) (oi := ⟨some 82, Op.load 3 (Operand.tmp 81), 3, _, _, none⟩) (v := .int .i64 r) rfl hHeld ?_
   refine TkG (i := 4) (oi := ⟨some 83, Op.move (Operand.tmp 5), 27, _, _, none⟩) (v := .pointer (some ⟨x, 0, none⟩)) rfl hHeld ?_
   refine wpAnyH_ready (rs := [5]) (by kernel_rfl) (by simp) ?_
   refine AllReadyH.cons (o := ⟨some 84, Op.call { callee := Callee.value (Operand.func 24), args := #[Operand.tmp 83], argTypes := #[27] }, 3, _, _, none⟩) rfl (fun K hK => ?_) AllReadyH.nil
   rw [if_pos (by rfl)]
   refine wp_callF 24 _ _ rfl Tryz.in24 #[ptr x] (by simp [Act.eval]) (fun vz wz => vz = .int .i64 us ∧ w3 = wz) ?_ ?_
   ·refine (rused_any x (.slice vfa cs.length vfc) (.slice none 0 0) cs [] ({ Dt with room := r }) w3 D3.out (by have := HUt.out; show usd Dt.fs ≤ _; omega) (by rw [D3.out.rcs.len]; have := LOk.out.len; show Dt.fs.length ≤ _; omega)).mono ?_
    rintro e wz ⟨rfl, h⟩
    exact ⟨_, rfl, by rw [hus.out], h.symm⟩
   rintro vz wy ⟨rfl, hy⟩
   subst hy
   refine hK _ _ (hS0.out) fun hH1 => ?_
   clear hK
   simp only [Act.put, pqA, pqB, pqC]
   refine TkG (i := 6) (oi := ⟨some 85, Op.binOp BinOp.lss 3 (Operand.tmp 82) (Operand.tmp 84) 3, 4, _, _, none⟩) (v := .bool false) rfl hH1 ?_
   refine wpAnyH_done (by kernel_rfl) ?_ _
   refine hK21 _ _ ?_
   refine wp_cond_false rfl ?_
   refine wp_skip ?_
   refine hK20 _ _ ?_
   refine wp_seq_k fun K23 hK23 => rgn ?_
   refine VlS (.pointer (some ⟨x, 0, none⟩)) ?_
   refine VlS (.pointer (some ⟨x, 0, none⟩)) ?_
   refine WL.nil (hK23 _ _ ?_)
   refine wp_ret ?_
   go_ret
   have h := D3.out.used (usd (layT ks))
   have e2 : us = usd (layT ks) := by rw [hus.out, JE2.out]
   have e : ({ fs := Dt.fs, room := r, used := usd (layT ks), fuse := Dt.fuse, out := Dt.out, acts := Dt.acts } : DV) = layD r ks := by
    rw [JE2.out]
    unfold layD
    have := HUt.out
    rw [← hus.out] at this
    rw [show max (max 0 r) (usd (layT ks)) = r by rw [← e2]; omega]
   refine ⟨x, _, cs, rfl, ?_, L1.out, JS.out, B3.out⟩
   rw [← e]
   exact h
end Go.Proofs.YteijjfeainamdaaGreatDoor
