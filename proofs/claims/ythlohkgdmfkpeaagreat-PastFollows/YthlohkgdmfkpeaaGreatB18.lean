import Derived.Test.YthlohkgdmfkpeaaGreatB17
namespace Go.Proofs.YthlohkgdmfkpeaaGreat
open Go.RowKit
set_option linter.unusedSimpArgs false
set_option linter.unusedVariables false

theorem com_at {H : List EP} {S : List (Nat × List Nat)} (hst : Hst (exs H) (S.map (·.2))) {a b : Hs} (ha : a ∈ (idsE (exs H))) (hb : b ∈ (idsE (exs H))) {L : List Hs} (hL : ∀ x, x ∈ L ↔ x ∈ (ComAt H S a b).map (idAt H)) {x : Hs} (hx : x ∈ L) : x ∈ (idsE (exs H)) ∧ ixH (idsE (exs H)) x ∈ ComAt H S a b := by
 obtain ⟨t, ht, e⟩ := List.mem_map.1 ((hL x).1 hx)
 have h1 := ((comAt_ok hst ha hb).mem t ht).1
 rw [← e, idAt_ix hst.nd h1]
 exact ⟨idAt_mem h1, ht⟩
theorem com_one {H : List EP} {S : List (Nat × List Nat)} (hst : Hst (exs H) (S.map (·.2))) {a b : Hs} (ha : a ∈ (idsE (exs H))) (hb : b ∈ (idsE (exs H))) {L : List Hs} (hp : L.Pairwise Lt) (hL : ∀ x, x ∈ L ↔ x ∈ (ComAt H S a b).map (idAt H)) (h : hasW ((S.map (·.2)).getD (ixH (idsE (exs H)) b) []) (ixH (idsE (exs H)) a) = true) : L = [a] := by
 have h1 := (comAt_ok hst ha hb).one hst (ix_lt ha) h
 have e : idAt H (ixH (idsE (exs H)) a) = a := by
  unfold idAt
  rw [List.getElem?_eq_getElem (ix_lt ha), Option.getD_some, ← ids_get (ix_lt ha)]
  exact ixH_get (ixH_lt.2 ha)
 refine only_one hp fun y => ?_
 rw [hL y, List.mem_map, List.mem_singleton]
 constructor
 ·rintro ⟨t, ht, rfl⟩
  rw [h1.2 t ht, e]
 ·rintro rfl
  exact ⟨_, h1.1, e⟩
theorem lt_len {L : List Hs} {X : List EX} (hp : L.Pairwise Lt) (hm : ∀ g ∈ L, g ∈ idsE X) : L.length ≤ X.length := by
 have h := (List.Nodup.length_le_of_subset' (hp.imp fun {a b} h e => by subst e; exact Lt.irrefl _ h) hm)
 rwa [idsE_len] at h
def sndS : Code → Code
 | .seq _ y => y
 | c => c
def bodyC (f : Func) : Code := match f.body with
 | some c => c
 | none => .skip
set_option maxRecDepth 16000 in
set_option maxHeartbeats 16000000 in
theorem fol_end {L H : List EP} {S : List (Nat × List Nat)} {w w2 wS w8 : World} {sc gt p mb ub k0 k1 sb so ga gb i j cc : Nat} {tv ea eb : Array Value} {v v6 : Value} {a b : Hs} {C : List Hs} {ca : Option Addr} {yr120 yr121 yr122 yr123 yr124 yr125 yr126 yr127 yr128 yr129 yr130 yr131 yr132 yr133 yr134 yr135 yr136 yr137 yr138 yr139 yr140 : Value} (B2 : Keep (Below w.heap.size w w2)) (HP : Keep (HisAt w2 p H S v mb ub)) (hea : Keep (ea = bytesA 32 a.f)) (heb : Keep (eb = bytesA 32 b.f)) (Ha : Keep (a ∈ (idsE (exs H)))) (Hb : Keep (b ∈ (idsE (exs H)))) (HSa : Keep (Blk wS ga 36 ea)) (HSb : Keep (Blk wS gb 36 eb)) (D4 : Keep (Below w2.heap.size w2 wS)) (hi : Keep (ixH (idsE (exs H)) a = i)) (hj : Keep (ixH (idsE (exs H)) b = j)) (hil : i < H.length) (hjl : j < H.length) (HCm : Keep (∀ g : Hs, g ∈ C → g ∈ (idsE (exs H)) ∧ ixH (idsE (exs H)) g ∈ ComAt H S a b)) (HCl : Keep (C.length ≤ 4096)) (E9 : Keep (Below wS.heap.size wS w8.drew)) (O9 : Keep (OwnH w8.drew (.slice ca C.length cc) C)) : Code.wp Tryz.prog (sndS (sndS (sndS (sndS (sndS (sndS (sndS (sndS (sndS (sndS (sndS (bodyC Tryz.f8)))))))))))) (bodyPost Tryz.prog Tryz.f8 fun e w' => e = .returned (.bool true) ∧ Below w.heap.size w w') { tmps := #[.slice (some ⟨sb, so, none⟩) L.length sc, .agg tv, undef, .pointer (some ⟨gt, 0, none⟩), .bool false, .pointer (some ⟨p, 0, none⟩), .int .i64 0, .int .i64 0, .pointer (some ⟨ga, 0, none⟩), .pointer (some ⟨gb, 0, none⟩), .int .i64 (i : Int), .int .i64 (j : Int), .slice ca C.length cc, .int .i64 0, v6, .int .i64 0, undef, undef, undef, undef, undef, .bool true, .bool false, .tuple #[.pointer (some ⟨p, 0, none⟩), .int .i64 0, .int .i64 0], .slice (some ⟨sb, so, none⟩) L.length sc, .tuple #[.pointer (some ⟨p, 0, none⟩), .int .i64 0, .int .i64 0], .pointer (some ⟨p, 0, none⟩), .int .i64 0, .int .i64 0, .int .i64 0, .bool false, .bool false, .pointer (some ⟨p, 0, none⟩), .bool false, .bool false, undef, undef, undef, undef, undef, undef, .pointer (some ⟨gt, 0, none⟩), .int .i64 (k0 : Int), .bool false, .bool false, .pointer (some ⟨gt, 0, none⟩), .int .i64 (k0 : Int), .slice (some ⟨sb, so, none⟩) L.length sc, .int .i64 (L.length : Int), .bool false, .bool false, .bool false, .pointer (some ⟨gt, 1, none⟩), .int .i64 (k1 : Int), .bool false, .bool false, .bool false, .pointer (some ⟨gt, 1, none⟩), .int .i64 (k1 : Int), .slice (some ⟨sb, so, none⟩) L.length sc, .int .i64 (L.length : Int), .bool false, .bool false, .slice (some ⟨sb, so, none⟩) L.length sc, .pointer (some ⟨gt, 0, none⟩), .int .i64 (k0 : Int), .pointer (some ⟨sb, so + k0 * 36, none⟩), .pointer (some ⟨sb, so + k0 * 36, none⟩), .agg ea, .slice (some ⟨sb, so, none⟩) L.length sc, .pointer (some ⟨gt, 1, none⟩), .int .i64 (k1 : Int), .pointer (some ⟨sb, so + k1 * 36, none⟩), .pointer (some ⟨sb, so + k1 * 36, none⟩), .agg eb, .pointer (some ⟨p, 0, none⟩), .agg ea, .int .i64 (i : Int), .pointer (some ⟨p, 0, none⟩), .agg eb, .int .i64 (j : Int), .tuple #[.slice ca C.length cc, .int .i64 0], .pointer (some ⟨p, 0, none⟩), .agg ea, .agg eb, .tuple #[.slice ca C.length cc, .int .i64 0], .slice ca C.length cc, .int .i64 0, .tuple #[v6, .int .i64 0], .pointer (some ⟨p, 0, none⟩), .agg eb, .agg ea, .tuple #[v6, .int .i64 0], v6, .int .i64 0, .int .i64 (i : Int), .bool false, .bool false, .int .i64 (j : Int), .bool false, .bool false, .bool false, .int .i64 0, .bool false, .bool false, .bool false, .int .i64 0, .bool false, .bool false, .bool false, .slice ca C.length cc, v6, .bool true, .bool false, .bool false, .bool false, .slice ca C.length cc, .bool true, .bool false, .bool false, yr120, yr121, yr122, yr123, yr124, yr125, yr126, yr127, yr128, yr129, yr130, yr131, yr132, yr133, yr134, yr135, yr136, yr137, yr138, yr139, yr140, .bool false, undef, undef, undef, undef, undef, undef, undef, undef, undef, undef, undef, undef, undef, undef, undef, undef, undef, undef, undef, undef, undef, undef, undef, undef, undef, undef, undef, undef, undef, undef, undef, undef, undef, undef, undef, undef, undef, undef, undef, undef, undef, undef, undef, undef, undef, undef, undef, undef, undef, undef, undef, undef, undef], defers := [] } w8.drew := by
 generalize hg : (bodyPost Tryz.prog Tryz.f8 fun e w' => e = .returned (.bool true) ∧ Below w.heap.size w w') = Q
 unfold Tryz.f8
 simp only [bodyC, sndS]
 subst hg
 refine wp_seq_k fun K21 hK21 => ?_
 refine wp_seq_k fun K22 hK22 => rgn ?_
 refine VlS (.slice ca C.length cc) ?_
 refine VlS (.int .i64 (C.length : Int)) ?_
 refine VlS (.int .i64 0) ?_
 refine WL.nil (hK22 _ _ ?_)
 refine wp_block ?_
 refine wp_loop (fun ac wr => ∃ (t : Nat) (f : Nat → Value), ac = { tmps := #[.slice (some ⟨sb, so, none⟩) L.length sc, .agg tv, undef, .pointer (some ⟨gt, 0, none⟩), .bool false, .pointer (some ⟨p, 0, none⟩), .int .i64 0, .int .i64 0, .pointer (some ⟨ga, 0, none⟩), .pointer (some ⟨gb, 0, none⟩), .int .i64 (i : Int), .int .i64 (j : Int), .slice ca C.length cc, .int .i64 0, v6, .int .i64 0, undef, f 17, f 18, undef, f 20, .bool true, .bool false, .tuple #[.pointer (some ⟨p, 0, none⟩), .int .i64 0, .int .i64 0], .slice (some ⟨sb, so, none⟩) L.length sc, .tuple #[.pointer (some ⟨p, 0, none⟩), .int .i64 0, .int .i64 0], .pointer (some ⟨p, 0, none⟩), .int .i64 0, .int .i64 0, .int .i64 0, .bool false, .bool false, .pointer (some ⟨p, 0, none⟩), .bool false, .bool false, undef, undef, undef, undef, undef, undef, .pointer (some ⟨gt, 0, none⟩), .int .i64 (k0 : Int), .bool false, .bool false, .pointer (some ⟨gt, 0, none⟩), .int .i64 (k0 : Int), .slice (some ⟨sb, so, none⟩) L.length sc, .int .i64 (L.length : Int), .bool false, .bool false, .bool false, .pointer (some ⟨gt, 1, none⟩), .int .i64 (k1 : Int), .bool false, .bool false, .bool false, .pointer (some ⟨gt, 1, none⟩), .int .i64 (k1 : Int), .slice (some ⟨sb, so, none⟩) L.length sc, .int .i64 (L.length : Int), .bool false, .bool false, .slice (some ⟨sb, so, none⟩) L.length sc, .pointer (some ⟨gt, 0, none⟩), .int .i64 (k0 : Int), .pointer (some ⟨sb, so + k0 * 36, none⟩), .pointer (some ⟨sb, so + k0 * 36, none⟩), .agg ea, .slice (some ⟨sb, so, none⟩) L.length sc, .pointer (some ⟨gt, 1, none⟩), .int .i64 (k1 : Int), .pointer (some ⟨sb, so + k1 * 36, none⟩), .pointer (some ⟨sb, so + k1 * 36, none⟩), .agg eb, .pointer (some ⟨p, 0, none⟩), .agg ea, .int .i64 (i : Int), .pointer (some ⟨p, 0, none⟩), .agg eb, .int .i64 (j : Int), .tuple #[.slice ca C.length cc, .int .i64 0], .pointer (some ⟨p, 0, none⟩), .agg ea, .agg eb, .tuple #[.slice ca C.length cc, .int .i64 0], .slice ca C.length cc, .int .i64 0, .tuple #[v6, .int .i64 0], .pointer (some ⟨p, 0, none⟩), .agg eb, .agg ea, .tuple #[v6, .int .i64 0], v6, .int .i64 0, .int .i64 (i : Int), .bool false, .bool false, .int .i64 (j : Int), .bool false, .bool false, .bool false, .int .i64 0, .bool false, .bool false, .bool false, .int .i64 0, .bool false, .bool false, .bool false, .slice ca C.length cc, v6, .bool true, .bool false, .bool false, .bool false, .slice ca C.length cc, .bool true, .bool false, .bool false, yr120, yr121, yr122, yr123, yr124, yr125, yr126, yr127, yr128, yr129, yr130, yr131, yr132, yr133, yr134, yr135, yr136, yr137, yr138, yr139, yr140, .bool false, .slice ca C.length cc, .int .i64 (C.length : Int), .int .i64 (t : Int), f 145, f 146, f 147, f 148, f 149, f 150, f 151, f 152, f 153, f 154, f 155, f 156, f 157, f 158, f 159, f 160, f 161, f 162, f 163, f 164, f 165, f 166, f 167, f 168, f 169, f 170, f 171, f 172, f 173, f 174, f 175, f 176, f 177, f 178, f 179, f 180, f 181, f 182, f 183, f 184, f 185, f 186, f 187, f 188, f 189, f 190, undef, undef, undef, undef], defers := [] } ∧ t ≤ C.length ∧ Below w8.drew.heap.size w8.drew wr) (fun a _ => C.length - (intOf (a.tmps.getD 144 undef)).toNat) ⟨0, fun zz => [.slice (some ⟨sb, so, none⟩) L.length sc, .agg tv, undef, .pointer (some ⟨gt, 0, none⟩), .bool false, .pointer (some ⟨p, 0, none⟩), .int .i64 0, .int .i64 0, .pointer (some ⟨ga, 0, none⟩), .pointer (some ⟨gb, 0, none⟩), .int .i64 (i : Int), .int .i64 (j : Int), .slice ca C.length cc, .int .i64 0, v6, .int .i64 0, undef, undef, undef, undef, undef, .bool true, .bool false, .tuple #[.pointer (some ⟨p, 0, none⟩), .int .i64 0, .int .i64 0], .slice (some ⟨sb, so, none⟩) L.length sc, .tuple #[.pointer (some ⟨p, 0, none⟩), .int .i64 0, .int .i64 0], .pointer (some ⟨p, 0, none⟩), .int .i64 0, .int .i64 0, .int .i64 0, .bool false, .bool false, .pointer (some ⟨p, 0, none⟩), .bool false, .bool false, undef, undef, undef, undef, undef, undef, .pointer (some ⟨gt, 0, none⟩), .int .i64 (k0 : Int), .bool false, .bool false, .pointer (some ⟨gt, 0, none⟩), .int .i64 (k0 : Int), .slice (some ⟨sb, so, none⟩) L.length sc, .int .i64 (L.length : Int), .bool false, .bool false, .bool false, .pointer (some ⟨gt, 1, none⟩), .int .i64 (k1 : Int), .bool false, .bool false, .bool false, .pointer (some ⟨gt, 1, none⟩), .int .i64 (k1 : Int), .slice (some ⟨sb, so, none⟩) L.length sc, .int .i64 (L.length : Int), .bool false, .bool false, .slice (some ⟨sb, so, none⟩) L.length sc, .pointer (some ⟨gt, 0, none⟩), .int .i64 (k0 : Int), .pointer (some ⟨sb, so + k0 * 36, none⟩), .pointer (some ⟨sb, so + k0 * 36, none⟩), .agg ea, .slice (some ⟨sb, so, none⟩) L.length sc, .pointer (some ⟨gt, 1, none⟩), .int .i64 (k1 : Int), .pointer (some ⟨sb, so + k1 * 36, none⟩), .pointer (some ⟨sb, so + k1 * 36, none⟩), .agg eb, .pointer (some ⟨p, 0, none⟩), .agg ea, .int .i64 (i : Int), .pointer (some ⟨p, 0, none⟩), .agg eb, .int .i64 (j : Int), .tuple #[.slice ca C.length cc, .int .i64 0], .pointer (some ⟨p, 0, none⟩), .agg ea, .agg eb, .tuple #[.slice ca C.length cc, .int .i64 0], .slice ca C.length cc, .int .i64 0, .tuple #[v6, .int .i64 0], .pointer (some ⟨p, 0, none⟩), .agg eb, .agg ea, .tuple #[v6, .int .i64 0], v6, .int .i64 0, .int .i64 (i : Int), .bool false, .bool false, .int .i64 (j : Int), .bool false, .bool false, .bool false, .int .i64 0, .bool false, .bool false, .bool false, .int .i64 0, .bool false, .bool false, .bool false, .slice ca C.length cc, v6, .bool true, .bool false, .bool false, .bool false, .slice ca C.length cc, .bool true, .bool false, .bool false, yr120, yr121, yr122, yr123, yr124, yr125, yr126, yr127, yr128, yr129, yr130, yr131, yr132, yr133, yr134, yr135, yr136, yr137, yr138, yr139, yr140, .bool false, .slice ca C.length cc, .int .i64 (C.length : Int), .int .i64 0, undef, undef, undef, undef, undef, undef, undef, undef, undef, undef, undef, undef, undef, undef, undef, undef, undef, undef, undef, undef, undef, undef, undef, undef, undef, undef, undef, undef, undef, undef, undef, undef, undef, undef, undef, undef, undef, undef, undef, undef, undef, undef, undef, undef, undef, undef, undef, undef, undef, undef].getD zz undef, rfl, by omega, Below.refl _ _⟩ ?_
 rintro ac wr ⟨t, f, rfl, ht, hB⟩
 have JB := Keep.mk hB
 clear hB
 by_cases htl : t < C.length
 ·have htl' : (t : Int) < (C.length : Int) := by omega
  have ht0 : (0 : Int) ≤ (t : Int) := by omega
  have hwt : IntKind.i64.wrap ((t : Int) + 1) = ((t + 1 : Nat) : Int) := by rw [IntKind.wrap_i64]; have := HCl.out; omega
  obtain ⟨pb, po, hpa, hpr⟩ := hrow_at (O9.out.below JB.out).row htl
  subst hpa
  obtain ⟨h, hh⟩ : ∃ h : Hs, Keep (h = C[t]) := ⟨_, ⟨rfl⟩⟩
  rw [← hh.out] at hpr
  have HPr := Keep.mk hpr
  clear hpr
  obtain ⟨n, hn⟩ : ∃ n, Keep (ixH (idsE (exs H)) h = n) := ⟨_, ⟨rfl⟩⟩
  have hMn : Keep (h ∈ idsE (exs H) ∧ n ∈ ComAt H S a b) := ⟨by have h := HCm.out h (by rw [hh.out]; exact List.getElem_mem htl); rw [hn.out] at h; exact h⟩
  have hTn := Keep.mk ((comAt_ok HP.out.hst Ha.out Hb.out).mem n hMn.out.2)
  have hln : n < H.length := by have h := hTn.out.1; rw [exs_len] at h; exact h
  have hun : Keep (numV (idsE (exs H)) h = (n : Int)) := ⟨num_of hn.out (by rw [idsE_len, exs_len]; exact hln)⟩
  have hn0 : ¬ (n : Int) < 0 := by omega
  refine wp_seq_k fun K23 hK23 => rgn ?_
  refine VbT ?_
  refine WL.nil (hK23 _ _ ?_)
  refine wp_seq_k fun K24 hK24 => ?_
  refine wp_cond_true rfl ?_
  refine wp_skip ?_
  refine hK24 _ _ ?_
  refine wp_seq_k fun K25 hK25 => ?_
  refine wp_block ?_
  refine wp_seq_k fun K26 hK26 => rgn ?_
  refine VlS (.pointer (some ⟨pb, po + t * 32, none⟩)) ?_
  refine WL.midA (by kernel_rfl) 36 (.tmp 146) rfl pb (po + t * 32) rfl (bytesA 32 h.f) _ HPr.out Tryz.underlying36 rfl (size36E _) ?_
  simp only [Act.put, pqA, pqB, pqC]
  refine WL.new (by kernel_rfl) 36 rfl (bytesA 32 fun _ => 0) Tryz.new36 ?_
  obtain ⟨wc, hwn⟩ : ∃ wx, Keep (wx = wr.alloc (.cells (bytesA 32 fun _ => 0) 36)) := ⟨_, ⟨rfl⟩⟩
  rw [← hwn.out]
  have HZ2 : Keep (Blk wc wr.heap.size 36 (bytesA 32 fun _ => 0)) := ⟨by rw [hwn.out]; exact Blk.new _ _ _⟩
  have LB2 : Keep (Below wr.heap.size wr wc) := ⟨by rw [hwn.out]; exact below_new _ _⟩
  clear hwn
  simp only [Act.put, pqA, pqB, pqC]
  refine WL.storeR (by kernel_rfl) 36 (.tmp 17) (.tmp 147) rfl wr.heap.size (bytesA 32 h.f) rfl rfl 36 _ HZ2.out (size36E _) (by rw [bytesA_size, bytesA_size]) (bytesA_one _ _) ?_
  have HH2 := Keep.mk (HZ2.out.setRow (bytesA 32 h.f))
  have LH : Keep (Below wr.heap.size wr (wc.setRow wr.heap.size (bytesA 32 h.f))) := ⟨below_setRow LB2.out (Nat.le_refl _) _⟩
  generalize wc.setRow wr.heap.size (bytesA 32 h.f) = wd at *
  clear HZ2 LB2
  have JBd := Keep.mk (belowC JB.out LH.out)
  generalize wr.heap.size = g2 at *
  clear LH HPr
  simp only [Act.put]
  refine WL.nil (hK26 _ _ ?_)
  refine wp_seq_k fun K27 hK27 => rgn ?_
  refine VlS (.pointer (some ⟨p, 0, none⟩)) ?_
  refine WL.row (by kernel_rfl) 36 (.tmp 17) rfl g2 rfl 36 (bytesA 32 h.f) _ HH2.out Tryz.underlying36 rfl (size36E _) ?_
  simp only [Act.put, pqA, pqB, pqC]
  refine WL.callF (by kernel_rfl) 13 _ _ rfl Tryz.in13 #[.pointer (some ⟨p, 0, none⟩), .agg (bytesA 32 h.f)] (by simp [Act.eval]) ?_
  refine (number_any H S v p mb ub wd (HP.out.rd.below (belowC D4.out (belowC E9.out JBd.out))) h).mono ?_
  rintro e we ⟨rfl, hb⟩
  refine ⟨_, rfl, ?_⟩
  rw [hun.out]
  have JBe := Keep.mk (belowC JBd.out hb)
  clear hb HH2
  simp only [Act.put, pqA, pqB, pqC]
  refine VlS (.int .i64 (n : Int)) ?_
  refine WL.nil (hK27 _ _ ?_)
  refine wp_seq_k fun K28 hK28 => ?_
  refine wp_seq_k fun K29 hK29 => ?_
  have rest20 : ∀ (ys151 ys152 ys153 ys154 ys155 ys156 ys157 ys158 ys159 ys160 ys161 ys162 ys163 ys164 ys165 ys166 ys167 ys168 ys169 ys170 ys171 ys172 ys173 ys174 ys175 : Value), K29 { tmps := #[.slice (some ⟨sb, so, none⟩) L.length sc, .agg tv, undef, .pointer (some ⟨gt, 0, none⟩), .bool false, .pointer (some ⟨p, 0, none⟩), .int .i64 0, .int .i64 0, .pointer (some ⟨ga, 0, none⟩), .pointer (some ⟨gb, 0, none⟩), .int .i64 (i : Int), .int .i64 (j : Int), .slice (some ⟨pb, po, none⟩) C.length cc, .int .i64 0, v6, .int .i64 0, undef, .pointer (some ⟨g2, 0, none⟩), .int .i64 (n : Int), undef, f 20, .bool true, .bool false, .tuple #[.pointer (some ⟨p, 0, none⟩), .int .i64 0, .int .i64 0], .slice (some ⟨sb, so, none⟩) L.length sc, .tuple #[.pointer (some ⟨p, 0, none⟩), .int .i64 0, .int .i64 0], .pointer (some ⟨p, 0, none⟩), .int .i64 0, .int .i64 0, .int .i64 0, .bool false, .bool false, .pointer (some ⟨p, 0, none⟩), .bool false, .bool false, undef, undef, undef, undef, undef, undef, .pointer (some ⟨gt, 0, none⟩), .int .i64 (k0 : Int), .bool false, .bool false, .pointer (some ⟨gt, 0, none⟩), .int .i64 (k0 : Int), .slice (some ⟨sb, so, none⟩) L.length sc, .int .i64 (L.length : Int), .bool false, .bool false, .bool false, .pointer (some ⟨gt, 1, none⟩), .int .i64 (k1 : Int), .bool false, .bool false, .bool false, .pointer (some ⟨gt, 1, none⟩), .int .i64 (k1 : Int), .slice (some ⟨sb, so, none⟩) L.length sc, .int .i64 (L.length : Int), .bool false, .bool false, .slice (some ⟨sb, so, none⟩) L.length sc, .pointer (some ⟨gt, 0, none⟩), .int .i64 (k0 : Int), .pointer (some ⟨sb, so + k0 * 36, none⟩), .pointer (some ⟨sb, so + k0 * 36, none⟩), .agg ea, .slice (some ⟨sb, so, none⟩) L.length sc, .pointer (some ⟨gt, 1, none⟩), .int .i64 (k1 : Int), .pointer (some ⟨sb, so + k1 * 36, none⟩), .pointer (some ⟨sb, so + k1 * 36, none⟩), .agg eb, .pointer (some ⟨p, 0, none⟩), .agg ea, .int .i64 (i : Int), .pointer (some ⟨p, 0, none⟩), .agg eb, .int .i64 (j : Int), .tuple #[.slice (some ⟨pb, po, none⟩) C.length cc, .int .i64 0], .pointer (some ⟨p, 0, none⟩), .agg ea, .agg eb, .tuple #[.slice (some ⟨pb, po, none⟩) C.length cc, .int .i64 0], .slice (some ⟨pb, po, none⟩) C.length cc, .int .i64 0, .tuple #[v6, .int .i64 0], .pointer (some ⟨p, 0, none⟩), .agg eb, .agg ea, .tuple #[v6, .int .i64 0], v6, .int .i64 0, .int .i64 (i : Int), .bool false, .bool false, .int .i64 (j : Int), .bool false, .bool false, .bool false, .int .i64 0, .bool false, .bool false, .bool false, .int .i64 0, .bool false, .bool false, .bool false, .slice (some ⟨pb, po, none⟩) C.length cc, v6, .bool true, .bool false, .bool false, .bool false, .slice (some ⟨pb, po, none⟩) C.length cc, .bool true, .bool false, .bool false, yr120, yr121, yr122, yr123, yr124, yr125, yr126, yr127, yr128, yr129, yr130, yr131, yr132, yr133, yr134, yr135, yr136, yr137, yr138, yr139, yr140, .bool false, .slice (some ⟨pb, po, none⟩) C.length cc, .int .i64 (C.length : Int), .int .i64 (t : Int), .bool true, .pointer (some ⟨pb, po + t * 32, none⟩), .agg (bytesA 32 h.f), .pointer (some ⟨p, 0, none⟩), .agg (bytesA 32 h.f), .int .i64 (n : Int), ys151, ys152, ys153, ys154, ys155, ys156, ys157, ys158, ys159, ys160, ys161, ys162, ys163, ys164, ys165, ys166, ys167, ys168, ys169, ys170, ys171, ys172, ys173, ys174, ys175, .bool false, f 177, f 178, f 179, f 180, f 181, f 182, f 183, f 184, f 185, f 186, f 187, f 188, f 189, f 190, undef, undef, undef, undef], defers := [] } we := by
   intro ys151 ys152 ys153 ys154 ys155 ys156 ys157 ys158 ys159 ys160 ys161 ys162 ys163 ys164 ys165 ys166 ys167 ys168 ys169 ys170 ys171 ys172 ys173 ys174 ys175
   refine hK29 _ _ ?_
   refine wp_cond_false rfl ?_
   refine wp_skip ?_
   refine hK28 _ _ ?_
   refine wp_seq_k fun K30 hK30 => rgn ?_
   refine VlS (.slice (some ⟨pb, po, none⟩) C.length cc) ?_
   refine VlS (.int .i64 (C.length : Int)) ?_
   refine VlS (.int .i64 0) ?_
   refine WL.nil (hK30 _ _ ?_)
   refine wp_block ?_
   refine wp_loop (fun ac ws => ∃ (u : Nat) (fy : Nat → Value), ac = { tmps := #[.slice (some ⟨sb, so, none⟩) L.length sc, .agg tv, undef, .pointer (some ⟨gt, 0, none⟩), .bool false, .pointer (some ⟨p, 0, none⟩), .int .i64 0, .int .i64 0, .pointer (some ⟨ga, 0, none⟩), .pointer (some ⟨gb, 0, none⟩), .int .i64 (i : Int), .int .i64 (j : Int), .slice (some ⟨pb, po, none⟩) C.length cc, .int .i64 0, v6, .int .i64 0, undef, .pointer (some ⟨g2, 0, none⟩), .int .i64 (n : Int), undef, fy 20, .bool true, .bool false, .tuple #[.pointer (some ⟨p, 0, none⟩), .int .i64 0, .int .i64 0], .slice (some ⟨sb, so, none⟩) L.length sc, .tuple #[.pointer (some ⟨p, 0, none⟩), .int .i64 0, .int .i64 0], .pointer (some ⟨p, 0, none⟩), .int .i64 0, .int .i64 0, .int .i64 0, .bool false, .bool false, .pointer (some ⟨p, 0, none⟩), .bool false, .bool false, undef, undef, undef, undef, undef, undef, .pointer (some ⟨gt, 0, none⟩), .int .i64 (k0 : Int), .bool false, .bool false, .pointer (some ⟨gt, 0, none⟩), .int .i64 (k0 : Int), .slice (some ⟨sb, so, none⟩) L.length sc, .int .i64 (L.length : Int), .bool false, .bool false, .bool false, .pointer (some ⟨gt, 1, none⟩), .int .i64 (k1 : Int), .bool false, .bool false, .bool false, .pointer (some ⟨gt, 1, none⟩), .int .i64 (k1 : Int), .slice (some ⟨sb, so, none⟩) L.length sc, .int .i64 (L.length : Int), .bool false, .bool false, .slice (some ⟨sb, so, none⟩) L.length sc, .pointer (some ⟨gt, 0, none⟩), .int .i64 (k0 : Int), .pointer (some ⟨sb, so + k0 * 36, none⟩), .pointer (some ⟨sb, so + k0 * 36, none⟩), .agg ea, .slice (some ⟨sb, so, none⟩) L.length sc, .pointer (some ⟨gt, 1, none⟩), .int .i64 (k1 : Int), .pointer (some ⟨sb, so + k1 * 36, none⟩), .pointer (some ⟨sb, so + k1 * 36, none⟩), .agg eb, .pointer (some ⟨p, 0, none⟩), .agg ea, .int .i64 (i : Int), .pointer (some ⟨p, 0, none⟩), .agg eb, .int .i64 (j : Int), .tuple #[.slice (some ⟨pb, po, none⟩) C.length cc, .int .i64 0], .pointer (some ⟨p, 0, none⟩), .agg ea, .agg eb, .tuple #[.slice (some ⟨pb, po, none⟩) C.length cc, .int .i64 0], .slice (some ⟨pb, po, none⟩) C.length cc, .int .i64 0, .tuple #[v6, .int .i64 0], .pointer (some ⟨p, 0, none⟩), .agg eb, .agg ea, .tuple #[v6, .int .i64 0], v6, .int .i64 0, .int .i64 (i : Int), .bool false, .bool false, .int .i64 (j : Int), .bool false, .bool false, .bool false, .int .i64 0, .bool false, .bool false, .bool false, .int .i64 0, .bool false, .bool false, .bool false, .slice (some ⟨pb, po, none⟩) C.length cc, v6, .bool true, .bool false, .bool false, .bool false, .slice (some ⟨pb, po, none⟩) C.length cc, .bool true, .bool false, .bool false, yr120, yr121, yr122, yr123, yr124, yr125, yr126, yr127, yr128, yr129, yr130, yr131, yr132, yr133, yr134, yr135, yr136, yr137, yr138, yr139, yr140, .bool false, .slice (some ⟨pb, po, none⟩) C.length cc, .int .i64 (C.length : Int), .int .i64 (t : Int), .bool true, .pointer (some ⟨pb, po + t * 32, none⟩), .agg (bytesA 32 h.f), .pointer (some ⟨p, 0, none⟩), .agg (bytesA 32 h.f), .int .i64 (n : Int), ys151, ys152, ys153, ys154, ys155, ys156, ys157, ys158, ys159, ys160, ys161, ys162, ys163, ys164, ys165, ys166, ys167, ys168, ys169, ys170, ys171, ys172, ys173, ys174, ys175, .bool false, .slice (some ⟨pb, po, none⟩) C.length cc, .int .i64 (C.length : Int), .int .i64 (u : Int), fy 180, fy 181, fy 182, fy 183, fy 184, fy 185, fy 186, fy 187, fy 188, fy 189, f 190, undef, undef, undef, undef], defers := [] } ∧ u ≤ C.length ∧ Below we.heap.size we ws) (fun a _ => C.length - (intOf (a.tmps.getD 179 undef)).toNat) ⟨0, fun zz => [.slice (some ⟨sb, so, none⟩) L.length sc, .agg tv, undef, .pointer (some ⟨gt, 0, none⟩), .bool false, .pointer (some ⟨p, 0, none⟩), .int .i64 0, .int .i64 0, .pointer (some ⟨ga, 0, none⟩), .pointer (some ⟨gb, 0, none⟩), .int .i64 (i : Int), .int .i64 (j : Int), .slice (some ⟨pb, po, none⟩) C.length cc, .int .i64 0, v6, .int .i64 0, undef, .pointer (some ⟨g2, 0, none⟩), .int .i64 (n : Int), undef, f 20, .bool true, .bool false, .tuple #[.pointer (some ⟨p, 0, none⟩), .int .i64 0, .int .i64 0], .slice (some ⟨sb, so, none⟩) L.length sc, .tuple #[.pointer (some ⟨p, 0, none⟩), .int .i64 0, .int .i64 0], .pointer (some ⟨p, 0, none⟩), .int .i64 0, .int .i64 0, .int .i64 0, .bool false, .bool false, .pointer (some ⟨p, 0, none⟩), .bool false, .bool false, undef, undef, undef, undef, undef, undef, .pointer (some ⟨gt, 0, none⟩), .int .i64 (k0 : Int), .bool false, .bool false, .pointer (some ⟨gt, 0, none⟩), .int .i64 (k0 : Int), .slice (some ⟨sb, so, none⟩) L.length sc, .int .i64 (L.length : Int), .bool false, .bool false, .bool false, .pointer (some ⟨gt, 1, none⟩), .int .i64 (k1 : Int), .bool false, .bool false, .bool false, .pointer (some ⟨gt, 1, none⟩), .int .i64 (k1 : Int), .slice (some ⟨sb, so, none⟩) L.length sc, .int .i64 (L.length : Int), .bool false, .bool false, .slice (some ⟨sb, so, none⟩) L.length sc, .pointer (some ⟨gt, 0, none⟩), .int .i64 (k0 : Int), .pointer (some ⟨sb, so + k0 * 36, none⟩), .pointer (some ⟨sb, so + k0 * 36, none⟩), .agg ea, .slice (some ⟨sb, so, none⟩) L.length sc, .pointer (some ⟨gt, 1, none⟩), .int .i64 (k1 : Int), .pointer (some ⟨sb, so + k1 * 36, none⟩), .pointer (some ⟨sb, so + k1 * 36, none⟩), .agg eb, .pointer (some ⟨p, 0, none⟩), .agg ea, .int .i64 (i : Int), .pointer (some ⟨p, 0, none⟩), .agg eb, .int .i64 (j : Int), .tuple #[.slice (some ⟨pb, po, none⟩) C.length cc, .int .i64 0], .pointer (some ⟨p, 0, none⟩), .agg ea, .agg eb, .tuple #[.slice (some ⟨pb, po, none⟩) C.length cc, .int .i64 0], .slice (some ⟨pb, po, none⟩) C.length cc, .int .i64 0, .tuple #[v6, .int .i64 0], .pointer (some ⟨p, 0, none⟩), .agg eb, .agg ea, .tuple #[v6, .int .i64 0], v6, .int .i64 0, .int .i64 (i : Int), .bool false, .bool false, .int .i64 (j : Int), .bool false, .bool false, .bool false, .int .i64 0, .bool false, .bool false, .bool false, .int .i64 0, .bool false, .bool false, .bool false, .slice (some ⟨pb, po, none⟩) C.length cc, v6, .bool true, .bool false, .bool false, .bool false, .slice (some ⟨pb, po, none⟩) C.length cc, .bool true, .bool false, .bool false, yr120, yr121, yr122, yr123, yr124, yr125, yr126, yr127, yr128, yr129, yr130, yr131, yr132, yr133, yr134, yr135, yr136, yr137, yr138, yr139, yr140, .bool false, .slice (some ⟨pb, po, none⟩) C.length cc, .int .i64 (C.length : Int), .int .i64 (t : Int), .bool true, .pointer (some ⟨pb, po + t * 32, none⟩), .agg (bytesA 32 h.f), .pointer (some ⟨p, 0, none⟩), .agg (bytesA 32 h.f), .int .i64 (n : Int), ys151, ys152, ys153, ys154, ys155, ys156, ys157, ys158, ys159, ys160, ys161, ys162, ys163, ys164, ys165, ys166, ys167, ys168, ys169, ys170, ys171, ys172, ys173, ys174, ys175, .bool false, .slice (some ⟨pb, po, none⟩) C.length cc, .int .i64 (C.length : Int), .int .i64 0, f 180, f 181, f 182, f 183, f 184, f 185, f 186, f 187, f 188, f 189, f 190, undef, undef, undef, undef].getD zz undef, rfl, by omega, Below.refl _ _⟩ ?_
   rintro ac ws ⟨u, fy, rfl, hu, hB2⟩
   have IB := Keep.mk hB2
   clear hB2
   by_cases hul : u < C.length
   ·have hul' : (u : Int) < (C.length : Int) := by omega
    have hu0 : (0 : Int) ≤ (u : Int) := by omega
    have hwu : IntKind.i64.wrap ((u : Int) + 1) = ((u + 1 : Nat) : Int) := by rw [IntKind.wrap_i64]; have := HCl.out; omega
    obtain ⟨pb2, po2, hpa, hpr⟩ := hrow_at (O9.out.below (belowC JBe.out IB.out)).row hul
    injection hpa with hpa
    injection hpa with e1 e2
    subst e1 e2
    obtain ⟨h', hh'⟩ : ∃ h : Hs, Keep (h = C[u]) := ⟨_, ⟨rfl⟩⟩
    rw [← hh'.out] at hpr
    have HPr := Keep.mk hpr
    clear hpr
    obtain ⟨m, hm⟩ : ∃ n, Keep (ixH (idsE (exs H)) h' = n) := ⟨_, ⟨rfl⟩⟩
    have hMm : Keep (h' ∈ idsE (exs H) ∧ m ∈ ComAt H S a b) := ⟨by have h := HCm.out h' (by rw [hh'.out]; exact List.getElem_mem hul); rw [hm.out] at h; exact h⟩
    have hlm : m < H.length := by have h := ((comAt_ok HP.out.hst Ha.out Hb.out).mem m hMm.out.2).1; rw [exs_len] at h; exact h
    have hum : Keep (numV (idsE (exs H)) h' = (m : Int)) := ⟨num_of hm.out (by rw [idsE_len, exs_len]; exact hlm)⟩
    have hsf : Keep (seesW S n m = false) := ⟨by
     rw [seesW]
     cases hv : hasW ((S.map (·.2)).getD m []) n
     ·rw [Bool.and_false]
     ·rw [decide_eq_true ((comAt_ok HP.out.hst Ha.out Hb.out).un n hMn.out.2 m hMm.out.2 hv)]; rfl⟩
    refine wp_seq_k fun K31 hK31 => rgn ?_
    refine VbT ?_
    refine WL.nil (hK31 _ _ ?_)
    refine wp_seq_k fun K32 hK32 => ?_
    refine wp_cond_true rfl ?_
    refine wp_skip ?_
    refine hK32 _ _ ?_
    refine wp_seq_k fun K33 hK33 => ?_
    refine wp_block ?_
    refine wp_seq_k fun K34 hK34 => rgn ?_
    refine VlS (.pointer (some ⟨pb, po + u * 32, none⟩)) ?_
    refine WL.midA (by kernel_rfl) 36 (.tmp 181) rfl pb (po + u * 32) rfl (bytesA 32 h'.f) _ HPr.out Tryz.underlying36 rfl (size36E _) ?_
    simp only [Act.put, pqA, pqB, pqC]
    refine WL.new (by kernel_rfl) 36 rfl (bytesA 32 fun _ => 0) Tryz.new36 ?_
    obtain ⟨wt, hwn⟩ : ∃ wx, Keep (wx = ws.alloc (.cells (bytesA 32 fun _ => 0) 36)) := ⟨_, ⟨rfl⟩⟩
    rw [← hwn.out]
    have HZ3 : Keep (Blk wt ws.heap.size 36 (bytesA 32 fun _ => 0)) := ⟨by rw [hwn.out]; exact Blk.new _ _ _⟩
    have LB3 : Keep (Below ws.heap.size ws wt) := ⟨by rw [hwn.out]; exact below_new _ _⟩
    clear hwn
    simp only [Act.put, pqA, pqB, pqC]
    refine WL.storeR (by kernel_rfl) 36 (.tmp 20) (.tmp 182) rfl ws.heap.size (bytesA 32 h'.f) rfl rfl 36 _ HZ3.out (size36E _) (by rw [bytesA_size, bytesA_size]) (bytesA_one _ _) ?_
    have HH3 := Keep.mk (HZ3.out.setRow (bytesA 32 h'.f))
    have LH : Keep (Below ws.heap.size ws (wt.setRow ws.heap.size (bytesA 32 h'.f))) := ⟨below_setRow LB3.out (Nat.le_refl _) _⟩
    generalize wt.setRow ws.heap.size (bytesA 32 h'.f) = wu at *
    clear HZ3 LB3
    have IBu := Keep.mk (belowC IB.out LH.out)
    generalize ws.heap.size = g3 at *
    clear LH HPr
    simp only [Act.put]
    refine WL.nil (hK34 _ _ ?_)
    refine wp_seq_k fun K35 hK35 => rgn ?_
    refine VlS (.pointer (some ⟨p, 0, none⟩)) ?_
    refine VlS (.int .i64 (n : Int)) ?_
    refine VlS (.pointer (some ⟨p, 0, none⟩)) ?_
    refine WL.row (by kernel_rfl) 36 (.tmp 20) rfl g3 rfl 36 (bytesA 32 h'.f) _ HH3.out Tryz.underlying36 rfl (size36E _) ?_
    simp only [Act.put, pqA, pqB, pqC]
    refine WL.callF (by kernel_rfl) 13 _ _ rfl Tryz.in13 #[.pointer (some ⟨p, 0, none⟩), .agg (bytesA 32 h'.f)] (by simp [Act.eval]) ?_
    refine (number_any H S v p mb ub wu (HP.out.rd.below (belowC D4.out (belowC E9.out (belowC JBe.out IBu.out)))) h').mono ?_
    rintro e wv ⟨rfl, hb⟩
    refine ⟨_, rfl, ?_⟩
    rw [hum.out]
    have IBv := Keep.mk (belowC IBu.out hb)
    clear hb HH3
    simp only [Act.put, pqA, pqB, pqC]
    refine WL.callF (by kernel_rfl) 26 _ _ rfl Tryz.in26 #[.pointer (some ⟨p, 0, none⟩), .int .i64 (n : Int), .int .i64 (m : Int)] (by simp [Act.eval]) ?_
    refine ((by have h := sees_nat H S v p mb ub wv (HP.out.rd.below (belowC D4.out (belowC E9.out (belowC JBe.out IBv.out)))) n m hln hlm; rw [hsf.out] at h; exact h : Calls Tryz.prog 26 #[.pointer (some ⟨p, 0, none⟩), .int .i64 (n : Int), .int .i64 (m : Int)] wv _)).mono ?_
    rintro e wq ⟨rfl, hwq⟩
    refine ⟨_, rfl, ?_⟩
    rw [hwq]
    clear hwq
    simp only [Act.put, pqA, pqB, pqC]
    refine WL.nil (hK35 _ _ ?_)
    refine wp_cond_false rfl ?_
    refine wp_skip ?_
    refine hK33 _ _ ?_
    refine rgn ?_
    refine VlS (.int .i64 ((u + 1 : Nat) : Int)) ?_
    refine VlS (.int .i64 ((u + 1 : Nat) : Int)) ?_
    refine WL.nil ?_
    refine ⟨⟨u + 1, fun zz => [.slice (some ⟨sb, so, none⟩) L.length sc, .agg tv, undef, .pointer (some ⟨gt, 0, none⟩), .bool false, .pointer (some ⟨p, 0, none⟩), .int .i64 0, .int .i64 0, .pointer (some ⟨ga, 0, none⟩), .pointer (some ⟨gb, 0, none⟩), .int .i64 (i : Int), .int .i64 (j : Int), .slice (some ⟨pb, po, none⟩) C.length cc, .int .i64 0, v6, .int .i64 0, undef, .pointer (some ⟨g2, 0, none⟩), .int .i64 (n : Int), undef, .pointer (some ⟨g3, 0, none⟩), .bool true, .bool false, .tuple #[.pointer (some ⟨p, 0, none⟩), .int .i64 0, .int .i64 0], .slice (some ⟨sb, so, none⟩) L.length sc, .tuple #[.pointer (some ⟨p, 0, none⟩), .int .i64 0, .int .i64 0], .pointer (some ⟨p, 0, none⟩), .int .i64 0, .int .i64 0, .int .i64 0, .bool false, .bool false, .pointer (some ⟨p, 0, none⟩), .bool false, .bool false, undef, undef, undef, undef, undef, undef, .pointer (some ⟨gt, 0, none⟩), .int .i64 (k0 : Int), .bool false, .bool false, .pointer (some ⟨gt, 0, none⟩), .int .i64 (k0 : Int), .slice (some ⟨sb, so, none⟩) L.length sc, .int .i64 (L.length : Int), .bool false, .bool false, .bool false, .pointer (some ⟨gt, 1, none⟩), .int .i64 (k1 : Int), .bool false, .bool false, .bool false, .pointer (some ⟨gt, 1, none⟩), .int .i64 (k1 : Int), .slice (some ⟨sb, so, none⟩) L.length sc, .int .i64 (L.length : Int), .bool false, .bool false, .slice (some ⟨sb, so, none⟩) L.length sc, .pointer (some ⟨gt, 0, none⟩), .int .i64 (k0 : Int), .pointer (some ⟨sb, so + k0 * 36, none⟩), .pointer (some ⟨sb, so + k0 * 36, none⟩), .agg ea, .slice (some ⟨sb, so, none⟩) L.length sc, .pointer (some ⟨gt, 1, none⟩), .int .i64 (k1 : Int), .pointer (some ⟨sb, so + k1 * 36, none⟩), .pointer (some ⟨sb, so + k1 * 36, none⟩), .agg eb, .pointer (some ⟨p, 0, none⟩), .agg ea, .int .i64 (i : Int), .pointer (some ⟨p, 0, none⟩), .agg eb, .int .i64 (j : Int), .tuple #[.slice (some ⟨pb, po, none⟩) C.length cc, .int .i64 0], .pointer (some ⟨p, 0, none⟩), .agg ea, .agg eb, .tuple #[.slice (some ⟨pb, po, none⟩) C.length cc, .int .i64 0], .slice (some ⟨pb, po, none⟩) C.length cc, .int .i64 0, .tuple #[v6, .int .i64 0], .pointer (some ⟨p, 0, none⟩), .agg eb, .agg ea, .tuple #[v6, .int .i64 0], v6, .int .i64 0, .int .i64 (i : Int), .bool false, .bool false, .int .i64 (j : Int), .bool false, .bool false, .bool false, .int .i64 0, .bool false, .bool false, .bool false, .int .i64 0, .bool false, .bool false, .bool false, .slice (some ⟨pb, po, none⟩) C.length cc, v6, .bool true, .bool false, .bool false, .bool false, .slice (some ⟨pb, po, none⟩) C.length cc, .bool true, .bool false, .bool false, yr120, yr121, yr122, yr123, yr124, yr125, yr126, yr127, yr128, yr129, yr130, yr131, yr132, yr133, yr134, yr135, yr136, yr137, yr138, yr139, yr140, .bool false, .slice (some ⟨pb, po, none⟩) C.length cc, .int .i64 (C.length : Int), .int .i64 (t : Int), .bool true, .pointer (some ⟨pb, po + t * 32, none⟩), .agg (bytesA 32 h.f), .pointer (some ⟨p, 0, none⟩), .agg (bytesA 32 h.f), .int .i64 (n : Int), ys151, ys152, ys153, ys154, ys155, ys156, ys157, ys158, ys159, ys160, ys161, ys162, ys163, ys164, ys165, ys166, ys167, ys168, ys169, ys170, ys171, ys172, ys173, ys174, ys175, .bool false, .slice (some ⟨pb, po, none⟩) C.length cc, .int .i64 (C.length : Int), .int .i64 ((u + 1 : Nat) : Int), .bool true, .pointer (some ⟨pb, po + u * 32, none⟩), .agg (bytesA 32 h'.f), .pointer (some ⟨p, 0, none⟩), .int .i64 (n : Int), .pointer (some ⟨p, 0, none⟩), .agg (bytesA 32 h'.f), .int .i64 (m : Int), .bool false, .int .i64 ((u + 1 : Nat) : Int), f 190, undef, undef, undef, undef].getD zz undef, rfl, by omega, IBv.out⟩, by simp [intOf]; omega⟩
   ·refine wp_seq_k fun K36 hK36 => rgn ?_
    refine VbF ?_
    refine WL.nil (hK36 _ _ ?_)
    refine wp_seq_k fun K37 hK37 => ?_
    refine wp_cond_false rfl ?_
    refine wp_exit ?_
    refine hK25 _ _ ?_
    refine rgn ?_
    refine VlS (.int .i64 ((t + 1 : Nat) : Int)) ?_
    refine VlS (.int .i64 ((t + 1 : Nat) : Int)) ?_
    refine WL.nil ?_
    refine ⟨⟨t + 1, fun zz => [.slice (some ⟨sb, so, none⟩) L.length sc, .agg tv, undef, .pointer (some ⟨gt, 0, none⟩), .bool false, .pointer (some ⟨p, 0, none⟩), .int .i64 0, .int .i64 0, .pointer (some ⟨ga, 0, none⟩), .pointer (some ⟨gb, 0, none⟩), .int .i64 (i : Int), .int .i64 (j : Int), .slice (some ⟨pb, po, none⟩) C.length cc, .int .i64 0, v6, .int .i64 0, undef, .pointer (some ⟨g2, 0, none⟩), .int .i64 (n : Int), undef, fy 20, .bool true, .bool false, .tuple #[.pointer (some ⟨p, 0, none⟩), .int .i64 0, .int .i64 0], .slice (some ⟨sb, so, none⟩) L.length sc, .tuple #[.pointer (some ⟨p, 0, none⟩), .int .i64 0, .int .i64 0], .pointer (some ⟨p, 0, none⟩), .int .i64 0, .int .i64 0, .int .i64 0, .bool false, .bool false, .pointer (some ⟨p, 0, none⟩), .bool false, .bool false, undef, undef, undef, undef, undef, undef, .pointer (some ⟨gt, 0, none⟩), .int .i64 (k0 : Int), .bool false, .bool false, .pointer (some ⟨gt, 0, none⟩), .int .i64 (k0 : Int), .slice (some ⟨sb, so, none⟩) L.length sc, .int .i64 (L.length : Int), .bool false, .bool false, .bool false, .pointer (some ⟨gt, 1, none⟩), .int .i64 (k1 : Int), .bool false, .bool false, .bool false, .pointer (some ⟨gt, 1, none⟩), .int .i64 (k1 : Int), .slice (some ⟨sb, so, none⟩) L.length sc, .int .i64 (L.length : Int), .bool false, .bool false, .slice (some ⟨sb, so, none⟩) L.length sc, .pointer (some ⟨gt, 0, none⟩), .int .i64 (k0 : Int), .pointer (some ⟨sb, so + k0 * 36, none⟩), .pointer (some ⟨sb, so + k0 * 36, none⟩), .agg ea, .slice (some ⟨sb, so, none⟩) L.length sc, .pointer (some ⟨gt, 1, none⟩), .int .i64 (k1 : Int), .pointer (some ⟨sb, so + k1 * 36, none⟩), .pointer (some ⟨sb, so + k1 * 36, none⟩), .agg eb, .pointer (some ⟨p, 0, none⟩), .agg ea, .int .i64 (i : Int), .pointer (some ⟨p, 0, none⟩), .agg eb, .int .i64 (j : Int), .tuple #[.slice (some ⟨pb, po, none⟩) C.length cc, .int .i64 0], .pointer (some ⟨p, 0, none⟩), .agg ea, .agg eb, .tuple #[.slice (some ⟨pb, po, none⟩) C.length cc, .int .i64 0], .slice (some ⟨pb, po, none⟩) C.length cc, .int .i64 0, .tuple #[v6, .int .i64 0], .pointer (some ⟨p, 0, none⟩), .agg eb, .agg ea, .tuple #[v6, .int .i64 0], v6, .int .i64 0, .int .i64 (i : Int), .bool false, .bool false, .int .i64 (j : Int), .bool false, .bool false, .bool false, .int .i64 0, .bool false, .bool false, .bool false, .int .i64 0, .bool false, .bool false, .bool false, .slice (some ⟨pb, po, none⟩) C.length cc, v6, .bool true, .bool false, .bool false, .bool false, .slice (some ⟨pb, po, none⟩) C.length cc, .bool true, .bool false, .bool false, yr120, yr121, yr122, yr123, yr124, yr125, yr126, yr127, yr128, yr129, yr130, yr131, yr132, yr133, yr134, yr135, yr136, yr137, yr138, yr139, yr140, .bool false, .slice (some ⟨pb, po, none⟩) C.length cc, .int .i64 (C.length : Int), .int .i64 ((t + 1 : Nat) : Int), .bool true, .pointer (some ⟨pb, po + t * 32, none⟩), .agg (bytesA 32 h.f), .pointer (some ⟨p, 0, none⟩), .agg (bytesA 32 h.f), .int .i64 (n : Int), ys151, ys152, ys153, ys154, ys155, ys156, ys157, ys158, ys159, ys160, ys161, ys162, ys163, ys164, ys165, ys166, ys167, ys168, ys169, ys170, ys171, ys172, ys173, ys174, ys175, .bool false, .slice (some ⟨pb, po, none⟩) C.length cc, .int .i64 (C.length : Int), .int .i64 (u : Int), .bool false, fy 181, fy 182, fy 183, fy 184, fy 185, fy 186, fy 187, fy 188, fy 189, .int .i64 ((t + 1 : Nat) : Int), undef, undef, undef, undef].getD zz undef, rfl, by omega, belowC JBe.out IB.out⟩, by simp [intOf]; omega⟩
  by_cases hni : (n : Int) = (i : Int)
  ·by_cases hnj : Keep ((n : Int) = (j : Int))
   ·refine rgn ?_
    refine VlS (.int .i64 (n : Int)) ?_
    refine VbF ?_
    refine VbF ?_
    refine VlS (.int .i64 (n : Int)) ?_
    refine VlS (.int .i64 (i : Int)) ?_
    refine WL.val (by kernel_rfl) (.bool false) (by go_simp) ?_
    have HNI := Keep.mk hni
    clear hni
    simp only [Act.put, pqA, pqB, pqC]
    refine VbF ?_
    refine SkS ?_
    refine SkS ?_
    refine SkS ?_
    refine SkS ?_
    refine SkS ?_
    refine VbF ?_
    refine VbF ?_
    refine VbF ?_
    refine VlS (.int .i64 (n : Int)) ?_
    refine VlS (.int .i64 (j : Int)) ?_
    have hnj' := hnj.out
    refine WL.val (by kernel_rfl) (.bool false) (by go_simp) ?_
    clear hnj'
    simp only [Act.put, pqA, pqB, pqC]
    refine VbF ?_
    refine SkS ?_
    refine SkS ?_
    refine SkS ?_
    refine SkS ?_
    refine SkS ?_
    refine VbF ?_
    refine VbF ?_
    refine WL.nil ?_
    exact rest20 _ _ _ _ _ _ _ _ _ _ _ _ _ _ _ _ _ _ _ _ _ _ _ _ _
   ·refine rgn ?_
    refine VlS (.int .i64 (n : Int)) ?_
    refine VbF ?_
    refine VbF ?_
    refine VlS (.int .i64 (n : Int)) ?_
    refine VlS (.int .i64 (i : Int)) ?_
    refine WL.val (by kernel_rfl) (.bool false) (by go_simp) ?_
    have HNI := Keep.mk hni
    clear hni
    simp only [Act.put, pqA, pqB, pqC]
    refine VbF ?_
    refine SkS ?_
    refine SkS ?_
    refine SkS ?_
    refine SkS ?_
    refine SkS ?_
    refine VbF ?_
    refine VbF ?_
    refine VbF ?_
    refine VlS (.int .i64 (n : Int)) ?_
    refine VlS (.int .i64 (j : Int)) ?_
    have hnj' : ¬ (n : Int) = (j : Int) := fun e => hnj ⟨e⟩
    refine WL.val (by kernel_rfl) (.bool true) (by go_simp) ?_
    have HNJ := Keep.mk hnj'
    clear hnj'
    simp only [Act.put, pqA, pqB, pqC]
    refine VbT ?_
    refine VlS (.pointer (some ⟨p, 0, none⟩)) ?_
    refine VlS (.int .i64 (n : Int)) ?_
    refine VlS (.int .i64 (j : Int)) ?_
    refine WL.callF (by kernel_rfl) 26 _ _ rfl Tryz.in26 #[.pointer (some ⟨p, 0, none⟩), .int .i64 (n : Int), .int .i64 (j : Int)] (by simp [Act.eval]) ?_
    refine ((by have h := sees_nat H S v p mb ub we (HP.out.rd.below (belowC D4.out (belowC E9.out JBe.out))) n j hln hjl; rw [show seesW S n j = true from by (rw [seesW, decide_eq_false (by have := HNJ.out; omega)]; first | (rw [← hi.out, hTn.out.2.2]; done) | (rw [← hi.out, hTn.out.2.2]; rfl) | (rw [← hj.out, hTn.out.2.2]; done) | (rw [← hj.out, hTn.out.2.2]; rfl))] at h; exact h : Calls Tryz.prog 26 #[.pointer (some ⟨p, 0, none⟩), .int .i64 (n : Int), .int .i64 (j : Int)] we _)).mono ?_
    rintro e wq ⟨rfl, hwq⟩
    refine ⟨_, rfl, ?_⟩
    rw [hwq]
    clear hwq
    simp only [Act.put, pqA, pqB, pqC]
    refine VbF ?_
    refine VbF ?_
    refine VbF ?_
    refine WL.nil ?_
    exact rest20 _ _ _ _ _ _ _ _ _ _ _ _ _ _ _ _ _ _ _ _ _ _ _ _ _
  ·by_cases hnj : Keep ((n : Int) = (j : Int))
   ·refine rgn ?_
    refine VlS (.int .i64 (n : Int)) ?_
    refine VbF ?_
    refine VbF ?_
    refine VlS (.int .i64 (n : Int)) ?_
    refine VlS (.int .i64 (i : Int)) ?_
    refine WL.val (by kernel_rfl) (.bool true) (by go_simp) ?_
    have HNI := Keep.mk hni
    clear hni
    simp only [Act.put, pqA, pqB, pqC]
    refine VbT ?_
    refine VlS (.pointer (some ⟨p, 0, none⟩)) ?_
    refine VlS (.int .i64 (n : Int)) ?_
    refine VlS (.int .i64 (i : Int)) ?_
    refine WL.callF (by kernel_rfl) 26 _ _ rfl Tryz.in26 #[.pointer (some ⟨p, 0, none⟩), .int .i64 (n : Int), .int .i64 (i : Int)] (by simp [Act.eval]) ?_
    refine ((by have h := sees_nat H S v p mb ub we (HP.out.rd.below (belowC D4.out (belowC E9.out JBe.out))) n i hln hil; rw [show seesW S n i = true from by (rw [seesW, decide_eq_false (by have := HNI.out; omega)]; first | (rw [← hi.out, hTn.out.2.1]; done) | (rw [← hi.out, hTn.out.2.1]; rfl) | (rw [← hj.out, hTn.out.2.1]; done) | (rw [← hj.out, hTn.out.2.1]; rfl))] at h; exact h : Calls Tryz.prog 26 #[.pointer (some ⟨p, 0, none⟩), .int .i64 (n : Int), .int .i64 (i : Int)] we _)).mono ?_
    rintro e wq ⟨rfl, hwq⟩
    refine ⟨_, rfl, ?_⟩
    rw [hwq]
    clear hwq
    simp only [Act.put, pqA, pqB, pqC]
    refine VbF ?_
    refine VbF ?_
    refine VbF ?_
    refine VbF ?_
    refine VlS (.int .i64 (n : Int)) ?_
    refine VlS (.int .i64 (j : Int)) ?_
    have hnj' := hnj.out
    refine WL.val (by kernel_rfl) (.bool false) (by go_simp) ?_
    clear hnj'
    simp only [Act.put, pqA, pqB, pqC]
    refine VbF ?_
    refine SkS ?_
    refine SkS ?_
    refine SkS ?_
    refine SkS ?_
    refine SkS ?_
    refine VbF ?_
    refine VbF ?_
    refine WL.nil ?_
    exact rest20 _ _ _ _ _ _ _ _ _ _ _ _ _ _ _ _ _ _ _ _ _ _ _ _ _
   ·refine rgn ?_
    refine VlS (.int .i64 (n : Int)) ?_
    refine VbF ?_
    refine VbF ?_
    refine VlS (.int .i64 (n : Int)) ?_
    refine VlS (.int .i64 (i : Int)) ?_
    refine WL.val (by kernel_rfl) (.bool true) (by go_simp) ?_
    have HNI := Keep.mk hni
    clear hni
    simp only [Act.put, pqA, pqB, pqC]
    refine VbT ?_
    refine VlS (.pointer (some ⟨p, 0, none⟩)) ?_
    refine VlS (.int .i64 (n : Int)) ?_
    refine VlS (.int .i64 (i : Int)) ?_
    refine WL.callF (by kernel_rfl) 26 _ _ rfl Tryz.in26 #[.pointer (some ⟨p, 0, none⟩), .int .i64 (n : Int), .int .i64 (i : Int)] (by simp [Act.eval]) ?_
    refine ((by have h := sees_nat H S v p mb ub we (HP.out.rd.below (belowC D4.out (belowC E9.out JBe.out))) n i hln hil; rw [show seesW S n i = true from by (rw [seesW, decide_eq_false (by have := HNI.out; omega)]; first | (rw [← hi.out, hTn.out.2.1]; done) | (rw [← hi.out, hTn.out.2.1]; rfl) | (rw [← hj.out, hTn.out.2.1]; done) | (rw [← hj.out, hTn.out.2.1]; rfl))] at h; exact h : Calls Tryz.prog 26 #[.pointer (some ⟨p, 0, none⟩), .int .i64 (n : Int), .int .i64 (i : Int)] we _)).mono ?_
    rintro e wq ⟨rfl, hwq⟩
    refine ⟨_, rfl, ?_⟩
    rw [hwq]
    clear hwq
    simp only [Act.put, pqA, pqB, pqC]
    refine VbF ?_
    refine VbF ?_
    refine VbF ?_
    refine VbF ?_
    refine VlS (.int .i64 (n : Int)) ?_
    refine VlS (.int .i64 (j : Int)) ?_
    have hnj' : ¬ (n : Int) = (j : Int) := fun e => hnj ⟨e⟩
    refine WL.val (by kernel_rfl) (.bool true) (by go_simp) ?_
    have HNJ := Keep.mk hnj'
    clear hnj'
    simp only [Act.put, pqA, pqB, pqC]
    refine VbT ?_
    refine VlS (.pointer (some ⟨p, 0, none⟩)) ?_
    refine VlS (.int .i64 (n : Int)) ?_
    refine VlS (.int .i64 (j : Int)) ?_
    refine WL.callF (by kernel_rfl) 26 _ _ rfl Tryz.in26 #[.pointer (some ⟨p, 0, none⟩), .int .i64 (n : Int), .int .i64 (j : Int)] (by simp [Act.eval]) ?_
    refine ((by have h := sees_nat H S v p mb ub we (HP.out.rd.below (belowC D4.out (belowC E9.out JBe.out))) n j hln hjl; rw [show seesW S n j = true from by (rw [seesW, decide_eq_false (by have := HNJ.out; omega)]; first | (rw [← hi.out, hTn.out.2.2]; done) | (rw [← hi.out, hTn.out.2.2]; rfl) | (rw [← hj.out, hTn.out.2.2]; done) | (rw [← hj.out, hTn.out.2.2]; rfl))] at h; exact h : Calls Tryz.prog 26 #[.pointer (some ⟨p, 0, none⟩), .int .i64 (n : Int), .int .i64 (j : Int)] we _)).mono ?_
    rintro e wq ⟨rfl, hwq⟩
    refine ⟨_, rfl, ?_⟩
    rw [hwq]
    clear hwq
    simp only [Act.put, pqA, pqB, pqC]
    refine VbF ?_
    refine VbF ?_
    refine VbF ?_
    refine WL.nil ?_
    exact rest20 _ _ _ _ _ _ _ _ _ _ _ _ _ _ _ _ _ _ _ _ _ _ _ _ _
 ·have EX := Keep.mk (belowC E9.out JB.out)
  refine wp_seq_k fun K38 hK38 => rgn ?_
  refine VbF ?_
  refine WL.nil (hK38 _ _ ?_)
  refine wp_seq_k fun K39 hK39 => ?_
  refine wp_cond_false rfl ?_
  refine wp_exit ?_
  refine hK21 _ _ ?_
  refine wp_seq_k fun K40 hK40 => rgn ?_
  refine VlS (.pointer (some ⟨p, 0, none⟩)) ?_
  refine WL.row (by kernel_rfl) 36 (.tmp 8) rfl ga rfl 36 ea _ (HSa.out.below EX.out HSa.out.lt) Tryz.underlying36 rfl (by rw [hea.out]; exact size36E _) ?_
  simp only [Act.put, pqA, pqB, pqC]
  refine WL.row (by kernel_rfl) 36 (.tmp 9) rfl gb rfl 36 eb _ (HSb.out.below EX.out HSb.out.lt) Tryz.underlying36 rfl (by rw [heb.out]; exact size36E _) ?_
  simp only [Act.put, pqA, pqB, pqC]
  refine WL.callF (by kernel_rfl) 30 _ _ rfl Tryz.in30 #[.pointer (some ⟨p, 0, none⟩), .agg ea, .agg eb] (by simp [Act.eval]) ?_
  refine ((by have h := since_law (HP.out.below (belowC D4.out EX.out)) a b Ha.out Hb.out; rw [← hea.out, ← heb.out] at h; exact h : Calls Tryz.prog 30 #[.pointer (some ⟨p, 0, none⟩), .agg ea, .agg eb] wr _)).mono ?_
  rintro e wz ⟨rfl, hb⟩
  refine ⟨_, rfl, ?_⟩
  have EZ := Keep.mk (belowC EX.out hb)
  clear hb
  simp only [Act.put, pqA, pqB, pqC]
  refine VbT ?_
  refine WL.nil (hK40 _ _ ?_)
  refine wp_ret ?_
  go_ret
  exact ⟨rfl, B2.out.trans ((belowC D4.out EZ.out).mono B2.out.size)⟩
end Go.Proofs.YthlohkgdmfkpeaaGreat
namespace Go.Proofs.YthlohkgdmfkpeaaGreat
open Go.RowKit
set_option linter.unusedSimpArgs false
set_option linter.unusedVariables false

set_option maxRecDepth 16000 in
set_option maxHeartbeats 16000000 in
theorem fol_mid {L H : List EP} {S : List (Nat × List Nat)} {w w2 wS w8 : World} {sc gt p mb ub k0 k1 sb so ga gb i j cc : Nat} {tv ea eb : Array Value} {v v6 : Value} {a b : Hs} {C : List Hs} {ca : Option Addr} (B2 : Keep (Below w.heap.size w w2)) (HP : Keep (HisAt w2 p H S v mb ub)) (hea : Keep (ea = bytesA 32 a.f)) (heb : Keep (eb = bytesA 32 b.f)) (Ha : Keep (a ∈ (idsE (exs H)))) (Hb : Keep (b ∈ (idsE (exs H)))) (HSa : Keep (Blk wS ga 36 ea)) (HSb : Keep (Blk wS gb 36 eb)) (D4 : Keep (Below w2.heap.size w2 wS)) (hi : Keep (ixH (idsE (exs H)) a = i)) (hj : Keep (ixH (idsE (exs H)) b = j)) (hil : i < H.length) (hjl : j < H.length) (P5 : Keep (List.Pairwise Lt C)) (M5 : Keep (∀ x : Hs, x ∈ C ↔ x ∈ (ComAt H S a b).map (idAt H))) (HCm : Keep (∀ g : Hs, g ∈ C → g ∈ (idsE (exs H)) ∧ ixH (idsE (exs H)) g ∈ ComAt H S a b)) (HCl : Keep (C.length ≤ 4096)) (O8 : Keep (OwnH w8 (.slice ca C.length cc) C)) (E8 : Keep (Below wS.heap.size wS w8)) : Code.wp Tryz.prog (sndS (sndS (sndS (sndS (sndS (sndS (sndS (sndS (sndS (sndS (bodyC Tryz.f8))))))))))) (bodyPost Tryz.prog Tryz.f8 fun e w' => e = .returned (.bool true) ∧ Below w.heap.size w w') { tmps := #[.slice (some ⟨sb, so, none⟩) L.length sc, .agg tv, undef, .pointer (some ⟨gt, 0, none⟩), .bool false, .pointer (some ⟨p, 0, none⟩), .int .i64 0, .int .i64 0, .pointer (some ⟨ga, 0, none⟩), .pointer (some ⟨gb, 0, none⟩), .int .i64 (i : Int), .int .i64 (j : Int), .slice ca C.length cc, .int .i64 0, v6, .int .i64 0, undef, undef, undef, undef, undef, .bool true, .bool false, .tuple #[.pointer (some ⟨p, 0, none⟩), .int .i64 0, .int .i64 0], .slice (some ⟨sb, so, none⟩) L.length sc, .tuple #[.pointer (some ⟨p, 0, none⟩), .int .i64 0, .int .i64 0], .pointer (some ⟨p, 0, none⟩), .int .i64 0, .int .i64 0, .int .i64 0, .bool false, .bool false, .pointer (some ⟨p, 0, none⟩), .bool false, .bool false, undef, undef, undef, undef, undef, undef, .pointer (some ⟨gt, 0, none⟩), .int .i64 (k0 : Int), .bool false, .bool false, .pointer (some ⟨gt, 0, none⟩), .int .i64 (k0 : Int), .slice (some ⟨sb, so, none⟩) L.length sc, .int .i64 (L.length : Int), .bool false, .bool false, .bool false, .pointer (some ⟨gt, 1, none⟩), .int .i64 (k1 : Int), .bool false, .bool false, .bool false, .pointer (some ⟨gt, 1, none⟩), .int .i64 (k1 : Int), .slice (some ⟨sb, so, none⟩) L.length sc, .int .i64 (L.length : Int), .bool false, .bool false, .slice (some ⟨sb, so, none⟩) L.length sc, .pointer (some ⟨gt, 0, none⟩), .int .i64 (k0 : Int), .pointer (some ⟨sb, so + k0 * 36, none⟩), .pointer (some ⟨sb, so + k0 * 36, none⟩), .agg ea, .slice (some ⟨sb, so, none⟩) L.length sc, .pointer (some ⟨gt, 1, none⟩), .int .i64 (k1 : Int), .pointer (some ⟨sb, so + k1 * 36, none⟩), .pointer (some ⟨sb, so + k1 * 36, none⟩), .agg eb, .pointer (some ⟨p, 0, none⟩), .agg ea, .int .i64 (i : Int), .pointer (some ⟨p, 0, none⟩), .agg eb, .int .i64 (j : Int), .tuple #[.slice ca C.length cc, .int .i64 0], .pointer (some ⟨p, 0, none⟩), .agg ea, .agg eb, .tuple #[.slice ca C.length cc, .int .i64 0], .slice ca C.length cc, .int .i64 0, .tuple #[v6, .int .i64 0], .pointer (some ⟨p, 0, none⟩), .agg eb, .agg ea, .tuple #[v6, .int .i64 0], v6, .int .i64 0, .int .i64 (i : Int), .bool false, .bool false, .int .i64 (j : Int), .bool false, .bool false, .bool false, .int .i64 0, .bool false, .bool false, .bool false, .int .i64 0, .bool false, .bool false, .bool false, .slice ca C.length cc, v6, .bool true, .bool false, .bool false, .bool false, .slice ca C.length cc, .bool true, .bool false, .bool false, undef, undef, undef, undef, undef, undef, undef, undef, undef, undef, undef, undef, undef, undef, undef, undef, undef, undef, undef, undef, undef, undef, undef, undef, undef, undef, undef, undef, undef, undef, undef, undef, undef, undef, undef, undef, undef, undef, undef, undef, undef, undef, undef, undef, undef, undef, undef, undef, undef, undef, undef, undef, undef, undef, undef, undef, undef, undef, undef, undef, undef, undef, undef, undef, undef, undef, undef, undef, undef, undef, undef, undef, undef, undef, undef], defers := [] } w8 := by
 generalize hg : (bodyPost Tryz.prog Tryz.f8 fun e w' => e = .returned (.bool true) ∧ Below w.heap.size w w') = Q
 unfold Tryz.f8
 simp only [bodyC, sndS]
 subst hg
 refine wp_seq_k fun K19 hK19 => ?_
 refine wp_seq_k fun K20 hK20 => ?_
 have E9 : Keep (Below wS.heap.size wS w8.drew) := ⟨E8.out.drew⟩
 have O9 : Keep (OwnH w8.drew (.slice ca C.length cc) C) := ⟨O8.out.below (Below.refl _ _).drew⟩
 have rest : ∀ (yr120 yr121 yr122 yr123 yr124 yr125 yr126 yr127 yr128 yr129 yr130 yr131 yr132 yr133 yr134 yr135 yr136 yr137 yr138 yr139 yr140 : Value), K20 { tmps := #[.slice (some ⟨sb, so, none⟩) L.length sc, .agg tv, undef, .pointer (some ⟨gt, 0, none⟩), .bool false, .pointer (some ⟨p, 0, none⟩), .int .i64 0, .int .i64 0, .pointer (some ⟨ga, 0, none⟩), .pointer (some ⟨gb, 0, none⟩), .int .i64 (i : Int), .int .i64 (j : Int), .slice ca C.length cc, .int .i64 0, v6, .int .i64 0, undef, undef, undef, undef, undef, .bool true, .bool false, .tuple #[.pointer (some ⟨p, 0, none⟩), .int .i64 0, .int .i64 0], .slice (some ⟨sb, so, none⟩) L.length sc, .tuple #[.pointer (some ⟨p, 0, none⟩), .int .i64 0, .int .i64 0], .pointer (some ⟨p, 0, none⟩), .int .i64 0, .int .i64 0, .int .i64 0, .bool false, .bool false, .pointer (some ⟨p, 0, none⟩), .bool false, .bool false, undef, undef, undef, undef, undef, undef, .pointer (some ⟨gt, 0, none⟩), .int .i64 (k0 : Int), .bool false, .bool false, .pointer (some ⟨gt, 0, none⟩), .int .i64 (k0 : Int), .slice (some ⟨sb, so, none⟩) L.length sc, .int .i64 (L.length : Int), .bool false, .bool false, .bool false, .pointer (some ⟨gt, 1, none⟩), .int .i64 (k1 : Int), .bool false, .bool false, .bool false, .pointer (some ⟨gt, 1, none⟩), .int .i64 (k1 : Int), .slice (some ⟨sb, so, none⟩) L.length sc, .int .i64 (L.length : Int), .bool false, .bool false, .slice (some ⟨sb, so, none⟩) L.length sc, .pointer (some ⟨gt, 0, none⟩), .int .i64 (k0 : Int), .pointer (some ⟨sb, so + k0 * 36, none⟩), .pointer (some ⟨sb, so + k0 * 36, none⟩), .agg ea, .slice (some ⟨sb, so, none⟩) L.length sc, .pointer (some ⟨gt, 1, none⟩), .int .i64 (k1 : Int), .pointer (some ⟨sb, so + k1 * 36, none⟩), .pointer (some ⟨sb, so + k1 * 36, none⟩), .agg eb, .pointer (some ⟨p, 0, none⟩), .agg ea, .int .i64 (i : Int), .pointer (some ⟨p, 0, none⟩), .agg eb, .int .i64 (j : Int), .tuple #[.slice ca C.length cc, .int .i64 0], .pointer (some ⟨p, 0, none⟩), .agg ea, .agg eb, .tuple #[.slice ca C.length cc, .int .i64 0], .slice ca C.length cc, .int .i64 0, .tuple #[v6, .int .i64 0], .pointer (some ⟨p, 0, none⟩), .agg eb, .agg ea, .tuple #[v6, .int .i64 0], v6, .int .i64 0, .int .i64 (i : Int), .bool false, .bool false, .int .i64 (j : Int), .bool false, .bool false, .bool false, .int .i64 0, .bool false, .bool false, .bool false, .int .i64 0, .bool false, .bool false, .bool false, .slice ca C.length cc, v6, .bool true, .bool false, .bool false, .bool false, .slice ca C.length cc, .bool true, .bool false, .bool false, yr120, yr121, yr122, yr123, yr124, yr125, yr126, yr127, yr128, yr129, yr130, yr131, yr132, yr133, yr134, yr135, yr136, yr137, yr138, yr139, yr140, .bool false, undef, undef, undef, undef, undef, undef, undef, undef, undef, undef, undef, undef, undef, undef, undef, undef, undef, undef, undef, undef, undef, undef, undef, undef, undef, undef, undef, undef, undef, undef, undef, undef, undef, undef, undef, undef, undef, undef, undef, undef, undef, undef, undef, undef, undef, undef, undef, undef, undef, undef, undef, undef, undef], defers := [] } w8.drew := by
  intro yr120 yr121 yr122 yr123 yr124 yr125 yr126 yr127 yr128 yr129 yr130 yr131 yr132 yr133 yr134 yr135 yr136 yr137 yr138 yr139 yr140
  refine hK20 _ _ ?_
  refine wp_cond_false rfl ?_
  refine wp_skip ?_
  refine hK19 _ _ ?_
  exact fol_end B2 HP hea heb Ha Hb HSa HSb D4 hi hj hil hjl HCm HCl E9 O9
 obtain ⟨sw, hsw⟩ : ∃ b, Keep (hasW ((S.map (·.2)).getD j []) i = b) := ⟨_, ⟨rfl⟩⟩
 cases sw
 ·have hij : ¬ (i : Int) = (j : Int) := fun e => by
   have e' : i = j := by omega
   have h := HP.out.hst.self (i := i) (by rw [exs_len]; exact hil)
   have h2 := hsw.out
   rw [e'] at h h2
   rw [h] at h2
   cases h2
  have hse : seesW S i j = false := by rw [seesW, hsw.out, Bool.and_false]
  refine wp_region_held_drew (S := fun wz => wz = w8.drew) (by kernel_rfl) (rfl) (fun hHeld => ?_)
  refine TkC (i := 0) (oi := ⟨some 120, Op.move (Operand.tmp 10), 3, _, _, none⟩) (v := .int .i64 (i : Int)) rfl hHeld ?_
  refine TkC (i := 1) (oi := ⟨some 121, Op.move (Operand.tmp 11), 3, _, _, none⟩) (v := .int .i64 (j : Int)) rfl hHeld ?_
  refine TkC (i := 2) (oi := ⟨some 122, Op.binOp BinOp.eql 3 (Operand.tmp 120) (Operand.tmp 121) 3, 4, _, _, none⟩) (v := .bool false) rfl hHeld ?_
  refine TkC (i := 3) (oi := ⟨some 123, Op.move (Operand.tmp 122), 4, _, _, none⟩) (v := .bool false) rfl hHeld ?_
  refine TkC (i := 4) (oi := ⟨some 124, Op.move (Operand.tmp 5), 25, _, _, some (3, false)⟩) (v := .pointer (some ⟨p, 0, none⟩)) rfl hHeld ?_
  refine TkC (i := 5) (oi := ⟨some 125, Op.move (Operand.tmp 10), 3, _, _, some (3, false)⟩) (v := .int .i64 (i : Int)) rfl hHeld ?_
  refine TkC (i := 6) (oi := ⟨some 126, Op.move (Operand.tmp 11), 3, _, _, some (3, false)⟩) (v := .int .i64 (j : Int)) rfl hHeld ?_
  refine wpAnyH_ready (rs := [7]) (by kernel_rfl) (by simp) ?_
  refine AllReadyH.cons (o := ⟨some 127, Op.call { callee := Callee.value (Operand.func 26), args := #[Operand.tmp 124, Operand.tmp 125, Operand.tmp 126], argTypes := #[25, 3, 3] }, 4, _, _, some (3, false)⟩) rfl (fun K hK => ?_) AllReadyH.nil
  rw [if_pos (by rfl)]
  refine wp_callF 26 _ _ rfl Tryz.in26 #[.pointer (some ⟨p, 0, none⟩), .int .i64 (i : Int), .int .i64 (j : Int)] (by simp [Act.eval]) (fun uu w' => uu = .bool false ∧ w' = w8.drew) ((sees_nat H S v p mb ub w8.drew (HP.out.rd.below (belowC D4.out E9.out)) i j hil hjl).mono fun e w' h => ⟨_, h.1, by rw [hse], h.2⟩) ?_
  rintro _ _ ⟨rfl, rfl⟩
  refine hK _ _ rfl fun hQ3 => ?_
  clear hK
  simp only [Act.put, pqA, pqB, pqC]
  refine TkC (i := 8) (oi := ⟨some 128, Op.pick (Operand.tmp 123) (Operand.const (Value.bool true)) (Operand.tmp 127), 4, _, _, none⟩) (v := .bool false) rfl hQ3 ?_
  refine TkC (i := 9) (oi := ⟨some 129, Op.move (Operand.tmp 128), 4, _, _, none⟩) (v := .bool false) rfl hQ3 ?_
  refine tkS (i := 10) (oi := ⟨some 130, Op.move (Operand.tmp 12), 24, _, _, some (9, true)⟩) (v := undef) rfl (Or.inr ⟨by rfl, rfl⟩) hQ3 ?_
  refine tkS (i := 11) (oi := ⟨some 131, Op.call { callee := Callee.builtin Builtin.len, args := #[Operand.tmp 130], argTypes := #[24] }, 3, _, _, some (9, true)⟩) (v := undef) rfl (Or.inr ⟨by rfl, rfl⟩) hQ3 ?_
  refine tkS (i := 12) (oi := ⟨some 132, Op.binOp BinOp.eql 3 (Operand.tmp 131) (Operand.const (Value.int IntKind.i64 1)) 3, 4, _, _, some (9, true)⟩) (v := undef) rfl (Or.inr ⟨by rfl, rfl⟩) hQ3 ?_
  refine tkS (i := 13) (oi := ⟨some 133, Op.move (Operand.tmp 132), 4, _, _, some (9, true)⟩) (v := undef) rfl (Or.inr ⟨by rfl, rfl⟩) hQ3 ?_
  refine tkS (i := 14) (oi := ⟨some 134, Op.move (Operand.tmp 12), 24, _, _, some (13, true)⟩) (v := undef) rfl (Or.inr ⟨by rfl, rfl⟩) hQ3 ?_
  refine tkS (i := 15) (oi := ⟨some 135, Op.indexAddr 24 (Operand.tmp 134) (Operand.const (Value.int IntKind.i64 0)), 0, _, _, some (13, true)⟩) (v := undef) rfl (Or.inr ⟨by rfl, rfl⟩) hQ3 ?_
  refine tkS (i := 16) (oi := ⟨some 136, Op.load 36 (Operand.tmp 135), 36, _, _, some (13, true)⟩) (v := undef) rfl (Or.inr ⟨by rfl, rfl⟩) hQ3 ?_
  refine tkS (i := 17) (oi := ⟨some 137, Op.load 36 (Operand.tmp 8), 36, _, _, some (13, true)⟩) (v := undef) rfl (Or.inr ⟨by rfl, rfl⟩) hQ3 ?_
  refine tkS (i := 18) (oi := ⟨some 138, Op.binOp BinOp.eql 36 (Operand.tmp 136) (Operand.tmp 137) 36, 4, _, _, some (13, true)⟩) (v := undef) rfl (Or.inr ⟨by rfl, rfl⟩) hQ3 ?_
  refine tkS (i := 19) (oi := ⟨some 139, Op.pick (Operand.tmp 133) (Operand.tmp 138) (Operand.const (Value.bool false)), 4, _, _, some (9, true)⟩) (v := undef) rfl (Or.inr ⟨by rfl, rfl⟩) hQ3 ?_
  refine tkS (i := 20) (oi := ⟨some 140, Op.unOp UnOp.not 4 (Operand.tmp 139), 4, _, _, some (9, true)⟩) (v := undef) rfl (Or.inr ⟨by rfl, rfl⟩) hQ3 ?_
  refine TkC (i := 21) (oi := ⟨some 141, Op.pick (Operand.tmp 129) (Operand.tmp 140) (Operand.const (Value.bool false)), 4, _, _, none⟩) (v := .bool false) rfl hQ3 ?_
  refine wpAnyH_done (by kernel_rfl) ?_ _
  exact rest _ _ _ _ _ _ _ _ _ _ _ _ _ _ _ _ _ _ _ _ _
 ·have hCa : C = [a] := com_one HP.out.hst Ha.out Hb.out P5.out M5.out (by rw [hi.out, hj.out]; exact hsw.out)
  subst hCa
  obtain ⟨lb, lo, hca, hlr⟩ := hrow_at O9.out.row (t := 0) (by simp)
  subst hca
  have HLr : Keep (w8.drew.rangeAt lb lo ea.toList) := ⟨by rw [hea.out]; simpa using hlr⟩
  clear hlr
  have HAr : Keep (w8.drew.rangeAt ga 0 ea.toList) := ⟨blk_range (HSa.out.below E9.out HSa.out.lt)⟩
  by_cases hij : (i : Int) = (j : Int)
  ·refine wp_region_held_drew (S := fun wz => wz = w8.drew) (by kernel_rfl) (rfl) (fun hHeld => ?_)
   refine TkC (i := 0) (oi := ⟨some 120, Op.move (Operand.tmp 10), 3, _, _, none⟩) (v := .int .i64 (i : Int)) rfl hHeld ?_
   refine TkC (i := 1) (oi := ⟨some 121, Op.move (Operand.tmp 11), 3, _, _, none⟩) (v := .int .i64 (j : Int)) rfl hHeld ?_
   refine TkC (i := 2) (oi := ⟨some 122, Op.binOp BinOp.eql 3 (Operand.tmp 120) (Operand.tmp 121) 3, 4, _, _, none⟩) (v := .bool true) rfl hHeld ?_
   refine TkC (i := 3) (oi := ⟨some 123, Op.move (Operand.tmp 122), 4, _, _, none⟩) (v := .bool true) rfl hHeld ?_
   refine tkS (i := 4) (oi := ⟨some 124, Op.move (Operand.tmp 5), 25, _, _, some (3, false)⟩) (v := undef) rfl (Or.inr ⟨by rfl, rfl⟩) hHeld ?_
   refine tkS (i := 5) (oi := ⟨some 125, Op.move (Operand.tmp 10), 3, _, _, some (3, false)⟩) (v := undef) rfl (Or.inr ⟨by rfl, rfl⟩) hHeld ?_
   refine tkS (i := 6) (oi := ⟨some 126, Op.move (Operand.tmp 11), 3, _, _, some (3, false)⟩) (v := undef) rfl (Or.inr ⟨by rfl, rfl⟩) hHeld ?_
   refine tkS (i := 7) (oi := ⟨some 127, Op.call { callee := Callee.value (Operand.func 26), args := #[Operand.tmp 124, Operand.tmp 125, Operand.tmp 126], argTypes := #[25, 3, 3] }, 4, _, _, some (3, false)⟩) (v := undef) rfl (Or.inr ⟨by rfl, rfl⟩) hHeld ?_
   refine TkC (i := 8) (oi := ⟨some 128, Op.pick (Operand.tmp 123) (Operand.const (Value.bool true)) (Operand.tmp 127), 4, _, _, none⟩) (v := .bool true) rfl hHeld ?_
   refine TkC (i := 9) (oi := ⟨some 129, Op.move (Operand.tmp 128), 4, _, _, none⟩) (v := .bool true) rfl hHeld ?_
   refine TkC (i := 10) (oi := ⟨some 130, Op.move (Operand.tmp 12), 24, _, _, some (9, true)⟩) (v := .slice (some ⟨lb, lo, none⟩) ([a] : List Hs).length cc) rfl hHeld ?_
   refine TkC (i := 11) (oi := ⟨some 131, Op.call { callee := Callee.builtin Builtin.len, args := #[Operand.tmp 130], argTypes := #[24] }, 3, _, _, some (9, true)⟩) (v := .int .i64 1) rfl hHeld ?_
   refine TkC (i := 12) (oi := ⟨some 132, Op.binOp BinOp.eql 3 (Operand.tmp 131) (Operand.const (Value.int IntKind.i64 1)) 3, 4, _, _, some (9, true)⟩) (v := .bool true) rfl hHeld ?_
   refine TkC (i := 13) (oi := ⟨some 133, Op.move (Operand.tmp 132), 4, _, _, some (9, true)⟩) (v := .bool true) rfl hHeld ?_
   refine TkC (i := 14) (oi := ⟨some 134, Op.move (Operand.tmp 12), 24, _, _, some (13, true)⟩) (v := .slice (some ⟨lb, lo, none⟩) ([a] : List Hs).length cc) rfl hHeld ?_
   refine TkC (i := 15) (oi := ⟨some 135, Op.indexAddr 24 (Operand.tmp 134) (Operand.const (Value.int IntKind.i64 0)), 0, _, _, some (13, true)⟩) (v := .pointer (some ⟨lb, lo, none⟩)) rfl hHeld ?_
   refine tkS (i := 16) (oi := ⟨some 136, Op.load 36 (Operand.tmp 135), 36, _, _, some (13, true)⟩) (v := .agg ea) rfl (yieldsIf_ld (by rfl) (Operand.tmp 135) 36 rfl lb lo rfl ea _ Tryz.underlying36 rfl (by rw [hea.out]; exact size36E _) fun w hS => hS ▸ HLr.out) hHeld ?_
   refine tkS (i := 17) (oi := ⟨some 137, Op.load 36 (Operand.tmp 8), 36, _, _, some (13, true)⟩) (v := .agg ea) rfl (yieldsIf_ld (by rfl) (Operand.tmp 8) 36 rfl ga 0 rfl ea _ Tryz.underlying36 rfl (by rw [hea.out]; exact size36E _) fun w hS => hS ▸ HAr.out) hHeld ?_
   refine tkS (i := 18) (oi := ⟨some 138, Op.binOp BinOp.eql 36 (Operand.tmp 136) (Operand.tmp 137) 36, 4, _, _, some (13, true)⟩) (v := .bool true) rfl (Or.inl ⟨by rfl, fun w hS => by clear hS; rw [hea.out]; go_simp; rw [run_equal_arr2, all_eq_iff, decide_eq_true rfl]; rfl⟩) hHeld ?_
   refine TkC (i := 19) (oi := ⟨some 139, Op.pick (Operand.tmp 133) (Operand.tmp 138) (Operand.const (Value.bool false)), 4, _, _, some (9, true)⟩) (v := .bool true) rfl hHeld ?_
   refine TkC (i := 20) (oi := ⟨some 140, Op.unOp UnOp.not 4 (Operand.tmp 139), 4, _, _, some (9, true)⟩) (v := .bool false) rfl hHeld ?_
   refine TkC (i := 21) (oi := ⟨some 141, Op.pick (Operand.tmp 129) (Operand.tmp 140) (Operand.const (Value.bool false)), 4, _, _, none⟩) (v := .bool false) rfl hHeld ?_
   refine wpAnyH_done (by kernel_rfl) ?_ _
   exact rest _ _ _ _ _ _ _ _ _ _ _ _ _ _ _ _ _ _ _ _ _
  ·have hse : seesW S i j = true := by rw [seesW, hsw.out, decide_eq_false (by omega)]; rfl
   refine wp_region_held_drew (S := fun wz => wz = w8.drew) (by kernel_rfl) (rfl) (fun hHeld => ?_)
   refine TkC (i := 0) (oi := ⟨some 120, Op.move (Operand.tmp 10), 3, _, _, none⟩) (v := .int .i64 (i : Int)) rfl hHeld ?_
   refine TkC (i := 1) (oi := ⟨some 121, Op.move (Operand.tmp 11), 3, _, _, none⟩) (v := .int .i64 (j : Int)) rfl hHeld ?_
   refine TkC (i := 2) (oi := ⟨some 122, Op.binOp BinOp.eql 3 (Operand.tmp 120) (Operand.tmp 121) 3, 4, _, _, none⟩) (v := .bool false) rfl hHeld ?_
   refine TkC (i := 3) (oi := ⟨some 123, Op.move (Operand.tmp 122), 4, _, _, none⟩) (v := .bool false) rfl hHeld ?_
   refine TkC (i := 4) (oi := ⟨some 124, Op.move (Operand.tmp 5), 25, _, _, some (3, false)⟩) (v := .pointer (some ⟨p, 0, none⟩)) rfl hHeld ?_
   refine TkC (i := 5) (oi := ⟨some 125, Op.move (Operand.tmp 10), 3, _, _, some (3, false)⟩) (v := .int .i64 (i : Int)) rfl hHeld ?_
   refine TkC (i := 6) (oi := ⟨some 126, Op.move (Operand.tmp 11), 3, _, _, some (3, false)⟩) (v := .int .i64 (j : Int)) rfl hHeld ?_
   refine wpAnyH_ready (rs := [7]) (by kernel_rfl) (by simp) ?_
   refine AllReadyH.cons (o := ⟨some 127, Op.call { callee := Callee.value (Operand.func 26), args := #[Operand.tmp 124, Operand.tmp 125, Operand.tmp 126], argTypes := #[25, 3, 3] }, 4, _, _, some (3, false)⟩) rfl (fun K hK => ?_) AllReadyH.nil
   rw [if_pos (by rfl)]
   refine wp_callF 26 _ _ rfl Tryz.in26 #[.pointer (some ⟨p, 0, none⟩), .int .i64 (i : Int), .int .i64 (j : Int)] (by simp [Act.eval]) (fun uu w' => uu = .bool true ∧ w' = w8.drew) ((sees_nat H S v p mb ub w8.drew (HP.out.rd.below (belowC D4.out E9.out)) i j hil hjl).mono fun e w' h => ⟨_, h.1, by rw [hse], h.2⟩) ?_
   rintro _ _ ⟨rfl, rfl⟩
   refine hK _ _ rfl fun hQ3 => ?_
   clear hK
   simp only [Act.put, pqA, pqB, pqC]
   refine TkC (i := 8) (oi := ⟨some 128, Op.pick (Operand.tmp 123) (Operand.const (Value.bool true)) (Operand.tmp 127), 4, _, _, none⟩) (v := .bool true) rfl hQ3 ?_
   refine TkC (i := 9) (oi := ⟨some 129, Op.move (Operand.tmp 128), 4, _, _, none⟩) (v := .bool true) rfl hQ3 ?_
   refine TkC (i := 10) (oi := ⟨some 130, Op.move (Operand.tmp 12), 24, _, _, some (9, true)⟩) (v := .slice (some ⟨lb, lo, none⟩) ([a] : List Hs).length cc) rfl hQ3 ?_
   refine TkC (i := 11) (oi := ⟨some 131, Op.call { callee := Callee.builtin Builtin.len, args := #[Operand.tmp 130], argTypes := #[24] }, 3, _, _, some (9, true)⟩) (v := .int .i64 1) rfl hQ3 ?_
   refine TkC (i := 12) (oi := ⟨some 132, Op.binOp BinOp.eql 3 (Operand.tmp 131) (Operand.const (Value.int IntKind.i64 1)) 3, 4, _, _, some (9, true)⟩) (v := .bool true) rfl hQ3 ?_
   refine TkC (i := 13) (oi := ⟨some 133, Op.move (Operand.tmp 132), 4, _, _, some (9, true)⟩) (v := .bool true) rfl hQ3 ?_
   refine TkC (i := 14) (oi := ⟨some 134, Op.move (Operand.tmp 12), 24, _, _, some (13, true)⟩) (v := .slice (some ⟨lb, lo, none⟩) ([a] : List Hs).length cc) rfl hQ3 ?_
   refine TkC (i := 15) (oi := ⟨some 135, Op.indexAddr 24 (Operand.tmp 134) (Operand.const (Value.int IntKind.i64 0)), 0, _, _, some (13, true)⟩) (v := .pointer (some ⟨lb, lo, none⟩)) rfl hQ3 ?_
   refine tkS (i := 16) (oi := ⟨some 136, Op.load 36 (Operand.tmp 135), 36, _, _, some (13, true)⟩) (v := .agg ea) rfl (yieldsIf_ld (by rfl) (Operand.tmp 135) 36 rfl lb lo rfl ea _ Tryz.underlying36 rfl (by rw [hea.out]; exact size36E _) fun w hS => hS ▸ HLr.out) hQ3 ?_
   refine tkS (i := 17) (oi := ⟨some 137, Op.load 36 (Operand.tmp 8), 36, _, _, some (13, true)⟩) (v := .agg ea) rfl (yieldsIf_ld (by rfl) (Operand.tmp 8) 36 rfl ga 0 rfl ea _ Tryz.underlying36 rfl (by rw [hea.out]; exact size36E _) fun w hS => hS ▸ HAr.out) hQ3 ?_
   refine tkS (i := 18) (oi := ⟨some 138, Op.binOp BinOp.eql 36 (Operand.tmp 136) (Operand.tmp 137) 36, 4, _, _, some (13, true)⟩) (v := .bool true) rfl (Or.inl ⟨by rfl, fun w hS => by clear hS; rw [hea.out]; go_simp; rw [run_equal_arr2, all_eq_iff, decide_eq_true rfl]; rfl⟩) hQ3 ?_
   refine TkC (i := 19) (oi := ⟨some 139, Op.pick (Operand.tmp 133) (Operand.tmp 138) (Operand.const (Value.bool false)), 4, _, _, some (9, true)⟩) (v := .bool true) rfl hQ3 ?_
   refine TkC (i := 20) (oi := ⟨some 140, Op.unOp UnOp.not 4 (Operand.tmp 139), 4, _, _, some (9, true)⟩) (v := .bool false) rfl hQ3 ?_
   refine TkC (i := 21) (oi := ⟨some 141, Op.pick (Operand.tmp 129) (Operand.tmp 140) (Operand.const (Value.bool false)), 4, _, _, none⟩) (v := .bool false) rfl hQ3 ?_
   refine wpAnyH_done (by kernel_rfl) ?_ _
   exact rest _ _ _ _ _ _ _ _ _ _ _ _ _ _ _ _ _ _ _ _ _
end Go.Proofs.YthlohkgdmfkpeaaGreat
