import Derived.Test.YthlohkgdmfkpeaaGreatB17
namespace Go.Proofs.YthlohkgdmfkpeaaGreat
open Go.RowKit
set_option linter.unusedSimpArgs false
set_option linter.unusedVariables false

theorem com_at {H : List EP} {S : List (Nat × List Nat)} (hst : Hst (exs H) (S.map (·.2))) {a b : Hs} (ha : a ∈ (idsE (exs H))) (hb : b ∈ (idsE (exs H))) {L : List Hs} (hL : ∀ x, x ∈ L ↔ x ∈ (ComAt H S a b).map (idAt H)) {x : Hs} (hx : x ∈ L) : x ∈ (idsE (exs H)) ∧ ixH (idsE (exs H)) x ∈ ComAt H S a b := by
 obtain ⟨t, ht, e⟩ := List.mem_map.1 ((hL x).1 hx)
 have h1 := ((comAt_ok hst ha hb).mem t ht).1
 rw [← e, idAt_ix hst.nd h1]
 exact ⟨idAt_mem h1, ht⟩
theorem com_one {H : List EP} {S : List (Nat × List Nat)} (hst : Hst (exs H) (S.map (·.2))) {a b : Hs} (ha : a ∈ (idsE (exs H))) (hb : b ∈ (idsE (exs H))) {L : List Hs} (hp : L.Pairwise Lt) (hL : ∀ x, x ∈ L ↔ x ∈ (ComAt H S a b).map (idAt H)) (h : hasW ((S.map (·.2)).getD (ixH (idsE (exs H)) b) []) (ixH (idsE (exs H)) a) = true) : L = [a] := by
 have h1 := (comAt_ok hst ha hb).one hst (ix_lt ha) h
 have e : idAt H (ixH (idsE (exs H)) a) = a := by
  unfold idAt
  rw [List.getElem?_eq_getElem (ix_lt ha), Option.getD_some, ← ids_get (ix_lt ha)]
  exact ixH_get (ixH_lt.2 ha)
 refine only_one hp fun y => ?_
 rw [hL y, List.mem_map, List.mem_singleton]
 constructor
 ·rintro ⟨t, ht, rfl⟩
  rw [h1.2 t ht, e]
 ·rintro rfl
  exact ⟨_, h1.1, e⟩
theorem lt_len {L : List Hs} {X : List EX} (hp : L.Pairwise Lt) (hm : ∀ g ∈ L, g ∈ idsE X) : L.length ≤ X.length := by
 have h := (List.Nodup.length_le_of_subset' (hp.imp fun {a b} h e => by subst e; exact Lt.irrefl _ h) hm)
 rwa [idsE_len] at h
set_option maxRecDepth 16000 in
set_option maxHeartbeats 16000000 in
theorem follows_good (v0 : Value) (L : List EP) (x0 x1 : Int) (w : World) (hs : ESl w v0 L) (hi : EIn w L) (hL : L.length ≤ 4398046511104) (hG : Good (exs L)) : Calls Tryz.prog 8 #[v0, .agg #[.int .i64 x0, .int .i64 x1]] w fun e w' => e = .returned (.bool true) ∧ Below w.heap.size w w' := by
 obtain ⟨sa, sc, rfl⟩ := hs.form
 have HS := Keep.mk hs
 have HI := Keep.mk hi
 have HL := Keep.mk hL
 obtain ⟨tv, htv⟩ : ∃ c : Array Value, Keep (c = #[.int .i64 x0, .int .i64 x1]) := ⟨_, ⟨rfl⟩⟩
 rw [← htv.out]
 have HG := Keep.mk hG
 clear hs hi hL hG
 go_enter Tryz.func8, Tryz.ntmps8
 refine wp_seq_k fun K1 hK1 => rgn ?_
 refine WL.box (by kernel_rfl) 66 (.tmp 1) rfl (tv) rfl ?_
 obtain ⟨w0, hwn⟩ : ∃ wx, Keep (wx = w.alloc (.cells (tv) 66)) := ⟨_, ⟨rfl⟩⟩
 rw [← hwn.out]
 have HT0 : Keep (Blk w0 w.heap.size 66 (tv)) := ⟨by rw [hwn.out]; exact Blk.new _ _ _⟩
 have L0 : Keep (Below w.heap.size w w0) := ⟨by rw [hwn.out]; exact below_new _ _⟩
 clear hwn
 obtain ⟨gt, hgt⟩ : ∃ g, Keep (g = w.heap.size) := ⟨_, ⟨rfl⟩⟩
 rw [← hgt.out] at HT0 ⊢
 clear hgt
 simp only [Act.put, pqA, pqB, pqC]
 refine VlN (.bool false) ?_
 simp only [Act.put, pqA, pqB, pqC]
 refine WL.nil (hK1 _ _ ?_)
 refine wp_seq_k fun K2 hK2 => ?_
 refine wp_seq_k fun K3 hK3 => rgn ?_
 refine WL.callF (by kernel_rfl) 9 _ _ rfl Tryz.in9 #[] (by simp) ?_
 refine (awake_any w0).mono ?_
 rintro e w1 ⟨rfl, hb⟩
 refine ⟨_, rfl, ?_⟩
 have B1 := Keep.mk (belowC L0.out hb)
 have HT1 := Keep.mk (HT0.out.below hb HT0.out.lt)
 clear hb HT0
 simp only [Act.put, pqA, pqB, pqC]
 refine VlN (.bool false) ?_
 simp only [Act.put, pqA, pqB, pqC]
 refine WL.nil (hK3 _ _ ?_)
 refine wp_cond_false rfl ?_
 refine wp_skip ?_
 refine hK2 _ _ ?_
 refine wp_seq_k fun K4 hK4 => rgn ?_
 refine VlN (.slice sa L.length sc) ?_
 simp only [Act.put, pqA, pqB, pqC]
 refine WL.callF (by kernel_rfl) 10 _ _ rfl Tryz.in10 #[.slice sa L.length sc] (by simp [Act.eval]) ?_
 refine (of_any _ L w1 (HS.out.below B1.out) (HI.out.below B1.out) HL.out).mono ?_
 rintro e w2 (⟨p, H, S, rfl, hP⟩ | ⟨-, i, hi, -, hne, -⟩ | ⟨-, -, i, hi, -, hne, -⟩)
 rotate_left
 ·exact absurd (HG.out.al i (by rw [exs_len]; exact hi)) hne
 ·exact absurd (HG.out.tg i (by rw [exs_len]; exact hi)) hne
 refine ⟨_, rfl, ?_⟩
 have B2 : Keep (Below w.heap.size w w2) := ⟨belowC B1.out hP.bel⟩
 have HT2 := Keep.mk (HT1.out.below hP.bel HT1.out.lt)
 have c0 : w2.cell? ⟨gt, 0, none⟩ = some (.int .i64 x0) := by have h := HT2.out; rw [htv.out] at h; exact h.c 0 rfl
 have c1 : w2.cell? ⟨gt, 1, none⟩ = some (.int .i64 x1) := by have h := HT2.out; rw [htv.out] at h; exact h.c 1 rfl
 have HMm := Keep.mk hP.mem
 obtain ⟨v, mb, ub, hHis⟩ := his_of hP
 have HP := Keep.mk hHis
 clear hP hHis HT1
 simp only [Act.put, pqA, pqB, pqC]
 refine VlN (.tuple #[.pointer (some ⟨p, 0, none⟩), .int .i64 0, .int .i64 0]) ?_
 simp only [Act.put, pqA, pqB, pqC]
 refine VlN (.pointer (some ⟨p, 0, none⟩)) ?_
 simp only [Act.put, pqA, pqB, pqC]
 refine VlN (.int .i64 0) ?_
 simp only [Act.put, pqA, pqB, pqC]
 refine VlN (.int .i64 0) ?_
 simp only [Act.put, pqA, pqB, pqC]
 refine VlN (.pointer (some ⟨p, 0, none⟩)) ?_
 simp only [Act.put, pqA, pqB, pqC]
 refine VlN (.int .i64 0) ?_
 simp only [Act.put, pqA, pqB, pqC]
 refine VlN (.int .i64 0) ?_
 simp only [Act.put, pqA, pqB, pqC]
 refine WL.nil (hK4 _ _ ?_)
 refine wp_seq_k fun K5 hK5 => ?_
 refine wp_seq_k fun K6 hK6 => rgn ?_
 refine VlN (.int .i64 0) ?_
 simp only [Act.put, pqA, pqB, pqC]
 refine VlN (.bool false) ?_
 simp only [Act.put, pqA, pqB, pqC]
 refine VlN (.bool false) ?_
 simp only [Act.put, pqA, pqB, pqC]
 refine VlN (.pointer (some ⟨p, 0, none⟩)) ?_
 simp only [Act.put, pqA, pqB, pqC]
 refine VlN (.bool false) ?_
 simp only [Act.put, pqA, pqB, pqC]
 refine VlN (.bool false) ?_
 simp only [Act.put, pqA, pqB, pqC]
 refine WL.nil (hK6 _ _ ?_)
 refine wp_cond_false rfl ?_
 refine wp_skip ?_
 refine hK5 _ _ ?_
 refine wp_seq_k fun K7 hK7 => ?_
 refine wp_seq_k fun K8 hK8 => rgn ?_
 refine VlN (.pointer (some ⟨gt, 0, none⟩)) ?_
 simp only [Act.put, pqA, pqB, pqC]
 refine VlN (.int .i64 x0) ?_
 simp only [Act.put, pqA, pqB, pqC]
 by_cases h6_2 : x0 < 0
 ·skip
  refine VlN (.bool true) ?_
  simp only [Act.put, pqA, pqB, pqC]
  refine VlN (.bool true) ?_
  simp only [Act.put, pqA, pqB, pqC]
  refine SkN ?_
  simp only [Act.put, pqA, pqB, pqC]
  refine SkN ?_
  simp only [Act.put, pqA, pqB, pqC]
  refine SkN ?_
  simp only [Act.put, pqA, pqB, pqC]
  refine SkN ?_
  simp only [Act.put, pqA, pqB, pqC]
  refine SkN ?_
  simp only [Act.put, pqA, pqB, pqC]
  refine VlN (.bool true) ?_
  simp only [Act.put, pqA, pqB, pqC]
  refine VlN (.bool true) ?_
  simp only [Act.put, pqA, pqB, pqC]
  refine SkN ?_
  simp only [Act.put, pqA, pqB, pqC]
  refine SkN ?_
  simp only [Act.put, pqA, pqB, pqC]
  refine SkN ?_
  simp only [Act.put, pqA, pqB, pqC]
  refine VlN (.bool true) ?_
  simp only [Act.put, pqA, pqB, pqC]
  refine VlN (.bool true) ?_
  simp only [Act.put, pqA, pqB, pqC]
  refine SkN ?_
  simp only [Act.put, pqA, pqB, pqC]
  refine SkN ?_
  simp only [Act.put, pqA, pqB, pqC]
  refine SkN ?_
  simp only [Act.put, pqA, pqB, pqC]
  refine SkN ?_
  simp only [Act.put, pqA, pqB, pqC]
  refine SkN ?_
  simp only [Act.put, pqA, pqB, pqC]
  refine VlN (.bool true) ?_
  simp only [Act.put, pqA, pqB, pqC]
  refine WL.nil (hK8 _ _ ?_)
  refine wp_cond_true rfl ?_
  refine wp_seq_k fun K9 hK9 => rgn ?_
  refine VlN (.bool true) ?_
  simp only [Act.put, pqA, pqB, pqC]
  refine WL.nil (hK9 _ _ ?_)
  refine wp_ret ?_
  go_ret
  exact ⟨rfl, B2.out⟩
 ·skip
  refine VlN (.bool false) ?_
  simp only [Act.put, pqA, pqB, pqC]
  refine VlN (.bool false) ?_
  simp only [Act.put, pqA, pqB, pqC]
  refine VlN (.pointer (some ⟨gt, 0, none⟩)) ?_
  simp only [Act.put, pqA, pqB, pqC]
  refine VlN (.int .i64 x0) ?_
  simp only [Act.put, pqA, pqB, pqC]
  refine VlN (.slice sa L.length sc) ?_
  simp only [Act.put, pqA, pqB, pqC]
  refine VlN (.int .i64 (L.length : Int)) ?_
  simp only [Act.put, pqA, pqB, pqC]
  by_cases h6_8 : (L.length : Int) ≤ x0
  ·skip
   refine VlN (.bool true) ?_
   simp only [Act.put, pqA, pqB, pqC]
   refine VlN (.bool true) ?_
   simp only [Act.put, pqA, pqB, pqC]
   refine VlN (.bool true) ?_
   simp only [Act.put, pqA, pqB, pqC]
   refine SkN ?_
   simp only [Act.put, pqA, pqB, pqC]
   refine SkN ?_
   simp only [Act.put, pqA, pqB, pqC]
   refine SkN ?_
   simp only [Act.put, pqA, pqB, pqC]
   refine VlN (.bool true) ?_
   simp only [Act.put, pqA, pqB, pqC]
   refine VlN (.bool true) ?_
   simp only [Act.put, pqA, pqB, pqC]
   refine SkN ?_
   simp only [Act.put, pqA, pqB, pqC]
   refine SkN ?_
   simp only [Act.put, pqA, pqB, pqC]
   refine SkN ?_
   simp only [Act.put, pqA, pqB, pqC]
   refine SkN ?_
   simp only [Act.put, pqA, pqB, pqC]
   refine SkN ?_
   simp only [Act.put, pqA, pqB, pqC]
   refine VlN (.bool true) ?_
   simp only [Act.put, pqA, pqB, pqC]
   refine WL.nil (hK8 _ _ ?_)
   refine wp_cond_true rfl ?_
   refine wp_seq_k fun K10 hK10 => rgn ?_
   refine VlN (.bool true) ?_
   simp only [Act.put, pqA, pqB, pqC]
   refine WL.nil (hK10 _ _ ?_)
   refine wp_ret ?_
   go_ret
   exact ⟨rfl, B2.out⟩
  ·skip
   refine VlN (.bool false) ?_
   simp only [Act.put, pqA, pqB, pqC]
   refine VlN (.bool false) ?_
   simp only [Act.put, pqA, pqB, pqC]
   refine VlN (.bool false) ?_
   simp only [Act.put, pqA, pqB, pqC]
   refine VlN (.pointer (some ⟨gt, 1, none⟩)) ?_
   simp only [Act.put, pqA, pqB, pqC]
   refine VlN (.int .i64 x1) ?_
   simp only [Act.put, pqA, pqB, pqC]
   by_cases h6_13 : x1 < 0
   ·skip
    refine VlN (.bool true) ?_
    simp only [Act.put, pqA, pqB, pqC]
    refine VlN (.bool true) ?_
    simp only [Act.put, pqA, pqB, pqC]
    refine VlN (.bool true) ?_
    simp only [Act.put, pqA, pqB, pqC]
    refine SkN ?_
    simp only [Act.put, pqA, pqB, pqC]
    refine SkN ?_
    simp only [Act.put, pqA, pqB, pqC]
    refine SkN ?_
    simp only [Act.put, pqA, pqB, pqC]
    refine SkN ?_
    simp only [Act.put, pqA, pqB, pqC]
    refine SkN ?_
    simp only [Act.put, pqA, pqB, pqC]
    refine VlN (.bool true) ?_
    simp only [Act.put, pqA, pqB, pqC]
    refine WL.nil (hK8 _ _ ?_)
    refine wp_cond_true rfl ?_
    refine wp_seq_k fun K11 hK11 => rgn ?_
    refine VlN (.bool true) ?_
    simp only [Act.put, pqA, pqB, pqC]
    refine WL.nil (hK11 _ _ ?_)
    refine wp_ret ?_
    go_ret
    exact ⟨rfl, B2.out⟩
   ·skip
    refine VlN (.bool false) ?_
    simp only [Act.put, pqA, pqB, pqC]
    refine VlN (.bool false) ?_
    simp only [Act.put, pqA, pqB, pqC]
    refine VlN (.bool false) ?_
    simp only [Act.put, pqA, pqB, pqC]
    refine VlN (.pointer (some ⟨gt, 1, none⟩)) ?_
    simp only [Act.put, pqA, pqB, pqC]
    refine VlN (.int .i64 x1) ?_
    simp only [Act.put, pqA, pqB, pqC]
    refine VlN (.slice sa L.length sc) ?_
    simp only [Act.put, pqA, pqB, pqC]
    refine VlN (.int .i64 (L.length : Int)) ?_
    simp only [Act.put, pqA, pqB, pqC]
    by_cases h6_20 : (L.length : Int) ≤ x1
    ·skip
     refine VlN (.bool true) ?_
     simp only [Act.put, pqA, pqB, pqC]
     refine VlN (.bool true) ?_
     simp only [Act.put, pqA, pqB, pqC]
     refine WL.nil (hK8 _ _ ?_)
     refine wp_cond_true rfl ?_
     refine wp_seq_k fun K12 hK12 => rgn ?_
     refine VlN (.bool true) ?_
     simp only [Act.put, pqA, pqB, pqC]
     refine WL.nil (hK12 _ _ ?_)
     refine wp_ret ?_
     go_ret
     exact ⟨rfl, B2.out⟩
    ·skip
     refine VlN (.bool false) ?_
     simp only [Act.put, pqA, pqB, pqC]
     refine VlN (.bool false) ?_
     simp only [Act.put, pqA, pqB, pqC]
     refine WL.nil (hK8 _ _ ?_)
     refine wp_cond_false rfl ?_
     refine wp_skip ?_
     refine hK7 _ _ ?_
     refine wp_seq_k fun K13 hK13 => ?_
     obtain ⟨k0, hk0⟩ : ∃ k : Nat, x0 = (k : Int) := ⟨x0.toNat, by omega⟩
     obtain ⟨k1, hk1⟩ : ∃ k : Nat, x1 = (k : Int) := ⟨x1.toNat, by omega⟩
     subst hk0 hk1
     have hk0l : k0 < L.length := by omega
     have hk1l : k1 < L.length := by omega
     have hk0' : (k0 : Int) < (L.length : Int) := by omega
     have hk1' : (k1 : Int) < (L.length : Int) := by omega
     have hz0 : (0 : Int) ≤ (k0 : Int) := by omega
     have hz1 : (0 : Int) ≤ (k1 : Int) := by omega
     obtain ⟨sb, so, hsa, hr0⟩ := esl_range (HS.out.below B2.out) hk0l
     have hq1 := esl_range (HS.out.below B2.out) hk1l
     subst hsa
     obtain ⟨sb', so', hsa', hr1⟩ := hq1
     injection hsa' with hsa'
     injection hsa' with e1 e2
     subst e1 e2
     obtain ⟨a, ha⟩ : ∃ h : Hs, Keep (h = L[k0].1.id) := ⟨_, ⟨rfl⟩⟩
     obtain ⟨b, hb⟩ : ∃ h : Hs, Keep (h = L[k1].1.id) := ⟨_, ⟨rfl⟩⟩
     obtain ⟨ea, hea⟩ : ∃ c : Array Value, Keep (c = bytesA 32 a.f) := ⟨_, ⟨rfl⟩⟩
     obtain ⟨eb, heb⟩ : ∃ c : Array Value, Keep (c = bytesA 32 b.f) := ⟨_, ⟨rfl⟩⟩
     obtain ⟨ez, hez⟩ : ∃ c : Array Value, Keep (c = bytesA 32 fun _ => 0) := ⟨_, ⟨rfl⟩⟩
     have HR0 : Keep (w2.rangeAt sb (so + k0 * 36) ea.toList) := ⟨by rw [hea.out, ha.out]; exact ent_range_id hr0⟩
     have HR1 : Keep (w2.rangeAt sb (so + k1 * 36) eb.toList) := ⟨by rw [heb.out, hb.out]; exact ent_range_id hr1⟩
     have hsl : Keep (sb < w2.heap.size) := ⟨by
      obtain ⟨b', off', e', _, h3⟩ := (HS.out.below B2.out).at (by omega)
      cases e'
      exact flatE_lt h3 (by omega)⟩
     have Ha : Keep (a ∈ idsE (exs H)) := ⟨(HMm.out a).2 (by rw [ha.out]; exact List.mem_map.2 ⟨L[k0].1, List.mem_map.2 ⟨L[k0], List.getElem_mem hk0l, rfl⟩, rfl⟩)⟩
     have Hb : Keep (b ∈ idsE (exs H)) := ⟨(HMm.out b).2 (by rw [hb.out]; exact List.mem_map.2 ⟨L[k1].1, List.mem_map.2 ⟨L[k1], List.getElem_mem hk1l, rfl⟩, rfl⟩)⟩
     clear hr0 hr1
     have hSS : Keep (∀ wz, Below w2.heap.size w2 wz → (fun wz => wz.cell? ⟨gt, 0, none⟩ = some (.int .i64 (k0 : Int)) ∧ wz.cell? ⟨gt, 1, none⟩ = some (.int .i64 (k1 : Int)) ∧ wz.rangeAt sb (so + k0 * 36) ea.toList ∧ wz.rangeAt sb (so + k1 * 36) eb.toList) wz) := ⟨fun wz hb => ⟨(by have h := HT2.out.below hb HT2.out.lt; rw [htv.out] at h; exact h.c 0 rfl), (by have h := HT2.out.below hb HT2.out.lt; rw [htv.out] at h; exact h.c 1 rfl), range_below HR0.out hb hsl.out, range_below HR1.out hb hsl.out⟩⟩
     have hD0 : Keep (Below w2.heap.size w2 w2.drew) := ⟨(Below.refl _ _).drew⟩
     clear c0 c1
     have rest8 : ∀ (ga gb : Nat) (wS : World), Blk wS ga 36 ea → Blk wS gb 36 eb → Below w2.heap.size w2 wS → K13 { tmps := #[.slice (some ⟨sb, so, none⟩) L.length sc, .agg tv, undef, .pointer (some ⟨gt, 0, none⟩), .bool false, .pointer (some ⟨p, 0, none⟩), .int .i64 0, .int .i64 0, .pointer (some ⟨ga, 0, none⟩), .pointer (some ⟨gb, 0, none⟩), undef, undef, undef, undef, undef, undef, undef, undef, undef, undef, undef, .bool true, .bool false, .tuple #[.pointer (some ⟨p, 0, none⟩), .int .i64 0, .int .i64 0], .slice (some ⟨sb, so, none⟩) L.length sc, .tuple #[.pointer (some ⟨p, 0, none⟩), .int .i64 0, .int .i64 0], .pointer (some ⟨p, 0, none⟩), .int .i64 0, .int .i64 0, .int .i64 0, .bool false, .bool false, .pointer (some ⟨p, 0, none⟩), .bool false, .bool false, undef, undef, undef, undef, undef, undef, .pointer (some ⟨gt, 0, none⟩), .int .i64 (k0 : Int), .bool false, .bool false, .pointer (some ⟨gt, 0, none⟩), .int .i64 (k0 : Int), .slice (some ⟨sb, so, none⟩) L.length sc, .int .i64 (L.length : Int), .bool false, .bool false, .bool false, .pointer (some ⟨gt, 1, none⟩), .int .i64 (k1 : Int), .bool false, .bool false, .bool false, .pointer (some ⟨gt, 1, none⟩), .int .i64 (k1 : Int), .slice (some ⟨sb, so, none⟩) L.length sc, .int .i64 (L.length : Int), .bool false, .bool false, .slice (some ⟨sb, so, none⟩) L.length sc, .pointer (some ⟨gt, 0, none⟩), .int .i64 (k0 : Int), .pointer (some ⟨sb, so + k0 * 36, none⟩), .pointer (some ⟨sb, so + k0 * 36, none⟩), .agg ea, .slice (some ⟨sb, so, none⟩) L.length sc, .pointer (some ⟨gt, 1, none⟩), .int .i64 (k1 : Int), .pointer (some ⟨sb, so + k1 * 36, none⟩), .pointer (some ⟨sb, so + k1 * 36, none⟩), .agg eb, undef, undef, undef, undef, undef, undef, undef, undef, undef, undef, undef, undef, undef, undef, undef, undef, undef, undef, undef, undef, undef, undef, undef, undef, undef, undef, undef, undef, undef, undef, undef, undef, undef, undef, undef, undef, undef, undef, undef, undef, undef, undef, undef, undef, undef, undef, undef, undef, undef, undef, undef, undef, undef, undef, undef, undef, undef, undef, undef, undef, undef, undef, undef, undef, undef, undef, undef, undef, undef, undef, undef, undef, undef, undef, undef, undef, undef, undef, undef, undef, undef, undef, undef, undef, undef, undef, undef, undef, undef, undef, undef, undef, undef, undef, undef, undef, undef, undef, undef, undef, undef, undef, undef, undef, undef, undef, undef, undef, undef, undef, undef, undef, undef, undef, undef, undef, undef, undef, undef, undef], defers := [] } wS := by
      intro ga gb wS hSa hSb hD4
      have HSa := Keep.mk hSa
      have HSb := Keep.mk hSb
      have D4 := Keep.mk hD4
      clear hSa hSb hD4 hSS HR0 HR1 hsl hD0 hez ha hb hk0l hk1l hk0' hk1' hz0 hz1
      refine hK13 _ _ ?_
      refine wp_seq_k fun K14 hK14 => ?_
      obtain ⟨i, hi⟩ : ∃ i, Keep (ixH (idsE (exs H)) a = i) := ⟨_, ⟨rfl⟩⟩
      obtain ⟨j, hj⟩ : ∃ j, Keep (ixH (idsE (exs H)) b = j) := ⟨_, ⟨rfl⟩⟩
      have hil : i < H.length := by have h := ix_lt Ha.out; rw [exs_len, hi.out] at h; exact h
      have hjl : j < H.length := by have h := ix_lt Hb.out; rw [exs_len, hj.out] at h; exact h
      have hni : Keep (numV (idsE (exs H)) a = (i : Int)) := ⟨num_of hi.out (by rw [idsE_len, exs_len]; exact hil)⟩
      have hnj : Keep (numV (idsE (exs H)) b = (j : Int)) := ⟨num_of hj.out (by rw [idsE_len, exs_len]; exact hjl)⟩
      have hSS : Keep (∀ wz, Below wS.heap.size wS wz → (fun wz => wz.rangeAt ga 0 ea.toList ∧ wz.rangeAt gb 0 eb.toList) wz) := ⟨fun wz hb => ⟨range_below (blk_range HSa.out) hb HSa.out.lt, range_below (blk_range HSb.out) hb HSb.out.lt⟩⟩
      have hE0 : Keep (Below wS.heap.size wS wS.drew) := ⟨(Below.refl _ _).drew⟩
      refine wp_region_held_drew (S := fun wz => wz.rangeAt ga 0 ea.toList ∧ wz.rangeAt gb 0 eb.toList) (by kernel_rfl) (hSS.out _ hE0.out) (fun hHeld => ?_)
      refine tkN (i := 0) (oi := ⟨some 75, Op.move (Operand.tmp 5), 25, _, _, none⟩) (v := .pointer (some ⟨p, 0, none⟩)) rfl (Or.inl ⟨by rfl, fun w hS => by clear hS; go_simp⟩) hHeld ?_
      simp only [Act.put, pqA, pqB, pqC]
      refine tkN (i := 1) (oi := ⟨some 76, Op.load 36 (Operand.tmp 8), 36, _, _, none⟩) (v := .agg ea) rfl (yieldsIf_ld (by rfl) (Operand.tmp 8) 36 rfl ga 0 rfl ea _ Tryz.underlying36 rfl (by rw [hea.out]; exact size36E _) fun w hS => hS.1) hHeld ?_
      simp only [Act.put, pqA, pqB, pqC]
      refine tkN (i := 3) (oi := ⟨some 78, Op.move (Operand.tmp 5), 25, _, _, none⟩) (v := .pointer (some ⟨p, 0, none⟩)) rfl (Or.inl ⟨by rfl, fun w hS => by clear hS; go_simp⟩) hHeld ?_
      simp only [Act.put, pqA, pqB, pqC]
      refine tkN (i := 4) (oi := ⟨some 79, Op.load 36 (Operand.tmp 9), 36, _, _, none⟩) (v := .agg eb) rfl (yieldsIf_ld (by rfl) (Operand.tmp 9) 36 rfl gb 0 rfl eb _ Tryz.underlying36 rfl (by rw [heb.out]; exact size36E _) fun w hS => hS.2) hHeld ?_
      simp only [Act.put, pqA, pqB, pqC]
      refine wpAnyH_ready (rs := [2]) (by kernel_rfl) (by simp) ?_
      refine AllReadyH.cons (o := ⟨some 77, Op.call { callee := Callee.value (Operand.func 13), args := #[Operand.tmp 75, Operand.tmp 76], argTypes := #[25, 36] }, 3, _, _, none⟩) rfl (fun K hK => ?_) AllReadyH.nil
      rw [if_pos (by rfl)]
      refine wp_callF 13 _ _ rfl Tryz.in13 #[.pointer (some ⟨p, 0, none⟩), .agg ea] (by simp [Act.eval]) (fun uu w' => uu = .int .i64 (i : Int) ∧ Below wS.drew.heap.size wS.drew w') ((by have h := number_any H S v p mb ub wS.drew (HP.out.rd.below (belowC D4.out hE0.out)) a; rw [← hea.out] at h; exact h : Calls Tryz.prog 13 #[.pointer (some ⟨p, 0, none⟩), .agg ea] wS.drew fun e w' => e = .returned (.int .i64 (numV (idsE (exs H)) a)) ∧ Below wS.drew.heap.size wS.drew w').mono fun e w' h => ⟨_, h.1, by rw [hni.out], h.2⟩) ?_
      rintro _ w3 ⟨rfl, hbt⟩
      have hE1 : Keep (Below wS.heap.size wS w3) := ⟨belowC hE0.out hbt⟩
      refine hK _ _ (hSS.out _ hE1.out) fun hQ1 => ?_
      clear hK hbt
      simp only [Act.put, pqA, pqB, pqC]
      refine wpAnyH_ready (rs := [5]) (by kernel_rfl) (by simp) ?_
      refine AllReadyH.cons (o := ⟨some 80, Op.call { callee := Callee.value (Operand.func 13), args := #[Operand.tmp 78, Operand.tmp 79], argTypes := #[25, 36] }, 3, _, _, none⟩) rfl (fun K hK => ?_) AllReadyH.nil
      rw [if_pos (by rfl)]
      refine wp_callF 13 _ _ rfl Tryz.in13 #[.pointer (some ⟨p, 0, none⟩), .agg eb] (by simp [Act.eval]) (fun uu w' => uu = .int .i64 (j : Int) ∧ Below w3.heap.size w3 w') ((by have h := number_any H S v p mb ub w3 (HP.out.rd.below (belowC D4.out hE1.out)) b; rw [← heb.out] at h; exact h : Calls Tryz.prog 13 #[.pointer (some ⟨p, 0, none⟩), .agg eb] w3 fun e w' => e = .returned (.int .i64 (numV (idsE (exs H)) b)) ∧ Below w3.heap.size w3 w').mono fun e w' h => ⟨_, h.1, by rw [hnj.out], h.2⟩) ?_
      rintro _ w4 ⟨rfl, hbt⟩
      have hE2 : Keep (Below wS.heap.size wS w4) := ⟨belowC hE1.out hbt⟩
      refine hK _ _ (hSS.out _ hE2.out) fun hQ2 => ?_
      clear hK hbt
      simp only [Act.put, pqA, pqB, pqC]
      refine tkN (i := 6) (oi := ⟨some 10, Op.assign (Operand.tmp 77), 3, _, _, none⟩) (v := .int .i64 (i : Int)) rfl (Or.inl ⟨by rfl, fun w hS => by clear hS; go_simp⟩) hQ2 ?_
      simp only [Act.put, pqA, pqB, pqC]
      refine tkN (i := 7) (oi := ⟨some 11, Op.assign (Operand.tmp 80), 3, _, _, none⟩) (v := .int .i64 (j : Int)) rfl (Or.inl ⟨by rfl, fun w hS => by clear hS; go_simp⟩) hQ2 ?_
      simp only [Act.put, pqA, pqB, pqC]
      refine wpAnyH_done (by kernel_rfl) ?_ _
      refine hK14 _ _ ?_
      refine wp_seq_k fun K15 hK15 => rgn ?_
      refine VlN (.pointer (some ⟨p, 0, none⟩)) ?_
      simp only [Act.put, pqA, pqB, pqC]
      refine WL.row (by kernel_rfl) 36 (.tmp 8) rfl ga rfl 36 ea _ (HSa.out.below hE2.out HSa.out.lt) Tryz.underlying36 rfl (by rw [hea.out]; exact size36E _) ?_
      simp only [Act.put, pqA, pqB, pqC]
      refine WL.row (by kernel_rfl) 36 (.tmp 9) rfl gb rfl 36 eb _ (HSb.out.below hE2.out HSb.out.lt) Tryz.underlying36 rfl (by rw [heb.out]; exact size36E _) ?_
      simp only [Act.put, pqA, pqB, pqC]
      refine WL.callF (by kernel_rfl) 27 _ _ rfl Tryz.in27 #[.pointer (some ⟨p, 0, none⟩), .agg ea, .agg eb] (by simp [Act.eval]) ?_
      refine ((by have h := his_common (HP.out.below (belowC D4.out hE2.out)) a b Ha.out Hb.out; rw [← hea.out, ← heb.out] at h; exact h : Calls Tryz.prog 27 #[.pointer (some ⟨p, 0, none⟩), .agg ea, .agg eb] w4 _)).mono ?_
      rintro e w5 ⟨v5, C, rfl, h1, h2, h3, h4⟩
      refine ⟨_, rfl, ?_⟩
      obtain ⟨ca, cc, hv5⟩ := h1.sl
      subst hv5
      have O5 := Keep.mk h1
      have P5 := Keep.mk h2
      have M5 := Keep.mk h3
      have E5 := Keep.mk (belowC hE2.out h4)
      clear h1 h2 h3 h4
      simp only [Act.put, pqA, pqB, pqC]
      refine VlN (.tuple #[.slice ca C.length cc, .int .i64 0]) ?_
      simp only [Act.put, pqA, pqB, pqC]
      refine VlN (.slice ca C.length cc) ?_
      simp only [Act.put, pqA, pqB, pqC]
      refine VlN (.int .i64 0) ?_
      simp only [Act.put, pqA, pqB, pqC]
      refine VlN (.slice ca C.length cc) ?_
      simp only [Act.put, pqA, pqB, pqC]
      refine VlN (.int .i64 0) ?_
      simp only [Act.put, pqA, pqB, pqC]
      refine WL.nil (hK15 _ _ ?_)
      refine wp_seq_k fun K16 hK16 => rgn ?_
      refine VlN (.pointer (some ⟨p, 0, none⟩)) ?_
      simp only [Act.put, pqA, pqB, pqC]
      refine WL.row (by kernel_rfl) 36 (.tmp 9) rfl gb rfl 36 eb _ (HSb.out.below E5.out HSb.out.lt) Tryz.underlying36 rfl (by rw [heb.out]; exact size36E _) ?_
      simp only [Act.put, pqA, pqB, pqC]
      refine WL.row (by kernel_rfl) 36 (.tmp 8) rfl ga rfl 36 ea _ (HSa.out.below E5.out HSa.out.lt) Tryz.underlying36 rfl (by rw [hea.out]; exact size36E _) ?_
      simp only [Act.put, pqA, pqB, pqC]
      refine WL.callF (by kernel_rfl) 27 _ _ rfl Tryz.in27 #[.pointer (some ⟨p, 0, none⟩), .agg eb, .agg ea] (by simp [Act.eval]) ?_
      refine ((by have h := his_common (HP.out.below (belowC D4.out E5.out)) b a Hb.out Ha.out; rw [← hea.out, ← heb.out] at h; exact h : Calls Tryz.prog 27 #[.pointer (some ⟨p, 0, none⟩), .agg eb, .agg ea] w5 _)).mono ?_
      rintro e w6 ⟨v6, C', rfl, h1, h2, h3, h4⟩
      refine ⟨_, rfl, ?_⟩
      have hCC : C = C' := lt_ext C C' P5.out h2 fun y => by rw [M5.out y, h3 y, comAt_comm HP.out.hst Ha.out Hb.out]
      subst hCC
      have O6 := Keep.mk (O5.out.below h4)
      have Q6 := Keep.mk h1
      have E6 := Keep.mk (belowC E5.out h4)
      have HCm : Keep (∀ g ∈ C, g ∈ idsE (exs H) ∧ ixH (idsE (exs H)) g ∈ ComAt H S a b) := ⟨fun g hg => com_at HP.out.hst Ha.out Hb.out M5.out hg⟩
      have HCl : Keep (C.length ≤ 4096) := ⟨by have h7 := lt_len (X := exs H) P5.out (fun g hg => (HCm.out g hg).1); rw [exs_len] at h7; have := HP.out.rd.n; omega⟩
      clear h1 h2 h3 h4
      simp only [Act.put, pqA, pqB, pqC]
      refine VlN (.tuple #[v6, .int .i64 0]) ?_
      simp only [Act.put, pqA, pqB, pqC]
      refine VlN (v6) ?_
      simp only [Act.put, pqA, pqB, pqC]
      refine VlN (.int .i64 0) ?_
      simp only [Act.put, pqA, pqB, pqC]
      refine VlN (v6) ?_
      simp only [Act.put, pqA, pqB, pqC]
      refine VlN (.int .i64 0) ?_
      simp only [Act.put, pqA, pqB, pqC]
      refine WL.nil (hK16 _ _ ?_)
      refine wp_seq_k fun K17 hK17 => ?_
      refine wp_seq_k fun K18 hK18 => rgn ?_
      refine VlN (.int .i64 (i : Int)) ?_
      simp only [Act.put, pqA, pqB, pqC]
      refine VlN (.bool false) ?_
      simp only [Act.put, pqA, pqB, pqC]
      refine VlN (.bool false) ?_
      simp only [Act.put, pqA, pqB, pqC]
      refine VlN (.int .i64 (j : Int)) ?_
      simp only [Act.put, pqA, pqB, pqC]
      refine VlN (.bool false) ?_
      simp only [Act.put, pqA, pqB, pqC]
      refine VlN (.bool false) ?_
      simp only [Act.put, pqA, pqB, pqC]
      refine VlN (.bool false) ?_
      simp only [Act.put, pqA, pqB, pqC]
      refine VlN (.int .i64 0) ?_
      simp only [Act.put, pqA, pqB, pqC]
      refine VlN (.bool false) ?_
      simp only [Act.put, pqA, pqB, pqC]
      refine VlN (.bool false) ?_
      simp only [Act.put, pqA, pqB, pqC]
      refine VlN (.bool false) ?_
      simp only [Act.put, pqA, pqB, pqC]
      refine VlN (.int .i64 0) ?_
      simp only [Act.put, pqA, pqB, pqC]
      refine VlN (.bool false) ?_
      simp only [Act.put, pqA, pqB, pqC]
      refine VlN (.bool false) ?_
      simp only [Act.put, pqA, pqB, pqC]
      refine VlN (.bool false) ?_
      simp only [Act.put, pqA, pqB, pqC]
      refine VlN (.slice ca C.length cc) ?_
      simp only [Act.put, pqA, pqB, pqC]
      refine VlN (v6) ?_
      simp only [Act.put, pqA, pqB, pqC]
      refine WL.callF (by kernel_rfl) 28 _ _ rfl Tryz.in28 #[.slice ca C.length cc, v6] (by simp [Act.eval]) ?_
      refine (sameH_any _ v6 C w6 O6.out.row Q6.out.row (by have := HCl.out; omega)).mono ?_
      rintro e w7 ⟨rfl, hb⟩
      refine ⟨_, rfl, ?_⟩
      have O7 := Keep.mk (O6.out.below hb)
      have E7 := Keep.mk (belowC E6.out hb)
      clear hb Q6 O5
      simp only [Act.put, pqA, pqB, pqC]
      refine VlN (.bool false) ?_
      simp only [Act.put, pqA, pqB, pqC]
      refine VlN (.bool false) ?_
      simp only [Act.put, pqA, pqB, pqC]
      refine VlN (.bool false) ?_
      simp only [Act.put, pqA, pqB, pqC]
      refine VlN (.slice ca C.length cc) ?_
      simp only [Act.put, pqA, pqB, pqC]
      refine WL.callF (by kernel_rfl) 29 _ _ rfl Tryz.in29 #[.slice ca C.length cc] (by simp [Act.eval]) ?_
      refine (rising_law _ C w7 O7.out.row P5.out (by have := HCl.out; omega)).mono ?_
      rintro e w8 ⟨rfl, hb⟩
      refine ⟨_, rfl, ?_⟩
      have O8 := Keep.mk (O7.out.below hb)
      have E8 := Keep.mk (belowC E7.out hb)
      clear hb O7 O6
      simp only [Act.put, pqA, pqB, pqC]
      refine VlN (.bool false) ?_
      simp only [Act.put, pqA, pqB, pqC]
      refine VlN (.bool false) ?_
      simp only [Act.put, pqA, pqB, pqC]
      refine WL.nil (hK18 _ _ ?_)
      refine wp_cond_false rfl ?_
      refine wp_skip ?_
      refine hK17 _ _ ?_
      refine wp_seq_k fun K19 hK19 => ?_
      refine wp_seq_k fun K20 hK20 => ?_
      have E9 : Keep (Below wS.heap.size wS w8.drew) := ⟨E8.out.drew⟩
      have O9 : Keep (OwnH w8.drew (.slice ca C.length cc) C) := ⟨O8.out.below (Below.refl _ _).drew⟩
      have rest : ∀ (yr120 yr121 yr122 yr123 yr124 yr125 yr126 yr127 yr128 yr129 yr130 yr131 yr132 yr133 yr134 yr135 yr136 yr137 yr138 yr139 yr140 : Value), K20 { tmps := #[.slice (some ⟨sb, so, none⟩) L.length sc, .agg tv, undef, .pointer (some ⟨gt, 0, none⟩), .bool false, .pointer (some ⟨p, 0, none⟩), .int .i64 0, .int .i64 0, .pointer (some ⟨ga, 0, none⟩), .pointer (some ⟨gb, 0, none⟩), .int .i64 (i : Int), .int .i64 (j : Int), .slice ca C.length cc, .int .i64 0, v6, .int .i64 0, undef, undef, undef, undef, undef, .bool true, .bool false, .tuple #[.pointer (some ⟨p, 0, none⟩), .int .i64 0, .int .i64 0], .slice (some ⟨sb, so, none⟩) L.length sc, .tuple #[.pointer (some ⟨p, 0, none⟩), .int .i64 0, .int .i64 0], .pointer (some ⟨p, 0, none⟩), .int .i64 0, .int .i64 0, .int .i64 0, .bool false, .bool false, .pointer (some ⟨p, 0, none⟩), .bool false, .bool false, undef, undef, undef, undef, undef, undef, .pointer (some ⟨gt, 0, none⟩), .int .i64 (k0 : Int), .bool false, .bool false, .pointer (some ⟨gt, 0, none⟩), .int .i64 (k0 : Int), .slice (some ⟨sb, so, none⟩) L.length sc, .int .i64 (L.length : Int), .bool false, .bool false, .bool false, .pointer (some ⟨gt, 1, none⟩), .int .i64 (k1 : Int), .bool false, .bool false, .bool false, .pointer (some ⟨gt, 1, none⟩), .int .i64 (k1 : Int), .slice (some ⟨sb, so, none⟩) L.length sc, .int .i64 (L.length : Int), .bool false, .bool false, .slice (some ⟨sb, so, none⟩) L.length sc, .pointer (some ⟨gt, 0, none⟩), .int .i64 (k0 : Int), .pointer (some ⟨sb, so + k0 * 36, none⟩), .pointer (some ⟨sb, so + k0 * 36, none⟩), .agg ea, .slice (some ⟨sb, so, none⟩) L.length sc, .pointer (some ⟨gt, 1, none⟩), .int .i64 (k1 : Int), .pointer (some ⟨sb, so + k1 * 36, none⟩), .pointer (some ⟨sb, so + k1 * 36, none⟩), .agg eb, .pointer (some ⟨p, 0, none⟩), .agg ea, .int .i64 (i : Int), .pointer (some ⟨p, 0, none⟩), .agg eb, .int .i64 (j : Int), .tuple #[.slice ca C.length cc, .int .i64 0], .pointer (some ⟨p, 0, none⟩), .agg ea, .agg eb, .tuple #[.slice ca C.length cc, .int .i64 0], .slice ca C.length cc, .int .i64 0, .tuple #[v6, .int .i64 0], .pointer (some ⟨p, 0, none⟩), .agg eb, .agg ea, .tuple #[v6, .int .i64 0], v6, .int .i64 0, .int .i64 (i : Int), .bool false, .bool false, .int .i64 (j : Int), .bool false, .bool false, .bool false, .int .i64 0, .bool false, .bool false, .bool false, .int .i64 0, .bool false, .bool false, .bool false, .slice ca C.length cc, v6, .bool true, .bool false, .bool false, .bool false, .slice ca C.length cc, .bool true, .bool false, .bool false, yr120, yr121, yr122, yr123, yr124, yr125, yr126, yr127, yr128, yr129, yr130, yr131, yr132, yr133, yr134, yr135, yr136, yr137, yr138, yr139, yr140, .bool false, undef, undef, undef, undef, undef, undef, undef, undef, undef, undef, undef, undef, undef, undef, undef, undef, undef, undef, undef, undef, undef, undef, undef, undef, undef, undef, undef, undef, undef, undef, undef, undef, undef, undef, undef, undef, undef, undef, undef, undef, undef, undef, undef, undef, undef, undef, undef, undef, undef, undef, undef, undef, undef], defers := [] } w8.drew := by
       intro yr120 yr121 yr122 yr123 yr124 yr125 yr126 yr127 yr128 yr129 yr130 yr131 yr132 yr133 yr134 yr135 yr136 yr137 yr138 yr139 yr140
       refine hK20 _ _ ?_
       refine wp_cond_false rfl ?_
       refine wp_skip ?_
       refine hK19 _ _ ?_
       refine wp_seq_k fun K21 hK21 => ?_
       refine wp_seq_k fun K22 hK22 => rgn ?_
       refine VlN (.slice ca C.length cc) ?_
       simp only [Act.put, pqA, pqB, pqC]
       refine VlN (.int .i64 (C.length : Int)) ?_
       simp only [Act.put, pqA, pqB, pqC]
       refine VlN (.int .i64 0) ?_
       simp only [Act.put, pqA, pqB, pqC]
       refine WL.nil (hK22 _ _ ?_)
       refine wp_block ?_
       refine wp_loop (fun ac wr => ∃ (t : Nat) (f : Nat → Value), ac = { tmps := #[.slice (some ⟨sb, so, none⟩) L.length sc, .agg tv, undef, .pointer (some ⟨gt, 0, none⟩), .bool false, .pointer (some ⟨p, 0, none⟩), .int .i64 0, .int .i64 0, .pointer (some ⟨ga, 0, none⟩), .pointer (some ⟨gb, 0, none⟩), .int .i64 (i : Int), .int .i64 (j : Int), .slice ca C.length cc, .int .i64 0, v6, .int .i64 0, undef, f 17, f 18, undef, f 20, .bool true, .bool false, .tuple #[.pointer (some ⟨p, 0, none⟩), .int .i64 0, .int .i64 0], .slice (some ⟨sb, so, none⟩) L.length sc, .tuple #[.pointer (some ⟨p, 0, none⟩), .int .i64 0, .int .i64 0], .pointer (some ⟨p, 0, none⟩), .int .i64 0, .int .i64 0, .int .i64 0, .bool false, .bool false, .pointer (some ⟨p, 0, none⟩), .bool false, .bool false, undef, undef, undef, undef, undef, undef, .pointer (some ⟨gt, 0, none⟩), .int .i64 (k0 : Int), .bool false, .bool false, .pointer (some ⟨gt, 0, none⟩), .int .i64 (k0 : Int), .slice (some ⟨sb, so, none⟩) L.length sc, .int .i64 (L.length : Int), .bool false, .bool false, .bool false, .pointer (some ⟨gt, 1, none⟩), .int .i64 (k1 : Int), .bool false, .bool false, .bool false, .pointer (some ⟨gt, 1, none⟩), .int .i64 (k1 : Int), .slice (some ⟨sb, so, none⟩) L.length sc, .int .i64 (L.length : Int), .bool false, .bool false, .slice (some ⟨sb, so, none⟩) L.length sc, .pointer (some ⟨gt, 0, none⟩), .int .i64 (k0 : Int), .pointer (some ⟨sb, so + k0 * 36, none⟩), .pointer (some ⟨sb, so + k0 * 36, none⟩), .agg ea, .slice (some ⟨sb, so, none⟩) L.length sc, .pointer (some ⟨gt, 1, none⟩), .int .i64 (k1 : Int), .pointer (some ⟨sb, so + k1 * 36, none⟩), .pointer (some ⟨sb, so + k1 * 36, none⟩), .agg eb, .pointer (some ⟨p, 0, none⟩), .agg ea, .int .i64 (i : Int), .pointer (some ⟨p, 0, none⟩), .agg eb, .int .i64 (j : Int), .tuple #[.slice ca C.length cc, .int .i64 0], .pointer (some ⟨p, 0, none⟩), .agg ea, .agg eb, .tuple #[.slice ca C.length cc, .int .i64 0], .slice ca C.length cc, .int .i64 0, .tuple #[v6, .int .i64 0], .pointer (some ⟨p, 0, none⟩), .agg eb, .agg ea, .tuple #[v6, .int .i64 0], v6, .int .i64 0, .int .i64 (i : Int), .bool false, .bool false, .int .i64 (j : Int), .bool false, .bool false, .bool false, .int .i64 0, .bool false, .bool false, .bool false, .int .i64 0, .bool false, .bool false, .bool false, .slice ca C.length cc, v6, .bool true, .bool false, .bool false, .bool false, .slice ca C.length cc, .bool true, .bool false, .bool false, yr120, yr121, yr122, yr123, yr124, yr125, yr126, yr127, yr128, yr129, yr130, yr131, yr132, yr133, yr134, yr135, yr136, yr137, yr138, yr139, yr140, .bool false, .slice ca C.length cc, .int .i64 (C.length : Int), .int .i64 (t : Int), f 145, f 146, f 147, f 148, f 149, f 150, f 151, f 152, f 153, f 154, f 155, f 156, f 157, f 158, f 159, f 160, f 161, f 162, f 163, f 164, f 165, f 166, f 167, f 168, f 169, f 170, f 171, f 172, f 173, f 174, f 175, f 176, f 177, f 178, f 179, f 180, f 181, f 182, f 183, f 184, f 185, f 186, f 187, f 188, f 189, f 190, undef, undef, undef, undef], defers := [] } ∧ t ≤ C.length ∧ Below w8.drew.heap.size w8.drew wr) (fun a _ => C.length - (intOf (a.tmps.getD 144 undef)).toNat) ⟨0, fun zz => [.slice (some ⟨sb, so, none⟩) L.length sc, .agg tv, undef, .pointer (some ⟨gt, 0, none⟩), .bool false, .pointer (some ⟨p, 0, none⟩), .int .i64 0, .int .i64 0, .pointer (some ⟨ga, 0, none⟩), .pointer (some ⟨gb, 0, none⟩), .int .i64 (i : Int), .int .i64 (j : Int), .slice ca C.length cc, .int .i64 0, v6, .int .i64 0, undef, undef, undef, undef, undef, .bool true, .bool false, .tuple #[.pointer (some ⟨p, 0, none⟩), .int .i64 0, .int .i64 0], .slice (some ⟨sb, so, none⟩) L.length sc, .tuple #[.pointer (some ⟨p, 0, none⟩), .int .i64 0, .int .i64 0], .pointer (some ⟨p, 0, none⟩), .int .i64 0, .int .i64 0, .int .i64 0, .bool false, .bool false, .pointer (some ⟨p, 0, none⟩), .bool false, .bool false, undef, undef, undef, undef, undef, undef, .pointer (some ⟨gt, 0, none⟩), .int .i64 (k0 : Int), .bool false, .bool false, .pointer (some ⟨gt, 0, none⟩), .int .i64 (k0 : Int), .slice (some ⟨sb, so, none⟩) L.length sc, .int .i64 (L.length : Int), .bool false, .bool false, .bool false, .pointer (some ⟨gt, 1, none⟩), .int .i64 (k1 : Int), .bool false, .bool false, .bool false, .pointer (some ⟨gt, 1, none⟩), .int .i64 (k1 : Int), .slice (some ⟨sb, so, none⟩) L.length sc, .int .i64 (L.length : Int), .bool false, .bool false, .slice (some ⟨sb, so, none⟩) L.length sc, .pointer (some ⟨gt, 0, none⟩), .int .i64 (k0 : Int), .pointer (some ⟨sb, so + k0 * 36, none⟩), .pointer (some ⟨sb, so + k0 * 36, none⟩), .agg ea, .slice (some ⟨sb, so, none⟩) L.length sc, .pointer (some ⟨gt, 1, none⟩), .int .i64 (k1 : Int), .pointer (some ⟨sb, so + k1 * 36, none⟩), .pointer (some ⟨sb, so + k1 * 36, none⟩), .agg eb, .pointer (some ⟨p, 0, none⟩), .agg ea, .int .i64 (i : Int), .pointer (some ⟨p, 0, none⟩), .agg eb, .int .i64 (j : Int), .tuple #[.slice ca C.length cc, .int .i64 0], .pointer (some ⟨p, 0, none⟩), .agg ea, .agg eb, .tuple #[.slice ca C.length cc, .int .i64 0], .slice ca C.length cc, .int .i64 0, .tuple #[v6, .int .i64 0], .pointer (some ⟨p, 0, none⟩), .agg eb, .agg ea, .tuple #[v6, .int .i64 0], v6, .int .i64 0, .int .i64 (i : Int), .bool false, .bool false, .int .i64 (j : Int), .bool false, .bool false, .bool false, .int .i64 0, .bool false, .bool false, .bool false, .int .i64 0, .bool false, .bool false, .bool false, .slice ca C.length cc, v6, .bool true, .bool false, .bool false, .bool false, .slice ca C.length cc, .bool true, .bool false, .bool false, yr120, yr121, yr122, yr123, yr124, yr125, yr126, yr127, yr128, yr129, yr130, yr131, yr132, yr133, yr134, yr135, yr136, yr137, yr138, yr139, yr140, .bool false, .slice ca C.length cc, .int .i64 (C.length : Int), .int .i64 0, undef, undef, undef, undef, undef, undef, undef, undef, undef, undef, undef, undef, undef, undef, undef, undef, undef, undef, undef, undef, undef, undef, undef, undef, undef, undef, undef, undef, undef, undef, undef, undef, undef, undef, undef, undef, undef, undef, undef, undef, undef, undef, undef, undef, undef, undef, undef, undef, undef, undef].getD zz undef, rfl, by omega, Below.refl _ _⟩ ?_
       rintro ac wr ⟨t, f, rfl, ht, hB⟩
       have JB := Keep.mk hB
       clear hB
       by_cases htl : t < C.length
       ·have htl' : (t : Int) < (C.length : Int) := by omega
        have ht0 : (0 : Int) ≤ (t : Int) := by omega
        have hwt : IntKind.i64.wrap ((t : Int) + 1) = ((t + 1 : Nat) : Int) := by rw [IntKind.wrap_i64]; have := HCl.out; omega
        obtain ⟨pb, po, hpa, hpr⟩ := hrow_at (O9.out.below JB.out).row htl
        subst hpa
        obtain ⟨h, hh⟩ : ∃ h : Hs, Keep (h = C[t]) := ⟨_, ⟨rfl⟩⟩
        rw [← hh.out] at hpr
        have HPr := Keep.mk hpr
        clear hpr
        obtain ⟨n, hn⟩ : ∃ n, Keep (ixH (idsE (exs H)) h = n) := ⟨_, ⟨rfl⟩⟩
        have hMn : Keep (h ∈ idsE (exs H) ∧ n ∈ ComAt H S a b) := ⟨by have h := HCm.out h (by rw [hh.out]; exact List.getElem_mem htl); rw [hn.out] at h; exact h⟩
        have hTn := Keep.mk ((comAt_ok HP.out.hst Ha.out Hb.out).mem n hMn.out.2)
        have hln : n < H.length := by have h := hTn.out.1; rw [exs_len] at h; exact h
        have hun : Keep (numV (idsE (exs H)) h = (n : Int)) := ⟨num_of hn.out (by rw [idsE_len, exs_len]; exact hln)⟩
        have hn0 : ¬ (n : Int) < 0 := by omega
        refine wp_seq_k fun K23 hK23 => rgn ?_
        refine VlN (.bool true) ?_
        simp only [Act.put, pqA, pqB, pqC]
        refine WL.nil (hK23 _ _ ?_)
        refine wp_seq_k fun K24 hK24 => ?_
        refine wp_cond_true rfl ?_
        refine wp_skip ?_
        refine hK24 _ _ ?_
        refine wp_seq_k fun K25 hK25 => ?_
        refine wp_block ?_
        refine wp_seq_k fun K26 hK26 => rgn ?_
        refine VlN (.pointer (some ⟨pb, po + t * 32, none⟩)) ?_
        simp only [Act.put, pqA, pqB, pqC]
        refine WL.midA (by kernel_rfl) 36 (.tmp 146) rfl pb (po + t * 32) rfl (bytesA 32 h.f) _ HPr.out Tryz.underlying36 rfl (size36E _) ?_
        simp only [Act.put, pqA, pqB, pqC]
        refine WL.new (by kernel_rfl) 36 rfl (bytesA 32 fun _ => 0) Tryz.new36 ?_
        obtain ⟨wc, hwn⟩ : ∃ wx, Keep (wx = wr.alloc (.cells (bytesA 32 fun _ => 0) 36)) := ⟨_, ⟨rfl⟩⟩
        rw [← hwn.out]
        have HZ2 : Keep (Blk wc wr.heap.size 36 (bytesA 32 fun _ => 0)) := ⟨by rw [hwn.out]; exact Blk.new _ _ _⟩
        have LB2 : Keep (Below wr.heap.size wr wc) := ⟨by rw [hwn.out]; exact below_new _ _⟩
        clear hwn
        simp only [Act.put, pqA, pqB, pqC]
        refine WL.storeR (by kernel_rfl) 36 (.tmp 17) (.tmp 147) rfl wr.heap.size (bytesA 32 h.f) rfl rfl 36 _ HZ2.out (size36E _) (by rw [bytesA_size, bytesA_size]) (bytesA_one _ _) ?_
        have HH2 := Keep.mk (HZ2.out.setRow (bytesA 32 h.f))
        have LH : Keep (Below wr.heap.size wr (wc.setRow wr.heap.size (bytesA 32 h.f))) := ⟨below_setRow LB2.out (Nat.le_refl _) _⟩
        generalize wc.setRow wr.heap.size (bytesA 32 h.f) = wd at *
        clear HZ2 LB2
        have JBd := Keep.mk (belowC JB.out LH.out)
        generalize wr.heap.size = g2 at *
        clear LH HPr
        simp only [Act.put]
        refine WL.nil (hK26 _ _ ?_)
        refine wp_seq_k fun K27 hK27 => rgn ?_
        refine VlN (.pointer (some ⟨p, 0, none⟩)) ?_
        simp only [Act.put, pqA, pqB, pqC]
        refine WL.row (by kernel_rfl) 36 (.tmp 17) rfl g2 rfl 36 (bytesA 32 h.f) _ HH2.out Tryz.underlying36 rfl (size36E _) ?_
        simp only [Act.put, pqA, pqB, pqC]
        refine WL.callF (by kernel_rfl) 13 _ _ rfl Tryz.in13 #[.pointer (some ⟨p, 0, none⟩), .agg (bytesA 32 h.f)] (by simp [Act.eval]) ?_
        refine (number_any H S v p mb ub wd (HP.out.rd.below (belowC D4.out (belowC E9.out JBd.out))) h).mono ?_
        rintro e we ⟨rfl, hb⟩
        refine ⟨_, rfl, ?_⟩
        rw [hun.out]
        have JBe := Keep.mk (belowC JBd.out hb)
        clear hb HH2
        simp only [Act.put, pqA, pqB, pqC]
        refine VlN (.int .i64 (n : Int)) ?_
        simp only [Act.put, pqA, pqB, pqC]
        refine WL.nil (hK27 _ _ ?_)
        refine wp_seq_k fun K28 hK28 => ?_
        refine wp_seq_k fun K29 hK29 => ?_
        have rest20 : ∀ (ys151 ys152 ys153 ys154 ys155 ys156 ys157 ys158 ys159 ys160 ys161 ys162 ys163 ys164 ys165 ys166 ys167 ys168 ys169 ys170 ys171 ys172 ys173 ys174 ys175 : Value), K29 { tmps := #[.slice (some ⟨sb, so, none⟩) L.length sc, .agg tv, undef, .pointer (some ⟨gt, 0, none⟩), .bool false, .pointer (some ⟨p, 0, none⟩), .int .i64 0, .int .i64 0, .pointer (some ⟨ga, 0, none⟩), .pointer (some ⟨gb, 0, none⟩), .int .i64 (i : Int), .int .i64 (j : Int), .slice (some ⟨pb, po, none⟩) C.length cc, .int .i64 0, v6, .int .i64 0, undef, .pointer (some ⟨g2, 0, none⟩), .int .i64 (n : Int), undef, f 20, .bool true, .bool false, .tuple #[.pointer (some ⟨p, 0, none⟩), .int .i64 0, .int .i64 0], .slice (some ⟨sb, so, none⟩) L.length sc, .tuple #[.pointer (some ⟨p, 0, none⟩), .int .i64 0, .int .i64 0], .pointer (some ⟨p, 0, none⟩), .int .i64 0, .int .i64 0, .int .i64 0, .bool false, .bool false, .pointer (some ⟨p, 0, none⟩), .bool false, .bool false, undef, undef, undef, undef, undef, undef, .pointer (some ⟨gt, 0, none⟩), .int .i64 (k0 : Int), .bool false, .bool false, .pointer (some ⟨gt, 0, none⟩), .int .i64 (k0 : Int), .slice (some ⟨sb, so, none⟩) L.length sc, .int .i64 (L.length : Int), .bool false, .bool false, .bool false, .pointer (some ⟨gt, 1, none⟩), .int .i64 (k1 : Int), .bool false, .bool false, .bool false, .pointer (some ⟨gt, 1, none⟩), .int .i64 (k1 : Int), .slice (some ⟨sb, so, none⟩) L.length sc, .int .i64 (L.length : Int), .bool false, .bool false, .slice (some ⟨sb, so, none⟩) L.length sc, .pointer (some ⟨gt, 0, none⟩), .int .i64 (k0 : Int), .pointer (some ⟨sb, so + k0 * 36, none⟩), .pointer (some ⟨sb, so + k0 * 36, none⟩), .agg ea, .slice (some ⟨sb, so, none⟩) L.length sc, .pointer (some ⟨gt, 1, none⟩), .int .i64 (k1 : Int), .pointer (some ⟨sb, so + k1 * 36, none⟩), .pointer (some ⟨sb, so + k1 * 36, none⟩), .agg eb, .pointer (some ⟨p, 0, none⟩), .agg ea, .int .i64 (i : Int), .pointer (some ⟨p, 0, none⟩), .agg eb, .int .i64 (j : Int), .tuple #[.slice (some ⟨pb, po, none⟩) C.length cc, .int .i64 0], .pointer (some ⟨p, 0, none⟩), .agg ea, .agg eb, .tuple #[.slice (some ⟨pb, po, none⟩) C.length cc, .int .i64 0], .slice (some ⟨pb, po, none⟩) C.length cc, .int .i64 0, .tuple #[v6, .int .i64 0], .pointer (some ⟨p, 0, none⟩), .agg eb, .agg ea, .tuple #[v6, .int .i64 0], v6, .int .i64 0, .int .i64 (i : Int), .bool false, .bool false, .int .i64 (j : Int), .bool false, .bool false, .bool false, .int .i64 0, .bool false, .bool false, .bool false, .int .i64 0, .bool false, .bool false, .bool false, .slice (some ⟨pb, po, none⟩) C.length cc, v6, .bool true, .bool false, .bool false, .bool false, .slice (some ⟨pb, po, none⟩) C.length cc, .bool true, .bool false, .bool false, yr120, yr121, yr122, yr123, yr124, yr125, yr126, yr127, yr128, yr129, yr130, yr131, yr132, yr133, yr134, yr135, yr136, yr137, yr138, yr139, yr140, .bool false, .slice (some ⟨pb, po, none⟩) C.length cc, .int .i64 (C.length : Int), .int .i64 (t : Int), .bool true, .pointer (some ⟨pb, po + t * 32, none⟩), .agg (bytesA 32 h.f), .pointer (some ⟨p, 0, none⟩), .agg (bytesA 32 h.f), .int .i64 (n : Int), ys151, ys152, ys153, ys154, ys155, ys156, ys157, ys158, ys159, ys160, ys161, ys162, ys163, ys164, ys165, ys166, ys167, ys168, ys169, ys170, ys171, ys172, ys173, ys174, ys175, .bool false, f 177, f 178, f 179, f 180, f 181, f 182, f 183, f 184, f 185, f 186, f 187, f 188, f 189, f 190, undef, undef, undef, undef], defers := [] } we := by
         intro ys151 ys152 ys153 ys154 ys155 ys156 ys157 ys158 ys159 ys160 ys161 ys162 ys163 ys164 ys165 ys166 ys167 ys168 ys169 ys170 ys171 ys172 ys173 ys174 ys175
         refine hK29 _ _ ?_
         refine wp_cond_false rfl ?_
         refine wp_skip ?_
         refine hK28 _ _ ?_
         refine wp_seq_k fun K30 hK30 => rgn ?_
         refine VlN (.slice (some ⟨pb, po, none⟩) C.length cc) ?_
         simp only [Act.put, pqA, pqB, pqC]
         refine VlN (.int .i64 (C.length : Int)) ?_
         simp only [Act.put, pqA, pqB, pqC]
         refine VlN (.int .i64 0) ?_
         simp only [Act.put, pqA, pqB, pqC]
         refine WL.nil (hK30 _ _ ?_)
         refine wp_block ?_
         refine wp_loop (fun ac ws => ∃ (u : Nat) (fy : Nat → Value), ac = { tmps := #[.slice (some ⟨sb, so, none⟩) L.length sc, .agg tv, undef, .pointer (some ⟨gt, 0, none⟩), .bool false, .pointer (some ⟨p, 0, none⟩), .int .i64 0, .int .i64 0, .pointer (some ⟨ga, 0, none⟩), .pointer (some ⟨gb, 0, none⟩), .int .i64 (i : Int), .int .i64 (j : Int), .slice (some ⟨pb, po, none⟩) C.length cc, .int .i64 0, v6, .int .i64 0, undef, .pointer (some ⟨g2, 0, none⟩), .int .i64 (n : Int), undef, fy 20, .bool true, .bool false, .tuple #[.pointer (some ⟨p, 0, none⟩), .int .i64 0, .int .i64 0], .slice (some ⟨sb, so, none⟩) L.length sc, .tuple #[.pointer (some ⟨p, 0, none⟩), .int .i64 0, .int .i64 0], .pointer (some ⟨p, 0, none⟩), .int .i64 0, .int .i64 0, .int .i64 0, .bool false, .bool false, .pointer (some ⟨p, 0, none⟩), .bool false, .bool false, undef, undef, undef, undef, undef, undef, .pointer (some ⟨gt, 0, none⟩), .int .i64 (k0 : Int), .bool false, .bool false, .pointer (some ⟨gt, 0, none⟩), .int .i64 (k0 : Int), .slice (some ⟨sb, so, none⟩) L.length sc, .int .i64 (L.length : Int), .bool false, .bool false, .bool false, .pointer (some ⟨gt, 1, none⟩), .int .i64 (k1 : Int), .bool false, .bool false, .bool false, .pointer (some ⟨gt, 1, none⟩), .int .i64 (k1 : Int), .slice (some ⟨sb, so, none⟩) L.length sc, .int .i64 (L.length : Int), .bool false, .bool false, .slice (some ⟨sb, so, none⟩) L.length sc, .pointer (some ⟨gt, 0, none⟩), .int .i64 (k0 : Int), .pointer (some ⟨sb, so + k0 * 36, none⟩), .pointer (some ⟨sb, so + k0 * 36, none⟩), .agg ea, .slice (some ⟨sb, so, none⟩) L.length sc, .pointer (some ⟨gt, 1, none⟩), .int .i64 (k1 : Int), .pointer (some ⟨sb, so + k1 * 36, none⟩), .pointer (some ⟨sb, so + k1 * 36, none⟩), .agg eb, .pointer (some ⟨p, 0, none⟩), .agg ea, .int .i64 (i : Int), .pointer (some ⟨p, 0, none⟩), .agg eb, .int .i64 (j : Int), .tuple #[.slice (some ⟨pb, po, none⟩) C.length cc, .int .i64 0], .pointer (some ⟨p, 0, none⟩), .agg ea, .agg eb, .tuple #[.slice (some ⟨pb, po, none⟩) C.length cc, .int .i64 0], .slice (some ⟨pb, po, none⟩) C.length cc, .int .i64 0, .tuple #[v6, .int .i64 0], .pointer (some ⟨p, 0, none⟩), .agg eb, .agg ea, .tuple #[v6, .int .i64 0], v6, .int .i64 0, .int .i64 (i : Int), .bool false, .bool false, .int .i64 (j : Int), .bool false, .bool false, .bool false, .int .i64 0, .bool false, .bool false, .bool false, .int .i64 0, .bool false, .bool false, .bool false, .slice (some ⟨pb, po, none⟩) C.length cc, v6, .bool true, .bool false, .bool false, .bool false, .slice (some ⟨pb, po, none⟩) C.length cc, .bool true, .bool false, .bool false, yr120, yr121, yr122, yr123, yr124, yr125, yr126, yr127, yr128, yr129, yr130, yr131, yr132, yr133, yr134, yr135, yr136, yr137, yr138, yr139, yr140, .bool false, .slice (some ⟨pb, po, none⟩) C.length cc, .int .i64 (C.length : Int), .int .i64 (t : Int), .bool true, .pointer (some ⟨pb, po + t * 32, none⟩), .agg (bytesA 32 h.f), .pointer (some ⟨p, 0, none⟩), .agg (bytesA 32 h.f), .int .i64 (n : Int), ys151, ys152, ys153, ys154, ys155, ys156, ys157, ys158, ys159, ys160, ys161, ys162, ys163, ys164, ys165, ys166, ys167, ys168, ys169, ys170, ys171, ys172, ys173, ys174, ys175, .bool false, .slice (some ⟨pb, po, none⟩) C.length cc, .int .i64 (C.length : Int), .int .i64 (u : Int), fy 180, fy 181, fy 182, fy 183, fy 184, fy 185, fy 186, fy 187, fy 188, fy 189, f 190, undef, undef, undef, undef], defers := [] } ∧ u ≤ C.length ∧ Below we.heap.size we ws) (fun a _ => C.length - (intOf (a.tmps.getD 179 undef)).toNat) ⟨0, fun zz => [.slice (some ⟨sb, so, none⟩) L.length sc, .agg tv, undef, .pointer (some ⟨gt, 0, none⟩), .bool false, .pointer (some ⟨p, 0, none⟩), .int .i64 0, .int .i64 0, .pointer (some ⟨ga, 0, none⟩), .pointer (some ⟨gb, 0, none⟩), .int .i64 (i : Int), .int .i64 (j : Int), .slice (some ⟨pb, po, none⟩) C.length cc, .int .i64 0, v6, .int .i64 0, undef, .pointer (some ⟨g2, 0, none⟩), .int .i64 (n : Int), undef, f 20, .bool true, .bool false, .tuple #[.pointer (some ⟨p, 0, none⟩), .int .i64 0, .int .i64 0], .slice (some ⟨sb, so, none⟩) L.length sc, .tuple #[.pointer (some ⟨p, 0, none⟩), .int .i64 0, .int .i64 0], .pointer (some ⟨p, 0, none⟩), .int .i64 0, .int .i64 0, .int .i64 0, .bool false, .bool false, .pointer (some ⟨p, 0, none⟩), .bool false, .bool false, undef, undef, undef, undef, undef, undef, .pointer (some ⟨gt, 0, none⟩), .int .i64 (k0 : Int), .bool false, .bool false, .pointer (some ⟨gt, 0, none⟩), .int .i64 (k0 : Int), .slice (some ⟨sb, so, none⟩) L.length sc, .int .i64 (L.length : Int), .bool false, .bool false, .bool false, .pointer (some ⟨gt, 1, none⟩), .int .i64 (k1 : Int), .bool false, .bool false, .bool false, .pointer (some ⟨gt, 1, none⟩), .int .i64 (k1 : Int), .slice (some ⟨sb, so, none⟩) L.length sc, .int .i64 (L.length : Int), .bool false, .bool false, .slice (some ⟨sb, so, none⟩) L.length sc, .pointer (some ⟨gt, 0, none⟩), .int .i64 (k0 : Int), .pointer (some ⟨sb, so + k0 * 36, none⟩), .pointer (some ⟨sb, so + k0 * 36, none⟩), .agg ea, .slice (some ⟨sb, so, none⟩) L.length sc, .pointer (some ⟨gt, 1, none⟩), .int .i64 (k1 : Int), .pointer (some ⟨sb, so + k1 * 36, none⟩), .pointer (some ⟨sb, so + k1 * 36, none⟩), .agg eb, .pointer (some ⟨p, 0, none⟩), .agg ea, .int .i64 (i : Int), .pointer (some ⟨p, 0, none⟩), .agg eb, .int .i64 (j : Int), .tuple #[.slice (some ⟨pb, po, none⟩) C.length cc, .int .i64 0], .pointer (some ⟨p, 0, none⟩), .agg ea, .agg eb, .tuple #[.slice (some ⟨pb, po, none⟩) C.length cc, .int .i64 0], .slice (some ⟨pb, po, none⟩) C.length cc, .int .i64 0, .tuple #[v6, .int .i64 0], .pointer (some ⟨p, 0, none⟩), .agg eb, .agg ea, .tuple #[v6, .int .i64 0], v6, .int .i64 0, .int .i64 (i : Int), .bool false, .bool false, .int .i64 (j : Int), .bool false, .bool false, .bool false, .int .i64 0, .bool false, .bool false, .bool false, .int .i64 0, .bool false, .bool false, .bool false, .slice (some ⟨pb, po, none⟩) C.length cc, v6, .bool true, .bool false, .bool false, .bool false, .slice (some ⟨pb, po, none⟩) C.length cc, .bool true, .bool false, .bool false, yr120, yr121, yr122, yr123, yr124, yr125, yr126, yr127, yr128, yr129, yr130, yr131, yr132, yr133, yr134, yr135, yr136, yr137, yr138, yr139, yr140, .bool false, .slice (some ⟨pb, po, none⟩) C.length cc, .int .i64 (C.length : Int), .int .i64 (t : Int), .bool true, .pointer (some ⟨pb, po + t * 32, none⟩), .agg (bytesA 32 h.f), .pointer (some ⟨p, 0, none⟩), .agg (bytesA 32 h.f), .int .i64 (n : Int), ys151, ys152, ys153, ys154, ys155, ys156, ys157, ys158, ys159, ys160, ys161, ys162, ys163, ys164, ys165, ys166, ys167, ys168, ys169, ys170, ys171, ys172, ys173, ys174, ys175, .bool false, .slice (some ⟨pb, po, none⟩) C.length cc, .int .i64 (C.length : Int), .int .i64 0, f 180, f 181, f 182, f 183, f 184, f 185, f 186, f 187, f 188, f 189, f 190, undef, undef, undef, undef].getD zz undef, rfl, by omega, Below.refl _ _⟩ ?_
         rintro ac ws ⟨u, fy, rfl, hu, hB2⟩
         have IB := Keep.mk hB2
         clear hB2
         by_cases hul : u < C.length
         ·have hul' : (u : Int) < (C.length : Int) := by omega
          have hu0 : (0 : Int) ≤ (u : Int) := by omega
          have hwu : IntKind.i64.wrap ((u : Int) + 1) = ((u + 1 : Nat) : Int) := by rw [IntKind.wrap_i64]; have := HCl.out; omega
          obtain ⟨pb2, po2, hpa, hpr⟩ := hrow_at (O9.out.below (belowC JBe.out IB.out)).row hul
          injection hpa with hpa
          injection hpa with e1 e2
          subst e1 e2
          obtain ⟨h', hh'⟩ : ∃ h : Hs, Keep (h = C[u]) := ⟨_, ⟨rfl⟩⟩
          rw [← hh'.out] at hpr
          have HPr := Keep.mk hpr
          clear hpr
          obtain ⟨m, hm⟩ : ∃ n, Keep (ixH (idsE (exs H)) h' = n) := ⟨_, ⟨rfl⟩⟩
          have hMm : Keep (h' ∈ idsE (exs H) ∧ m ∈ ComAt H S a b) := ⟨by have h := HCm.out h' (by rw [hh'.out]; exact List.getElem_mem hul); rw [hm.out] at h; exact h⟩
          have hlm : m < H.length := by have h := ((comAt_ok HP.out.hst Ha.out Hb.out).mem m hMm.out.2).1; rw [exs_len] at h; exact h
          have hum : Keep (numV (idsE (exs H)) h' = (m : Int)) := ⟨num_of hm.out (by rw [idsE_len, exs_len]; exact hlm)⟩
          have hsf : Keep (seesW S n m = false) := ⟨by
           rw [seesW]
           cases hv : hasW ((S.map (·.2)).getD m []) n
           ·rw [Bool.and_false]
           ·rw [decide_eq_true ((comAt_ok HP.out.hst Ha.out Hb.out).un n hMn.out.2 m hMm.out.2 hv)]; rfl⟩
          refine wp_seq_k fun K31 hK31 => rgn ?_
          refine VlN (.bool true) ?_
          simp only [Act.put, pqA, pqB, pqC]
          refine WL.nil (hK31 _ _ ?_)
          refine wp_seq_k fun K32 hK32 => ?_
          refine wp_cond_true rfl ?_
          refine wp_skip ?_
          refine hK32 _ _ ?_
          refine wp_seq_k fun K33 hK33 => ?_
          refine wp_block ?_
          refine wp_seq_k fun K34 hK34 => rgn ?_
          refine VlN (.pointer (some ⟨pb, po + u * 32, none⟩)) ?_
          simp only [Act.put, pqA, pqB, pqC]
          refine WL.midA (by kernel_rfl) 36 (.tmp 181) rfl pb (po + u * 32) rfl (bytesA 32 h'.f) _ HPr.out Tryz.underlying36 rfl (size36E _) ?_
          simp only [Act.put, pqA, pqB, pqC]
          refine WL.new (by kernel_rfl) 36 rfl (bytesA 32 fun _ => 0) Tryz.new36 ?_
          obtain ⟨wt, hwn⟩ : ∃ wx, Keep (wx = ws.alloc (.cells (bytesA 32 fun _ => 0) 36)) := ⟨_, ⟨rfl⟩⟩
          rw [← hwn.out]
          have HZ3 : Keep (Blk wt ws.heap.size 36 (bytesA 32 fun _ => 0)) := ⟨by rw [hwn.out]; exact Blk.new _ _ _⟩
          have LB3 : Keep (Below ws.heap.size ws wt) := ⟨by rw [hwn.out]; exact below_new _ _⟩
          clear hwn
          simp only [Act.put, pqA, pqB, pqC]
          refine WL.storeR (by kernel_rfl) 36 (.tmp 20) (.tmp 182) rfl ws.heap.size (bytesA 32 h'.f) rfl rfl 36 _ HZ3.out (size36E _) (by rw [bytesA_size, bytesA_size]) (bytesA_one _ _) ?_
          have HH3 := Keep.mk (HZ3.out.setRow (bytesA 32 h'.f))
          have LH : Keep (Below ws.heap.size ws (wt.setRow ws.heap.size (bytesA 32 h'.f))) := ⟨below_setRow LB3.out (Nat.le_refl _) _⟩
          generalize wt.setRow ws.heap.size (bytesA 32 h'.f) = wu at *
          clear HZ3 LB3
          have IBu := Keep.mk (belowC IB.out LH.out)
          generalize ws.heap.size = g3 at *
          clear LH HPr
          simp only [Act.put]
          refine WL.nil (hK34 _ _ ?_)
          refine wp_seq_k fun K35 hK35 => rgn ?_
          refine VlN (.pointer (some ⟨p, 0, none⟩)) ?_
          simp only [Act.put, pqA, pqB, pqC]
          refine VlN (.int .i64 (n : Int)) ?_
          simp only [Act.put, pqA, pqB, pqC]
          refine VlN (.pointer (some ⟨p, 0, none⟩)) ?_
          simp only [Act.put, pqA, pqB, pqC]
          refine WL.row (by kernel_rfl) 36 (.tmp 20) rfl g3 rfl 36 (bytesA 32 h'.f) _ HH3.out Tryz.underlying36 rfl (size36E _) ?_
          simp only [Act.put, pqA, pqB, pqC]
          refine WL.callF (by kernel_rfl) 13 _ _ rfl Tryz.in13 #[.pointer (some ⟨p, 0, none⟩), .agg (bytesA 32 h'.f)] (by simp [Act.eval]) ?_
          refine (number_any H S v p mb ub wu (HP.out.rd.below (belowC D4.out (belowC E9.out (belowC JBe.out IBu.out)))) h').mono ?_
          rintro e wv ⟨rfl, hb⟩
          refine ⟨_, rfl, ?_⟩
          rw [hum.out]
          have IBv := Keep.mk (belowC IBu.out hb)
          clear hb HH3
          simp only [Act.put, pqA, pqB, pqC]
          refine WL.callF (by kernel_rfl) 26 _ _ rfl Tryz.in26 #[.pointer (some ⟨p, 0, none⟩), .int .i64 (n : Int), .int .i64 (m : Int)] (by simp [Act.eval]) ?_
          refine ((by have h := sees_nat H S v p mb ub wv (HP.out.rd.below (belowC D4.out (belowC E9.out (belowC JBe.out IBv.out)))) n m hln hlm; rw [hsf.out] at h; exact h : Calls Tryz.prog 26 #[.pointer (some ⟨p, 0, none⟩), .int .i64 (n : Int), .int .i64 (m : Int)] wv _)).mono ?_
          rintro e wq ⟨rfl, hwq⟩
          refine ⟨_, rfl, ?_⟩
          rw [hwq]
          clear hwq
          simp only [Act.put, pqA, pqB, pqC]
          refine WL.nil (hK35 _ _ ?_)
          refine wp_cond_false rfl ?_
          refine wp_skip ?_
          refine hK33 _ _ ?_
          refine rgn ?_
          refine VlN (.int .i64 ((u + 1 : Nat) : Int)) ?_
          simp only [Act.put, pqA, pqB, pqC]
          refine VlN (.int .i64 ((u + 1 : Nat) : Int)) ?_
          simp only [Act.put, pqA, pqB, pqC]
          refine WL.nil ?_
          refine ⟨⟨u + 1, fun zz => [.slice (some ⟨sb, so, none⟩) L.length sc, .agg tv, undef, .pointer (some ⟨gt, 0, none⟩), .bool false, .pointer (some ⟨p, 0, none⟩), .int .i64 0, .int .i64 0, .pointer (some ⟨ga, 0, none⟩), .pointer (some ⟨gb, 0, none⟩), .int .i64 (i : Int), .int .i64 (j : Int), .slice (some ⟨pb, po, none⟩) C.length cc, .int .i64 0, v6, .int .i64 0, undef, .pointer (some ⟨g2, 0, none⟩), .int .i64 (n : Int), undef, .pointer (some ⟨g3, 0, none⟩), .bool true, .bool false, .tuple #[.pointer (some ⟨p, 0, none⟩), .int .i64 0, .int .i64 0], .slice (some ⟨sb, so, none⟩) L.length sc, .tuple #[.pointer (some ⟨p, 0, none⟩), .int .i64 0, .int .i64 0], .pointer (some ⟨p, 0, none⟩), .int .i64 0, .int .i64 0, .int .i64 0, .bool false, .bool false, .pointer (some ⟨p, 0, none⟩), .bool false, .bool false, undef, undef, undef, undef, undef, undef, .pointer (some ⟨gt, 0, none⟩), .int .i64 (k0 : Int), .bool false, .bool false, .pointer (some ⟨gt, 0, none⟩), .int .i64 (k0 : Int), .slice (some ⟨sb, so, none⟩) L.length sc, .int .i64 (L.length : Int), .bool false, .bool false, .bool false, .pointer (some ⟨gt, 1, none⟩), .int .i64 (k1 : Int), .bool false, .bool false, .bool false, .pointer (some ⟨gt, 1, none⟩), .int .i64 (k1 : Int), .slice (some ⟨sb, so, none⟩) L.length sc, .int .i64 (L.length : Int), .bool false, .bool false, .slice (some ⟨sb, so, none⟩) L.length sc, .pointer (some ⟨gt, 0, none⟩), .int .i64 (k0 : Int), .pointer (some ⟨sb, so + k0 * 36, none⟩), .pointer (some ⟨sb, so + k0 * 36, none⟩), .agg ea, .slice (some ⟨sb, so, none⟩) L.length sc, .pointer (some ⟨gt, 1, none⟩), .int .i64 (k1 : Int), .pointer (some ⟨sb, so + k1 * 36, none⟩), .pointer (some ⟨sb, so + k1 * 36, none⟩), .agg eb, .pointer (some ⟨p, 0, none⟩), .agg ea, .int .i64 (i : Int), .pointer (some ⟨p, 0, none⟩), .agg eb, .int .i64 (j : Int), .tuple #[.slice (some ⟨pb, po, none⟩) C.length cc, .int .i64 0], .pointer (some ⟨p, 0, none⟩), .agg ea, .agg eb, .tuple #[.slice (some ⟨pb, po, none⟩) C.length cc, .int .i64 0], .slice (some ⟨pb, po, none⟩) C.length cc, .int .i64 0, .tuple #[v6, .int .i64 0], .pointer (some ⟨p, 0, none⟩), .agg eb, .agg ea, .tuple #[v6, .int .i64 0], v6, .int .i64 0, .int .i64 (i : Int), .bool false, .bool false, .int .i64 (j : Int), .bool false, .bool false, .bool false, .int .i64 0, .bool false, .bool false, .bool false, .int .i64 0, .bool false, .bool false, .bool false, .slice (some ⟨pb, po, none⟩) C.length cc, v6, .bool true, .bool false, .bool false, .bool false, .slice (some ⟨pb, po, none⟩) C.length cc, .bool true, .bool false, .bool false, yr120, yr121, yr122, yr123, yr124, yr125, yr126, yr127, yr128, yr129, yr130, yr131, yr132, yr133, yr134, yr135, yr136, yr137, yr138, yr139, yr140, .bool false, .slice (some ⟨pb, po, none⟩) C.length cc, .int .i64 (C.length : Int), .int .i64 (t : Int), .bool true, .pointer (some ⟨pb, po + t * 32, none⟩), .agg (bytesA 32 h.f), .pointer (some ⟨p, 0, none⟩), .agg (bytesA 32 h.f), .int .i64 (n : Int), ys151, ys152, ys153, ys154, ys155, ys156, ys157, ys158, ys159, ys160, ys161, ys162, ys163, ys164, ys165, ys166, ys167, ys168, ys169, ys170, ys171, ys172, ys173, ys174, ys175, .bool false, .slice (some ⟨pb, po, none⟩) C.length cc, .int .i64 (C.length : Int), .int .i64 ((u + 1 : Nat) : Int), .bool true, .pointer (some ⟨pb, po + u * 32, none⟩), .agg (bytesA 32 h'.f), .pointer (some ⟨p, 0, none⟩), .int .i64 (n : Int), .pointer (some ⟨p, 0, none⟩), .agg (bytesA 32 h'.f), .int .i64 (m : Int), .bool false, .int .i64 ((u + 1 : Nat) : Int), f 190, undef, undef, undef, undef].getD zz undef, rfl, by omega, IBv.out⟩, by simp [intOf]; omega⟩
         ·refine wp_seq_k fun K36 hK36 => rgn ?_
          refine VlN (.bool false) ?_
          simp only [Act.put, pqA, pqB, pqC]
          refine WL.nil (hK36 _ _ ?_)
          refine wp_seq_k fun K37 hK37 => ?_
          refine wp_cond_false rfl ?_
          refine wp_exit ?_
          refine hK25 _ _ ?_
          refine rgn ?_
          refine VlN (.int .i64 ((t + 1 : Nat) : Int)) ?_
          simp only [Act.put, pqA, pqB, pqC]
          refine VlN (.int .i64 ((t + 1 : Nat) : Int)) ?_
          simp only [Act.put, pqA, pqB, pqC]
          refine WL.nil ?_
          refine ⟨⟨t + 1, fun zz => [.slice (some ⟨sb, so, none⟩) L.length sc, .agg tv, undef, .pointer (some ⟨gt, 0, none⟩), .bool false, .pointer (some ⟨p, 0, none⟩), .int .i64 0, .int .i64 0, .pointer (some ⟨ga, 0, none⟩), .pointer (some ⟨gb, 0, none⟩), .int .i64 (i : Int), .int .i64 (j : Int), .slice (some ⟨pb, po, none⟩) C.length cc, .int .i64 0, v6, .int .i64 0, undef, .pointer (some ⟨g2, 0, none⟩), .int .i64 (n : Int), undef, fy 20, .bool true, .bool false, .tuple #[.pointer (some ⟨p, 0, none⟩), .int .i64 0, .int .i64 0], .slice (some ⟨sb, so, none⟩) L.length sc, .tuple #[.pointer (some ⟨p, 0, none⟩), .int .i64 0, .int .i64 0], .pointer (some ⟨p, 0, none⟩), .int .i64 0, .int .i64 0, .int .i64 0, .bool false, .bool false, .pointer (some ⟨p, 0, none⟩), .bool false, .bool false, undef, undef, undef, undef, undef, undef, .pointer (some ⟨gt, 0, none⟩), .int .i64 (k0 : Int), .bool false, .bool false, .pointer (some ⟨gt, 0, none⟩), .int .i64 (k0 : Int), .slice (some ⟨sb, so, none⟩) L.length sc, .int .i64 (L.length : Int), .bool false, .bool false, .bool false, .pointer (some ⟨gt, 1, none⟩), .int .i64 (k1 : Int), .bool false, .bool false, .bool false, .pointer (some ⟨gt, 1, none⟩), .int .i64 (k1 : Int), .slice (some ⟨sb, so, none⟩) L.length sc, .int .i64 (L.length : Int), .bool false, .bool false, .slice (some ⟨sb, so, none⟩) L.length sc, .pointer (some ⟨gt, 0, none⟩), .int .i64 (k0 : Int), .pointer (some ⟨sb, so + k0 * 36, none⟩), .pointer (some ⟨sb, so + k0 * 36, none⟩), .agg ea, .slice (some ⟨sb, so, none⟩) L.length sc, .pointer (some ⟨gt, 1, none⟩), .int .i64 (k1 : Int), .pointer (some ⟨sb, so + k1 * 36, none⟩), .pointer (some ⟨sb, so + k1 * 36, none⟩), .agg eb, .pointer (some ⟨p, 0, none⟩), .agg ea, .int .i64 (i : Int), .pointer (some ⟨p, 0, none⟩), .agg eb, .int .i64 (j : Int), .tuple #[.slice (some ⟨pb, po, none⟩) C.length cc, .int .i64 0], .pointer (some ⟨p, 0, none⟩), .agg ea, .agg eb, .tuple #[.slice (some ⟨pb, po, none⟩) C.length cc, .int .i64 0], .slice (some ⟨pb, po, none⟩) C.length cc, .int .i64 0, .tuple #[v6, .int .i64 0], .pointer (some ⟨p, 0, none⟩), .agg eb, .agg ea, .tuple #[v6, .int .i64 0], v6, .int .i64 0, .int .i64 (i : Int), .bool false, .bool false, .int .i64 (j : Int), .bool false, .bool false, .bool false, .int .i64 0, .bool false, .bool false, .bool false, .int .i64 0, .bool false, .bool false, .bool false, .slice (some ⟨pb, po, none⟩) C.length cc, v6, .bool true, .bool false, .bool false, .bool false, .slice (some ⟨pb, po, none⟩) C.length cc, .bool true, .bool false, .bool false, yr120, yr121, yr122, yr123, yr124, yr125, yr126, yr127, yr128, yr129, yr130, yr131, yr132, yr133, yr134, yr135, yr136, yr137, yr138, yr139, yr140, .bool false, .slice (some ⟨pb, po, none⟩) C.length cc, .int .i64 (C.length : Int), .int .i64 ((t + 1 : Nat) : Int), .bool true, .pointer (some ⟨pb, po + t * 32, none⟩), .agg (bytesA 32 h.f), .pointer (some ⟨p, 0, none⟩), .agg (bytesA 32 h.f), .int .i64 (n : Int), ys151, ys152, ys153, ys154, ys155, ys156, ys157, ys158, ys159, ys160, ys161, ys162, ys163, ys164, ys165, ys166, ys167, ys168, ys169, ys170, ys171, ys172, ys173, ys174, ys175, .bool false, .slice (some ⟨pb, po, none⟩) C.length cc, .int .i64 (C.length : Int), .int .i64 (u : Int), .bool false, fy 181, fy 182, fy 183, fy 184, fy 185, fy 186, fy 187, fy 188, fy 189, .int .i64 ((t + 1 : Nat) : Int), undef, undef, undef, undef].getD zz undef, rfl, by omega, belowC JBe.out IB.out⟩, by simp [intOf]; omega⟩
        by_cases hni : (n : Int) = (i : Int)
        ·by_cases hnj : Keep ((n : Int) = (j : Int))
         ·refine rgn ?_
          refine VlN (.int .i64 (n : Int)) ?_
          simp only [Act.put, pqA, pqB, pqC]
          refine VlN (.bool false) ?_
          simp only [Act.put, pqA, pqB, pqC]
          refine VlN (.bool false) ?_
          simp only [Act.put, pqA, pqB, pqC]
          refine VlN (.int .i64 (n : Int)) ?_
          simp only [Act.put, pqA, pqB, pqC]
          refine VlN (.int .i64 (i : Int)) ?_
          simp only [Act.put, pqA, pqB, pqC]
          refine VlN (.bool false) ?_
          have HNI := Keep.mk hni
          clear hni
          simp only [Act.put, pqA, pqB, pqC]
          refine VlN (.bool false) ?_
          simp only [Act.put, pqA, pqB, pqC]
          refine SkN ?_
          simp only [Act.put, pqA, pqB, pqC]
          refine SkN ?_
          simp only [Act.put, pqA, pqB, pqC]
          refine SkN ?_
          simp only [Act.put, pqA, pqB, pqC]
          refine SkN ?_
          simp only [Act.put, pqA, pqB, pqC]
          refine SkN ?_
          simp only [Act.put, pqA, pqB, pqC]
          refine VlN (.bool false) ?_
          simp only [Act.put, pqA, pqB, pqC]
          refine VlN (.bool false) ?_
          simp only [Act.put, pqA, pqB, pqC]
          refine VlN (.bool false) ?_
          simp only [Act.put, pqA, pqB, pqC]
          refine VlN (.int .i64 (n : Int)) ?_
          simp only [Act.put, pqA, pqB, pqC]
          refine VlN (.int .i64 (j : Int)) ?_
          simp only [Act.put, pqA, pqB, pqC]
          have hnj' := hnj.out
          refine VlN (.bool false) ?_
          clear hnj'
          simp only [Act.put, pqA, pqB, pqC]
          refine VlN (.bool false) ?_
          simp only [Act.put, pqA, pqB, pqC]
          refine SkN ?_
          simp only [Act.put, pqA, pqB, pqC]
          refine SkN ?_
          simp only [Act.put, pqA, pqB, pqC]
          refine SkN ?_
          simp only [Act.put, pqA, pqB, pqC]
          refine SkN ?_
          simp only [Act.put, pqA, pqB, pqC]
          refine SkN ?_
          simp only [Act.put, pqA, pqB, pqC]
          refine VlN (.bool false) ?_
          simp only [Act.put, pqA, pqB, pqC]
          refine VlN (.bool false) ?_
          simp only [Act.put, pqA, pqB, pqC]
          refine WL.nil ?_
          exact rest20 _ _ _ _ _ _ _ _ _ _ _ _ _ _ _ _ _ _ _ _ _ _ _ _ _
         ·refine rgn ?_
          refine VlN (.int .i64 (n : Int)) ?_
          simp only [Act.put, pqA, pqB, pqC]
          refine VlN (.bool false) ?_
          simp only [Act.put, pqA, pqB, pqC]
          refine VlN (.bool false) ?_
          simp only [Act.put, pqA, pqB, pqC]
          refine VlN (.int .i64 (n : Int)) ?_
          simp only [Act.put, pqA, pqB, pqC]
          refine VlN (.int .i64 (i : Int)) ?_
          simp only [Act.put, pqA, pqB, pqC]
          refine VlN (.bool false) ?_
          have HNI := Keep.mk hni
          clear hni
          simp only [Act.put, pqA, pqB, pqC]
          refine VlN (.bool false) ?_
          simp only [Act.put, pqA, pqB, pqC]
          refine SkN ?_
          simp only [Act.put, pqA, pqB, pqC]
          refine SkN ?_
          simp only [Act.put, pqA, pqB, pqC]
          refine SkN ?_
          simp only [Act.put, pqA, pqB, pqC]
          refine SkN ?_
          simp only [Act.put, pqA, pqB, pqC]
          refine SkN ?_
          simp only [Act.put, pqA, pqB, pqC]
          refine VlN (.bool false) ?_
          simp only [Act.put, pqA, pqB, pqC]
          refine VlN (.bool false) ?_
          simp only [Act.put, pqA, pqB, pqC]
          refine VlN (.bool false) ?_
          simp only [Act.put, pqA, pqB, pqC]
          refine VlN (.int .i64 (n : Int)) ?_
          simp only [Act.put, pqA, pqB, pqC]
          refine VlN (.int .i64 (j : Int)) ?_
          simp only [Act.put, pqA, pqB, pqC]
          have hnj' : ¬ (n : Int) = (j : Int) := fun e => hnj ⟨e⟩
          refine VlN (.bool true) ?_
          have HNJ := Keep.mk hnj'
          clear hnj'
          simp only [Act.put, pqA, pqB, pqC]
          refine VlN (.bool true) ?_
          simp only [Act.put, pqA, pqB, pqC]
          refine VlN (.pointer (some ⟨p, 0, none⟩)) ?_
          simp only [Act.put, pqA, pqB, pqC]
          refine VlN (.int .i64 (n : Int)) ?_
          simp only [Act.put, pqA, pqB, pqC]
          refine VlN (.int .i64 (j : Int)) ?_
          simp only [Act.put, pqA, pqB, pqC]
          refine WL.callF (by kernel_rfl) 26 _ _ rfl Tryz.in26 #[.pointer (some ⟨p, 0, none⟩), .int .i64 (n : Int), .int .i64 (j : Int)] (by simp [Act.eval]) ?_
          refine ((by have h := sees_nat H S v p mb ub we (HP.out.rd.below (belowC D4.out (belowC E9.out JBe.out))) n j hln hjl; rw [show seesW S n j = true from by (rw [seesW, decide_eq_false (by have := HNJ.out; omega)]; first | (rw [← hi.out, hTn.out.2.2]; done) | (rw [← hi.out, hTn.out.2.2]; rfl) | (rw [← hj.out, hTn.out.2.2]; done) | (rw [← hj.out, hTn.out.2.2]; rfl))] at h; exact h : Calls Tryz.prog 26 #[.pointer (some ⟨p, 0, none⟩), .int .i64 (n : Int), .int .i64 (j : Int)] we _)).mono ?_
          rintro e wq ⟨rfl, hwq⟩
          refine ⟨_, rfl, ?_⟩
          rw [hwq]
          clear hwq
          simp only [Act.put, pqA, pqB, pqC]
          refine VlN (.bool false) ?_
          simp only [Act.put, pqA, pqB, pqC]
          refine VlN (.bool false) ?_
          simp only [Act.put, pqA, pqB, pqC]
          refine VlN (.bool false) ?_
          simp only [Act.put, pqA, pqB, pqC]
          refine WL.nil ?_
          exact rest20 _ _ _ _ _ _ _ _ _ _ _ _ _ _ _ _ _ _ _ _ _ _ _ _ _
        ·by_cases hnj : Keep ((n : Int) = (j : Int))
         ·refine rgn ?_
          refine VlN (.int .i64 (n : Int)) ?_
          simp only [Act.put, pqA, pqB, pqC]
          refine VlN (.bool false) ?_
          simp only [Act.put, pqA, pqB, pqC]
          refine VlN (.bool false) ?_
          simp only [Act.put, pqA, pqB, pqC]
          refine VlN (.int .i64 (n : Int)) ?_
          simp only [Act.put, pqA, pqB, pqC]
          refine VlN (.int .i64 (i : Int)) ?_
          simp only [Act.put, pqA, pqB, pqC]
          refine VlN (.bool true) ?_
          have HNI := Keep.mk hni
          clear hni
          simp only [Act.put, pqA, pqB, pqC]
          refine VlN (.bool true) ?_
          simp only [Act.put, pqA, pqB, pqC]
          refine VlN (.pointer (some ⟨p, 0, none⟩)) ?_
          simp only [Act.put, pqA, pqB, pqC]
          refine VlN (.int .i64 (n : Int)) ?_
          simp only [Act.put, pqA, pqB, pqC]
          refine VlN (.int .i64 (i : Int)) ?_
          simp only [Act.put, pqA, pqB, pqC]
          refine WL.callF (by kernel_rfl) 26 _ _ rfl Tryz.in26 #[.pointer (some ⟨p, 0, none⟩), .int .i64 (n : Int), .int .i64 (i : Int)] (by simp [Act.eval]) ?_
          refine ((by have h := sees_nat H S v p mb ub we (HP.out.rd.below (belowC D4.out (belowC E9.out JBe.out))) n i hln hil; rw [show seesW S n i = true from by (rw [seesW, decide_eq_false (by have := HNI.out; omega)]; first | (rw [← hi.out, hTn.out.2.1]; done) | (rw [← hi.out, hTn.out.2.1]; rfl) | (rw [← hj.out, hTn.out.2.1]; done) | (rw [← hj.out, hTn.out.2.1]; rfl))] at h; exact h : Calls Tryz.prog 26 #[.pointer (some ⟨p, 0, none⟩), .int .i64 (n : Int), .int .i64 (i : Int)] we _)).mono ?_
          rintro e wq ⟨rfl, hwq⟩
          refine ⟨_, rfl, ?_⟩
          rw [hwq]
          clear hwq
          simp only [Act.put, pqA, pqB, pqC]
          refine VlN (.bool false) ?_
          simp only [Act.put, pqA, pqB, pqC]
          refine VlN (.bool false) ?_
          simp only [Act.put, pqA, pqB, pqC]
          refine VlN (.bool false) ?_
          simp only [Act.put, pqA, pqB, pqC]
          refine VlN (.bool false) ?_
          simp only [Act.put, pqA, pqB, pqC]
          refine VlN (.int .i64 (n : Int)) ?_
          simp only [Act.put, pqA, pqB, pqC]
          refine VlN (.int .i64 (j : Int)) ?_
          simp only [Act.put, pqA, pqB, pqC]
          have hnj' := hnj.out
          refine VlN (.bool false) ?_
          clear hnj'
          simp only [Act.put, pqA, pqB, pqC]
          refine VlN (.bool false) ?_
          simp only [Act.put, pqA, pqB, pqC]
          refine SkN ?_
          simp only [Act.put, pqA, pqB, pqC]
          refine SkN ?_
          simp only [Act.put, pqA, pqB, pqC]
          refine SkN ?_
          simp only [Act.put, pqA, pqB, pqC]
          refine SkN ?_
          simp only [Act.put, pqA, pqB, pqC]
          refine SkN ?_
          simp only [Act.put, pqA, pqB, pqC]
          refine VlN (.bool false) ?_
          simp only [Act.put, pqA, pqB, pqC]
          refine VlN (.bool false) ?_
          simp only [Act.put, pqA, pqB, pqC]
          refine WL.nil ?_
          exact rest20 _ _ _ _ _ _ _ _ _ _ _ _ _ _ _ _ _ _ _ _ _ _ _ _ _
         ·refine rgn ?_
          refine VlN (.int .i64 (n : Int)) ?_
          simp only [Act.put, pqA, pqB, pqC]
          refine VlN (.bool false) ?_
          simp only [Act.put, pqA, pqB, pqC]
          refine VlN (.bool false) ?_
          simp only [Act.put, pqA, pqB, pqC]
          refine VlN (.int .i64 (n : Int)) ?_
          simp only [Act.put, pqA, pqB, pqC]
          refine VlN (.int .i64 (i : Int)) ?_
          simp only [Act.put, pqA, pqB, pqC]
          refine VlN (.bool true) ?_
          have HNI := Keep.mk hni
          clear hni
          simp only [Act.put, pqA, pqB, pqC]
          refine VlN (.bool true) ?_
          simp only [Act.put, pqA, pqB, pqC]
          refine VlN (.pointer (some ⟨p, 0, none⟩)) ?_
          simp only [Act.put, pqA, pqB, pqC]
          refine VlN (.int .i64 (n : Int)) ?_
          simp only [Act.put, pqA, pqB, pqC]
          refine VlN (.int .i64 (i : Int)) ?_
          simp only [Act.put, pqA, pqB, pqC]
          refine WL.callF (by kernel_rfl) 26 _ _ rfl Tryz.in26 #[.pointer (some ⟨p, 0, none⟩), .int .i64 (n : Int), .int .i64 (i : Int)] (by simp [Act.eval]) ?_
          refine ((by have h := sees_nat H S v p mb ub we (HP.out.rd.below (belowC D4.out (belowC E9.out JBe.out))) n i hln hil; rw [show seesW S n i = true from by (rw [seesW, decide_eq_false (by have := HNI.out; omega)]; first | (rw [← hi.out, hTn.out.2.1]; done) | (rw [← hi.out, hTn.out.2.1]; rfl) | (rw [← hj.out, hTn.out.2.1]; done) | (rw [← hj.out, hTn.out.2.1]; rfl))] at h; exact h : Calls Tryz.prog 26 #[.pointer (some ⟨p, 0, none⟩), .int .i64 (n : Int), .int .i64 (i : Int)] we _)).mono ?_
          rintro e wq ⟨rfl, hwq⟩
          refine ⟨_, rfl, ?_⟩
          rw [hwq]
          clear hwq
          simp only [Act.put, pqA, pqB, pqC]
          refine VlN (.bool false) ?_
          simp only [Act.put, pqA, pqB, pqC]
          refine VlN (.bool false) ?_
          simp only [Act.put, pqA, pqB, pqC]
          refine VlN (.bool false) ?_
          simp only [Act.put, pqA, pqB, pqC]
          refine VlN (.bool false) ?_
          simp only [Act.put, pqA, pqB, pqC]
          refine VlN (.int .i64 (n : Int)) ?_
          simp only [Act.put, pqA, pqB, pqC]
          refine VlN (.int .i64 (j : Int)) ?_
          simp only [Act.put, pqA, pqB, pqC]
          have hnj' : ¬ (n : Int) = (j : Int) := fun e => hnj ⟨e⟩
          refine VlN (.bool true) ?_
          have HNJ := Keep.mk hnj'
          clear hnj'
          simp only [Act.put, pqA, pqB, pqC]
          refine VlN (.bool true) ?_
          simp only [Act.put, pqA, pqB, pqC]
          refine VlN (.pointer (some ⟨p, 0, none⟩)) ?_
          simp only [Act.put, pqA, pqB, pqC]
          refine VlN (.int .i64 (n : Int)) ?_
          simp only [Act.put, pqA, pqB, pqC]
          refine VlN (.int .i64 (j : Int)) ?_
          simp only [Act.put, pqA, pqB, pqC]
          refine WL.callF (by kernel_rfl) 26 _ _ rfl Tryz.in26 #[.pointer (some ⟨p, 0, none⟩), .int .i64 (n : Int), .int .i64 (j : Int)] (by simp [Act.eval]) ?_
          refine ((by have h := sees_nat H S v p mb ub we (HP.out.rd.below (belowC D4.out (belowC E9.out JBe.out))) n j hln hjl; rw [show seesW S n j = true from by (rw [seesW, decide_eq_false (by have := HNJ.out; omega)]; first | (rw [← hi.out, hTn.out.2.2]; done) | (rw [← hi.out, hTn.out.2.2]; rfl) | (rw [← hj.out, hTn.out.2.2]; done) | (rw [← hj.out, hTn.out.2.2]; rfl))] at h; exact h : Calls Tryz.prog 26 #[.pointer (some ⟨p, 0, none⟩), .int .i64 (n : Int), .int .i64 (j : Int)] we _)).mono ?_
          rintro e wq ⟨rfl, hwq⟩
          refine ⟨_, rfl, ?_⟩
          rw [hwq]
          clear hwq
          simp only [Act.put, pqA, pqB, pqC]
          refine VlN (.bool false) ?_
          simp only [Act.put, pqA, pqB, pqC]
          refine VlN (.bool false) ?_
          simp only [Act.put, pqA, pqB, pqC]
          refine VlN (.bool false) ?_
          simp only [Act.put, pqA, pqB, pqC]
          refine WL.nil ?_
          exact rest20 _ _ _ _ _ _ _ _ _ _ _ _ _ _ _ _ _ _ _ _ _ _ _ _ _
       ·have EX := Keep.mk (belowC E9.out JB.out)
        refine wp_seq_k fun K38 hK38 => rgn ?_
        refine VlN (.bool false) ?_
        simp only [Act.put, pqA, pqB, pqC]
        refine WL.nil (hK38 _ _ ?_)
        refine wp_seq_k fun K39 hK39 => ?_
        refine wp_cond_false rfl ?_
        refine wp_exit ?_
        refine hK21 _ _ ?_
        refine wp_seq_k fun K40 hK40 => rgn ?_
        refine VlN (.pointer (some ⟨p, 0, none⟩)) ?_
        simp only [Act.put, pqA, pqB, pqC]
        refine WL.row (by kernel_rfl) 36 (.tmp 8) rfl ga rfl 36 ea _ (HSa.out.below EX.out HSa.out.lt) Tryz.underlying36 rfl (by rw [hea.out]; exact size36E _) ?_
        simp only [Act.put, pqA, pqB, pqC]
        refine WL.row (by kernel_rfl) 36 (.tmp 9) rfl gb rfl 36 eb _ (HSb.out.below EX.out HSb.out.lt) Tryz.underlying36 rfl (by rw [heb.out]; exact size36E _) ?_
        simp only [Act.put, pqA, pqB, pqC]
        refine WL.callF (by kernel_rfl) 30 _ _ rfl Tryz.in30 #[.pointer (some ⟨p, 0, none⟩), .agg ea, .agg eb] (by simp [Act.eval]) ?_
        refine ((by have h := since_law (HP.out.below (belowC D4.out EX.out)) a b Ha.out Hb.out; rw [← hea.out, ← heb.out] at h; exact h : Calls Tryz.prog 30 #[.pointer (some ⟨p, 0, none⟩), .agg ea, .agg eb] wr _)).mono ?_
        rintro e wz ⟨rfl, hb⟩
        refine ⟨_, rfl, ?_⟩
        have EZ := Keep.mk (belowC EX.out hb)
        clear hb
        simp only [Act.put, pqA, pqB, pqC]
        refine VlN (.bool true) ?_
        simp only [Act.put, pqA, pqB, pqC]
        refine WL.nil (hK40 _ _ ?_)
        refine wp_ret ?_
        go_ret
        exact ⟨rfl, B2.out.trans ((belowC D4.out EZ.out).mono B2.out.size)⟩
      obtain ⟨sw, hsw⟩ : ∃ b, Keep (hasW ((S.map (·.2)).getD j []) i = b) := ⟨_, ⟨rfl⟩⟩
      cases sw
      ·have hij : ¬ (i : Int) = (j : Int) := fun e => by
        have e' : i = j := by omega
        have h := HP.out.hst.self (i := i) (by rw [exs_len]; exact hil)
        have h2 := hsw.out
        rw [e'] at h h2
        rw [h] at h2
        cases h2
       have hse : seesW S i j = false := by rw [seesW, hsw.out, Bool.and_false]
       refine wp_region_held_drew (S := fun wz => wz = w8.drew) (by kernel_rfl) (rfl) (fun hHeld => ?_)
       refine tkN (i := 0) (oi := ⟨some 120, Op.move (Operand.tmp 10), 3, _, _, none⟩) (v := .int .i64 (i : Int)) rfl (Or.inl ⟨by rfl, fun w hS => by clear hS; go_simp⟩) hHeld ?_
       simp only [Act.put, pqA, pqB, pqC]
       refine tkN (i := 1) (oi := ⟨some 121, Op.move (Operand.tmp 11), 3, _, _, none⟩) (v := .int .i64 (j : Int)) rfl (Or.inl ⟨by rfl, fun w hS => by clear hS; go_simp⟩) hHeld ?_
       simp only [Act.put, pqA, pqB, pqC]
       refine tkN (i := 2) (oi := ⟨some 122, Op.binOp BinOp.eql 3 (Operand.tmp 120) (Operand.tmp 121) 3, 4, _, _, none⟩) (v := .bool false) rfl (Or.inl ⟨by rfl, fun w hS => by clear hS; go_simp⟩) hHeld ?_
       simp only [Act.put, pqA, pqB, pqC]
       refine tkN (i := 3) (oi := ⟨some 123, Op.move (Operand.tmp 122), 4, _, _, none⟩) (v := .bool false) rfl (Or.inl ⟨by rfl, fun w hS => by clear hS; go_simp⟩) hHeld ?_
       simp only [Act.put, pqA, pqB, pqC]
       refine tkN (i := 4) (oi := ⟨some 124, Op.move (Operand.tmp 5), 25, _, _, some (3, false)⟩) (v := .pointer (some ⟨p, 0, none⟩)) rfl (Or.inl ⟨by rfl, fun w hS => by clear hS; go_simp⟩) hHeld ?_
       simp only [Act.put, pqA, pqB, pqC]
       refine tkN (i := 5) (oi := ⟨some 125, Op.move (Operand.tmp 10), 3, _, _, some (3, false)⟩) (v := .int .i64 (i : Int)) rfl (Or.inl ⟨by rfl, fun w hS => by clear hS; go_simp⟩) hHeld ?_
       simp only [Act.put, pqA, pqB, pqC]
       refine tkN (i := 6) (oi := ⟨some 126, Op.move (Operand.tmp 11), 3, _, _, some (3, false)⟩) (v := .int .i64 (j : Int)) rfl (Or.inl ⟨by rfl, fun w hS => by clear hS; go_simp⟩) hHeld ?_
       simp only [Act.put, pqA, pqB, pqC]
       refine wpAnyH_ready (rs := [7]) (by kernel_rfl) (by simp) ?_
       refine AllReadyH.cons (o := ⟨some 127, Op.call { callee := Callee.value (Operand.func 26), args := #[Operand.tmp 124, Operand.tmp 125, Operand.tmp 126], argTypes := #[25, 3, 3] }, 4, _, _, some (3, false)⟩) rfl (fun K hK => ?_) AllReadyH.nil
       rw [if_pos (by rfl)]
       refine wp_callF 26 _ _ rfl Tryz.in26 #[.pointer (some ⟨p, 0, none⟩), .int .i64 (i : Int), .int .i64 (j : Int)] (by simp [Act.eval]) (fun uu w' => uu = .bool false ∧ w' = w8.drew) ((sees_nat H S v p mb ub w8.drew (HP.out.rd.below (belowC D4.out E9.out)) i j hil hjl).mono fun e w' h => ⟨_, h.1, by rw [hse], h.2⟩) ?_
       rintro _ _ ⟨rfl, rfl⟩
       refine hK _ _ rfl fun hQ3 => ?_
       clear hK
       simp only [Act.put, pqA, pqB, pqC]
       refine tkN (i := 8) (oi := ⟨some 128, Op.pick (Operand.tmp 123) (Operand.const (Value.bool true)) (Operand.tmp 127), 4, _, _, none⟩) (v := .bool false) rfl (Or.inl ⟨by rfl, fun w hS => by clear hS; go_simp⟩) hQ3 ?_
       simp only [Act.put, pqA, pqB, pqC]
       refine tkN (i := 9) (oi := ⟨some 129, Op.move (Operand.tmp 128), 4, _, _, none⟩) (v := .bool false) rfl (Or.inl ⟨by rfl, fun w hS => by clear hS; go_simp⟩) hQ3 ?_
       simp only [Act.put, pqA, pqB, pqC]
       refine tkN (i := 10) (oi := ⟨some 130, Op.move (Operand.tmp 12), 24, _, _, some (9, true)⟩) (v := undef) rfl (Or.inr ⟨by rfl, rfl⟩) hQ3 ?_
       simp only [Act.put, pqA, pqB, pqC]
       refine tkN (i := 11) (oi := ⟨some 131, Op.call { callee := Callee.builtin Builtin.len, args := #[Operand.tmp 130], argTypes := #[24] }, 3, _, _, some (9, true)⟩) (v := undef) rfl (Or.inr ⟨by rfl, rfl⟩) hQ3 ?_
       simp only [Act.put, pqA, pqB, pqC]
       refine tkN (i := 12) (oi := ⟨some 132, Op.binOp BinOp.eql 3 (Operand.tmp 131) (Operand.const (Value.int IntKind.i64 1)) 3, 4, _, _, some (9, true)⟩) (v := undef) rfl (Or.inr ⟨by rfl, rfl⟩) hQ3 ?_
       simp only [Act.put, pqA, pqB, pqC]
       refine tkN (i := 13) (oi := ⟨some 133, Op.move (Operand.tmp 132), 4, _, _, some (9, true)⟩) (v := undef) rfl (Or.inr ⟨by rfl, rfl⟩) hQ3 ?_
       simp only [Act.put, pqA, pqB, pqC]
       refine tkN (i := 14) (oi := ⟨some 134, Op.move (Operand.tmp 12), 24, _, _, some (13, true)⟩) (v := undef) rfl (Or.inr ⟨by rfl, rfl⟩) hQ3 ?_
       simp only [Act.put, pqA, pqB, pqC]
       refine tkN (i := 15) (oi := ⟨some 135, Op.indexAddr 24 (Operand.tmp 134) (Operand.const (Value.int IntKind.i64 0)), 0, _, _, some (13, true)⟩) (v := undef) rfl (Or.inr ⟨by rfl, rfl⟩) hQ3 ?_
       simp only [Act.put, pqA, pqB, pqC]
       refine tkN (i := 16) (oi := ⟨some 136, Op.load 36 (Operand.tmp 135), 36, _, _, some (13, true)⟩) (v := undef) rfl (Or.inr ⟨by rfl, rfl⟩) hQ3 ?_
       simp only [Act.put, pqA, pqB, pqC]
       refine tkN (i := 17) (oi := ⟨some 137, Op.load 36 (Operand.tmp 8), 36, _, _, some (13, true)⟩) (v := undef) rfl (Or.inr ⟨by rfl, rfl⟩) hQ3 ?_
       simp only [Act.put, pqA, pqB, pqC]
       refine tkN (i := 18) (oi := ⟨some 138, Op.binOp BinOp.eql 36 (Operand.tmp 136) (Operand.tmp 137) 36, 4, _, _, some (13, true)⟩) (v := undef) rfl (Or.inr ⟨by rfl, rfl⟩) hQ3 ?_
       simp only [Act.put, pqA, pqB, pqC]
       refine tkN (i := 19) (oi := ⟨some 139, Op.pick (Operand.tmp 133) (Operand.tmp 138) (Operand.const (Value.bool false)), 4, _, _, some (9, true)⟩) (v := undef) rfl (Or.inr ⟨by rfl, rfl⟩) hQ3 ?_
       simp only [Act.put, pqA, pqB, pqC]
       refine tkN (i := 20) (oi := ⟨some 140, Op.unOp UnOp.not 4 (Operand.tmp 139), 4, _, _, some (9, true)⟩) (v := undef) rfl (Or.inr ⟨by rfl, rfl⟩) hQ3 ?_
       simp only [Act.put, pqA, pqB, pqC]
       refine tkN (i := 21) (oi := ⟨some 141, Op.pick (Operand.tmp 129) (Operand.tmp 140) (Operand.const (Value.bool false)), 4, _, _, none⟩) (v := .bool false) rfl (Or.inl ⟨by rfl, fun w hS => by clear hS; go_simp⟩) hQ3 ?_
       simp only [Act.put, pqA, pqB, pqC]
       refine wpAnyH_done (by kernel_rfl) ?_ _
       exact rest _ _ _ _ _ _ _ _ _ _ _ _ _ _ _ _ _ _ _ _ _
      ·have hCa : C = [a] := com_one HP.out.hst Ha.out Hb.out P5.out M5.out (by rw [hi.out, hj.out]; exact hsw.out)
       subst hCa
       obtain ⟨lb, lo, hca, hlr⟩ := hrow_at O9.out.row (t := 0) (by simp)
       subst hca
       have HLr : Keep (w8.drew.rangeAt lb lo ea.toList) := ⟨by rw [hea.out]; simpa using hlr⟩
       clear hlr
       have HAr : Keep (w8.drew.rangeAt ga 0 ea.toList) := ⟨blk_range (HSa.out.below E9.out HSa.out.lt)⟩
       by_cases hij : (i : Int) = (j : Int)
       ·refine wp_region_held_drew (S := fun wz => wz = w8.drew) (by kernel_rfl) (rfl) (fun hHeld => ?_)
        refine tkN (i := 0) (oi := ⟨some 120, Op.move (Operand.tmp 10), 3, _, _, none⟩) (v := .int .i64 (i : Int)) rfl (Or.inl ⟨by rfl, fun w hS => by clear hS; go_simp⟩) hHeld ?_
        simp only [Act.put, pqA, pqB, pqC]
        refine tkN (i := 1) (oi := ⟨some 121, Op.move (Operand.tmp 11), 3, _, _, none⟩) (v := .int .i64 (j : Int)) rfl (Or.inl ⟨by rfl, fun w hS => by clear hS; go_simp⟩) hHeld ?_
        simp only [Act.put, pqA, pqB, pqC]
        refine tkN (i := 2) (oi := ⟨some 122, Op.binOp BinOp.eql 3 (Operand.tmp 120) (Operand.tmp 121) 3, 4, _, _, none⟩) (v := .bool true) rfl (Or.inl ⟨by rfl, fun w hS => by clear hS; go_simp⟩) hHeld ?_
        simp only [Act.put, pqA, pqB, pqC]
        refine tkN (i := 3) (oi := ⟨some 123, Op.move (Operand.tmp 122), 4, _, _, none⟩) (v := .bool true) rfl (Or.inl ⟨by rfl, fun w hS => by clear hS; go_simp⟩) hHeld ?_
        simp only [Act.put, pqA, pqB, pqC]
        refine tkN (i := 4) (oi := ⟨some 124, Op.move (Operand.tmp 5), 25, _, _, some (3, false)⟩) (v := undef) rfl (Or.inr ⟨by rfl, rfl⟩) hHeld ?_
        simp only [Act.put, pqA, pqB, pqC]
        refine tkN (i := 5) (oi := ⟨some 125, Op.move (Operand.tmp 10), 3, _, _, some (3, false)⟩) (v := undef) rfl (Or.inr ⟨by rfl, rfl⟩) hHeld ?_
        simp only [Act.put, pqA, pqB, pqC]
        refine tkN (i := 6) (oi := ⟨some 126, Op.move (Operand.tmp 11), 3, _, _, some (3, false)⟩) (v := undef) rfl (Or.inr ⟨by rfl, rfl⟩) hHeld ?_
        simp only [Act.put, pqA, pqB, pqC]
        refine tkN (i := 7) (oi := ⟨some 127, Op.call { callee := Callee.value (Operand.func 26), args := #[Operand.tmp 124, Operand.tmp 125, Operand.tmp 126], argTypes := #[25, 3, 3] }, 4, _, _, some (3, false)⟩) (v := undef) rfl (Or.inr ⟨by rfl, rfl⟩) hHeld ?_
        simp only [Act.put, pqA, pqB, pqC]
        refine tkN (i := 8) (oi := ⟨some 128, Op.pick (Operand.tmp 123) (Operand.const (Value.bool true)) (Operand.tmp 127), 4, _, _, none⟩) (v := .bool true) rfl (Or.inl ⟨by rfl, fun w hS => by clear hS; go_simp⟩) hHeld ?_
        simp only [Act.put, pqA, pqB, pqC]
        refine tkN (i := 9) (oi := ⟨some 129, Op.move (Operand.tmp 128), 4, _, _, none⟩) (v := .bool true) rfl (Or.inl ⟨by rfl, fun w hS => by clear hS; go_simp⟩) hHeld ?_
        simp only [Act.put, pqA, pqB, pqC]
        refine tkN (i := 10) (oi := ⟨some 130, Op.move (Operand.tmp 12), 24, _, _, some (9, true)⟩) (v := .slice (some ⟨lb, lo, none⟩) ([a] : List Hs).length cc) rfl (Or.inl ⟨by rfl, fun w hS => by clear hS; go_simp⟩) hHeld ?_
        simp only [Act.put, pqA, pqB, pqC]
        refine tkN (i := 11) (oi := ⟨some 131, Op.call { callee := Callee.builtin Builtin.len, args := #[Operand.tmp 130], argTypes := #[24] }, 3, _, _, some (9, true)⟩) (v := .int .i64 1) rfl (Or.inl ⟨by rfl, fun w hS => by clear hS; go_simp⟩) hHeld ?_
        simp only [Act.put, pqA, pqB, pqC]
        refine tkN (i := 12) (oi := ⟨some 132, Op.binOp BinOp.eql 3 (Operand.tmp 131) (Operand.const (Value.int IntKind.i64 1)) 3, 4, _, _, some (9, true)⟩) (v := .bool true) rfl (Or.inl ⟨by rfl, fun w hS => by clear hS; go_simp⟩) hHeld ?_
        simp only [Act.put, pqA, pqB, pqC]
        refine tkN (i := 13) (oi := ⟨some 133, Op.move (Operand.tmp 132), 4, _, _, some (9, true)⟩) (v := .bool true) rfl (Or.inl ⟨by rfl, fun w hS => by clear hS; go_simp⟩) hHeld ?_
        simp only [Act.put, pqA, pqB, pqC]
        refine tkN (i := 14) (oi := ⟨some 134, Op.move (Operand.tmp 12), 24, _, _, some (13, true)⟩) (v := .slice (some ⟨lb, lo, none⟩) ([a] : List Hs).length cc) rfl (Or.inl ⟨by rfl, fun w hS => by clear hS; go_simp⟩) hHeld ?_
        simp only [Act.put, pqA, pqB, pqC]
        refine tkN (i := 15) (oi := ⟨some 135, Op.indexAddr 24 (Operand.tmp 134) (Operand.const (Value.int IntKind.i64 0)), 0, _, _, some (13, true)⟩) (v := .pointer (some ⟨lb, lo, none⟩)) rfl (Or.inl ⟨by rfl, fun w hS => by clear hS; go_simp⟩) hHeld ?_
        simp only [Act.put, pqA, pqB, pqC]
        refine tkN (i := 16) (oi := ⟨some 136, Op.load 36 (Operand.tmp 135), 36, _, _, some (13, true)⟩) (v := .agg ea) rfl (yieldsIf_ld (by rfl) (Operand.tmp 135) 36 rfl lb lo rfl ea _ Tryz.underlying36 rfl (by rw [hea.out]; exact size36E _) fun w hS => hS ▸ HLr.out) hHeld ?_
        simp only [Act.put, pqA, pqB, pqC]
        refine tkN (i := 17) (oi := ⟨some 137, Op.load 36 (Operand.tmp 8), 36, _, _, some (13, true)⟩) (v := .agg ea) rfl (yieldsIf_ld (by rfl) (Operand.tmp 8) 36 rfl ga 0 rfl ea _ Tryz.underlying36 rfl (by rw [hea.out]; exact size36E _) fun w hS => hS ▸ HAr.out) hHeld ?_
        simp only [Act.put, pqA, pqB, pqC]
        refine tkN (i := 18) (oi := ⟨some 138, Op.binOp BinOp.eql 36 (Operand.tmp 136) (Operand.tmp 137) 36, 4, _, _, some (13, true)⟩) (v := .bool true) rfl (Or.inl ⟨by rfl, fun w hS => by clear hS; rw [hea.out]; go_simp; rw [run_equal_arr2, all_eq_iff, decide_eq_true rfl]; rfl⟩) hHeld ?_
        simp only [Act.put, pqA, pqB, pqC]
        refine tkN (i := 19) (oi := ⟨some 139, Op.pick (Operand.tmp 133) (Operand.tmp 138) (Operand.const (Value.bool false)), 4, _, _, some (9, true)⟩) (v := .bool true) rfl (Or.inl ⟨by rfl, fun w hS => by clear hS; go_simp⟩) hHeld ?_
        simp only [Act.put, pqA, pqB, pqC]
        refine tkN (i := 20) (oi := ⟨some 140, Op.unOp UnOp.not 4 (Operand.tmp 139), 4, _, _, some (9, true)⟩) (v := .bool false) rfl (Or.inl ⟨by rfl, fun w hS => by clear hS; go_simp⟩) hHeld ?_
        simp only [Act.put, pqA, pqB, pqC]
        refine tkN (i := 21) (oi := ⟨some 141, Op.pick (Operand.tmp 129) (Operand.tmp 140) (Operand.const (Value.bool false)), 4, _, _, none⟩) (v := .bool false) rfl (Or.inl ⟨by rfl, fun w hS => by clear hS; go_simp⟩) hHeld ?_
        simp only [Act.put, pqA, pqB, pqC]
        refine wpAnyH_done (by kernel_rfl) ?_ _
        exact rest _ _ _ _ _ _ _ _ _ _ _ _ _ _ _ _ _ _ _ _ _
       ·have hse : seesW S i j = true := by rw [seesW, hsw.out, decide_eq_false (by omega)]; rfl
        refine wp_region_held_drew (S := fun wz => wz = w8.drew) (by kernel_rfl) (rfl) (fun hHeld => ?_)
        refine tkN (i := 0) (oi := ⟨some 120, Op.move (Operand.tmp 10), 3, _, _, none⟩) (v := .int .i64 (i : Int)) rfl (Or.inl ⟨by rfl, fun w hS => by clear hS; go_simp⟩) hHeld ?_
        simp only [Act.put, pqA, pqB, pqC]
        refine tkN (i := 1) (oi := ⟨some 121, Op.move (Operand.tmp 11), 3, _, _, none⟩) (v := .int .i64 (j : Int)) rfl (Or.inl ⟨by rfl, fun w hS => by clear hS; go_simp⟩) hHeld ?_
        simp only [Act.put, pqA, pqB, pqC]
        refine tkN (i := 2) (oi := ⟨some 122, Op.binOp BinOp.eql 3 (Operand.tmp 120) (Operand.tmp 121) 3, 4, _, _, none⟩) (v := .bool false) rfl (Or.inl ⟨by rfl, fun w hS => by clear hS; go_simp⟩) hHeld ?_
        simp only [Act.put, pqA, pqB, pqC]
        refine tkN (i := 3) (oi := ⟨some 123, Op.move (Operand.tmp 122), 4, _, _, none⟩) (v := .bool false) rfl (Or.inl ⟨by rfl, fun w hS => by clear hS; go_simp⟩) hHeld ?_
        simp only [Act.put, pqA, pqB, pqC]
        refine tkN (i := 4) (oi := ⟨some 124, Op.move (Operand.tmp 5), 25, _, _, some (3, false)⟩) (v := .pointer (some ⟨p, 0, none⟩)) rfl (Or.inl ⟨by rfl, fun w hS => by clear hS; go_simp⟩) hHeld ?_
        simp only [Act.put, pqA, pqB, pqC]
        refine tkN (i := 5) (oi := ⟨some 125, Op.move (Operand.tmp 10), 3, _, _, some (3, false)⟩) (v := .int .i64 (i : Int)) rfl (Or.inl ⟨by rfl, fun w hS => by clear hS; go_simp⟩) hHeld ?_
        simp only [Act.put, pqA, pqB, pqC]
        refine tkN (i := 6) (oi := ⟨some 126, Op.move (Operand.tmp 11), 3, _, _, some (3, false)⟩) (v := .int .i64 (j : Int)) rfl (Or.inl ⟨by rfl, fun w hS => by clear hS; go_simp⟩) hHeld ?_
        simp only [Act.put, pqA, pqB, pqC]
        refine wpAnyH_ready (rs := [7]) (by kernel_rfl) (by simp) ?_
        refine AllReadyH.cons (o := ⟨some 127, Op.call { callee := Callee.value (Operand.func 26), args := #[Operand.tmp 124, Operand.tmp 125, Operand.tmp 126], argTypes := #[25, 3, 3] }, 4, _, _, some (3, false)⟩) rfl (fun K hK => ?_) AllReadyH.nil
        rw [if_pos (by rfl)]
        refine wp_callF 26 _ _ rfl Tryz.in26 #[.pointer (some ⟨p, 0, none⟩), .int .i64 (i : Int), .int .i64 (j : Int)] (by simp [Act.eval]) (fun uu w' => uu = .bool true ∧ w' = w8.drew) ((sees_nat H S v p mb ub w8.drew (HP.out.rd.below (belowC D4.out E9.out)) i j hil hjl).mono fun e w' h => ⟨_, h.1, by rw [hse], h.2⟩) ?_
        rintro _ _ ⟨rfl, rfl⟩
        refine hK _ _ rfl fun hQ3 => ?_
        clear hK
        simp only [Act.put, pqA, pqB, pqC]
        refine tkN (i := 8) (oi := ⟨some 128, Op.pick (Operand.tmp 123) (Operand.const (Value.bool true)) (Operand.tmp 127), 4, _, _, none⟩) (v := .bool true) rfl (Or.inl ⟨by rfl, fun w hS => by clear hS; go_simp⟩) hQ3 ?_
        simp only [Act.put, pqA, pqB, pqC]
        refine tkN (i := 9) (oi := ⟨some 129, Op.move (Operand.tmp 128), 4, _, _, none⟩) (v := .bool true) rfl (Or.inl ⟨by rfl, fun w hS => by clear hS; go_simp⟩) hQ3 ?_
        simp only [Act.put, pqA, pqB, pqC]
        refine tkN (i := 10) (oi := ⟨some 130, Op.move (Operand.tmp 12), 24, _, _, some (9, true)⟩) (v := .slice (some ⟨lb, lo, none⟩) ([a] : List Hs).length cc) rfl (Or.inl ⟨by rfl, fun w hS => by clear hS; go_simp⟩) hQ3 ?_
        simp only [Act.put, pqA, pqB, pqC]
        refine tkN (i := 11) (oi := ⟨some 131, Op.call { callee := Callee.builtin Builtin.len, args := #[Operand.tmp 130], argTypes := #[24] }, 3, _, _, some (9, true)⟩) (v := .int .i64 1) rfl (Or.inl ⟨by rfl, fun w hS => by clear hS; go_simp⟩) hQ3 ?_
        simp only [Act.put, pqA, pqB, pqC]
        refine tkN (i := 12) (oi := ⟨some 132, Op.binOp BinOp.eql 3 (Operand.tmp 131) (Operand.const (Value.int IntKind.i64 1)) 3, 4, _, _, some (9, true)⟩) (v := .bool true) rfl (Or.inl ⟨by rfl, fun w hS => by clear hS; go_simp⟩) hQ3 ?_
        simp only [Act.put, pqA, pqB, pqC]
        refine tkN (i := 13) (oi := ⟨some 133, Op.move (Operand.tmp 132), 4, _, _, some (9, true)⟩) (v := .bool true) rfl (Or.inl ⟨by rfl, fun w hS => by clear hS; go_simp⟩) hQ3 ?_
        simp only [Act.put, pqA, pqB, pqC]
        refine tkN (i := 14) (oi := ⟨some 134, Op.move (Operand.tmp 12), 24, _, _, some (13, true)⟩) (v := .slice (some ⟨lb, lo, none⟩) ([a] : List Hs).length cc) rfl (Or.inl ⟨by rfl, fun w hS => by clear hS; go_simp⟩) hQ3 ?_
        simp only [Act.put, pqA, pqB, pqC]
        refine tkN (i := 15) (oi := ⟨some 135, Op.indexAddr 24 (Operand.tmp 134) (Operand.const (Value.int IntKind.i64 0)), 0, _, _, some (13, true)⟩) (v := .pointer (some ⟨lb, lo, none⟩)) rfl (Or.inl ⟨by rfl, fun w hS => by clear hS; go_simp⟩) hQ3 ?_
        simp only [Act.put, pqA, pqB, pqC]
        refine tkN (i := 16) (oi := ⟨some 136, Op.load 36 (Operand.tmp 135), 36, _, _, some (13, true)⟩) (v := .agg ea) rfl (yieldsIf_ld (by rfl) (Operand.tmp 135) 36 rfl lb lo rfl ea _ Tryz.underlying36 rfl (by rw [hea.out]; exact size36E _) fun w hS => hS ▸ HLr.out) hQ3 ?_
        simp only [Act.put, pqA, pqB, pqC]
        refine tkN (i := 17) (oi := ⟨some 137, Op.load 36 (Operand.tmp 8), 36, _, _, some (13, true)⟩) (v := .agg ea) rfl (yieldsIf_ld (by rfl) (Operand.tmp 8) 36 rfl ga 0 rfl ea _ Tryz.underlying36 rfl (by rw [hea.out]; exact size36E _) fun w hS => hS ▸ HAr.out) hQ3 ?_
        simp only [Act.put, pqA, pqB, pqC]
        refine tkN (i := 18) (oi := ⟨some 138, Op.binOp BinOp.eql 36 (Operand.tmp 136) (Operand.tmp 137) 36, 4, _, _, some (13, true)⟩) (v := .bool true) rfl (Or.inl ⟨by rfl, fun w hS => by clear hS; rw [hea.out]; go_simp; rw [run_equal_arr2, all_eq_iff, decide_eq_true rfl]; rfl⟩) hQ3 ?_
        simp only [Act.put, pqA, pqB, pqC]
        refine tkN (i := 19) (oi := ⟨some 139, Op.pick (Operand.tmp 133) (Operand.tmp 138) (Operand.const (Value.bool false)), 4, _, _, some (9, true)⟩) (v := .bool true) rfl (Or.inl ⟨by rfl, fun w hS => by clear hS; go_simp⟩) hQ3 ?_
        simp only [Act.put, pqA, pqB, pqC]
        refine tkN (i := 20) (oi := ⟨some 140, Op.unOp UnOp.not 4 (Operand.tmp 139), 4, _, _, some (9, true)⟩) (v := .bool false) rfl (Or.inl ⟨by rfl, fun w hS => by clear hS; go_simp⟩) hQ3 ?_
        simp only [Act.put, pqA, pqB, pqC]
        refine tkN (i := 21) (oi := ⟨some 141, Op.pick (Operand.tmp 129) (Operand.tmp 140) (Operand.const (Value.bool false)), 4, _, _, none⟩) (v := .bool false) rfl (Or.inl ⟨by rfl, fun w hS => by clear hS; go_simp⟩) hQ3 ?_
        simp only [Act.put, pqA, pqB, pqC]
        refine wpAnyH_done (by kernel_rfl) ?_ _
        exact rest _ _ _ _ _ _ _ _ _ _ _ _ _ _ _ _ _ _ _ _ _
     refine wp_region_held_drew (S := fun wz => wz.cell? ⟨gt, 0, none⟩ = some (.int .i64 (k0 : Int)) ∧ wz.cell? ⟨gt, 1, none⟩ = some (.int .i64 (k1 : Int)) ∧ wz.rangeAt sb (so + k0 * 36) ea.toList ∧ wz.rangeAt sb (so + k1 * 36) eb.toList) (by kernel_rfl) (hSS.out _ hD0.out) (fun hHeld => ?_)
     refine tkN (i := 0) (oi := ⟨some 63, Op.move (Operand.tmp 0), 23, _, _, none⟩) (v := .slice (some ⟨sb, so, none⟩) L.length sc) rfl (Or.inl ⟨by rfl, fun w hS => by obtain ⟨c0, c1, -, -⟩ := hS; go_simp⟩) hHeld ?_
     simp only [Act.put, pqA, pqB, pqC]
     refine tkN (i := 1) (oi := ⟨some 64, Op.indexAddr 66 (Operand.tmp 3) (Operand.const (Value.int IntKind.i64 0)), 0, _, _, none⟩) (v := .pointer (some ⟨gt, 0, none⟩)) rfl (Or.inl ⟨by rfl, fun w hS => by obtain ⟨c0, c1, -, -⟩ := hS; go_simp⟩) hHeld ?_
     simp only [Act.put, pqA, pqB, pqC]
     refine tkN (i := 2) (oi := ⟨some 65, Op.load 3 (Operand.tmp 64), 3, _, _, none⟩) (v := .int .i64 (k0 : Int)) rfl (Or.inl ⟨by rfl, fun w hS => by obtain ⟨c0, c1, -, -⟩ := hS; go_simp⟩) hHeld ?_
     simp only [Act.put, pqA, pqB, pqC]
     refine tkN (i := 3) (oi := ⟨some 66, Op.indexAddr 23 (Operand.tmp 63) (Operand.tmp 65), 0, _, _, none⟩) (v := .pointer (some ⟨sb, so + k0 * 36, none⟩)) rfl (Or.inl ⟨by rfl, fun w hS => by obtain ⟨c0, c1, -, -⟩ := hS; go_simp⟩) hHeld ?_
     simp only [Act.put, pqA, pqB, pqC]
     refine tkN (i := 4) (oi := ⟨some 67, Op.fieldAddr 52 (Operand.tmp 66) 0, 0, _, _, none⟩) (v := .pointer (some ⟨sb, so + k0 * 36, none⟩)) rfl (Or.inl ⟨by rfl, fun w hS => by obtain ⟨c0, c1, -, -⟩ := hS; go_simp⟩) hHeld ?_
     simp only [Act.put, pqA, pqB, pqC]
     refine tkN (i := 5) (oi := ⟨some 68, Op.load 36 (Operand.tmp 67), 36, _, _, none⟩) (v := .agg ea) rfl (yieldsIf_ld (by rfl) (Operand.tmp 67) 36 rfl sb (so + k0 * 36) rfl ea _ Tryz.underlying36 rfl (by rw [hea.out]; exact size36E _) fun w hS => hS.2.2.1) hHeld ?_
     simp only [Act.put, pqA, pqB, pqC]
     refine tkN (i := 6) (oi := ⟨some 69, Op.move (Operand.tmp 0), 23, _, _, none⟩) (v := .slice (some ⟨sb, so, none⟩) L.length sc) rfl (Or.inl ⟨by rfl, fun w hS => by obtain ⟨c0, c1, -, -⟩ := hS; go_simp⟩) hHeld ?_
     simp only [Act.put, pqA, pqB, pqC]
     refine tkN (i := 7) (oi := ⟨some 70, Op.indexAddr 66 (Operand.tmp 3) (Operand.const (Value.int IntKind.i64 1)), 0, _, _, none⟩) (v := .pointer (some ⟨gt, 1, none⟩)) rfl (Or.inl ⟨by rfl, fun w hS => by obtain ⟨c0, c1, -, -⟩ := hS; go_simp⟩) hHeld ?_
     simp only [Act.put, pqA, pqB, pqC]
     refine tkN (i := 8) (oi := ⟨some 71, Op.load 3 (Operand.tmp 70), 3, _, _, none⟩) (v := .int .i64 (k1 : Int)) rfl (Or.inl ⟨by rfl, fun w hS => by obtain ⟨c0, c1, -, -⟩ := hS; go_simp⟩) hHeld ?_
     simp only [Act.put, pqA, pqB, pqC]
     refine tkN (i := 9) (oi := ⟨some 72, Op.indexAddr 23 (Operand.tmp 69) (Operand.tmp 71), 0, _, _, none⟩) (v := .pointer (some ⟨sb, so + k1 * 36, none⟩)) rfl (Or.inl ⟨by rfl, fun w hS => by obtain ⟨c0, c1, -, -⟩ := hS; go_simp⟩) hHeld ?_
     simp only [Act.put, pqA, pqB, pqC]
     refine tkN (i := 10) (oi := ⟨some 73, Op.fieldAddr 52 (Operand.tmp 72) 0, 0, _, _, none⟩) (v := .pointer (some ⟨sb, so + k1 * 36, none⟩)) rfl (Or.inl ⟨by rfl, fun w hS => by obtain ⟨c0, c1, -, -⟩ := hS; go_simp⟩) hHeld ?_
     simp only [Act.put, pqA, pqB, pqC]
     refine tkN (i := 11) (oi := ⟨some 74, Op.load 36 (Operand.tmp 73), 36, _, _, none⟩) (v := .agg eb) rfl (yieldsIf_ld (by rfl) (Operand.tmp 73) 36 rfl sb (so + k1 * 36) rfl eb _ Tryz.underlying36 rfl (by rw [heb.out]; exact size36E _) fun w hS => hS.2.2.2) hHeld ?_
     simp only [Act.put, pqA, pqB, pqC]
     refine wpAnyH_ready (rs := [12, 13]) (by kernel_rfl) (by simp) ?_
     refine AllReadyH.cons (o := ⟨some 8, Op.alloc 36, 0, _, _, none⟩) rfl (fun K hK => ?_) (AllReadyH.cons (o := ⟨some 9, Op.alloc 36, 0, _, _, none⟩) rfl (fun K hK => ?_) AllReadyH.nil)
     all_goals rw [if_pos (by rfl)]
     ·refine wp_newA 36 rfl ez (fun wzz => by rw [hez.out]; exact Tryz.new36 wzz) ?_
      obtain ⟨ga, hga⟩ : ∃ b, Keep (b = w2.drew.heap.size) := ⟨_, ⟨rfl⟩⟩
      obtain ⟨wA, hw1⟩ : ∃ wx, Keep (wx = w2.drew.alloc (.cells ez 36)) := ⟨_, ⟨rfl⟩⟩
      rw [← hga.out, ← hw1.out]
      have HZga : Keep (Blk wA ga 36 ez) := ⟨by rw [hga.out, hw1.out]; exact Blk.new _ _ _⟩
      have BN1 : Keep (Below w2.drew.heap.size w2.drew wA) := ⟨by rw [hw1.out]; exact below_new _ _⟩
      have D1 : Keep (Below w2.heap.size w2 wA) := ⟨belowC hD0.out BN1.out⟩
      refine hK _ _ (hSS.out _ D1.out) fun hH1 => ?_
      clear hK hw1
      simp only [Act.put, pqA, pqB, pqC]
      refine wpAnyH_ready (rs := [13]) (by kernel_rfl) (by simp) ?_
      refine AllReadyH.cons (o := ⟨some 9, Op.alloc 36, 0, _, _, none⟩) rfl (fun K hK => ?_) AllReadyH.nil
      rw [if_pos (by rfl)]
      refine wp_newA 36 rfl ez (fun wzz => by rw [hez.out]; exact Tryz.new36 wzz) ?_
      obtain ⟨gb, hgb⟩ : ∃ b, Keep (b = wA.heap.size) := ⟨_, ⟨rfl⟩⟩
      obtain ⟨wB, hw2⟩ : ∃ wx, Keep (wx = wA.alloc (.cells ez 36)) := ⟨_, ⟨rfl⟩⟩
      rw [← hgb.out, ← hw2.out]
      have HZgb : Keep (Blk wB gb 36 ez) := ⟨by rw [hgb.out, hw2.out]; exact Blk.new _ _ _⟩
      have BN2 : Keep (Below wA.heap.size wA wB) := ⟨by rw [hw2.out]; exact below_new _ _⟩
      have D2 : Keep (Below w2.heap.size w2 wB) := ⟨belowC D1.out BN2.out⟩
      refine hK _ _ (hSS.out _ D2.out) fun hH2 => ?_
      clear hK hw2
      have HXga : Keep (Blk wB ga 36 ez) := ⟨HZga.out.below BN2.out HZga.out.lt⟩
      have HXgb := HZgb
      have hne : Keep (ga ≠ gb) := ⟨fun e => by have h1 := HZga.out.lt; have h2 := hgb.out; omega⟩
      have hlo : Keep (w2.heap.size ≤ ga ∧ w2.heap.size ≤ gb) := ⟨by have h1 := hga.out; have h2 := hgb.out; have h3 := BN1.out.size; have h4 := hD0.out.size; omega⟩
      clear HZga HZgb hga hgb BN1 BN2 D1
      simp only [Act.put, pqA, pqB, pqC]
      refine wpAnyH_ready (rs := [14]) (by kernel_rfl) (by simp) ?_
      refine AllReadyH.cons (o := ⟨none, Op.store 36 (Operand.tmp 8) (Operand.tmp 68), 0, _, _, none⟩) rfl (fun K hK => ?_) AllReadyH.nil
      rw [if_pos (by rfl)]
      refine wp_store_row 36 (Operand.tmp 8) (Operand.tmp 68) rfl ga ea rfl rfl 36 ez HXga.out (by rw [hea.out]; exact size36E _) (by rw [hea.out, hez.out, bytesA_size, bytesA_size]) (by rw [hea.out]; exact bytesA_one _ _) ?_
      have HYa := Keep.mk (HXga.out.setRow ea)
      have HYb := Keep.mk (Nd.Blk.setRow_ne HXgb.out hne.out.symm ea)
      have D3 : Keep (Below w2.heap.size w2 (wB.setRow ga ea)) := ⟨below_setRow D2.out hlo.out.1 _⟩
      generalize wB.setRow ga ea = wC at *
      refine hK _ _ (hSS.out _ D3.out) fun hH3 => ?_
      clear hK HXga HXgb D2
      simp only [Act.put, pqA, pqB, pqC]
      refine wpAnyH_ready (rs := [15]) (by kernel_rfl) (by simp) ?_
      refine AllReadyH.cons (o := ⟨none, Op.store 36 (Operand.tmp 9) (Operand.tmp 74), 0, _, _, none⟩) rfl (fun K hK => ?_) AllReadyH.nil
      rw [if_pos (by rfl)]
      refine wp_store_row 36 (Operand.tmp 9) (Operand.tmp 74) rfl gb eb rfl rfl 36 ez HYb.out (by rw [heb.out]; exact size36E _) (by rw [heb.out, hez.out, bytesA_size, bytesA_size]) (by rw [heb.out]; exact bytesA_one _ _) ?_
      have HSb := Keep.mk (HYb.out.setRow eb)
      have HSa := Keep.mk (Nd.Blk.setRow_ne HYa.out hne.out eb)
      have D4 : Keep (Below w2.heap.size w2 (wC.setRow gb eb)) := ⟨below_setRow D3.out hlo.out.2 _⟩
      generalize wC.setRow gb eb = wS at *
      refine hK _ _ (hSS.out _ D4.out) fun hH4 => ?_
      clear hK HYa HYb D3
      simp only [Act.put, pqA, pqB, pqC]
      refine wpAnyH_done (by kernel_rfl) ?_ _
      exact rest8 ga gb wS HSa.out HSb.out D4.out
     ·refine wp_newA 36 rfl ez (fun wzz => by rw [hez.out]; exact Tryz.new36 wzz) ?_
      obtain ⟨gb, hgb⟩ : ∃ b, Keep (b = w2.drew.heap.size) := ⟨_, ⟨rfl⟩⟩
      obtain ⟨wA, hw1⟩ : ∃ wx, Keep (wx = w2.drew.alloc (.cells ez 36)) := ⟨_, ⟨rfl⟩⟩
      rw [← hgb.out, ← hw1.out]
      have HZgb : Keep (Blk wA gb 36 ez) := ⟨by rw [hgb.out, hw1.out]; exact Blk.new _ _ _⟩
      have BN1 : Keep (Below w2.drew.heap.size w2.drew wA) := ⟨by rw [hw1.out]; exact below_new _ _⟩
      have D1 : Keep (Below w2.heap.size w2 wA) := ⟨belowC hD0.out BN1.out⟩
      refine hK _ _ (hSS.out _ D1.out) fun hH1 => ?_
      clear hK hw1
      simp only [Act.put, pqA, pqB, pqC]
      refine wpAnyH_ready (rs := [12]) (by kernel_rfl) (by simp) ?_
      refine AllReadyH.cons (o := ⟨some 8, Op.alloc 36, 0, _, _, none⟩) rfl (fun K hK => ?_) AllReadyH.nil
      rw [if_pos (by rfl)]
      refine wp_newA 36 rfl ez (fun wzz => by rw [hez.out]; exact Tryz.new36 wzz) ?_
      obtain ⟨ga, hga⟩ : ∃ b, Keep (b = wA.heap.size) := ⟨_, ⟨rfl⟩⟩
      obtain ⟨wB, hw2⟩ : ∃ wx, Keep (wx = wA.alloc (.cells ez 36)) := ⟨_, ⟨rfl⟩⟩
      rw [← hga.out, ← hw2.out]
      have HZga : Keep (Blk wB ga 36 ez) := ⟨by rw [hga.out, hw2.out]; exact Blk.new _ _ _⟩
      have BN2 : Keep (Below wA.heap.size wA wB) := ⟨by rw [hw2.out]; exact below_new _ _⟩
      have D2 : Keep (Below w2.heap.size w2 wB) := ⟨belowC D1.out BN2.out⟩
      refine hK _ _ (hSS.out _ D2.out) fun hH2 => ?_
      clear hK hw2
      have HXgb : Keep (Blk wB gb 36 ez) := ⟨HZgb.out.below BN2.out HZgb.out.lt⟩
      have HXga := HZga
      have hne : Keep (ga ≠ gb) := ⟨fun e => by have h1 := HZgb.out.lt; have h2 := hga.out; omega⟩
      have hlo : Keep (w2.heap.size ≤ ga ∧ w2.heap.size ≤ gb) := ⟨by have h1 := hgb.out; have h2 := hga.out; have h3 := BN1.out.size; have h4 := hD0.out.size; omega⟩
      clear HZga HZgb hga hgb BN1 BN2 D1
      simp only [Act.put, pqA, pqB, pqC]
      refine wpAnyH_ready (rs := [14]) (by kernel_rfl) (by simp) ?_
      refine AllReadyH.cons (o := ⟨none, Op.store 36 (Operand.tmp 8) (Operand.tmp 68), 0, _, _, none⟩) rfl (fun K hK => ?_) AllReadyH.nil
      rw [if_pos (by rfl)]
      refine wp_store_row 36 (Operand.tmp 8) (Operand.tmp 68) rfl ga ea rfl rfl 36 ez HXga.out (by rw [hea.out]; exact size36E _) (by rw [hea.out, hez.out, bytesA_size, bytesA_size]) (by rw [hea.out]; exact bytesA_one _ _) ?_
      have HYa := Keep.mk (HXga.out.setRow ea)
      have HYb := Keep.mk (Nd.Blk.setRow_ne HXgb.out hne.out.symm ea)
      have D3 : Keep (Below w2.heap.size w2 (wB.setRow ga ea)) := ⟨below_setRow D2.out hlo.out.1 _⟩
      generalize wB.setRow ga ea = wC at *
      refine hK _ _ (hSS.out _ D3.out) fun hH3 => ?_
      clear hK HXga HXgb D2
      simp only [Act.put, pqA, pqB, pqC]
      refine wpAnyH_ready (rs := [15]) (by kernel_rfl) (by simp) ?_
      refine AllReadyH.cons (o := ⟨none, Op.store 36 (Operand.tmp 9) (Operand.tmp 74), 0, _, _, none⟩) rfl (fun K hK => ?_) AllReadyH.nil
      rw [if_pos (by rfl)]
      refine wp_store_row 36 (Operand.tmp 9) (Operand.tmp 74) rfl gb eb rfl rfl 36 ez HYb.out (by rw [heb.out]; exact size36E _) (by rw [heb.out, hez.out, bytesA_size, bytesA_size]) (by rw [heb.out]; exact bytesA_one _ _) ?_
      have HSb := Keep.mk (HYb.out.setRow eb)
      have HSa := Keep.mk (Nd.Blk.setRow_ne HYa.out hne.out eb)
      have D4 : Keep (Below w2.heap.size w2 (wC.setRow gb eb)) := ⟨below_setRow D3.out hlo.out.2 _⟩
      generalize wC.setRow gb eb = wS at *
      refine hK _ _ (hSS.out _ D4.out) fun hH4 => ?_
      clear hK HYa HYb D3
      simp only [Act.put, pqA, pqB, pqC]
      refine wpAnyH_done (by kernel_rfl) ?_ _
      exact rest8 ga gb wS HSa.out HSb.out D4.out
set_option maxRecDepth 16000 in
set_option maxHeartbeats 4000000 in
theorem follows_any (v0 : Value) (L : List EP) (x0 x1 : Int) (w : World) (hs : ESl w v0 L) (hi : EIn w L) (hL : L.length ≤ 4398046511104) : Calls Tryz.prog 8 #[v0, .agg #[.int .i64 x0, .int .i64 x1]] w fun e w' => e = .returned (.bool true) ∧ Below w.heap.size w w' := by
 by_cases hok : ∀ i, i < L.length → al1 (exs L) i = 0
 rotate_left
 ·obtain ⟨sa, sc, rfl⟩ := hs.form
  have HS := Keep.mk hs
  have HI := Keep.mk hi
  have HL := Keep.mk hL
  obtain ⟨tv, htv⟩ : ∃ c : Array Value, Keep (c = #[.int .i64 x0, .int .i64 x1]) := ⟨_, ⟨rfl⟩⟩
  rw [← htv.out]
  have hbad := hok
  clear hs hi hL
  go_enter Tryz.func8, Tryz.ntmps8
  refine wp_seq_k fun K1 hK1 => rgn ?_
  refine WL.box (by kernel_rfl) 66 (.tmp 1) rfl (tv) rfl ?_
  obtain ⟨w0, hwn⟩ : ∃ wx, Keep (wx = w.alloc (.cells (tv) 66)) := ⟨_, ⟨rfl⟩⟩
  rw [← hwn.out]
  have HT0 : Keep (Blk w0 w.heap.size 66 (tv)) := ⟨by rw [hwn.out]; exact Blk.new _ _ _⟩
  have L0 : Keep (Below w.heap.size w w0) := ⟨by rw [hwn.out]; exact below_new _ _⟩
  clear hwn
  obtain ⟨gt, hgt⟩ : ∃ g, Keep (g = w.heap.size) := ⟨_, ⟨rfl⟩⟩
  rw [← hgt.out] at HT0 ⊢
  clear hgt
  simp only [Act.put, pqA, pqB, pqC]
  refine VlN (.bool false) ?_
  simp only [Act.put, pqA, pqB, pqC]
  refine WL.nil (hK1 _ _ ?_)
  refine wp_seq_k fun K2 hK2 => ?_
  refine wp_seq_k fun K3 hK3 => rgn ?_
  refine WL.callF (by kernel_rfl) 9 _ _ rfl Tryz.in9 #[] (by simp) ?_
  refine (awake_any w0).mono ?_
  rintro e w1 ⟨rfl, hb⟩
  refine ⟨_, rfl, ?_⟩
  have B1 := Keep.mk (belowC L0.out hb)
  have HT1 := Keep.mk (HT0.out.below hb HT0.out.lt)
  clear hb HT0
  simp only [Act.put, pqA, pqB, pqC]
  refine VlN (.bool false) ?_
  simp only [Act.put, pqA, pqB, pqC]
  refine WL.nil (hK3 _ _ ?_)
  refine wp_cond_false rfl ?_
  refine wp_skip ?_
  refine hK2 _ _ ?_
  refine wp_seq_k fun K4 hK4 => rgn ?_
  refine VlN (.slice sa L.length sc) ?_
  simp only [Act.put, pqA, pqB, pqC]
  refine WL.callF (by kernel_rfl) 10 _ _ rfl Tryz.in10 #[.slice sa L.length sc] (by simp [Act.eval]) ?_
  refine (of_any _ L w1 (HS.out.below B1.out) (HI.out.below B1.out) HL.out).mono ?_
  rintro e w2 (⟨p, H, S, -, hP⟩ | ⟨hb, i, hi, -, hne, rfl⟩ | ⟨-, h, -⟩)
  ·exact absurd (fun i hi => hP.good.al i (by rw [exs_len]; exact hi)) hbad
  rotate_left
  ·exact absurd h hbad
  refine ⟨_, rfl, ?_⟩
  obtain ⟨c, hc⟩ : ∃ c, Keep (al1 (exs L) i = c) := ⟨_, ⟨rfl⟩⟩
  rw [hc.out]
  have hc0 : ¬ c = 0 := by rw [← hc.out]; exact hne
  simp only [Act.put, pqA, pqB, pqC]
  refine VlN (.tuple #[.pointer none, .int .i64 c, .int .i64 (i : Int)]) ?_
  simp only [Act.put, pqA, pqB, pqC]
  refine VlN (.pointer none) ?_
  simp only [Act.put, pqA, pqB, pqC]
  refine VlN (.int .i64 c) ?_
  simp only [Act.put, pqA, pqB, pqC]
  refine VlN (.int .i64 (i : Int)) ?_
  simp only [Act.put, pqA, pqB, pqC]
  refine VlN (.pointer none) ?_
  simp only [Act.put, pqA, pqB, pqC]
  refine VlN (.int .i64 c) ?_
  simp only [Act.put, pqA, pqB, pqC]
  refine VlN (.int .i64 (i : Int)) ?_
  simp only [Act.put, pqA, pqB, pqC]
  refine WL.nil (hK4 _ _ ?_)
  refine wp_seq_k fun K5 hK5 => ?_
  refine wp_seq_k fun K6 hK6 => rgn ?_
  refine VlN (.int .i64 c) ?_
  simp only [Act.put, pqA, pqB, pqC]
  refine VlN (.bool true) ?_
  simp only [Act.put, pqA, pqB, pqC]
  refine VlN (.bool true) ?_
  simp only [Act.put, pqA, pqB, pqC]
  refine SkN ?_
  simp only [Act.put, pqA, pqB, pqC]
  refine SkN ?_
  simp only [Act.put, pqA, pqB, pqC]
  refine VlN (.bool true) ?_
  simp only [Act.put, pqA, pqB, pqC]
  refine WL.nil (hK6 _ _ ?_)
  refine wp_cond_true rfl ?_
  refine wp_seq_k fun K7 hK7 => rgn ?_
  refine VlN (.int .i64 c) ?_
  simp only [Act.put, pqA, pqB, pqC]
  refine VlN (.bool true) ?_
  simp only [Act.put, pqA, pqB, pqC]
  refine VlN (.bool true) ?_
  simp only [Act.put, pqA, pqB, pqC]
  refine VlN (.pointer none) ?_
  simp only [Act.put, pqA, pqB, pqC]
  refine VlN (.bool true) ?_
  simp only [Act.put, pqA, pqB, pqC]
  refine VlN (.bool true) ?_
  simp only [Act.put, pqA, pqB, pqC]
  refine VlN (.bool true) ?_
  simp only [Act.put, pqA, pqB, pqC]
  refine WL.nil (hK7 _ _ ?_)
  refine wp_ret ?_
  go_ret
  exact ⟨rfl, belowC B1.out hb⟩
 by_cases hok2 : ∀ i, i < L.length → tg1 (exs L) i = 0
 rotate_left
 ·obtain ⟨sa, sc, rfl⟩ := hs.form
  have HS := Keep.mk hs
  have HI := Keep.mk hi
  have HL := Keep.mk hL
  obtain ⟨tv, htv⟩ : ∃ c : Array Value, Keep (c = #[.int .i64 x0, .int .i64 x1]) := ⟨_, ⟨rfl⟩⟩
  rw [← htv.out]
  have hbad := hok2
  clear hs hi hL
  go_enter Tryz.func8, Tryz.ntmps8
  refine wp_seq_k fun K1 hK1 => rgn ?_
  refine WL.box (by kernel_rfl) 66 (.tmp 1) rfl (tv) rfl ?_
  obtain ⟨w0, hwn⟩ : ∃ wx, Keep (wx = w.alloc (.cells (tv) 66)) := ⟨_, ⟨rfl⟩⟩
  rw [← hwn.out]
  have HT0 : Keep (Blk w0 w.heap.size 66 (tv)) := ⟨by rw [hwn.out]; exact Blk.new _ _ _⟩
  have L0 : Keep (Below w.heap.size w w0) := ⟨by rw [hwn.out]; exact below_new _ _⟩
  clear hwn
  obtain ⟨gt, hgt⟩ : ∃ g, Keep (g = w.heap.size) := ⟨_, ⟨rfl⟩⟩
  rw [← hgt.out] at HT0 ⊢
  clear hgt
  simp only [Act.put, pqA, pqB, pqC]
  refine VlN (.bool false) ?_
  simp only [Act.put, pqA, pqB, pqC]
  refine WL.nil (hK1 _ _ ?_)
  refine wp_seq_k fun K2 hK2 => ?_
  refine wp_seq_k fun K3 hK3 => rgn ?_
  refine WL.callF (by kernel_rfl) 9 _ _ rfl Tryz.in9 #[] (by simp) ?_
  refine (awake_any w0).mono ?_
  rintro e w1 ⟨rfl, hb⟩
  refine ⟨_, rfl, ?_⟩
  have B1 := Keep.mk (belowC L0.out hb)
  have HT1 := Keep.mk (HT0.out.below hb HT0.out.lt)
  clear hb HT0
  simp only [Act.put, pqA, pqB, pqC]
  refine VlN (.bool false) ?_
  simp only [Act.put, pqA, pqB, pqC]
  refine WL.nil (hK3 _ _ ?_)
  refine wp_cond_false rfl ?_
  refine wp_skip ?_
  refine hK2 _ _ ?_
  refine wp_seq_k fun K4 hK4 => rgn ?_
  refine VlN (.slice sa L.length sc) ?_
  simp only [Act.put, pqA, pqB, pqC]
  refine WL.callF (by kernel_rfl) 10 _ _ rfl Tryz.in10 #[.slice sa L.length sc] (by simp [Act.eval]) ?_
  refine (of_any _ L w1 (HS.out.below B1.out) (HI.out.below B1.out) HL.out).mono ?_
  rintro e w2 (⟨p, H, S, -, hP⟩ | ⟨-, i, hi, -, hne, -⟩ | ⟨hb, -, i, hi, -, hne, rfl⟩)
  ·exact absurd (fun i hi => hP.good.tg i (by rw [exs_len]; exact hi)) hbad
  ·exact absurd (hok i hi) hne
  refine ⟨_, rfl, ?_⟩
  obtain ⟨c, hc⟩ : ∃ c, Keep (tg1 (exs L) i = c) := ⟨_, ⟨rfl⟩⟩
  rw [hc.out]
  have hc0 : ¬ c = 0 := by rw [← hc.out]; exact hne
  simp only [Act.put, pqA, pqB, pqC]
  refine VlN (.tuple #[.pointer none, .int .i64 c, .int .i64 (i : Int)]) ?_
  simp only [Act.put, pqA, pqB, pqC]
  refine VlN (.pointer none) ?_
  simp only [Act.put, pqA, pqB, pqC]
  refine VlN (.int .i64 c) ?_
  simp only [Act.put, pqA, pqB, pqC]
  refine VlN (.int .i64 (i : Int)) ?_
  simp only [Act.put, pqA, pqB, pqC]
  refine VlN (.pointer none) ?_
  simp only [Act.put, pqA, pqB, pqC]
  refine VlN (.int .i64 c) ?_
  simp only [Act.put, pqA, pqB, pqC]
  refine VlN (.int .i64 (i : Int)) ?_
  simp only [Act.put, pqA, pqB, pqC]
  refine WL.nil (hK4 _ _ ?_)
  refine wp_seq_k fun K5 hK5 => ?_
  refine wp_seq_k fun K6 hK6 => rgn ?_
  refine VlN (.int .i64 c) ?_
  simp only [Act.put, pqA, pqB, pqC]
  refine VlN (.bool true) ?_
  simp only [Act.put, pqA, pqB, pqC]
  refine VlN (.bool true) ?_
  simp only [Act.put, pqA, pqB, pqC]
  refine SkN ?_
  simp only [Act.put, pqA, pqB, pqC]
  refine SkN ?_
  simp only [Act.put, pqA, pqB, pqC]
  refine VlN (.bool true) ?_
  simp only [Act.put, pqA, pqB, pqC]
  refine WL.nil (hK6 _ _ ?_)
  refine wp_cond_true rfl ?_
  refine wp_seq_k fun K7 hK7 => rgn ?_
  refine VlN (.int .i64 c) ?_
  simp only [Act.put, pqA, pqB, pqC]
  refine VlN (.bool true) ?_
  simp only [Act.put, pqA, pqB, pqC]
  refine VlN (.bool true) ?_
  simp only [Act.put, pqA, pqB, pqC]
  refine VlN (.pointer none) ?_
  simp only [Act.put, pqA, pqB, pqC]
  refine VlN (.bool true) ?_
  simp only [Act.put, pqA, pqB, pqC]
  refine VlN (.bool true) ?_
  simp only [Act.put, pqA, pqB, pqC]
  refine VlN (.bool true) ?_
  simp only [Act.put, pqA, pqB, pqC]
  refine WL.nil (hK7 _ _ ?_)
  refine wp_ret ?_
  go_ret
  exact ⟨rfl, belowC B1.out hb⟩
 ·exact follows_good v0 L x0 x1 w hs hi hL ⟨fun i hi => hok i (by rwa [exs_len] at hi), fun i hi => hok2 i (by rwa [exs_len] at hi)⟩
end Go.Proofs.YthlohkgdmfkpeaaGreat
