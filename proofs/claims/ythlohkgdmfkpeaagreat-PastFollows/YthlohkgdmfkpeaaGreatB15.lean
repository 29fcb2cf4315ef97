import Derived.Test.YthlohkgdmfkpeaaGreatB14
namespace Go.Proofs.YthlohkgdmfkpeaaGreat
open Go.RowKit
set_option linter.unusedSimpArgs false
set_option linter.unusedVariables false

theorem Tryz.in28 (w : World) (vs : Array Value) : (callFunc 28 vs).run Tryz.prog w = .ok (.enter 28 vs) w := by kernel_rfl
def seesW (S : List (Nat × List Nat)) (i j : Nat) : Bool := !decide (i = j) && hasW ((S.map (·.2)).getD j []) i
theorem seesW_get {S : List (Nat × List Nat)} {j : Nat} (hj : j < S.length) : (S.map (·.2)).getD j [] = S[j].2 := by
 rw [List.getD_eq_getElem?_getD, List.getElem?_map, List.getElem?_eq_getElem hj]; rfl
theorem sees_nat (H : List EP) (S : List (Nat × List Nat)) (v : Value) (p mb ub : Nat) (w : World) (hR : PastRd w p H S v mb ub) (i j : Nat) (hi : i < H.length) (hj : j < H.length) : Calls Tryz.prog 26 #[.pointer (some ⟨p, 0, none⟩), .int .i64 (i : Int), .int .i64 (j : Int)] w fun e w' => e = .returned (.bool (seesW S i j)) ∧ w' = w := by
 have hjs : j < S.length := by rw [hR.len]; exact hj
 by_cases hij : i = j
 ·refine (sees_eq H S v p mb ub w hR i j (by omega) (by omega) (by omega)).mono ?_
  rintro e w' ⟨rfl, rfl⟩
  exact ⟨by rw [seesW, decide_eq_true hij]; rfl, rfl⟩
 ·refine (sees_yes H S v p mb ub w hR i j (by omega) (by omega) hjs (by omega)).mono ?_
  rintro e w' ⟨rfl, rfl⟩
  exact ⟨by rw [seesW, decide_eq_false hij, seesW_get hjs]; rfl, rfl⟩
theorem lt_ext : ∀ (L M : List Hs), L.Pairwise Lt → M.Pairwise Lt → (∀ x, x ∈ L ↔ x ∈ M) → L = M
 | [], [], _, _, _ => rfl
 | [], y :: M, _, _, h => absurd ((h y).2 (by simp)) (by simp)
 | x :: L, [], _, _, h => absurd ((h x).1 (by simp)) (by simp)
 | x :: L, y :: M, hL, hM, h => by
  have h1 := (List.pairwise_cons.1 hL)
  have h2 := (List.pairwise_cons.1 hM)
  have hxy : x = y := by
   rcases List.mem_cons.1 ((h x).1 (by simp)) with e | hx
   ·exact e
   ·rcases List.mem_cons.1 ((h y).2 (by simp)) with e | hy
    ·exact e.symm
    ·exact absurd (h1.1 y hy) (h2.1 x hx).asymm
  subst hxy
  rw [lt_ext L M h1.2 h2.2 fun z => ?_]
  constructor
  ·intro hz
   rcases List.mem_cons.1 ((h z).1 (List.mem_cons_of_mem _ hz)) with rfl | h3
   ·exact absurd (h1.1 z hz) (Lt.irrefl z)
   ·exact h3
  ·intro hz
   rcases List.mem_cons.1 ((h z).2 (List.mem_cons_of_mem _ hz)) with rfl | h3
   ·exact absurd (h2.1 z hz) (Lt.irrefl z)
   ·exact h3
theorem List.Nodup.length_le_of_subset' {α : Type} [DecidableEq α] {l m : List α} (h : l.Nodup) (hs : ∀ x ∈ l, x ∈ m) : l.length ≤ m.length := by
 induction l generalizing m with
 | nil => simp
 | cons a l ih =>
  have ha := hs a List.mem_cons_self
  have h2 := List.nodup_cons.1 h
  have h3 := ih (m := m.erase a) h2.2 fun x hx => by
   have hne : x ≠ a := fun e => by subst e; exact h2.1 hx
   exact (List.mem_erase_of_ne hne).2 (hs x (List.mem_cons_of_mem _ hx))
  rw [List.length_erase_of_mem ha] at h3
  have := List.length_pos_of_mem ha
  rw [List.length_cons]
  omega
theorem drewN_below (w : World) (q B : Nat) : Below B w (w.drewN q) := ⟨rfl, rfl, rfl, Nat.le_refl _, fun _ _ => rfl⟩
theorem sameH_any (v1 v2 : Value) (L : List Hs) (w : World) (h1 : HRow w v1 L) (h2 : HRow w v2 L) (hn : L.length ≤ 1000000) : Calls Tryz.prog 28 #[v1, v2] w fun e w' => e = .returned (.bool true) ∧ Below w.heap.size w w' := by
 refine (Nd.Sh.same_any v1 v2 L L w h1 h2 (by omega)).mono ?_
 rintro e w' ⟨rfl, q, rfl⟩
 exact ⟨by simp, drewN_below _ _ _⟩
def UndOk (X : List EX) (U : List (List Nat)) : Prop := ∀ i, i < U.length → U[i]? = some (undF U i (((X[i]?).getD dEX).N.ps.map (ixH (idsE X))))
theorem und_ok {H : List EP} {S : List (Nat × List Nat)} (h : ∀ i (hi : i < S.length), S[i].2 = undF (S.map (·.2)) i ((((exs H)[i]?).getD dEX).N.ps.map (ixH (idsE (exs H)))) ∧ i < H.length ∧ Wds S[i].2) : UndOk (exs H) (S.map (·.2)) := fun i hi => by
 have hi' : i < S.length := by simpa using hi
 rw [List.getElem?_map, List.getElem?_eq_getElem hi', Option.map_some, (h i hi').1]
theorem PastAt.topo {w w' : World} {p : Nat} {L : List EX} {H : List EP} {S : List (Nat × List Nat)} (h : PastAt w w' p L H S) : Topo (exs H) := topo_of h.good h.one h.mem h.sub
theorem Tryz.in49 (w : World) (vs : Array Value) : (callFunc 49 vs).run Tryz.prog w = .ok (.enter 49 vs) w := by kernel_rfl
def rchW (S : List (Nat × List Nat)) (n : Nat) (ks : List Nat) : List Nat := ks.foldl (fun W k => joinW W (S.getD k (0, [])).2) (List.replicate ((n + 63) / 64) 0)
theorem rchW_snoc (S : List (Nat × List Nat)) (n : Nat) (ks : List Nat) (k : Nat) : rchW S n (ks ++ [k]) = joinW (rchW S n ks) (S.getD k (0, [])).2 := by rw [rchW, List.foldl_append]; rfl
theorem rchW_len (S : List (Nat × List Nat)) (n : Nat) (ks : List Nat) : (rchW S n ks).length = (n + 63) / 64 := by
 unfold rchW
 suffices h : ∀ (ks : List Nat) (W : List Nat), W.length = (n + 63) / 64 → (ks.foldl (fun W k => joinW W (S.getD k (0, [])).2) W).length = (n + 63) / 64 from h ks _ (by simp)
 intro ks
 induction ks with
 | nil => intro W h; exact h
 | cons k ks ih => intro W h; exact ih _ (by rw [joinW_len]; exact h)
theorem rchW_wds {S : List (Nat × List Nat)} (hS : ∀ i, Wds (S.getD i (0, [])).2) (n : Nat) (ks : List Nat) : Wds (rchW S n ks) := by
 unfold rchW
 suffices h : ∀ (ks : List Nat) (W : List Nat), Wds W → Wds (ks.foldl (fun W k => joinW W (S.getD k (0, [])).2) W) from h ks _ (Wds.room _)
 intro ks
 induction ks with
 | nil => intro W h; exact h
 | cons k ks ih => intro W h; exact ih _ (h.join (hS k))
def ReachPost (H : List EP) (S : List (Nat × List Nat)) (hs : List Hs) (w : World) (e : Ending) (w' : World) : Prop :=
 Below w.heap.size w w' ∧ (((∃ h ∈ hs, h ∉ idsE (exs H)) ∧ e = .returned (.tuple #[.slice none 0 0, .int .i64 6])) ∨
 ((∀ h ∈ hs, h ∈ idsE (exs H)) ∧ e = .returned (.tuple #[.slice (some ⟨w.heap.size, 0, none⟩) ((H.length + 63) / 64) ((H.length + 63) / 64), .int .i64 0]) ∧ Blk w' w.heap.size 93 (wdV (rchW S H.length (hs.map (ixH (idsE (exs H)))))).toArray))
set_option maxRecDepth 8000 in
set_option maxHeartbeats 2000000 in
theorem reach_any (H : List EP) (S : List (Nat × List Nat)) (v : Value) (p mb ub : Nat) (w : World) (hR : PastRd w p H S v mb ub) (hsl : ∀ i (hi : i < S.length), S[i].2.length ≤ (H.length + 63) / 64) (hv : Value) (hs : List Hs) (hH : HRow w hv hs) (hL : hs.length ≤ 4398046511104) : Calls Tryz.prog 49 #[.pointer (some ⟨p, 0, none⟩), hv] w (ReachPost H S hs w) := by
 obtain ⟨ha, hc, rfl⟩ := hH.form
 have HR := Keep.mk hR
 have HH := Keep.mk hH
 have HL := Keep.mk hL
 have Hsl := Keep.mk hsl
 have HSw : Keep (∀ i, Wds (S.getD i (0, [])).2) := ⟨fun i => by
  rw [List.getD_eq_getElem?_getD]
  rcases Nat.lt_or_ge i S.length with h | h
  ·rw [List.getElem?_eq_getElem h]; exact (hR.s i h).2.1
  ·rw [List.getElem?_eq_none h]; exact fun _ => by simp⟩
 clear hR hH hL hsl
 go_enter Tryz.func49, Tryz.ntmps49
 refine wp_seq_k fun K1 hK1 => rgn ?_
 refine VlS (.slice none 0 0) ?_
 refine VlS (.int .i64 0) ?_
 refine WL.nil (hK1 _ _ ?_)
 refine wp_seq_k fun K2 hK2 => rgn ?_
 refine VlS (.pointer (some ⟨p, 0, none⟩)) ?_
 refine WL.callF (by kernel_rfl) 18 _ _ rfl Tryz.in18 #[.pointer (some ⟨p, 0, none⟩)] (by simp [Act.eval]) ?_
 refine (plen_any H S _ p mb ub w HR.out).mono ?_
 rintro e w1 ⟨rfl, hw1⟩
 refine ⟨_, rfl, ?_⟩
 rw [hw1]
 clear hw1
 simp only [Act.put, pqA, pqB, pqC]
 refine WL.callF (by kernel_rfl) 57 _ _ rfl Tryz.in57 #[.int .i64 (H.length : Int)] (by simp [Act.eval]) ?_
 refine (room_set H.length w (by have := HR.out.n; omega)).mono ?_
 rintro e w1 ⟨rfl, hbk, hb⟩
 refine ⟨_, rfl, ?_⟩
 have HB0 := Keep.mk hbk
 have B0 := Keep.mk hb
 clear hbk hb
 simp only [Act.put, pqA, pqB, pqC]
 refine VlS (.slice (some ⟨w.heap.size, 0, none⟩) ((H.length + 63) / 64) ((H.length + 63) / 64)) ?_
 refine WL.nil (hK2 _ _ ?_)
 refine wp_seq_k fun K3 hK3 => ?_
 refine wp_seq_k fun K4 hK4 => rgn ?_
 refine VlS (.slice ha hs.length hc) ?_
 refine VlS (.int .i64 (hs.length : Int)) ?_
 refine VlS (.int .i64 0) ?_
 refine WL.nil (hK4 _ _ ?_)
 refine wp_block ?_
 refine wp_loop (fun ac wr => ∃ (t : Nat) (u8 u9 u16 u17 u18 u19 u20 u21 u22 u23 u24 u25 u26 u27 u28 u29 u30 u31 u32 u33 : Value), ac = { tmps := #[.pointer (some ⟨p, 0, none⟩), .slice ha hs.length hc, undef, undef, .slice none 0 0, .int .i64 0, .slice (some ⟨w.heap.size, 0, none⟩) ((H.length + 63) / 64) ((H.length + 63) / 64), undef, u8, u9, .pointer (some ⟨p, 0, none⟩), .int .i64 (H.length : Int), .slice (some ⟨w.heap.size, 0, none⟩) ((H.length + 63) / 64) ((H.length + 63) / 64), .slice ha hs.length hc, .int .i64 (hs.length : Int), .int .i64 (t : Int), u16, u17, u18, u19, u20, u21, u22, u23, u24, u25, u26, u27, u28, u29, u30, u31, u32, u33, undef], defers := [] } ∧ t ≤ hs.length ∧ Below w.heap.size w wr ∧ Blk wr w.heap.size 93 (wdV (rchW S H.length ((hs.take t).map (ixH (idsE (exs H)))))).toArray ∧ ∀ h ∈ hs.take t, h ∈ idsE (exs H)) (fun a _ => hs.length - (intOf (a.tmps.getD 15 undef)).toNat) ⟨0, undef, undef, undef, undef, undef, undef, undef, undef, undef, undef, undef, undef, undef, undef, undef, undef, undef, undef, undef, undef, rfl, by omega, B0.out, HB0.out, fun h hh => by simp at hh⟩ ?_
 rintro ac wr ⟨t, u8, u9, u16, u17, u18, u19, u20, u21, u22, u23, u24, u25, u26, u27, u28, u29, u30, u31, u32, u33, rfl, ht, hB, hG, hA⟩
 have JB := Keep.mk hB
 have JG := Keep.mk hG
 have JA := Keep.mk hA
 clear hB hG hA
 by_cases htl : t < hs.length
 ·have htl' : (t : Int) < (hs.length : Int) := by omega
  have ht0 : (0 : Int) ≤ (t : Int) := by omega
  have hwt : IntKind.i64.wrap ((t : Int) + 1) = ((t + 1 : Nat) : Int) := by rw [IntKind.wrap_i64]; have := HL.out; omega
  obtain ⟨pb, po, rfl, hpr⟩ := hrow_at (HH.out.below JB.out) htl
  obtain ⟨h, hh⟩ : ∃ h : Hs, Keep (h = hs[t]) := ⟨_, ⟨rfl⟩⟩
  rw [← hh.out] at hpr
  have HPr := Keep.mk hpr
  clear hpr
  refine wp_seq_k fun K5 hK5 => rgn ?_
  refine VbT ?_
  refine WL.nil (hK5 _ _ ?_)
  refine wp_seq_k fun K6 hK6 => ?_
  refine wp_cond_true rfl ?_
  refine wp_skip ?_
  refine hK6 _ _ ?_
  refine wp_seq_k fun K7 hK7 => ?_
  refine wp_block ?_
  refine wp_seq_k fun K8 hK8 => rgn ?_
  refine VlS (.pointer (some ⟨pb, po + t * 32, none⟩)) ?_
  refine WL.midA (by kernel_rfl) 36 (.tmp 17) rfl pb (po + t * 32) rfl (bytesA 32 h.f) _ HPr.out Tryz.underlying36 rfl (size36E _) ?_
  simp only [Act.put, pqA, pqB, pqC]
  refine WL.new (by kernel_rfl) 36 rfl (bytesA 32 fun _ => 0) Tryz.new36 ?_
  obtain ⟨wc, hwn⟩ : ∃ wx, Keep (wx = wr.alloc (.cells (bytesA 32 fun _ => 0) 36)) := ⟨_, ⟨rfl⟩⟩
  rw [← hwn.out]
  have HZ2 : Keep (Blk wc wr.heap.size 36 (bytesA 32 fun _ => 0)) := ⟨by rw [hwn.out]; exact Blk.new _ _ _⟩
  have LB2 : Keep (Below wr.heap.size wr wc) := ⟨by rw [hwn.out]; exact below_new _ _⟩
  clear hwn
  simp only [Act.put, pqA, pqB, pqC]
  refine WL.storeR (by kernel_rfl) 36 (.tmp 8) (.tmp 18) rfl wr.heap.size (bytesA 32 h.f) rfl rfl 36 _ HZ2.out (size36E _) (by rw [bytesA_size, bytesA_size]) (bytesA_one _ _) ?_
  have HHb := Keep.mk (HZ2.out.setRow (bytesA 32 h.f))
  have LH : Keep (Below wr.heap.size wr (wc.setRow wr.heap.size (bytesA 32 h.f))) := ⟨below_setRow LB2.out (Nat.le_refl _) _⟩
  generalize wc.setRow wr.heap.size (bytesA 32 h.f) = wd at *
  clear HZ2 LB2
  have JBd := Keep.mk (belowC JB.out LH.out)
  have JGd := Keep.mk (JG.out.below LH.out JG.out.lt)
  generalize wr.heap.size = g2 at *
  clear LH HPr
  simp only [Act.put]
  refine WL.nil (hK8 _ _ ?_)
  refine wp_seq_k fun K9 hK9 => ?_
  by_cases hm : h ∈ idsE (exs H)
  ·have hnv : Keep (numV (idsE (exs H)) h = ((ixH (idsE (exs H)) h : Nat) : Int)) := ⟨by rw [numV, if_pos (ixH_lt.2 hm)]⟩
   obtain ⟨ix, hix⟩ : ∃ ix, Keep (ixH (idsE (exs H)) h = ix) := ⟨_, ⟨rfl⟩⟩
   rw [hix.out] at hnv
   have hixl : ix < H.length := by have := ixH_lt.2 hm; rw [hix.out, idsE_len, exs_len] at this; exact this
   have hixS : ix < S.length := by rw [HR.out.len]; exact hixl
   have hixl' : (ix : Int) < (H.length : Int) := by omega
   have hix0 : (0 : Int) ≤ (ix : Int) := by omega
   refine rgn ?_
   refine VlS (.pointer (some ⟨p, 0, none⟩)) ?_
   refine WL.row (by kernel_rfl) 36 (.tmp 8) rfl g2 rfl 36 (bytesA 32 h.f) _ HHb.out Tryz.underlying36 rfl (size36E _) ?_
   simp only [Act.put, pqA, pqB, pqC]
   refine WL.callF (by kernel_rfl) 13 _ _ rfl Tryz.in13 #[.pointer (some ⟨p, 0, none⟩), .agg (bytesA 32 h.f)] (by simp [Act.eval]) ?_
   refine ((by have hq := number_any H S v p mb ub wd (HR.out.below JBd.out) h; rw [hnv.out] at hq; exact hq : Calls Tryz.prog 13 #[.pointer (some ⟨p, 0, none⟩), .agg (bytesA 32 h.f)] wd _)).mono ?_
   rintro e we ⟨rfl, hb⟩
   refine ⟨_, rfl, ?_⟩
   have JBe := Keep.mk (belowC JBd.out hb)
   have JGe := Keep.mk (JGd.out.below hb JGd.out.lt)
   clear hb
   simp only [Act.put, pqA, pqB, pqC]
   refine VlS (.int .i64 (ix : Int)) ?_
   refine WL.nil (hK9 _ _ ?_)
   refine wp_seq_k fun K10 hK10 => ?_
   refine wp_seq_k fun K11 hK11 => rgn ?_
   refine VlS (.int .i64 (ix : Int)) ?_
   refine VbF ?_
   refine WL.nil (hK11 _ _ ?_)
   refine wp_cond_false rfl ?_
   refine wp_skip ?_
   refine hK10 _ _ ?_
   have RW := Keep.mk (HR.out.below JBe.out)
   obtain ⟨B, hBd⟩ : ∃ B, Keep ((rchW S H.length ((hs.take t).map (ixH (idsE (exs H))))) = B) := ⟨_, ⟨rfl⟩⟩
   have hBl : Keep (B.length = ((H.length + 63) / 64)) := ⟨by rw [← hBd.out]; exact rchW_len _ _ _⟩
   have hBw : Keep (Wds B) := ⟨by rw [← hBd.out]; exact rchW_wds HSw.out _ _⟩
   rw [hBd.out] at JGe
   have c2 : we.cell? ⟨p, 2, none⟩ = some (.slice (some ⟨ub, 0, none⟩) H.length H.length) := RW.out.p.c 2 rfl
   have cu : we.cell? ⟨ub, ix, none⟩ = some (.slice (some ⟨S[ix].1, 0, none⟩) S[ix].2.length S[ix].2.length) := RW.out.u ix hixS
   refine rgn ?_
   refine VlS (.slice (some ⟨w.heap.size, 0, none⟩) ((H.length + 63) / 64) ((H.length + 63) / 64)) ?_
   refine VlS (.pointer (some ⟨p, 0, none⟩)) ?_
   refine VlS (.pointer (some ⟨p, 0, none⟩)) ?_
   refine VlS (.pointer (some ⟨p, 2, none⟩)) ?_
   refine VlS (.slice (some ⟨ub, 0, none⟩) H.length H.length) ?_
   refine VlS (.int .i64 (ix : Int)) ?_
   refine VlS (.pointer (some ⟨ub, ix, none⟩)) ?_
   refine VlS (.slice (some ⟨S[ix].1, 0, none⟩) S[ix].2.length S[ix].2.length) ?_
   refine WL.callF (by kernel_rfl) 59 _ _ rfl Tryz.in59 #[.slice (some ⟨w.heap.size, 0, none⟩) ((H.length + 63) / 64) ((H.length + 63) / 64), .slice (some ⟨S[ix].1, 0, none⟩) S[ix].2.length S[ix].2.length] (by simp [Act.eval]) ?_
   refine ((by have hq := join_any w.heap.size S[ix].1 B S[ix].2 we (JGe.out) ((RW.out.s ix hixS).1) (fun hc => by have h1 := (HR.out.s ix hixS).1.lt; omega) (by rw [hBl.out]; exact Hsl.out ix hixS) (by rw [hBl.out]; have := HR.out.n; omega) hBw.out (RW.out.s ix hixS).2.1; rw [hBl.out] at hq; exact hq : Calls Tryz.prog 59 #[.slice (some ⟨w.heap.size, 0, none⟩) ((H.length + 63) / 64) ((H.length + 63) / 64), .slice (some ⟨S[ix].1, 0, none⟩) S[ix].2.length S[ix].2.length] we _)).mono ?_
   rintro e wf ⟨rfl, hbe, hge⟩
   refine ⟨_, rfl, ?_⟩
   have Hbe := Keep.mk hbe
   have GWe := Keep.mk hge
   clear hbe hge c2 cu
   simp only [Act.put, pqA, pqB, pqC]
   refine WL.nil (hK7 _ _ ?_)
   refine rgn ?_
   refine VlS (.int .i64 ((t + 1 : Nat) : Int)) ?_
   refine VlS (.int .i64 ((t + 1 : Nat) : Int)) ?_
   refine WL.nil ?_
   have hnx : (hs.take (t + 1)).map (ixH (idsE (exs H))) = (hs.take t).map (ixH (idsE (exs H))) ++ [ix] := by rw [List.take_succ_eq_append_getElem htl, List.map_append, List.map_cons, List.map_nil, ← hh.out, hix.out]
   refine ⟨⟨t + 1, .pointer (some ⟨g2, 0, none⟩), .int .i64 (ix : Int), .bool true, .pointer (some ⟨pb, po + t * 32, none⟩), .agg (bytesA 32 h.f), .pointer (some ⟨p, 0, none⟩), .agg (bytesA 32 h.f), .int .i64 (ix : Int), .int .i64 (ix : Int), .bool false, .slice (some ⟨w.heap.size, 0, none⟩) ((H.length + 63) / 64) ((H.length + 63) / 64), .pointer (some ⟨p, 0, none⟩), .pointer (some ⟨p, 0, none⟩), .pointer (some ⟨p, 2, none⟩), .slice (some ⟨ub, 0, none⟩) H.length H.length, .int .i64 (ix : Int), .pointer (some ⟨ub, ix, none⟩), .slice (some ⟨S[ix].1, 0, none⟩) S[ix].2.length S[ix].2.length, .tuple #[], .int .i64 ((t + 1 : Nat) : Int), rfl, by omega, JBe.out.trans (GWe.out.to_below (fun k hk e => by omega) JBe.out.size), ?_, fun y hy => ?_⟩, by simp [intOf]; omega⟩
   ·rw [hnx, rchW_snoc, hBd.out, List.getD_eq_getElem?_getD, List.getElem?_eq_getElem hixS]; exact Hbe.out
   ·rw [List.take_succ_eq_append_getElem htl, List.mem_append, List.mem_singleton] at hy
    rcases hy with hy | rfl
    ·exact JA.out y hy
    ·rw [← hh.out]; exact hm
  ·have hnv : Keep (numV (idsE (exs H)) h = -1) := ⟨by rw [numV, if_neg (fun h' => hm (ixH_lt.1 h'))]⟩
   refine rgn ?_
   refine VlS (.pointer (some ⟨p, 0, none⟩)) ?_
   refine WL.row (by kernel_rfl) 36 (.tmp 8) rfl g2 rfl 36 (bytesA 32 h.f) _ HHb.out Tryz.underlying36 rfl (size36E _) ?_
   simp only [Act.put, pqA, pqB, pqC]
   refine WL.callF (by kernel_rfl) 13 _ _ rfl Tryz.in13 #[.pointer (some ⟨p, 0, none⟩), .agg (bytesA 32 h.f)] (by simp [Act.eval]) ?_
   refine ((by have hq := number_any H S v p mb ub wd (HR.out.below JBd.out) h; rw [hnv.out] at hq; exact hq : Calls Tryz.prog 13 #[.pointer (some ⟨p, 0, none⟩), .agg (bytesA 32 h.f)] wd _)).mono ?_
   rintro e we ⟨rfl, hb⟩
   refine ⟨_, rfl, ?_⟩
   have JBe := Keep.mk (belowC JBd.out hb)
   have JGe := Keep.mk (JGd.out.below hb JGd.out.lt)
   clear hb
   simp only [Act.put, pqA, pqB, pqC]
   refine VlS (.int .i64 (-1)) ?_
   refine WL.nil (hK9 _ _ ?_)
   refine wp_seq_k fun K12 hK12 => ?_
   refine wp_seq_k fun K13 hK13 => rgn ?_
   refine VlS (.int .i64 (-1)) ?_
   refine VbT ?_
   refine WL.nil (hK13 _ _ ?_)
   refine wp_cond_true rfl ?_
   refine wp_seq_k fun K14 hK14 => rgn ?_
   refine VlS (.slice none 0 0) ?_
   refine VlS (.int .i64 6) ?_
   refine WL.nil (hK14 _ _ ?_)
   refine wp_ret ?_
   go_ret2
   exact ⟨JBe.out, .inl ⟨⟨h, by rw [hh.out]; exact List.getElem_mem htl, hm⟩, rfl⟩⟩
 ·have hte : t = hs.length := by omega
  subst hte
  rw [List.take_length] at JG JA
  refine wp_seq_k fun K15 hK15 => rgn ?_
  refine VbF ?_
  refine WL.nil (hK15 _ _ ?_)
  refine wp_seq_k fun K16 hK16 => ?_
  refine wp_cond_false rfl ?_
  refine wp_exit ?_
  refine hK3 _ _ ?_
  refine wp_seq_k fun K17 hK17 => rgn ?_
  refine VlS (.slice (some ⟨w.heap.size, 0, none⟩) ((H.length + 63) / 64) ((H.length + 63) / 64)) ?_
  refine VlS (.slice (some ⟨w.heap.size, 0, none⟩) ((H.length + 63) / 64) ((H.length + 63) / 64)) ?_
  refine VlS (.int .i64 0) ?_
  refine WL.nil (hK17 _ _ ?_)
  refine wp_ret ?_
  go_ret2
  exact ⟨JB.out, .inr ⟨JA.out, rfl, JG.out⟩⟩
theorem reach_yes (H : List EP) (S : List (Nat × List Nat)) (v : Value) (p mb ub : Nat) (w : World) (hR : PastRd w p H S v mb ub) (hsl : ∀ i (hi : i < S.length), S[i].2.length ≤ (H.length + 63) / 64) (hv : Value) (hs : List Hs) (hH : HRow w hv hs) (hL : hs.length ≤ 4398046511104) (hy : ∀ h ∈ hs, h ∈ idsE (exs H)) : Calls Tryz.prog 49 #[.pointer (some ⟨p, 0, none⟩), hv] w fun e w' => e = .returned (.tuple #[.slice (some ⟨w.heap.size, 0, none⟩) ((H.length + 63) / 64) ((H.length + 63) / 64), .int .i64 0]) ∧ Blk w' w.heap.size 93 (wdV (rchW S H.length (hs.map (ixH (idsE (exs H)))))).toArray ∧ Below w.heap.size w w' :=
 (reach_any H S v p mb ub w hR hsl hv hs hH hL).mono fun e w' ⟨hb, h⟩ => by
  rcases h with ⟨⟨h, h1, h2⟩, _⟩ | ⟨_, h1, h2⟩
  ·exact absurd (hy h h1) h2
  ·exact ⟨h1, h2, hb⟩
theorem reach_no (H : List EP) (S : List (Nat × List Nat)) (v : Value) (p mb ub : Nat) (w : World) (hR : PastRd w p H S v mb ub) (hsl : ∀ i (hi : i < S.length), S[i].2.length ≤ (H.length + 63) / 64) (hv : Value) (hs : List Hs) (hH : HRow w hv hs) (hL : hs.length ≤ 4398046511104) (hy : ∃ h ∈ hs, h ∉ idsE (exs H)) : Calls Tryz.prog 49 #[.pointer (some ⟨p, 0, none⟩), hv] w fun e w' => e = .returned (.tuple #[.slice none 0 0, .int .i64 6]) ∧ Below w.heap.size w w' :=
 (reach_any H S v p mb ub w hR hsl hv hs hH hL).mono fun e w' ⟨hb, h⟩ => by
  rcases h with ⟨_, h1⟩ | ⟨h1, _⟩
  ·exact ⟨h1, hb⟩
  ·obtain ⟨x, h2, h3⟩ := hy
   exact absurd (h1 x h2) h3
theorem hrow_one {w : World} {g : Nat} {x : Hs} (h : Blk w g 36 (bytesA 32 x.f)) : HRow w (.slice (some ⟨g, 0, none⟩) 1 1) [x] :=
 HRow.mk rfl (Nat.le_refl _) (by
  rw [flatH_cons, flatH_nil, List.append_nil, encH]
  exact blk_range h)
theorem joinW_has (W O : List Nat) (h : O.length ≤ W.length) (j : Nat) : hasW (joinW W O) j = (hasW W j || hasW O j) := by
 by_cases hj : j / 64 < W.length
 ·unfold hasW
  rw [joinW_get W O _ hj, Nat.testBit_or]
 ·rw [hasW_far _ _ (by rw [joinW_len]; omega), hasW_far W _ (by omega), hasW_far O _ (by omega)]
  rfl
theorem fold_has (V : Nat → List Nat) (j : Nat) : ∀ (ks : List Nat) (W : List Nat), (∀ k ∈ ks, (V k).length ≤ W.length) → hasW (ks.foldl (fun W k => joinW W (V k)) W) j = (hasW W j || ks.any fun k => hasW (V k) j)
 | [], W, _ => by simp
 | k :: ks, W, h => by
  rw [List.foldl_cons, fold_has V j ks _ (fun i hi => by rw [joinW_len]; exact h i (List.mem_cons_of_mem _ hi)), joinW_has _ _ (h k List.mem_cons_self), List.any_cons, Bool.or_assoc]
theorem undF_has (U : List (List Nat)) (i : Nat) (ks : List Nat) (h : ∀ k ∈ ks, (U.getD k []).length ≤ (i + 1 + 63) / 64) (j : Nat) : hasW (undF U i ks) j = (decide (i = j) || ks.any fun k => hasW (U.getD k []) j) := by
 unfold undF
 rw [fold_has (fun k => U.getD k []) j ks _ (fun k hk => by rw [addW_len, List.length_replicate]; exact h k hk), addW_has _ _ _ (by rw [List.length_replicate]; omega), room_has, Bool.false_or]
theorem rchW_has (S : List (Nat × List Nat)) (n : Nat) (ks : List Nat) (h : ∀ k ∈ ks, (S.getD k (0, [])).2.length ≤ (n + 63) / 64) (j : Nat) : hasW (rchW S n ks) j = ks.any fun k => hasW (S.getD k (0, [])).2 j := by
 unfold rchW
 rw [fold_has (fun k => (S.getD k (0, [])).2) j ks _ (fun k hk => by rw [List.length_replicate]; exact h k hk), room_has, Bool.false_or]
theorem und_has {X : List EX} {U : List (List Nat)} (hT : Topo X) (hU : UndOk X U) (hl : U.length = X.length) {i : Nat} (hi : i < X.length) (j : Nat) :
  hasW (U.getD i []) j = (decide (i = j) || X[i].N.ps.any fun h => hasW (U.getD (ixH (idsE X) h) []) j) := by
 have h1 := hU i (by omega)
 have h2 : U.getD i [] = undF U i (X[i].N.ps.map (ixH (idsE X))) := by
  rw [List.getD_eq_getElem?_getD, h1, Option.getD_some, List.getElem?_eq_getElem hi, Option.getD_some]
 rw [h2, undF_has, List.any_map]
 ·rfl
 intro k hk
 obtain ⟨h, hh, rfl⟩ := List.mem_map.1 hk
 have h3 := hT i hi h hh
 have h4 := hU (ixH (idsE X) h) (by omega)
 rw [List.getD_eq_getElem?_getD, h4, Option.getD_some, undF_len]
 omega
theorem und_le {X : List EX} {U : List (List Nat)} (hT : Topo X) (hU : UndOk X U) (hl : U.length = X.length) : ∀ (i : Nat), i < X.length → ∀ j, hasW (U.getD i []) j = true → j ≤ i := by
 intro i
 induction i using Nat.strongRecOn with
 | _ i ih =>
  intro hi j hj
  rw [und_has hT hU hl hi, Bool.or_eq_true] at hj
  rcases hj with hj | hj
  ·have := of_decide_eq_true hj; omega
  ·obtain ⟨h, hh, h2⟩ := List.any_eq_true.1 hj
   have h3 := hT i hi h hh
   have := ih _ h3 (by omega) j h2
   omega
theorem und_closed {X : List EX} {U : List (List Nat)} (hT : Topo X) (hU : UndOk X U) (hl : U.length = X.length) : ∀ (i : Nat), i < X.length → ∀ j (hj : j < X.length), hasW (U.getD i []) j = true → ∀ h ∈ X[j].N.ps, hasW (U.getD i []) (ixH (idsE X) h) = true := by
 intro i
 induction i using Nat.strongRecOn with
 | _ i ih =>
  intro hi j hj hh h hp
  rw [und_has hT hU hl hi, Bool.or_eq_true] at hh ⊢
  rcases hh with hh | hh
  ·have e := of_decide_eq_true hh
   subst e
   refine .inr (List.any_eq_true.2 ⟨h, hp, ?_⟩)
   have h3 := hT i hi h hp
   rw [und_has hT hU hl (by omega), decide_eq_true rfl, Bool.true_or]
  ·obtain ⟨g, hg, h2⟩ := List.any_eq_true.1 hh
   have h3 := hT i hi g hg
   exact .inr (List.any_eq_true.2 ⟨g, hg, ih _ h3 (by omega) j hj h2 h hp⟩)
def prt (X : List EX) (P : Nat → Bool) : List EX := ((List.range X.length).filter P).map fun k => (X[k]?).getD dEX
theorem map_get (X : List EX) : (List.range X.length).map (fun k => (X[k]?).getD dEX) = X := by
 apply List.ext_getElem (by simp)
 intro i h1 h2
 simp [h2]
theorem prt_sub (X : List EX) (P : Nat → Bool) : (prt X P).Sublist X := by
 have h := (List.filter_sublist (p := P) (l := List.range X.length)).map fun k => (X[k]?).getD dEX
 rwa [map_get] at h
theorem prt_of {X : List EX} {P : Nat → Bool} {xs : List (Nat × EP)} (hx : xs.map (·.1) = (List.range X.length).filter P) (hi : ∀ x ∈ xs, X[x.1]? = some x.2.1) : exs (xs.map (·.2)) = prt X P := by
 unfold prt
 rw [← hx, List.map_map, exs, List.map_map]
 refine List.map_congr_left fun x h => ?_
 show x.2.1 = (X[x.1]?).getD dEX
 rw [hi x h]
 rfl
theorem prt_nodup {X : List EX} (hn : (idsE X).Nodup) (P : Nat → Bool) : (idsE (prt X P)).Nodup := hn.sublist ((prt_sub X P).map _)
theorem prt_topo {X : List EX} (hT : Topo X) (hn : (idsE X).Nodup) (P : Nat → Bool) (hc : ∀ j (hj : j < X.length), P j = true → ∀ h ∈ X[j].N.ps, P (ixH (idsE X) h) = true) : Topo (prt X P) := by
 intro i hi h hh
 obtain ⟨ns, hns⟩ : ∃ ns, ns = (List.range X.length).filter P := ⟨_, rfl⟩
 have hE : prt X P = ns.map fun k => (X[k]?).getD dEX := by rw [hns]; rfl
 have hl : i < ns.length := by rw [hE, List.length_map] at hi; exact hi
 have hm : ns[i] < X.length ∧ P ns[i] = true := by
  have hmem : ∀ k ∈ ns, k < X.length ∧ P k = true := fun k hk => by rwa [hns, List.mem_filter, List.mem_range] at hk
  exact hmem _ (List.getElem_mem hl)
 have hg : (prt X P)[i] = X[ns[i]]'hm.1 := by
  simp only [hE, List.getElem_map]
  rw [List.getElem?_eq_getElem hm.1]
  rfl
 rw [hg] at hh
 have h1 := hT _ hm.1 h hh
 have h2 := hc _ hm.1 hm.2 h hh
 have h3 : ixH (idsE X) h < X.length := by omega
 have h4 : ixH (idsE X) h ∈ ns := by rw [hns, List.mem_filter, List.mem_range]; exact ⟨h3, h2⟩
 obtain ⟨m, hml, hme⟩ := List.mem_iff_getElem.1 h4
 have hso : ns.Pairwise (· < ·) := by rw [hns]; exact (List.pairwise_lt_range).filter _
 have hmi : m < i := by
  rcases Nat.lt_trichotomy m i with h | h | h
  ·exact h
  ·subst h; omega
  ·have := List.pairwise_iff_getElem.1 hso i m hl hml h; omega
 have hid : (idsE (prt X P))[m]? = some h := by
  have e1 : (prt X P)[m]? = some (X[ixH (idsE X) h]) := by
   rw [hE, List.getElem?_map, List.getElem?_eq_getElem hml, Option.map_some, hme, List.getElem?_eq_getElem h3]
   rfl
  have e2 := ixH_get (l := idsE X) (x := h) (by rw [idsE_len]; exact h3)
  rw [idsE, List.getElem?_map, e1, Option.map_some]
  congr 1
  simpa [idsE] using e2
 obtain ⟨hm2, hm3⟩ := List.getElem?_eq_some_iff.1 hid
 have := ixH_of (prt_nodup hn P) hm2
 rw [hm3] at this
 omega
theorem at_part {H : List EP} {S : List (Nat × List Nat)} (hT : Topo (exs H)) (hn : (idsE (exs H)).Nodup) (hU : UndOk (exs H) (S.map (·.2))) (hl : S.length = H.length) (hsl : ∀ i (hi : i < S.length), S[i].2.length ≤ (H.length + 63) / 64) (hs : List Hs) (hy : ∀ h ∈ hs, h ∈ idsE (exs H)) (xs : List (Nat × EP))
  (hx : xs.map (·.1) = (List.range H.length).filter (hasW (rchW S H.length (hs.map (ixH (idsE (exs H))))))) (hi : ∀ x ∈ xs, (exs H)[x.1]? = some x.2.1) : (idsE (exs (xs.map (·.2)))).Nodup ∧ Topo (exs (xs.map (·.2))) := by
 rw [show H.length = (exs H).length from (exs_len H).symm] at hx
 have he := prt_of (by rw [exs_len] at hx ⊢; exact hx) hi
 rw [he]
 refine ⟨prt_nodup hn _, prt_topo hT hn _ fun j hj hp h hh => ?_⟩
 have hlen : ∀ k ∈ hs.map (ixH (idsE (exs H))), (S.getD k (0, [])).2.length ≤ (H.length + 63) / 64 := fun k hk => by
  obtain ⟨y, hy1, rfl⟩ := List.mem_map.1 hk
  have h1 := ixH_lt.2 (hy y hy1)
  rw [idsE_len, exs_len] at h1
  rw [List.getD_eq_getElem?_getD, List.getElem?_eq_getElem (by omega), Option.getD_some]
  exact hsl _ _
 rw [rchW_has _ _ _ hlen] at hp ⊢
 obtain ⟨k, hk, hh2⟩ := List.any_eq_true.1 hp
 refine List.any_eq_true.2 ⟨k, hk, ?_⟩
 obtain ⟨y, hy1, rfl⟩ := List.mem_map.1 hk
 have h1 := ixH_lt.2 (hy y hy1)
 rw [idsE_len] at h1
 have hg : ∀ k, (S.getD k (0, [])).2 = (S.map (·.2)).getD k [] := fun k => by
  rw [List.getD_eq_getElem?_getD, List.getD_eq_getElem?_getD, List.getElem?_map]
  cases S[k]? <;> rfl
 rw [hg] at hh2 ⊢
 exact und_closed hT hU (by rw [List.length_map, exs_len]; exact hl) _ h1 j hj hh2 h hh
structure Hst (X : List EX) (U : List (List Nat)) : Prop where
 topo : Topo X
 nd : (idsE X).Nodup
 und : UndOk X U
 len : U.length = X.length
theorem Hst.row {X : List EX} {U : List (List Nat)} (h : Hst X U) {i : Nat} (hi : i < X.length) : (U.getD i []).length = (i + 1 + 63) / 64 := by
 rw [List.getD_eq_getElem?_getD, h.und i (by have := h.len; omega), Option.getD_some, undF_len]
theorem Hst.has {X : List EX} {U : List (List Nat)} (h : Hst X U) {i : Nat} (hi : i < X.length) (j : Nat) : hasW (U.getD i []) j = (decide (i = j) || X[i].N.ps.any fun g => hasW (U.getD (ixH (idsE X) g) []) j) := und_has h.topo h.und h.len hi j
theorem Hst.self {X : List EX} {U : List (List Nat)} (h : Hst X U) {i : Nat} (hi : i < X.length) : hasW (U.getD i []) i = true := by rw [h.has hi, decide_eq_true rfl, Bool.true_or]
theorem Hst.le {X : List EX} {U : List (List Nat)} (h : Hst X U) {i j : Nat} (hi : i < X.length) (hj : hasW (U.getD i []) j = true) : j ≤ i := und_le h.topo h.und h.len i hi j hj
def rch (X : List EX) (U : List (List Nat)) (hs : List Hs) (j : Nat) : Bool := hs.any fun g => hasW (U.getD (ixH (idsE X) g) []) j
theorem ix_lt {X : List EX} {g : Hs} (h : g ∈ idsE X) : ixH (idsE X) g < X.length := by have := ixH_lt.2 h; rwa [idsE_len] at this
def pos (X : List EX) (P : Nat → Bool) : List Nat := (List.range X.length).filter P
theorem pos_mem {X : List EX} {P : Nat → Bool} {k : Nat} : k ∈ pos X P ↔ k < X.length ∧ P k = true := by unfold pos; rw [List.mem_filter, List.mem_range]
theorem pos_in {X : List EX} {P : Nat → Bool} {i : Nat} (hi : i < (pos X P).length) : (pos X P)[i] < X.length ∧ P (pos X P)[i] = true := pos_mem.1 (List.getElem_mem hi)
theorem prt_len (X : List EX) (P : Nat → Bool) : (prt X P).length = (pos X P).length := by unfold prt pos; rw [List.length_map]
theorem prt_get {X : List EX} {P : Nat → Bool} {i : Nat} (hi : i < (pos X P).length) : (prt X P)[i]'(by rw [prt_len]; exact hi) = X[(pos X P)[i]]'(pos_in hi).1 := by
 have e : prt X P = (pos X P).map fun k => (X[k]?).getD dEX := rfl
 simp only [e, List.getElem_map]
 rw [List.getElem?_eq_getElem (pos_in hi).1]
 rfl
theorem ids_get {X : List EX} {i : Nat} (hi : i < X.length) : (idsE X)[i]'(by rw [idsE_len]; exact hi) = X[i].id := by simp [idsE]
theorem prt_ix {X : List EX} {P : Nat → Bool} (hn : (idsE X).Nodup) {h : Hs} (hh : h ∈ idsE (prt X P)) : ∃ hm : ixH (idsE (prt X P)) h < (pos X P).length, (pos X P)[ixH (idsE (prt X P)) h] = ixH (idsE X) h := by
 have h1 := ixH_lt.2 hh
 have h2 : ixH (idsE (prt X P)) h < (pos X P).length := by rw [idsE_len, prt_len] at h1; exact h1
 refine ⟨h2, ?_⟩
 have e1 := ixH_get h1
 rw [ids_get (by rw [prt_len]; exact h2), prt_get h2, ← ids_get (pos_in h2).1] at e1
 have e2 := ixH_of hn (i := (pos X P)[ixH (idsE (prt X P)) h]) (by rw [idsE_len]; exact (pos_in h2).1)
 rw [e1] at e2
 exact e2.symm
theorem prt_mem {X : List EX} {P : Nat → Bool} (hn : (idsE X).Nodup) {h : Hs} : h ∈ idsE (prt X P) ↔ h ∈ idsE X ∧ P (ixH (idsE X) h) = true := by
 constructor
 ·intro hh
  obtain ⟨h1, h2⟩ := prt_ix hn hh
  have h3 := pos_in h1
  rw [h2] at h3
  exact ⟨ixH_lt.1 (by rw [idsE_len]; exact h3.1), h3.2⟩
 ·rintro ⟨hh, hp⟩
  have hk : ixH (idsE X) h ∈ pos X P := pos_mem.2 ⟨ix_lt hh, hp⟩
  obtain ⟨m, hm, e⟩ := List.mem_iff_getElem.1 hk
  refine List.mem_map.2 ⟨(prt X P)[m]'(by rw [prt_len]; exact hm), List.getElem_mem _, ?_⟩
  rw [prt_get hm, ← ids_get (pos_in hm).1]
  have := ixH_get (ixH_lt.2 hh)
  simp only [e]
  exact this
structure TpI (U : List (List Nat)) (I : List Nat) (n : Nat) (dn : List Nat) (st : List Nat × List Nat) : Prop where
 mem : ∀ t ∈ st.1, t ∈ dn ∧ hasW I t = true
 has : ∀ j, hasW st.2 j = st.1.any fun t => hasW (U.getD t []) j
 all : ∀ x ∈ dn, hasW I x = true → hasW st.2 x = true
 un : ∀ a ∈ st.1, ∀ b ∈ st.1, hasW (U.getD b []) a = true → a = b
 len : st.2.length = (n + 63) / 64
theorem sGet (S : List (Nat × List Nat)) (k : Nat) : (S.getD k (0, [])).2 = (S.map (·.2)).getD k [] := by
 rw [List.getD_eq_getElem?_getD, List.getD_eq_getElem?_getD, List.getElem?_map]
 cases S[k]? <;> rfl
theorem TpI.step {X : List EX} {S : List (Nat × List Nat)} {I : List Nat} {dn : List Nat} {st : List Nat × List Nat} (hst : Hst X (S.map (·.2))) (h : TpI (S.map (·.2)) I X.length dn st) {x : Nat} (hx : x < X.length) (hd : ∀ d ∈ dn, x < d) (hdn : ∀ d ∈ dn, d < X.length) : TpI (S.map (·.2)) I X.length (dn ++ [x]) (stT S I st x) := by
 unfold stT
 split
 ·rename_i hc
  have hj : ∀ j, hasW (joinW st.2 (S.getD x (0, [])).2) j = (hasW st.2 j || hasW ((S.map (·.2)).getD x []) j) := fun j => by
   rw [joinW_has _ _ (by rw [sGet, hst.row hx, h.len]; omega), sGet]
  refine ⟨fun t ht => ?_, fun j => ?_, fun y hy hI => ?_, fun a ha b hb hab => ?_, by rw [joinW_len]; exact h.len⟩
  ·rcases List.mem_append.1 ht with ht | ht
   ·exact ⟨List.mem_append_left _ (h.mem t ht).1, (h.mem t ht).2⟩
   ·have e := List.mem_singleton.1 ht
    subst e
    exact ⟨List.mem_append_right _ List.mem_cons_self, hc.1⟩
  ·rw [hj, h.has, List.any_append]
   simp
  ·rw [hj, Bool.or_eq_true]
   rcases List.mem_append.1 hy with hy | hy
   ·exact .inl (h.all y hy hI)
   ·have e := List.mem_singleton.1 hy
    subst e
    exact .inr (hst.self hx)
  ·rcases List.mem_append.1 ha with ha1 | ha1 <;> rcases List.mem_append.1 hb with hb1 | hb1
   ·exact h.un a ha1 b hb1 hab
   ·have e := List.mem_singleton.1 hb1
    rw [e] at hab
    have h1 := hst.le hx hab
    have h2 := hd a (h.mem a ha1).1
    omega
   ·have e := List.mem_singleton.1 ha1
    rw [e] at hab
    have h1 := h.has x
    rw [hc.2] at h1
    have h5 : (st.1.any fun t => hasW ((S.map (·.2)).getD t []) x) = true := List.any_eq_true.2 ⟨b, hb1, hab⟩
    rw [← h1] at h5
    cases h5
   ·rw [List.mem_singleton.1 ha1, List.mem_singleton.1 hb1]
 ·rename_i hc
  refine ⟨fun t ht => ⟨List.mem_append_left _ (h.mem t ht).1, (h.mem t ht).2⟩, h.has, fun y hy hI => ?_, h.un, h.len⟩
  rcases List.mem_append.1 hy with hy | hy
  ·exact h.all y hy hI
  ·have e := List.mem_singleton.1 hy
   subst e
   cases hv : hasW st.2 y
   ·exact absurd ⟨hI, hv⟩ hc
   ·rfl
theorem tp_fold {X : List EX} {S : List (Nat × List Nat)} {I : List Nat} (hst : Hst X (S.map (·.2))) : ∀ (l : List (Fin X.length)) (dn : List Nat) (st : List Nat × List Nat), TpI (S.map (·.2)) I X.length dn st → (∀ x ∈ l, ∀ d ∈ dn, x.val < d) → (∀ d ∈ dn, d < X.length) → l.Pairwise (fun a b => b.val < a.val) → TpI (S.map (·.2)) I X.length (dn ++ l.map (·.val)) (l.foldl (fun st i => stT S I st i.val) st)
 | [], dn, st, h, _, _, _ => by simpa using h
 | x :: l, dn, st, h, h1, h2, h3 => by
  have hp := List.pairwise_cons.1 h3
  have := tp_fold hst l (dn ++ [x.val]) (stT S I st x.val) (h.step hst x.isLt (h1 x List.mem_cons_self) h2) (fun y hy d hd => by
   rcases List.mem_append.1 hd with hd | hd
   ·exact h1 y (List.mem_cons_of_mem _ hy) d hd
   ·rw [List.mem_singleton.1 hd]; exact hp.1 y hy) (fun d hd => by
   rcases List.mem_append.1 hd with hd | hd
   ·exact h2 d hd
   ·rw [List.mem_singleton.1 hd]; exact x.isLt) hp.2
  rw [List.foldl_cons, List.map_cons]
  simpa using this
theorem fin_desc (n : Nat) : (List.finRange n).reverse.Pairwise (fun a b => b.val < a.val) := by
 rw [List.pairwise_reverse, List.pairwise_iff_getElem]
 intro i j hi hj hij
 simp
 exact hij
structure Tops (X : List EX) (U : List (List Nat)) (I : List Nat) (T : List Nat) : Prop where
 mem : ∀ t ∈ T, t < X.length ∧ hasW I t = true
 all : ∀ x, x < X.length → hasW I x = true → ∃ t ∈ T, hasW (U.getD t []) x = true
 un : ∀ a ∈ T, ∀ b ∈ T, hasW (U.getD b []) a = true → a = b
theorem tops_of {X : List EX} {S : List (Nat × List Nat)} (hst : Hst X (S.map (·.2))) (I : List Nat) {n : Nat} (hn : n = X.length) : Tops X (S.map (·.2)) I (tpF S I n (List.finRange n).reverse).1 := by
 subst hn
 have h := tp_fold (I := I) hst (List.finRange X.length).reverse [] ([], List.replicate ((X.length + 63) / 64) 0) ⟨fun t ht => by simp at ht, fun j => by rw [room_has]; rfl, fun x hx => by simp at hx, fun a ha => by simp at ha, by simp⟩ (fun _ _ d hd => by simp at hd) (fun d hd => by simp at hd) (fin_desc _)
 refine ⟨fun t ht => ?_, fun x hx hI => ?_, h.un⟩
 ·have h1 := h.mem t ht
  refine ⟨?_, h1.2⟩
  have h2 := h1.1
  rw [List.nil_append] at h2
  obtain ⟨f, _, e⟩ := List.mem_map.1 h2
  rw [← e]
  exact f.isLt
 ·have h1 := h.all x (by
   rw [List.nil_append]
   exact List.mem_map.2 ⟨⟨x, hx⟩, List.mem_reverse.2 (List.mem_finRange _), rfl⟩) hI
  rw [h.has] at h1
  obtain ⟨t, ht, h2⟩ := List.any_eq_true.1 h1
  exact ⟨t, ht, h2⟩
theorem idAt_ix {H : List EP} (hn : (idsE (exs H)).Nodup) {t : Nat} (ht : t < (exs H).length) : ixH (idsE (exs H)) (idAt H t) = t := by
 unfold idAt
 rw [List.getElem?_eq_getElem ht, Option.getD_some, ← ids_get ht]
 exact ixH_of hn _
theorem idAt_mem {H : List EP} {t : Nat} (ht : t < (exs H).length) : idAt H t ∈ idsE (exs H) := by
 unfold idAt
 rw [List.getElem?_eq_getElem ht, Option.getD_some, ← ids_get ht]
 exact List.getElem_mem _
theorem Tryz.in27 (w : World) (vs : Array Value) : (callFunc 27 vs).run Tryz.prog w = .ok (.enter 27 vs) w := by kernel_rfl
def comW (H : List EP) (S : List (Nat × List Nat)) (a b : Hs) : List Nat := (zipW andW (rchW S H.length [ixH (idsE (exs H)) a]) (rchW S H.length [ixH (idsE (exs H)) b]) ((H.length + 63) / 64))
theorem comW_len (H : List EP) (S : List (Nat × List Nat)) (a b : Hs) : (comW H S a b).length = ((H.length + 63) / 64) := by unfold comW; rw [zipW_len, rchW_len]
def ComPost (H : List EP) (S : List (Nat × List Nat)) (a b : Hs) (w : World) (e : Ending) (w' : World) : Prop :=
 Below w.heap.size w w' ∧ (((a ∉ (idsE (exs H)) ∨ b ∉ (idsE (exs H))) ∧ e = .returned (.tuple #[.slice none 0 0, .int .i64 6])) ∨
 (a ∈ (idsE (exs H)) ∧ b ∈ (idsE (exs H)) ∧ ∃ v' L', e = .returned (.tuple #[v', .int .i64 0]) ∧ OwnH w' v' L' ∧ (∀ k, v'.ownBlock = some k → w.heap.size ≤ k) ∧ L'.Pairwise Lt ∧ ∀ x, x ∈ L' ↔ x ∈ idsT H (tpF S (comW H S a b) H.length (List.finRange H.length).reverse).1))
set_option maxRecDepth 8000 in
set_option maxHeartbeats 2000000 in
theorem common_any (H : List EP) (S : List (Nat × List Nat)) (v : Value) (p mb ub : Nat) (w : World) (hR : PastRd w p H S v mb ub) (hsb : ∀ k, v.ownBlock = some k → k < w.heap.size) (hsl : ∀ i (hi : i < S.length), S[i].2.length ≤ (H.length + 63) / 64) (a b : Hs) : Calls Tryz.prog 27 #[.pointer (some ⟨p, 0, none⟩), .agg (bytesA 32 a.f), .agg (bytesA 32 b.f)] w (ComPost H S a b w) := by
 have HR := Keep.mk hR
 have Hsl := Keep.mk hsl
 have Hsb := Keep.mk hsb
 have HSw : Keep (∀ i, Wds (S.getD i (0, [])).2) := ⟨fun i => by
  rw [List.getD_eq_getElem?_getD]
  rcases Nat.lt_or_ge i S.length with h | h
  ·rw [List.getElem?_eq_getElem h]; exact (hR.s i h).2.1
  ·rw [List.getElem?_eq_none h]; exact fun _ => by simp⟩
 clear hR hsl hsb
 go_enter Tryz.func27, Tryz.ntmps27
 refine wp_seq_k fun K1 hK1 => rgn ?_
 refine WL.box (by kernel_rfl) 36 (.tmp 1) rfl (bytesA 32 a.f) rfl ?_
 obtain ⟨w1, hwn⟩ : ∃ wx, Keep (wx = w.alloc (.cells (bytesA 32 a.f) 36)) := ⟨_, ⟨rfl⟩⟩
 rw [← hwn.out]
 have H4 : Keep (Blk w1 w.heap.size 36 (bytesA 32 a.f)) := ⟨by rw [hwn.out]; exact Blk.new _ _ _⟩
 have L1 : Keep (Below w.heap.size w w1) := ⟨by rw [hwn.out]; exact below_new _ _⟩
 clear hwn
 simp only [Act.put, pqA, pqB, pqC]
 refine WL.box (by kernel_rfl) 36 (.tmp 2) rfl (bytesA 32 b.f) rfl ?_
 obtain ⟨w2, hwn⟩ : ∃ wx, Keep (wx = w1.alloc (.cells (bytesA 32 b.f) 36)) := ⟨_, ⟨rfl⟩⟩
 rw [← hwn.out]
 have H5 : Keep (Blk w2 w1.heap.size 36 (bytesA 32 b.f)) := ⟨by rw [hwn.out]; exact Blk.new _ _ _⟩
 have L2 : Keep (Below w1.heap.size w1 w2) := ⟨by rw [hwn.out]; exact below_new _ _⟩
 clear hwn
 have H4a := Keep.mk (H4.out.below L2.out H4.out.lt)
 have B2 := Keep.mk (belowC L1.out L2.out)
 simp only [Act.put, pqA, pqB, pqC]
 refine VlS (.slice none 0 0) ?_
 refine VlS (.int .i64 0) ?_
 refine WL.nil (hK1 _ _ ?_)
 refine wp_seq_k fun K2 hK2 => ?_
 by_cases hma : a ∈ (idsE (exs H))
 ·refine rgn ?_
  refine VlS (.pointer (some ⟨p, 0, none⟩)) ?_
  refine WL.row (by kernel_rfl) 36 (.tmp 4) rfl w.heap.size rfl 36 (bytesA 32 a.f) _ H4a.out Tryz.underlying36 rfl (size36E _) ?_
  simp only [Act.put, pqA, pqB, pqC]
  refine WL.bs (by kernel_rfl) 24 1 _ rfl #[(0, .agg (bytesA 32 a.f))] (by simp [Act.eval]) _ _ (bsH a w2) ?_
  obtain ⟨w3, hwf⟩ : ∃ wx, Keep (wx = w2.alloc (.cells (bytesA 32 a.f) 36)) := ⟨_, ⟨rfl⟩⟩
  rw [← hwf.out]
  have H6 : Keep (Blk w3 w2.heap.size 36 (bytesA 32 a.f)) := ⟨by rw [hwf.out]; exact Blk.new _ _ _⟩
  have L3 : Keep (Below w2.heap.size w2 w3) := ⟨by rw [hwf.out]; exact below_new _ _⟩
  clear hwf
  have H5b := Keep.mk (H5.out.below L3.out H5.out.lt)
  have B3 := Keep.mk (belowC B2.out L3.out)
  simp only [Act.put, pqA, pqB, pqC]
  refine WL.callF (by kernel_rfl) 49 _ _ rfl Tryz.in49 #[.pointer (some ⟨p, 0, none⟩), .slice (some ⟨w2.heap.size, 0, none⟩) 1 1] (by simp [Act.eval]) ?_
  refine (reach_yes H S v p mb ub w3 (HR.out.below B3.out) Hsl.out (.slice (some ⟨w2.heap.size, 0, none⟩) 1 1) [a] (hrow_one H6.out) (by simp) (by simpa using hma)).mono ?_
  rintro e w4 ⟨rfl, hg, hb⟩
  refine ⟨_, rfl, ?_⟩
  have HG1 := Keep.mk hg
  have H5c := Keep.mk (H5b.out.below hb H5b.out.lt)
  have B4 := Keep.mk (belowC B3.out hb)
  clear hg hb H4 H4a H5 H5b H6 L1 L2 L3
  simp only [Act.put, pqA, pqB, pqC]
  refine VlS (.tuple #[.slice (some ⟨w3.heap.size, 0, none⟩) ((H.length + 63) / 64) ((H.length + 63) / 64), .int .i64 0]) ?_
  refine VlS (.slice (some ⟨w3.heap.size, 0, none⟩) ((H.length + 63) / 64) ((H.length + 63) / 64)) ?_
  refine VlS (.int .i64 0) ?_
  refine VlS (.slice (some ⟨w3.heap.size, 0, none⟩) ((H.length + 63) / 64) ((H.length + 63) / 64)) ?_
  refine VlS (.int .i64 0) ?_
  refine WL.nil (hK2 _ _ ?_)
  refine wp_seq_k fun K3 hK3 => ?_
  refine wp_seq_k fun K4 hK4 => rgn ?_
  refine VlS (.int .i64 0) ?_
  refine VbF ?_
  refine WL.nil (hK4 _ _ ?_)
  refine wp_cond_false rfl ?_
  refine wp_skip ?_
  refine hK3 _ _ ?_
  refine wp_seq_k fun K5 hK5 => ?_
  by_cases hmb : b ∈ (idsE (exs H))
  ·refine rgn ?_
   refine VlS (.pointer (some ⟨p, 0, none⟩)) ?_
   refine WL.row (by kernel_rfl) 36 (.tmp 5) rfl w1.heap.size rfl 36 (bytesA 32 b.f) _ H5c.out Tryz.underlying36 rfl (size36E _) ?_
   simp only [Act.put, pqA, pqB, pqC]
   refine WL.bs (by kernel_rfl) 24 1 _ rfl #[(0, .agg (bytesA 32 b.f))] (by simp [Act.eval]) _ _ (bsH b w4) ?_
   obtain ⟨w5, hwf⟩ : ∃ wx, Keep (wx = w4.alloc (.cells (bytesA 32 b.f) 36)) := ⟨_, ⟨rfl⟩⟩
   rw [← hwf.out]
   have H7 : Keep (Blk w5 w4.heap.size 36 (bytesA 32 b.f)) := ⟨by rw [hwf.out]; exact Blk.new _ _ _⟩
   have L5 : Keep (Below w4.heap.size w4 w5) := ⟨by rw [hwf.out]; exact below_new _ _⟩
   clear hwf
   have HG2 := Keep.mk (HG1.out.below L5.out HG1.out.lt)
   have B5 := Keep.mk (belowC B4.out L5.out)
   simp only [Act.put, pqA, pqB, pqC]
   refine WL.callF (by kernel_rfl) 49 _ _ rfl Tryz.in49 #[.pointer (some ⟨p, 0, none⟩), .slice (some ⟨w4.heap.size, 0, none⟩) 1 1] (by simp [Act.eval]) ?_
   refine (reach_yes H S v p mb ub w5 (HR.out.below B5.out) Hsl.out (.slice (some ⟨w4.heap.size, 0, none⟩) 1 1) [b] (hrow_one H7.out) (by simp) (by simpa using hmb)).mono ?_
   rintro e w6 ⟨rfl, hg, hb⟩
   refine ⟨_, rfl, ?_⟩
   have HGo := Keep.mk hg
   have HG3 := Keep.mk (HG2.out.below hb HG2.out.lt)
   have B6 := Keep.mk (belowC B5.out hb)
   have hne : Keep (w3.heap.size ≠ w5.heap.size) := ⟨fun e => by have h1 := HG2.out.lt; omega⟩
   clear hg hb
   simp only [Act.put, pqA, pqB, pqC]
   refine VlS (.tuple #[.slice (some ⟨w5.heap.size, 0, none⟩) ((H.length + 63) / 64) ((H.length + 63) / 64), .int .i64 0]) ?_
   refine VlS (.slice (some ⟨w5.heap.size, 0, none⟩) ((H.length + 63) / 64) ((H.length + 63) / 64)) ?_
   refine VlS (.int .i64 0) ?_
   refine VlS (.slice (some ⟨w5.heap.size, 0, none⟩) ((H.length + 63) / 64) ((H.length + 63) / 64)) ?_
   refine VlS (.int .i64 0) ?_
   refine WL.nil (hK5 _ _ ?_)
   refine wp_seq_k fun K6 hK6 => ?_
   refine wp_seq_k fun K7 hK7 => rgn ?_
   refine VlS (.int .i64 0) ?_
   refine VbF ?_
   refine WL.nil (hK7 _ _ ?_)
   refine wp_cond_false rfl ?_
   refine wp_skip ?_
   refine hK6 _ _ ?_
   refine wp_seq_k fun K8 hK8 => rgn ?_
   refine VlS (.slice (some ⟨w3.heap.size, 0, none⟩) ((H.length + 63) / 64) ((H.length + 63) / 64)) ?_
   refine VlS (.slice (some ⟨w5.heap.size, 0, none⟩) ((H.length + 63) / 64) ((H.length + 63) / 64)) ?_
   refine WL.callF (by kernel_rfl) 55 _ _ rfl Tryz.in55 #[.slice (some ⟨w3.heap.size, 0, none⟩) ((H.length + 63) / 64) ((H.length + 63) / 64), .slice (some ⟨w5.heap.size, 0, none⟩) ((H.length + 63) / 64) ((H.length + 63) / 64)] (by simp [Act.eval]) ?_
   refine ((by have hq := meet_any w3.heap.size w5.heap.size (rchW S H.length [ixH (idsE (exs H)) a]) (rchW S H.length [ixH (idsE (exs H)) b]) w6 HG3.out HGo.out hne.out (by rw [rchW_len, rchW_len]; exact Nat.le_refl _) (by rw [rchW_len]; have := HR.out.n; omega) (rchW_wds HSw.out _ _) (rchW_wds HSw.out _ _); rw [rchW_len, rchW_len] at hq; exact hq : Calls Tryz.prog 55 #[.slice (some ⟨w3.heap.size, 0, none⟩) ((H.length + 63) / 64) ((H.length + 63) / 64), .slice (some ⟨w5.heap.size, 0, none⟩) ((H.length + 63) / 64) ((H.length + 63) / 64)] w6 _)).mono ?_
   rintro e w7 ⟨rfl, hg, hgr⟩
   refine ⟨_, rfl, ?_⟩
   have HM := Keep.mk hg
   have B7 : Keep (Below w.heap.size w w7) := ⟨B6.out.trans (hgr.to_below (fun k hk e => by have := B3.out.size; omega) B6.out.size)⟩
   clear hg hgr
   simp only [Act.put, pqA, pqB, pqC]
   refine WL.nil (hK8 _ _ ?_)
   refine wp_seq_k fun K9 hK9 => rgn ?_
   refine VlS (.pointer (some ⟨p, 0, none⟩)) ?_
   refine VlS (.slice (some ⟨w3.heap.size, 0, none⟩) ((H.length + 63) / 64) ((H.length + 63) / 64)) ?_
   refine WL.callF (by kernel_rfl) 52 _ _ rfl Tryz.in52 #[.pointer (some ⟨p, 0, none⟩), .slice (some ⟨w3.heap.size, 0, none⟩) ((H.length + 63) / 64) ((H.length + 63) / 64)] (by simp [Act.eval]) ?_
   refine ((by have hq := tops_any H S v p mb ub w7 (HR.out.below B7.out) w3.heap.size (comW H S a b) HM.out ((rchW_wds HSw.out _ _).zip andW_lt) (by rw [comW_len]; have := HR.out.n; omega) (fun k hk => Nat.lt_of_lt_of_le (Hsb.out k hk) B7.out.size) Hsl.out; rw [comW_len] at hq; exact hq : Calls Tryz.prog 52 #[.pointer (some ⟨p, 0, none⟩), .slice (some ⟨w3.heap.size, 0, none⟩) ((H.length + 63) / 64) ((H.length + 63) / 64)] w7 _)).mono ?_
   rintro e w8 ⟨v8, l8, rfl, ho8, hf8, hp8, hm8, hb8⟩
   refine ⟨_, rfl, ?_⟩
   have B8 := Keep.mk (belowC B7.out hb8)
   have Ho8 := Keep.mk ho8
   have Hf8 : Keep (∀ k, v8.ownBlock = some k → w.heap.size ≤ k) := ⟨fun k hk => Nat.le_trans B7.out.size (hf8 k hk)⟩
   have Hp8 := Keep.mk hp8
   have Hm8 := Keep.mk hm8
   clear ho8 hf8 hp8 hm8 hb8
   simp only [Act.put, pqA, pqB, pqC]
   refine VlS (v8) ?_
   refine VlS (.int .i64 0) ?_
   refine WL.nil (hK9 _ _ ?_)
   refine wp_ret ?_
   go_ret2
   exact ⟨B8.out, .inr ⟨hma, hmb, v8, l8, rfl, Ho8.out, Hf8.out, Hp8.out, Hm8.out⟩⟩
  ·refine rgn ?_
   refine VlS (.pointer (some ⟨p, 0, none⟩)) ?_
   refine WL.row (by kernel_rfl) 36 (.tmp 5) rfl w1.heap.size rfl 36 (bytesA 32 b.f) _ H5c.out Tryz.underlying36 rfl (size36E _) ?_
   simp only [Act.put, pqA, pqB, pqC]
   refine WL.bs (by kernel_rfl) 24 1 _ rfl #[(0, .agg (bytesA 32 b.f))] (by simp [Act.eval]) _ _ (bsH b w4) ?_
   obtain ⟨w5, hwf⟩ : ∃ wx, Keep (wx = w4.alloc (.cells (bytesA 32 b.f) 36)) := ⟨_, ⟨rfl⟩⟩
   rw [← hwf.out]
   have H7 : Keep (Blk w5 w4.heap.size 36 (bytesA 32 b.f)) := ⟨by rw [hwf.out]; exact Blk.new _ _ _⟩
   have L5 : Keep (Below w4.heap.size w4 w5) := ⟨by rw [hwf.out]; exact below_new _ _⟩
   clear hwf
   have HG2 := Keep.mk (HG1.out.below L5.out HG1.out.lt)
   have B5 := Keep.mk (belowC B4.out L5.out)
   simp only [Act.put, pqA, pqB, pqC]
   refine WL.callF (by kernel_rfl) 49 _ _ rfl Tryz.in49 #[.pointer (some ⟨p, 0, none⟩), .slice (some ⟨w4.heap.size, 0, none⟩) 1 1] (by simp [Act.eval]) ?_
   refine (reach_no H S v p mb ub w5 (HR.out.below B5.out) Hsl.out (.slice (some ⟨w4.heap.size, 0, none⟩) 1 1) [b] (hrow_one H7.out) (by simp) ⟨b, by simp, hmb⟩).mono ?_
   rintro e w6 ⟨rfl, hb⟩
   refine ⟨_, rfl, ?_⟩
   have B6 := Keep.mk (belowC B5.out hb)
   clear hb
   simp only [Act.put, pqA, pqB, pqC]
   refine VlS (.tuple #[.slice none 0 0, .int .i64 6]) ?_
   refine VlS (.slice none 0 0) ?_
   refine VlS (.int .i64 6) ?_
   refine VlS (.slice none 0 0) ?_
   refine VlS (.int .i64 6) ?_
   refine WL.nil (hK5 _ _ ?_)
   refine wp_seq_k fun K10 hK10 => ?_
   refine wp_seq_k fun K11 hK11 => rgn ?_
   refine VlS (.int .i64 6) ?_
   refine VbT ?_
   refine WL.nil (hK11 _ _ ?_)
   refine wp_cond_true rfl ?_
   refine wp_seq_k fun K12 hK12 => rgn ?_
   refine VlS (.int .i64 6) ?_
   refine VlS (.slice none 0 0) ?_
   refine VlS (.int .i64 6) ?_
   refine WL.nil (hK12 _ _ ?_)
   refine wp_ret ?_
   go_ret2
   exact ⟨B6.out, .inl ⟨.inr hmb, rfl⟩⟩
 ·refine rgn ?_
  refine VlS (.pointer (some ⟨p, 0, none⟩)) ?_
  refine WL.row (by kernel_rfl) 36 (.tmp 4) rfl w.heap.size rfl 36 (bytesA 32 a.f) _ H4a.out Tryz.underlying36 rfl (size36E _) ?_
  simp only [Act.put, pqA, pqB, pqC]
  refine WL.bs (by kernel_rfl) 24 1 _ rfl #[(0, .agg (bytesA 32 a.f))] (by simp [Act.eval]) _ _ (bsH a w2) ?_
  obtain ⟨w3, hwf⟩ : ∃ wx, Keep (wx = w2.alloc (.cells (bytesA 32 a.f) 36)) := ⟨_, ⟨rfl⟩⟩
  rw [← hwf.out]
  have H6 : Keep (Blk w3 w2.heap.size 36 (bytesA 32 a.f)) := ⟨by rw [hwf.out]; exact Blk.new _ _ _⟩
  have L3 : Keep (Below w2.heap.size w2 w3) := ⟨by rw [hwf.out]; exact below_new _ _⟩
  clear hwf
  have H5b := Keep.mk (H5.out.below L3.out H5.out.lt)
  have B3 := Keep.mk (belowC B2.out L3.out)
  simp only [Act.put, pqA, pqB, pqC]
  refine WL.callF (by kernel_rfl) 49 _ _ rfl Tryz.in49 #[.pointer (some ⟨p, 0, none⟩), .slice (some ⟨w2.heap.size, 0, none⟩) 1 1] (by simp [Act.eval]) ?_
  refine (reach_no H S v p mb ub w3 (HR.out.below B3.out) Hsl.out (.slice (some ⟨w2.heap.size, 0, none⟩) 1 1) [a] (hrow_one H6.out) (by simp) ⟨a, by simp, hma⟩).mono ?_
  rintro e w4 ⟨rfl, hb⟩
  refine ⟨_, rfl, ?_⟩
  have B4 := Keep.mk (belowC B3.out hb)
  clear hb
  simp only [Act.put, pqA, pqB, pqC]
  refine VlS (.tuple #[.slice none 0 0, .int .i64 6]) ?_
  refine VlS (.slice none 0 0) ?_
  refine VlS (.int .i64 6) ?_
  refine VlS (.slice none 0 0) ?_
  refine VlS (.int .i64 6) ?_
  refine WL.nil (hK2 _ _ ?_)
  refine wp_seq_k fun K13 hK13 => ?_
  refine wp_seq_k fun K14 hK14 => rgn ?_
  refine VlS (.int .i64 6) ?_
  refine VbT ?_
  refine WL.nil (hK14 _ _ ?_)
  refine wp_cond_true rfl ?_
  refine wp_seq_k fun K15 hK15 => rgn ?_
  refine VlS (.int .i64 6) ?_
  refine VlS (.slice none 0 0) ?_
  refine VlS (.int .i64 6) ?_
  refine WL.nil (hK15 _ _ ?_)
  refine wp_ret ?_
  go_ret2
  exact ⟨B4.out, .inl ⟨.inl hma, rfl⟩⟩
def Told {α : Type} (n : Nat) (P : Program) (g : Nat) (lb : Array Value) (encs : α → Array Value) (Fx : α → World → Prop) (Kp : World → World → Prop) (S : List α → Prop) (N : Nat) (w : World) : Prop :=
 ∀ (l : Nat) (J : List α → World → Prop) (W : World), Below w.heap.size w W → OwnFrom W.heap.size J →
  (∀ pre x W1, J pre W1 → Fx x W1 → pre.length < N → YieldAt Fence.wide (n - 1) P l (encs x) W1 fun e W' => e = .returned (.bool true) ∧ J (pre ++ [x]) W' ∧ Kp W1 W' ∧ KeepsFrom W.heap.size W1 W') →
  J [] W → CallsIn Fence.wide n P g (#[.func (.yield l) #[] #[]] ++ lb) W fun e W' => (∃ v, e = .returned v) ∧ ∃ xs, S xs ∧ J xs W'
theorem keepsFrom_mono {B B' : Nat} {W W' : World} (h : KeepsFrom B W W') (hB : B ≤ B') : KeepsFrom B' W W' := ⟨h.size, fun k o hk h1 h2 => h.same k o (Nat.le_trans hB hk) h1 h2⟩
structure Rec2 (B : Nat) (r : Loop) (W : World) : Prop where
 d : W.heap[B]? = some (.deferred (some []))
 l : W.heap[B + 1]? = some (.loop r)
theorem Rec2.lt {B : Nat} {r : Loop} {W : World} (h : Rec2 B r W) : B + 1 < W.heap.size := (Array.getElem?_eq_some_iff.1 h.l).1
theorem Rec2.put {B : Nat} {r r' : Loop} {W : World} (h : Rec2 B r W) : Rec2 B r' (W.putObj (B + 1) (.loop r')) :=
 ⟨(World.putObj_heap_other (by omega)).trans h.d, World.putObj_heap_same h.lt⟩
theorem Rec2.keep {B : Nat} {r : Loop} {W W' : World} (h : Rec2 B r W) (k : KeepsFrom B W W') : Rec2 B r W' :=
 ⟨k.same _ _ (Nat.le_refl _) h.d rfl, k.same _ _ (by omega) h.l rfl⟩
theorem Rec2.grow {B : Nat} {r : Loop} {W W' : World} {row : Option Nat} (h : Rec2 B r W) (hg : W.grownBy W' row) (hr : ∀ k, row = some k → B + 2 ≤ k) : Rec2 B r W' :=
 ⟨(hg.block _ (by have := h.lt; omega) fun e => by have := hr _ e.symm; omega).trans h.d, (hg.block _ h.lt fun e => by have := hr _ e.symm; omega).trans h.l⟩
theorem range_told {α : Type} {n : Nat} {P : Program} {g : Operand} {ps : Array Tmp} {assign body : Code} {Q : Exit → Act → World → Prop} {a : Act} {w : World} (h1 : 1 ≤ n) {gf : Nat} {lb : Array Value}
  (hg : a.eval g = .func (.func gf) #[] lb) (eg : ∀ args w, (callFunc gf args).run P w = .ok (.enter gf args) w)
  {encs : α → Array Value} {Fx : α → World → Prop} {Kp : World → World → Prop} {S : List α → Prop} {N : Nat} {w0 : World} (hseq : Told (n - 1) P gf lb encs Fx Kp S N w0)
  (hKt : ∀ A B C : World, Kp A B → Kp B C → Kp A C) (hKb : ∀ (W : World) (r r' : Loop), Rec2 w.heap.size r W → Kp W (W.putObj (w.heap.size + 1) (.loop r')))
  (hb0 : Below w0.heap.size w0 w) (hps : ∀ x, (encs x).size = ps.size)
  (I : List α → World → Prop) (hI : OwnFrom w.heap.size I) (h0 : I [] w) (Ax : List α → α → Act → World → Prop) (hAx : ∀ pre x a', OwnFrom w.heap.size fun (_ : Unit) W => Ax pre x a' W)
  (hassign : ∀ (l : Nat) (pre : List α) (x : α) (W : World) (K : Act → World → Prop), I pre W → Fx x W → pre.length < N → (∀ a' W', KeepsFrom w.heap.size W W' → Kp W W' → Ax pre x a' W' → K a' W') →
   assign.wpIn (Fence.wide.inRound l) (n - 1 - 1) P (Exit.then K fun _ _ _ => False) { tmps := (ps.zip (encs x)).foldl (fun t (p, v) => t.setIfInBounds p v) a.tmps, defers := [] } W)
  (hbody : ∀ (l : Nat) (pre : List α) (x : α) (a' : Act) (W : World), w.heap.size ≤ l → (∃ r, W.heap[l]? = some (.loop r)) → Ax pre x a' W →
   body.wpIn (Fence.wide.inRound l) (n - 1 - 1) P (fun e _ W' => e = .normal ∧ KeepsFrom w.heap.size W W' ∧ Kp W W' ∧ I (pre ++ [x]) W') a' W)
  (hdone : ∀ (D : Nat) (xs : List α) (W : World), w.heap.size ≤ D → S xs → I xs W → W.heap[D]? = some (.deferred (some [])) → Q .normal { a with defers := { target := .collected D, args := #[] } :: a.defers } W) :
  (Code.rangeFunc g ps assign body).wpIn Fence.wide n P Q a w := by
 refine wpIn_rangeFunc fun fn hfn => ?_
 let R : Bool → Loop := fun b => { state := if b then .busy else .ready, pending := none, fn, tmps := a.tmps, params := ps, assign, body, defers := w.heap.size }
 let W1 := (w.alloc (.deferred (some []))).alloc (.loop (R false))
 have hs1 : W1.heap.size = w.heap.size + 2 := by simp [W1]
 have r1 : Rec2 w.heap.size (R false) W1 := by
  refine ⟨(Below.heap_alloc _ _ _ (by simp)).trans (World.alloc_heap_new w _), ?_⟩
  have h := World.alloc_heap_new (w.alloc (.deferred (some []))) (.loop (R false))
  rwa [World.size_alloc] at h
 refine ⟨w.heap.size + 1, [{ target := .collected w.heap.size, args := #[] }], W1, { target := .fn (.func gf) lb, args := #[.func (.yield (w.heap.size + 1)) #[] #[]] }, W1, gf, #[.func (.yield (w.heap.size + 1)) #[] #[]] ++ lb, W1, run_enterLoop_outer _ _ _ _ _, ?_, fun _ _ => trivial, ?_, fun _ => h1, ?_⟩
 ·simp only [resolve, hg]; simp [go_sem]
 ·simp [invoke, go_sem, eg]
 refine (hseq (w.heap.size + 1) (fun pre W => I pre W ∧ Rec2 w.heap.size (R false) W) W1 (hb0.trans ((((Below.refl _ w).alloc (Nat.le_refl _) _).alloc (by simp) _).mono hb0.size))
  (fun s A B row h hgr hr => ⟨hI s A B row h.1 hgr fun k e => ⟨by have := (hr k e).1; omega, (hr k e).2⟩, h.2.grow hgr fun k e => by have := (hr k e).1; omega⟩) ?_ ⟨hI.alloc _ (hI.alloc _ h0), r1⟩).mono ?_
 ·rintro pre x W ⟨hi, hr⟩ hF hlen
  refine ⟨fn, _, assign, body, run_yield (P := P) (args := encs x) hr.l (hps x), roundIn_of_wpIn hfn (hassign _ pre x W _ hi hF hlen fun a' Wa ka kp hax => ?_)⟩
  have hra := hr.keep ka
  refine ⟨_, run_beginRound hra.l rfl, ?_⟩
  have hrb : Rec2 w.heap.size (R true) (Wa.putObj (w.heap.size + 1) (.loop (R true))) := hra.put
  refine wpIn_mono (hbody _ pre x a' _ (by omega) ⟨_, hrb.l⟩ ((hAx pre x a').putObj (s := ()) _ hax (by omega) hra.l rfl)) ?_
  rintro e a3 W3 ⟨rfl, k3, kp3, i3⟩
  have hr3 := hrb.keep k3
  refine ⟨_, _, run_endRound (P := P) none hr3.l, rfl, ⟨hI.putObj _ i3 (by omega) hr3.l rfl, hr3.put⟩, hKt _ _ _ kp (hKt _ _ _ (hKb _ _ _ hra) (hKt _ _ _ kp3 (hKb _ _ _ hr3))), ?_⟩
  have kp' : ∀ (X : World) (o : Obj), KeepsFrom W1.heap.size X (X.putObj (w.heap.size + 1) o) := fun X o => KeepsFrom.of_grownBy (grownBy_putObj' X _ o) fun j e => by cases e; omega
  exact ((keepsFrom_mono ka (by omega)).trans (kp' _ _)).trans ((keepsFrom_mono k3 (by omega)).trans (kp' _ _))
 ·rintro e W2 ⟨⟨v, rfl⟩, xs, hS, hi, hr⟩
  exact ⟨none, _, run_endLoop (P := P) hr.l (by simp [R]), hdone _ xs _ (Nat.le_refl _) hS (hI.putObj _ hi (by omega) hr.l rfl) ((World.putObj_heap_other (by omega)).trans hr.d)⟩
theorem Tryz.in11 (w : World) (vs : Array Value) : (callFunc 11 vs).run Tryz.prog w = .ok (.enter 11 vs) w := by kernel_rfl
theorem WI.callF {n : Nat} {P : Program} {ops : Array Oper} {rest : List Oper} {o : Oper} {a : Act} {w : World} {Q : Exit → Act → World → Prop} (hw : Region.wanted o (yielded ops a.tmps) = true) (f : FuncId) (args : Array Operand) (ts : Array TypeId) (ho : o.op = .call { callee := .value (.func f), args := args, argTypes := ts })
  (hf : ∀ (w : World) (vs : Array Value), (callFunc f vs).run P w = .ok (.enter f vs) w) (vs : Array Value) (hvs : args.map a.eval = vs)
  (hc : Calls P f vs w fun e w' => ∃ v, e = .returned v ∧ WI n P ops Q rest (a.put o.dst v) w') : WI n P ops Q (o :: rest) a w :=
 WI.op hw (fun c e => by rw [ho] at e; cases e) fun K hK => wp_callF f args ts ho hf vs hvs _ hc fun v w' h => hK _ _ h
theorem abides_below {β : Type} {B : Nat} {J : β → World → Prop} {s : β} {W W' : World} (hJ : OwnFrom B J) (h : J s W) (hb : Below W.heap.size W W') : J s W' := hJ s W W' none h ⟨hb.os, hb.tape, hb.output, hb.size, fun i hi _ => hb.block i hi⟩ fun _ e => by cases e
def encN (x : Nat × EP) : Array Value := #[.int .i64 (x.1 : Int), .agg (entA x.2.1.id.f x.2.1.N.au x.2.1.N.ck x.2.2.1 x.2.2.2)]
def FxN (wb : World) (H : List EP) (x : Nat × EP) (W : World) : Prop := ((exs H)[x.1]?) = some x.2.1 ∧ FreshE wb W x.2.1 x.2.2.1 x.2.2.2
set_option maxRecDepth 8000 in
theorem all_any (p : Nat) (w : World) : Calls Tryz.prog 11 #[.pointer (some ⟨p, 0, none⟩)] w fun e w' => e = .returned (.func (.func 35) #[] #[.pointer (some ⟨w.heap.size, 0, none⟩)]) ∧ w' = w.alloc (.cells #[.pointer (some ⟨p, 0, none⟩)] 25) := by
 go_enter Tryz.func11, Tryz.ntmps11
 refine wp_seq_k fun K1 hK1 => rgn ?_
 refine WL.valW (by kernel_rfl) (.pointer (some ⟨w.heap.size, 0, none⟩)) (w.alloc (.cells #[.pointer (some ⟨p, 0, none⟩)] 25)) (by go_simp) ?_
 simp only [Act.put, pqA, pqB, pqC]
 refine VlS (.nilFunc) ?_
 refine WL.nil (hK1 _ _ ?_)
 refine wp_seq_k fun K2 hK2 => rgn ?_
 refine VlS (.func (.func 35) #[] #[.pointer (some ⟨w.heap.size, 0, none⟩)]) ?_
 refine VlS (.func (.func 35) #[] #[.pointer (some ⟨w.heap.size, 0, none⟩)]) ?_
 refine WL.nil (hK2 _ _ ?_)
 refine wp_ret ?_
 go_ret
 exact ⟨rfl, rfl⟩
set_option maxRecDepth 8000 in
set_option maxHeartbeats 2000000 in
theorem all_told (n Bs : Nat) (H : List EP) (S : List (Nat × List Nat)) (v : Value) (p mb ub : Nat) (wb w : World) (hR : PastRd wb p H S v mb ub) (hb : Below wb.heap.size wb w) (hBs : Blk w Bs 25 #[.pointer (some ⟨p, 0, none⟩)]) :
  Told n Tryz.prog 35 #[.pointer (some ⟨Bs, 0, none⟩)] encN (FxN wb H) (Below wb.heap.size) (fun xs => xs.map (·.1) = List.range H.length) H.length w := by
 intro l J W hW hJ hY h0
 obtain ⟨sa, sc1, rfl⟩ := hR.sl.form
 have HR := Keep.mk hR
 have HJ := Keep.mk hJ
 have HB : Keep (Below wb.heap.size wb W) := ⟨belowC hb hW⟩
 have cB : W.cell? ⟨Bs, 0, none⟩ = some (.pointer (some ⟨p, 0, none⟩)) := (hBs.below hW hBs.lt).c 0 rfl
 have cP : W.cell? ⟨p, 0, none⟩ = some (.slice sa H.length sc1) := (hR.below HB.out).p.c 0 rfl
 clear hR hb hBs hW hJ
 refine callsIn_of_wp Tryz.func35 rfl trivial ?_
 refine wpIn_wide.2 ?_
 simp only [Tryz.ntmps35, List.size_toArray, List.length_cons, List.length_nil, Nat.reduceAdd, Nat.reduceSub, Array.replicate_succ, Array.replicate_zero, List.push_toArray, List.append_toArray, List.nil_append, List.cons_append]
 refine wp_seq_k fun K1 hK1 => rgn ?_
 refine VlS (.pointer (some ⟨p, 0, none⟩)) ?_
 refine VlS (.pointer (some ⟨p, 0, none⟩)) ?_
 refine VlS (.pointer (some ⟨p, 0, none⟩)) ?_
 refine VlS (.slice sa H.length sc1) ?_
 refine VlS (.int .i64 (H.length : Int)) ?_
 refine VlS (.int .i64 0) ?_
 refine WL.nil (hK1 _ _ ?_)
 refine wp_block ?_
 refine wp_loop (fun ac wr => ∃ (t : Nat) (u3 u4 u11 u12 u13 u14 u15 u16 u17 u18 u19 u20 u21 : Value), ac = { tmps := #[.func (.yield l) #[] #[], .pointer (some ⟨Bs, 0, none⟩), undef, u3, u4, .pointer (some ⟨p, 0, none⟩), .pointer (some ⟨p, 0, none⟩), .pointer (some ⟨p, 0, none⟩), .slice sa H.length sc1, .int .i64 (H.length : Int), .int .i64 (t : Int), u11, u12, u13, u14, u15, u16, u17, u18, u19, u20, u21], defers := [] } ∧ t ≤ H.length ∧ Below wb.heap.size wb wr ∧ ∃ pre : List (Nat × EP), pre.map (·.1) = List.range t ∧ J pre wr) (fun a _ => H.length - (intOf (a.tmps.getD 10 undef)).toNat) ⟨0, undef, undef, undef, undef, undef, undef, undef, undef, undef, undef, undef, undef, undef, rfl, by omega, HB.out, [], rfl, h0⟩ ?_
 rintro ac wr ⟨t, u3, u4, u11, u12, u13, u14, u15, u16, u17, u18, u19, u20, u21, rfl, ht, hB, pre, hX, hJ⟩
 have JJ := Keep.mk hJ
 have JX := Keep.mk hX
 have JB := Keep.mk hB
 clear hJ hX hB
 by_cases htl : t < H.length
 ·have htl' : (t : Int) < (H.length : Int) := by omega
  have ht0 : (0 : Int) ≤ (t : Int) := by omega
  have hwt : IntKind.i64.wrap ((t : Int) + 1) = ((t + 1 : Nat) : Int) := by rw [IntKind.wrap_i64]; have := HR.out.n; omega
  obtain ⟨sb, so, hsa, hrg⟩ := esl_range (HR.out.sl.below JB.out) htl
  subst hsa
  have HRg : Keep (wr.rangeAt sb (so + t * 36) (entA H[t].1.id.f H[t].1.N.au H[t].1.N.ck H[t].2.1 H[t].2.2).toList) := ⟨hrg⟩
  clear hrg
  refine wp_seq_k fun K2 hK2 => rgn ?_
  refine VbT ?_
  refine WL.nil (hK2 _ _ ?_)
  refine wp_seq_k fun K3 hK3 => ?_
  refine wp_cond_true rfl ?_
  refine wp_skip ?_
  refine hK3 _ _ ?_
  refine wp_seq_k fun K4 hK4 => ?_
  refine wp_block ?_
  refine wp_seq_k fun K5 hK5 => rgn ?_
  refine VlS (.int .i64 (t : Int)) ?_
  refine VlS (.pointer (some ⟨sb, so + t * 36, none⟩)) ?_
  refine WL.midA (by kernel_rfl) 52 (.tmp 13) rfl sb (so + t * 36) rfl (entA H[t].1.id.f H[t].1.N.au H[t].1.N.ck H[t].2.1 H[t].2.2) _ HRg.out Tryz.underlying52 rfl (sizeE _ _ _ _ _) ?_
  simp only [Act.put, pqA, pqB, pqC]
  refine WL.new (by kernel_rfl) 52 rfl (entA (fun _ => 0) 0 0 (.slice none 0 0) (.slice none 0 0)) Tryz.new52 ?_
  obtain ⟨wb2, hwn⟩ : ∃ wx, Keep (wx = wr.alloc (.cells (entA (fun _ => 0) 0 0 (.slice none 0 0) (.slice none 0 0)) 52)) := ⟨_, ⟨rfl⟩⟩
  rw [← hwn.out]
  have HZ : Keep (Blk wb2 wr.heap.size 52 (entA (fun _ => 0) 0 0 (.slice none 0 0) (.slice none 0 0))) := ⟨by rw [hwn.out]; exact Blk.new _ _ _⟩
  have LB : Keep (Below wr.heap.size wr wb2) := ⟨by rw [hwn.out]; exact below_new _ _⟩
  clear hwn
  simp only [Act.put, pqA, pqB, pqC]
  refine VlS (.int .i64 (t : Int)) ?_
  refine WL.storeR (by kernel_rfl) 52 (.tmp 4) (.tmp 14) rfl wr.heap.size (entA H[t].1.id.f H[t].1.N.au H[t].1.N.ck H[t].2.1 H[t].2.2) rfl rfl 52 _ HZ.out (sizeE _ _ _ _ _) (by rw [entA_size, entA_size]) (entA_one _ _ _ _ _ (by obtain ⟨a, c, e⟩ := (HR.out.nd _ (List.getElem_mem htl)).ps.form; exact (congrArg Value.oneCell' e).trans rfl) (by obtain ⟨a, c, e⟩ := (HR.out.nd _ (List.getElem_mem htl)).ops.form; exact (congrArg Value.oneCell' e).trans rfl)) ?_
  have HX := Keep.mk (HZ.out.setRow (entA H[t].1.id.f H[t].1.N.au H[t].1.N.ck H[t].2.1 H[t].2.2))
  have LX : Keep (Below wr.heap.size wr (wb2.setRow wr.heap.size (entA H[t].1.id.f H[t].1.N.au H[t].1.N.ck H[t].2.1 H[t].2.2))) := ⟨below_setRow LB.out (Nat.le_refl _) _⟩
  have JJx : Keep (J pre (wb2.setRow wr.heap.size (entA H[t].1.id.f H[t].1.N.au H[t].1.N.ck H[t].2.1 H[t].2.2))) := ⟨abides_below HJ.out JJ.out LX.out⟩
  generalize wb2.setRow wr.heap.size (entA H[t].1.id.f H[t].1.N.au H[t].1.N.ck H[t].2.1 H[t].2.2) = wx at *
  clear HZ LB HRg
  have JBx := Keep.mk (belowC JB.out LX.out)
  generalize wr.heap.size = g at *
  simp only [Act.put]
  refine WL.nil (hK5 _ _ ?_)
  refine wp_seq_k fun K6 hK6 => ?_
  refine (wpIn_wide (n := n)).1 ?_
  refine wpIn_region_list (WI.out ?_)
  refine WI.val (by kernel_rfl) (fun c e => by cases e) (.func (.yield l) #[] #[]) (by go_simp) ?_
  simp only [Act.put, pqA, pqB, pqC]
  refine WI.val (by kernel_rfl) (fun c e => by cases e) (.int .i64 (t : Int)) (by go_simp) ?_
  simp only [Act.put, pqA, pqB, pqC]
  refine WI.midA (by kernel_rfl) 52 (.tmp 4) rfl g 0 rfl (entA H[t].1.id.f H[t].1.N.au H[t].1.N.ck H[t].2.1 H[t].2.2) _ (blk_range HX.out) Tryz.underlying52 rfl (sizeE _ _ _ _ _) ?_
  simp only [Act.put, pqA, pqB, pqC]
  refine WI.callF (by kernel_rfl) 36 _ _ rfl Tryz.in36 #[.agg (entA H[t].1.id.f H[t].1.N.au H[t].1.N.ck H[t].2.1 H[t].2.2)] (by simp [Act.eval]) ?_
  refine (own_ent H[t].1 H[t].2.1 H[t].2.2 wx ((HR.out.nd _ (List.getElem_mem htl)).below JBx.out) (by have := (ck_ok (HR.out.ok _ (List.getElem_mem htl))).2.2; omega) (by have := ops_ok (HR.out.ok _ (List.getElem_mem htl)); omega)).mono ?_
  rintro e wy ⟨p', q', rfl, hfe⟩
  refine ⟨_, rfl, ?_⟩
  have HFe := Keep.mk (hfe.early JBx.out)
  have JBy := Keep.mk (belowC JBx.out hfe.bel)
  have JJy : Keep (J pre wy) := ⟨abides_below HJ.out JJx.out hfe.bel⟩
  clear hfe
  simp only [Act.put, pqA, pqB, pqC]
  refine WI.yield (by kernel_rfl) l (.tmp 15) _ _ rfl rfl (encN (t, (H[t].1, (p', q')))) (by simp [Act.eval, encN]) (hY pre (t, (H[t].1, (p', q'))) wy JJy.out ⟨by rw [exs_get? H t htl], HFe.out⟩ (by have h := congrArg List.length JX.out; simp at h; omega)) ?_
  rintro e wz ⟨rfl, hJz, hKz, -⟩
  refine ⟨_, rfl, ?_⟩
  simp only [Act.put, pqA, pqB, pqC]
  refine WI.val (by kernel_rfl) (fun c e => by cases e) (.bool false) (by go_simp) ?_
  simp only [Act.put, pqA, pqB, pqC]
  refine WI.nil ?_
  refine hK6 _ _ ?_
  refine wp_cond_false rfl ?_
  refine wp_skip ?_
  refine hK4 _ _ ?_
  refine rgn ?_
  refine VlS (.int .i64 ((t + 1 : Nat) : Int)) ?_
  refine VlS (.int .i64 ((t + 1 : Nat) : Int)) ?_
  refine WL.nil ?_
  refine ⟨⟨t + 1, .int .i64 (t : Int), .pointer (some ⟨g, 0, none⟩), .bool true, .int .i64 (t : Int), .pointer (some ⟨sb, so + t * 36, none⟩), .agg (entA H[t].1.id.f H[t].1.N.au H[t].1.N.ck H[t].2.1 H[t].2.2), .func (.yield l) #[] #[], .int .i64 (t : Int), .agg (entA H[t].1.id.f H[t].1.N.au H[t].1.N.ck H[t].2.1 H[t].2.2), .agg (entA H[t].1.id.f H[t].1.N.au H[t].1.N.ck p' q'), .bool true, .bool false, .int .i64 ((t + 1 : Nat) : Int), rfl, by omega, JBy.out.trans hKz, pre ++ [(t, (H[t].1, (p', q')))], ?_, hJz⟩, by simp [intOf]; omega⟩
  rw [List.map_append, JX.out, List.range_succ]; rfl
 ·have hte : t = H.length := by omega
  subst hte
  refine wp_seq_k fun K7 hK7 => rgn ?_
  refine VbF ?_
  refine WL.nil (hK7 _ _ ?_)
  refine wp_seq_k fun K8 hK8 => ?_
  refine wp_cond_false rfl ?_
  refine wp_exit ?_
  simp only [Exit.inBlock, Exit.then, eq_self, if_true]
  go_end0
  exact ⟨⟨_, rfl⟩, pre, JX.out, JJ.out⟩
end Go.Proofs.YthlohkgdmfkpeaaGreat
