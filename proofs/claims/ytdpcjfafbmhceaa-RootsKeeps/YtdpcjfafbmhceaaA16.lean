import Derived.Test.YtdpcjfafbmhceaaA15
import Derived.Test.YtdpcjfafbmhceaaA05
import Derived.Test.YtdpcjfafbmhceaaA13
import Derived.Deep.RegionHeld3
set_option maxRecDepth 8000
set_option maxHeartbeats 4000000
namespace Go.Proofs.Ytdpcjfafbmhceaa
open Go.RowKit
set_option linter.unusedSimpArgs false
set_option linter.unusedVariables false
theorem DK (m : Int) (w : World) : (Instr.buildSlice 52 1 #[(0, .agg (qb 32 (mkF m)))]).run Try.prog w = .ok (.slice (some ⟨w.heap.size, 0, none⟩) 1 1) (w.alloc (.cells (qb 32 (mkF m)) 32)) := by kernel_rfl
theorem QW : (Try.prog.info? 32).map (fun i => (i.zero, i.size, i.bytes)) = some (some (.agg (qb 32 fun _ => 0)), 32, 32) := by kernel_rfl
theorem QI (f : Nat → Int) : (Try.prog.info? 32).map (·.size) = some (qb 32 f).size := by rw [qB]; kernel_rfl
def lfN (m : Int) : Array Value := #[.int .i64 m, .int .i64 0, .string ByteArray.empty, .slice none 0 0, .slice none 0 0]
theorem Up (m : Int) : Try.prog.built 54 [(0, .int .i64 m)] = some (lfN m) := by kernel_rfl
theorem Dj (m : Int) (w : World) : (Instr.buildSlice 23 1 #[(0, .agg (lfN m))]).run Try.prog w = .ok (.slice (some ⟨w.heap.size, 0, none⟩) 1 1) (w.alloc (.cells (lfN m) 54)) := by kernel_rfl
theorem DE (m : Int) (w : World) : (Op.equalIn 10000 32 (.agg (qb 32 (mkF m))) (.agg (qb 32 (mkF m)))).run Try.prog w = .ok true w := by
 rw [jC]
 congr 1
 rw [List.all_eq_true]
 intro i _
 simp
theorem xk {w : World} {B T s n : Nat} {v : Value} {xs : List Value} (h : w.ownsRow B T s v n xs) (hn : 0 < n) : ∃ g cap, v = .slice (some ⟨g, 0, none⟩) n cap ∧ v.ownBlock = some g := by
 rcases h.2 with ⟨_, h0⟩ | ⟨g, cap, cur, h1, _⟩
 ·omega
 ·exact ⟨g, cap, h1, by rw [h1]; rfl⟩
theorem Yf (B : Nat) (v : Value) (ls : List LV) (N : Int) (w : World) (hW : WtN w B v ls) (hBw : B ≤ w.heap.size) (h200 : ls.length ≤ 200) (hln : ∀ x ∈ ls, x.c.l.length ≤ 134217728 ∧ x.ps.length ≤ 10000000) : Calls Try.prog 12 #[.agg (wtA N v)] w fun e w' => e = .returned (.bool true) ∧ Grown w w' (spS v ls) := by
 obtain ⟨n, hm⟩ : ∃ z, Keep (ls.length = z) := ⟨_, ⟨rfl⟩⟩
 obtain ⟨la, lc, hv⟩ := qE hW.own
 rw [hm.o] at hv
 subst hv
 have HW := kk hW
 have HLn := kk hln
 have HBw : Keep (B ≤ w.heap.size) := ⟨hBw⟩
 have hn200 : Keep (n ≤ 200) := ⟨by rw [← hm.o]; exact h200⟩
 clear hW h200 hln
 go_enter Try.func12, Try.ntmps12
 refine wp_seq_k fun K1 hK1 => rgn (xM 25 (.tmp 0) (wtA N (.slice la n lc)) fun b1 w1 hb1 Hb1 B1 => ?_)
 refine Vf (h:=WL.nil (hK1 _ _ (wp_seq_k fun K2 hK2 => rgn (?_))))
 refine WL.bld (by kernel_rfl) 50 _ rfl [] (by simp) #[.slice none 0 0, .slice none 0 0, .int .i64 0, .bool false] Ur ?_
 simp only [Act.put, pqA, pqB, pqC]
 refine WL.box (by kernel_rfl) 50 (.tmp 17) rfl #[.slice none 0 0, .slice none 0 0, .int .i64 0, .bool false] rfl ?_
 have hbk := kk (fun F => Qi w1 F)
 have b_ := qg w1 (.cells #[.slice none 0 0, .slice none 0 0, .int .i64 0, .bool false] 50)
 have hsz : Keep ((w1.alloc (.cells #[.slice none 0 0, .slice none 0 0, .int .i64 0, .bool false] 50)).heap.size = w1.heap.size + 1) := ⟨by simp⟩
 generalize w1.alloc (.cells #[.slice none 0 0, .slice none 0 0, .int .i64 0, .bool false] 50) = w2 at *
 obtain ⟨kb, hkb⟩ := nm w1
 rw [← hkb.o] at hbk ⊢
 obtain ⟨lo, hlo⟩ := nm w2
 have B2 := tb B1 b_
 have HS : Keep (Sep w (.slice la n lc) ls b1 kb lo) := ⟨HW.o.sep ⟨by rw [hb1.o]; exact Nat.le_refl _, by have h1 := hb1.o; have h2 := hlo.o; have h3 := hsz.o; have h4 := B1.o.size; omega⟩ ⟨by rw [hkb.o]; exact B1.o.size, by have h1 := hkb.o; have h2 := hlo.o; have h3 := hsz.o; omega, by have h1 := hkb.o; have h2 := hb1.o; have h3 := Hb1.o.lt; omega⟩⟩
 have HP0 : Keep (P1 B w (.slice la n lc) ls b1 kb lo N (0) (0) (ls.length) w2) := ⟨⟨Grown.below B2.o, Hb1.o.below b_ Hb1.o.lt, by rw [hlo.o]; exact Nat.le_refl _, hbk.o _, by rw [hm.o]; exact qj (by have h := HW.o.own; rw [hm.o] at h; exact h) B2.o, fun j x hx _ => qj (HW.o.rows x (List.mem_of_getElem? hx)).1 B2.o, fun j x hx _ => by
  rw [if_neg (by omega)]
  exact qj (HW.o.rows x (List.mem_of_getElem? hx)).2 B2.o⟩⟩
 clear b_ hbk hsz hb1 hkb Hb1 B1
 simp only [Act.put, pqA, pqB, pqC]
 refine Vv (.pointer (some ⟨kb, 0, none⟩)) (h:=WL.nil (hK2 _ _ (wp_seq_k fun K3 hK3 => wp_seq_k fun K4 hK4 => rgn (Vv (.int .i64 0) (h:=WL.nil (hK4 _ _ (wp_block (?_))))))))
 refine wp_loop (fun ac wr => ∃ (t : Nat) (u5 u6 u19 u20 u21 u22 u23 u24 u25 u26 u27 u28 u29 u30 u31 u32 u33 u34 u35 u36 u37 u38 u39 u40 u41 u42 u43 u44 u45 u46 u47 u48 u49 u50 u51 u52 u53 : Value), ac = { tmps := #[.agg (wtA N (.slice la n lc)), .pointer (some ⟨b1, 0, none⟩), .bool false, .pointer (some ⟨kb, 0, none⟩), .int .i64 (t : Int), u5, u6, undef, undef, undef, undef, undef, undef, undef, undef, undef, undef, .agg #[.slice none 0 0, .slice none 0 0, .int .i64 0, .bool false], .pointer (some ⟨kb, 0, none⟩), u19, u20, u21, u22, u23, u24, u25, u26, u27, u28, u29, u30, u31, u32, u33, u34, u35, u36, u37, u38, u39, u40, u41, u42, u43, u44, u45, u46, u47, u48, u49, u50, u51, u52, u53, undef, undef, undef, undef, undef, undef, undef, undef, undef, undef, undef, undef, undef, undef, undef, undef, undef, undef, undef, undef, undef, undef, undef, undef, undef, undef, undef, undef, undef, undef, undef, undef, undef, undef, undef, undef, undef, undef, undef, undef, undef, undef, undef, undef, undef, undef, undef, undef, undef, undef, undef, undef, undef, undef, undef, undef, undef, undef, undef, undef, undef, undef, undef, undef, undef, undef, undef, undef, undef, undef, undef, undef, undef, undef], defers := [] } ∧ t ≤ n ∧ P1 B w (.slice la n lc) ls b1 kb lo N (t) (t) (ls.length) wr) (fun a _ => n - (intOf (a.tmps.getD 4 undef)).toNat) ⟨0, undef, undef, undef, undef, undef, undef, undef, undef, undef, undef, undef, undef, undef, undef, undef, undef, undef, undef, undef, undef, undef, undef, undef, undef, undef, undef, undef, undef, undef, undef, undef, undef, undef, undef, undef, undef, undef, rfl, Nat.zero_le _, HP0.o⟩ ?_
 rintro ac wr ⟨t, u5, u6, u19, u20, u21, u22, u23, u24, u25, u26, u27, u28, u29, u30, u31, u32, u33, u34, u35, u36, u37, u38, u39, u40, u41, u42, u43, u44, u45, u46, u47, u48, u49, u50, u51, u52, u53, rfl, ht, hp⟩
 have JP := kk hp
 clear hp
 by_cases htl : t < n
 ·have htl' : (t : Int) < (n : Int) := by omega
  obtain ⟨x, Hx⟩ : ∃ z, Keep (ls[t]? = some z) := ⟨ls[t]'(by rw [hm.o]; exact htl), ⟨List.getElem?_eq_getElem _⟩⟩
  have hxm := kk (List.mem_of_getElem? Hx.o)
  have HLx := kk (HLn.o x hxm.o)
  obtain ⟨g, hla⟩ : ∃ g, la = some ⟨g, 0, none⟩ := by
   obtain ⟨g, c_, e, _⟩ := xk HW.o.own (by rw [hm.o]; omega)
   injection e with e1 _ _
   exact ⟨g, e1⟩
  have hw3 : IntKind.i64.wrap ((t : Int) + 1) = ((t + 1 : Nat) : Int) := by rw [IntKind.wrap_i64]; have := hn200.o; omega
  subst hla
  have cB : wr.cell? ⟨b1, 1, none⟩ = some (.slice (some ⟨g, 0, none⟩) n lc) := JP.o.bx.c 1 rfl
  have hfo : wr.ownsRow B 54 5 (.slice (some ⟨g, 0, none⟩) n lc) n (ls.flatMap fun x => (lvA x).toList) := by have h := JP.o.own; rw [hm.o] at h; exact h
  have cC := (vH hfo Hx.o htl).1
  clear hfo
  obtain ⟨va, vc, hvv⟩ := qE (JP.o.val t x Hx.o (Nat.le_refl _))
  have hvb : OwnT wr (.slice va x.c.l.length vc) x.c.l := by rw [← hvv]; exact (JP.o.val t x Hx.o (Nat.le_refl _)).tail
  rw [hvv] at cC
  refine wp_seq_k fun K5 hK5 => wp_seq_k fun K6 hK6 => rgn (Vv (.int .i64 (t : Int)) (h:=Vv (.pointer (some ⟨b1, 1, none⟩)) (h:=Vv (.slice (some ⟨g, 0, none⟩) n lc) (h:=Vv (.int .i64 (n : Int)) (h:=Vt (h:=WL.nil (hK6 _ _ (Ct (h:=wp_skip (hK5 _ _ (wp_seq_k fun K7 hK7 => wp_block (wp_seq_k fun K8 hK8 => rgn (Vv (.pointer (some ⟨kb, 0, none⟩)) (h:=?_))))))))))))))
  refine Vv (.pointer (some ⟨b1, 1, none⟩)) (h:=Vv (.slice (some ⟨g, 0, none⟩) n lc) (h:=Vv (.int .i64 (t : Int)) (h:=Vv (.pointer (some ⟨g, t * 5, none⟩)) (h:=Vv (.pointer (some ⟨g, t * 5 + 1, none⟩)) (h:=Vv (.pointer (some ⟨g, t * 5 + 3, none⟩)) (h:=Vv (.slice va x.c.l.length vc) (h:=?_)))))))
  clear cB cC
  refine WL.callF (by kernel_rfl) 16 _ _ rfl Qx #[.pointer (some ⟨kb, 0, none⟩), .slice va x.c.l.length vc] (by simp [Act.eval]) ?_
  refine (Qj JP.o.bk HS.o.off hvb (fun k hk => HS.o.sepv Hx.o k (by rw [hvv]; exact hk)) (by have := HLx.o.1; omega)).mono ?_
  rintro e w3 hA
  refine ⟨_, hA.1, ?_⟩
  have he := hA.1
  have JA : Keep (P1 B w (.slice (some ⟨g, 0, none⟩) n lc) ls b1 kb lo N (t + 1) (t) (ls.length) w3) := ⟨JP.o.add HS.o Hx.o (by rw [hvv]; exact hA)⟩
  clear hA hvb
  obtain ⟨qa, qc, hqv⟩ := qE (JA.o.pth t x Hx.o (by have := (List.getElem?_eq_some_iff.mp Hx.o).1; omega))
  have cB : w3.cell? ⟨b1, 1, none⟩ = some (.slice (some ⟨g, 0, none⟩) n lc) := JA.o.bx.c 1 rfl
  have hfo : w3.ownsRow B 54 5 (.slice (some ⟨g, 0, none⟩) n lc) n (ls.flatMap fun x => (lvA x).toList) := by have h := JA.o.own; rw [hm.o] at h; exact h
  have cC := (vH hfo Hx.o htl).2
  rw [hqv] at cC
  clear hfo
  simp only [Act.put, pqA, pqB, pqC]
  refine WL.nil (hK8 _ _ (wp_seq_k fun K9 hK9 => rgn (Vv (.pointer (some ⟨b1, 1, none⟩)) (h:=Vv (.slice (some ⟨g, 0, none⟩) n lc) (h:=Vv (.int .i64 (t : Int)) (h:=Vv (.pointer (some ⟨g, t * 5, none⟩)) (h:=Vv (.pointer (some ⟨g, t * 5 + 4, none⟩)) (h:=Vv (.slice qa x.ps.length qc) (h:=Vv (.slice qa x.ps.length qc) (h:=WL.nil (hK9 _ _ (wp_seq_k fun K10 hK10 => rgn (Vv (.int .i64 0) (h:=WL.nil (hK10 _ _ (wp_block (?_)))))))))))))))))
  refine wp_loop (fun ac wr => ∃ (u : Nat) (y41 y42 y43 y44 y45 y46 y47 y48 y49 y50 y51 y52 y53 : Value), ac = { tmps := #[.agg (wtA N (.slice (some ⟨g, 0, none⟩) n lc)), .pointer (some ⟨b1, 0, none⟩), .bool false, .pointer (some ⟨kb, 0, none⟩), .int .i64 (t : Int), .slice qa x.ps.length qc, .int .i64 (u : Int), undef, undef, undef, undef, undef, undef, undef, undef, undef, undef, .agg #[.slice none 0 0, .slice none 0 0, .int .i64 0, .bool false], .pointer (some ⟨kb, 0, none⟩), .int .i64 (t : Int), .pointer (some ⟨b1, 1, none⟩), .slice (some ⟨g, 0, none⟩) n lc, .int .i64 (n : Int), .bool true, u24, u25, .pointer (some ⟨kb, 0, none⟩), .pointer (some ⟨b1, 1, none⟩), .slice (some ⟨g, 0, none⟩) n lc, .int .i64 (t : Int), .pointer (some ⟨g, t * 5, none⟩), .pointer (some ⟨g, t * 5 + 1, none⟩), .pointer (some ⟨g, t * 5 + 3, none⟩), .slice va x.c.l.length vc, .tuple #[], .pointer (some ⟨b1, 1, none⟩), .slice (some ⟨g, 0, none⟩) n lc, .int .i64 (t : Int), .pointer (some ⟨g, t * 5, none⟩), .pointer (some ⟨g, t * 5 + 4, none⟩), .slice qa x.ps.length qc, y41, y42, y43, y44, y45, y46, y47, y48, y49, y50, y51, y52, y53, undef, undef, undef, undef, undef, undef, undef, undef, undef, undef, undef, undef, undef, undef, undef, undef, undef, undef, undef, undef, undef, undef, undef, undef, undef, undef, undef, undef, undef, undef, undef, undef, undef, undef, undef, undef, undef, undef, undef, undef, undef, undef, undef, undef, undef, undef, undef, undef, undef, undef, undef, undef, undef, undef, undef, undef, undef, undef, undef, undef, undef, undef, undef, undef, undef, undef, undef, undef, undef, undef, undef, undef, undef, undef], defers := [] } ∧ u ≤ x.ps.length ∧ ∃ xs, P1 B w (.slice (some ⟨g, 0, none⟩) n lc) ls b1 kb lo N (t + 1) (t) (t) wr ∧ wr.ownsRow B 32 32 (.slice qa x.ps.length qc) x.ps.length xs ∧ xs.take (u * 32) = yy ((t + 1 : Nat) : Int) u) (fun a _ => x.ps.length - (intOf (a.tmps.getD 6 undef)).toNat) ⟨0, u41, u42, u43, u44, u45, u46, u47, u48, u49, u50, u51, u52, u53, rfl, Nat.zero_le _, _, ⟨JA.o.gr, JA.o.bx, JA.o.lw, JA.o.bk, JA.o.own, JA.o.val, fun j y hy hj => JA.o.pth j y hy (by have := (List.getElem?_eq_some_iff.mp hy).1; omega)⟩, (by have h := JA.o.pth t x Hx.o (by have := (List.getElem?_eq_some_iff.mp Hx.o).1; omega); rw [hqv] at h; exact h), rfl⟩ ?_
  rintro ac wr ⟨u, y41, y42, y43, y44, y45, y46, y47, y48, y49, y50, y51, y52, y53, rfl, hu, hrel⟩
  obtain ⟨xs, hp, hx1, hx2⟩ := hrel
  have JQ := kk hp
  have JX := kk hx1
  have JT := kk hx2
  clear hp hx1 hx2
  by_cases hul : u < x.ps.length
  ·have hul' : (u : Int) < (x.ps.length : Int) := by omega
   have hw5 : IntKind.i64.wrap ((u : Int) + 1) = ((u + 1 : Nat) : Int) := by rw [IntKind.wrap_i64]; have := HLx.o.2; omega
   have hw6 : IntKind.u8.wrap ((t + 1 : Nat) : Int) = ((t + 1 : Nat) : Int) := by rw [IntKind.wrap_u8]; have := hn200.o; omega
   have hw7 : IntKind.u8.wrap ((t : Int) + 1) = ((t + 1 : Nat) : Int) := by rw [IntKind.wrap_u8]; have := hn200.o; omega
   obtain ⟨gq, qc', hq1, hq2⟩ := xk JX.o (Nat.lt_of_le_of_lt (Nat.zero_le _) hul)
   obtain ⟨rfl, rfl⟩ : qa = some ⟨gq, 0, none⟩ ∧ qc = qc' := by injection hq1 with e1 e2 e3; exact ⟨e1, e3⟩
   obtain ⟨cur, hcu, hfit, hnw⟩ := Yu JX.o (qb 32 (mkF ((t + 1 : Nat) : Int))).toList (by rw [Array.length_toList, qB]) hul
   refine wp_seq_k fun K11 hK11 => wp_seq_k fun K12 hK12 => rgn (Vv (.int .i64 (u : Int)) (h:=Vv (.slice (some ⟨gq, 0, none⟩) x.ps.length qc) (h:=Vv (.int .i64 (x.ps.length : Int)) (h:=Vt (h:=WL.nil (hK12 _ _ (Ct (h:=wp_skip (hK11 _ _ (wp_seq_k fun K13 hK13 => wp_block (rgn (Vv (.slice (some ⟨gq, 0, none⟩) x.ps.length qc) (h:=Vv (.int .i64 (u : Int)) (h:=?_))))))))))))))
   refine Vv (.int .i64 (t : Int)) (h:=Vv (.int .i64 ((t + 1 : Nat) : Int)) (h:=Vv (.int .u8 ((t + 1 : Nat) : Int)) (h:=?_)))
   refine WL.bld (by kernel_rfl) 32 _ rfl [(0, .int .u8 ((t + 1 : Nat) : Int))] (by simp [Act.eval]) (qb 32 (mkF ((t + 1 : Nat) : Int))) (Xk _) ?_
   simp only [Act.put, pqA, pqB, pqC]
   refine VlS (.pointer (some ⟨gq, u * 32, none⟩)) ?_
   refine WL.part (by kernel_rfl) 32 (.tmp 53) (.tmp 52) rfl gq (u * 32) (qb 32 (mkF ((t + 1 : Nat) : Int))) rfl rfl 32 cur hcu (QI _) (by rw [qB]; exact hfit) (qi _ _) _ rfl ?_
   rw [qB]
   have g_ : Grown wr (wr.setRow gq (cur.toList.take (u * 32) ++ (qb 32 (mkF ((t + 1 : Nat) : Int))).toList ++ cur.toList.drop (u * 32 + 32)).toArray) (fun k => k = gq) := Grown.setRow wr gq _ fun _ => rfl
   have JQ2 := kk (JQ.o.row HS.o Hx.o (by rw [hqv]; exact hq2) g_)
   have JX2 := kk hnw
   have JT2 : Keep ((xs.take (u * 32) ++ (qb 32 (mkF ((t + 1 : Nat) : Int))).toList ++ xs.drop (u * 32 + 32)).take ((u + 1) * 32) = yy ((t + 1 : Nat) : Int) (u + 1)) := ⟨by
    have hl : (xs.take (u * 32) ++ (qb 32 (mkF ((t + 1 : Nat) : Int))).toList).length = (u + 1) * 32 := by rw [JT.o, List.length_append, jD, Array.length_toList, qB]; omega
    rw [List.take_append_of_le_length (by rw [hl]; exact Nat.le_refl _), List.take_of_length_le (by rw [hl]; exact Nat.le_refl _), JT.o]
    rfl⟩
   clear hnw g_ hcu hfit
   generalize wr.setRow gq (cur.toList.take (u * 32) ++ (qb 32 (mkF ((t + 1 : Nat) : Int))).toList ++ cur.toList.drop (u * 32 + 32)).toArray = wp at *
   simp only [Act.put]
   refine WL.nil (hK13 _ _ (rgn (Vv (.int .i64 (u : Int)) (h:=Vv (.int .i64 ((u + 1 : Nat) : Int)) (h:=Vv (.int .i64 ((u + 1 : Nat) : Int)) (h:=?_))))))
   refine WL.nil ?_
   refine ⟨⟨u + 1, .int .i64 (u : Int), .slice (some ⟨gq, 0, none⟩) x.ps.length qc, .int .i64 (x.ps.length : Int), .bool true, .int .i64 (u : Int), .int .i64 ((u + 1 : Nat) : Int), .slice (some ⟨gq, 0, none⟩) x.ps.length qc, .int .i64 (u : Int), .int .i64 (t : Int), .int .i64 ((t + 1 : Nat) : Int), .int .u8 ((t + 1 : Nat) : Int), .agg (qb 32 (mkF ((t + 1 : Nat) : Int))), .pointer (some ⟨gq, u * 32, none⟩), rfl, by omega, _, JQ2.o, JX2.o, JT2.o⟩, by simp [intOf]; omega⟩
  ·have hul' : ¬ (u : Int) < (x.ps.length : Int) := by omega
   have hue : u = x.ps.length := by omega
   subst hue
   have JN : Keep (P1 B w (.slice (some ⟨g, 0, none⟩) n lc) ls b1 kb lo N (t + 1) (t + 1) (ls.length) wr) := ⟨⟨JQ.o.gr, JQ.o.bx, JQ.o.lw, JQ.o.bk, JQ.o.own, JQ.o.val, fun j y hy _ => by
    by_cases hj : j = t
    ·subst hj
     rw [Hx.o] at hy
     cases hy
     rw [if_pos (by omega), hqv]
     have h1 := JT.o
     rw [List.take_of_length_le (by rw [JX.o.1]; exact Nat.le_refl _)] at h1
     rw [← h1]
     exact JX.o
    ·have h1 := JQ.o.pth j y hy hj
     by_cases hj2 : j < t
     ·rw [if_pos hj2] at h1
      rw [if_pos (by omega)]
      exact h1
     ·rw [if_neg hj2] at h1
      rw [if_neg (by omega)]
      exact h1⟩⟩
   refine wp_seq_k fun K14 hK14 => wp_seq_k fun K15 hK15 => rgn (Vv (.int .i64 (x.ps.length : Int)) (h:=Vv (.slice qa x.ps.length qc) (h:=Vv (.int .i64 (x.ps.length : Int)) (h:=Vf (h:=WL.nil (hK15 _ _ (Cf (h:=wp_exit (hK7 _ _ (rgn (Vv (.int .i64 (t : Int)) (h:=Vv (.int .i64 ((t + 1 : Nat) : Int)) (h:=Vv (.int .i64 ((t + 1 : Nat) : Int)) (h:=?_))))))))))))))
   refine WL.nil ?_
   refine ⟨⟨t + 1, .slice qa x.ps.length qc, .int .i64 (x.ps.length : Int), .int .i64 (t : Int), .pointer (some ⟨b1, 1, none⟩), .slice (some ⟨g, 0, none⟩) n lc, .int .i64 (n : Int), .bool true, .int .i64 (t : Int), .int .i64 ((t + 1 : Nat) : Int), .pointer (some ⟨kb, 0, none⟩), .pointer (some ⟨b1, 1, none⟩), .slice (some ⟨g, 0, none⟩) n lc, .int .i64 (t : Int), .pointer (some ⟨g, t * 5, none⟩), .pointer (some ⟨g, t * 5 + 1, none⟩), .pointer (some ⟨g, t * 5 + 3, none⟩), .slice va x.c.l.length vc, .tuple #[], .pointer (some ⟨b1, 1, none⟩), .slice (some ⟨g, 0, none⟩) n lc, .int .i64 (t : Int), .pointer (some ⟨g, t * 5, none⟩), .pointer (some ⟨g, t * 5 + 4, none⟩), .slice qa x.ps.length qc, .int .i64 (x.ps.length : Int), .slice qa x.ps.length qc, .int .i64 (x.ps.length : Int), .bool false, y45, y46, y47, y48, y49, y50, y51, y52, y53, rfl, by omega, JN.o⟩, by simp [intOf]; omega⟩
 ·have htl' : ¬ (t : Int) < (n : Int) := by omega
  have hte : n = t := by omega
  subst hte
  have J2 : Keep (P2 B w (.slice la n lc) ls b1 kb lo wr.heap.size N 0 ls.length wr) := ⟨(by have h := JP.o; rw [← hm.o] at h ⊢; exact h : P1 B w (.slice la n lc) ls b1 kb lo N ls.length ls.length ls.length wr).two⟩
  obtain ⟨hi, hhi⟩ := nn wr
  rw [← hhi] at J2
  clear hhi
  have cB : wr.cell? ⟨b1, 1, none⟩ = some (.slice la n lc) := JP.o.bx.c 1 rfl
  refine wp_seq_k fun K16 hK16 => wp_seq_k fun K17 hK17 => rgn (Vv (.int .i64 (n : Int)) (h:=Vv (.pointer (some ⟨b1, 1, none⟩)) (h:=Vv (.slice la n lc) (h:=Vv (.int .i64 (n : Int)) (h:=Vf (h:=WL.nil (hK17 _ _ (Cf (h:=wp_exit (hK3 _ _ (wp_seq_k fun K18 hK18 => wp_seq_k fun K19 hK19 => rgn (Vv (.int .i64 0) (h:=WL.nil (hK19 _ _ (wp_block (?_))))))))))))))))
  refine wp_loop (fun ac wr => ∃ (i : Nat) (a8 a9 a54 a55 a56 a57 a58 a59 a60 a61 a62 a63 a64 a65 a66 a67 a68 a69 a70 a71 a72 a73 a74 : Value), ac = { tmps := #[.agg (wtA N (.slice la n lc)), .pointer (some ⟨b1, 0, none⟩), .bool false, .pointer (some ⟨kb, 0, none⟩), .int .i64 (n : Int), u5, u6, .int .i64 (i : Int), a8, a9, undef, undef, undef, undef, undef, undef, undef, .agg #[.slice none 0 0, .slice none 0 0, .int .i64 0, .bool false], .pointer (some ⟨kb, 0, none⟩), .int .i64 (n : Int), .pointer (some ⟨b1, 1, none⟩), .slice la n lc, .int .i64 (n : Int), .bool false, u24, u25, u26, u27, u28, u29, u30, u31, u32, u33, u34, u35, u36, u37, u38, u39, u40, u41, u42, u43, u44, u45, u46, u47, u48, u49, u50, u51, u52, u53, a54, a55, a56, a57, a58, a59, a60, a61, a62, a63, a64, a65, a66, a67, a68, a69, a70, a71, a72, a73, a74, undef, undef, undef, undef, undef, undef, undef, undef, undef, undef, undef, undef, undef, undef, undef, undef, undef, undef, undef, undef, undef, undef, undef, undef, undef, undef, undef, undef, undef, undef, undef, undef, undef, undef, undef, undef, undef, undef, undef, undef, undef, undef, undef, undef, undef, undef, undef, undef, undef, undef, undef, undef, undef], defers := [] } ∧ i ≤ n ∧ P2 B w (.slice la n lc) ls b1 kb lo hi N (i) (ls.length) wr) (fun a _ => n - (intOf (a.tmps.getD 7 undef)).toNat) ⟨0, undef, undef, undef, undef, undef, undef, undef, undef, undef, undef, undef, undef, undef, undef, undef, undef, undef, undef, undef, undef, undef, undef, undef, rfl, Nat.zero_le _, J2.o⟩ ?_
  rintro ac wr ⟨i, a8, a9, a54, a55, a56, a57, a58, a59, a60, a61, a62, a63, a64, a65, a66, a67, a68, a69, a70, a71, a72, a73, a74, rfl, hi_, hp⟩
  have JP := kk hp
  clear hp
  by_cases hil : i < n
  ·have hil' : (i : Int) < (n : Int) := by omega
   obtain ⟨x, Hx⟩ : ∃ z, Keep (ls[i]? = some z) := ⟨ls[i]'(by rw [hm.o]; exact hil), ⟨List.getElem?_eq_getElem _⟩⟩
   have hxm := kk (List.mem_of_getElem? Hx.o)
   have HLx := kk (HLn.o x hxm.o)
   obtain ⟨g, hla⟩ : ∃ g, la = some ⟨g, 0, none⟩ := by
    obtain ⟨g, c_, e, _⟩ := xk HW.o.own (by rw [hm.o]; omega)
    injection e with e1 _ _
    exact ⟨g, e1⟩
   have hw3 : IntKind.i64.wrap ((i : Int) + 1) = ((i + 1 : Nat) : Int) := by rw [IntKind.wrap_i64]; have := hn200.o; omega
   subst hla
   have cB : wr.cell? ⟨b1, 1, none⟩ = some (.slice (some ⟨g, 0, none⟩) n lc) := JP.o.bx.c 1 rfl
   have hxl := (List.getElem?_eq_some_iff.mp Hx.o).1
   have hPv := JP.o.pt i x Hx.o (Nat.le_refl _) (by omega)
   obtain ⟨qa, qc, hqv⟩ := qE hPv
   rw [hqv] at hPv
   have hfo : wr.ownsRow B 54 5 (.slice (some ⟨g, 0, none⟩) n lc) n (ls.flatMap fun x => (lvA x).toList) := by have h := JP.o.own; rw [hm.o] at h; exact h
   have cC := (vH hfo Hx.o hil).2
   rw [hqv] at cC
   clear hfo
   have HPM0 : Keep (PM wr x.pv x.ps.length ((i + 1 : Nat) : Int)) := ⟨by
    by_cases h0 : x.ps.length = 0
    ·exact ⟨.inl h0⟩
    ·obtain ⟨g1, c1, e1, e2⟩ := xk hPv (by omega)
     exact VX (B := B) (k := 0) (ys := []) (q := x.pv) (by rw [hqv]; simpa using hPv) ⟨g1, c1, by rw [hqv]; exact e1, by rw [hqv]; exact e2⟩⟩
   have HPv := kk hPv
   clear hPv
   have JI : Keep (P2 B w (.slice (some ⟨g, 0, none⟩) n lc) ls b1 kb lo hi N (i) (i) wr) := ⟨⟨JP.o.gr, JP.o.bx, JP.o.lw, JP.o.bk, JP.o.own, JP.o.pm, fun j y hy h1 _ => JP.o.pt j y hy h1 (by have := (List.getElem?_eq_some_iff.mp hy).1; omega)⟩⟩
   refine wp_seq_k fun K20 hK20 => wp_seq_k fun K21 hK21 => rgn (Vv (.int .i64 (i : Int)) (h:=Vv (.pointer (some ⟨b1, 1, none⟩)) (h:=Vv (.slice (some ⟨g, 0, none⟩) n lc) (h:=Vv (.int .i64 (n : Int)) (h:=Vt (h:=WL.nil (hK21 _ _ (Ct (h:=wp_skip (hK20 _ _ (wp_seq_k fun K22 hK22 => wp_block (wp_seq_k fun K23 hK23 => rgn (Vv (.pointer (some ⟨b1, 1, none⟩)) (h:=?_))))))))))))))
   refine Vv (.slice (some ⟨g, 0, none⟩) n lc) (h:=Vv (.int .i64 (i : Int)) (h:=Vv (.pointer (some ⟨g, i * 5, none⟩)) (h:=Vv (.pointer (some ⟨g, i * 5 + 4, none⟩)) (h:=Vv (.slice qa x.ps.length qc) (h:=Vv (.slice qa x.ps.length qc) (h:=WL.nil (hK23 _ _ (wp_seq_k fun K24 hK24 => rgn (Vv (.int .i64 0) (h:=WL.nil (hK24 _ _ (wp_block (?_)))))))))))))
   refine wp_loop (fun ac wr => ∃ (u : Nat) (y67 y68 y69 y70 y71 y72 y73 y74 : Value) (q : Value), ac = { tmps := #[.agg (wtA N (.slice (some ⟨g, 0, none⟩) n lc)), .pointer (some ⟨b1, 0, none⟩), .bool false, .pointer (some ⟨kb, 0, none⟩), .int .i64 (n : Int), u5, u6, .int .i64 (i : Int), q, .int .i64 (u : Int), undef, undef, undef, undef, undef, undef, undef, .agg #[.slice none 0 0, .slice none 0 0, .int .i64 0, .bool false], .pointer (some ⟨kb, 0, none⟩), .int .i64 (n : Int), .pointer (some ⟨b1, 1, none⟩), .slice (some ⟨g, 0, none⟩) n lc, .int .i64 (n : Int), .bool false, u24, u25, u26, u27, u28, u29, u30, u31, u32, u33, u34, u35, u36, u37, u38, u39, u40, u41, u42, u43, u44, u45, u46, u47, u48, u49, u50, u51, u52, u53, .int .i64 (i : Int), .pointer (some ⟨b1, 1, none⟩), .slice (some ⟨g, 0, none⟩) n lc, .int .i64 (n : Int), .bool true, a59, a60, .pointer (some ⟨b1, 1, none⟩), .slice (some ⟨g, 0, none⟩) n lc, .int .i64 (i : Int), .pointer (some ⟨g, i * 5, none⟩), .pointer (some ⟨g, i * 5 + 4, none⟩), .slice qa x.ps.length qc, y67, y68, y69, y70, y71, y72, y73, y74, undef, undef, undef, undef, undef, undef, undef, undef, undef, undef, undef, undef, undef, undef, undef, undef, undef, undef, undef, undef, undef, undef, undef, undef, undef, undef, undef, undef, undef, undef, undef, undef, undef, undef, undef, undef, undef, undef, undef, undef, undef, undef, undef, undef, undef, undef, undef, undef, undef, undef, undef, undef, undef], defers := [] } ∧ u ≤ 20 ∧ ∃ ys, P2 B w (.slice (some ⟨g, 0, none⟩) n lc) ls b1 kb lo hi N (i) (i) wr ∧ wr.ownsRow B 32 32 q (x.ps.length + u) (yy ((i + 1 : Nat) : Int) x.ps.length ++ ys) ∧ (q.ownBlock = x.pv.ownBlock ∨ ∃ k, q.ownBlock = some k ∧ hi ≤ k) ∧ PM wr x.pv x.ps.length ((i + 1 : Nat) : Int)) (fun a _ => 20 - (intOf (a.tmps.getD 9 undef)).toNat) ⟨0, a67, a68, a69, a70, a71, a72, a73, a74, .slice qa x.ps.length qc, rfl, by decide, [], JI.o, (by simpa using HPv.o), .inl (by rw [hqv]), HPM0.o⟩ ?_
   rintro ac wr ⟨u, y67, y68, y69, y70, y71, y72, y73, y74, q, rfl, hu, hrel⟩
   obtain ⟨ys, h1, h2, h3, h4⟩ := hrel
   have JQ := kk h1
   have JX := kk h2
   have JO := kk h3
   have JM := kk h4
   clear h1 h2 h3 h4
   by_cases hul : u < 20
   ·have hul' : (u : Int) < 20 := by omega
    have hw5 : IntKind.i64.wrap ((u : Int) + 1) = ((u + 1 : Nat) : Int) := by rw [IntKind.wrap_i64]; omega
    obtain ⟨za, zc, hqz⟩ := qE JX.o
    refine wp_seq_k fun K25 hK25 => wp_seq_k fun K26 hK26 => rgn (Vv (.int .i64 (u : Int)) (h:=Vt (h:=WL.nil (hK26 _ _ (Ct (h:=wp_skip (hK25 _ _ (wp_seq_k fun K27 hK27 => wp_block (rgn (Vv (q) (h:=?_)))))))))))
    refine WL.bld (by kernel_rfl) 32 _ rfl [(0, .int .u8 238)] (by simp [Act.eval]) (qb 32 (mkF 238)) (Xk _) ?_
    simp only [Act.put, pqA, pqB, pqC]
    refine WL.bs (by kernel_rfl) 52 1 _ rfl #[(0, .agg (qb 32 (mkF 238)))] (by simp [Act.eval]) _ _ (DK 238 wr) ?_
    have bb := qg wr (.cells (qb 32 (mkF 238)) 32)
    have Qb := kk (Blk.new wr 32 (qb 32 (mkF 238)))
    generalize wr.alloc (.cells (qb 32 (mkF 238)) 32) = wa at *
    obtain ⟨gq, hgq⟩ := nn wr
    rw [← hgq] at Qb ⊢
    have JXa := kk (qj JX.o bb)
    have JMa := kk (JM.o.grown (gF bb) fun _ _ e => e)
    have JQa := kk (JQ.o.step HS.o Hx.o (gF bb) fun _ _ e => e.elim)
    have hBa : Keep (B ≤ wa.heap.size ∧ hi ≤ wa.heap.size) := ⟨by have h1 := HBw.o; have h2 := JQa.o.gr.size; have h3 := JQa.o.lw; omega⟩
    clear bb hgq
    simp only [Act.put, pqA, pqB, pqC]
    refine WL.appG2 (by kernel_rfl) 52 32 32 32 _ Try.underlying52 QW (by rfl) (by decide) (.tmp 71) (.tmp 73) rfl B q ⟨gq, 0, none⟩ (x.ps.length + u) 1 1 _ (qb 32 (mkF 238)).toList rfl rfl JXa.o (by rw [Array.length_toList, qB]) (fun j v hv => by rw [Addr.add_mid, Nat.zero_add]; exact Qb.o.c j (by rw [← Array.getElem?_toList]; exact hv)) (fun v hv => by have h3 := qi 32 (mkF 238); rw [← Array.all_toList, List.all_eq_true] at h3; exact h3 v hv) (by have := HLx.o.2; omega) (by decide) hBa.o.1 ?_
    intro q' wb k1 k2
    rw [List.append_assoc] at k1
    have JXb := kk k1
    have JE : Keep (P2 B w (.slice (some ⟨g, 0, none⟩) n lc) ls b1 kb lo hi N (i) (i) wb ∧ (q'.ownBlock = x.pv.ownBlock ∨ ∃ k, q'.ownBlock = some k ∧ hi ≤ k) ∧ PM wb x.pv x.ps.length ((i + 1 : Nat) : Int)) := ⟨by
     rcases k2 with ⟨e1, hg⟩ | ⟨e1, hg⟩
     ·refine ⟨JQa.o.step HS.o Hx.o hg fun k _ hk => ?_, ?_, ?_⟩
      ·rcases JO.o with h | ⟨k', h, h'⟩
       ·exact .inl (by rw [← h]; exact hk)
       ·rw [h] at hk; cases hk; exact .inr h'
      ·rw [e1]; exact JO.o
      ·rcases JO.o with h | ⟨k', h, h'⟩
       ·by_cases h0 : x.ps.length = 0
        ·exact ⟨.inl h0⟩
        ·obtain ⟨g1, c1, e3, e4⟩ := xk HPv.o (by omega)
         exact VX (B := B) (k := u + 1) (q := q') k1 ⟨g1, c1, by rw [hqv]; exact e3, by rw [e1, h, hqv]; exact e4⟩
       ·exact JMa.o.grown hg fun k hk e => by
         rw [h] at e
         cases e
         have h5 := HS.o.lp x hxm.o _ hk
         have h6 := HS.o.hkb
         have h7 := JQa.o.lw
         omega
     ·exact ⟨JQa.o.step HS.o Hx.o (gF hg) fun _ _ e => e.elim, .inr ⟨_, e1, hBa.o.2⟩, JMa.o.grown (gF hg) fun _ _ e => e⟩⟩
    clear k1 k2 JXa JMa JQa Qb
    simp only [Act.put, pqA, pqB, pqC]
    refine Vv (q') (h:=WL.nil (hK27 _ _ (rgn (Vv (.int .i64 (u : Int)) (h:=Vv (.int .i64 ((u + 1 : Nat) : Int)) (h:=Vv (.int .i64 ((u + 1 : Nat) : Int)) (h:=?_)))))))
    refine WL.nil ?_
    refine ⟨⟨u + 1, .int .i64 (u : Int), .bool true, .int .i64 (u : Int), .int .i64 ((u + 1 : Nat) : Int), q, .agg (qb 32 (mkF 238)), .slice (some ⟨gq, 0, none⟩) 1 1, q', q', rfl, by omega, _, JE.o.1, JXb.o, JE.o.2.1, JE.o.2.2⟩, by simp [intOf]; omega⟩
   ·have hul' : ¬ (u : Int) < 20 := by omega
    have JN : Keep (P2 B w (.slice (some ⟨g, 0, none⟩) n lc) ls b1 kb lo hi N (i + 1) (ls.length) wr) := ⟨⟨JQ.o.gr, JQ.o.bx, JQ.o.lw, JQ.o.bk, JQ.o.own, fun j y hy hj => by
     by_cases e : j = i
     ·subst e
      rw [Hx.o] at hy
      cases hy
      exact JM.o
     ·exact JQ.o.pm j y hy (by omega), fun j y hy hj _ => JQ.o.pt j y hy (by omega) (by omega)⟩⟩
    refine wp_seq_k fun K28 hK28 => wp_seq_k fun K29 hK29 => rgn (Vv (.int .i64 (u : Int)) (h:=Vf (h:=WL.nil (hK29 _ _ (Cf (h:=wp_exit (hK22 _ _ (rgn (Vv (.int .i64 (i : Int)) (h:=Vv (.int .i64 ((i + 1 : Nat) : Int)) (h:=Vv (.int .i64 ((i + 1 : Nat) : Int)) (h:=?_))))))))))))
    refine WL.nil ?_
    refine ⟨⟨i + 1, q, .int .i64 (u : Int), .int .i64 (i : Int), .pointer (some ⟨b1, 1, none⟩), .slice (some ⟨g, 0, none⟩) n lc, .int .i64 (n : Int), .bool true, .int .i64 (i : Int), .int .i64 ((i + 1 : Nat) : Int), .pointer (some ⟨b1, 1, none⟩), .slice (some ⟨g, 0, none⟩) n lc, .int .i64 (i : Int), .pointer (some ⟨g, i * 5, none⟩), .pointer (some ⟨g, i * 5 + 4, none⟩), .slice qa x.ps.length qc, .int .i64 (u : Int), .bool false, y69, y70, y71, y72, y73, y74, rfl, by omega, JN.o⟩, by simp [intOf]; omega⟩
  ·have hil' : ¬ (i : Int) < (n : Int) := by omega
   have hie : n = i := by omega
   subst hie
   have cB : wr.cell? ⟨b1, 1, none⟩ = some (.slice la n lc) := JP.o.bx.c 1 rfl
   obtain ⟨w3, hw3⟩ : ∃ z, z = wr := ⟨_, rfl⟩
   rw [← hw3] at JP cB ⊢
   clear hw3
   refine wp_seq_k fun K30 hK30 => wp_seq_k fun K31 hK31 => rgn (Vv (.int .i64 (n : Int)) (h:=Vv (.pointer (some ⟨b1, 1, none⟩)) (h:=Vv (.slice la n lc) (h:=Vv (.int .i64 (n : Int)) (h:=Vf (h:=WL.nil (hK31 _ _ (Cf (h:=wp_exit (hK18 _ _ (wp_seq_k fun K32 hK32 => wp_seq_k fun K33 hK33 => rgn (Vv (.int .i64 0) (h:=WL.nil (hK33 _ _ (wp_block (?_))))))))))))))))
   refine wp_loop (fun ac wr => ∃ (i : Nat) (a2 a11 a12 a75 a76 a77 a78 a79 a80 a81 a82 a83 a84 a85 a86 a87 a88 a89 a90 a91 a92 a93 a94 a95 a96 a97 a98 a99 a100 a101 a102 : Value), ac = { tmps := #[.agg (wtA N (.slice la n lc)), .pointer (some ⟨b1, 0, none⟩), a2, .pointer (some ⟨kb, 0, none⟩), .int .i64 (n : Int), u5, u6, .int .i64 (n : Int), a8, a9, .int .i64 (i : Int), a11, a12, undef, undef, undef, undef, .agg #[.slice none 0 0, .slice none 0 0, .int .i64 0, .bool false], .pointer (some ⟨kb, 0, none⟩), .int .i64 (n : Int), .pointer (some ⟨b1, 1, none⟩), .slice la n lc, .int .i64 (n : Int), .bool false, u24, u25, u26, u27, u28, u29, u30, u31, u32, u33, u34, u35, u36, u37, u38, u39, u40, u41, u42, u43, u44, u45, u46, u47, u48, u49, u50, u51, u52, u53, .int .i64 (n : Int), .pointer (some ⟨b1, 1, none⟩), .slice la n lc, .int .i64 (n : Int), .bool false, a59, a60, a61, a62, a63, a64, a65, a66, a67, a68, a69, a70, a71, a72, a73, a74, a75, a76, a77, a78, a79, a80, a81, a82, a83, a84, a85, a86, a87, a88, a89, a90, a91, a92, a93, a94, a95, a96, a97, a98, a99, a100, a101, a102, undef, undef, undef, undef, undef, undef, undef, undef, undef, undef, undef, undef, undef, undef, undef, undef, undef, undef, undef, undef, undef, undef, undef, undef, undef], defers := [] } ∧ i ≤ n ∧ w3 = wr) (fun a _ => n - (intOf (a.tmps.getD 10 undef)).toNat) ⟨0, .bool false, undef, undef, undef, undef, undef, undef, undef, undef, undef, undef, undef, undef, undef, undef, undef, undef, undef, undef, undef, undef, undef, undef, undef, undef, undef, undef, undef, undef, undef, undef, rfl, Nat.zero_le _, rfl⟩ ?_
   rintro ac wr ⟨i, a2, a11, a12, a75, a76, a77, a78, a79, a80, a81, a82, a83, a84, a85, a86, a87, a88, a89, a90, a91, a92, a93, a94, a95, a96, a97, a98, a99, a100, a101, a102, rfl, hi_, hw⟩
   subst hw
   by_cases hil : i < n
   ·have hil' : (i : Int) < (n : Int) := by omega
    obtain ⟨x, Hx⟩ : ∃ z, Keep (ls[i]? = some z) := ⟨ls[i]'(by rw [hm.o]; exact hil), ⟨List.getElem?_eq_getElem _⟩⟩
    have hxm := kk (List.mem_of_getElem? Hx.o)
    have HLx := kk (HLn.o x hxm.o)
    obtain ⟨g, hla⟩ : ∃ g, la = some ⟨g, 0, none⟩ := by
     obtain ⟨g, c_, e, _⟩ := xk HW.o.own (by rw [hm.o]; omega)
     injection e with e1 _ _
     exact ⟨g, e1⟩
    have hw3 : IntKind.i64.wrap ((i : Int) + 1) = ((i + 1 : Nat) : Int) := by rw [IntKind.wrap_i64]; have := hn200.o; omega
    subst hla
    have cB : w3.cell? ⟨b1, 1, none⟩ = some (.slice (some ⟨g, 0, none⟩) n lc) := JP.o.bx.c 1 rfl
    have hxl := (List.getElem?_eq_some_iff.mp Hx.o).1
    have HPm := kk (JP.o.pm i x Hx.o hil)
    have hfo : w3.ownsRow B 54 5 (.slice (some ⟨g, 0, none⟩) n lc) n (ls.flatMap fun x => (lvA x).toList) := by have h := JP.o.own; rw [hm.o] at h; exact h
    have cC := (vH hfo Hx.o hil).2
    obtain ⟨qa, qc, hqv⟩ := qE (HW.o.rows x hxm.o).2
    rw [hqv] at cC HPm
    clear hfo
    refine wp_seq_k fun K34 hK34 => wp_seq_k fun K35 hK35 => rgn (Vv (.int .i64 (i : Int)) (h:=Vv (.pointer (some ⟨b1, 1, none⟩)) (h:=Vv (.slice (some ⟨g, 0, none⟩) n lc) (h:=Vv (.int .i64 (n : Int)) (h:=Vt (h:=WL.nil (hK35 _ _ (Ct (h:=wp_skip (hK34 _ _ (wp_seq_k fun K36 hK36 => wp_block (wp_seq_k fun K37 hK37 => rgn (Vv (.pointer (some ⟨b1, 1, none⟩)) (h:=?_))))))))))))))
    refine Vv (.slice (some ⟨g, 0, none⟩) n lc) (h:=Vv (.int .i64 (i : Int)) (h:=Vv (.pointer (some ⟨g, i * 5, none⟩)) (h:=Vv (.pointer (some ⟨g, i * 5 + 4, none⟩)) (h:=Vv (.slice qa x.ps.length qc) (h:=Vv (.slice qa x.ps.length qc) (h:=WL.nil (hK37 _ _ (wp_seq_k fun K38 hK38 => rgn (Vv (.int .i64 0) (h:=WL.nil (hK38 _ _ (wp_block (?_)))))))))))))
    refine wp_loop (fun ac wx => ∃ (u : Nat) (y2 y88 y89 y90 y91 y92 y93 y94 y95 y96 y97 y98 y99 y100 y101 y102 : Value), ac = { tmps := #[.agg (wtA N (.slice (some ⟨g, 0, none⟩) n lc)), .pointer (some ⟨b1, 0, none⟩), y2, .pointer (some ⟨kb, 0, none⟩), .int .i64 (n : Int), u5, u6, .int .i64 (n : Int), a8, a9, .int .i64 (i : Int), .slice qa x.ps.length qc, .int .i64 (u : Int), undef, undef, undef, undef, .agg #[.slice none 0 0, .slice none 0 0, .int .i64 0, .bool false], .pointer (some ⟨kb, 0, none⟩), .int .i64 (n : Int), .pointer (some ⟨b1, 1, none⟩), .slice (some ⟨g, 0, none⟩) n lc, .int .i64 (n : Int), .bool false, u24, u25, u26, u27, u28, u29, u30, u31, u32, u33, u34, u35, u36, u37, u38, u39, u40, u41, u42, u43, u44, u45, u46, u47, u48, u49, u50, u51, u52, u53, .int .i64 (n : Int), .pointer (some ⟨b1, 1, none⟩), .slice (some ⟨g, 0, none⟩) n lc, .int .i64 (n : Int), .bool false, a59, a60, a61, a62, a63, a64, a65, a66, a67, a68, a69, a70, a71, a72, a73, a74, .int .i64 (i : Int), .pointer (some ⟨b1, 1, none⟩), .slice (some ⟨g, 0, none⟩) n lc, .int .i64 (n : Int), .bool true, a80, a81, .pointer (some ⟨b1, 1, none⟩), .slice (some ⟨g, 0, none⟩) n lc, .int .i64 (i : Int), .pointer (some ⟨g, i * 5, none⟩), .pointer (some ⟨g, i * 5 + 4, none⟩), .slice qa x.ps.length qc, y88, y89, y90, y91, y92, y93, y94, y95, y96, y97, y98, y99, y100, y101, y102, undef, undef, undef, undef, undef, undef, undef, undef, undef, undef, undef, undef, undef, undef, undef, undef, undef, undef, undef, undef, undef, undef, undef, undef, undef], defers := [] } ∧ u ≤ x.ps.length ∧ w3 = wx) (fun a _ => x.ps.length - (intOf (a.tmps.getD 12 undef)).toNat) ⟨0, a2, a88, a89, a90, a91, a92, a93, a94, a95, a96, a97, a98, a99, a100, a101, a102, rfl, Nat.zero_le _, rfl⟩ ?_
    rintro ac wx ⟨u, y2, y88, y89, y90, y91, y92, y93, y94, y95, y96, y97, y98, y99, y100, y101, y102, rfl, hu, hw2⟩
    subst hw2
    by_cases hul : u < x.ps.length
    ·have hul' : (u : Int) < (x.ps.length : Int) := by omega
     have hw5 : IntKind.i64.wrap ((u : Int) + 1) = ((u + 1 : Nat) : Int) := by rw [IntKind.wrap_i64]; have := HLx.o.2; omega
     have hw6 : IntKind.u8.wrap ((i + 1 : Nat) : Int) = ((i + 1 : Nat) : Int) := by rw [IntKind.wrap_u8]; have := hn200.o; omega
     have hw7 : IntKind.u8.wrap ((i : Int) + 1) = ((i + 1 : Nat) : Int) := by rw [IntKind.wrap_u8]; have := hn200.o; omega
     obtain ⟨gq, qc', hq1, hrg⟩ := HPm.o.rng hul
     obtain ⟨rfl, rfl⟩ : qa = some ⟨gq, 0, none⟩ ∧ qc = qc' := by injection hq1 with e1 e2 e3; exact ⟨e1, e3⟩
     have HRg := kk hrg
     clear hrg
     refine wp_seq_k fun K39 hK39 => wp_seq_k fun K40 hK40 => rgn (Vv (.int .i64 (u : Int)) (h:=Vv (.slice (some ⟨gq, 0, none⟩) x.ps.length qc) (h:=Vv (.int .i64 (x.ps.length : Int)) (h:=Vt (h:=WL.nil (hK40 _ _ (Ct (h:=wp_skip (hK39 _ _ (wp_seq_k fun K41 hK41 => wp_block (wp_seq_k fun K42 hK42 => rgn (Vv (.slice (some ⟨gq, 0, none⟩) x.ps.length qc) (h:=Vv (.int .i64 (u : Int)) (h:=?_))))))))))))))
     refine VlS (.pointer (some ⟨gq, u * 32, none⟩)) ?_
     refine WL.midA (by kernel_rfl) 32 (.tmp 96) rfl gq (u * 32) rfl (qb 32 (mkF ((i + 1 : Nat) : Int))) _ HRg.o Try.underlying32 rfl (QI _) ?_
     simp only [Act.put, pqA, pqB, pqC]
     refine Vv (.int .i64 (i : Int)) (h:=Vv (.int .i64 ((i + 1 : Nat) : Int)) (h:=Vv (.int .u8 ((i + 1 : Nat) : Int)) (h:=?_)))
     refine WL.bld (by kernel_rfl) 32 _ rfl [(0, .int .u8 ((i + 1 : Nat) : Int))] (by simp [Act.eval]) (qb 32 (mkF ((i + 1 : Nat) : Int))) (Xk _) ?_
     simp only [Act.put, pqA, pqB, pqC]
     refine WL.val (by kernel_rfl) (.bool false) (by have hq_ := DE ((i : Int) + 1) w3; go_simp) ?_
     simp only [Act.put, pqA, pqB, pqC]
     refine WL.nil (hK42 _ _ (Cf (h:=wp_skip (hK41 _ _ (rgn (Vv (.int .i64 (u : Int)) (h:=Vv (.int .i64 ((u + 1 : Nat) : Int)) (h:=Vv (.int .i64 ((u + 1 : Nat) : Int)) (h:=?_)))))))))
     refine WL.nil ?_
     exact ⟨⟨u + 1, y2, .int .i64 (u : Int), .slice (some ⟨gq, 0, none⟩) x.ps.length qc, .int .i64 (x.ps.length : Int), .bool true, .int .i64 (u : Int), .int .i64 ((u + 1 : Nat) : Int), .slice (some ⟨gq, 0, none⟩) x.ps.length qc, .int .i64 (u : Int), .pointer (some ⟨gq, u * 32, none⟩), .agg (qb 32 (mkF ((i + 1 : Nat) : Int))), .int .i64 (i : Int), .int .i64 ((i + 1 : Nat) : Int), .int .u8 ((i + 1 : Nat) : Int), .agg (qb 32 (mkF ((i + 1 : Nat) : Int))), .bool false, rfl, by omega, rfl⟩, by simp [intOf]; omega⟩
    ·have hul' : ¬ (u : Int) < (x.ps.length : Int) := by omega
     refine wp_seq_k fun K43 hK43 => wp_seq_k fun K44 hK44 => rgn (Vv (.int .i64 (u : Int)) (h:=Vv (.slice qa x.ps.length qc) (h:=Vv (.int .i64 (x.ps.length : Int)) (h:=Vf (h:=WL.nil (hK44 _ _ (Cf (h:=wp_exit (hK36 _ _ (rgn (Vv (.int .i64 (i : Int)) (h:=Vv (.int .i64 ((i + 1 : Nat) : Int)) (h:=Vv (.int .i64 ((i + 1 : Nat) : Int)) (h:=?_))))))))))))))
     refine WL.nil ?_
     exact ⟨⟨i + 1, y2, .slice qa x.ps.length qc, .int .i64 (u : Int), .int .i64 (i : Int), .pointer (some ⟨b1, 1, none⟩), .slice (some ⟨g, 0, none⟩) n lc, .int .i64 (n : Int), .bool true, .int .i64 (i : Int), .int .i64 ((i + 1 : Nat) : Int), .pointer (some ⟨b1, 1, none⟩), .slice (some ⟨g, 0, none⟩) n lc, .int .i64 (i : Int), .pointer (some ⟨g, i * 5, none⟩), .pointer (some ⟨g, i * 5 + 4, none⟩), .slice qa x.ps.length qc, .int .i64 (u : Int), .slice qa x.ps.length qc, .int .i64 (x.ps.length : Int), .bool false, y92, y93, y94, y95, y96, y97, y98, y99, y100, y101, y102, rfl, by omega, rfl⟩, by simp [intOf]; omega⟩
   ·have hil' : ¬ (i : Int) < (n : Int) := by omega
    have hie : n = i := by omega
    subst hie
    have cB : w3.cell? ⟨b1, 1, none⟩ = some (.slice la n lc) := JP.o.bx.c 1 rfl
    have J4 := kk JP.o.four
    have hL0 := kk JP.o.own
    refine wp_seq_k fun K45 hK45 => wp_seq_k fun K46 hK46 => rgn (Vv (.int .i64 (n : Int)) (h:=Vv (.pointer (some ⟨b1, 1, none⟩)) (h:=Vv (.slice la n lc) (h:=Vv (.int .i64 (n : Int)) (h:=Vf (h:=WL.nil (hK46 _ _ (Cf (h:=wp_exit (hK32 _ _ (wp_seq_k fun K47 hK47 => rgn (Vv (.pointer (some ⟨b1, 1, none⟩)) (h:=?_)))))))))))))
    refine WL.val (by kernel_rfl) (.slice la n lc) (by go_simp) ?_
    clear cB
    simp only [Act.put, pqA, pqB, pqC]
    refine Vv (.slice la n lc) (h:=WL.nil (hK47 _ _ (wp_seq_k fun K48 hK48 => wp_seq_k fun K49 hK49 => rgn (Vv (.int .i64 0) (h:=WL.nil (hK49 _ _ (wp_block (?_))))))))
    refine wp_loop (fun ac wr => ∃ (u : Nat) (y105 y106 y107 y108 y109 y110 y111 y112 : Value) (q : Value), ac = { tmps := #[.agg (wtA N (.slice la n lc)), .pointer (some ⟨b1, 0, none⟩), a2, .pointer (some ⟨kb, 0, none⟩), .int .i64 (n : Int), u5, u6, .int .i64 (n : Int), a8, a9, .int .i64 (n : Int), a11, a12, q, .int .i64 (u : Int), undef, undef, .agg #[.slice none 0 0, .slice none 0 0, .int .i64 0, .bool false], .pointer (some ⟨kb, 0, none⟩), .int .i64 (n : Int), .pointer (some ⟨b1, 1, none⟩), .slice la n lc, .int .i64 (n : Int), .bool false, u24, u25, u26, u27, u28, u29, u30, u31, u32, u33, u34, u35, u36, u37, u38, u39, u40, u41, u42, u43, u44, u45, u46, u47, u48, u49, u50, u51, u52, u53, .int .i64 (n : Int), .pointer (some ⟨b1, 1, none⟩), .slice la n lc, .int .i64 (n : Int), .bool false, a59, a60, a61, a62, a63, a64, a65, a66, a67, a68, a69, a70, a71, a72, a73, a74, .int .i64 (n : Int), .pointer (some ⟨b1, 1, none⟩), .slice la n lc, .int .i64 (n : Int), .bool false, a80, a81, a82, a83, a84, a85, a86, a87, a88, a89, a90, a91, a92, a93, a94, a95, a96, a97, a98, a99, a100, a101, a102, .pointer (some ⟨b1, 1, none⟩), .slice la n lc, y105, y106, y107, y108, y109, y110, y111, y112, undef, undef, undef, undef, undef, undef, undef, undef, undef, undef, undef, undef, undef, undef, undef], defers := [] } ∧ u ≤ 9 ∧ ∃ zs, P4 w (.slice la n lc) ls b1 kb lo hi N wr ∧ wr.ownsRow B 54 5 q (n + u) zs ∧ (q.ownBlock = (Value.slice la n lc).ownBlock ∨ ∃ k, q.ownBlock = some k ∧ hi ≤ k)) (fun a _ => 9 - (intOf (a.tmps.getD 14 undef)).toNat) ⟨0, undef, undef, undef, undef, undef, undef, undef, undef, .slice la n lc, rfl, by decide, _, J4.o, (by have h := hL0.o; rw [hm.o] at h; exact h), .inl rfl⟩ ?_
    rintro ac wr ⟨u, y105, y106, y107, y108, y109, y110, y111, y112, q, rfl, hu, hrel⟩
    obtain ⟨zs, h1, h2, h3⟩ := hrel
    have JQ := kk h1
    have JX := kk h2
    have JO := kk h3
    clear h1 h2 h3
    by_cases hul : u < 9
    ·have hul' : (u : Int) < 9 := by omega
     have hw5 : IntKind.i64.wrap ((u : Int) + 1) = ((u + 1 : Nat) : Int) := by rw [IntKind.wrap_i64]; omega
     obtain ⟨za, zc, hqz⟩ := qE JX.o
     refine wp_seq_k fun K50 hK50 => wp_seq_k fun K51 hK51 => rgn (Vv (.int .i64 (u : Int)) (h:=Vt (h:=WL.nil (hK51 _ _ (Ct (h:=wp_skip (hK50 _ _ (wp_seq_k fun K52 hK52 => wp_block (rgn (Vv (q) (h:=?_)))))))))))
     refine WL.bld (by kernel_rfl) 54 _ rfl [(0, .int .i64 (-8))] (by simp [Act.eval]) (lfN (-8)) (Up _) ?_
     simp only [Act.put, pqA, pqB, pqC]
     refine WL.bs (by kernel_rfl) 23 1 _ rfl #[(0, .agg (lfN (-8)))] (by simp [Act.eval]) _ _ (Dj (-8) wr) ?_
     have bb := qg wr (.cells (lfN (-8)) 54)
     have Qb := kk (Blk.new wr 54 (lfN (-8)))
     generalize wr.alloc (.cells (lfN (-8)) 54) = wa at *
     obtain ⟨gq, hgq⟩ := nn wr
     rw [← hgq] at Qb ⊢
     have JXa := kk (qj JX.o bb)
     have JQa := kk (JQ.o.step HS.o (gF bb) (fun _ _ e => e.elim) fun ⟨_, _, e⟩ => e.elim)
     have hBa : Keep (B ≤ wa.heap.size ∧ hi ≤ wa.heap.size) := ⟨by have h1 := HBw.o; have h2 := JQa.o.gr.size; have h3 := JQa.o.lw; omega⟩
     clear bb hgq
     simp only [Act.put, pqA, pqB, pqC]
     refine WL.appG2 (by kernel_rfl) 23 54 5 80 _ Try.underlying23 ko (by rfl) (by decide) (.tmp 109) (.tmp 111) rfl B q ⟨gq, 0, none⟩ (n + u) 1 1 zs (lfN (-8)).toList rfl rfl JXa.o rfl (fun j v hv => by rw [Addr.add_mid, Nat.zero_add]; exact Qb.o.c j (by rw [← Array.getElem?_toList]; exact hv)) (by simp [lfN, Value.oneCell']) (by have := hn200.o; omega) (by decide) hBa.o.1 ?_
     intro q' wb k1 k2
     have JXb := kk k1
     have JE : Keep (P4 w (.slice la n lc) ls b1 kb lo hi N wb ∧ (q'.ownBlock = (Value.slice la n lc).ownBlock ∨ ∃ k, q'.ownBlock = some k ∧ hi ≤ k)) := ⟨by
      rcases k2 with ⟨e1, hg⟩ | ⟨e1, hg⟩
      ·refine ⟨JQa.o.step HS.o hg (fun k _ hk => ?_) (fun ⟨k, hk1, hk2⟩ => ?_), ?_⟩
       ·rcases JO.o with h | ⟨k', h, h'⟩
        ·exact .inl (by rw [← h]; exact hk)
        ·rw [h] at hk; cases hk; exact .inr h'
       ·rw [hm.o]
        by_cases h0 : n = 0
        ·exact .inl h0
        ·obtain ⟨g1, c1, e3, e4⟩ := xk hL0.o (by rw [hm.o]; omega)
         rw [hm.o] at e3
         exact .inr (De (m := u + 1) (l := q') k1 ⟨g1, c1, e3, by rw [e1, hk2, ← hk1]; exact e4⟩)
       ·rw [e1]; exact JO.o
      ·exact ⟨JQa.o.step HS.o (gF hg) (fun _ _ e => e.elim) (fun ⟨_, _, e⟩ => e.elim), .inr ⟨_, e1, hBa.o.2⟩⟩⟩
     clear k1 k2 JXa JQa Qb
     simp only [Act.put, pqA, pqB, pqC]
     refine Vv (q') (h:=WL.nil (hK52 _ _ (rgn (Vv (.int .i64 (u : Int)) (h:=Vv (.int .i64 ((u + 1 : Nat) : Int)) (h:=Vv (.int .i64 ((u + 1 : Nat) : Int)) (h:=?_)))))))
     refine WL.nil ?_
     refine ⟨⟨u + 1, .int .i64 (u : Int), .bool true, .int .i64 (u : Int), .int .i64 ((u + 1 : Nat) : Int), q, .agg (lfN (-8)), .slice (some ⟨gq, 0, none⟩) 1 1, q', q', rfl, by omega, _, JE.o.1, JXb.o, JE.o.2⟩, by simp [intOf]; omega⟩
    ·have hul' : ¬ (u : Int) < 9 := by omega
     refine wp_seq_k fun K53 hK53 => wp_seq_k fun K54 hK54 => rgn (Vv (.int .i64 (u : Int)) (h:=Vf (h:=WL.nil (hK54 _ _ (Cf (h:=wp_exit (hK48 _ _ (wp_seq_k fun K55 hK55 => rgn (Vv (.pointer (some ⟨kb, 0, none⟩)) (h:=ClS (kw JQ.o.bk) ?_))))))))))
     rintro e w_ ⟨rfl, hw_⟩
     refine ⟨_, rfl, ?_⟩
     have hw_ := hw_.symm
     subst hw_
     refine Vt (h:=WL.nil (hK55 _ _ (wp_seq_k fun K56 hK56 => wp_seq_k fun K57 hK57 => rgn (Vv (.int .i64 0) (h:=WL.nil (hK57 _ _ (wp_block (?_))))))))
     refine wp_loop (fun ac wz => ∃ (i : Nat) (a115 a116 a117 a118 a119 a120 a121 a122 a123 a124 a125 a126 : Value), ac = { tmps := #[.agg (wtA N (.slice la n lc)), .pointer (some ⟨b1, 0, none⟩), a2, .pointer (some ⟨kb, 0, none⟩), .int .i64 (n : Int), u5, u6, .int .i64 (n : Int), a8, a9, .int .i64 (n : Int), a11, a12, q, .int .i64 (u : Int), .bool true, .int .i64 (i : Int), .agg #[.slice none 0 0, .slice none 0 0, .int .i64 0, .bool false], .pointer (some ⟨kb, 0, none⟩), .int .i64 (n : Int), .pointer (some ⟨b1, 1, none⟩), .slice la n lc, .int .i64 (n : Int), .bool false, u24, u25, u26, u27, u28, u29, u30, u31, u32, u33, u34, u35, u36, u37, u38, u39, u40, u41, u42, u43, u44, u45, u46, u47, u48, u49, u50, u51, u52, u53, .int .i64 (n : Int), .pointer (some ⟨b1, 1, none⟩), .slice la n lc, .int .i64 (n : Int), .bool false, a59, a60, a61, a62, a63, a64, a65, a66, a67, a68, a69, a70, a71, a72, a73, a74, .int .i64 (n : Int), .pointer (some ⟨b1, 1, none⟩), .slice la n lc, .int .i64 (n : Int), .bool false, a80, a81, a82, a83, a84, a85, a86, a87, a88, a89, a90, a91, a92, a93, a94, a95, a96, a97, a98, a99, a100, a101, a102, .pointer (some ⟨b1, 1, none⟩), .slice la n lc, .int .i64 (u : Int), .bool false, y107, y108, y109, y110, y111, y112, .pointer (some ⟨kb, 0, none⟩), .bool true, a115, a116, a117, a118, a119, a120, a121, a122, a123, a124, a125, a126, undef], defers := [] } ∧ i ≤ n ∧ P4 w (.slice la n lc) ls b1 kb lo hi N wz) (fun a _ => n - (intOf (a.tmps.getD 16 undef)).toNat) ⟨0, undef, undef, undef, undef, undef, undef, undef, undef, undef, undef, undef, undef, rfl, Nat.zero_le _, JQ.o⟩ ?_
     rintro ac wz ⟨i, a115, a116, a117, a118, a119, a120, a121, a122, a123, a124, a125, a126, rfl, hi_, hp⟩
     have J5 := kk hp
     clear hp
     by_cases hil : i < n
     ·have hil' : (i : Int) < (n : Int) := by omega
      have hw3 : IntKind.i64.wrap ((i : Int) + 1) = ((i + 1 : Nat) : Int) := by rw [IntKind.wrap_i64]; have := hn200.o; omega
      obtain ⟨g, gc, cur, hgv, hgb, hgs⟩ : ∃ g cap cur, Value.slice la n lc = .slice (some ⟨g, 0, none⟩) n cap ∧ Blk wz g 54 cur ∧ n * 5 ≤ cur.size := by
       rcases J5.o.lf with h | h
       ·rw [hm.o] at h; omega
       ·rw [hm.o] at h; exact h
      obtain ⟨rfl, rfl⟩ : la = some ⟨g, 0, none⟩ ∧ lc = gc := by injection hgv with e1 e2 e3; exact ⟨e1, e3⟩
      have cB : wz.cell? ⟨b1, 1, none⟩ = some (.slice (some ⟨g, 0, none⟩) n lc) := J5.o.bx.c 1 rfl
      refine wp_seq_k fun K58 hK58 => wp_seq_k fun K59 hK59 => rgn (Vv (.int .i64 (i : Int)) (h:=Vv (.pointer (some ⟨b1, 1, none⟩)) (h:=Vv (.slice (some ⟨g, 0, none⟩) n lc) (h:=Vv (.int .i64 (n : Int)) (h:=Vt (h:=WL.nil (hK59 _ _ (Ct (h:=wp_skip (hK58 _ _ (wp_seq_k fun K60 hK60 => wp_block (rgn (Vv (.pointer (some ⟨b1, 1, none⟩)) (h:=?_))))))))))))))
      refine Vv (.slice (some ⟨g, 0, none⟩) n lc) (h:=Vv (.int .i64 (i : Int)) (h:=?_))
      refine WL.bld (by kernel_rfl) 54 _ rfl [(0, .int .i64 (-9))] (by simp [Act.eval]) (lfN (-9)) (Up _) ?_
      simp only [Act.put, pqA, pqB, pqC]
      refine VlS (.pointer (some ⟨g, i * 5, none⟩)) ?_
      clear cB
      refine WL.part (by kernel_rfl) 54 (.tmp 126) (.tmp 125) rfl g (i * 5) (lfN (-9)) rfl rfl 54 cur hgb (by rfl) (by show i * 5 + 5 ≤ cur.size; omega) (by simp [lfN, Value.oneCell']) _ rfl ?_
      have g_ : Grown wz (wz.setRow g (cur.toList.take (i * 5) ++ (lfN (-9)).toList ++ cur.toList.drop (i * 5 + (lfN (-9)).size)).toArray) (fun k => k = g) := Grown.setRow wz g _ fun _ => rfl
      have hb2 := hgb.setRow (cur.toList.take (i * 5) ++ (lfN (-9)).toList ++ cur.toList.drop (i * 5 + (lfN (-9)).size)).toArray
      have JR : Keep (P4 w (.slice (some ⟨g, 0, none⟩) n lc) ls b1 kb lo hi N (wz.setRow g (cur.toList.take (i * 5) ++ (lfN (-9)).toList ++ cur.toList.drop (i * 5 + (lfN (-9)).size)).toArray)) := ⟨J5.o.step HS.o g_ (fun k _ e => .inl (by rw [e]; rfl)) fun _ => .inr ⟨g, lc, _, by rw [hm.o], hb2, by
       rw [hm.o]
       have h5 : ((lfN (-9))).size = 5 := rfl
       simp only [List.size_toArray, List.length_append, List.length_take, List.length_drop, Array.length_toList, h5]
       omega⟩⟩
      clear g_ hb2 hgb
      generalize wz.setRow g (cur.toList.take (i * 5) ++ (lfN (-9)).toList ++ cur.toList.drop (i * 5 + (lfN (-9)).size)).toArray = wy at *
      simp only [Act.put]
      refine WL.nil (hK60 _ _ (rgn (Vv (.int .i64 (i : Int)) (h:=Vv (.int .i64 ((i + 1 : Nat) : Int)) (h:=Vv (.int .i64 ((i + 1 : Nat) : Int)) (h:=?_))))))
      refine WL.nil ?_
      refine ⟨⟨i + 1, .int .i64 (i : Int), .pointer (some ⟨b1, 1, none⟩), .slice (some ⟨g, 0, none⟩) n lc, .int .i64 (n : Int), .bool true, .int .i64 (i : Int), .int .i64 ((i + 1 : Nat) : Int), .pointer (some ⟨b1, 1, none⟩), .slice (some ⟨g, 0, none⟩) n lc, .int .i64 (i : Int), .agg (lfN (-9)), .pointer (some ⟨g, i * 5, none⟩), rfl, by omega, JR.o⟩, by simp [intOf]; omega⟩
     ·have hil' : ¬ (i : Int) < (n : Int) := by omega
      have cB : wz.cell? ⟨b1, 1, none⟩ = some (.slice la n lc) := J5.o.bx.c 1 rfl
      refine wp_seq_k fun K61 hK61 => wp_seq_k fun K62 hK62 => rgn (Vv (.int .i64 (i : Int)) (h:=Vv (.pointer (some ⟨b1, 1, none⟩)) (h:=Vv (.slice la n lc) (h:=Vv (.int .i64 (n : Int)) (h:=Vf (h:=WL.nil (hK62 _ _ (Cf (h:=wp_exit (hK56 _ _ (wp_seq_k fun K63 hK63 => rgn (Vt (h:=Vt (h:=WL.nil (hK63 _ _ (?_))))))))))))))))
      refine wp_ret ?_
      go_ret
      exact ⟨rfl, J5.o.gr⟩
theorem yN (w : World) (vs : Array Value) : (callFunc 31 vs).run Try.prog w = .ok (.enter 31 vs) w := by kernel_rfl
def LfP (L : List CV) (n i : Nat) (c : CV) (w : World) (e : Ending) (w' : World) : Prop :=
 ∃ x : LV, e = .returned (.agg (lvA x)) ∧ x.num = (i : Int) ∧ x.c.k = c.k ∧ x.c.s = c.s ∧ x.c.l = c.l ∧ Own w' x.c.v x.c.l ∧ (∀ k, x.c.v.ownBlock = some k → w.heap.size ≤ k) ∧ w'.ownsRow w.heap.size 32 32 x.pv x.ps.length (qF x.ps) ∧ x.ps.map hsL = zG n L i ∧ Below w.heap.size w w'
theorem yC (b off n cap i : Nat) (L : List CV) (c : CV) (w : World) (hn : Keep (L.length = n)) (hi : i < n) (hcap : n ≤ cap) (HN : Keep (n ≤ 1099511627776)) (HC : Keep (CsAt w.heap.size w b off L)) (HF : Keep (Fit L)) (Hc : Keep (L[i]? = some c)) (HSz : Keep (c.l.length ≤ 140737488355328)) : Calls Try.prog 31 #[.slice (some ⟨b, off, none⟩) n cap, .int .i64 (i : Int)] w (LfP L n i c w) := by
 have hi' : (i : Int) < (n : Int) := by omega
 have HRw : Keep (∀ wx, Below w.heap.size w wx → RowAt wx c.v c.l) := ⟨fun wx hb => ((HC.o.below hb).row c (List.mem_of_getElem? Hc.o)).1⟩
 obtain ⟨va, vc, hcv⟩ := qR (HRw.o w (Below.refl _ _))
 have HCv := kk hcv
 clear hcv
 go_enter Try.func31, Try.ntmps31
 refine wp_seq_k fun K1 hK1 => rgn (zU 54 zd fun r w1 hr0 R1 b_ => ?_)
 have B1 : Keep (Below w.heap.size w w1) := ⟨b_⟩
 have gr := lh hr0
 clear b_
 refine WL.nil (hK1 _ _ (wp_seq_k fun K2 hK2 => rgn ?_))
 refine WL.bld (by kernel_rfl) 77 #[] rfl [] (by simp) _ Uo ?_
 simp only [Act.put, pqA, pqB, pqC]
 refine WL.box (by kernel_rfl) 77 (.tmp 7) rfl #[.slice none 0 0] rfl ?_
 have K4 := kk (BkH.new w1)
 have b_ := qg w1 (.cells #[.slice none 0 0] 77)
 generalize w1.alloc (.cells #[.slice none 0 0] 77) = w2 at *
 obtain ⟨x, hx⟩ := nm w1
 have BK2 : Keep (BkH w.heap.size w2 x []) := ⟨by
  have h := K4.o
  rw [hx.o]
  exact ⟨Nat.le_trans B1.o.size h.ge, by
   obtain ⟨vr, cs, h1, h2, h3, h4⟩ := h.ex
   exact ⟨vr, cs, h1, ⟨h2.1, by
    rcases h2.2 with h5 | ⟨g', c', cur, h5, h6, h7⟩
    ·exact .inl h5
    ·exact .inr ⟨g', c', cur, h5, Nat.le_trans B1.o.size h6, h7⟩⟩, h3, h4⟩⟩⟩
 rw [← hx.o]
 have R2 := kbx R1 b_
 have B2 := tb B1 b_
 have HX : Keep (CsAt w.heap.size w2 b off L) := ⟨HC.o.below B2.o⟩
 clear b_ K4 R1 hx
 simp only [Act.put, pqA, pqB, pqC]
 refine Vv (.pointer (some ⟨x, 0, none⟩)) (h:=WL.nil (hK2 _ _ (wp_seq_k fun K3 hK3 => rgn (Vv (.slice (some ⟨b, off, none⟩) n cap) (h:=Vv (.int .i64 (i : Int)) (h:=Vv (.pointer (some ⟨b, off + i * 3, none⟩)) (h:=?_)))))))
 refine WL.midA (by kernel_rfl) 44 (.tmp 11) rfl b (off + i * 3) rfl (cvA c) _ (HX.o.at_ i c Hc.o) Try.underlying44 rfl (qw _ _ _) ?_
 simp only [Act.put, pqA, pqB, pqC]
 refine zU 44 zK fun p w3 hp0 P3 b_ => ?_
 have R3 := kbx R2 b_
 have B3 := tb B2 b_
 have gp : Keep (w.heap.size ≤ p) := ⟨by rw [hp0.o]; exact B2.o.size⟩
 have BK3 := kk (BK2.o.below b_)
 clear b_
 refine StR (cvA c) P3.o (qw _ _ _) rfl (by rw [cvA, HCv.o]; simp [Value.oneCell']) ?_
 have P4 := kk (P3.o.setRow (cvA c))
 have R4 := kk (R3.o.setRow_ne (zr R3.o P3.o (by decide)) (cvA c))
 have BK4 := kk (BK3.o.setRow P3.o (cvA c) (by decide) (by decide) (by decide))
 have B4 : Keep (Below w.heap.size w (w3.setRow p (cvA c))) := ⟨qf B3.o gp.o _⟩
 generalize w3.setRow p (cvA c) = w4 at *
 clear P3 R3 BK3
 have p2_ : w4.cell? ⟨p, 2, none⟩ = some c.v := P4.o.c 2 rfl
 refine WL.nil (hK3 _ _ (wp_seq_k fun K4 hK4 => rgn (Vv (.pointer (some ⟨p, 2, none⟩)) (h:=?_))))
 refine WL.val (by kernel_rfl) c.v (by go_simp) ?_
 clear p2_
 simp only [Act.put, pqA, pqB, pqC]
 refine WL.app (by kernel_rfl) (.const (.slice none 0 0)) (.tmp 14) rfl (.slice none 0 0) c.v [] c.l rfl rfl (ju _) (HRw.o w4 B4.o) (by simpa using HSz.o) ?_
 intro v5 w5 hp
 have O5 : Keep (Own w5 v5 c.l) := ⟨by simpa using hp.1⟩
 have N5 : Keep (∀ k, v5.ownBlock = some k → w.heap.size ≤ k) := ⟨fun k hk => by
  rcases hp.2 with ⟨e, _⟩ | ⟨e, _⟩
  ·rw [e] at hk; simp [Value.ownBlock] at hk
  ·rw [e] at hk; injection hk with hk; subst hk; exact B4.o.size⟩
 have b5 : Below w4.heap.size w4 w5 := by
  have h := hp.grown
  exact h.to_below (fun k _ e => by simp [Value.ownBlock] at e) (Nat.le_refl _)
 obtain ⟨xa, xn, xc, hv5⟩ := O5.o.sl
 subst hv5
 have P5 := kbx P4 b5
 have R5 := kbx R4 b5
 have BK5 := kk (BK4.o.below b5)
 have B5 := tb B4 b5
 clear b5 hp P4 R4 BK4
 have f_o := P5.o.frozen 2
 have c_o := P5.o.c 2 (by rfl : (cvA c)[2]? = some c.v)
 simp only [Act.put, pqA, pqB, pqC]
 refine VlS (.pointer (some ⟨p, 2, none⟩)) ?_
 refine WL.cell (by kernel_rfl) (w5.setCell ⟨p, 2, none⟩ (.slice xa xn xc)) (by go_simp) ?_
 clear f_o c_o
 have P6 : Keep (Blk (w5.setCell ⟨p, 2, none⟩ (.slice xa xn xc)) p 44 #[.int .i64 c.k, .string c.s, .slice xa xn xc]) := ⟨by have h := P5.o.set 2 (.slice xa xn xc); exact h⟩
 have g_ : Grown w5 (w5.setCell ⟨p, 2, none⟩ (.slice xa xn xc)) (fun k => k = p) := Grown.setCell w5 p 2 _ fun _ => rfl
 have R6 := kk (g_.blk R5.o (zr R5.o P5.o (by decide)))
 have O6 := kk (O5.o.grown g_ fun k hk e => by subst e; exact O5.o.ne P5.o (by decide) hk)
 have BK6 : Keep (BkH w.heap.size (w5.setCell ⟨p, 2, none⟩ (.slice xa xn xc)) x []) := ⟨BK5.o.grown g_ fun k e => by
  subst e
  exact ⟨fun h => absurd (h.one P5.o.typ) (by decide), fun h => absurd (h.one P5.o.typ) (by decide), fun v l h hk => h.ne P5.o (by decide) hk⟩⟩
 have B6 : Keep (Below w.heap.size w (w5.setCell ⟨p, 2, none⟩ (.slice xa xn xc))) := ⟨B5.o.trans (g_.to_below (fun k hk e => by have := gp.o; omega) B5.o.size)⟩
 generalize w5.setCell ⟨p, 2, none⟩ (.slice xa xn xc) = w6 at *
 clear g_ P5 R5 O5 BK5
 simp only [Act.put]
 refine WL.nil (hK4 _ _ (wp_seq_k fun K5 hK5 => ?_))
 have Pd : Keep (Blk w6.drew p 44 #[.int .i64 c.k, .string c.s, .slice xa xn xc]) := ⟨P6.o⟩
 have Rd : Keep (Blk w6.drew r 54 zLf) := ⟨R6.o⟩
 have Od : Keep (Own w6.drew (.slice xa xn xc) c.l) := ⟨O6.o⟩
 have BKd := kk (BK6.o.below (Below.refl w6.heap.size w6).drew)
 have Bd : Keep (Below w.heap.size w w6.drew) := ⟨B6.o.drew⟩
 have HP : Keep (Calls Try.prog 55 #[.pointer (some ⟨x, 0, none⟩), .slice (some ⟨b, off, none⟩) n cap, .int .i64 (i : Int)] w6.drew (PP w.heap.size x n L i [] w6.drew)) := ⟨by
  have h := vY w.heap.size x n HN.o b off cap L i [] w6.drew (by rw [hn.o]; omega) (by rw [hn.o]; exact Nat.le_refl _) (by rw [hn.o]; exact hi) BKd.o (HC.o.below Bd.o) HF.o (by rw [hn.o]; exact hcap) (by rw [hn.o]; simp; have := HN.o; omega) Bd.o.size
  rw [hn.o] at h
  exact h⟩
 refine wp_region_held_drew (S := fun wx => wx.rangeAt p 0 (#[.int .i64 c.k, .string c.s, .slice xa xn xc] : Array Value).toList) (by kernel_rfl) (ql Pd.o) (fun hHeld => ?_)
 refine uG 0 ⟨some 17, .move (.tmp 1), 3, _, _, none⟩ (.int .i64 (i : Int)) rfl hHeld ?_
 refine uS 1 ⟨some 18, .load 44 (.tmp 6), 44, _, _, none⟩ (.agg #[.int .i64 c.k, .string c.s, .slice xa xn xc]) rfl (qv (by rfl) (.tmp 6) 44 rfl p 0 rfl #[.int .i64 c.k, .string c.s, .slice xa xn xc] _ Try.underlying44 rfl (qw _ _ _) fun w hS => hS) hHeld ?_
 refine uG 2 ⟨some 19, .move (.tmp 5), 75, _, _, none⟩ (.pointer (some ⟨x, 0, none⟩)) rfl hHeld ?_
 refine uG 3 ⟨some 20, .move (.tmp 0), 22, _, _, none⟩ (.slice (some ⟨b, off, none⟩) n cap) rfl hHeld ?_
 refine uG 4 ⟨some 21, .move (.tmp 1), 3, _, _, none⟩ (.int .i64 (i : Int)) rfl hHeld ?_
 refine rd1 5 ⟨some 22, .call { callee := .value (.func 55), args := #[.tmp 19, .tmp 20, .tmp 21], argTypes := #[75, 22, 3] }, 52, _, _, none⟩ rfl fun K hK => ?_
 refine qz 55 _ _ rfl Uz #[.pointer (some ⟨x, 0, none⟩), .slice (some ⟨b, off, none⟩) n cap, .int .i64 (i : Int)] (by simp [Act.eval]) (fun vz wz => ∃ (ps : List Hs), wz.ownsRow w.heap.size 32 32 vz ps.length (qF ps) ∧ ps.map hsL = zG n L i ∧ Grown w6.drew wz (BkS w.heap.size w6.drew)) ?_ ?_
 ·refine (HP.o).mono ?_
  rintro e wz ⟨v, ps, R9_, rfl, k1, k2, k3, k4, k5, k6⟩
  exact ⟨_, rfl, ps, k1, k3, k6⟩
 rintro vz w7 ⟨ps, k1, k3, k6⟩
 obtain ⟨pa, pc, hvz⟩ := qE k1
 subst hvz
 obtain ⟨pn, hpn⟩ : ∃ z, Keep (z = ps.length) := ⟨_, ⟨rfl⟩⟩
 rw [← hpn.o]
 have Q7 : Keep (w7.ownsRow w.heap.size 32 32 (.slice pa pn pc) ps.length (qF ps)) := ⟨by rw [hpn.o]; exact k1⟩
 have HPs := kk k3
 have P7 := kk (Pd.o.bk k6 (by decide) (by decide))
 have R7 := kk (Rd.o.bk k6 (by decide) (by decide))
 have O7 := kk (Od.o.bk k6)
 have B7 : Keep (Below w.heap.size w w7) := ⟨Bd.o.trans (k6.bkBelow Bd.o.size)⟩
 clear k1 k3 k6
 refine hK _ _ (ql P7.o) fun hHa => kNx ?_
 clear hK
 refine rd1 6 ⟨some 23, .build 54 #[(0, .tmp 17), (1, .tmp 18), (2, .tmp 22)], 54, _, _, none⟩ rfl fun K hK => ?_
 refine jZ 54 #[(0, .tmp 17), (1, .tmp 18), (2, .tmp 22)] rfl #[.int .i64 (i : Int), .int .i64 c.k, .string c.s, .slice xa xn xc, .slice pa pn pc] (by simpa [Act.eval] using XO (i : Int) c.k c.s xa xn xc pa pn pc) ?_
 refine hK _ _ (ql P7.o) fun hHb => kNx ?_
 clear hK
 refine rd1 7 ⟨none, .store 54 (.tmp 4) (.tmp 23), 0, _, _, none⟩ rfl fun K hK => ?_
 refine wp_store_row 54 (.tmp 4) (.tmp 23) rfl r #[.int .i64 (i : Int), .int .i64 c.k, .string c.s, .slice xa xn xc, .slice pa pn pc] rfl rfl 54 zLf R7.o (qA ⟨(i : Int), ⟨c.k, c.s, .slice xa xn xc, c.l⟩, .slice pa pn pc, ps⟩) rfl (by simp [Value.oneCell']) ?_
 have R9 := kk (R7.o.setRow #[.int .i64 (i : Int), .int .i64 c.k, .string c.s, .slice xa xn xc, .slice pa pn pc])
 have g_ : Grown w7 (w7.setRow r #[.int .i64 (i : Int), .int .i64 c.k, .string c.s, .slice xa xn xc, .slice pa pn pc]) (fun k => k = r) := Grown.setRow _ r #[.int .i64 (i : Int), .int .i64 c.k, .string c.s, .slice xa xn xc, .slice pa pn pc] fun _ => rfl
 have P9 := kk (g_.blk P7.o (zr P7.o R7.o (by decide)))
 have O9 := kk (O7.o.grown g_ fun k hk e => by subst e; exact O7.o.ne R7.o (by decide) hk)
 have Q9 := kk (qo Q7.o g_ fun k hk e => by subst e; exact absurd ((qn Q7.o hk).one R7.o.typ) (by decide))
 have B9 : Keep (Below w.heap.size w (w7.setRow r #[.int .i64 (i : Int), .int .i64 c.k, .string c.s, .slice xa xn xc, .slice pa pn pc])) := ⟨qf B7.o gr.o _⟩
 generalize w7.setRow r #[.int .i64 (i : Int), .int .i64 c.k, .string c.s, .slice xa xn xc, .slice pa pn pc] = w9 at *
 clear g_
 refine hK _ _ (ql P9.o) fun hHc => kNx ?_
 clear hK
 refine wpAnyH_done (by kernel_rfl) ?_ _
 refine hK5 _ _ (wp_ret ?_)
 try simp only [Exit.inBlock, Exit.then]
 refine bodyPost_ret (v := .agg #[.int .i64 (i : Int), .int .i64 c.k, .string c.s, .slice xa xn xc, .slice pa pn pc]) (results_cell_row Try.results31 _ _ r 54 _ (0, 0) _ rfl R9.o Try.underlying54 rfl (qA ⟨(i : Int), ⟨c.k, c.s, .slice xa xn xc, c.l⟩, .slice pa pn pc, ps⟩)) rfl ⟨⟨(i : Int), ⟨c.k, c.s, .slice xa xn xc, c.l⟩, .slice pa pn pc, ps⟩, rfl, rfl, rfl, rfl, rfl, O9.o, N5.o, Q9.o, HPs.o, B9.o⟩
def mk3 : Nat → Int := fun j => if j = 3 then 3 else 0
theorem Dp : Try.prog.built 32 [(3, .int .u8 3)] = some (qb 32 mk3) := by kernel_rfl
theorem DH (w : World) : (Instr.buildSlice 52 1 #[(0, .agg (qb 32 mk3))]).run Try.prog w = .ok (.slice (some ⟨w.heap.size, 0, none⟩) 1 1) (w.alloc (.cells (qb 32 mk3) 32)) := by kernel_rfl
theorem DI (x : LV) (a : Option Addr) (n c : Nat) (a' : Option Addr) (n' c' : Nat) (w : World) : (Instr.buildSlice 23 1 #[(0, .agg #[.int .i64 x.num, .int .i64 x.c.k, .string x.c.s, .slice a n c, .slice a' n' c'])]).run Try.prog w = .ok (.slice (some ⟨w.heap.size, 0, none⟩) 1 1) (w.alloc (.cells #[.int .i64 x.num, .int .i64 x.c.k, .string x.c.s, .slice a n c, .slice a' n' c'] 54)) := by kernel_rfl
theorem Dy (a : Option Addr) (c : Nat) (ty : TypeId) (w : World) : (Builtin.append_ #[52, 52] ty #[.slice none 0 0, .slice a 0 c]).run Try.prog w = .ok (.slice none 0 0) w := by
 cases a <;> kernel_rfl
theorem Dx (a : Option Addr) (c : Nat) (ty : TypeId) (w : World) : (Builtin.append_ #[23, 23] ty #[.slice none 0 0, .slice a 0 c]).run Try.prog w = .ok (.slice none 0 0) w := by
 cases a <;> kernel_rfl
theorem kA {w w' : World} {S : Nat → Prop} {B : Nat} (h : Grown w w' S) (hs : ∀ k, k < B → ¬ S k) (hB : B ≤ w.heap.size) : Below B w w' :=
 ⟨h.os, h.tape, h.output, h.size, fun k hk => h.block k (by omega) (hs k hk)⟩
theorem KH (tS tE sz bt : Nat) (zv : Value) (hU : Try.prog.underlying tS = some (.slice tE)) (hI : (Try.prog.info? tE).map (fun i => (i.zero, i.size, i.bytes)) = some (some zv, sz, bt)) (hzs : zv.cells.size = sz) (h0 : 0 < sz) (hE : ∀ (a : Option Addr) (c : Nat) (ty : TypeId) (w : World), (Builtin.append_ #[tS, tS] ty #[.slice none 0 0, .slice a 0 c]).run Try.prog w = .ok (.slice none 0 0) w)
  (w : World) (ty : TypeId) (v : Value) (n : Nat) (ys : List Value) (hv : (∃ a c, v = .slice a 0 c ∧ n = 0) ∨ ∃ ad c, v = .slice (some ad) n c ∧ ∀ j u, ys[j]? = some u → w.cell? (ad.add j) = some u) (hl : ys.length = n * sz) (h1 : ∀ u ∈ ys, u.oneCell' = true) (hb : n ≤ 100000000) (hbt : bt ≤ 1000) :
  ∃ v' w', (Builtin.append_ #[tS, tS] ty #[.slice none 0 0, v]).run Try.prog w = .ok v' w' ∧ w'.ownsRow w.heap.size tE sz v' n ys ∧ Below w.heap.size w w' := by
 rcases hv with ⟨a, c, rfl, rfl⟩ | ⟨ad, c, rfl, hc⟩
 ·refine ⟨.slice none 0 0, w, hE a c ty w, ⟨hl, .inl ⟨rfl, rfl⟩⟩, Below.refl _ _⟩
 ·obtain ⟨v', w', hr, k1, k2⟩ := Jl tS tE sz bt zv hU hI hzs h0 w ty w.heap.size (.slice none 0 0) ad 0 n c [] ys ⟨by simp, .inl ⟨rfl, rfl⟩⟩ hl hc h1 (by omega) hbt (Nat.le_refl _)
  refine ⟨v', w', hr, by simpa using k1, ?_⟩
  rcases k2 with ⟨_, hg⟩ | ⟨_, hb⟩
  ·exact kA hg (fun k _ e => by cases e) (Nat.le_refl _)
  ·exact hb
theorem WL.app0 {ops : Array Oper} {rest : List Oper} {o : Oper} {a : Act} {w : World} {Q : Exit → Act → World → Prop} (hw : Region.wanted o (yielded ops a.tmps) = true) (tS : Nat) (s x : Operand)
  (ho : o.op = .call { callee := .builtin .append, args := #[s, x], argTypes := #[tS, tS] }) (v : Value) (hs : a.eval s = .slice none 0 0) (hx : a.eval x = v) (R : Value → World → Prop)
  (hr : ∀ ty, ∃ v' w', (Builtin.append_ #[tS, tS] ty #[.slice none 0 0, v]).run Try.prog w = .ok v' w' ∧ R v' w')
  (h : ∀ v' w', R v' w' → WL Try.prog ops Q rest (a.put o.dst v') w') : WL Try.prog ops Q (o :: rest) a w :=
 ⟨qC hw fun K hK => by
  obtain ⟨v', w', hr, h2⟩ := hr o.type
  unfold Oper.wp execOp
  simp only [ho, resolve, invoke, builtin, Sem.run_bind, Sem.run_pure, Result.andThen_ok, List.map_toArray, List.map_cons, List.map_nil, hs, hx, hr]
  exact hK _ _ (h v' w' h2).o⟩
structure PathR (B : Nat) (w : World) (v : Value) (ps : List Hs) : Prop where
 ex : ∃ g cap, v = .slice (some ⟨g, 0, none⟩) ps.length cap ∧ w.ownsRow B 32 32 (.slice (some ⟨g, 0, none⟩) (ps.length + 1) cap) (ps.length + 1) (qF ps ++ (qb 32 mk3).toList)
theorem PathR.grown {B : Nat} {w w' : World} {v : Value} {ps : List Hs} {S : Nat → Prop} (h : PathR B w v ps) (hg : Grown w w' S) (hs : ∀ k, v.ownBlock = some k → ¬ S k) : PathR B w' v ps := by
 obtain ⟨g, cap, rfl, ho⟩ := h.ex
 exact ⟨g, cap, rfl, qo ho hg fun k hk => hs k hk⟩
theorem PathR.typ {B : Nat} {w : World} {v : Value} {ps : List Hs} (h : PathR B w v ps) {k : Nat} (hk : v.ownBlock = some k) : Typ w k 32 := by
 obtain ⟨g, cap, rfl, ho⟩ := h.ex
 exact qn ho hk
theorem PathR.mono {A B : Nat} {w : World} {v : Value} {ps : List Hs} (h : PathR B w v ps) (hl : A ≤ B) : PathR A w v ps := by
 obtain ⟨g, cap, rfl, ho⟩ := h.ex
 exact ⟨g, cap, rfl, zo ho hl⟩
structure LEq (y x : LV) : Prop where
 n : y.num = x.num
 k : y.c.k = x.c.k
 s : y.c.s = x.c.s
 l : y.c.l = x.c.l
 p : y.ps = x.ps
structure CpS (B : Nat) (ls : List LV) (N : Int) (b3 : Nat) (w0 w : World) (v : Value) (OL : List LV) : Prop where
 be : Below B w0 w
 bx : Blk w b3 25 (wtA N v)
 own : w.ownsRow B 54 5 v OL.length (OL.flatMap fun x => (lvA x).toList)
 each : ∀ (i : Nat) (y : LV), OL[i]? = some y → ∃ x, ls[i]? = some x ∧ LEq y x
 val : ∀ y ∈ OL, WideAt w y.c.v y.c.l ∧ ∃ k, y.c.v.ownBlock = some k ∧ B ≤ k
 pth : ∀ y ∈ OL, PathR B w y.pv y.ps
theorem VG {B : Nat} {ls : List LV} {N : Int} {b3 : Nat} {w0 w : World} (h1 : Below B w0 w) (h2 : Blk w b3 25 (wtA N (.slice none 0 0))) : CpS B ls N b3 w0 w (.slice none 0 0) [] :=
 ⟨h1, h2, ⟨rfl, .inl ⟨rfl, rfl⟩⟩, fun i y h => by simp at h, fun y h => by simp at h, fun y h => by simp at h⟩
theorem CpS.below {B : Nat} {ls : List LV} {N : Int} {b3 : Nat} {w0 w w' : World} {v : Value} {OL : List LV} (h : CpS B ls N b3 w0 w v OL) (hb : Below w.heap.size w w') (hB : B ≤ w.heap.size) : CpS B ls N b3 w0 w' v OL :=
 ⟨h.be.trans (hb.mono hB), h.bx.below hb h.bx.lt, qj h.own hb, h.each, fun y hy => ⟨(h.val y hy).1.grown (gF hb) fun _ _ e => e, (h.val y hy).2⟩, fun y hy => (h.pth y hy).grown (gF hb) fun _ _ e => e⟩
theorem CpS.add {B : Nat} {ls : List LV} {N : Int} {b3 : Nat} {w0 w wa : World} {v v' : Value} {OL : List LV} {x y : LV} (h : CpS B ls N b3 w0 w v OL) (hB : B ≤ w.heap.size) (hb3 : B ≤ b3) (hx : ls[OL.length]? = some x) (he : LEq y x) (hv : WideAt w y.c.v y.c.l ∧ ∃ k, y.c.v.ownBlock = some k ∧ B ≤ k) (hp : PathR B w y.pv y.ps)
  (ho : wa.ownsRow B 54 5 v' (OL.length + 1) (OL.flatMap (fun x => (lvA x).toList) ++ (lvA y).toList)) (hg : Grown w wa fun k => v.ownBlock = some k) (w2 : World) (hg2 : Grown wa w2 fun k => k = b3) (hbx : Blk w2 b3 25 (wtA N v')) : CpS B ls N b3 w0 w2 v' (OL ++ [y]) := by
 have hty : ∀ k, v.ownBlock = some k → Typ w k 54 := fun k e => qn h.own e
 have hvB : ∀ k, v.ownBlock = some k → B ≤ k := fun k e => by
  rcases h.own.2 with ⟨rfl, _⟩ | ⟨g, cap, cur, rfl, h2, _⟩
  ·cases e
  ·simp [Value.ownBlock] at e; omega
 have hbt : Typ w b3 25 := h.bx.typ
 have up : ∀ {T : Nat} {k : Nat}, Typ w k T → T ≠ 54 → T ≠ 25 → (¬ v.ownBlock = some k) ∧ ¬ k = b3 := fun ht h1 h2 => ⟨fun e => h1 (ht.one (hty _ e)), fun e => by subst e; exact h2 (ht.one hbt)⟩
 have hG : Grown w w2 (fun k => v.ownBlock = some k ∨ k = b3) := (hg.mono fun _ _ e => .inl e).trans (hg2.mono fun _ _ e => .inr e)
 have V : ∀ {u : Value} {l : List Int}, WideAt w u l → WideAt w2 u l := fun hu => hu.grown hG fun k hk e => by
  have := up (hu.typ hk) (by decide) (by decide)
  rcases e with e | e
  ·exact this.1 e
  ·exact this.2 e
 have Pt : ∀ {u : Value} {l : List Hs}, PathR B w u l → PathR B w2 u l := fun hu => hu.grown hG fun k hk e => by
  have := up (hu.typ hk) (by decide) (by decide)
  rcases e with e | e
  ·exact this.1 e
  ·exact this.2 e
 refine ⟨h.be.trans (kA hG (fun k hk e => by
  rcases e with e | e
  ·have := hvB k e; omega
  ·omega) hB), hbx, ?_, fun i z hz => ?_, fun z hz => ?_, fun z hz => ?_⟩
 ·rw [List.length_append, List.flatMap_append]
  have hv' : ∀ k, v'.ownBlock = some k → ¬ k = b3 := fun k e e2 => by
   subst e2
   exact absurd ((qn ho e).one (hg.typ hbt fun e3 => absurd ((hty _ e3).one hbt) (by decide))) (by decide)
  simpa using qo ho hg2 hv'
 ·rcases xF hz with ⟨h1, _⟩ | ⟨rfl, rfl⟩
  ·exact h.each i z h1
  ·exact ⟨x, hx, he⟩
 ·rcases List.mem_append.mp hz with hz | hz
  ·exact ⟨V (h.val z hz).1, (h.val z hz).2⟩
  ·rw [List.mem_singleton.mp hz]; exact ⟨V hv.1, hv.2⟩
 ·rcases List.mem_append.mp hz with hz | hz
  ·exact Pt (h.pth z hz)
  ·rw [List.mem_singleton.mp hz]; exact Pt hp
structure CpAt (B : Nat) (ls : List LV) (w : World) (v : Value) (OL : List LV) : Prop where
 len : OL.length = ls.length
 own : ∃ g cap, v = .slice (some ⟨g, 0, none⟩) OL.length cap ∧ w.ownsRow B 54 5 (.slice (some ⟨g, 0, none⟩) (OL.length + 1) cap) (OL.length + 1) ((OL.flatMap fun x => (lvA x).toList) ++ (lfN (-6)).toList)
 each : ∀ (i : Nat) (y : LV), OL[i]? = some y → ∃ x, ls[i]? = some x ∧ LEq y x
 val : ∀ y ∈ OL, WideAt w y.c.v y.c.l ∧ ∃ k, y.c.v.ownBlock = some k ∧ B ≤ k
 pth : ∀ y ∈ OL, PathR B w y.pv y.ps
theorem CpAt.below {B : Nat} {ls : List LV} {w w' : World} {v : Value} {OL : List LV} (h : CpAt B ls w v OL) (hb : Below w.heap.size w w') : CpAt B ls w' v OL := by
 obtain ⟨g, cap, rfl, ho⟩ := h.own
 exact ⟨h.len, ⟨g, cap, rfl, qj ho hb⟩, h.each, fun y hy => ⟨(h.val y hy).1.grown (gF hb) fun _ _ e => e, (h.val y hy).2⟩, fun y hy => (h.pth y hy).grown (gF hb) fun _ _ e => e⟩
theorem Vl {B : Nat} {w : World} {OL : List LV} (hv : ∀ y ∈ OL, WideAt w y.c.v y.c.l ∧ ∃ k, y.c.v.ownBlock = some k ∧ B ≤ k) (hp : ∀ y ∈ OL, PathR B w y.pv y.ps) : ∀ u ∈ (OL.flatMap fun x => (lvA x).toList), u.oneCell' = true := fun u hu => by
 rw [List.mem_flatMap] at hu
 obtain ⟨y, hy, h⟩ := hu
 obtain ⟨a, c, e⟩ := qR (hv y hy).1.row
 obtain ⟨g, c', e', _⟩ := (hp y hy).ex
 unfold lvA at h
 rw [e, e'] at h
 simp at h
 rcases h with rfl | rfl | rfl | rfl | rfl <;> rfl
theorem jK {w : World} {B T s n : Nat} {v : Value} {xs : List Value} (h : w.ownsRow B T s v n xs) {k : Nat} (e : v.ownBlock = some k) : B ≤ k := by
 rcases h.2 with ⟨rfl, _⟩ | ⟨g, cap, cur, rfl, h2, _⟩
 ·cases e
 ·simp [Value.ownBlock] at e; omega
theorem jE {w : World} {B T s n g c : Nat} {xs : List Value} (h : w.ownsRow B T s (.slice (some ⟨g, 0, none⟩) n c) n xs) : n ≤ c ∧ B ≤ g ∧ g < w.heap.size := by
 rcases h.2 with ⟨e, _⟩ | ⟨g', cap, cur, e, h2, h3, h4, _⟩
 ·cases e
 ·cases e
  exact ⟨h4, h2, (show Typ w g T from ⟨cur, _, h3⟩).lt⟩
theorem zw {a b c : World} {S : Nat → Prop} {B : Nat} (h : Below B a b) (hg : Grown b c S) (hs : ∀ k, k < B → ¬ S k) (hB : B ≤ a.heap.size) : Below B a c := h.trans (kA hg hs (Nat.le_trans hB h.size))
theorem Vq {B : Nat} {w : World} {v : Value} {ps : List Hs} (h : HPa B w v ps) : (∃ a c, v = .slice a 0 c ∧ ps.length = 0) ∨ ∃ ad c, v = .slice (some ad) ps.length c ∧ ∀ j u, (qF ps)[j]? = some u → w.cell? (ad.add j) = some u := by
 rcases h with ⟨a, c, rfl, rfl⟩ | ⟨b, off, cap, rfl, _, _, h4⟩
 ·exact .inl ⟨a, c, rfl, rfl⟩
 ·exact .inr ⟨_, cap, rfl, fun j u hu => by rw [Addr.add_mid]; exact h4 j u hu⟩
theorem Vh {w : World} {B T s n : Nat} {v : Value} {xs : List Value} (h : w.ownsRow B T s v n xs) : (∃ a c, v = .slice a 0 c ∧ n = 0) ∨ ∃ ad c, v = .slice (some ad) n c ∧ ∀ j u, xs[j]? = some u → w.cell? (ad.add j) = some u := by
 have h' := h
 rcases h.2 with ⟨rfl, rfl⟩ | ⟨g, cap, cur, rfl, _⟩
 ·exact .inl ⟨none, 0, rfl, rfl⟩
 ·exact .inr ⟨_, cap, rfl, World.ownsRow.cells (g := g) h' rfl⟩
theorem kF : Try.prog.elem 23 = 54 := by kernel_rfl
theorem Ks (w : World) : (sizeOf 54).run Try.prog w = .ok 5 w := by kernel_rfl
theorem VU : Try.prog.underlying 23 = some (.slice (Try.prog.elem 23)) := by rw [kF]; exact Try.underlying23
theorem VV (a : Option Addr) (n c i : Nat) (hi : i ≤ c) (w : World) : (Instr.sliceAt 23 (.slice a n c) none (some (.int .i64 (i : Int))) none).run Try.prog w = .ok (.slice a i c) w := by
 have h1 := run_slice_h (P := Try.prog) (w := w) 23 a n c VU .i64 (i : Int) (by omega) (by omega)
 have h2 := run_sliceAt_slice (P := Try.prog) (w := w) 23 (.slice a n c) none (some (.int .i64 (i : Int))) none VU
 rw [h2, h1, kF, Ks, Result.andThen_ok, Int.toNat_natCast]
 have h4 : (if c = 0 then a else a.map (·.add (0 * 5))) = a := by
  split
  ·rfl
  ·cases a <;> rfl
 simp only [sliced, Nat.sub_zero, h4]
theorem qD (N : Int) (v : Value) : (Try.prog.info? 25).map (·.size) = some (wtA N v).size := by kernel_rfl
theorem Dn (N : Int) : Try.prog.built 25 [(0, .int .i64 N)] = some (wtA N (.slice none 0 0)) := by kernel_rfl
end Go.Proofs.Ytdpcjfafbmhceaa
