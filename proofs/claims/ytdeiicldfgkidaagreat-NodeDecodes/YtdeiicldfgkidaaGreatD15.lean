import Derived.Test.YtdeiicldfgkidaaGreatD14
import Derived.Deep.RegionHeld3
namespace Go.Proofs.YtdeiicldfgkidaaGreat
open Go.RowKit
set_option linter.unusedSimpArgs false
set_option linter.unusedVariables false

theorem Tryz.in29 (w : World) (vs : Array Value) : (callFunc 29 vs).run Tryz.prog w = .ok (.enter 29 vs) w := by kernel_rfl
theorem Tryz.in60 (w : World) (vs : Array Value) : (callFunc 60 vs).run Tryz.prog w = .ok (.enter 60 vs) w := by kernel_rfl
theorem RX.blk {w0 : World} {x : Nat} {vB : Value} {L : List Int} {why : Int} {a : Nat} {w : World} (h : RX w0 x vB L why a w) : Blk w x 78 #[vB, .int .i64 (a : Int), .int .i64 why, .int .i64 (bOf why a)] := h.rf
theorem refCompare_B (x y : Hs) (w : World) : Calls Tryz.prog 60 #[.agg (bytesA 32 x.f), .agg (bytesA 32 y.f)] w fun e w' => e = .returned (.int .i64 (Sh.cf x y)) ∧ Below w.heap.size w w' :=
 (Sh.refCompare_any x y w).mono fun e w' h => ⟨h.1, by obtain ⟨q, os, rfl⟩ := h.2; exact Sh.grown_below w q os⟩
theorem hrd_bad (D : List Int) (W : Int) (h : W ≠ 0) : bytesA 32 (hrd D W) = bytesA 32 (hs []).f := bytesA_congr fun i hi => by
 rw [hs_f _ (fun c hc => by simp at hc) i hi]; unfold hrd; rw [if_neg h]; rfl
structure HS (w0 w : World) (x g2 g3 g4 g6 : Nat) (vB : Value) (L : List Int) (why : Int) (a : Nat) (au ck : Int) (vp : Value) (ew eb : Int) (w1 : World) : Prop where
 rx : RX w0 x vB L why a w1
 gr : Grown w w1 fun k => k = x
 r2 : Blk w1 g2 28 (ndA 0 0 noS noS)
 r3 : Blk w1 g3 34 (erA 0 0)
 n : Blk w1 g4 28 (ndA au ck vp noS)
 e : Blk w1 g6 34 (erA ew eb)
 n24 : g4 ≠ g2
 n36 : g6 ≠ g3
 ww : w0.heap.size ≤ w.heap.size
 lo2 : w.heap.size ≤ g2
 lo3 : w.heap.size ≤ g3
 lo4 : w.heap.size ≤ g4
 lo6 : w.heap.size ≤ g6
section
variable {w0 w : World} {x g2 g3 g4 g6 : Nat} {vB : Value} {L : List Int} {why : Int} {a : Nat} {au ck : Int} {vp : Value} {ew eb : Int} {w1 : World}
theorem HS.call (h : HS w0 w x g2 g3 g4 g6 vB L why a au ck vp ew eb w1) {why' : Int} {a' : Nat} {w2 : World} (hx : RX w0 x vB L why' a' w2) (hg : Grown w1 w2 fun k => k = x) : HS w0 w x g2 g3 g4 g6 vB L why' a' au ck vp ew eb w2 :=
 ⟨hx, h.gr.trans hg, hg.blk h.r2 (blk_ne h.r2 h.rx.blk (by decide)), hg.blk h.r3 (blk_ne h.r3 h.rx.blk (by decide)), hg.blk h.n (blk_ne h.n h.rx.blk (by decide)), hg.blk h.e (blk_ne h.e h.rx.blk (by decide)), h.n24, h.n36, h.ww, h.lo2, h.lo3, h.lo4, h.lo6⟩
theorem HS.below (h : HS w0 w x g2 g3 g4 g6 vB L why a au ck vp ew eb w1) {w2 : World} (hb : Below w1.heap.size w1 w2) : HS w0 w x g2 g3 g4 g6 vB L why a au ck vp ew eb w2 :=
 h.call (h.rx.below hb) (Grown.below hb)
theorem HS.setE (h : HS w0 w x g2 g3 g4 g6 vB L why a au ck vp ew eb w1) (W b : Int) : HS w0 w x g2 g3 g4 g6 vB L why a au ck vp W b (w1.setRow g6 (erA W b)) :=
  ⟨h.rx.keep (Grown.setRow w1 g6 _ (S := fun k => k = g6) fun _ => rfl) (fun e => blk_ne h.rx.blk h.e (by decide) e) (fun k hk e => by have := h.lo6; have := h.ww; omega),
   h.gr.next (Grown.setRow w1 g6 _ (S := fun k => k = g6) fun _ => rfl) (fun i hi e => by have := h.lo6; omega),
   h.r2.setRow_ne (blk_ne h.r2 h.e (by decide)) _, h.r3.setRow_ne (fun e => h.n36 e.symm) _, h.n.setRow_ne (blk_ne h.n h.e (by decide)) _, h.e.setRow _, h.n24, h.n36, h.ww, h.lo2, h.lo3, h.lo4, h.lo6⟩
theorem HS.setN (h : HS w0 w x g2 g3 g4 g6 vB L why a au ck vp ew eb w1) {au' ck' : Int} {vp' : Value} {w2 : World} (hn : Blk w2 g4 28 (ndA au' ck' vp' noS)) (hg : Grown w1 w2 fun k => k = g4) : HS w0 w x g2 g3 g4 g6 vB L why a au' ck' vp' ew eb w2 :=
  ⟨h.rx.keep hg (fun e => blk_ne h.rx.blk h.n (by decide) e) (fun k hk e => by have := h.lo4; have := h.ww; omega),
   h.gr.next hg (fun i hi e => by have := h.lo4; omega),
   hg.blk h.r2 (fun e => h.n24 e.symm), hg.blk h.r3 (fun e => blk_ne h.r3 h.n (by decide) e), hn, hg.blk h.e (fun e => blk_ne h.e h.n (by decide) e), h.n24, h.n36, h.ww, h.lo2, h.lo3, h.lo4, h.lo6⟩
theorem HS.own (h : HS w0 w x g2 g3 g4 g6 vB L why a au ck vp ew eb w1) {w2 : World} {S : Nat → Prop} (hg : Grown w1 w2 S) (hx : ¬ S x) (h2 : ¬ S g2) (h3 : ¬ S g3) (h4 : ¬ S g4) (h6 : ¬ S g6) (hs : ∀ k, k < w.heap.size → ¬ S k) : HS w0 w x g2 g3 g4 g6 vB L why a au ck vp ew eb w2 :=
 ⟨h.rx.keep hg hx (fun k hk => hs k (Nat.lt_of_lt_of_le hk h.ww)), h.gr.next hg (fun i hi e => absurd e (hs i hi)), hg.blk h.r2 h2, hg.blk h.r3 h3, hg.blk h.n h4, hg.blk h.e h6, h.n24, h.n36, h.ww, h.lo2, h.lo3, h.lo4, h.lo6⟩
end
def HeadP (w0 : World) (x : Nat) (vB : Value) (L : List Int) (R : Int × Nat × NodeV) (w : World) (e : Ending) (w' : World) : Prop :=
 ∃ au ck pa pn pc, e = .returned (.tuple #[.agg (ndA au ck (.slice pa pn pc) noS), .agg (erA R.1 (bOf R.1 R.2.1))]) ∧ RX w0 x vB L R.1 R.2.1 w' ∧ (Grown w w' fun k => k = x) ∧
  (R.1 = 0 → au = R.2.2.au ∧ ck = R.2.2.ck ∧ OwnH w' (.slice pa pn pc) R.2.2.ps ∧ ∀ k, (Value.slice pa pn pc).ownBlock = some k → w.heap.size ≤ k)
theorem HS.done {w0 w : World} {x g2 g3 g4 g6 : Nat} {vB : Value} {L : List Int} {why : Int} {a : Nat} {au ck : Int} {pa : Option Addr} {pn pc : Nat} {ew eb : Int} {w1 w2 : World} (h : HS w0 w x g2 g3 g4 g6 vB L why a au ck (.slice pa pn pc) ew eb w1) (hg : Grown w1 w2 fun k => k = g2 ∨ k = g3) {R : Int × Nat × NodeV} (h1 : R.1 = why) (h2 : R.2.1 = a) {b : Int} (hb : b = bOf why a)
  (h0 : why = 0 → au = R.2.2.au ∧ ck = R.2.2.ck ∧ OwnH w1 (.slice pa pn pc) R.2.2.ps ∧ ∀ k, (Value.slice pa pn pc).ownBlock = some k → w.heap.size ≤ k) : HeadP w0 x vB L R w (.returned (.tuple #[.agg (ndA au ck (.slice pa pn pc) noS), .agg (erA why b)])) w2 := by
 subst hb
 refine ⟨au, ck, pa, pn, pc, by rw [h1, h2], ?_, ?_, fun hz => ?_⟩
 ·rw [h1, h2]
  exact h.rx.keep hg (fun e => e.elim (fun e => blk_ne h.rx.blk h.r2 (by decide) e) (fun e => blk_ne h.rx.blk h.r3 (by decide) e)) (fun k hk e => by have := h.lo2; have := h.lo3; have := h.ww; omega)
 ·exact h.gr.next hg (fun i hi e => by have := h.lo2; have := h.lo3; omega)
 ·obtain ⟨q1, q2, q3, q4⟩ := h0 (h1 ▸ hz)
  refine ⟨q1, q2, q3.grown hg (fun k hk e => ?_), q4⟩
  exact e.elim (fun e => q3.ne h.r2 (by decide) (e ▸ hk)) (fun e => q3.ne h.r3 (by decide) (e ▸ hk))
theorem two_grown {w1 : World} (g2 g3 : Nat) (A B : Array Value) : Grown w1 ((w1.drew.setRow g2 A).setRow g3 B) fun k => k = g2 ∨ k = g3 :=
 ((Grown.below (S := fun k => k = g2 ∨ k = g3) ((Below.refl w1.heap.size w1).drew)).trans (Grown.setRow _ g2 A fun _ => .inl rfl)).trans (Grown.setRow _ g3 B fun _ => .inr rfl)
theorem two_grown' {w1 : World} (g2 g3 : Nat) (A B : Array Value) : Grown w1 ((w1.setRow g2 A).setRow g3 B) fun k => k = g2 ∨ k = g3 :=
 (Grown.setRow w1 g2 A fun _ => .inl rfl).trans (Grown.setRow _ g3 B fun _ => .inr rfl)
theorem ownH_nil (w : World) : OwnH w (.slice none 0 0) [] := ⟨rfl, .inl ⟨rfl, rfl⟩⟩
theorem er_built0 : Tryz.prog.built 34 [] = some (erA 0 0) := by kernel_rfl
def hfin (L : List Int) (n a : Nat) (au ck : Int) : Int × Nat × NodeV :=
 if (getH L n [] a).1 ≠ 0 then ((getH L n [] a).1, (getH L n [] a).2.1, zeroN) else (0, (getH L n [] a).2.1, ⟨au, ck, (getH L n [] a).2.2, []⟩)
set_option maxRecDepth 8000 in
set_option maxHeartbeats 4000000 in
theorem head_loop {u1 u5 u7 u8 u10 u11 u12 u13 u14 u15 u16 u17 u18 u19 u20 u21 u22 u23 u24 u25 u26 u27 u28 u29 u30 u31 u32 u33 u34 u35 u36 u37 u38 u39 u40 u41 u42 u43 u44 u45 u46 u47 u48 u49 u50 u51 u52 u53 u54 u55 u56 u57 u58 u59 u60 u61 u62 u63 u64 u65 u66 u67 u68 u69 u70 u71 u72 u73 u74 u75 u76 u77 u78 u79 u80 u81 u82 u83 u84 u85 u86 u87 u88 u89 u90 u91 u92 u93 u94 u95 u96 u97 u98 u99 u100 u101 u102 u103 u104 u105 u106 u107 u108 u109 u110 u111 u112 u113 u114 u115 u116 u117 u118 u119 u120 u121 u122 u123 u124 u125 u126 u127 u128 u129 u130 u131 u132 : Value} (w0 w : World) (x g2 g3 g4 g6 : Nat) (vB : Value) (L : List Int) (a n : Nat) (hn : n ≤ 64) (au ck : Int) (w1 : World) (hS : HS w0 w x g2 g3 g4 g6 vB L 0 a au ck (.slice none 0 0) 0 0 w1) (R : Int × Nat × NodeV) (hR : R = hfin L n a au ck) :
  Code.wp Tryz.prog (cS (cS (cS (cS (cS (cS (cS (cS (cS (cS (cS (cS (cS (cS (cS (cS (Tryz.f29.body.getD Code.skip))))))))))))))))) (bodyPost Tryz.prog Tryz.f29 (HeadP w0 x vB L R w)) { tmps := #[.pointer (some ⟨x, 0, none⟩), u1, .pointer (some ⟨g2, 0, none⟩), .pointer (some ⟨g3, 0, none⟩), .pointer (some ⟨g4, 0, none⟩), u5, .pointer (some ⟨g6, 0, none⟩), u7, u8, .int .u64 (n : Int), u10, u11, u12, u13, u14, u15, u16, u17, u18, u19, u20, u21, u22, u23, u24, u25, u26, u27, u28, u29, u30, u31, u32, u33, u34, u35, u36, u37, u38, u39, u40, u41, u42, u43, u44, u45, u46, u47, u48, u49, u50, u51, u52, u53, u54, u55, u56, u57, u58, u59, u60, u61, u62, u63, u64, u65, u66, u67, u68, u69, u70, u71, u72, u73, u74, u75, u76, u77, u78, u79, u80, u81, u82, u83, u84, u85, u86, u87, u88, u89, u90, u91, u92, u93, u94, u95, u96, u97, u98, u99, u100, u101, u102, u103, u104, u105, u106, u107, u108, u109, u110, u111, u112, u113, u114, u115, u116, u117, u118, u119, u120, u121, u122, u123, u124, u125, u126, u127, u128, u129, u130, u131, u132], defers := [] } w1 := by
 have H0 := Keep.mk hS
 have HR := Keep.mk hR
 clear hS hR
 refine wp_seq_k fun K1 hK1 => ?_
 refine wp_seq_k fun K2 hK2 => rgn ?_
 refine VlS (.int .i64 0) ?_
 refine WL.nil (hK2 _ _ ?_)
 refine wp_block ?_
 refine wp_loop (fun ac wr => ∃ (t : Nat) (f : Nat → Value), ac = { tmps := #[.pointer (some ⟨x, 0, none⟩), u1, .pointer (some ⟨g2, 0, none⟩), .pointer (some ⟨g3, 0, none⟩), .pointer (some ⟨g4, 0, none⟩), u5, .pointer (some ⟨g6, 0, none⟩), u7, u8, .int .u64 (n : Int), .int .i64 (t : Int), f 11, f 12, f 13, u14, u15, u16, u17, u18, u19, u20, u21, u22, u23, u24, u25, u26, u27, u28, u29, u30, u31, u32, u33, u34, u35, u36, u37, u38, u39, u40, u41, u42, u43, u44, u45, u46, u47, u48, u49, u50, u51, u52, u53, u54, u55, u56, u57, u58, u59, u60, u61, u62, u63, u64, u65, u66, u67, u68, u69, u70, u71, u72, u73, u74, u75, u76, u77, u78, u79, u80, u81, u82, u83, u84, u85, u86, u87, f 88, f 89, f 90, f 91, f 92, f 93, f 94, f 95, f 96, f 97, f 98, f 99, f 100, f 101, f 102, f 103, f 104, f 105, f 106, f 107, f 108, f 109, f 110, f 111, f 112, f 113, f 114, f 115, f 116, f 117, f 118, f 119, f 120, f 121, f 122, f 123, f 124, f 125, f 126, f 127, f 128, f 129, f 130, u131, u132], defers := [] } ∧ t ≤ n ∧ ∃ pa pc l at_, HS w0 w x g2 g3 g4 g6 vB L 0 at_ au ck (.slice pa l.length pc) 0 0 wr ∧ OwnH wr (.slice pa l.length pc) l ∧ (∀ k, (Value.slice pa l.length pc).ownBlock = some k → w.heap.size ≤ k) ∧ l.length = t ∧ getH L n [] a = getH L (n - t) l at_) (fun a _ => n - (intOf (a.tmps.getD 10 undef)).toNat) ⟨0, fun i => [.pointer (some ⟨x, 0, none⟩), u1, .pointer (some ⟨g2, 0, none⟩), .pointer (some ⟨g3, 0, none⟩), .pointer (some ⟨g4, 0, none⟩), u5, .pointer (some ⟨g6, 0, none⟩), u7, u8, .int .u64 (n : Int), .int .i64 0, u11, u12, u13, u14, u15, u16, u17, u18, u19, u20, u21, u22, u23, u24, u25, u26, u27, u28, u29, u30, u31, u32, u33, u34, u35, u36, u37, u38, u39, u40, u41, u42, u43, u44, u45, u46, u47, u48, u49, u50, u51, u52, u53, u54, u55, u56, u57, u58, u59, u60, u61, u62, u63, u64, u65, u66, u67, u68, u69, u70, u71, u72, u73, u74, u75, u76, u77, u78, u79, u80, u81, u82, u83, u84, u85, u86, u87, u88, u89, u90, u91, u92, u93, u94, u95, u96, u97, u98, u99, u100, u101, u102, u103, u104, u105, u106, u107, u108, u109, u110, u111, u112, u113, u114, u115, u116, u117, u118, u119, u120, u121, u122, u123, u124, u125, u126, u127, u128, u129, u130, u131, u132].getD i undef, rfl, by omega, none, 0, [], a, H0.out, ownH_nil _, fun k hk => by simp [Value.ownBlock] at hk, rfl, rfl⟩ ?_
 rintro ac wr ⟨t, f, rfl, ht, pa, pc, l, at_, hS, hO, hN, hLn, hC⟩
 have JS := Keep.mk hS
 have JO := Keep.mk hO
 have JN := Keep.mk hN
 have JL := Keep.mk hLn
 have JC := Keep.mk hC
 clear hS hO hN hLn hC
 have hcv : IntKind.i64.wrap (n : Int) = (n : Int) := by rw [IntKind.wrap_i64]; omega
 by_cases hlt : t < n
 ·have hlt' : (t : Int) < (n : Int) := by omega
  have hwt : IntKind.i64.wrap ((t : Int) + 1) = (t : Int) + 1 := by rw [IntKind.wrap_i64]; omega
  have k1 := JS.out.rx.c1
  obtain ⟨k1', hk1⟩ : ∃ k1, n - t = k1 + 1 := ⟨n - t - 1, by omega⟩
  rw [hk1, getH] at JC
  have hk2 : k1' = n - (t + 1) := by omega
  rw [hk2] at JC
  clear hk1 hk2 k1'
  have HC0 := Keep.mk (xhash_x JS.out.rx)
  obtain ⟨D, hD⟩ : ∃ D, D = L.drop at_ := ⟨_, rfl⟩
  rw [← hD] at HC0 JC
  have HBD : Keep (Byts D) := ⟨by rw [hD]; exact JS.out.rx.byts.drop at_⟩
  obtain ⟨W1, hW1⟩ : ∃ W1, Keep (W1 = nextW D 32) := ⟨_, ⟨rfl⟩⟩
  obtain ⟨N1, hN1⟩ : ∃ N1, Keep (N1 = nextN D 32) := ⟨_, ⟨rfl⟩⟩
  rw [← hW1.out, ← hN1.out] at HC0 JC
  obtain ⟨hh, hhh⟩ : ∃ hh : Hs, Keep (hh = if W1 = 0 then hs (D.take 32) else hs []) := ⟨_, ⟨rfl⟩⟩
  have heq : bytesA 32 (hrd D W1) = bytesA 32 hh.f := by
   by_cases h : W1 = 0
   ·rw [hhh.out, if_pos h, h]; exact hrd_hs D (by rw [← hW1.out]; exact h) HBD.out
   ·rw [hhh.out, if_neg h]; exact hrd_bad D W1 h
  rw [heq] at HC0
  obtain ⟨b1, hb1⟩ : ∃ b1, Keep (b1 = bOf W1 (at_ + N1)) := ⟨_, ⟨rfl⟩⟩
  unfold RXP at HC0
  rw [← hb1.out] at HC0
  clear hD heq
  refine wp_seq_k fun K3 hK3 => ?_
  refine wp_seq_k fun K4 hK4 => rgn ?_
  refine VlS (.int .i64 (t : Int)) ?_
  refine VlS (.int .u64 (n : Int)) ?_
  refine VlS (.int .i64 (n : Int)) ?_
  refine VlS (.bool true) ?_
  refine WL.nil (hK4 _ _ ?_)
  refine wp_cond_true rfl ?_
  refine wp_skip ?_
  refine hK3 _ _ ?_
  refine wp_seq_k fun K5 hK5 => ?_
  refine wp_block ?_
  refine wp_seq_k fun K6 hK6 => rgn ?_
  refine VlS (.pointer (some ⟨x, 0, none⟩)) ?_
  refine VlS (.pointer (some ⟨x, 0, none⟩)) ?_
  refine VlS (.pointer (some ⟨x, 1, none⟩)) ?_
  refine VlS (.int .i64 (at_ : Int)) ?_
  refine VlS (.int .i64 (at_ : Int)) ?_
  refine WL.nil (hK6 _ _ ?_)
  refine wp_seq_k fun K7 hK7 => rgn ?_
  refine VlS (.pointer (some ⟨x, 0, none⟩)) ?_
  refine WL.callF (by kernel_rfl) 59 _ _ rfl Tryz.in59 #[ptr x] (by simp [Act.eval]) ?_
  refine (HC0.out).mono ?_
  rintro e w4 ⟨rfl, h1, h2⟩
  refine ⟨_, rfl, ?_⟩
  have H4 := Keep.mk (JS.out.call h1 h2)
  have O4 := Keep.mk (JO.out.grown h2 (fun k hk e => JO.out.ne JS.out.rx.blk (by decide) (e ▸ hk)))
  clear h1 h2 k1 HC0
  simp only [Act.put, pqA, pqB, pqC]
  refine VlS (.tuple #[.agg (bytesA 32 hh.f), .agg (erA W1 b1)]) ?_
  refine VlS (.agg (bytesA 32 hh.f)) ?_
  refine VlS (.agg (erA W1 b1)) ?_
  refine WL.new (by kernel_rfl) 41 rfl _ Tryz.new41 ?_
  have HA1 := Keep.mk (Blk.new w4 41 (bytesA 32 fun _ => 0))
  have BA1 := Keep.mk (below_new w4 (.cells (bytesA 32 fun _ => 0) 41))
  generalize w4.alloc (.cells (bytesA 32 fun _ => 0) 41) = w5 at *
  obtain ⟨g12, hg12⟩ : ∃ g, Keep (g = w4.heap.size) := ⟨_, ⟨rfl⟩⟩
  rw [← hg12.out] at HA1 ⊢
  simp only [Act.put, pqA, pqB, pqC]
  refine WL.new (by kernel_rfl) 34 rfl _ Tryz.new34E ?_
  have HE1 := Keep.mk (Blk.new w5 34 (erA 0 0))
  have HA2 := Keep.mk (HA1.out.alloc (.cells (erA 0 0) 34))
  have BA2 : Keep (Below w4.heap.size w4 (w5.alloc (.cells (erA 0 0) 34))) := ⟨BA1.out.trans ((below_new w5 _).mono BA1.out.size)⟩
  generalize w5.alloc (.cells (erA 0 0) 34) = w6 at *
  obtain ⟨g13, hg13⟩ : ∃ g, Keep (g = w5.heap.size) := ⟨_, ⟨rfl⟩⟩
  rw [← hg13.out] at HE1 ⊢
  clear HA1
  simp only [Act.put, pqA, pqB, pqC]
  refine WL.storeR (by kernel_rfl) 41 (.tmp 12) (.tmp 101) rfl g12 (bytesA 32 hh.f) rfl rfl 41 (bytesA 32 fun _ => 0) HA2.out (Tryz.size41B _) (bytesA_sizes _ _ _) (bytesA_one _ _) ?_
  have HA3 := Keep.mk (HA2.out.setRow (bytesA 32 hh.f))
  have HE3 := Keep.mk (HE1.out.setRow_ne (b' := g12) (blk_ne HE1.out HA2.out (by decide)) (bytesA 32 hh.f))
  have BA3 := Keep.mk (below_setRow BA2.out (b := g12) (by rw [hg12.out]; exact Nat.le_refl _) (bytesA 32 hh.f))
  generalize w6.setRow g12 (bytesA 32 hh.f) = w7 at *
  clear HA2 HE1 BA2
  simp only [Act.put]
  refine WL.storeR (by kernel_rfl) 34 (.tmp 13) (.tmp 102) rfl g13 (erA W1 b1) rfl rfl 34 (erA 0 0) HE3.out (Tryz.size34B _ _) (erA_sizes _ _ _ _) (erA_one _ _) ?_
  have HE := Keep.mk (HE3.out.setRow (erA W1 b1))
  have HA := Keep.mk (HA3.out.setRow_ne (b' := g13) (blk_ne HA3.out HE3.out (by decide)) (erA W1 b1))
  have BA := Keep.mk (below_setRow BA3.out (b := g13) (by rw [hg13.out]; exact BA1.out.size) (erA W1 b1))
  have H13n : Keep (g13 ≠ g3) := ⟨fun e => by have h1 := H4.out.r3.lt; have h2 := BA1.out.size; have h3 := hg13.out; omega⟩
  generalize w7.setRow g13 (erA W1 b1) = w8 at *
  have H8 := Keep.mk (H4.out.below BA.out)
  have O8 := Keep.mk (O4.out.below BA.out)
  have c13 := HE.out.c 0 (by rfl : (erA W1 b1)[0]? = some (.int .i64 W1))
  clear HA3 HE3 BA3 BA1 H4 O4 hg12 hg13 BA
  simp only [Act.put]
  refine WL.nil (hK7 _ _ ?_)
  refine wp_seq_k fun K8 hK8 => ?_
  refine wp_seq_k fun K9 hK9 => ?_
  by_cases hE1 : W1 = 0
  ·have hHH := hhh.out
   rw [if_pos hE1] at hHH
   have JC2 := Keep.mk JC.out
   rw [if_neg (by simp [hE1]), ← hHH] at JC2
   have hNN : N1 = 32 := by rw [hN1.out, (nextN_0 D 32 (by rw [← hW1.out]; exact hE1)).1]; rfl
   rw [hE1, hNN] at H8
   clear hHH hNN JC
   refine rgn ?_
   refine VlS (.pointer (some ⟨g13, 0, none⟩)) ?_
   refine VlS (.int .i64 W1) ?_
   refine VlS (.bool false) ?_
   refine WL.nil (hK9 _ _ ?_)
   refine wp_cond_false rfl ?_
   refine wp_skip ?_
   refine hK8 _ _ ?_
   refine wp_seq_k fun K10 hK10 => ?_
   refine wp_seq_k fun K11 hK11 => ?_
   have hD0 : Below w8.heap.size w8 w8.drew := (Below.refl _ _).drew
   clear c13
   by_cases ht0 : 0 < t
   ·have ht0' : (0 : Int) < (t : Int) := by omega
    have hlt1 : l.length - 1 < l.length := by have := JL.out; omega
    obtain ⟨gL, cL, hsl, hel⟩ := O8.out.elem (l.length - 1) hlt1
    injection hsl with hs1 hs2 hs3
    subst hs1 hs3
    obtain ⟨hp, hhp⟩ : ∃ hp, hp = l.getD (l.length - 1) default := ⟨_, rfl⟩
    rw [← hhp] at hel
    have Hcc : Keep (l.getD (l.length - 1) default = hp) := ⟨hhp.symm⟩
    have hsub : IntKind.i64.wrap ((t : Int) - 1) = ((l.length - 1 : Nat) : Int) := by rw [IntKind.wrap_i64]; have := JL.out; omega
    have HS0 : Keep (∀ wx, Below w8.heap.size w8 wx → wx.cell? ⟨g4, 2, none⟩ = some (.slice (some ⟨gL, 0, none⟩) l.length pc) ∧ wx.rangeAt gL ((l.length - 1) * 32) (Sh.encH hp) ∧ wx.rangeAt g12 0 (bytesA 32 hh.f).toList) := ⟨fun wx hb => ⟨(H8.out.n.below hb H8.out.n.lt).c 2 rfl, hel wx (fun cs h => h.below hb h.lt), blk_range (HA.out.below hb HA.out.lt)⟩⟩
    clear hel hhp
    by_cases hcf : 0 ≤ Sh.cf hp hh
    ·skip
     have JC3 := Keep.mk (JC2.out.trans (if_pos ⟨by have := JL.out; omega, by rw [Hcc.out]; exact hcf⟩))
     refine wp_region_held_drew (S := fun wx => wx.cell? ⟨g4, 2, none⟩ = some (.slice (some ⟨gL, 0, none⟩) l.length pc) ∧ wx.rangeAt gL ((l.length - 1) * 32) (Sh.encH hp) ∧ wx.rangeAt g12 0 (bytesA 32 hh.f).toList) (by kernel_rfl) (HS0.out _ hD0) (fun hHeld => ?_)
     refine tkS (i := 0) (oi := ⟨some 108, Op.move (Operand.tmp 10), 3, _, _, none⟩) (v := .int .i64 (t : Int)) rfl (Or.inl ⟨by rfl, fun w hS => by obtain ⟨hS1, hS2, hS3⟩ := hS; go_simp⟩) hHeld ?_
     refine tkS (i := 1) (oi := ⟨some 109, Op.binOp BinOp.gtr 3 (Operand.tmp 108) (Operand.const (Value.int IntKind.i64 0)) 3, 4, _, _, none⟩) (v := .bool true) rfl (Or.inl ⟨by rfl, fun w hS => by obtain ⟨hS1, hS2, hS3⟩ := hS; go_simp⟩) hHeld ?_
     refine tkS (i := 2) (oi := ⟨some 110, Op.move (Operand.tmp 109), 4, _, _, none⟩) (v := .bool true) rfl (Or.inl ⟨by rfl, fun w hS => by obtain ⟨hS1, hS2, hS3⟩ := hS; go_simp⟩) hHeld ?_
     refine tkS (i := 3) (oi := ⟨some 111, Op.fieldAddr 28 (Operand.tmp 4) 2, 0, _, _, some (2, true)⟩) (v := .pointer (some ⟨g4, 2, none⟩)) rfl (Or.inl ⟨by rfl, fun w hS => by obtain ⟨hS1, hS2, hS3⟩ := hS; go_simp⟩) hHeld ?_
     refine tkS (i := 4) (oi := ⟨some 112, Op.load 25 (Operand.tmp 111), 25, _, _, some (2, true)⟩) (v := .slice (some ⟨gL, 0, none⟩) l.length pc) rfl (Or.inl ⟨by rfl, fun w hS => by obtain ⟨hS1, hS2, hS3⟩ := hS; go_simp⟩) hHeld ?_
     refine tkS (i := 5) (oi := ⟨some 113, Op.move (Operand.tmp 10), 3, _, _, some (2, true)⟩) (v := .int .i64 (t : Int)) rfl (Or.inl ⟨by rfl, fun w hS => by obtain ⟨hS1, hS2, hS3⟩ := hS; go_simp⟩) hHeld ?_
     refine tkS (i := 6) (oi := ⟨some 114, Op.binOp BinOp.sub 3 (Operand.tmp 113) (Operand.const (Value.int IntKind.i64 1)) 3, 3, _, _, some (2, true)⟩) (v := .int .i64 ((l.length - 1 : Nat) : Int)) rfl (Or.inl ⟨by rfl, fun w hS => by obtain ⟨hS1, hS2, hS3⟩ := hS; go_simp⟩) hHeld ?_
     refine tkS (i := 7) (oi := ⟨some 115, Op.indexAddr 25 (Operand.tmp 112) (Operand.tmp 114), 0, _, _, some (2, true)⟩) (v := .pointer (some ⟨gL, (l.length - 1) * 32, none⟩)) rfl (Or.inl ⟨by rfl, fun w hS => by go_simp; try (intro h; omega)⟩) hHeld ?_
     refine tkS (i := 8) (oi := ⟨some 116, Op.load 41 (Operand.tmp 115), 41, _, _, some (2, true)⟩) (v := .agg (Sh.encH hp).toArray) rfl (yieldsIf_load_mid (by rfl) 41 (Operand.tmp 115) rfl gL ((l.length - 1) * 32) rfl (Sh.encH hp) _ (fun w hS => hS.2.1) Tryz.underlying41 rfl (Tryz.sizeHL hp)) hHeld ?_
     refine tkS (i := 9) (oi := ⟨some 117, Op.load 41 (Operand.tmp 12), 41, _, _, some (2, true)⟩) (v := .agg (bytesA 32 hh.f).toList.toArray) rfl (yieldsIf_load_mid (by rfl) 41 (Operand.tmp 12) rfl g12 0 rfl (bytesA 32 hh.f).toList _ (fun w hS => hS.2.2) Tryz.underlying41 rfl (by rw [Array.length_toList]; exact Tryz.size41B _)) hHeld ?_
     refine wpAnyH_ready (rs := [10]) (by kernel_rfl) (by simp) ?_
     refine AllReadyH.cons (o := ⟨some 118, Op.call { callee := Callee.value (Operand.func 60), args := #[Operand.tmp 116, Operand.tmp 117], argTypes := #[41, 41] }, 3, _, _, some (2, true)⟩) rfl (fun K hK => ?_) AllReadyH.nil
     rw [if_pos (by rfl)]
     refine wp_callF 60 _ _ rfl Tryz.in60 #[.agg (bytesA 32 hp.f), .agg (bytesA 32 hh.f)] (by simp [Act.eval, enc_load]) (fun vz wz => vz = .int .i64 (Sh.cf hp hh) ∧ Below w8.heap.size w8 wz) ?_ ?_
     ·refine (refCompare_B hp hh w8.drew).mono ?_
      rintro e wz ⟨rfl, h⟩
      exact ⟨_, rfl, rfl, hD0.trans (h.mono hD0.size)⟩
     rintro vz w9 ⟨rfl, h9⟩
     have HB9 := Keep.mk h9
     clear h9
     refine hK.out _ _ (HS0.out _ HB9.out) fun hHeld2 => ?_
     clear hK
     simp only [Act.put, pqA, pqB, pqC]
     refine tkS (i := 11) (oi := ⟨some 119, Op.binOp BinOp.geq 3 (Operand.tmp 118) (Operand.const (Value.int IntKind.i64 0)) 3, 4, _, _, some (2, true)⟩) (v := .bool true) rfl (Or.inl ⟨by rfl, fun w hS => by obtain ⟨hS1, hS2, hS3⟩ := hS; go_simp⟩) hHeld2 ?_
     refine tkS (i := 12) (oi := ⟨some 120, Op.pick (Operand.tmp 110) (Operand.tmp 119) (Operand.const (Value.bool false)), 4, _, _, none⟩) (v := .bool true) rfl (Or.inl ⟨by rfl, fun w hS => by obtain ⟨hS1, hS2, hS3⟩ := hS; go_simp⟩) hHeld2 ?_
     refine wpAnyH_done (by kernel_rfl) ?_ _
     refine hK11 _ _ ?_
     refine wp_cond_true rfl ?_
     refine wp_seq_k fun K12 hK12 => ?_
     have H9 := Keep.mk (H8.out.below HB9.out)
     have hD0 : Below w9.heap.size w9 w9.drew := (Below.refl _ _).drew
     have k4 := H9.out.n.drew
     refine wp_region_held_drew (S := fun wx => wx.rangeAt g4 0 (ndA au ck (.slice (some ⟨gL, 0, none⟩) l.length pc) noS).toList) (by kernel_rfl) (blk_range k4) (fun hHeld => ?_)
     refine tkS (i := 0) (oi := ⟨some 121, Op.load 28 (Operand.tmp 4), 28, _, _, none⟩) (v := .agg (ndA au ck (.slice (some ⟨gL, 0, none⟩) l.length pc) noS)) rfl (yieldsIf_load_mid (by rfl) 28 (Operand.tmp 4) rfl g4 0 rfl (ndA au ck (.slice (some ⟨gL, 0, none⟩) l.length pc) noS).toList _ (fun w hS => hS) Tryz.underlying28 rfl (Tryz.size28B _ _ _ _)) hHeld ?_
     refine tkS (i := 1) (oi := ⟨some 122, Op.move (Operand.tmp 0), 76, _, _, none⟩) (v := .pointer (some ⟨x, 0, none⟩)) rfl (Or.inl ⟨by rfl, fun w hS => by go_simp⟩) hHeld ?_
     refine tkS (i := 2) (oi := ⟨some 123, Op.move (Operand.tmp 11), 3, _, _, none⟩) (v := .int .i64 (at_ : Int)) rfl (Or.inl ⟨by rfl, fun w hS => by go_simp⟩) hHeld ?_
     refine wpAnyH_ready (rs := [3]) (by kernel_rfl) (by simp) ?_
     refine AllReadyH.cons (o := ⟨some 124, Op.call { callee := Callee.value (Operand.func 57), args := #[Operand.tmp 122, Operand.const (Value.int IntKind.i64 52), Operand.tmp 123], argTypes := #[76, 3, 3] }, 34, _, _, none⟩) rfl (fun K hK => ?_) AllReadyH.nil
     rw [if_pos (by rfl)]
     refine wp_callF 57 _ _ rfl Tryz.in57 #[ptr x, .int .i64 52, .int .i64 (at_ : Int)] (by simp [Act.eval]) (fun vz wz => vz = .agg (erA 52 (at_ : Int)) ∧ HS w0 w x g2 g3 g4 g6 vB L 52 at_ au ck (.slice (some ⟨gL, 0, none⟩) l.length pc) 0 0 wz) ?_ ?_
     ·refine (xwrong_x at_ 52 (by decide) JS.out.rx.le (H9.out.below hD0).rx).mono ?_
      rintro e wz ⟨rfl, h1, h2⟩
      exact ⟨_, rfl, rfl, (H9.out.below hD0).call h1 h2⟩
     rintro vz wz ⟨rfl, hz⟩
     have HZ := Keep.mk hz
     clear hz
     have k2 := HZ.out.r2
     have k3 := HZ.out.r3
     have k4' := HZ.out.n
     refine hK.out _ _ (blk_range k4') fun hHz => ?_
     clear hK
     simp only [Act.put, pqA, pqB, pqC]
     refine wpAnyH_ready (rs := [4]) (by kernel_rfl) (by simp) ?_
     refine AllReadyH.cons (o := ⟨none, Op.store 28 (Operand.tmp 2) (Operand.tmp 121), 0, _, _, none⟩) rfl (fun K hK => ?_) AllReadyH.nil
     rw [if_pos (by rfl)]
     refine wp_store_row 28 (.tmp 2) (.tmp 121) rfl g2 (ndA au ck (.slice (some ⟨gL, 0, none⟩) l.length pc) noS) rfl rfl 28 (ndA 0 0 noS noS) k2 (Tryz.size28B _ _ _ _) rfl (nd_one _ _ _ _ _ _ _ _) ?_
     refine hK.out _ _ (blk_range (k4'.setRow_ne HZ.out.n24 _)) fun hH2 => ?_
     clear hK
     simp only [Act.put, pqA, pqB, pqC]
     refine wpAnyH_ready (rs := [5]) (by kernel_rfl) (by simp) ?_
     refine AllReadyH.cons (o := ⟨none, Op.store 34 (Operand.tmp 3) (Operand.tmp 124), 0, _, _, none⟩) rfl (fun K hK => ?_) AllReadyH.nil
     rw [if_pos (by rfl)]
     refine wp_store_row 34 (.tmp 3) (.tmp 124) rfl g3 (erA 52 (at_ : Int)) rfl rfl 34 (erA 0 0) (k3.setRow_ne (blk_ne k3 k2 (by decide)) _) (Tryz.size34B _ _) (erA_sizes _ _ _ _) (erA_one _ _) ?_
     refine hK.out _ _ (blk_range ((k4'.setRow_ne HZ.out.n24 _).setRow_ne (blk_ne k4' k3 (by decide)) _)) fun hH3 => ?_
     clear hK
     simp only [Act.put, pqA, pqB, pqC]
     refine wpAnyH_done (by kernel_rfl) ?_ _
     refine hK12 _ _ ?_
     refine wp_ret ?_
     refine bodyPost_ret (v := .tuple #[.agg (ndA au ck (.slice (some ⟨gL, 0, none⟩) l.length pc) noS), .agg (erA 52 (at_ : Int))]) (results_cell_cell_row Tryz.results29 _ _ g2 g3 28 34 _ _ (0, 0) (0, 0) _ _ rfl rfl ((k2.setRow _).setRow_ne (blk_ne k2 k3 (by decide)) _) ((k3.setRow_ne (blk_ne k3 k2 (by decide)) _).setRow _) Tryz.underlying28 rfl (Tryz.size28B _ _ _ _) Tryz.underlying34 rfl (Tryz.size34B _ _)) rfl ?_
     rw [HR.out]
     unfold hfin
     rw [JC3.out, if_pos (show (52 : Int) ≠ 0 by decide)]
     exact HS.done HZ.out (two_grown' g2 g3 _ _) rfl rfl (bOf_1 (by decide) at_).symm (fun h => absurd h (by decide))
    ·skip
     have JC3 := Keep.mk (JC2.out.trans (if_neg (fun h => hcf (by rw [← Hcc.out]; exact h.2))))
     refine wp_region_held_drew (S := fun wx => wx.cell? ⟨g4, 2, none⟩ = some (.slice (some ⟨gL, 0, none⟩) l.length pc) ∧ wx.rangeAt gL ((l.length - 1) * 32) (Sh.encH hp) ∧ wx.rangeAt g12 0 (bytesA 32 hh.f).toList) (by kernel_rfl) (HS0.out _ hD0) (fun hHeld => ?_)
     refine tkS (i := 0) (oi := ⟨some 108, Op.move (Operand.tmp 10), 3, _, _, none⟩) (v := .int .i64 (t : Int)) rfl (Or.inl ⟨by rfl, fun w hS => by obtain ⟨hS1, hS2, hS3⟩ := hS; go_simp⟩) hHeld ?_
     refine tkS (i := 1) (oi := ⟨some 109, Op.binOp BinOp.gtr 3 (Operand.tmp 108) (Operand.const (Value.int IntKind.i64 0)) 3, 4, _, _, none⟩) (v := .bool true) rfl (Or.inl ⟨by rfl, fun w hS => by obtain ⟨hS1, hS2, hS3⟩ := hS; go_simp⟩) hHeld ?_
     refine tkS (i := 2) (oi := ⟨some 110, Op.move (Operand.tmp 109), 4, _, _, none⟩) (v := .bool true) rfl (Or.inl ⟨by rfl, fun w hS => by obtain ⟨hS1, hS2, hS3⟩ := hS; go_simp⟩) hHeld ?_
     refine tkS (i := 3) (oi := ⟨some 111, Op.fieldAddr 28 (Operand.tmp 4) 2, 0, _, _, some (2, true)⟩) (v := .pointer (some ⟨g4, 2, none⟩)) rfl (Or.inl ⟨by rfl, fun w hS => by obtain ⟨hS1, hS2, hS3⟩ := hS; go_simp⟩) hHeld ?_
     refine tkS (i := 4) (oi := ⟨some 112, Op.load 25 (Operand.tmp 111), 25, _, _, some (2, true)⟩) (v := .slice (some ⟨gL, 0, none⟩) l.length pc) rfl (Or.inl ⟨by rfl, fun w hS => by obtain ⟨hS1, hS2, hS3⟩ := hS; go_simp⟩) hHeld ?_
     refine tkS (i := 5) (oi := ⟨some 113, Op.move (Operand.tmp 10), 3, _, _, some (2, true)⟩) (v := .int .i64 (t : Int)) rfl (Or.inl ⟨by rfl, fun w hS => by obtain ⟨hS1, hS2, hS3⟩ := hS; go_simp⟩) hHeld ?_
     refine tkS (i := 6) (oi := ⟨some 114, Op.binOp BinOp.sub 3 (Operand.tmp 113) (Operand.const (Value.int IntKind.i64 1)) 3, 3, _, _, some (2, true)⟩) (v := .int .i64 ((l.length - 1 : Nat) : Int)) rfl (Or.inl ⟨by rfl, fun w hS => by obtain ⟨hS1, hS2, hS3⟩ := hS; go_simp⟩) hHeld ?_
     refine tkS (i := 7) (oi := ⟨some 115, Op.indexAddr 25 (Operand.tmp 112) (Operand.tmp 114), 0, _, _, some (2, true)⟩) (v := .pointer (some ⟨gL, (l.length - 1) * 32, none⟩)) rfl (Or.inl ⟨by rfl, fun w hS => by go_simp; try (intro h; omega)⟩) hHeld ?_
     refine tkS (i := 8) (oi := ⟨some 116, Op.load 41 (Operand.tmp 115), 41, _, _, some (2, true)⟩) (v := .agg (Sh.encH hp).toArray) rfl (yieldsIf_load_mid (by rfl) 41 (Operand.tmp 115) rfl gL ((l.length - 1) * 32) rfl (Sh.encH hp) _ (fun w hS => hS.2.1) Tryz.underlying41 rfl (Tryz.sizeHL hp)) hHeld ?_
     refine tkS (i := 9) (oi := ⟨some 117, Op.load 41 (Operand.tmp 12), 41, _, _, some (2, true)⟩) (v := .agg (bytesA 32 hh.f).toList.toArray) rfl (yieldsIf_load_mid (by rfl) 41 (Operand.tmp 12) rfl g12 0 rfl (bytesA 32 hh.f).toList _ (fun w hS => hS.2.2) Tryz.underlying41 rfl (by rw [Array.length_toList]; exact Tryz.size41B _)) hHeld ?_
     refine wpAnyH_ready (rs := [10]) (by kernel_rfl) (by simp) ?_
     refine AllReadyH.cons (o := ⟨some 118, Op.call { callee := Callee.value (Operand.func 60), args := #[Operand.tmp 116, Operand.tmp 117], argTypes := #[41, 41] }, 3, _, _, some (2, true)⟩) rfl (fun K hK => ?_) AllReadyH.nil
     rw [if_pos (by rfl)]
     refine wp_callF 60 _ _ rfl Tryz.in60 #[.agg (bytesA 32 hp.f), .agg (bytesA 32 hh.f)] (by simp [Act.eval, enc_load]) (fun vz wz => vz = .int .i64 (Sh.cf hp hh) ∧ Below w8.heap.size w8 wz) ?_ ?_
     ·refine (refCompare_B hp hh w8.drew).mono ?_
      rintro e wz ⟨rfl, h⟩
      exact ⟨_, rfl, rfl, hD0.trans (h.mono hD0.size)⟩
     rintro vz w9 ⟨rfl, h9⟩
     have HB9 := Keep.mk h9
     clear h9
     refine hK.out _ _ (HS0.out _ HB9.out) fun hHeld2 => ?_
     clear hK
     simp only [Act.put, pqA, pqB, pqC]
     refine tkS (i := 11) (oi := ⟨some 119, Op.binOp BinOp.geq 3 (Operand.tmp 118) (Operand.const (Value.int IntKind.i64 0)) 3, 4, _, _, some (2, true)⟩) (v := .bool false) rfl (Or.inl ⟨by rfl, fun w hS => by obtain ⟨hS1, hS2, hS3⟩ := hS; go_simp⟩) hHeld2 ?_
     refine tkS (i := 12) (oi := ⟨some 120, Op.pick (Operand.tmp 110) (Operand.tmp 119) (Operand.const (Value.bool false)), 4, _, _, none⟩) (v := .bool false) rfl (Or.inl ⟨by rfl, fun w hS => by obtain ⟨hS1, hS2, hS3⟩ := hS; go_simp⟩) hHeld2 ?_
     refine wpAnyH_done (by kernel_rfl) ?_ _
     refine hK11 _ _ ?_
     refine wp_cond_false rfl ?_
     refine wp_skip ?_
     refine hK10 _ _ ?_
     have H9 := Keep.mk (H8.out.below HB9.out)
     have O9 := Keep.mk (O8.out.below HB9.out)
     have A9 := Keep.mk (HA.out.below HB9.out HA.out.lt)
     have c4 := H9.out.n.c 2 (by rfl : (ndA au ck (.slice (some ⟨gL, 0, none⟩) l.length pc) noS)[2]? = some (.slice (some ⟨gL, 0, none⟩) l.length pc))
     refine rgn ?_
     refine VlS (.pointer (some ⟨g4, 2, none⟩)) ?_
     refine VlS (.slice (some ⟨gL, 0, none⟩) l.length pc) ?_
     refine WL.row (by kernel_rfl) 41 (.tmp 12) rfl g12 rfl 41 (bytesA 32 hh.f) _ A9.out Tryz.underlying41 rfl (Tryz.size41B _) ?_
     clear c4
     simp only [Act.put, pqA, pqB, pqC]
     refine WL.bs (by kernel_rfl) 25 1 _ rfl #[(0, .agg (bytesA 32 hh.f))] (by simp [Act.eval]) _ _ (bsH hh w9) ?_
     have HB11 := Keep.mk (Blk.new w9 41 (bytesA 32 hh.f))
     have B11 := Keep.mk (below_new w9 (.cells (bytesA 32 hh.f) 41))
     generalize w9.alloc (.cells (bytesA 32 hh.f) 41) = w11 at *
     have H11 := Keep.mk (H9.out.below B11.out)
     have O11 := Keep.mk (O9.out.below B11.out)
     simp only [Act.put, pqA, pqB, pqC]
     refine WL.appH (by kernel_rfl) (.tmp 126) (.tmp 128) rfl (.slice (some ⟨gL, 0, none⟩) l.length pc) l w9.heap.size hh rfl rfl O11.out HB11.out (by have := JL.out; omega) ?_
     intro v4 w12 h1 h2 h3
     obtain ⟨pa2, pc2, rfl⟩ := h1.sl
     have O12 := Keep.mk h1
     have H12 := Keep.mk (H11.out.own h2 (fun e => O11.out.ne H11.out.rx.blk (by decide) e) (fun e => O11.out.ne H11.out.r2 (by decide) e) (fun e => O11.out.ne H11.out.r3 (by decide) e) (fun e => O11.out.ne H11.out.n (by decide) e) (fun e => O11.out.ne H11.out.e (by decide) e) (fun k hk e => absurd (JN.out k e) (by omega)))
     have N12 : Keep (∀ k, (Value.slice pa2 (l ++ [hh]).length pc2).ownBlock = some k → w.heap.size ≤ k) := ⟨fun k hk => by
      rcases h3 with e | ⟨j, e, hj⟩
      ·rw [e] at hk; exact JN.out k hk
      ·rw [e] at hk; injection hk with hk; have := H11.out.gr.size; omega⟩
     clear h1 h2 h3 H11 O11 HB11 B11
     simp only [Act.put, pqA, pqB, pqC]
     refine VlS (.pointer (some ⟨g4, 2, none⟩)) ?_
     have c_o := H12.out.n.c 2 (by rfl : (ndA au ck (.slice (some ⟨gL, 0, none⟩) l.length pc) noS)[2]? = some (.slice (some ⟨gL, 0, none⟩) l.length pc))
     have f_o := H12.out.n.frozen 2
     refine WL.cell (by kernel_rfl) (w12.setCell ⟨g4, 2, none⟩ (.slice pa2 (l ++ [hh]).length pc2)) (by go_simp) ?_
     clear c_o f_o
     have H13 := Keep.mk (H12.out.setN (w2 := w12.setCell ⟨g4, 2, none⟩ (.slice pa2 (l ++ [hh]).length pc2)) (by have h := H12.out.n.set 2 (.slice pa2 (l ++ [hh]).length pc2); rw [nd_set2] at h; exact h) (Grown.setCell w12 g4 2 _ fun _ => rfl))
     have O13 := Keep.mk (O12.out.grown (Grown.setCell w12 g4 2 (.slice pa2 (l ++ [hh]).length pc2) (S := fun k => k = g4) fun _ => rfl) (fun k hk e => O12.out.ne H12.out.n (by decide) (e ▸ hk)))
     generalize w12.setCell ⟨g4, 2, none⟩ (.slice pa2 (l ++ [hh]).length pc2) = w13 at *
     simp only [Act.put]
     refine WL.nil (hK5 _ _ ?_)
     refine rgn ?_
     refine VlS (.int .i64 (t : Int)) ?_
     refine VlS (.int .i64 ((t : Int) + 1)) ?_
     refine VlS (.int .i64 ((t : Int) + 1)) ?_
     refine WL.nil ?_
     refine ⟨⟨t + 1, fun i => [.pointer (some ⟨x, 0, none⟩), u1, .pointer (some ⟨g2, 0, none⟩), .pointer (some ⟨g3, 0, none⟩), .pointer (some ⟨g4, 0, none⟩), u5, .pointer (some ⟨g6, 0, none⟩), u7, u8, .int .u64 (n : Int), .int .i64 ((t : Int) + 1), .int .i64 (at_ : Int), .pointer (some ⟨g12, 0, none⟩), .pointer (some ⟨g13, 0, none⟩), u14, u15, u16, u17, u18, u19, u20, u21, u22, u23, u24, u25, u26, u27, u28, u29, u30, u31, u32, u33, u34, u35, u36, u37, u38, u39, u40, u41, u42, u43, u44, u45, u46, u47, u48, u49, u50, u51, u52, u53, u54, u55, u56, u57, u58, u59, u60, u61, u62, u63, u64, u65, u66, u67, u68, u69, u70, u71, u72, u73, u74, u75, u76, u77, u78, u79, u80, u81, u82, u83, u84, u85, u86, u87, .int .i64 (t : Int), .int .u64 (n : Int), .int .i64 (n : Int), .bool true, .int .i64 (t : Int), .int .i64 ((t : Int) + 1), .pointer (some ⟨x, 0, none⟩), .pointer (some ⟨x, 0, none⟩), .pointer (some ⟨x, 1, none⟩), .int .i64 (at_ : Int), .tuple #[.agg (bytesA 32 hh.f), .agg (erA W1 b1)], .pointer (some ⟨x, 0, none⟩), .tuple #[.agg (bytesA 32 hh.f), .agg (erA W1 b1)], .agg (bytesA 32 hh.f), .agg (erA W1 b1), .pointer (some ⟨g13, 0, none⟩), .int .i64 W1, .bool false, f 106, f 107, .int .i64 (t : Int), .bool true, .bool true, .pointer (some ⟨g4, 2, none⟩), .slice (some ⟨gL, 0, none⟩) l.length pc, .int .i64 (t : Int), .int .i64 ((l.length - 1 : Nat) : Int), .pointer (some ⟨gL, (l.length - 1) * 32, none⟩), .agg (Sh.encH hp).toArray, .agg (bytesA 32 hh.f).toList.toArray, .int .i64 (Sh.cf hp hh), .bool false, .bool false, f 121, f 122, f 123, f 124, .pointer (some ⟨g4, 2, none⟩), .slice (some ⟨gL, 0, none⟩) l.length pc, .agg (bytesA 32 hh.f), .slice (some ⟨w9.heap.size, 0, none⟩) 1 1, .slice pa2 (l ++ [hh]).length pc2, .pointer (some ⟨g4, 2, none⟩), u131, u132].getD i undef, rfl, by omega, pa2, pc2, l ++ [hh], at_ + 32, H13.out, O13.out, N12.out, by rw [List.length_append]; simp [JL.out], JC3.out⟩, ?_⟩
     simp only [intOf]; show n - ((t : Int) + 1).toNat < n - ((t : Int)).toNat; omega
   ·have ht0' : ¬ (0 : Int) < (t : Int) := by omega
    have HB9 : Keep (Below w8.heap.size w8 w8.drew) := ⟨hD0⟩
    have JC3 := Keep.mk (JC2.out.trans (if_neg (fun h => ht0 (by have := h.1; have := JL.out; omega))))
    refine wp_region_held_drew (S := fun _ => True) (by kernel_rfl) (trivial) (fun hHeld => ?_)
    refine tkS (i := 0) (oi := ⟨some 108, Op.move (Operand.tmp 10), 3, _, _, none⟩) (v := .int .i64 (t : Int)) rfl (Or.inl ⟨by rfl, fun w hS => by go_simp⟩) hHeld ?_
    refine tkS (i := 1) (oi := ⟨some 109, Op.binOp BinOp.gtr 3 (Operand.tmp 108) (Operand.const (Value.int IntKind.i64 0)) 3, 4, _, _, none⟩) (v := .bool false) rfl (Or.inl ⟨by rfl, fun w hS => by go_simp⟩) hHeld ?_
    refine tkS (i := 2) (oi := ⟨some 110, Op.move (Operand.tmp 109), 4, _, _, none⟩) (v := .bool false) rfl (Or.inl ⟨by rfl, fun w hS => by go_simp⟩) hHeld ?_
    refine tkS (i := 3) (oi := ⟨some 111, Op.fieldAddr 28 (Operand.tmp 4) 2, 0, _, _, some (2, true)⟩) (v := undef) rfl (Or.inr ⟨by rfl, rfl⟩) hHeld ?_
    refine tkS (i := 4) (oi := ⟨some 112, Op.load 25 (Operand.tmp 111), 25, _, _, some (2, true)⟩) (v := undef) rfl (Or.inr ⟨by rfl, rfl⟩) hHeld ?_
    refine tkS (i := 5) (oi := ⟨some 113, Op.move (Operand.tmp 10), 3, _, _, some (2, true)⟩) (v := undef) rfl (Or.inr ⟨by rfl, rfl⟩) hHeld ?_
    refine tkS (i := 6) (oi := ⟨some 114, Op.binOp BinOp.sub 3 (Operand.tmp 113) (Operand.const (Value.int IntKind.i64 1)) 3, 3, _, _, some (2, true)⟩) (v := undef) rfl (Or.inr ⟨by rfl, rfl⟩) hHeld ?_
    refine tkS (i := 7) (oi := ⟨some 115, Op.indexAddr 25 (Operand.tmp 112) (Operand.tmp 114), 0, _, _, some (2, true)⟩) (v := undef) rfl (Or.inr ⟨by rfl, rfl⟩) hHeld ?_
    refine tkS (i := 8) (oi := ⟨some 116, Op.load 41 (Operand.tmp 115), 41, _, _, some (2, true)⟩) (v := undef) rfl (Or.inr ⟨by rfl, rfl⟩) hHeld ?_
    refine tkS (i := 9) (oi := ⟨some 117, Op.load 41 (Operand.tmp 12), 41, _, _, some (2, true)⟩) (v := undef) rfl (Or.inr ⟨by rfl, rfl⟩) hHeld ?_
    refine tkS (i := 10) (oi := ⟨some 118, Op.call { callee := Callee.value (Operand.func 60), args := #[Operand.tmp 116, Operand.tmp 117], argTypes := #[41, 41] }, 3, _, _, some (2, true)⟩) (v := undef) rfl (Or.inr ⟨by rfl, rfl⟩) hHeld ?_
    refine tkS (i := 11) (oi := ⟨some 119, Op.binOp BinOp.geq 3 (Operand.tmp 118) (Operand.const (Value.int IntKind.i64 0)) 3, 4, _, _, some (2, true)⟩) (v := undef) rfl (Or.inr ⟨by rfl, rfl⟩) hHeld ?_
    refine tkS (i := 12) (oi := ⟨some 120, Op.pick (Operand.tmp 110) (Operand.tmp 119) (Operand.const (Value.bool false)), 4, _, _, none⟩) (v := .bool false) rfl (Or.inl ⟨by rfl, fun w hS => by go_simp⟩) hHeld ?_
    refine wpAnyH_done (by kernel_rfl) ?_ _
    refine hK11 _ _ ?_
    refine wp_cond_false rfl ?_
    refine wp_skip ?_
    refine hK10 _ _ ?_
    have H9 := Keep.mk (H8.out.below HB9.out)
    have O9 := Keep.mk (O8.out.below HB9.out)
    have A9 := Keep.mk (HA.out.below HB9.out HA.out.lt)
    have c4 := H9.out.n.c 2 (by rfl : (ndA au ck (.slice pa l.length pc) noS)[2]? = some (.slice pa l.length pc))
    refine rgn ?_
    refine VlS (.pointer (some ⟨g4, 2, none⟩)) ?_
    refine VlS (.slice pa l.length pc) ?_
    refine WL.row (by kernel_rfl) 41 (.tmp 12) rfl g12 rfl 41 (bytesA 32 hh.f) _ A9.out Tryz.underlying41 rfl (Tryz.size41B _) ?_
    clear c4
    simp only [Act.put, pqA, pqB, pqC]
    refine WL.bs (by kernel_rfl) 25 1 _ rfl #[(0, .agg (bytesA 32 hh.f))] (by simp [Act.eval]) _ _ (bsH hh w8.drew) ?_
    have HB11 := Keep.mk (Blk.new w8.drew 41 (bytesA 32 hh.f))
    have B11 := Keep.mk (below_new w8.drew (.cells (bytesA 32 hh.f) 41))
    generalize w8.drew.alloc (.cells (bytesA 32 hh.f) 41) = w11 at *
    have H11 := Keep.mk (H9.out.below B11.out)
    have O11 := Keep.mk (O9.out.below B11.out)
    simp only [Act.put, pqA, pqB, pqC]
    refine WL.appH (by kernel_rfl) (.tmp 126) (.tmp 128) rfl (.slice pa l.length pc) l w8.drew.heap.size hh rfl rfl O11.out HB11.out (by have := JL.out; omega) ?_
    intro v4 w12 h1 h2 h3
    obtain ⟨pa2, pc2, rfl⟩ := h1.sl
    have O12 := Keep.mk h1
    have H12 := Keep.mk (H11.out.own h2 (fun e => O11.out.ne H11.out.rx.blk (by decide) e) (fun e => O11.out.ne H11.out.r2 (by decide) e) (fun e => O11.out.ne H11.out.r3 (by decide) e) (fun e => O11.out.ne H11.out.n (by decide) e) (fun e => O11.out.ne H11.out.e (by decide) e) (fun k hk e => absurd (JN.out k e) (by omega)))
    have N12 : Keep (∀ k, (Value.slice pa2 (l ++ [hh]).length pc2).ownBlock = some k → w.heap.size ≤ k) := ⟨fun k hk => by
     rcases h3 with e | ⟨j, e, hj⟩
     ·rw [e] at hk; exact JN.out k hk
     ·rw [e] at hk; injection hk with hk; have := H11.out.gr.size; omega⟩
    clear h1 h2 h3 H11 O11 HB11 B11
    simp only [Act.put, pqA, pqB, pqC]
    refine VlS (.pointer (some ⟨g4, 2, none⟩)) ?_
    have c_o := H12.out.n.c 2 (by rfl : (ndA au ck (.slice pa l.length pc) noS)[2]? = some (.slice pa l.length pc))
    have f_o := H12.out.n.frozen 2
    refine WL.cell (by kernel_rfl) (w12.setCell ⟨g4, 2, none⟩ (.slice pa2 (l ++ [hh]).length pc2)) (by go_simp) ?_
    clear c_o f_o
    have H13 := Keep.mk (H12.out.setN (w2 := w12.setCell ⟨g4, 2, none⟩ (.slice pa2 (l ++ [hh]).length pc2)) (by have h := H12.out.n.set 2 (.slice pa2 (l ++ [hh]).length pc2); rw [nd_set2] at h; exact h) (Grown.setCell w12 g4 2 _ fun _ => rfl))
    have O13 := Keep.mk (O12.out.grown (Grown.setCell w12 g4 2 (.slice pa2 (l ++ [hh]).length pc2) (S := fun k => k = g4) fun _ => rfl) (fun k hk e => O12.out.ne H12.out.n (by decide) (e ▸ hk)))
    generalize w12.setCell ⟨g4, 2, none⟩ (.slice pa2 (l ++ [hh]).length pc2) = w13 at *
    simp only [Act.put]
    refine WL.nil (hK5 _ _ ?_)
    refine rgn ?_
    refine VlS (.int .i64 (t : Int)) ?_
    refine VlS (.int .i64 ((t : Int) + 1)) ?_
    refine VlS (.int .i64 ((t : Int) + 1)) ?_
    refine WL.nil ?_
    refine ⟨⟨t + 1, fun i => [.pointer (some ⟨x, 0, none⟩), u1, .pointer (some ⟨g2, 0, none⟩), .pointer (some ⟨g3, 0, none⟩), .pointer (some ⟨g4, 0, none⟩), u5, .pointer (some ⟨g6, 0, none⟩), u7, u8, .int .u64 (n : Int), .int .i64 ((t : Int) + 1), .int .i64 (at_ : Int), .pointer (some ⟨g12, 0, none⟩), .pointer (some ⟨g13, 0, none⟩), u14, u15, u16, u17, u18, u19, u20, u21, u22, u23, u24, u25, u26, u27, u28, u29, u30, u31, u32, u33, u34, u35, u36, u37, u38, u39, u40, u41, u42, u43, u44, u45, u46, u47, u48, u49, u50, u51, u52, u53, u54, u55, u56, u57, u58, u59, u60, u61, u62, u63, u64, u65, u66, u67, u68, u69, u70, u71, u72, u73, u74, u75, u76, u77, u78, u79, u80, u81, u82, u83, u84, u85, u86, u87, .int .i64 (t : Int), .int .u64 (n : Int), .int .i64 (n : Int), .bool true, .int .i64 (t : Int), .int .i64 ((t : Int) + 1), .pointer (some ⟨x, 0, none⟩), .pointer (some ⟨x, 0, none⟩), .pointer (some ⟨x, 1, none⟩), .int .i64 (at_ : Int), .tuple #[.agg (bytesA 32 hh.f), .agg (erA W1 b1)], .pointer (some ⟨x, 0, none⟩), .tuple #[.agg (bytesA 32 hh.f), .agg (erA W1 b1)], .agg (bytesA 32 hh.f), .agg (erA W1 b1), .pointer (some ⟨g13, 0, none⟩), .int .i64 W1, .bool false, f 106, f 107, .int .i64 (t : Int), .bool false, .bool false, undef, undef, undef, undef, undef, undef, undef, undef, undef, .bool false, f 121, f 122, f 123, f 124, .pointer (some ⟨g4, 2, none⟩), .slice pa l.length pc, .agg (bytesA 32 hh.f), .slice (some ⟨w8.drew.heap.size, 0, none⟩) 1 1, .slice pa2 (l ++ [hh]).length pc2, .pointer (some ⟨g4, 2, none⟩), u131, u132].getD i undef, rfl, by omega, pa2, pc2, l ++ [hh], at_ + 32, H13.out, O13.out, N12.out, by rw [List.length_append]; simp [JL.out], JC3.out⟩, ?_⟩
    simp only [intOf]; show n - ((t : Int) + 1).toNat < n - ((t : Int)).toNat; omega
  ·have JC2 := Keep.mk (JC.out.trans (if_pos hE1))
   clear JC
   refine rgn ?_
   refine VlS (.pointer (some ⟨g13, 0, none⟩)) ?_
   refine VlS (.int .i64 W1) ?_
   refine VlS (.bool true) ?_
   refine WL.nil (hK9 _ _ ?_)
   refine wp_cond_true rfl ?_
   refine wp_seq_k fun K13 hK13 => ?_
   have k2 := H8.out.r2.drew
   have k3 := H8.out.r3.drew
   have k4 := H8.out.n.drew
   have k6 := (HE.out).drew
   have n42 := H8.out.n24
   have n62 : g13 ≠ g2 := blk_ne k6 k2 (by decide)
   have n43 : g4 ≠ g3 := blk_ne k4 k3 (by decide)
   have n63 : g13 ≠ g3 := H13n.out
   refine wp_region_held_drew (S := fun wx => wx.rangeAt g4 0 (ndA au ck (.slice pa l.length pc) noS).toList ∧ wx.rangeAt g13 0 (erA W1 b1).toList) (by kernel_rfl) (⟨blk_range k4, blk_range k6⟩) (fun hHeld => ?_)
   refine tkS (i := 0) (oi := ⟨some 106, Op.load 28 (Operand.tmp 4), 28, _, _, none⟩) (v := .agg (ndA au ck (.slice pa l.length pc) noS)) rfl (yieldsIf_load_mid (by rfl) 28 (Operand.tmp 4) rfl g4 0 rfl (ndA au ck (.slice pa l.length pc) noS).toList _ (fun w hS => hS.1) Tryz.underlying28 rfl (Tryz.size28B _ _ _ _)) hHeld ?_
   refine tkS (i := 1) (oi := ⟨some 107, Op.load 34 (Operand.tmp 13), 34, _, _, none⟩) (v := .agg (erA W1 b1)) rfl (yieldsIf_load_mid (by rfl) 34 (Operand.tmp 13) rfl g13 0 rfl (erA W1 b1).toList _ (fun w hS => hS.2) Tryz.underlying34 rfl (Tryz.size34B _ _)) hHeld ?_
   refine wpAnyH_ready (rs := [2]) (by kernel_rfl) (by simp) ?_
   refine AllReadyH.cons (o := ⟨none, Op.store 28 (Operand.tmp 2) (Operand.tmp 106), 0, _, _, none⟩) rfl (fun K hK => ?_) AllReadyH.nil
   rw [if_pos (by rfl)]
   refine wp_store_row 28 (.tmp 2) (.tmp 106) rfl g2 (ndA au ck (.slice pa l.length pc) noS) rfl rfl 28 (ndA 0 0 noS noS) k2 (Tryz.size28B _ _ _ _) rfl (nd_one _ _ _ _ _ _ _ _) ?_
   refine hK.out _ _ ⟨blk_range (k4.setRow_ne n42 _), blk_range (k6.setRow_ne n62 _)⟩ fun hH2 => ?_
   clear hK
   simp only [Act.put, pqA, pqB, pqC]
   refine wpAnyH_ready (rs := [3]) (by kernel_rfl) (by simp) ?_
   refine AllReadyH.cons (o := ⟨none, Op.store 34 (Operand.tmp 3) (Operand.tmp 107), 0, _, _, none⟩) rfl (fun K hK => ?_) AllReadyH.nil
   rw [if_pos (by rfl)]
   refine wp_store_row 34 (.tmp 3) (.tmp 107) rfl g3 (erA W1 b1) rfl rfl 34 (erA 0 0) (k3.setRow_ne (blk_ne k3 k2 (by decide)) _) (Tryz.size34B _ _) (erA_sizes _ _ _ _) (erA_one _ _) ?_
   refine hK.out _ _ ⟨blk_range ((k4.setRow_ne n42 _).setRow_ne n43 _), blk_range ((k6.setRow_ne n62 _).setRow_ne n63 _)⟩ fun hH3 => ?_
   clear hK
   simp only [Act.put, pqA, pqB, pqC]
   refine wpAnyH_done (by kernel_rfl) ?_ _
   refine hK13 _ _ ?_
   refine wp_ret ?_
   refine bodyPost_ret (v := .tuple #[.agg (ndA au ck (.slice pa l.length pc) noS), .agg (erA W1 b1)]) (results_cell_cell_row Tryz.results29 _ _ g2 g3 28 34 _ _ (0, 0) (0, 0) _ _ rfl rfl ((k2.setRow _).setRow_ne (blk_ne k2 k3 (by decide)) _) ((k3.setRow_ne (blk_ne k3 k2 (by decide)) _).setRow _) Tryz.underlying28 rfl (Tryz.size28B _ _ _ _) Tryz.underlying34 rfl (Tryz.size34B _ _)) rfl ?_
   rw [HR.out]
   unfold hfin
   rw [JC2.out, if_pos hE1]
   exact HS.done H8.out (two_grown g2 g3 _ _) rfl rfl hb1.out (fun h => absurd h hE1)
 ·have hte : Keep (t = n) := ⟨by omega⟩
  have hlt' : ¬ (t : Int) < (n : Int) := by omega
  refine wp_seq_k fun K14 hK14 => ?_
  refine wp_seq_k fun K15 hK15 => rgn ?_
  refine VlS (.int .i64 (t : Int)) ?_
  refine VlS (.int .u64 (n : Int)) ?_
  refine VlS (.int .i64 (n : Int)) ?_
  refine VlS (.bool false) ?_
  refine WL.nil (hK15 _ _ ?_)
  refine wp_cond_false rfl ?_
  refine wp_exit ?_
  refine hK1 _ _ ?_
  refine wp_seq_k fun K16 hK16 => rgn ?_
  refine WL.row (by kernel_rfl) 28 (.tmp 4) rfl g4 rfl 28 (ndA au ck (.slice pa l.length pc) noS) _ JS.out.n Tryz.underlying28 rfl (Tryz.size28B _ _ _ _) ?_
  simp only [Act.put, pqA, pqB, pqC]
  refine WL.bld (by kernel_rfl) 34 _ rfl [] (by simp) (erA 0 0) er_built0 ?_
  simp only [Act.put, pqA, pqB, pqC]
  refine WL.storeR (by kernel_rfl) 28 (.tmp 2) (.tmp 131) rfl g2 (ndA au ck (.slice pa l.length pc) noS) rfl rfl 28 (ndA 0 0 noS noS) JS.out.r2 (Tryz.size28B _ _ _ _) rfl (nd_one _ _ _ _ _ _ _ _) ?_
  simp only [Act.put]
  refine WL.storeR (by kernel_rfl) 34 (.tmp 3) (.tmp 132) rfl g3 (erA 0 0) rfl rfl 34 (erA 0 0) (JS.out.r3.setRow_ne (blk_ne JS.out.r3 JS.out.r2 (by decide)) _) (Tryz.size34B _ _) (erA_sizes _ _ _ _) (erA_one _ _) ?_
  simp only [Act.put]
  refine WL.nil (hK16 _ _ ?_)
  refine wp_ret ?_
  refine bodyPost_ret (v := .tuple #[.agg (ndA au ck (.slice pa l.length pc) noS), .agg (erA 0 0)]) (results_cell_cell_row Tryz.results29 _ _ g2 g3 28 34 _ _ (0, 0) (0, 0) _ _ rfl rfl ((JS.out.r2.setRow _).setRow_ne (blk_ne JS.out.r2 JS.out.r3 (by decide)) _) ((JS.out.r3.setRow_ne (blk_ne JS.out.r3 JS.out.r2 (by decide)) _).setRow _) Tryz.underlying28 rfl (Tryz.size28B _ _ _ _) Tryz.underlying34 rfl (Tryz.size34B _ _)) rfl ?_
  have hC := JC.out
  rw [hte.out, Nat.sub_self, getH] at hC
  rw [HR.out]
  unfold hfin
  rw [hC, if_neg (by simp)]
  exact HS.done JS.out (two_grown' g2 g3 _ _) rfl rfl (bOf_0 at_).symm (fun _ => ⟨rfl, rfl, JO.out, JN.out⟩)
def headR (L : List Int) : Int × Nat × NodeV :=
 if (formR L 0).1 ≠ 0 then ((formR L 0).1, (formR L 0).2, zeroN)
 else if (auR L 1).1 ≠ 0 then ((auR L 1).1, (auR L 1).2, zeroN)
 else if (ckR L 2).1 ≠ 0 then ((ckR L 2).1, (ckR L 2).2, zeroN)
 else if (fstM (L.drop (ckR L 2).2) 64).2.2 ≠ 0 then ((fstM (L.drop (ckR L 2).2) 64).2.2, (ckR L 2).2 + (fstM (L.drop (ckR L 2).2) 64).2.1.toNat, zeroN)
 else if (((fstM (L.drop 2) 4096).1 == 1) == ((fstM (L.drop (ckR L 2).2) 64).1 == 0)) = false then (51, 2, zeroN)
 else hfin L (fstM (L.drop (ckR L 2).2) 64).1.toNat ((ckR L 2).2 + (fstM (L.drop (ckR L 2).2) 64).2.1.toNat) ((L.drop 1).getD 0 0) (fstM (L.drop 2) 4096).1
set_option maxRecDepth 8000 in
set_option maxHeartbeats 4000000 in
theorem xhead_any (w0 w : World) (x : Nat) (vB : Value) (L : List Int) (hww : w0.heap.size ≤ w.heap.size) (h : RX w0 x vB L 0 0 w) : Calls Tryz.prog 29 #[ptr x] w (HeadP w0 x vB L (headR L) w) := by
 have HX := Keep.mk h
 have HWW := Keep.mk hww
 obtain ⟨c1, Hc1⟩ : ∃ c, Keep (c = if nextW (L.drop 0) 1 = 0 then (L.drop 0).getD 0 0 else 0) := ⟨_, ⟨rfl⟩⟩
 obtain ⟨W1, HW1⟩ : ∃ z, Keep (z = nextW (L.drop 0) 1) := ⟨_, ⟨rfl⟩⟩
 obtain ⟨N1, HN1⟩ : ∃ z, Keep (z = nextN (L.drop 0) 1) := ⟨_, ⟨rfl⟩⟩
 obtain ⟨c2, Hc2⟩ : ∃ c, Keep (c = if nextW (L.drop (0 + 1)) 1 = 0 then (L.drop (0 + 1)).getD 0 0 else 0) := ⟨_, ⟨rfl⟩⟩
 obtain ⟨W2, HW2⟩ : ∃ z, Keep (z = nextW (L.drop (0 + 1)) 1) := ⟨_, ⟨rfl⟩⟩
 obtain ⟨N2, HN2⟩ : ∃ z, Keep (z = nextN (L.drop (0 + 1)) 1) := ⟨_, ⟨rfl⟩⟩
 have HN1f : Keep (W1 = 0 → N1 = 1) := ⟨fun h => by rw [HN1.out, (nextN_0 _ 1 (by rw [← HW1.out]; exact h)).1]; rfl⟩
 have HN2f : Keep (W2 = 0 → N2 = 1) := ⟨fun h => by rw [HN2.out, (nextN_0 _ 1 (by rw [← HW2.out]; exact h)).1]; rfl⟩
 have Hc2r : Keep (0 ≤ c2 ∧ c2 < 256) := ⟨by
  have := (h.byts.drop (0 + 1)).getD 0
  rw [Hc2.out]; split <;> omega⟩
 obtain ⟨ck, N3, W3, hM3, hl3⟩ := fst_tri (L.drop (0 + 1 + 1)) 4096
 have hrg3 := fst_rng (L.drop (0 + 1 + 1)) (h.byts.drop (0 + 1 + 1)) 4096 (by decide)
 rw [hM3] at hrg3
 have HM3 := Keep.mk hM3
 have Hck : Keep (0 ≤ ck ∧ ck ≤ 4096) := ⟨hrg3⟩
 obtain ⟨nn, N4, W4, hM4, hl4⟩ := fst_tri (L.drop (0 + 1 + 1 + N3)) 64
 have hrg4 := fst_rng (L.drop (0 + 1 + 1 + N3)) (h.byts.drop (0 + 1 + 1 + N3)) 64 (by decide)
 rw [hM4] at hrg4
 obtain ⟨n, rfl⟩ : ∃ n : Nat, nn = (n : Int) := ⟨nn.toNat, (Int.toNat_of_nonneg hrg4.1).symm⟩
 have HM4 := Keep.mk hM4
 have Hn : Keep (n ≤ 64) := ⟨by have := hrg4.2; simp only at this; omega⟩
 obtain ⟨R, hR⟩ : ∃ R, R = headR L := ⟨_, rfl⟩
 rw [← hR]
 have f1 : formR L 0 = if W1 ≠ 0 then (W1, 0 + N1) else if (L.drop 0).getD 0 0 = 1 then (0, 0 + 1) else (5, 0) := by rw [HW1.out, HN1.out]; rfl
 have f2 : auR L 1 = if W2 ≠ 0 then (W2, 0 + 1 + N2) else if 1 ≤ (L.drop 1).getD 0 0 ∧ (L.drop 1).getD 0 0 ≤ 8 then (0, 1 + 1) else (50, 1) := by rw [HW2.out, HN2.out]; rfl
 have f3 : ckR L 2 = if W3 ≠ 0 then (W3, 0 + 1 + 1 + N3) else if ck = 0 then (51, 2) else (0, 0 + 1 + 1 + N3) := by
  unfold ckR
  rw [show L.drop 2 = L.drop (0 + 1 + 1) from rfl, hM3]
  rfl
 have Hf1 : Keep (W1 = 0 → (L.drop 0).getD 0 0 = c1) := ⟨fun h => by rw [Hc1.out, if_pos (by rw [← HW1.out]; exact h)]⟩
 have Hf2 : Keep (W2 = 0 → (L.drop 1).getD 0 0 = c2) := ⟨fun h => by rw [Hc2.out, if_pos (by rw [← HW2.out]; exact h)]⟩
 have HD1 : Keep (¬ W1 = 0 → R = (W1, 0 + N1, zeroN)) := ⟨fun h1 => by rw [hR]; unfold headR; rw [f1, if_pos h1, if_pos h1]⟩
 have g1 : W1 = 0 → c1 = 1 → (formR L 0).1 = 0 := fun h1 h2 => by rw [f1, if_neg (by simp [h1]), Hf1.out h1, if_pos h2]
 have HD2 : Keep (W1 = 0 → ¬ c1 = 1 → R = (5, 0, zeroN)) := ⟨fun h1 h2 => by rw [hR]; unfold headR; rw [f1, if_neg (by simp [h1] : ¬ W1 ≠ 0), Hf1.out h1, if_neg h2, if_pos (by decide)]⟩
 have s1 : W1 = 0 → c1 = 1 → ∀ (A B : Int × Nat × NodeV), (if (formR L 0).1 ≠ 0 then A else B) = B := fun h1 h2 A B => if_neg (by rw [g1 h1 h2]; simp)
 have HD3 : Keep (W1 = 0 → c1 = 1 → ¬ W2 = 0 → R = (W2, 0 + 1 + N2, zeroN)) := ⟨fun h1 h2 h3 => by rw [hR]; unfold headR; rw [s1 h1 h2, f2, if_pos h3, if_pos h3]⟩
 have HD4 : Keep (W1 = 0 → c1 = 1 → W2 = 0 → ¬ (1 ≤ c2 ∧ c2 ≤ 8) → R = (50, 1, zeroN)) := ⟨fun h1 h2 h3 h4 => by rw [hR]; unfold headR; rw [s1 h1 h2, f2, if_neg (by simp [h3] : ¬ W2 ≠ 0), Hf2.out h3, if_neg h4, if_pos (by decide)]⟩
 have s2 : W2 = 0 → (1 ≤ c2 ∧ c2 ≤ 8) → ∀ (A B : Int × Nat × NodeV), (if (auR L 1).1 ≠ 0 then A else B) = B := fun h3 h4 A B => if_neg (by rw [f2, if_neg (by simp [h3] : ¬ W2 ≠ 0), Hf2.out h3, if_pos h4]; simp)
 have HD5 : Keep (W1 = 0 → c1 = 1 → W2 = 0 → (1 ≤ c2 ∧ c2 ≤ 8) → ¬ W3 = 0 → R = (W3, 0 + 1 + 1 + N3, zeroN)) := ⟨fun h1 h2 h3 h4 h5 => by rw [hR]; unfold headR; rw [s1 h1 h2, s2 h3 h4, f3, if_pos h5, if_pos h5]⟩
 have HD6 : Keep (W1 = 0 → c1 = 1 → W2 = 0 → (1 ≤ c2 ∧ c2 ≤ 8) → W3 = 0 → ck = 0 → R = (51, 2, zeroN)) := ⟨fun h1 h2 h3 h4 h5 h6 => by rw [hR]; unfold headR; rw [s1 h1 h2, s2 h3 h4, f3, if_neg (by simp [h5] : ¬ W3 ≠ 0), if_pos h6, if_pos (by decide)]⟩
 have f3' : W3 = 0 → ¬ ck = 0 → ckR L 2 = (0, 0 + 1 + 1 + N3) := fun h5 h6 => by rw [f3, if_neg (by simp [h5] : ¬ W3 ≠ 0), if_neg h6]
 have f4 : fstM (L.drop 2) 4096 = (ck, (N3 : Int), W3) := hM3
 have HD7 : Keep (W1 = 0 → c1 = 1 → W2 = 0 → (1 ≤ c2 ∧ c2 ≤ 8) → W3 = 0 → ¬ ck = 0 → ¬ W4 = 0 → R = (W4, 0 + 1 + 1 + N3 + N4, zeroN)) := ⟨fun h1 h2 h3 h4 h5 h6 h7 => by rw [hR]; unfold headR; rw [s1 h1 h2, s2 h3 h4, f3' h5 h6, if_neg (by simp), hM4, if_pos h7]; rfl⟩
 have HD8 : Keep (W1 = 0 → c1 = 1 → W2 = 0 → (1 ≤ c2 ∧ c2 ≤ 8) → W3 = 0 → ¬ ck = 0 → W4 = 0 → ((ck == 1) == ((n : Int) == 0)) = false → R = (51, 2, zeroN)) := ⟨fun h1 h2 h3 h4 h5 h6 h7 h8 => by rw [hR]; unfold headR; rw [s1 h1 h2, s2 h3 h4, f3' h5 h6, if_neg (by simp), hM4, if_neg (by simp [h7]), f4, if_pos h8]⟩
 have HD9 : Keep (W1 = 0 → c1 = 1 → W2 = 0 → (1 ≤ c2 ∧ c2 ≤ 8) → W3 = 0 → ¬ ck = 0 → W4 = 0 → ((ck == 1) == ((n : Int) == 0)) = true → R = hfin L n (0 + 1 + 1 + N3 + N4) c2 ck) := ⟨fun h1 h2 h3 h4 h5 h6 h7 h8 => by rw [hR]; unfold headR; rw [s1 h1 h2, s2 h3 h4, f3' h5 h6, if_neg (by simp), hM4, if_neg (by simp [h7]), f4, if_neg (by rw [h8]; simp), Hf2.out h3]; rfl⟩
 have HL1 : Keep (W1 = 0 → 1 ≤ L.length) := ⟨fun h => by have h2 := (nextN_0 (L.drop 0) 1 (by rw [← HW1.out]; exact h)).2.2; rw [List.length_drop] at h2; omega⟩
 have HL2 : Keep (W2 = 0 → 2 ≤ L.length) := ⟨fun h => by have h2 := (nextN_0 (L.drop (0 + 1)) 1 (by rw [← HW2.out]; exact h)).2.2; rw [List.length_drop] at h2; omega⟩
 clear h hww hM3 hl3 hrg3 hM4 hl4 hrg4 hR f1 f2 f3 g1 s1 s2 f3' f4
 go_enter Tryz.func29, Tryz.ntmps29
 refine wp_seq_k fun K1 hK1 => rgn ?_
 refine WL.new (by kernel_rfl) 28 rfl _ Tryz.new28N ?_
 have H2 := Keep.mk (Blk.new w 28 (ndA 0 0 noS noS))
 have B1 := Keep.mk (below_new w (.cells (ndA 0 0 noS noS) 28))
 generalize w.alloc (.cells (ndA 0 0 noS noS) 28) = wa at *
 obtain ⟨g2, hg2⟩ : ∃ g, Keep (g = w.heap.size) := ⟨_, ⟨rfl⟩⟩
 rw [← hg2.out] at H2 ⊢
 simp only [Act.put, pqA, pqB, pqC]
 refine WL.new (by kernel_rfl) 34 rfl _ Tryz.new34E ?_
 have H3 := Keep.mk (Blk.new wa 34 (erA 0 0))
 have H2b := Keep.mk (H2.out.alloc (.cells (erA 0 0) 34))
 have B2 : Keep (Below w.heap.size w (wa.alloc (.cells (erA 0 0) 34))) := ⟨B1.out.trans ((below_new wa _).mono B1.out.size)⟩
 generalize wa.alloc (.cells (erA 0 0) 34) = wb at *
 obtain ⟨g3, hg3⟩ : ∃ g, Keep (g = wa.heap.size) := ⟨_, ⟨rfl⟩⟩
 rw [← hg3.out] at H3 ⊢
 simp only [Act.put, pqA, pqB, pqC]
 refine WL.nil (hK1 _ _ ?_)
 refine wp_seq_k fun K2 hK2 => rgn ?_
 refine WL.bld (by kernel_rfl) 28 _ rfl [] (by simp) (ndA 0 0 noS noS) nd_built0 ?_
 simp only [Act.put, pqA, pqB, pqC]
 refine WL.new (by kernel_rfl) 28 rfl _ Tryz.new28N ?_
 have H4 := Keep.mk (Blk.new wb 28 (ndA 0 0 noS noS))
 have H2c := Keep.mk (H2b.out.alloc (.cells (ndA 0 0 noS noS) 28))
 have H3c := Keep.mk (H3.out.alloc (.cells (ndA 0 0 noS noS) 28))
 have B3 : Keep (Below w.heap.size w (wb.alloc (.cells (ndA 0 0 noS noS) 28))) := ⟨B2.out.trans ((below_new wb _).mono B2.out.size)⟩
 have n42 : Keep (wb.heap.size ≠ g2) := ⟨fun e => by have := H2b.out.lt; omega⟩
 generalize wb.alloc (.cells (ndA 0 0 noS noS) 28) = wc at *
 obtain ⟨g4, hg4⟩ : ∃ g, Keep (g = wb.heap.size) := ⟨_, ⟨rfl⟩⟩
 rw [← hg4.out] at H4 n42 ⊢
 simp only [Act.put, pqA, pqB, pqC]
 refine WL.storeR (by kernel_rfl) 28 (.tmp 4) (.tmp 14) rfl g4 (ndA 0 0 noS noS) rfl rfl 28 (ndA 0 0 noS noS) H4.out (Tryz.size28B _ _ _ _) rfl (nd_one 0 0 none 0 0 none 0 0) ?_
 have H4d := Keep.mk (H4.out.setRow (ndA 0 0 noS noS))
 have H2d := Keep.mk (H2c.out.setRow_ne (b' := g4) (fun e => n42.out e.symm) (ndA 0 0 noS noS))
 have H3d := Keep.mk (H3c.out.setRow_ne (b' := g4) (blk_ne H3c.out H4.out (by decide)) (ndA 0 0 noS noS))
 have hl4 : Keep (w.heap.size ≤ g4) := ⟨by rw [hg4.out]; exact B2.out.size⟩
 have hl3 : Keep (w.heap.size ≤ g3) := ⟨by rw [hg3.out]; exact B1.out.size⟩
 have B4 := Keep.mk (below_setRow B3.out (b := g4) hl4.out (ndA 0 0 noS noS))
 generalize wc.setRow g4 (ndA 0 0 noS noS) = wd at *
 have RX0 := Keep.mk (HX.out.below B4.out)
 clear H2 H3 H2b H2c H3c H4 B1 B2 B3
 simp only [Act.put]
 refine WL.nil (hK2 _ _ ?_)
 refine wp_seq_k fun K3 hK3 => rgn ?_
 refine VlS (.pointer (some ⟨x, 0, none⟩)) ?_
 have hC := xbyte_x RX0.out c1 Hc1.out
 rw [← HW1.out, ← HN1.out] at hC
 refine WL.callF (by kernel_rfl) 56 _ _ rfl Tryz.in56 #[ptr x] (by simp [Act.eval]) ?_
 refine (hC).mono ?_
 rintro e we ⟨rfl, h1, h2⟩
 refine ⟨_, rfl, ?_⟩
 have RX1 := Keep.mk h1
 have GR1 := Keep.mk h2
 clear h1 h2 hC
 simp only [Act.put, pqA, pqB, pqC]
 refine VlS (.tuple #[.int .u8 c1, .agg (erA W1 (bOf W1 (0 + N1)))]) ?_
 refine VlS (.int .u8 c1) ?_
 refine VlS (.agg (erA W1 (bOf W1 (0 + N1)))) ?_
 refine WL.new (by kernel_rfl) 34 rfl _ Tryz.new34E ?_
 obtain ⟨g6, hg6⟩ : ∃ g, Keep (g = we.heap.size) := ⟨_, ⟨rfl⟩⟩
 rw [← hg6.out]
 have H6 : Keep (Blk (we.alloc (.cells (erA 0 0) 34)) g6 34 (erA 0 0)) := ⟨by rw [hg6.out]; exact Blk.new we 34 _⟩
 simp only [Act.put, pqA, pqB, pqC]
 refine VlS (.int .u8 c1) ?_
 refine WL.storeR (by kernel_rfl) 34 (.tmp 6) (.tmp 19) rfl g6 (erA W1 (bOf W1 (0 + N1))) rfl rfl 34 (erA 0 0) H6.out (Tryz.size34B _ _) (erA_sizes _ _ _ _) (erA_one _ _) ?_
 have HSa : Keep (HS w0 w x g2 g3 g4 g6 vB L W1 (0 + N1) 0 0 (.slice none 0 0) W1 (bOf W1 (0 + N1)) ((we.alloc (.cells (erA 0 0) 34)).setRow g6 (erA W1 (bOf W1 (0 + N1))))) := ⟨by
  have e2 := GR1.out.blk H2d.out (blk_ne H2d.out RX0.out.blk (by decide))
  have e3 := GR1.out.blk H3d.out (blk_ne H3d.out RX0.out.blk (by decide))
  have e4 := GR1.out.blk H4d.out (blk_ne H4d.out RX0.out.blk (by decide))
  have bq := below_setRow (below_new we (.cells (erA 0 0) 34)) (Nat.le_of_eq hg6.out.symm) (erA W1 (bOf W1 (0 + N1)))
  exact ⟨RX1.out.below bq, (Grown.below B4.out).trans (GR1.out.trans (Grown.below bq)), e2.below bq e2.lt, e3.below bq e3.lt, e4.below bq e4.lt, H6.out.setRow _, n42.out, fun e => by have := e3.lt; have := hg6.out; omega, HWW.out, by rw [hg2.out]; exact Nat.le_refl _, hl3.out, hl4.out, by rw [hg6.out]; exact Nat.le_trans B4.out.size GR1.out.size⟩⟩
 generalize (we.alloc (.cells (erA 0 0) 34)).setRow g6 (erA W1 (bOf W1 (0 + N1))) = w1 at *
 obtain ⟨b1, hb1⟩ : ∃ b1, Keep (b1 = bOf W1 (0 + N1)) := ⟨_, ⟨rfl⟩⟩
 rw [← hb1.out] at HSa ⊢
 clear H6 RX1 GR1 RX0 B4 H2d H3d H4d n42 hl3 hl4 hg2 hg3 hg4 hg6 HX
 have e6 := HSa.out.e.c 0 (by rfl : (erA W1 b1)[0]? = some (.int .i64 W1))
 skip
 simp only [Act.put]
 refine WL.nil (hK3 _ _ ?_)
 refine wp_seq_k fun K4 hK4 => ?_
 refine wp_seq_k fun K5 hK5 => ?_
 by_cases hW1 : W1 = 0
 ·skip
  refine rgn ?_
  refine VlS (.pointer (some ⟨g6, 0, none⟩)) ?_
  refine VlS (.int .i64 W1) ?_
  refine VlS (.bool false) ?_
  refine WL.nil (hK5 _ _ ?_)
  refine wp_cond_false rfl ?_
  refine wp_skip ?_
  refine hK4 _ _ ?_
  refine wp_seq_k fun K6 hK6 => ?_
  refine wp_seq_k fun K7 hK7 => ?_
  have hN : N1 = 1 := HN1f.out hW1
  have hb0 : b1 = 0 := by rw [hb1.out, hW1]; rfl
  rw [hW1, hb0, hN] at HSa
  clear hN hb0 e6
  by_cases hf : c1 = 1
  ·skip
   refine rgn ?_
   refine VlS (.int .u8 c1) ?_
   refine VlS (.bool false) ?_
   refine WL.nil (hK7 _ _ ?_)
   refine wp_cond_false rfl ?_
   refine wp_skip ?_
   refine hK6 _ _ ?_
   refine wp_seq_k fun K8 hK8 => rgn ?_
   refine VlS (.pointer (some ⟨x, 0, none⟩)) ?_
   have hC := xbyte_x HSa.out.rx c2 Hc2.out
   rw [← HW2.out, ← HN2.out] at hC
   refine WL.callF (by kernel_rfl) 56 _ _ rfl Tryz.in56 #[ptr x] (by simp [Act.eval]) ?_
   refine (hC).mono ?_
   rintro e wf ⟨rfl, h1, h2⟩
   refine ⟨_, rfl, ?_⟩
   have HSb := Keep.mk (HSa.out.call h1 h2)
   clear h1 h2 HSa hC
   simp only [Act.put, pqA, pqB, pqC]
   refine VlS (.tuple #[.int .u8 c2, .agg (erA W2 (bOf W2 (0 + 1 + N2)))]) ?_
   refine VlS (.int .u8 c2) ?_
   refine VlS (.agg (erA W2 (bOf W2 (0 + 1 + N2)))) ?_
   refine VlS (.int .u8 c2) ?_
   refine WL.storeR (by kernel_rfl) 34 (.tmp 6) (.tmp 34) rfl g6 (erA W2 (bOf W2 (0 + 1 + N2))) rfl rfl 34 (erA 0 0) HSb.out.e (Tryz.size34B _ _) (erA_sizes _ _ _ _) (erA_one _ _) ?_
   have HSc := Keep.mk (HSb.out.setE W2 (bOf W2 (0 + 1 + N2)))
   generalize wf.setRow g6 (erA W2 (bOf W2 (0 + 1 + N2))) = w2 at *
   clear HSb
   obtain ⟨b2, hb2⟩ : ∃ b, Keep (b = bOf W2 (0 + 1 + N2)) := ⟨_, ⟨rfl⟩⟩
   rw [← hb2.out] at HSc ⊢
   have e6 := HSc.out.e.c 0 (by rfl : (erA W2 b2)[0]? = some (.int .i64 W2))
   skip
   simp only [Act.put]
   refine WL.nil (hK8 _ _ ?_)
   refine wp_seq_k fun K9 hK9 => ?_
   refine wp_seq_k fun K10 hK10 => ?_
   by_cases hW2 : W2 = 0
   ·skip
    refine rgn ?_
    refine VlS (.pointer (some ⟨g6, 0, none⟩)) ?_
    refine VlS (.int .i64 W2) ?_
    refine VlS (.bool false) ?_
    refine WL.nil (hK10 _ _ ?_)
    refine wp_cond_false rfl ?_
    refine wp_skip ?_
    refine hK9 _ _ ?_
    refine wp_seq_k fun K11 hK11 => ?_
    refine wp_seq_k fun K12 hK12 => ?_
    have hN : N2 = 1 := HN2f.out hW2
    have hb0 : b2 = 0 := by rw [hb2.out, hW2]; rfl
    rw [hW2, hb0, hN] at HSc
    clear hN hb0 e6
    by_cases ha1 : c2 < 1
    ·skip
     have hau : ¬ (1 ≤ c2 ∧ c2 ≤ 8) := by omega
     refine rgn ?_
     refine VlS (.int .u8 c2) ?_
     refine VlS (.bool true) ?_
     refine VlS (.bool true) ?_
     refine SkS ?_
     refine SkS ?_
     refine VlS (.bool true) ?_
     refine WL.nil (hK12 _ _ ?_)
     refine wp_cond_true rfl ?_
     refine wp_seq_k fun K13 hK13 => ?_
     have hD0 : Below w2.heap.size w2 w2.drew := (Below.refl _ _).drew
     have k4 := HSc.out.n.drew
     refine wp_region_held_drew (S := fun wx => wx.rangeAt g4 0 (ndA 0 0 (.slice none 0 0) noS).toList) (by kernel_rfl) (blk_range k4) (fun hHeld => ?_)
     refine tkS (i := 0) (oi := ⟨some 46, Op.load 28 (Operand.tmp 4), 28, _, _, none⟩) (v := .agg (ndA 0 0 (.slice none 0 0) noS)) rfl (yieldsIf_load_mid (by rfl) 28 (Operand.tmp 4) rfl g4 0 rfl (ndA 0 0 (.slice none 0 0) noS).toList _ (fun w hS => hS) Tryz.underlying28 rfl (Tryz.size28B _ _ _ _)) hHeld ?_
     refine tkS (i := 1) (oi := ⟨some 47, Op.move (Operand.tmp 0), 76, _, _, none⟩) (v := .pointer (some ⟨x, 0, none⟩)) rfl (Or.inl ⟨by rfl, fun w hS => by go_simp⟩) hHeld ?_
     refine wpAnyH_ready (rs := [2]) (by kernel_rfl) (by simp) ?_
     refine AllReadyH.cons (o := ⟨some 48, Op.call { callee := Callee.value (Operand.func 57), args := #[Operand.tmp 47, Operand.const (Value.int IntKind.i64 50), Operand.const (Value.int IntKind.i64 1)], argTypes := #[76, 3, 3] }, 34, _, _, none⟩) rfl (fun K hK => ?_) AllReadyH.nil
     rw [if_pos (by rfl)]
     refine wp_callF 57 _ _ rfl Tryz.in57 #[ptr x, .int .i64 50, .int .i64 (1 : Int)] (by simp [Act.eval]) (fun vz wz => vz = .agg (erA 50 (1 : Int)) ∧ HS w0 w x g2 g3 g4 g6 vB L 50 1 0 0 (.slice none 0 0) 0 0 wz) ?_ ?_
     ·refine (xwrong_x 1 50 (by decide) (HL1.out hW1) (HSc.out.below hD0).rx).mono ?_
      rintro e wz ⟨rfl, h1, h2⟩
      exact ⟨_, rfl, rfl, (HSc.out.below hD0).call h1 h2⟩
     rintro vz wz ⟨rfl, hz⟩
     have HZ := Keep.mk hz
     clear hz
     have k2 := HZ.out.r2
     have k3 := HZ.out.r3
     have k4' := HZ.out.n
     refine hK.out _ _ (blk_range k4') fun hHz => ?_
     clear hK
     simp only [Act.put, pqA, pqB, pqC]
     refine wpAnyH_ready (rs := [3]) (by kernel_rfl) (by simp) ?_
     refine AllReadyH.cons (o := ⟨none, Op.store 28 (Operand.tmp 2) (Operand.tmp 46), 0, _, _, none⟩) rfl (fun K hK => ?_) AllReadyH.nil
     rw [if_pos (by rfl)]
     refine wp_store_row 28 (.tmp 2) (.tmp 46) rfl g2 (ndA 0 0 (.slice none 0 0) noS) rfl rfl 28 (ndA 0 0 noS noS) k2 (Tryz.size28B _ _ _ _) rfl (nd_one _ _ _ _ _ _ _ _) ?_
     refine hK.out _ _ (blk_range (k4'.setRow_ne HZ.out.n24 _)) fun hH2 => ?_
     clear hK
     simp only [Act.put, pqA, pqB, pqC]
     refine wpAnyH_ready (rs := [4]) (by kernel_rfl) (by simp) ?_
     refine AllReadyH.cons (o := ⟨none, Op.store 34 (Operand.tmp 3) (Operand.tmp 48), 0, _, _, none⟩) rfl (fun K hK => ?_) AllReadyH.nil
     rw [if_pos (by rfl)]
     refine wp_store_row 34 (.tmp 3) (.tmp 48) rfl g3 (erA 50 (1 : Int)) rfl rfl 34 (erA 0 0) (k3.setRow_ne (blk_ne k3 k2 (by decide)) _) (Tryz.size34B _ _) (erA_sizes _ _ _ _) (erA_one _ _) ?_
     refine hK.out _ _ (blk_range ((k4'.setRow_ne HZ.out.n24 _).setRow_ne (blk_ne k4' k3 (by decide)) _)) fun hH3 => ?_
     clear hK
     simp only [Act.put, pqA, pqB, pqC]
     refine wpAnyH_done (by kernel_rfl) ?_ _
     refine hK13 _ _ ?_
     refine wp_ret ?_
     refine bodyPost_ret (v := .tuple #[.agg (ndA 0 0 (.slice none 0 0) noS), .agg (erA 50 (1 : Int))]) (results_cell_cell_row Tryz.results29 _ _ g2 g3 28 34 _ _ (0, 0) (0, 0) _ _ rfl rfl ((k2.setRow _).setRow_ne (blk_ne k2 k3 (by decide)) _) ((k3.setRow_ne (blk_ne k3 k2 (by decide)) _).setRow _) Tryz.underlying28 rfl (Tryz.size28B _ _ _ _) Tryz.underlying34 rfl (Tryz.size34B _ _)) rfl ?_
     rw [HD4.out hW1 hf hW2 hau]
     exact HS.done HZ.out (two_grown' g2 g3 _ _) rfl rfl (bOf_1 (by decide) 1).symm (fun h => absurd h (by decide))
    ·by_cases ha2 : 8 < c2
     ·have hau : ¬ (1 ≤ c2 ∧ c2 ≤ 8) := by omega
      refine rgn ?_
      refine VlS (.int .u8 c2) ?_
      refine VlS (.bool false) ?_
      refine VlS (.bool false) ?_
      refine VlS (.int .u8 c2) ?_
      refine VlS (.bool true) ?_
      refine VlS (.bool true) ?_
      refine WL.nil (hK12 _ _ ?_)
      refine wp_cond_true rfl ?_
      refine wp_seq_k fun K14 hK14 => ?_
      have hD0 : Below w2.heap.size w2 w2.drew := (Below.refl _ _).drew
      have k4 := HSc.out.n.drew
      refine wp_region_held_drew (S := fun wx => wx.rangeAt g4 0 (ndA 0 0 (.slice none 0 0) noS).toList) (by kernel_rfl) (blk_range k4) (fun hHeld => ?_)
      refine tkS (i := 0) (oi := ⟨some 46, Op.load 28 (Operand.tmp 4), 28, _, _, none⟩) (v := .agg (ndA 0 0 (.slice none 0 0) noS)) rfl (yieldsIf_load_mid (by rfl) 28 (Operand.tmp 4) rfl g4 0 rfl (ndA 0 0 (.slice none 0 0) noS).toList _ (fun w hS => hS) Tryz.underlying28 rfl (Tryz.size28B _ _ _ _)) hHeld ?_
      refine tkS (i := 1) (oi := ⟨some 47, Op.move (Operand.tmp 0), 76, _, _, none⟩) (v := .pointer (some ⟨x, 0, none⟩)) rfl (Or.inl ⟨by rfl, fun w hS => by go_simp⟩) hHeld ?_
      refine wpAnyH_ready (rs := [2]) (by kernel_rfl) (by simp) ?_
      refine AllReadyH.cons (o := ⟨some 48, Op.call { callee := Callee.value (Operand.func 57), args := #[Operand.tmp 47, Operand.const (Value.int IntKind.i64 50), Operand.const (Value.int IntKind.i64 1)], argTypes := #[76, 3, 3] }, 34, _, _, none⟩) rfl (fun K hK => ?_) AllReadyH.nil
      rw [if_pos (by rfl)]
      refine wp_callF 57 _ _ rfl Tryz.in57 #[ptr x, .int .i64 50, .int .i64 (1 : Int)] (by simp [Act.eval]) (fun vz wz => vz = .agg (erA 50 (1 : Int)) ∧ HS w0 w x g2 g3 g4 g6 vB L 50 1 0 0 (.slice none 0 0) 0 0 wz) ?_ ?_
      ·refine (xwrong_x 1 50 (by decide) (HL1.out hW1) (HSc.out.below hD0).rx).mono ?_
       rintro e wz ⟨rfl, h1, h2⟩
       exact ⟨_, rfl, rfl, (HSc.out.below hD0).call h1 h2⟩
      rintro vz wz ⟨rfl, hz⟩
      have HZ := Keep.mk hz
      clear hz
      have k2 := HZ.out.r2
      have k3 := HZ.out.r3
      have k4' := HZ.out.n
      refine hK.out _ _ (blk_range k4') fun hHz => ?_
      clear hK
      simp only [Act.put, pqA, pqB, pqC]
      refine wpAnyH_ready (rs := [3]) (by kernel_rfl) (by simp) ?_
      refine AllReadyH.cons (o := ⟨none, Op.store 28 (Operand.tmp 2) (Operand.tmp 46), 0, _, _, none⟩) rfl (fun K hK => ?_) AllReadyH.nil
      rw [if_pos (by rfl)]
      refine wp_store_row 28 (.tmp 2) (.tmp 46) rfl g2 (ndA 0 0 (.slice none 0 0) noS) rfl rfl 28 (ndA 0 0 noS noS) k2 (Tryz.size28B _ _ _ _) rfl (nd_one _ _ _ _ _ _ _ _) ?_
      refine hK.out _ _ (blk_range (k4'.setRow_ne HZ.out.n24 _)) fun hH2 => ?_
      clear hK
      simp only [Act.put, pqA, pqB, pqC]
      refine wpAnyH_ready (rs := [4]) (by kernel_rfl) (by simp) ?_
      refine AllReadyH.cons (o := ⟨none, Op.store 34 (Operand.tmp 3) (Operand.tmp 48), 0, _, _, none⟩) rfl (fun K hK => ?_) AllReadyH.nil
      rw [if_pos (by rfl)]
      refine wp_store_row 34 (.tmp 3) (.tmp 48) rfl g3 (erA 50 (1 : Int)) rfl rfl 34 (erA 0 0) (k3.setRow_ne (blk_ne k3 k2 (by decide)) _) (Tryz.size34B _ _) (erA_sizes _ _ _ _) (erA_one _ _) ?_
      refine hK.out _ _ (blk_range ((k4'.setRow_ne HZ.out.n24 _).setRow_ne (blk_ne k4' k3 (by decide)) _)) fun hH3 => ?_
      clear hK
      simp only [Act.put, pqA, pqB, pqC]
      refine wpAnyH_done (by kernel_rfl) ?_ _
      refine hK14 _ _ ?_
      refine wp_ret ?_
      refine bodyPost_ret (v := .tuple #[.agg (ndA 0 0 (.slice none 0 0) noS), .agg (erA 50 (1 : Int))]) (results_cell_cell_row Tryz.results29 _ _ g2 g3 28 34 _ _ (0, 0) (0, 0) _ _ rfl rfl ((k2.setRow _).setRow_ne (blk_ne k2 k3 (by decide)) _) ((k3.setRow_ne (blk_ne k3 k2 (by decide)) _).setRow _) Tryz.underlying28 rfl (Tryz.size28B _ _ _ _) Tryz.underlying34 rfl (Tryz.size34B _ _)) rfl ?_
      rw [HD4.out hW1 hf hW2 hau]
      exact HS.done HZ.out (two_grown' g2 g3 _ _) rfl rfl (bOf_1 (by decide) 1).symm (fun h => absurd h (by decide))
     ·have hau : 1 ≤ c2 ∧ c2 ≤ 8 := by omega
      refine rgn ?_
      refine VlS (.int .u8 c2) ?_
      refine VlS (.bool false) ?_
      refine VlS (.bool false) ?_
      refine VlS (.int .u8 c2) ?_
      refine VlS (.bool false) ?_
      refine VlS (.bool false) ?_
      refine WL.nil (hK12 _ _ ?_)
      refine wp_cond_false rfl ?_
      refine wp_skip ?_
      refine hK11 _ _ ?_
      refine wp_seq_k fun K15 hK15 => rgn ?_
      refine VlS (.pointer (some ⟨x, 0, none⟩)) ?_
      refine WL.callF (by kernel_rfl) 58 _ _ rfl Tryz.in58 #[ptr x, .int .u64 4096] (by simp [Act.eval]) ?_
      refine ((xnum_x 4096 HSc.out.rx W3 ck N3 HM3.out)).mono ?_
      rintro e wg ⟨rfl, h1, h2⟩
      refine ⟨_, rfl, ?_⟩
      have HSd := Keep.mk (HSc.out.call h1 h2)
      clear h1 h2 HSc
      simp only [Act.put, pqA, pqB, pqC]
      refine VlS (.tuple #[.int .u64 ck, .agg (erA W3 (bOf W3 (0 + 1 + 1 + N3)))]) ?_
      refine VlS (.int .u64 ck) ?_
      refine VlS (.agg (erA W3 (bOf W3 (0 + 1 + 1 + N3)))) ?_
      refine VlS (.int .u64 ck) ?_
      refine WL.storeR (by kernel_rfl) 34 (.tmp 6) (.tmp 53) rfl g6 (erA W3 (bOf W3 (0 + 1 + 1 + N3))) rfl rfl 34 (erA 0 0) HSd.out.e (Tryz.size34B _ _) (erA_sizes _ _ _ _) (erA_one _ _) ?_
      have HSe := Keep.mk (HSd.out.setE W3 (bOf W3 (0 + 1 + 1 + N3)))
      generalize wg.setRow g6 (erA W3 (bOf W3 (0 + 1 + 1 + N3))) = w3 at *
      clear HSd
      obtain ⟨b3, hb3⟩ : ∃ b, Keep (b = bOf W3 (0 + 1 + 1 + N3)) := ⟨_, ⟨rfl⟩⟩
      rw [← hb3.out] at HSe ⊢
      have e6 := HSe.out.e.c 0 (by rfl : (erA W3 b3)[0]? = some (.int .i64 W3))
      skip
      simp only [Act.put]
      refine WL.nil (hK15 _ _ ?_)
      refine wp_seq_k fun K16 hK16 => ?_
      refine wp_seq_k fun K17 hK17 => ?_
      by_cases hW3 : W3 = 0
      ·skip
       refine rgn ?_
       refine VlS (.pointer (some ⟨g6, 0, none⟩)) ?_
       refine VlS (.int .i64 W3) ?_
       refine VlS (.bool false) ?_
       refine WL.nil (hK17 _ _ ?_)
       refine wp_cond_false rfl ?_
       refine wp_skip ?_
       refine hK16 _ _ ?_
       refine wp_seq_k fun K18 hK18 => ?_
       refine wp_seq_k fun K19 hK19 => ?_
       have hb0 : b3 = 0 := by rw [hb3.out, hW3]; rfl
       rw [hW3, hb0] at HSe
       clear hb0 e6
       by_cases hc0 : ck = 0
       ·skip
        refine rgn ?_
        refine VlS (.int .u64 ck) ?_
        refine VlS (.bool true) ?_
        refine WL.nil (hK19 _ _ ?_)
        refine wp_cond_true rfl ?_
        refine wp_seq_k fun K20 hK20 => ?_
        have hD0 : Below w3.heap.size w3 w3.drew := (Below.refl _ _).drew
        have k4 := HSe.out.n.drew
        refine wp_region_held_drew (S := fun wx => wx.rangeAt g4 0 (ndA 0 0 (.slice none 0 0) noS).toList) (by kernel_rfl) (blk_range k4) (fun hHeld => ?_)
        refine tkS (i := 0) (oi := ⟨some 61, Op.load 28 (Operand.tmp 4), 28, _, _, none⟩) (v := .agg (ndA 0 0 (.slice none 0 0) noS)) rfl (yieldsIf_load_mid (by rfl) 28 (Operand.tmp 4) rfl g4 0 rfl (ndA 0 0 (.slice none 0 0) noS).toList _ (fun w hS => hS) Tryz.underlying28 rfl (Tryz.size28B _ _ _ _)) hHeld ?_
        refine tkS (i := 1) (oi := ⟨some 62, Op.move (Operand.tmp 0), 76, _, _, none⟩) (v := .pointer (some ⟨x, 0, none⟩)) rfl (Or.inl ⟨by rfl, fun w hS => by go_simp⟩) hHeld ?_
        refine wpAnyH_ready (rs := [2]) (by kernel_rfl) (by simp) ?_
        refine AllReadyH.cons (o := ⟨some 63, Op.call { callee := Callee.value (Operand.func 57), args := #[Operand.tmp 62, Operand.const (Value.int IntKind.i64 51), Operand.const (Value.int IntKind.i64 2)], argTypes := #[76, 3, 3] }, 34, _, _, none⟩) rfl (fun K hK => ?_) AllReadyH.nil
        rw [if_pos (by rfl)]
        refine wp_callF 57 _ _ rfl Tryz.in57 #[ptr x, .int .i64 51, .int .i64 (2 : Int)] (by simp [Act.eval]) (fun vz wz => vz = .agg (erA 51 (2 : Int)) ∧ HS w0 w x g2 g3 g4 g6 vB L 51 2 0 0 (.slice none 0 0) 0 0 wz) ?_ ?_
        ·refine (xwrong_x 2 51 (by decide) (HL2.out hW2) (HSe.out.below hD0).rx).mono ?_
         rintro e wz ⟨rfl, h1, h2⟩
         exact ⟨_, rfl, rfl, (HSe.out.below hD0).call h1 h2⟩
        rintro vz wz ⟨rfl, hz⟩
        have HZ := Keep.mk hz
        clear hz
        have k2 := HZ.out.r2
        have k3 := HZ.out.r3
        have k4' := HZ.out.n
        refine hK.out _ _ (blk_range k4') fun hHz => ?_
        clear hK
        simp only [Act.put, pqA, pqB, pqC]
        refine wpAnyH_ready (rs := [3]) (by kernel_rfl) (by simp) ?_
        refine AllReadyH.cons (o := ⟨none, Op.store 28 (Operand.tmp 2) (Operand.tmp 61), 0, _, _, none⟩) rfl (fun K hK => ?_) AllReadyH.nil
        rw [if_pos (by rfl)]
        refine wp_store_row 28 (.tmp 2) (.tmp 61) rfl g2 (ndA 0 0 (.slice none 0 0) noS) rfl rfl 28 (ndA 0 0 noS noS) k2 (Tryz.size28B _ _ _ _) rfl (nd_one _ _ _ _ _ _ _ _) ?_
        refine hK.out _ _ (blk_range (k4'.setRow_ne HZ.out.n24 _)) fun hH2 => ?_
        clear hK
        simp only [Act.put, pqA, pqB, pqC]
        refine wpAnyH_ready (rs := [4]) (by kernel_rfl) (by simp) ?_
        refine AllReadyH.cons (o := ⟨none, Op.store 34 (Operand.tmp 3) (Operand.tmp 63), 0, _, _, none⟩) rfl (fun K hK => ?_) AllReadyH.nil
        rw [if_pos (by rfl)]
        refine wp_store_row 34 (.tmp 3) (.tmp 63) rfl g3 (erA 51 (2 : Int)) rfl rfl 34 (erA 0 0) (k3.setRow_ne (blk_ne k3 k2 (by decide)) _) (Tryz.size34B _ _) (erA_sizes _ _ _ _) (erA_one _ _) ?_
        refine hK.out _ _ (blk_range ((k4'.setRow_ne HZ.out.n24 _).setRow_ne (blk_ne k4' k3 (by decide)) _)) fun hH3 => ?_
        clear hK
        simp only [Act.put, pqA, pqB, pqC]
        refine wpAnyH_done (by kernel_rfl) ?_ _
        refine hK20 _ _ ?_
        refine wp_ret ?_
        refine bodyPost_ret (v := .tuple #[.agg (ndA 0 0 (.slice none 0 0) noS), .agg (erA 51 (2 : Int))]) (results_cell_cell_row Tryz.results29 _ _ g2 g3 28 34 _ _ (0, 0) (0, 0) _ _ rfl rfl ((k2.setRow _).setRow_ne (blk_ne k2 k3 (by decide)) _) ((k3.setRow_ne (blk_ne k3 k2 (by decide)) _).setRow _) Tryz.underlying28 rfl (Tryz.size28B _ _ _ _) Tryz.underlying34 rfl (Tryz.size34B _ _)) rfl ?_
        rw [HD6.out hW1 hf hW2 hau hW3 hc0]
        exact HS.done HZ.out (two_grown' g2 g3 _ _) rfl rfl (bOf_1 (by decide) 2).symm (fun h => absurd h (by decide))
       ·skip
        refine rgn ?_
        refine VlS (.int .u64 ck) ?_
        refine VlS (.bool false) ?_
        refine WL.nil (hK19 _ _ ?_)
        refine wp_cond_false rfl ?_
        refine wp_skip ?_
        refine hK18 _ _ ?_
        refine wp_seq_k fun K21 hK21 => rgn ?_
        refine VlS (.pointer (some ⟨x, 0, none⟩)) ?_
        refine WL.callF (by kernel_rfl) 58 _ _ rfl Tryz.in58 #[ptr x, .int .u64 64] (by simp [Act.eval]) ?_
        refine ((xnum_x 64 HSe.out.rx W4 (n : Int) N4 HM4.out)).mono ?_
        rintro e wh ⟨rfl, h1, h2⟩
        refine ⟨_, rfl, ?_⟩
        have HSf := Keep.mk (HSe.out.call h1 h2)
        clear h1 h2 HSe
        simp only [Act.put, pqA, pqB, pqC]
        refine VlS (.tuple #[.int .u64 (n : Int), .agg (erA W4 (bOf W4 (0 + 1 + 1 + N3 + N4)))]) ?_
        refine VlS (.int .u64 (n : Int)) ?_
        refine VlS (.agg (erA W4 (bOf W4 (0 + 1 + 1 + N3 + N4)))) ?_
        refine VlS (.int .u64 (n : Int)) ?_
        refine WL.storeR (by kernel_rfl) 34 (.tmp 6) (.tmp 68) rfl g6 (erA W4 (bOf W4 (0 + 1 + 1 + N3 + N4))) rfl rfl 34 (erA 0 0) HSf.out.e (Tryz.size34B _ _) (erA_sizes _ _ _ _) (erA_one _ _) ?_
        have HSg := Keep.mk (HSf.out.setE W4 (bOf W4 (0 + 1 + 1 + N3 + N4)))
        generalize wh.setRow g6 (erA W4 (bOf W4 (0 + 1 + 1 + N3 + N4))) = w4 at *
        clear HSf
        obtain ⟨b4, hb4⟩ : ∃ b, Keep (b = bOf W4 (0 + 1 + 1 + N3 + N4)) := ⟨_, ⟨rfl⟩⟩
        rw [← hb4.out] at HSg ⊢
        have e6 := HSg.out.e.c 0 (by rfl : (erA W4 b4)[0]? = some (.int .i64 W4))
        skip
        simp only [Act.put]
        refine WL.nil (hK21 _ _ ?_)
        refine wp_seq_k fun K22 hK22 => ?_
        refine wp_seq_k fun K23 hK23 => ?_
        by_cases hW4 : W4 = 0
        ·skip
         refine rgn ?_
         refine VlS (.pointer (some ⟨g6, 0, none⟩)) ?_
         refine VlS (.int .i64 W4) ?_
         refine VlS (.bool false) ?_
         refine WL.nil (hK23 _ _ ?_)
         refine wp_cond_false rfl ?_
         refine wp_skip ?_
         refine hK22 _ _ ?_
         refine wp_seq_k fun K24 hK24 => ?_
         refine wp_seq_k fun K25 hK25 => ?_
         have hb0 : b4 = 0 := by rw [hb4.out, hW4]; rfl
         rw [hW4, hb0] at HSg
         clear hb0 e6
         rcases Bool.eq_false_or_eq_true ((ck == 1) == ((n : Int) == 0)) with hcn | hcn
         ·have hcn' : ((ck == 1) != ((n : Int) == 0)) = false := by rw [bne, hcn]; rfl
          refine rgn ?_
          refine VlS (.int .u64 ck) ?_
          refine VlS (.bool (ck == 1)) ?_
          refine VlS (.int .u64 (n : Int)) ?_
          refine VlS (.bool ((n : Int) == 0)) ?_
          refine VlS (.bool false) ?_
          refine WL.nil (hK25 _ _ ?_)
          refine wp_cond_false rfl ?_
          refine wp_skip ?_
          refine hK24 _ _ ?_
          refine wp_seq_k fun K26 hK26 => ?_
          have hwa : IntKind.i64.wrap c2 = c2 := by rw [IntKind.wrap_i64]; omega
          have c_o := HSg.out.n.c 0 (by rfl : (ndA 0 0 (.slice none 0 0) noS)[0]? = some (.int .i64 0))
          have f_o := HSg.out.n.frozen 0
          refine rgn ?_
          refine VlS (.int .u8 c2) ?_
          refine VlS (.int .i64 c2) ?_
          refine VlS (.pointer (some ⟨g4, 0, none⟩)) ?_
          refine WL.cell (by kernel_rfl) (w4.setCell ⟨g4, 0, none⟩ (.int .i64 c2)) (by go_simp) ?_
          clear c_o f_o
          have HSh := Keep.mk (HSg.out.setN (au' := c2) (ck' := 0) (vp' := .slice none 0 0) (w2 := w4.setCell ⟨g4, 0, none⟩ (.int .i64 c2)) (HSg.out.n.set 0 (.int .i64 c2)) (Grown.setCell w4 g4 0 _ fun _ => rfl))
          generalize w4.setCell ⟨g4, 0, none⟩ (.int .i64 c2) = w5 at *
          clear HSg
          simp only [Act.put]
          refine WL.nil (hK26 _ _ ?_)
          refine wp_seq_k fun K27 hK27 => ?_
          have hwc : IntKind.i64.wrap ck = ck := by rw [IntKind.wrap_i64]; have := Hck.out; omega
          have c_o := HSh.out.n.c 1 (by rfl : (ndA c2 0 (.slice none 0 0) noS)[1]? = some (.int .i64 0))
          have f_o := HSh.out.n.frozen 1
          refine rgn ?_
          refine VlS (.int .u64 ck) ?_
          refine VlS (.int .i64 ck) ?_
          refine VlS (.pointer (some ⟨g4, 1, none⟩)) ?_
          refine WL.cell (by kernel_rfl) (w5.setCell ⟨g4, 1, none⟩ (.int .i64 ck)) (by go_simp) ?_
          clear c_o f_o
          have HSi := Keep.mk (HSh.out.setN (au' := c2) (ck' := ck) (vp' := .slice none 0 0) (w2 := w5.setCell ⟨g4, 1, none⟩ (.int .i64 ck)) (HSh.out.n.set 1 (.int .i64 ck)) (Grown.setCell w5 g4 1 _ fun _ => rfl))
          generalize w5.setCell ⟨g4, 1, none⟩ (.int .i64 ck) = w6 at *
          clear HSh
          simp only [Act.put]
          refine WL.nil (hK27 _ _ ?_)
          rw [HD9.out hW1 hf hW2 hau hW3 hc0 hW4 hcn]
          exact head_loop w0 w x g2 g3 g4 g6 vB L (0 + 1 + 1 + N3 + N4) n Hn.out c2 ck w6 HSi.out _ rfl
         ·have hcn' : ((ck == 1) != ((n : Int) == 0)) = true := by rw [bne, hcn]; rfl
          refine rgn ?_
          refine VlS (.int .u64 ck) ?_
          refine VlS (.bool (ck == 1)) ?_
          refine VlS (.int .u64 (n : Int)) ?_
          refine VlS (.bool ((n : Int) == 0)) ?_
          refine VlS (.bool true) ?_
          refine WL.nil (hK25 _ _ ?_)
          refine wp_cond_true rfl ?_
          refine wp_seq_k fun K28 hK28 => ?_
          have hD0 : Below w4.heap.size w4 w4.drew := (Below.refl _ _).drew
          have k4 := HSg.out.n.drew
          refine wp_region_held_drew (S := fun wx => wx.rangeAt g4 0 (ndA 0 0 (.slice none 0 0) noS).toList) (by kernel_rfl) (blk_range k4) (fun hHeld => ?_)
          refine tkS (i := 0) (oi := ⟨some 79, Op.load 28 (Operand.tmp 4), 28, _, _, none⟩) (v := .agg (ndA 0 0 (.slice none 0 0) noS)) rfl (yieldsIf_load_mid (by rfl) 28 (Operand.tmp 4) rfl g4 0 rfl (ndA 0 0 (.slice none 0 0) noS).toList _ (fun w hS => hS) Tryz.underlying28 rfl (Tryz.size28B _ _ _ _)) hHeld ?_
          refine tkS (i := 1) (oi := ⟨some 80, Op.move (Operand.tmp 0), 76, _, _, none⟩) (v := .pointer (some ⟨x, 0, none⟩)) rfl (Or.inl ⟨by rfl, fun w hS => by go_simp⟩) hHeld ?_
          refine wpAnyH_ready (rs := [2]) (by kernel_rfl) (by simp) ?_
          refine AllReadyH.cons (o := ⟨some 81, Op.call { callee := Callee.value (Operand.func 57), args := #[Operand.tmp 80, Operand.const (Value.int IntKind.i64 51), Operand.const (Value.int IntKind.i64 2)], argTypes := #[76, 3, 3] }, 34, _, _, none⟩) rfl (fun K hK => ?_) AllReadyH.nil
          rw [if_pos (by rfl)]
          refine wp_callF 57 _ _ rfl Tryz.in57 #[ptr x, .int .i64 51, .int .i64 (2 : Int)] (by simp [Act.eval]) (fun vz wz => vz = .agg (erA 51 (2 : Int)) ∧ HS w0 w x g2 g3 g4 g6 vB L 51 2 0 0 (.slice none 0 0) 0 0 wz) ?_ ?_
          ·refine (xwrong_x 2 51 (by decide) (HL2.out hW2) (HSg.out.below hD0).rx).mono ?_
           rintro e wz ⟨rfl, h1, h2⟩
           exact ⟨_, rfl, rfl, (HSg.out.below hD0).call h1 h2⟩
          rintro vz wz ⟨rfl, hz⟩
          have HZ := Keep.mk hz
          clear hz
          have k2 := HZ.out.r2
          have k3 := HZ.out.r3
          have k4' := HZ.out.n
          refine hK.out _ _ (blk_range k4') fun hHz => ?_
          clear hK
          simp only [Act.put, pqA, pqB, pqC]
          refine wpAnyH_ready (rs := [3]) (by kernel_rfl) (by simp) ?_
          refine AllReadyH.cons (o := ⟨none, Op.store 28 (Operand.tmp 2) (Operand.tmp 79), 0, _, _, none⟩) rfl (fun K hK => ?_) AllReadyH.nil
          rw [if_pos (by rfl)]
          refine wp_store_row 28 (.tmp 2) (.tmp 79) rfl g2 (ndA 0 0 (.slice none 0 0) noS) rfl rfl 28 (ndA 0 0 noS noS) k2 (Tryz.size28B _ _ _ _) rfl (nd_one _ _ _ _ _ _ _ _) ?_
          refine hK.out _ _ (blk_range (k4'.setRow_ne HZ.out.n24 _)) fun hH2 => ?_
          clear hK
          simp only [Act.put, pqA, pqB, pqC]
          refine wpAnyH_ready (rs := [4]) (by kernel_rfl) (by simp) ?_
          refine AllReadyH.cons (o := ⟨none, Op.store 34 (Operand.tmp 3) (Operand.tmp 81), 0, _, _, none⟩) rfl (fun K hK => ?_) AllReadyH.nil
          rw [if_pos (by rfl)]
          refine wp_store_row 34 (.tmp 3) (.tmp 81) rfl g3 (erA 51 (2 : Int)) rfl rfl 34 (erA 0 0) (k3.setRow_ne (blk_ne k3 k2 (by decide)) _) (Tryz.size34B _ _) (erA_sizes _ _ _ _) (erA_one _ _) ?_
          refine hK.out _ _ (blk_range ((k4'.setRow_ne HZ.out.n24 _).setRow_ne (blk_ne k4' k3 (by decide)) _)) fun hH3 => ?_
          clear hK
          simp only [Act.put, pqA, pqB, pqC]
          refine wpAnyH_done (by kernel_rfl) ?_ _
          refine hK28 _ _ ?_
          refine wp_ret ?_
          refine bodyPost_ret (v := .tuple #[.agg (ndA 0 0 (.slice none 0 0) noS), .agg (erA 51 (2 : Int))]) (results_cell_cell_row Tryz.results29 _ _ g2 g3 28 34 _ _ (0, 0) (0, 0) _ _ rfl rfl ((k2.setRow _).setRow_ne (blk_ne k2 k3 (by decide)) _) ((k3.setRow_ne (blk_ne k3 k2 (by decide)) _).setRow _) Tryz.underlying28 rfl (Tryz.size28B _ _ _ _) Tryz.underlying34 rfl (Tryz.size34B _ _)) rfl ?_
          rw [HD8.out hW1 hf hW2 hau hW3 hc0 hW4 hcn]
          exact HS.done HZ.out (two_grown' g2 g3 _ _) rfl rfl (bOf_1 (by decide) 2).symm (fun h => absurd h (by decide))
        ·skip
         refine rgn ?_
         refine VlS (.pointer (some ⟨g6, 0, none⟩)) ?_
         refine VlS (.int .i64 W4) ?_
         refine VlS (.bool true) ?_
         refine WL.nil (hK23 _ _ ?_)
         refine wp_cond_true rfl ?_
         refine wp_seq_k fun K29 hK29 => ?_
         have k2 := HSg.out.r2.drew
         have k3 := HSg.out.r3.drew
         have k4 := HSg.out.n.drew
         have k6 := (HSg.out.e).drew
         have n42 := HSg.out.n24
         have n62 : g6 ≠ g2 := blk_ne k6 k2 (by decide)
         have n43 : g4 ≠ g3 := blk_ne k4 k3 (by decide)
         have n63 : g6 ≠ g3 := HSg.out.n36
         refine wp_region_held_drew (S := fun wx => wx.rangeAt g4 0 (ndA 0 0 (.slice none 0 0) noS).toList ∧ wx.rangeAt g6 0 (erA W4 b4).toList) (by kernel_rfl) (⟨blk_range k4, blk_range k6⟩) (fun hHeld => ?_)
         refine tkS (i := 0) (oi := ⟨some 72, Op.load 28 (Operand.tmp 4), 28, _, _, none⟩) (v := .agg (ndA 0 0 (.slice none 0 0) noS)) rfl (yieldsIf_load_mid (by rfl) 28 (Operand.tmp 4) rfl g4 0 rfl (ndA 0 0 (.slice none 0 0) noS).toList _ (fun w hS => hS.1) Tryz.underlying28 rfl (Tryz.size28B _ _ _ _)) hHeld ?_
         refine tkS (i := 1) (oi := ⟨some 73, Op.load 34 (Operand.tmp 6), 34, _, _, none⟩) (v := .agg (erA W4 b4)) rfl (yieldsIf_load_mid (by rfl) 34 (Operand.tmp 6) rfl g6 0 rfl (erA W4 b4).toList _ (fun w hS => hS.2) Tryz.underlying34 rfl (Tryz.size34B _ _)) hHeld ?_
         refine wpAnyH_ready (rs := [2]) (by kernel_rfl) (by simp) ?_
         refine AllReadyH.cons (o := ⟨none, Op.store 28 (Operand.tmp 2) (Operand.tmp 72), 0, _, _, none⟩) rfl (fun K hK => ?_) AllReadyH.nil
         rw [if_pos (by rfl)]
         refine wp_store_row 28 (.tmp 2) (.tmp 72) rfl g2 (ndA 0 0 (.slice none 0 0) noS) rfl rfl 28 (ndA 0 0 noS noS) k2 (Tryz.size28B _ _ _ _) rfl (nd_one _ _ _ _ _ _ _ _) ?_
         refine hK.out _ _ ⟨blk_range (k4.setRow_ne n42 _), blk_range (k6.setRow_ne n62 _)⟩ fun hH2 => ?_
         clear hK
         simp only [Act.put, pqA, pqB, pqC]
         refine wpAnyH_ready (rs := [3]) (by kernel_rfl) (by simp) ?_
         refine AllReadyH.cons (o := ⟨none, Op.store 34 (Operand.tmp 3) (Operand.tmp 73), 0, _, _, none⟩) rfl (fun K hK => ?_) AllReadyH.nil
         rw [if_pos (by rfl)]
         refine wp_store_row 34 (.tmp 3) (.tmp 73) rfl g3 (erA W4 b4) rfl rfl 34 (erA 0 0) (k3.setRow_ne (blk_ne k3 k2 (by decide)) _) (Tryz.size34B _ _) (erA_sizes _ _ _ _) (erA_one _ _) ?_
         refine hK.out _ _ ⟨blk_range ((k4.setRow_ne n42 _).setRow_ne n43 _), blk_range ((k6.setRow_ne n62 _).setRow_ne n63 _)⟩ fun hH3 => ?_
         clear hK
         simp only [Act.put, pqA, pqB, pqC]
         refine wpAnyH_done (by kernel_rfl) ?_ _
         refine hK29 _ _ ?_
         refine wp_ret ?_
         refine bodyPost_ret (v := .tuple #[.agg (ndA 0 0 (.slice none 0 0) noS), .agg (erA W4 b4)]) (results_cell_cell_row Tryz.results29 _ _ g2 g3 28 34 _ _ (0, 0) (0, 0) _ _ rfl rfl ((k2.setRow _).setRow_ne (blk_ne k2 k3 (by decide)) _) ((k3.setRow_ne (blk_ne k3 k2 (by decide)) _).setRow _) Tryz.underlying28 rfl (Tryz.size28B _ _ _ _) Tryz.underlying34 rfl (Tryz.size34B _ _)) rfl ?_
         rw [HD7.out hW1 hf hW2 hau hW3 hc0 hW4]
         exact HS.done HSg.out (two_grown g2 g3 _ _) rfl rfl hb4.out (fun h => absurd h hW4)
      ·skip
       refine rgn ?_
       refine VlS (.pointer (some ⟨g6, 0, none⟩)) ?_
       refine VlS (.int .i64 W3) ?_
       refine VlS (.bool true) ?_
       refine WL.nil (hK17 _ _ ?_)
       refine wp_cond_true rfl ?_
       refine wp_seq_k fun K30 hK30 => ?_
       have k2 := HSe.out.r2.drew
       have k3 := HSe.out.r3.drew
       have k4 := HSe.out.n.drew
       have k6 := (HSe.out.e).drew
       have n42 := HSe.out.n24
       have n62 : g6 ≠ g2 := blk_ne k6 k2 (by decide)
       have n43 : g4 ≠ g3 := blk_ne k4 k3 (by decide)
       have n63 : g6 ≠ g3 := HSe.out.n36
       refine wp_region_held_drew (S := fun wx => wx.rangeAt g4 0 (ndA 0 0 (.slice none 0 0) noS).toList ∧ wx.rangeAt g6 0 (erA W3 b3).toList) (by kernel_rfl) (⟨blk_range k4, blk_range k6⟩) (fun hHeld => ?_)
       refine tkS (i := 0) (oi := ⟨some 57, Op.load 28 (Operand.tmp 4), 28, _, _, none⟩) (v := .agg (ndA 0 0 (.slice none 0 0) noS)) rfl (yieldsIf_load_mid (by rfl) 28 (Operand.tmp 4) rfl g4 0 rfl (ndA 0 0 (.slice none 0 0) noS).toList _ (fun w hS => hS.1) Tryz.underlying28 rfl (Tryz.size28B _ _ _ _)) hHeld ?_
       refine tkS (i := 1) (oi := ⟨some 58, Op.load 34 (Operand.tmp 6), 34, _, _, none⟩) (v := .agg (erA W3 b3)) rfl (yieldsIf_load_mid (by rfl) 34 (Operand.tmp 6) rfl g6 0 rfl (erA W3 b3).toList _ (fun w hS => hS.2) Tryz.underlying34 rfl (Tryz.size34B _ _)) hHeld ?_
       refine wpAnyH_ready (rs := [2]) (by kernel_rfl) (by simp) ?_
       refine AllReadyH.cons (o := ⟨none, Op.store 28 (Operand.tmp 2) (Operand.tmp 57), 0, _, _, none⟩) rfl (fun K hK => ?_) AllReadyH.nil
       rw [if_pos (by rfl)]
       refine wp_store_row 28 (.tmp 2) (.tmp 57) rfl g2 (ndA 0 0 (.slice none 0 0) noS) rfl rfl 28 (ndA 0 0 noS noS) k2 (Tryz.size28B _ _ _ _) rfl (nd_one _ _ _ _ _ _ _ _) ?_
       refine hK.out _ _ ⟨blk_range (k4.setRow_ne n42 _), blk_range (k6.setRow_ne n62 _)⟩ fun hH2 => ?_
       clear hK
       simp only [Act.put, pqA, pqB, pqC]
       refine wpAnyH_ready (rs := [3]) (by kernel_rfl) (by simp) ?_
       refine AllReadyH.cons (o := ⟨none, Op.store 34 (Operand.tmp 3) (Operand.tmp 58), 0, _, _, none⟩) rfl (fun K hK => ?_) AllReadyH.nil
       rw [if_pos (by rfl)]
       refine wp_store_row 34 (.tmp 3) (.tmp 58) rfl g3 (erA W3 b3) rfl rfl 34 (erA 0 0) (k3.setRow_ne (blk_ne k3 k2 (by decide)) _) (Tryz.size34B _ _) (erA_sizes _ _ _ _) (erA_one _ _) ?_
       refine hK.out _ _ ⟨blk_range ((k4.setRow_ne n42 _).setRow_ne n43 _), blk_range ((k6.setRow_ne n62 _).setRow_ne n63 _)⟩ fun hH3 => ?_
       clear hK
       simp only [Act.put, pqA, pqB, pqC]
       refine wpAnyH_done (by kernel_rfl) ?_ _
       refine hK30 _ _ ?_
       refine wp_ret ?_
       refine bodyPost_ret (v := .tuple #[.agg (ndA 0 0 (.slice none 0 0) noS), .agg (erA W3 b3)]) (results_cell_cell_row Tryz.results29 _ _ g2 g3 28 34 _ _ (0, 0) (0, 0) _ _ rfl rfl ((k2.setRow _).setRow_ne (blk_ne k2 k3 (by decide)) _) ((k3.setRow_ne (blk_ne k3 k2 (by decide)) _).setRow _) Tryz.underlying28 rfl (Tryz.size28B _ _ _ _) Tryz.underlying34 rfl (Tryz.size34B _ _)) rfl ?_
       rw [HD5.out hW1 hf hW2 hau hW3]
       exact HS.done HSe.out (two_grown g2 g3 _ _) rfl rfl hb3.out (fun h => absurd h hW3)
   ·skip
    refine rgn ?_
    refine VlS (.pointer (some ⟨g6, 0, none⟩)) ?_
    refine VlS (.int .i64 W2) ?_
    refine VlS (.bool true) ?_
    refine WL.nil (hK10 _ _ ?_)
    refine wp_cond_true rfl ?_
    refine wp_seq_k fun K31 hK31 => ?_
    have k2 := HSc.out.r2.drew
    have k3 := HSc.out.r3.drew
    have k4 := HSc.out.n.drew
    have k6 := (HSc.out.e).drew
    have n42 := HSc.out.n24
    have n62 : g6 ≠ g2 := blk_ne k6 k2 (by decide)
    have n43 : g4 ≠ g3 := blk_ne k4 k3 (by decide)
    have n63 : g6 ≠ g3 := HSc.out.n36
    refine wp_region_held_drew (S := fun wx => wx.rangeAt g4 0 (ndA 0 0 (.slice none 0 0) noS).toList ∧ wx.rangeAt g6 0 (erA W2 b2).toList) (by kernel_rfl) (⟨blk_range k4, blk_range k6⟩) (fun hHeld => ?_)
    refine tkS (i := 0) (oi := ⟨some 38, Op.load 28 (Operand.tmp 4), 28, _, _, none⟩) (v := .agg (ndA 0 0 (.slice none 0 0) noS)) rfl (yieldsIf_load_mid (by rfl) 28 (Operand.tmp 4) rfl g4 0 rfl (ndA 0 0 (.slice none 0 0) noS).toList _ (fun w hS => hS.1) Tryz.underlying28 rfl (Tryz.size28B _ _ _ _)) hHeld ?_
    refine tkS (i := 1) (oi := ⟨some 39, Op.load 34 (Operand.tmp 6), 34, _, _, none⟩) (v := .agg (erA W2 b2)) rfl (yieldsIf_load_mid (by rfl) 34 (Operand.tmp 6) rfl g6 0 rfl (erA W2 b2).toList _ (fun w hS => hS.2) Tryz.underlying34 rfl (Tryz.size34B _ _)) hHeld ?_
    refine wpAnyH_ready (rs := [2]) (by kernel_rfl) (by simp) ?_
    refine AllReadyH.cons (o := ⟨none, Op.store 28 (Operand.tmp 2) (Operand.tmp 38), 0, _, _, none⟩) rfl (fun K hK => ?_) AllReadyH.nil
    rw [if_pos (by rfl)]
    refine wp_store_row 28 (.tmp 2) (.tmp 38) rfl g2 (ndA 0 0 (.slice none 0 0) noS) rfl rfl 28 (ndA 0 0 noS noS) k2 (Tryz.size28B _ _ _ _) rfl (nd_one _ _ _ _ _ _ _ _) ?_
    refine hK.out _ _ ⟨blk_range (k4.setRow_ne n42 _), blk_range (k6.setRow_ne n62 _)⟩ fun hH2 => ?_
    clear hK
    simp only [Act.put, pqA, pqB, pqC]
    refine wpAnyH_ready (rs := [3]) (by kernel_rfl) (by simp) ?_
    refine AllReadyH.cons (o := ⟨none, Op.store 34 (Operand.tmp 3) (Operand.tmp 39), 0, _, _, none⟩) rfl (fun K hK => ?_) AllReadyH.nil
    rw [if_pos (by rfl)]
    refine wp_store_row 34 (.tmp 3) (.tmp 39) rfl g3 (erA W2 b2) rfl rfl 34 (erA 0 0) (k3.setRow_ne (blk_ne k3 k2 (by decide)) _) (Tryz.size34B _ _) (erA_sizes _ _ _ _) (erA_one _ _) ?_
    refine hK.out _ _ ⟨blk_range ((k4.setRow_ne n42 _).setRow_ne n43 _), blk_range ((k6.setRow_ne n62 _).setRow_ne n63 _)⟩ fun hH3 => ?_
    clear hK
    simp only [Act.put, pqA, pqB, pqC]
    refine wpAnyH_done (by kernel_rfl) ?_ _
    refine hK31 _ _ ?_
    refine wp_ret ?_
    refine bodyPost_ret (v := .tuple #[.agg (ndA 0 0 (.slice none 0 0) noS), .agg (erA W2 b2)]) (results_cell_cell_row Tryz.results29 _ _ g2 g3 28 34 _ _ (0, 0) (0, 0) _ _ rfl rfl ((k2.setRow _).setRow_ne (blk_ne k2 k3 (by decide)) _) ((k3.setRow_ne (blk_ne k3 k2 (by decide)) _).setRow _) Tryz.underlying28 rfl (Tryz.size28B _ _ _ _) Tryz.underlying34 rfl (Tryz.size34B _ _)) rfl ?_
    rw [HD3.out hW1 hf hW2]
    exact HS.done HSc.out (two_grown g2 g3 _ _) rfl rfl hb2.out (fun h => absurd h hW2)
  ·skip
   refine rgn ?_
   refine VlS (.int .u8 c1) ?_
   refine VlS (.bool true) ?_
   refine WL.nil (hK7 _ _ ?_)
   refine wp_cond_true rfl ?_
   refine wp_seq_k fun K32 hK32 => ?_
   have hD0 : Below w1.heap.size w1 w1.drew := (Below.refl _ _).drew
   have k4 := HSa.out.n.drew
   refine wp_region_held_drew (S := fun wx => wx.rangeAt g4 0 (ndA 0 0 (.slice none 0 0) noS).toList) (by kernel_rfl) (blk_range k4) (fun hHeld => ?_)
   refine tkS (i := 0) (oi := ⟨some 27, Op.load 28 (Operand.tmp 4), 28, _, _, none⟩) (v := .agg (ndA 0 0 (.slice none 0 0) noS)) rfl (yieldsIf_load_mid (by rfl) 28 (Operand.tmp 4) rfl g4 0 rfl (ndA 0 0 (.slice none 0 0) noS).toList _ (fun w hS => hS) Tryz.underlying28 rfl (Tryz.size28B _ _ _ _)) hHeld ?_
   refine tkS (i := 1) (oi := ⟨some 28, Op.move (Operand.tmp 0), 76, _, _, none⟩) (v := .pointer (some ⟨x, 0, none⟩)) rfl (Or.inl ⟨by rfl, fun w hS => by go_simp⟩) hHeld ?_
   refine wpAnyH_ready (rs := [2]) (by kernel_rfl) (by simp) ?_
   refine AllReadyH.cons (o := ⟨some 29, Op.call { callee := Callee.value (Operand.func 57), args := #[Operand.tmp 28, Operand.const (Value.int IntKind.i64 5), Operand.const (Value.int IntKind.i64 0)], argTypes := #[76, 3, 3] }, 34, _, _, none⟩) rfl (fun K hK => ?_) AllReadyH.nil
   rw [if_pos (by rfl)]
   refine wp_callF 57 _ _ rfl Tryz.in57 #[ptr x, .int .i64 5, .int .i64 (0 : Int)] (by simp [Act.eval]) (fun vz wz => vz = .agg (erA 5 (0 : Int)) ∧ HS w0 w x g2 g3 g4 g6 vB L 5 0 0 0 (.slice none 0 0) 0 0 wz) ?_ ?_
   ·refine (xwrong_x 0 5 (by decide) (Nat.zero_le _) (HSa.out.below hD0).rx).mono ?_
    rintro e wz ⟨rfl, h1, h2⟩
    exact ⟨_, rfl, rfl, (HSa.out.below hD0).call h1 h2⟩
   rintro vz wz ⟨rfl, hz⟩
   have HZ := Keep.mk hz
   clear hz
   have k2 := HZ.out.r2
   have k3 := HZ.out.r3
   have k4' := HZ.out.n
   refine hK.out _ _ (blk_range k4') fun hHz => ?_
   clear hK
   simp only [Act.put, pqA, pqB, pqC]
   refine wpAnyH_ready (rs := [3]) (by kernel_rfl) (by simp) ?_
   refine AllReadyH.cons (o := ⟨none, Op.store 28 (Operand.tmp 2) (Operand.tmp 27), 0, _, _, none⟩) rfl (fun K hK => ?_) AllReadyH.nil
   rw [if_pos (by rfl)]
   refine wp_store_row 28 (.tmp 2) (.tmp 27) rfl g2 (ndA 0 0 (.slice none 0 0) noS) rfl rfl 28 (ndA 0 0 noS noS) k2 (Tryz.size28B _ _ _ _) rfl (nd_one _ _ _ _ _ _ _ _) ?_
   refine hK.out _ _ (blk_range (k4'.setRow_ne HZ.out.n24 _)) fun hH2 => ?_
   clear hK
   simp only [Act.put, pqA, pqB, pqC]
   refine wpAnyH_ready (rs := [4]) (by kernel_rfl) (by simp) ?_
   refine AllReadyH.cons (o := ⟨none, Op.store 34 (Operand.tmp 3) (Operand.tmp 29), 0, _, _, none⟩) rfl (fun K hK => ?_) AllReadyH.nil
   rw [if_pos (by rfl)]
   refine wp_store_row 34 (.tmp 3) (.tmp 29) rfl g3 (erA 5 (0 : Int)) rfl rfl 34 (erA 0 0) (k3.setRow_ne (blk_ne k3 k2 (by decide)) _) (Tryz.size34B _ _) (erA_sizes _ _ _ _) (erA_one _ _) ?_
   refine hK.out _ _ (blk_range ((k4'.setRow_ne HZ.out.n24 _).setRow_ne (blk_ne k4' k3 (by decide)) _)) fun hH3 => ?_
   clear hK
   simp only [Act.put, pqA, pqB, pqC]
   refine wpAnyH_done (by kernel_rfl) ?_ _
   refine hK32 _ _ ?_
   refine wp_ret ?_
   refine bodyPost_ret (v := .tuple #[.agg (ndA 0 0 (.slice none 0 0) noS), .agg (erA 5 (0 : Int))]) (results_cell_cell_row Tryz.results29 _ _ g2 g3 28 34 _ _ (0, 0) (0, 0) _ _ rfl rfl ((k2.setRow _).setRow_ne (blk_ne k2 k3 (by decide)) _) ((k3.setRow_ne (blk_ne k3 k2 (by decide)) _).setRow _) Tryz.underlying28 rfl (Tryz.size28B _ _ _ _) Tryz.underlying34 rfl (Tryz.size34B _ _)) rfl ?_
   rw [HD2.out hW1 hf]
   exact HS.done HZ.out (two_grown' g2 g3 _ _) rfl rfl (bOf_1 (by decide) 0).symm (fun h => absurd h (by decide))
 ·skip
  refine rgn ?_
  refine VlS (.pointer (some ⟨g6, 0, none⟩)) ?_
  refine VlS (.int .i64 W1) ?_
  refine VlS (.bool true) ?_
  refine WL.nil (hK5 _ _ ?_)
  refine wp_cond_true rfl ?_
  refine wp_seq_k fun K33 hK33 => ?_
  have k2 := HSa.out.r2.drew
  have k3 := HSa.out.r3.drew
  have k4 := HSa.out.n.drew
  have k6 := (HSa.out.e).drew
  have n42 := HSa.out.n24
  have n62 : g6 ≠ g2 := blk_ne k6 k2 (by decide)
  have n43 : g4 ≠ g3 := blk_ne k4 k3 (by decide)
  have n63 : g6 ≠ g3 := HSa.out.n36
  refine wp_region_held_drew (S := fun wx => wx.rangeAt g4 0 (ndA 0 0 (.slice none 0 0) noS).toList ∧ wx.rangeAt g6 0 (erA W1 b1).toList) (by kernel_rfl) (⟨blk_range k4, blk_range k6⟩) (fun hHeld => ?_)
  refine tkS (i := 0) (oi := ⟨some 23, Op.load 28 (Operand.tmp 4), 28, _, _, none⟩) (v := .agg (ndA 0 0 (.slice none 0 0) noS)) rfl (yieldsIf_load_mid (by rfl) 28 (Operand.tmp 4) rfl g4 0 rfl (ndA 0 0 (.slice none 0 0) noS).toList _ (fun w hS => hS.1) Tryz.underlying28 rfl (Tryz.size28B _ _ _ _)) hHeld ?_
  refine tkS (i := 1) (oi := ⟨some 24, Op.load 34 (Operand.tmp 6), 34, _, _, none⟩) (v := .agg (erA W1 b1)) rfl (yieldsIf_load_mid (by rfl) 34 (Operand.tmp 6) rfl g6 0 rfl (erA W1 b1).toList _ (fun w hS => hS.2) Tryz.underlying34 rfl (Tryz.size34B _ _)) hHeld ?_
  refine wpAnyH_ready (rs := [2]) (by kernel_rfl) (by simp) ?_
  refine AllReadyH.cons (o := ⟨none, Op.store 28 (Operand.tmp 2) (Operand.tmp 23), 0, _, _, none⟩) rfl (fun K hK => ?_) AllReadyH.nil
  rw [if_pos (by rfl)]
  refine wp_store_row 28 (.tmp 2) (.tmp 23) rfl g2 (ndA 0 0 (.slice none 0 0) noS) rfl rfl 28 (ndA 0 0 noS noS) k2 (Tryz.size28B _ _ _ _) rfl (nd_one _ _ _ _ _ _ _ _) ?_
  refine hK.out _ _ ⟨blk_range (k4.setRow_ne n42 _), blk_range (k6.setRow_ne n62 _)⟩ fun hH2 => ?_
  clear hK
  simp only [Act.put, pqA, pqB, pqC]
  refine wpAnyH_ready (rs := [3]) (by kernel_rfl) (by simp) ?_
  refine AllReadyH.cons (o := ⟨none, Op.store 34 (Operand.tmp 3) (Operand.tmp 24), 0, _, _, none⟩) rfl (fun K hK => ?_) AllReadyH.nil
  rw [if_pos (by rfl)]
  refine wp_store_row 34 (.tmp 3) (.tmp 24) rfl g3 (erA W1 b1) rfl rfl 34 (erA 0 0) (k3.setRow_ne (blk_ne k3 k2 (by decide)) _) (Tryz.size34B _ _) (erA_sizes _ _ _ _) (erA_one _ _) ?_
  refine hK.out _ _ ⟨blk_range ((k4.setRow_ne n42 _).setRow_ne n43 _), blk_range ((k6.setRow_ne n62 _).setRow_ne n63 _)⟩ fun hH3 => ?_
  clear hK
  simp only [Act.put, pqA, pqB, pqC]
  refine wpAnyH_done (by kernel_rfl) ?_ _
  refine hK33 _ _ ?_
  refine wp_ret ?_
  refine bodyPost_ret (v := .tuple #[.agg (ndA 0 0 (.slice none 0 0) noS), .agg (erA W1 b1)]) (results_cell_cell_row Tryz.results29 _ _ g2 g3 28 34 _ _ (0, 0) (0, 0) _ _ rfl rfl ((k2.setRow _).setRow_ne (blk_ne k2 k3 (by decide)) _) ((k3.setRow_ne (blk_ne k3 k2 (by decide)) _).setRow _) Tryz.underlying28 rfl (Tryz.size28B _ _ _ _) Tryz.underlying34 rfl (Tryz.size34B _ _)) rfl ?_
  rw [HD1.out hW1]
  exact HS.done HSa.out (two_grown g2 g3 _ _) rfl rfl hb1.out (fun h => absurd h hW1)
end Go.Proofs.YtdeiicldfgkidaaGreat
