import Derived.Test.YtogmdfhicbmplaaB09
import Derived.Test.YtogmdfhicbmplaaB12
import Derived.Test.YtogmdfhicbmplaaB14
import Derived.ArgAppend
import Derived.Deep.MidRow
namespace Go.Proofs.Ytogmdfhicbmplaa
open Go.RowKit
set_option linter.unusedSimpArgs false
set_option linter.unusedVariables false

/-! ### Lists of vertices that the statement owns. -/
theorem Try.infoV : (Try.prog.info? 39).map (fun i => (i.zero, i.size, i.bytes)) = some (some (.agg (vtx (fun _ => 0) 0 (.slice none 0 0))), 34, 64) := by kernel_rfl
theorem Try.elem55 : Try.prog.elem 55 = 39 := by kernel_rfl
theorem Try.und55 : Try.prog.underlying 55 = some (.slice 39) := by kernel_rfl
theorem slV_u : Try.prog.underlying 55 = some (.slice (Try.prog.elem 55)) := by rw [Try.elem55]; exact Try.und55
theorem Try.sizeOfV (w : World) : (sizeOf 39).run Try.prog w = .ok 34 w := by kernel_rfl
theorem slV_h (a : Option Addr) (n c i : Nat) (hi : i ≤ c) (w : World) : (Instr.sliceAt 55 (.slice a n c) none (some (.int .i64 (i : Int))) none).run Try.prog w = .ok (.slice a i c) w := by
 have h1 := run_slice_h (P := Try.prog) (w := w) 55 a n c slV_u .i64 (i : Int) (by omega) (by omega)
 have h2 := run_sliceAt_slice (P := Try.prog) (w := w) 55 (.slice a n c) none (some (.int .i64 (i : Int))) none slV_u
 rw [h2, h1, Try.elem55, Try.sizeOfV, Result.andThen_ok, Int.toNat_natCast]
 have h4 : (if c = 0 then a else a.map (·.add (0 * 34))) = a := by
  split
  ·rfl
  ·cases a <;> simp [Addr.add]
 unfold sliced
 rw [h4]; simp
theorem encV_one {w : World} {L : List VP} (h : ∀ q ∈ L, HRow w q.2 q.1.ps ∧ q.1.ps.length ≤ 4398046511104) : ∀ u ∈ L.flatMap encV, u.oneCell' = true := fun u hu => by
 obtain ⟨q, hq, hu⟩ := List.mem_flatMap.1 hu
 obtain ⟨a, c, e⟩ := (h q hq).1.form
 have := vtx_one q.1.id.f q.1.ck q.2 (by rw [e]; rfl)
 exact (Array.all_eq_true_iff_forall_mem.1 this) u (by unfold encV at hu; simpa using hu)
/-! ### Rows of ints. -/
def IRow (w : World) (v : Value) (S : List Int) : Prop := (∃ a c, v = .slice a 0 c ∧ S = []) ∨ ∃ b off c, v = .slice (some ⟨b, off, none⟩) S.length c ∧ ∀ i (hi : i < S.length), w.cell? ⟨b, off + i, none⟩ = some (.int .i64 S[i])
theorem IRow.form {w : World} {v : Value} {S : List Int} (h : IRow w v S) : ∃ a c, v = .slice a S.length c := by
 rcases h with ⟨a, c, rfl, rfl⟩ | ⟨b, off, c, rfl, _⟩
 ·exact ⟨a, c, rfl⟩
 ·exact ⟨_, c, rfl⟩
theorem IRow.at {w : World} {a : Option Addr} {n c : Nat} {S : List Int} (h : IRow w (.slice a n c) S) (hL : 0 < S.length) : ∃ b off, a = some ⟨b, off, none⟩ ∧ ∀ i (hi : i < S.length), w.cell? ⟨b, off + i, none⟩ = some (.int .i64 S[i]) := by
 rcases h with ⟨a, c, _, rfl⟩ | ⟨b, off, c, e, h1⟩
 ·simp at hL
 ·injection e with e1 e2 e3
  subst e1
  exact ⟨b, off, rfl, h1⟩
theorem IRow.below {w w' : World} {v : Value} {S : List Int} (h : IRow w v S) (hb : Below w.heap.size w w') : IRow w' v S := by
 rcases h with h | ⟨b, off, c, rfl, h1⟩
 ·exact .inl h
 ·exact .inr ⟨b, off, c, rfl, fun i hi => by rw [hb.cell (cell_lt (h1 i hi))]; exact h1 i hi⟩
/-! ### What is asked of two Dags that were fed alike. -/
end Go.Proofs.Ytogmdfhicbmplaa
namespace Go.Proofs.Ytogmdfhicbmplaa
open Go.RowKit
set_option linter.unusedSimpArgs false
set_option linter.unusedVariables false

theorem Grown.setCells (g : Nat) {S : Nat → Prop} (hS : S g) : ∀ (vs : List Value) (o : Nat) (w : World), Grown w (w.setCells g o vs) S
 | [], _, w => Grown.refl w S
 | v :: r, o, w => (Grown.setCell w g o v fun _ => hS).trans (Grown.setCells g hS r (o + 1) _)
/-- v is a list of these vertices in a block of its own, with room behind. -/
def VAt (w : World) (v : Value) (L : List VP) : Prop :=
 (v = .slice none 0 0 ∧ L = []) ∨ ∃ g off cap, v = .slice (some ⟨g, off, none⟩) L.length cap ∧ g < w.heap.size ∧ L.length ≤ cap ∧ w.there g off (cap * 34) ∧ w.rangeAt g off (L.flatMap encV)
theorem there_grown {w w' : World} {g o n : Nat} {S : Nat → Prop} (h : w.there g o n) (hg : Grown w w' S) (hs : ¬ S g) : w'.there g o n := fun j hj => by
 obtain ⟨h1, h2⟩ := h j hj
 obtain ⟨v, hv⟩ := Option.isSome_iff_exists.1 h1
 refine ⟨by rw [hg.cell hv hs]; rfl, ?_⟩
 have hb := hg.block g (cell_lt hv) hs
 unfold World.frozen? at h2 ⊢
 simp only [hb]
 exact h2
theorem VAt.grown {w w' : World} {v : Value} {L : List VP} {S : Nat → Prop} (h : VAt w v L) (hg : Grown w w' S) (hs : ∀ k, v.ownBlock = some k → ¬ S k) : VAt w' v L := by
 rcases h with h | ⟨g, off, cap, rfl, h1, h2, h3, h4⟩
 ·exact .inl h
 ·have hn : ¬ S g := hs g rfl
  exact .inr ⟨g, off, cap, rfl, Nat.lt_of_lt_of_le h1 hg.size, h2, there_grown h3 hg hn, rangeAt_grown h4 hg hn⟩
theorem VAt.below {w w' : World} {v : Value} {L : List VP} (h : VAt w v L) (hb : Below w.heap.size w w') : VAt w' v L := h.grown (Grown.below (S := fun _ => False) hb) fun _ _ h => h
theorem VAt.nil (w : World) : VAt w (.slice none 0 0) [] := .inl ⟨rfl, rfl⟩
theorem VAt.lt {w : World} {v : Value} {L : List VP} (h : VAt w v L) : ∀ k, v.ownBlock = some k → k < w.heap.size := fun k hk => by
 rcases h with ⟨rfl, _⟩ | ⟨g, off, cap, rfl, h1, _⟩
 ·cases hk
 ·have := Option.some.inj hk; subst this; exact h1
theorem VAt.row {w : World} {v : Value} {L : List VP} (h : VAt w v L) (hp : ∀ q ∈ L, HRow w q.2 q.1.ps ∧ q.1.ps.length ≤ 4398046511104) : VRow w v L := by
 rcases h with ⟨rfl, rfl⟩ | ⟨g, off, cap, rfl, h1, h2, h3, h4⟩
 ·exact ⟨.inl ⟨_, _, rfl, rfl⟩, hp⟩
 ·exact ⟨.inr ⟨g, off, cap, rfl, h2, h4⟩, hp⟩
theorem VAt.of {w : World} {B : Nat} {v : Value} {n : Nat} {L : List VP} (h : w.ownsRow B 39 34 v n (L.flatMap encV)) (hn : n = L.length) : VAt w v L := by
 rcases h.2 with ⟨rfl, e⟩ | ⟨g, cap, cur, rfl, _, h2, h3, h4, h5, h6⟩
 ·exact .inl ⟨rfl, List.eq_nil_of_length_eq_zero (by omega)⟩
 ·subst hn
  have hb : Blk w g 39 cur := h2
  refine .inr ⟨g, 0, cap, rfl, hb.lt, h3, fun j hj => ⟨?_, hb.frozen _⟩, fun j u hu => ?_⟩
  ·rw [hb.cell, Nat.zero_add, Array.getElem?_eq_getElem (by omega)]; rfl
  ·rw [hb.cell, Nat.zero_add, ← Array.getElem?_toList]
   rw [← h6] at hu
   rw [List.getElem?_take] at hu
   split at hu
   ·exact hu
   ·cases hu
theorem run_appVA (w : World) (ty : TypeId) (v : Value) (L : List VP) (q : VP) (gx : Nat) (hV : VAt w v L) (hx : w.rangeAt gx 0 (encV q)) (h1 : ∀ u ∈ encV q, u.oneCell' = true) (hb : L.length ≤ 1000000) :
  ∃ v' w', (Builtin.append_ #[55, 55] ty #[v, .slice (some ⟨gx, 0, none⟩) 1 1]).run Try.prog w = .ok v' w' ∧ VAt w' v' (L ++ [q]) ∧ (Grown w w' fun k => v.ownBlock = some k) ∧ Moved w v v' := by
 obtain ⟨i, hi, hzz⟩ := Option.map_eq_some_iff.1 Try.infoV
 simp only [Prod.mk.injEq] at hzz
 obtain ⟨hz, hsz, hby⟩ := hzz
 have hzs : (Value.agg (vtx (fun _ => 0) 0 (.slice none 0 0))).cells.size = 34 := by show (vtx (fun _ => 0) 0 (.slice none 0 0)).size = 34; exact vtx_size _ _ _
 have hnw : ∀ j u, (encV q)[j]? = some u → w.cell? ((⟨gx, 0, none⟩ : Addr).add j) = some u := fun j u hu => by rw [Addr.add_mid]; exact hx j u hu
 have hfm : (L ++ [q]).flatMap encV = L.flatMap encV ++ encV q := by rw [List.flatMap_append]; simp
 rcases hV with ⟨rfl, rfl⟩ | ⟨g, off, cap, rfl, hg, hc, ht, hr⟩
 ·obtain ⟨v', w', hr, h3, h4, _, h5⟩ := run_append_own_at (P := Try.prog) w 0 55 ty 39 i _ 34 64 Try.und55 hi hz hsz hby hzs (by omega) (.slice none 0 0) 0 [] ⟨rfl, .inl ⟨rfl, rfl⟩⟩ ⟨gx, 0, none⟩ 1 1 (encV q) (encV_len q) hnw h1 (by unfold maxLen; omega) (by omega) (Nat.zero_le _)
  refine ⟨v', w', hr, VAt.of (n := 0 + 1) (by rw [hfm]; exact h3) (by simp), Grown.of h4 fun k _ e => e, ?_⟩
  rcases h5 with h5 | h5
  ·exact .inl h5
  ·exact .inr ⟨_, h5, Nat.le_refl _⟩
 ·by_cases hroom : L.length + 1 ≤ cap
  ·have hth : ∀ j, j < (encV q).length → (w.cell? ⟨g, off + L.length * i.size + j, none⟩).isSome = true ∧ w.frozen? ⟨g, off + L.length * i.size + j, none⟩ = false := fun j hj => by
    rw [encV_len] at hj
    have := ht (L.length * 34 + j) (by omega)
    rw [hsz, Nat.add_assoc]
    exact this
   have hrun := run_append_room_cells (P := Try.prog) w 55 ty 39 i Try.und55 hi g off L.length cap ⟨gx, 0, none⟩ 1 1 (encV q) (by rw [encV_len, hsz]) hnw h1 hroom (fun j hj => (hth j hj).1) (fun j hj => (hth j hj).2)
   rw [hsz] at hrun hth
   refine ⟨_, _, hrun, ?_, Grown.setCells g (S := fun k => (Value.slice (some ⟨g, off, none⟩) L.length cap).ownBlock = some k) rfl _ _ _, .inl rfl⟩
   refine .inr ⟨g, off, cap, by simp, ?_, by simpa using hroom, World.there_setCells ht _ _ _, ?_⟩
   ·exact Nat.lt_of_lt_of_le hg (Grown.setCells g (S := fun k => k = g) rfl _ _ _).size
   ·rw [hfm]
    have a1 := World.rangeAt_setCells_apart hr g (off + L.length * 34) (encV q) (.inr (.inl (by rw [flat_len encV_len]; exact Nat.le_refl _)))
    have a2 := World.rangeAt_setCells_same w g (off + L.length * 34) (encV q) hth
    intro j u hu
    rw [List.getElem?_append] at hu
    split at hu
    ·exact a1 j u hu
    ·rename_i hj
     rw [flat_len encV_len] at hj hu
     have := a2 _ u hu
     rw [show off + L.length * 34 + (j - L.length * 34) = off + j by omega] at this
     exact this
  ·obtain ⟨v', w', hrun, h3, h4⟩ := run_append_arg_grows (P := Try.prog) w 55 ty 39 i _ 34 64 Try.und55 hi hz hsz hby hzs (by omega) ⟨g, off, none⟩ L.length cap (L.flatMap encV) (flat_len encV_len L) (fun j u hu => by rw [Addr.add_mid]; exact hr j u hu) ⟨gx, 0, none⟩ 1 1 (encV q) (encV_len q) hnw (by omega) (by unfold maxLen; omega) (by omega)
   refine ⟨v', w', hrun, VAt.of (n := L.length + 1) (by rw [hfm]; exact h3) (by simp), Grown.of h4 (fun k _ e => by cases e), ?_⟩
   rcases h3.2 with ⟨_, e⟩ | ⟨g', _, _, rfl, hg', _⟩
   ·omega
   ·exact .inr ⟨g', rfl, hg'⟩
end Go.Proofs.Ytogmdfhicbmplaa
namespace Go.Proofs.Ytogmdfhicbmplaa
open Go.RowKit
set_option linter.unusedSimpArgs false
set_option linter.unusedVariables false

theorem Try.in51 (w : World) (vs : Array Value) : (callFunc 51 vs).run Try.prog w = .ok (.enter 51 vs) w := by kernel_rfl
def misQ (R : RG) (x : Hs) : Bool := !hasB R.hs x && !hasB R.ws x
def misR (R : RG) (l : List VP) : List Hs := (l.flatMap (·.1.ps)).filter (misQ R)
theorem misR_app (R : RG) (l : List VP) (v : VP) : misR R (l ++ [v]) = misR R l ++ v.1.ps.filter (misQ R) := by unfold misR; rw [List.flatMap_append, List.filter_append]; simp
set_option maxRecDepth 8000 in
set_option maxHeartbeats 1000000 in
theorem rmissing_any (d : Nat) (R : RG) (w : World) (hD : RRd w d R) (hI : RI R) : Calls Try.prog 51 #[ptr d] w fun e w' => ∃ v' L', e = .returned v' ∧ Fresh w w' v' L' ∧ L'.Pairwise Lt ∧ (∀ x, x ∈ L' ↔ x ∈ misR R R.wait) ∧ L'.length ≤ 262144 := by
 have HD := Keep.mk hD
 obtain ⟨hv, wv, sv, g1, -, g2, -⟩ := hD
 obtain ⟨wa, wc, rfl⟩ := g2.form
 have G1 := Keep.mk g1
 have G2 := Keep.mk g2
 have HI := Keep.mk hI
 clear g1 g2 hI
 go_enter Try.func51, Try.ntmps51
 refine wp_seq_k fun K1 hK1 => rgn ?_
 refine VlS (.slice none 0 0) ?_
 refine WL.nil (hK1 _ _ ?_)
 refine wp_seq_k fun K2 hK2 => rgn ?_
 refine WL.bs (by kernel_rfl) 37 0 _ rfl #[] (by simp) _ _ (bsHE w) ?_
 have O1 := Keep.mk (ownH_empty w)
 have B1 := Keep.mk (below_new w (.cells #[] 36))
 generalize w.alloc (.cells #[] 36) = w1 at *
 obtain ⟨v0, hv0⟩ : ∃ v, Keep (v = Value.slice (some ⟨w.heap.size, 0, none⟩) 0 0) := ⟨_, ⟨rfl⟩⟩
 rw [← hv0.out] at O1 ⊢
 have N1 : Keep (∀ k, v0.ownBlock = some k → w.heap.size ≤ k) := ⟨fun k hk => by rw [hv0.out] at hk; have := Option.some.inj hk; subst this; exact Nat.le_refl _⟩
 simp only [Act.put, pqA, pqB, pqC]
 refine VlS (v0) ?_
 refine WL.nil (hK2 _ _ ?_)
 refine wp_seq_k fun K3 hK3 => ?_
 refine wp_seq_k fun K4 hK4 => rgn ?_
 refine VlS (.int .i64 0) ?_
 refine WL.nil (hK4 _ _ ?_)
 refine wp_block ?_
 refine wp_loop (fun ac wr => ∃ (t : Nat) (u3 u5 u6 u7 u8 u10 u11 u12 u13 u14 u15 u16 u17 u18 u19 u20 u21 u22 u23 u24 u25 u26 u27 u28 u29 u30 u31 u32 u33 u34 u35 u36 u37 u38 u39 u40 u41 u42 u43 u44 u45 u46 u47 u48 u49 u50 u51 u52 u53 u54 u55 u56 u57 u58 : Value), ac = { tmps := #[.pointer (some ⟨d, 0, none⟩), undef, .slice none 0 0, u3, .int .i64 (t : Int), u5, u6, u7, u8, v0, u10, u11, u12, u13, u14, u15, u16, u17, u18, u19, u20, u21, u22, u23, u24, u25, u26, u27, u28, u29, u30, u31, u32, u33, u34, u35, u36, u37, u38, u39, u40, u41, u42, u43, u44, u45, u46, u47, u48, u49, u50, u51, u52, u53, u54, u55, u56, u57, u58, undef, undef], defers := [] } ∧ t ≤ R.wait.length ∧ Below w.heap.size w wr ∧ OwnH wr u3 (misR R (R.wait.take t)) ∧ (∀ i, u3.ownBlock = some i → w.heap.size ≤ i) ∧ (misR R (R.wait.take t)).length ≤ 64 * t) (fun a _ => R.wait.length - (intOf (a.tmps.getD 4 undef)).toNat) ⟨0, v0, undef, undef, undef, undef, undef, undef, undef, undef, undef, undef, undef, undef, undef, undef, undef, undef, undef, undef, undef, undef, undef, undef, undef, undef, undef, undef, undef, undef, undef, undef, undef, undef, undef, undef, undef, undef, undef, undef, undef, undef, undef, undef, undef, undef, undef, undef, undef, undef, undef, undef, undef, undef, undef, rfl, by omega, B1.out, O1.out, N1.out, Nat.le_refl _⟩ ?_
 rintro ac wr ⟨t, u3, u5, u6, u7, u8, u10, u11, u12, u13, u14, u15, u16, u17, u18, u19, u20, u21, u22, u23, u24, u25, u26, u27, u28, u29, u30, u31, u32, u33, u34, u35, u36, u37, u38, u39, u40, u41, u42, u43, u44, u45, u46, u47, u48, u49, u50, u51, u52, u53, u54, u55, u56, u57, u58, rfl, ht, hB, hO, hN, hC⟩
 have JB := Keep.mk hB
 have JO := Keep.mk hO
 have JN := Keep.mk hN
 have JC := Keep.mk hC
 clear hB hO hN hC
 by_cases htl : t < R.wait.length
 ·have htl' : (t : Int) < (R.wait.length : Int) := by omega
  have hwt : IntKind.i64.wrap ((t : Int) + 1) = ((t + 1 : Nat) : Int) := by rw [IntKind.wrap_i64]; have := HI.out.wl; omega
  obtain ⟨v, hv⟩ : ∃ v, Keep (v = R.wait[t]) := ⟨_, ⟨rfl⟩⟩
  have hvm : v ∈ R.wait := by rw [hv.out]; exact List.getElem_mem htl
  obtain ⟨gp, op, hpa, -, hrg⟩ := G2.out.at (by omega)
  have HG := Keep.mk (flatV_lt hrg (by omega))
  have Hcl := Keep.mk (flat_elem encV_len hrg t htl)
  have HC : Keep (HRow w v.2 v.1.ps) := ⟨(G2.out.2 v hvm).1⟩
  have HVl : Keep (v.1.ps.length ≤ 64) := ⟨HI.out.wp v.1 (List.mem_map.2 ⟨v, hvm, rfl⟩)⟩
  obtain ⟨pa, pc, hpf⟩ := HC.out.form
  have HPV : Keep (∀ wx, Below w.heap.size w wx → wx.cell? ⟨gp, op + t * 34 + 33, none⟩ = some (.slice pa v.1.ps.length pc)) := ⟨fun wx hb => rangeAt_below Hcl.out hb HG.out 33 _ (by rw [encV, Array.getElem?_toList, vtx_ps, ← hv.out, hpf])⟩
  have HC : Keep (HRow w (.slice pa v.1.ps.length pc) v.1.ps) := ⟨by rw [← hpf]; exact HC.out⟩
  subst hpa
  clear hrg hpf Hcl hvm
  refine wp_seq_k fun K5 hK5 => ?_
  refine wp_seq_k fun K6 hK6 => rgn ?_
  refine VlS (.int .i64 (t : Int)) ?_
  refine VlS (.pointer (some ⟨d, 0, none⟩)) ?_
  refine VlS (.pointer (some ⟨d, 0, none⟩)) ?_
  refine VlS (.pointer (some ⟨d, 2, none⟩)) ?_
  have c2 : wr.cell? ⟨d, 2, none⟩ = some (.slice (some ⟨gp, op, none⟩) R.wait.length wc) := (G1.out.below JB.out G1.out.lt).c 2 rfl
  refine WL.val (by kernel_rfl) (.slice (some ⟨gp, op, none⟩) R.wait.length wc) (by go_simp) ?_
  clear c2
  simp only [Act.put, pqA, pqB, pqC]
  refine VlS (.int .i64 (R.wait.length : Int)) ?_
  refine VlS (.bool true) ?_
  refine WL.nil (hK6 _ _ ?_)
  refine wp_cond_true rfl ?_
  refine wp_skip ?_
  refine hK5 _ _ ?_
  refine wp_seq_k fun K7 hK7 => ?_
  refine wp_block ?_
  refine wp_seq_k fun K8 hK8 => rgn ?_
  refine VlS (.int .i64 0) ?_
  refine WL.nil (hK8 _ _ ?_)
  refine wp_block ?_
  refine wp_loop (fun ac wi => ∃ (k : Nat) (z3 z6 z7 z8 z19 z20 z21 z22 z23 z24 z25 z26 z27 z28 z29 z30 z31 z32 z33 z34 z35 z36 z37 z38 z39 z40 z41 z42 z43 z44 z45 z46 z47 z48 z49 z50 z51 z52 z53 z54 z55 z56 z57 z58 : Value), ac = { tmps := #[.pointer (some ⟨d, 0, none⟩), undef, .slice none 0 0, z3, .int .i64 (t : Int), .int .i64 (k : Int), z6, z7, z8, v0, .int .i64 (t : Int), .pointer (some ⟨d, 0, none⟩), .pointer (some ⟨d, 0, none⟩), .pointer (some ⟨d, 2, none⟩), .slice (some ⟨gp, op, none⟩) R.wait.length wc, .int .i64 (R.wait.length : Int), .bool true, u17, u18, z19, z20, z21, z22, z23, z24, z25, z26, z27, z28, z29, z30, z31, z32, z33, z34, z35, z36, z37, z38, z39, z40, z41, z42, z43, z44, z45, z46, z47, z48, z49, z50, z51, z52, z53, z54, z55, z56, z57, z58, undef, undef], defers := [] } ∧ k ≤ v.1.ps.length ∧ Below w.heap.size w wi ∧ OwnH wi z3 (misR R (R.wait.take t) ++ (v.1.ps.take k).filter (misQ R)) ∧ (∀ i, z3.ownBlock = some i → w.heap.size ≤ i) ∧ (misR R (R.wait.take t) ++ (v.1.ps.take k).filter (misQ R)).length ≤ 64 * t + k) (fun a _ => v.1.ps.length - (intOf (a.tmps.getD 5 undef)).toNat) ⟨0, u3, u6, u7, u8, u19, u20, u21, u22, u23, u24, u25, u26, u27, u28, u29, u30, u31, u32, u33, u34, u35, u36, u37, u38, u39, u40, u41, u42, u43, u44, u45, u46, u47, u48, u49, u50, u51, u52, u53, u54, u55, u56, u57, u58, rfl, by omega, JB.out, by rw [List.take_zero, List.filter_nil, List.append_nil]; exact JO.out, JN.out, by rw [List.take_zero, List.filter_nil, List.append_nil]; exact JC.out⟩ ?_
  rintro ac wi ⟨k, z3, z6, z7, z8, z19, z20, z21, z22, z23, z24, z25, z26, z27, z28, z29, z30, z31, z32, z33, z34, z35, z36, z37, z38, z39, z40, z41, z42, z43, z44, z45, z46, z47, z48, z49, z50, z51, z52, z53, z54, z55, z56, z57, z58, rfl, hk, hB, hO, hN, hC⟩
  have KB := Keep.mk hB
  have KO := Keep.mk hO
  have KN := Keep.mk hN
  have KC := Keep.mk hC
  clear hB hO hN hC
  by_cases hkl : k < v.1.ps.length
  ·have hkl' : (k : Int) < (v.1.ps.length : Int) := by omega
   have hwk : IntKind.i64.wrap ((k : Int) + 1) = ((k + 1 : Nat) : Int) := by rw [IntKind.wrap_i64]; have := HVl.out; omega
   obtain ⟨gq, oq, hqa, -, -, hrq⟩ := (HC.out.below KB.out).at (by omega)
   have hel := rangeAt_elem hrq k hkl
   obtain ⟨y, hy⟩ : ∃ y, Keep (y = v.1.ps[k]) := ⟨_, ⟨rfl⟩⟩
   rw [← hy.out] at hel
   have Hel := Keep.mk hel
   subst hqa
   clear hel hrq
   refine wp_seq_k fun K9 hK9 => ?_
   refine wp_seq_k fun K10 hK10 => rgn ?_
   refine VlS (.int .i64 (k : Int)) ?_
   refine VlS (.pointer (some ⟨d, 0, none⟩)) ?_
   refine VlS (.pointer (some ⟨d, 0, none⟩)) ?_
   refine VlS (.pointer (some ⟨d, 2, none⟩)) ?_
   have c2 : wi.cell? ⟨d, 2, none⟩ = some (.slice (some ⟨gp, op, none⟩) R.wait.length wc) := (G1.out.below KB.out G1.out.lt).c 2 rfl
   refine WL.val (by kernel_rfl) (.slice (some ⟨gp, op, none⟩) R.wait.length wc) (by go_simp) ?_
   clear c2
   simp only [Act.put, pqA, pqB, pqC]
   refine VlS (.int .i64 (t : Int)) ?_
   refine VlS (.pointer (some ⟨gp, op + t * 34, none⟩)) ?_
   refine VlS (.pointer (some ⟨gp, op + t * 34 + 33, none⟩)) ?_
   have c3 := HPV.out _ KB.out
   refine WL.val (by kernel_rfl) (.slice (some ⟨gq, oq, none⟩) v.1.ps.length pc) (by go_simp) ?_
   clear c3
   simp only [Act.put, pqA, pqB, pqC]
   refine VlS (.int .i64 (v.1.ps.length : Int)) ?_
   refine VlS (.bool true) ?_
   refine WL.nil (hK10 _ _ ?_)
   refine wp_cond_true rfl ?_
   refine wp_skip ?_
   refine hK9 _ _ ?_
   refine wp_seq_k fun K11 hK11 => ?_
   refine wp_block ?_
   refine wp_seq_k fun K12 hK12 => rgn ?_
   refine VlS (.pointer (some ⟨d, 0, none⟩)) ?_
   refine VlS (.pointer (some ⟨d, 0, none⟩)) ?_
   refine VlS (.pointer (some ⟨d, 2, none⟩)) ?_
   have c2 : wi.cell? ⟨d, 2, none⟩ = some (.slice (some ⟨gp, op, none⟩) R.wait.length wc) := (G1.out.below KB.out G1.out.lt).c 2 rfl
   refine WL.val (by kernel_rfl) (.slice (some ⟨gp, op, none⟩) R.wait.length wc) (by go_simp) ?_
   clear c2
   simp only [Act.put, pqA, pqB, pqC]
   refine VlS (.int .i64 (t : Int)) ?_
   refine VlS (.pointer (some ⟨gp, op + t * 34, none⟩)) ?_
   refine VlS (.pointer (some ⟨gp, op + t * 34 + 33, none⟩)) ?_
   have c3 := HPV.out _ KB.out
   refine WL.val (by kernel_rfl) (.slice (some ⟨gq, oq, none⟩) v.1.ps.length pc) (by go_simp) ?_
   clear c3
   simp only [Act.put, pqA, pqB, pqC]
   refine VlS (.int .i64 (k : Int)) ?_
   refine VlS (.pointer (some ⟨gq, oq + k * 32, none⟩)) ?_
   refine WL.mid (by kernel_rfl) 36 (.tmp 41) rfl gq (oq + k * 32) rfl (encH y) _ Hel.out Try.underlying36 rfl (Try.size36L y) ?_
   rw [enc_load]
   simp only [Act.put, pqA, pqB, pqC]
   refine WL.new (by kernel_rfl) 36 rfl _ Try.new36 ?_
   simp only [Act.put, pqA, pqB, pqC]
   refine WL.storeR (by kernel_rfl) 36 (.tmp 6) (.tmp 42) rfl wi.heap.size (bytesA 32 y.f) rfl rfl 36 (bytesA 32 fun _ => 0) (Blk.new wi 36 _) (Try.size36B _) (bytesA_sizes _ _ _) (bytesA_one _ _) ?_
   have HY4 := Keep.mk ((Blk.new wi 36 (bytesA 32 fun _ => 0)).setRow (bytesA 32 y.f))
   have B4 : Keep (Below wi.heap.size wi ((wi.alloc (.cells (bytesA 32 fun _ => 0) 36)).setRow wi.heap.size (bytesA 32 y.f))) := ⟨below_setRow (below_new wi _) (Nat.le_refl _) _⟩
   generalize (wi.alloc (.cells (bytesA 32 fun _ => 0) 36)).setRow wi.heap.size (bytesA 32 y.f) = w4 at *
   have KB4 : Keep (Below w.heap.size w w4) := ⟨belowT KB.out B4.out⟩
   have KO4 := Keep.mk (KO.out.below B4.out)
   generalize wi.heap.size = b7 at *
   clear Hel
   simp only [Act.put]
   refine WL.nil (hK12 _ _ ?_)
   refine wp_seq_k fun K13 hK13 => rgn ?_
   refine VlS (.pointer (some ⟨d, 0, none⟩)) ?_
   refine WL.row (by kernel_rfl) 36 (.tmp 6) rfl b7 rfl 36 (bytesA 32 y.f) _ HY4.out Try.underlying36 rfl (Try.size36B _) ?_
   simp only [Act.put, pqA, pqB, pqC]
   obtain ⟨b1, hb1⟩ : ∃ b, Keep (hasB R.hs y = b) := ⟨_, ⟨rfl⟩⟩
   obtain ⟨b2, hb2⟩ : ∃ b, Keep (hasB R.ws y = b) := ⟨_, ⟨rfl⟩⟩
   have hhs := rhas_any d y R w4 (HD.out.below KB4.out) HI.out
   rw [hb1.out] at hhs
   refine WL.callF (by kernel_rfl) 46 _ _ rfl Try.in46 #[ptr d, .agg (bytesA 32 y.f)] (by simp [Act.eval]) ?_
   refine (hhs).mono ?_
   rintro e w5 ⟨rfl, hz⟩
   refine ⟨_, rfl, ?_⟩
   clear hhs
   have HY5 := Keep.mk (HY4.out.below hz HY4.out.lt)
   have KB5 : Keep (Below w.heap.size w w5) := ⟨belowT KB4.out hz⟩
   have KO5 := Keep.mk (KO4.out.below hz)
   clear hz HY4 KB4 KO4
   simp only [Act.put, pqA, pqB, pqC]
   refine VlS (.bool b1) ?_
   refine WL.nil (hK13 _ _ ?_)
   refine wp_seq_k fun K14 hK14 => rgn ?_
   refine VlS (.pointer (some ⟨d, 0, none⟩)) ?_
   refine WL.row (by kernel_rfl) 36 (.tmp 6) rfl b7 rfl 36 (bytesA 32 y.f) _ HY5.out Try.underlying36 rfl (Try.size36B _) ?_
   simp only [Act.put, pqA, pqB, pqC]
   have hws := rwaits_any d y R w5 (HD.out.below KB5.out) HI.out
   rw [hb2.out] at hws
   refine WL.callF (by kernel_rfl) 48 _ _ rfl Try.in48 #[ptr d, .agg (bytesA 32 y.f)] (by simp [Act.eval]) ?_
   refine (hws).mono ?_
   rintro e w6 ⟨rfl, hz⟩
   refine ⟨_, rfl, ?_⟩
   clear hws
   have HY6 := Keep.mk (HY5.out.below hz HY5.out.lt)
   have KB6 : Keep (Below w.heap.size w w6) := ⟨belowT KB5.out hz⟩
   have KO6 := Keep.mk (KO5.out.below hz)
   clear hz
   simp only [Act.put, pqA, pqB, pqC]
   refine VlS (.bool b2) ?_
   refine WL.nil (hK14 _ _ ?_)
   refine wp_seq_k fun K15 hK15 => rgn ?_
   refine VlS (.bool b1) ?_
   by_cases h11_1 : b1 = true
   ·skip
    refine VlS (.bool false) ?_
    refine VlS (.bool false) ?_
    refine SkS ?_
    refine SkS ?_
    refine VlS (.bool false) ?_
    refine WL.nil (hK15 _ _ ?_)
    refine wp_cond_false rfl ?_
    refine wp_skip ?_
    refine hK11 _ _ ?_
    refine rgn ?_
    refine VlS (.int .i64 (k : Int)) ?_
    refine VlS (.int .i64 ((k + 1 : Nat) : Int)) ?_
    refine VlS (.int .i64 ((k + 1 : Nat) : Int)) ?_
    refine WL.nil ?_
    have hf : (v.1.ps.take (k + 1)).filter (misQ R) = (v.1.ps.take k).filter (misQ R) ++ (if misQ R y = true then [y] else []) := by rw [List.take_succ_eq_append_getElem hkl, List.filter_append, ← hy.out]; congr 1; by_cases h : misQ R y = true <;> simp [h]
    have hm : ¬ misQ R y = true := by unfold misQ; rw [hb1.out, hb2.out]; revert h11_1; (try revert h11_4); cases b1 <;> cases b2 <;> simp
    rw [if_neg hm, List.append_nil] at hf
    refine ⟨⟨k + 1, z3, .pointer (some ⟨b7, 0, none⟩), .bool b1, .bool b2, .int .i64 (k : Int), .pointer (some ⟨d, 0, none⟩), .pointer (some ⟨d, 0, none⟩), .pointer (some ⟨d, 2, none⟩), .slice (some ⟨gp, op, none⟩) R.wait.length wc, .int .i64 (t : Int), .pointer (some ⟨gp, op + t * 34, none⟩), .pointer (some ⟨gp, op + t * 34 + 33, none⟩), .slice (some ⟨gq, oq, none⟩) v.1.ps.length pc, .int .i64 (v.1.ps.length : Int), .bool true, .int .i64 (k : Int), .int .i64 ((k + 1 : Nat) : Int), .pointer (some ⟨d, 0, none⟩), .pointer (some ⟨d, 0, none⟩), .pointer (some ⟨d, 2, none⟩), .slice (some ⟨gp, op, none⟩) R.wait.length wc, .int .i64 (t : Int), .pointer (some ⟨gp, op + t * 34, none⟩), .pointer (some ⟨gp, op + t * 34 + 33, none⟩), .slice (some ⟨gq, oq, none⟩) v.1.ps.length pc, .int .i64 (k : Int), .pointer (some ⟨gq, oq + k * 32, none⟩), .agg (bytesA 32 y.f), .pointer (some ⟨d, 0, none⟩), .agg (bytesA 32 y.f), .bool b1, .pointer (some ⟨d, 0, none⟩), .agg (bytesA 32 y.f), .bool b2, .bool b1, .bool false, .bool false, undef, undef, .bool false, z55, z56, z57, z58, rfl, by omega, KB6.out, by rw [hf]; exact KO6.out, KN.out, by rw [hf]; have := KC.out; omega⟩, ?_⟩
    simp only [intOf]; show v.1.ps.length - (((k + 1 : Nat) : Int)).toNat < v.1.ps.length - ((k : Int)).toNat; omega
   ·skip
    refine VlS (.bool true) ?_
    refine VlS (.bool true) ?_
    refine VlS (.bool b2) ?_
    by_cases h11_4 : b2 = true
    ·skip
     refine VlS (.bool false) ?_
     refine VlS (.bool false) ?_
     refine WL.nil (hK15 _ _ ?_)
     refine wp_cond_false rfl ?_
     refine wp_skip ?_
     refine hK11 _ _ ?_
     refine rgn ?_
     refine VlS (.int .i64 (k : Int)) ?_
     refine VlS (.int .i64 ((k + 1 : Nat) : Int)) ?_
     refine VlS (.int .i64 ((k + 1 : Nat) : Int)) ?_
     refine WL.nil ?_
     have hf : (v.1.ps.take (k + 1)).filter (misQ R) = (v.1.ps.take k).filter (misQ R) ++ (if misQ R y = true then [y] else []) := by rw [List.take_succ_eq_append_getElem hkl, List.filter_append, ← hy.out]; congr 1; by_cases h : misQ R y = true <;> simp [h]
     have hm : ¬ misQ R y = true := by unfold misQ; rw [hb1.out, hb2.out]; revert h11_1; (try revert h11_4); cases b1 <;> cases b2 <;> simp
     rw [if_neg hm, List.append_nil] at hf
     refine ⟨⟨k + 1, z3, .pointer (some ⟨b7, 0, none⟩), .bool b1, .bool b2, .int .i64 (k : Int), .pointer (some ⟨d, 0, none⟩), .pointer (some ⟨d, 0, none⟩), .pointer (some ⟨d, 2, none⟩), .slice (some ⟨gp, op, none⟩) R.wait.length wc, .int .i64 (t : Int), .pointer (some ⟨gp, op + t * 34, none⟩), .pointer (some ⟨gp, op + t * 34 + 33, none⟩), .slice (some ⟨gq, oq, none⟩) v.1.ps.length pc, .int .i64 (v.1.ps.length : Int), .bool true, .int .i64 (k : Int), .int .i64 ((k + 1 : Nat) : Int), .pointer (some ⟨d, 0, none⟩), .pointer (some ⟨d, 0, none⟩), .pointer (some ⟨d, 2, none⟩), .slice (some ⟨gp, op, none⟩) R.wait.length wc, .int .i64 (t : Int), .pointer (some ⟨gp, op + t * 34, none⟩), .pointer (some ⟨gp, op + t * 34 + 33, none⟩), .slice (some ⟨gq, oq, none⟩) v.1.ps.length pc, .int .i64 (k : Int), .pointer (some ⟨gq, oq + k * 32, none⟩), .agg (bytesA 32 y.f), .pointer (some ⟨d, 0, none⟩), .agg (bytesA 32 y.f), .bool b1, .pointer (some ⟨d, 0, none⟩), .agg (bytesA 32 y.f), .bool b2, .bool b1, .bool true, .bool true, .bool b2, .bool false, .bool false, z55, z56, z57, z58, rfl, by omega, KB6.out, by rw [hf]; exact KO6.out, KN.out, by rw [hf]; have := KC.out; omega⟩, ?_⟩
     simp only [intOf]; show v.1.ps.length - (((k + 1 : Nat) : Int)).toNat < v.1.ps.length - ((k : Int)).toNat; omega
    ·skip
     refine VlS (.bool true) ?_
     refine VlS (.bool true) ?_
     refine WL.nil (hK15 _ _ ?_)
     refine wp_cond_true rfl ?_
     refine rgn ?_
     refine VlS (z3) ?_
     refine WL.row (by kernel_rfl) 36 (.tmp 6) rfl b7 rfl 36 (bytesA 32 y.f) _ HY6.out Try.underlying36 rfl (Try.size36B _) ?_
     simp only [Act.put, pqA, pqB, pqC]
     refine WL.bs (by kernel_rfl) 37 1 _ rfl #[(0, .agg (bytesA 32 y.f))] (by simp [Act.eval]) _ _ (bsH y w6) ?_
     have HGy := Keep.mk (Blk.new w6 36 (bytesA 32 y.f))
     have B7 := Keep.mk (below_new w6 (.cells (bytesA 32 y.f) 36))
     generalize w6.alloc (.cells (bytesA 32 y.f) 36) = w7 at *
     have KB7 : Keep (Below w.heap.size w w7) := ⟨belowT KB6.out B7.out⟩
     have KO7 := Keep.mk (KO6.out.below B7.out)
     generalize w6.heap.size = gy at *
     simp only [Act.put, pqA, pqB, pqC]
     refine WL.appH (by kernel_rfl) (.tmp 55) (.tmp 57) rfl _ _ gy y rfl rfl KO7.out HGy.out (by have := KC.out; have := HI.out.wl; have := HVl.out; omega) fun v8 w8 h1 h2 h3 => ?_
     have KO8 := Keep.mk h1
     have G8 := Keep.mk h2
     have M8 := Keep.mk h3
     clear h1 h2 h3
     simp only [Act.put, pqA, pqB, pqC]
     refine VlS (v8) ?_
     refine WL.nil (hK11 _ _ ?_)
     refine rgn ?_
     refine VlS (.int .i64 (k : Int)) ?_
     refine VlS (.int .i64 ((k + 1 : Nat) : Int)) ?_
     refine VlS (.int .i64 ((k + 1 : Nat) : Int)) ?_
     refine WL.nil ?_
     have hf : (v.1.ps.take (k + 1)).filter (misQ R) = (v.1.ps.take k).filter (misQ R) ++ (if misQ R y = true then [y] else []) := by rw [List.take_succ_eq_append_getElem hkl, List.filter_append, ← hy.out]; congr 1; by_cases h : misQ R y = true <;> simp [h]
     have hm : misQ R y = true := by unfold misQ; rw [hb1.out, hb2.out]; revert h11_1; (try revert h11_4); cases b1 <;> cases b2 <;> simp
     rw [if_pos hm] at hf
     refine ⟨⟨k + 1, v8, .pointer (some ⟨b7, 0, none⟩), .bool b1, .bool b2, .int .i64 (k : Int), .pointer (some ⟨d, 0, none⟩), .pointer (some ⟨d, 0, none⟩), .pointer (some ⟨d, 2, none⟩), .slice (some ⟨gp, op, none⟩) R.wait.length wc, .int .i64 (t : Int), .pointer (some ⟨gp, op + t * 34, none⟩), .pointer (some ⟨gp, op + t * 34 + 33, none⟩), .slice (some ⟨gq, oq, none⟩) v.1.ps.length pc, .int .i64 (v.1.ps.length : Int), .bool true, .int .i64 (k : Int), .int .i64 ((k + 1 : Nat) : Int), .pointer (some ⟨d, 0, none⟩), .pointer (some ⟨d, 0, none⟩), .pointer (some ⟨d, 2, none⟩), .slice (some ⟨gp, op, none⟩) R.wait.length wc, .int .i64 (t : Int), .pointer (some ⟨gp, op + t * 34, none⟩), .pointer (some ⟨gp, op + t * 34 + 33, none⟩), .slice (some ⟨gq, oq, none⟩) v.1.ps.length pc, .int .i64 (k : Int), .pointer (some ⟨gq, oq + k * 32, none⟩), .agg (bytesA 32 y.f), .pointer (some ⟨d, 0, none⟩), .agg (bytesA 32 y.f), .bool b1, .pointer (some ⟨d, 0, none⟩), .agg (bytesA 32 y.f), .bool b2, .bool b1, .bool true, .bool true, .bool b2, .bool true, .bool true, z3, .agg (bytesA 32 y.f), .slice (some ⟨gy, 0, none⟩) 1 1, v8, rfl, by omega, KB7.out.trans (G8.out.to_below (fun i hi e => by have := KN.out i e; omega) KB7.out.size), by rw [hf, ← List.append_assoc]; exact KO8.out, fun i hi => M8.out.elim (fun e => KN.out i (by have e' : v8.ownBlock = z3.ownBlock := e; rw [← e']; exact hi)) fun ⟨q, e, hq⟩ => by rw [hi] at e; have := Option.some.inj e; have := KB7.out.size; omega, by rw [hf]; have := KC.out; simp only [List.length_append, List.length_singleton] at this ⊢; omega⟩, ?_⟩
     simp only [intOf]; show v.1.ps.length - (((k + 1 : Nat) : Int)).toNat < v.1.ps.length - ((k : Int)).toNat; omega
  ·have hke : k = v.1.ps.length := by omega
   have hkl' : ¬ (k : Int) < (v.1.ps.length : Int) := by omega
   refine wp_seq_k fun K16 hK16 => ?_
   refine wp_seq_k fun K17 hK17 => rgn ?_
   refine VlS (.int .i64 (k : Int)) ?_
   refine VlS (.pointer (some ⟨d, 0, none⟩)) ?_
   refine VlS (.pointer (some ⟨d, 0, none⟩)) ?_
   refine VlS (.pointer (some ⟨d, 2, none⟩)) ?_
   have c2 : wi.cell? ⟨d, 2, none⟩ = some (.slice (some ⟨gp, op, none⟩) R.wait.length wc) := (G1.out.below KB.out G1.out.lt).c 2 rfl
   refine WL.val (by kernel_rfl) (.slice (some ⟨gp, op, none⟩) R.wait.length wc) (by go_simp) ?_
   clear c2
   simp only [Act.put, pqA, pqB, pqC]
   refine VlS (.int .i64 (t : Int)) ?_
   refine VlS (.pointer (some ⟨gp, op + t * 34, none⟩)) ?_
   refine VlS (.pointer (some ⟨gp, op + t * 34 + 33, none⟩)) ?_
   have c3 := HPV.out _ KB.out
   refine WL.val (by kernel_rfl) (.slice pa v.1.ps.length pc) (by go_simp) ?_
   clear c3
   simp only [Act.put, pqA, pqB, pqC]
   refine VlS (.int .i64 (v.1.ps.length : Int)) ?_
   refine VlS (.bool false) ?_
   refine WL.nil (hK17 _ _ ?_)
   refine wp_cond_false rfl ?_
   refine wp_exit ?_
   refine hK7 _ _ ?_
   refine rgn ?_
   refine VlS (.int .i64 (t : Int)) ?_
   refine VlS (.int .i64 ((t + 1 : Nat) : Int)) ?_
   refine VlS (.int .i64 ((t + 1 : Nat) : Int)) ?_
   refine WL.nil ?_
   have hfl : misR R (R.wait.take (t + 1)) = misR R (R.wait.take t) ++ (v.1.ps.take k).filter (misQ R) := by rw [List.take_succ_eq_append_getElem htl, misR_app, ← hv.out, hke, List.take_length]
   refine ⟨⟨t + 1, z3, .int .i64 (k : Int), z6, z7, z8, .int .i64 (t : Int), .pointer (some ⟨d, 0, none⟩), .pointer (some ⟨d, 0, none⟩), .pointer (some ⟨d, 2, none⟩), .slice (some ⟨gp, op, none⟩) R.wait.length wc, .int .i64 (R.wait.length : Int), .bool true, .int .i64 (t : Int), .int .i64 ((t + 1 : Nat) : Int), .int .i64 (k : Int), .pointer (some ⟨d, 0, none⟩), .pointer (some ⟨d, 0, none⟩), .pointer (some ⟨d, 2, none⟩), .slice (some ⟨gp, op, none⟩) R.wait.length wc, .int .i64 (t : Int), .pointer (some ⟨gp, op + t * 34, none⟩), .pointer (some ⟨gp, op + t * 34 + 33, none⟩), .slice pa v.1.ps.length pc, .int .i64 (v.1.ps.length : Int), .bool false, z30, z31, z32, z33, z34, z35, z36, z37, z38, z39, z40, z41, z42, z43, z44, z45, z46, z47, z48, z49, z50, z51, z52, z53, z54, z55, z56, z57, z58, rfl, by omega, KB.out, by rw [hfl]; exact KO.out, KN.out, by rw [hfl]; have := KC.out; have := HVl.out; omega⟩, ?_⟩
   simp only [intOf]; show R.wait.length - (((t + 1 : Nat) : Int)).toNat < R.wait.length - ((t : Int)).toNat; omega
 ·have hte : t = R.wait.length := by omega
  have htl' : ¬ (t : Int) < (R.wait.length : Int) := by omega
  refine wp_seq_k fun K18 hK18 => ?_
  refine wp_seq_k fun K19 hK19 => rgn ?_
  refine VlS (.int .i64 (t : Int)) ?_
  refine VlS (.pointer (some ⟨d, 0, none⟩)) ?_
  refine VlS (.pointer (some ⟨d, 0, none⟩)) ?_
  refine VlS (.pointer (some ⟨d, 2, none⟩)) ?_
  have c2 : wr.cell? ⟨d, 2, none⟩ = some (.slice wa R.wait.length wc) := (G1.out.below JB.out G1.out.lt).c 2 rfl
  refine WL.val (by kernel_rfl) (.slice wa R.wait.length wc) (by go_simp) ?_
  clear c2
  simp only [Act.put, pqA, pqB, pqC]
  refine VlS (.int .i64 (R.wait.length : Int)) ?_
  refine VlS (.bool false) ?_
  refine WL.nil (hK19 _ _ ?_)
  refine wp_cond_false rfl ?_
  refine wp_exit ?_
  refine hK3 _ _ ?_
  refine wp_seq_k fun K20 hK20 => rgn ?_
  refine VlS (u3) ?_
  have hso := refSort_any _ u3 _ wr rfl JO.out.row (by have := JC.out; have := HI.out.wl; omega)
  refine WL.callF (by kernel_rfl) 16 _ _ rfl Try.in16 #[u3] (by simp [Act.eval]) ?_
  refine (hso.mono (R' := fun e w' => ∃ v' L', e = .returned v' ∧ OwnH w' v' L' ∧ (∀ k, v'.ownBlock = some k → wr.heap.size ≤ k) ∧ L'.Pairwise Lt ∧ (∀ x, x ∈ L' ↔ x ∈ misR R R.wait) ∧ L'.length ≤ 262144 ∧ Below wr.heap.size wr w') (fun e w' ⟨v', L', h1, h2, h3, h4, h5, h6⟩ => ⟨v', L', h1, OwnH.of h2, ownsH_block h2, h3, by rw [hte, List.take_length] at h4; exact h4, by have := JC.out; have := HI.out.wl; omega, h6⟩)).mono ?_
  rintro e w9 ⟨v9, L9, rfl, h1, h2, h3, h4, h5, h6⟩
  refine ⟨_, rfl, ?_⟩
  clear hso
  have R1 := Keep.mk h1
  have R2 := Keep.mk h2
  have R3 := Keep.mk h3
  have R4 := Keep.mk h4
  have R5 := Keep.mk h5
  have R6 := Keep.mk h6
  clear h1 h2 h3 h4 h5 h6
  simp only [Act.put, pqA, pqB, pqC]
  refine VlS (v9) ?_
  refine WL.nil (hK20 _ _ ?_)
  refine wp_ret ?_
  go_ret
  exact ⟨v9, L9, rfl, ⟨R1.out, fun k hk => Nat.le_trans JB.out.size (R2.out k hk), belowT JB.out R6.out⟩, R3.out, R4.out, R5.out⟩
end Go.Proofs.Ytogmdfhicbmplaa
namespace Go.Proofs.Ytogmdfhicbmplaa
open Go.RowKit
set_option linter.unusedSimpArgs false
set_option linter.unusedVariables false

/-- The document's dag holds and keeps waiting what the program's does. -/
structure Sm (g : DG) (R : RG) : Prop where
 room : R.room = g.room
 hs : R.hs = g.held
 ws : R.ws = g.wait
theorem Sm.ri {g : DG} {R : RG} (h : Sm g R) (hI : DI g) (hi : Inc R.sets) (hm : ∀ x, x ∈ R.sets ↔ x ∈ R.hs.map (·.id)) (hl : R.sets.length ≤ 4096) : RI R where
 inc := hi
 mem := hm
 hl := by have := congrArg List.length h.hs; rw [RG.hs, List.length_map] at this; rw [this]; exact hI.hl
 sl := hl
 wl := by have := congrArg List.length h.ws; rw [RG.ws, List.length_map] at this; have := hI.wl; omega
 ck := by rw [h.hs]; exact hI.hM
 hp := by rw [h.hs]; exact fun v hv => (chk_ok (hI.hc v hv)).1
 wp := by rw [h.ws]; exact fun v hv => (chk_ok (hI.wc v hv)).1
theorem find_own : ∀ {l : List VX}, (l.map (·.id)).Nodup → ∀ v ∈ l, l.find? (isV v.id) = some v
 | [], _, v, h => by cases h
 | u :: r, hn, v, h => by
  rw [List.map_cons, List.nodup_cons] at hn
  rcases List.mem_cons.1 h with rfl | h
  ·rw [List.find?_cons_of_pos (by simp [isV])]
  ·rw [List.find?_cons_of_neg (by simp only [isV, decide_eq_true_iff]; exact fun e => hn.1 (e ▸ List.mem_map.2 ⟨v, h, rfl⟩)), find_own hn.2 v h]
theorem nxQ_find {l m : List VX} : ∀ (q : List VX), (∀ v ∈ q, m.find? (isV v.id) = some v) → nxQ l m (q.map (·.id)) = q.find? fun v => v.ps.all (hasB l)
 | [], _ => rfl
 | v :: r, h => by
  have ih := nxQ_find (l := l) r fun u hu => h u (List.mem_cons_of_mem _ hu)
  rw [List.map_cons, nxQ, h v (List.mem_cons_self ..)]
  simp only
  by_cases e : v.ps.all (hasB l) = true
  ·rw [if_pos e, List.find?_cons_of_pos (p := fun v : VX => v.ps.all (hasB l)) e]
  ·rw [if_neg e, List.find?_cons_of_neg (p := fun v : VX => v.ps.all (hasB l)) e, ih]
theorem Sm.nx {g : DG} {R : RG} (h : Sm g R) (hI : DI g) : (nxR R R.wait).map (·.1) = nxQ g.held g.wait g.queue := by
 rw [hI.q, nxQ_find g.wait (find_own hI.wn), ← h.ws, ← h.hs, RG.ws, List.find?_map]
 rfl
theorem Sm.mis {g : DG} {R : RG} (h : Sm g R) : misR R R.wait = misL g g.wait := by
 unfold misR misL
 rw [← h.ws, RG.ws, List.flatMap_map]
 have : misQ R = misP g := by funext x; unfold misQ misP; rw [h.hs, h.ws]
 rw [this]
theorem Sm.hd {g : DG} {R : RG} (h : Sm g R) (hI : DI g) (x : Hs) : x ∈ (R.held.map fun q => q.1.id).filter (hdQ R.held) ↔ x ∈ g.heads := by
 rw [hI.hm, List.mem_filter, hdQ, decide_eq_true_iff, namP, hasB_mem, ← h.hs, RG.hs, List.map_map]
 refine and_congr Iff.rfl ?_
 simp only [List.mem_flatMap, List.mem_map]
 constructor
 ·rintro h1 v ⟨q, hq, rfl⟩ hx
  exact h1 ⟨q, hq, hx⟩
 ·rintro h1 ⟨q, hq, hx⟩
  exact h1 q.1 ⟨q, hq, rfl⟩ hx
theorem Sm.wq {g : DG} {R : RG} (h : Sm g R) (hI : DI g) : R.ws.map (·.id) = g.queue := by rw [h.ws, hI.q]
end Go.Proofs.Ytogmdfhicbmplaa
namespace Go.Proofs.Ytogmdfhicbmplaa
open Go.RowKit
set_option linter.unusedSimpArgs false
set_option linter.unusedVariables false

theorem run_appVL (w : World) (ty : TypeId) (v : Value) (L M : List VP) (gx ox c : Nat) (hV : VAt w v L) (hx : w.rangeAt gx ox (M.flatMap encV)) (h1 : ∀ u ∈ M.flatMap encV, u.oneCell' = true) (hb : L.length + M.length ≤ 1000000) :
  ∃ v' w', (Builtin.append_ #[55, 55] ty #[v, .slice (some ⟨gx, ox, none⟩) M.length c]).run Try.prog w = .ok v' w' ∧ VAt w' v' (L ++ M) ∧ (Grown w w' fun k => v.ownBlock = some k) ∧ Moved w v v' := by
 obtain ⟨i, hi, hzz⟩ := Option.map_eq_some_iff.1 Try.infoV
 simp only [Prod.mk.injEq] at hzz
 obtain ⟨hz, hsz, hby⟩ := hzz
 have hzs : (Value.agg (vtx (fun _ => 0) 0 (.slice none 0 0))).cells.size = 34 := by show (vtx (fun _ => 0) 0 (.slice none 0 0)).size = 34; exact vtx_size _ _ _
 have hnw : ∀ j u, (M.flatMap encV)[j]? = some u → w.cell? ((⟨gx, ox, none⟩ : Addr).add j) = some u := fun j u hu => by rw [Addr.add_mid]; exact hx j u hu
 have hfm : (L ++ M).flatMap encV = L.flatMap encV ++ M.flatMap encV := List.flatMap_append
 have hML := flat_len encV_len M
 rcases hV with ⟨rfl, rfl⟩ | ⟨g, off, cap, rfl, hg, hc, ht, hr⟩
 ·obtain ⟨v', w', hr, h3, h4, _, h5⟩ := run_append_own_at (P := Try.prog) w 0 55 ty 39 i _ 34 64 Try.und55 hi hz hsz hby hzs (by omega) (.slice none 0 0) 0 [] ⟨rfl, .inl ⟨rfl, rfl⟩⟩ ⟨gx, ox, none⟩ M.length c (M.flatMap encV) hML hnw h1 (by unfold maxLen; simp at hb; omega) (by simp at hb; omega) (Nat.zero_le _)
  refine ⟨v', w', hr, VAt.of (n := 0 + M.length) (by rw [hfm]; exact h3) (by simp), Grown.of h4 fun k _ e => e, ?_⟩
  rcases h5 with h5 | h5
  ·exact .inl h5
  ·exact .inr ⟨_, h5, Nat.le_refl _⟩
 ·by_cases hroom : L.length + M.length ≤ cap
  ·have hth : ∀ j, j < (M.flatMap encV).length → (w.cell? ⟨g, off + L.length * i.size + j, none⟩).isSome = true ∧ w.frozen? ⟨g, off + L.length * i.size + j, none⟩ = false := fun j hj => by
    rw [hML] at hj
    have := ht (L.length * 34 + j) (by omega)
    rw [hsz, Nat.add_assoc]
    exact this
   have hrun := run_append_room_cells (P := Try.prog) w 55 ty 39 i Try.und55 hi g off L.length cap ⟨gx, ox, none⟩ M.length c (M.flatMap encV) (by rw [hML, hsz]) hnw h1 hroom (fun j hj => (hth j hj).1) (fun j hj => (hth j hj).2)
   rw [hsz] at hrun hth
   refine ⟨_, _, hrun, ?_, Grown.setCells g (S := fun k => (Value.slice (some ⟨g, off, none⟩) L.length cap).ownBlock = some k) rfl _ _ _, .inl rfl⟩
   refine .inr ⟨g, off, cap, by simp, ?_, by simpa using hroom, World.there_setCells ht _ _ _, ?_⟩
   ·exact Nat.lt_of_lt_of_le hg (Grown.setCells g (S := fun k => k = g) rfl _ _ _).size
   ·rw [hfm]
    have a1 := World.rangeAt_setCells_apart hr g (off + L.length * 34) (M.flatMap encV) (.inr (.inl (by rw [flat_len encV_len]; exact Nat.le_refl _)))
    have a2 := World.rangeAt_setCells_same w g (off + L.length * 34) (M.flatMap encV) hth
    intro j u hu
    rw [List.getElem?_append] at hu
    split at hu
    ·exact a1 j u hu
    ·rename_i hj
     rw [flat_len encV_len] at hj hu
     have := a2 _ u hu
     rw [show off + L.length * 34 + (j - L.length * 34) = off + j by omega] at this
     exact this
  ·obtain ⟨v', w', hrun, h3, h4⟩ := run_append_arg_grows (P := Try.prog) w 55 ty 39 i _ 34 64 Try.und55 hi hz hsz hby hzs (by omega) ⟨g, off, none⟩ L.length cap (L.flatMap encV) (flat_len encV_len L) (fun j u hu => by rw [Addr.add_mid]; exact hr j u hu) ⟨gx, ox, none⟩ M.length c (M.flatMap encV) hML hnw (by omega) (by unfold maxLen; omega) (by omega)
   refine ⟨v', w', hrun, VAt.of (n := L.length + M.length) (by rw [hfm]; exact h3) (by simp), Grown.of h4 (fun k _ e => by cases e), ?_⟩
   rcases h3.2 with ⟨_, e⟩ | ⟨g', _, _, rfl, hg', _⟩
   ·omega
   ·exact .inr ⟨g', rfl, hg'⟩
/-- The rest of a list behind its first n. -/
theorem VAt.drop {w : World} {g off cap : Nat} {L : List VP} (h : VAt w (.slice (some ⟨g, off, none⟩) L.length cap) L) (n : Nat) (hn : n ≤ L.length) : VAt w (.slice (some ⟨g, off + n * 34, none⟩) (L.length - n) (cap - n)) (L.drop n) := by
 rcases h with ⟨e, _⟩ | ⟨g', off', cap', e, h1, h2, h3, h4⟩
 ·cases e
 ·injection e with e1 e2 e3
  injection e1 with e1
  injection e1 with e1 e4
  subst e1 e3 e4
  refine .inr ⟨g, off + n * 34, cap - n, by simp, h1, by simp; omega, fun j hj => ?_, fun j u hu => ?_⟩
  ·have := h3 (n * 34 + j) (by omega)
   rw [← Nat.add_assoc] at this
   exact this
  ·rw [← flat_drop encV_len, List.getElem?_drop] at hu
   have := h4 _ u hu
   rw [← Nat.add_assoc] at this
   exact this
end Go.Proofs.Ytogmdfhicbmplaa
namespace Go.Proofs.Ytogmdfhicbmplaa
open Go.RowKit
set_option linter.unusedSimpArgs false
set_option linter.unusedVariables false

/-- The blocks that it writes to. -/
def RgS (d : Nat) (hv wv sv : Value) (k : Nat) : Prop := k = d ∨ hv.ownBlock = some k ∨ wv.ownBlock = some k ∨ sv.ownBlock = some k
/-- It lies at d, and its lists lie in blocks of their own. -/
structure RAt (w : World) (d : Nat) (hv wv sv : Value) (R : RG) : Prop where
 blk : Blk w d 79 (rdA R.room hv wv sv)
 held : VAt w hv R.held
 wait : VAt w wv R.wait
 sets : OwnH w sv R.sets
 n1 : ∀ k, hv.ownBlock = some k → k ≠ d ∧ wv.ownBlock ≠ some k ∧ sv.ownBlock ≠ some k
 n2 : ∀ k, wv.ownBlock = some k → k ≠ d ∧ sv.ownBlock ≠ some k
 n3 : ∀ k, sv.ownBlock = some k → k ≠ d
 ps : ∀ q, q ∈ R.held ∨ q ∈ R.wait → HRow w q.2 q.1.ps ∧ q.1.ps.length ≤ 64 ∧ ∀ k, q.2.ownBlock = some k → k < w.heap.size ∧ ¬ RgS d hv wv sv k
theorem HRow.grownB {w w' : World} {v : Value} {l : List Hs} {S : Nat → Prop} (h : HRow w v l) (hg : Grown w w' S) (hs : ∀ k, v.ownBlock = some k → ¬ S k) : HRow w' v l := by
 rcases h with h | ⟨b, off, cap, rfl, h1, h2⟩
 ·exact .inl h
 ·exact .inr ⟨b, off, cap, rfl, h1, rangeAt_grown h2 hg (hs b rfl)⟩
theorem RAt.rd {w : World} {d : Nat} {hv wv sv : Value} {R : RG} (h : RAt w d hv wv sv R) : RRd w d R :=
 ⟨hv, wv, sv, h.blk, h.held.row fun q hq => ⟨(h.ps q (.inl hq)).1, Nat.le_trans (h.ps q (.inl hq)).2.1 (by omega)⟩, h.wait.row fun q hq => ⟨(h.ps q (.inr hq)).1, Nat.le_trans (h.ps q (.inr hq)).2.1 (by omega)⟩, h.sets.row⟩
theorem RAt.lt {w : World} {d : Nat} {hv wv sv : Value} {R : RG} (h : RAt w d hv wv sv R) : ∀ k, RgS d hv wv sv k → k < w.heap.size := fun k hk => by
 rcases hk with rfl | hk | hk | hk
 ·exact h.blk.lt
 ·exact h.held.lt k hk
 ·exact h.wait.lt k hk
 ·exact h.sets.lt k hk
theorem RAt.grown {w w' : World} {d : Nat} {hv wv sv : Value} {R : RG} {S : Nat → Prop} (h : RAt w d hv wv sv R) (hg : Grown w w' S) (h1 : ∀ k, RgS d hv wv sv k → ¬ S k) (h2 : ∀ q, q ∈ R.held ∨ q ∈ R.wait → ∀ k, q.2.ownBlock = some k → ¬ S k) : RAt w' d hv wv sv R where
 blk := hg.blk h.blk (h1 d (.inl rfl))
 held := h.held.grown hg fun k hk => h1 k (.inr (.inl hk))
 wait := h.wait.grown hg fun k hk => h1 k (.inr (.inr (.inl hk)))
 sets := h.sets.grown hg fun k hk => h1 k (.inr (.inr (.inr hk)))
 n1 := h.n1
 n2 := h.n2
 n3 := h.n3
 ps := fun q hq => ⟨(h.ps q hq).1.grownB hg (h2 q hq), (h.ps q hq).2.1, fun k hk => ⟨Nat.lt_of_lt_of_le ((h.ps q hq).2.2 k hk).1 hg.size, ((h.ps q hq).2.2 k hk).2⟩⟩
theorem RAt.below {w w' : World} {d : Nat} {hv wv sv : Value} {R : RG} (h : RAt w d hv wv sv R) (hb : Below w.heap.size w w') : RAt w' d hv wv sv R :=
 h.grown (Grown.below (S := fun _ => False) hb) (fun _ _ h => h) fun _ _ _ _ h => h
theorem RAt.new {w : World} {d : Nat} {r : Int} (h : Blk w d 79 (rdA r (.slice none 0 0) (.slice none 0 0) (.slice none 0 0))) : RAt w d (.slice none 0 0) (.slice none 0 0) (.slice none 0 0) ⟨r, [], [], []⟩ where
 blk := h
 held := VAt.nil w
 wait := VAt.nil w
 sets := ownH_nil w
 n1 := fun k hk => by cases hk
 n2 := fun k hk => by cases hk
 n3 := fun k hk => by cases hk
 ps := fun q hq => by rcases hq with h | h <;> cases h
end Go.Proofs.Ytogmdfhicbmplaa
namespace Go.Proofs.Ytogmdfhicbmplaa
open Go.RowKit
set_option linter.unusedSimpArgs false
set_option linter.unusedVariables false

theorem Try.in44 (w : World) (vs : Array Value) : (callFunc 44 vs).run Try.prog w = .ok (.enter 44 vs) w := by kernel_rfl
theorem VAt.sl {w : World} {v : Value} {L : List VP} (h : VAt w v L) : ∃ a n c, v = .slice a n c := by
 rcases h with ⟨rfl, _⟩ | ⟨g, off, cap, rfl, _⟩
 ·exact ⟨_, _, _, rfl⟩
 ·exact ⟨_, _, _, rfl⟩
theorem WL.appVL {ops : Array Oper} {rest : List Oper} {o : Oper} {a : Act} {w : World} {Q : Exit → Act → World → Prop} (hw : Region.wanted o (yielded ops a.tmps) = true) (s x : Operand)
  (ho : o.op = .call { callee := .builtin .append, args := #[s, x], argTypes := #[55, 55] }) (v : Value) (L M : List VP) (gx ox c : Nat) (hs : a.eval s = v) (hx : a.eval x = .slice (some ⟨gx, ox, none⟩) M.length c) (hV : VAt w v L) (hr : w.rangeAt gx ox (M.flatMap encV)) (h1 : ∀ u ∈ M.flatMap encV, u.oneCell' = true) (hb : L.length + M.length ≤ 1000000)
  (h : ∀ v' w', VAt w' v' (L ++ M) → (Grown w w' fun k => v.ownBlock = some k) → Moved w v v' → WL Try.prog ops Q rest (a.put o.dst v') w') : WL Try.prog ops Q (o :: rest) a w :=
 ⟨wpList_wanted hw fun K hK => by
  obtain ⟨v', w', hr, h1, h2, h3⟩ := run_appVL w o.type v L M gx ox c hV hr h1 hb
  unfold Oper.wp execOp
  simp only [ho, resolve, invoke, builtin, Sem.run_bind, Sem.run_pure, Result.andThen_ok, List.map_toArray, List.map_cons, List.map_nil, hs, hx, hr]
  exact hK _ _ (h v' w' h1 h2 h3).out⟩
theorem slV_l (a : Option Addr) (n c i : Nat) (hi : i ≤ n) (w : World) : (Instr.sliceAt 55 (.slice a n c) (some (.int .i64 (i : Int))) none none).run Try.prog w = .ok (sliced a i n c 34) w := by
 have h1 := run_slice_l (P := Try.prog) (w := w) 55 a n c slV_u .i64 (i : Int) (by omega) (by omega)
 have h2 := run_sliceAt_slice (P := Try.prog) (w := w) 55 (.slice a n c) (some (.int .i64 (i : Int))) none none slV_u
 rw [h2, h1, Try.elem55, Try.sizeOfV, Result.andThen_ok, Int.toNat_natCast]
theorem drop_sl {w : World} {g off cap n : Nat} {L : List VP} (hr : w.rangeAt g off (L.flatMap encV)) (hn : n ≤ L.length) (hc : L.length ≤ cap) : ∃ ox c, sliced (some ⟨g, off, none⟩) n L.length cap 34 = .slice (some ⟨g, ox, none⟩) (L.drop n).length c ∧ w.rangeAt g ox ((L.drop n).flatMap encV) := by
 have h1 : w.rangeAt g (off + n * 34) ((L.drop n).flatMap encV) := fun j u hu => by
  rw [← flat_drop encV_len, List.getElem?_drop] at hu
  have := hr _ u hu
  rw [← Nat.add_assoc] at this
  exact this
 unfold sliced
 by_cases e : cap = n
 ·refine ⟨off, cap - n, by rw [if_pos e]; simp, ?_⟩
  rw [List.drop_of_length_le (by omega)]
  intro j u hu
  simp at hu
 ·exact ⟨off + n * 34, cap - n, by rw [if_neg e]; simp [Addr.add_mid], h1⟩
theorem forget_at {w : World} {d : Nat} {hv wv sv v : Value} {R : RG} {m : Nat} (h : RAt w d hv wv sv R) (hV : VAt w v (R.wait.take m ++ R.wait.drop (m + 1))) (hn : ∀ k, v.ownBlock = some k → ¬ RgS d hv wv sv k ∧ ∀ q, q ∈ R.held ∨ q ∈ R.wait → q.2.ownBlock ≠ some k) : RAt (w.setCell ⟨d, 2, none⟩ v) d hv v sv ⟨R.room, R.held, R.wait.take m ++ R.wait.drop (m + 1), R.sets⟩ := by
 have hg : Grown w (w.setCell ⟨d, 2, none⟩ v) fun k => k = d := Grown.setCell _ _ _ _ fun _ => rfl
 have hsub : ∀ q, q ∈ R.held ∨ q ∈ R.wait.take m ++ R.wait.drop (m + 1) → q ∈ R.held ∨ q ∈ R.wait := fun q hq => hq.imp id fun h => (List.mem_append.1 h).elim List.mem_of_mem_take List.mem_of_mem_drop
 refine ⟨?_, h.held.grown hg fun k hk => (h.n1 k hk).1, hV.grown hg fun k hk e => (hn k hk).1 (.inl e), h.sets.grown hg fun k hk => h.n3 k hk, fun k hk => ⟨(h.n1 k hk).1, fun e => (hn k e).1 (.inr (.inl hk)), (h.n1 k hk).2.2⟩, fun k hk => ⟨fun e => (hn k hk).1 (.inl e), fun e => (hn k hk).1 (.inr (.inr (.inr e)))⟩, h.n3, fun q hq => ?_⟩
 ·have := h.blk.set 2 v
  exact this
 ·obtain ⟨a1, a2, a3⟩ := h.ps q (hsub q hq)
  refine ⟨a1.grownB hg fun k hk e => (a3 k hk).2 (.inl e), a2, fun k hk => ⟨Nat.lt_of_lt_of_le (a3 k hk).1 hg.size, fun e => ?_⟩⟩
  rcases e with e | e | e | e
  ·exact (a3 k hk).2 (.inl e)
  ·exact (a3 k hk).2 (.inr (.inl e))
  ·exact (hn k e).2 q (hsub q hq) hk
  ·exact (a3 k hk).2 (.inr (.inr (.inr e)))
end Go.Proofs.Ytogmdfhicbmplaa
namespace Go.Proofs.Ytogmdfhicbmplaa
open Go.RowKit
set_option linter.unusedSimpArgs false
set_option linter.unusedVariables false

theorem ixF_lo {x : Hs} : ∀ {l : List Hs} {t : Nat}, ixF x l t = -1 ∨ (t : Int) ≤ ixF x l t
 | [], _ => .inl rfl
 | y :: r, t => by
  rw [ixF]
  by_cases h : x = y
  ·rw [if_pos h]; exact .inr (Int.le_refl _)
  ·rw [if_neg h]; exact (ixF_lo (l := r) (t := t + 1)).imp id fun h => by omega
theorem erase_at {x : Hs} : ∀ {L : List VP} {t m : Nat}, ixF x (L.map fun q => q.1.id) t = ((t + m : Nat) : Int) → (L.take m ++ L.drop (m + 1)).map (·.1) = (L.map (·.1)).eraseP (isV x)
 | [], _, m, _ => by simp
 | q :: r, t, m, h => by
  rw [List.map_cons, ixF] at h
  by_cases e : x = q.1.id
  ·rw [if_pos e] at h
   have : m = 0 := by omega
   subst this
   rw [List.map_cons, List.eraseP_cons_of_pos (by simpa [isV] using e)]
   simp
  ·rw [if_neg e] at h
   have hm : 1 ≤ m := by
    rcases ixF_lo (x := x) (l := r.map fun q => q.1.id) (t := t + 1) with h2 | h2
    ·rw [h2] at h; omega
    ·rw [h] at h2; omega
   obtain ⟨k, rfl⟩ : ∃ k, m = k + 1 := ⟨m - 1, by omega⟩
   have ih := erase_at (L := r) (t := t + 1) (m := k) (by rw [h]; congr 1; omega)
   rw [List.map_cons, List.eraseP_cons_of_neg (by simpa [isV] using e), ← ih]
   simp
theorem Sm.fgt {g g' : DG} {R : RG} {x : Hs} {m : Nat} (h : Sm g R) (hf : fgtG g x g') (hb : hasB R.ws x = true) (hi : ixF x (R.wait.map fun q => q.1.id) 0 = (m : Int)) : Sm g' ⟨R.room, R.held, R.wait.take m ++ R.wait.drop (m + 1), R.sets⟩ := by
 rcases hf with ⟨h1, _⟩ | ⟨_, h2, h3, h4, _⟩
 ·rw [← h.ws, hb] at h1; cases h1
 ·refine ⟨h.room.trans h2.symm, h.hs.trans h3.symm, ?_⟩
  show (R.wait.take m ++ R.wait.drop (m + 1)).map (·.1) = g'.wait
  rw [erase_at (t := 0) (m := m) (by rw [hi, Nat.zero_add]), h4, ← h.ws]
  rfl
end Go.Proofs.Ytogmdfhicbmplaa
namespace Go.Proofs.Ytogmdfhicbmplaa
open Go.RowKit
set_option linter.unusedSimpArgs false
set_option linter.unusedVariables false

/-! ### A step of the document's dag. -/
structure RSte (w w' : World) (d : Nat) (hv wv sv : Value) (R : RG) (hv' wv' sv' : Value) (R' : RG) : Prop where
 at' : RAt w' d hv' wv' sv' R'
 grown : Grown w w' (RgS d hv wv sv)
 sub : ∀ k, RgS d hv' wv' sv' k → RgS d hv wv sv k ∨ w.heap.size ≤ k
 new : ∀ q, q ∈ R'.held ∨ q ∈ R'.wait → (q ∈ R.held ∨ q ∈ R.wait) ∨ ∀ k, q.2.ownBlock = some k → w.heap.size ≤ k
theorem RSte.refl {w w' : World} {d : Nat} {hv wv sv : Value} {R : RG} (h : RAt w d hv wv sv R) (hb : Below w.heap.size w w') : RSte w w' d hv wv sv R hv wv sv R :=
 ⟨h.below hb, Grown.below hb, fun k hk => .inl hk, fun q hq => .inl hq⟩
theorem RSte.trans {w w1 w2 : World} {d : Nat} {hv wv sv hv1 wv1 sv1 hv2 wv2 sv2 : Value} {R R1 R2 : RG} (h : RSte w w1 d hv wv sv R hv1 wv1 sv1 R1) (h2 : RSte w1 w2 d hv1 wv1 sv1 R1 hv2 wv2 sv2 R2) : RSte w w2 d hv wv sv R hv2 wv2 sv2 R2 :=
 ⟨h2.at', h.grown.next h2.grown fun i hi e => (h.sub i e).elim id fun h3 => by omega, fun k hk => (h2.sub k hk).elim (h.sub k) fun h3 => .inr (Nat.le_trans h.grown.size h3),
  fun q hq => (h2.new q hq).elim (h.new q) fun h3 => .inr fun k hk => Nat.le_trans h.grown.size (h3 k hk)⟩
/-- Where a hash is put into a list that rises. -/
def PutAt (l : List Hs) (x : Hs) (a : Nat) : Prop := a ≤ l.length ∧ (∀ k, k < a → Lt (l.getD k default) x) ∧ (a < l.length → ¬ Lt (l.getD a default) x)
theorem outB_nil (x : Hs) : outB [] x = true := by simp [outB]
theorem put_pw {l : List Hs} {x : Hs} {a : Nat} (hl : Inc l) (hx : x ∉ l) (h : PutAt l x a) : (insL l a x).Pairwise Lt := by
 have hpw : l.Pairwise Lt := List.pairwise_iff_getElem.2 fun i j hi hj hij => by
  have := hl i j hij hj
  rwa [List.getD_eq_getElem?_getD, List.getD_eq_getElem?_getD, List.getElem?_eq_getElem hi, List.getElem?_eq_getElem hj] at this
 have h2 : ∀ k, a ≤ k → k < l.length → ¬ Lt (l.getD k default) x := fun k hk hkl hc => by
  rcases Nat.lt_or_eq_of_le hk with hk | rfl
  ·exact h.2.2 (by omega) ((hl a k hk hkl).trans hc)
  ·exact h.2.2 hkl hc
 have h3 := cnt_at h.1 h.2.1 h2
 have h4 := hds_pw (h := l) (v := ⟨x, 0, []⟩) hpw hx
 unfold hdsOf at h4
 have h5 : l.filter (outB []) = l := List.filter_eq_self.2 fun y _ => outB_nil y
 simp only [h5] at h4
 rw [h3] at h4
 exact h4
theorem sub_len {l m : List Hs} (h : l.Nodup) (hm : ∀ x ∈ l, x ∈ m) : l.length ≤ m.length := by
 induction l generalizing m with
 | nil => simp
 | cons x r ih =>
  rw [List.nodup_cons] at h
  have hx := hm x (List.mem_cons_self ..)
  have := ih (m := m.erase x) h.2 fun y hy => (List.mem_erase_of_ne (fun e : y = x => h.1 (by rw [← e]; exact hy))).2 (hm y (List.mem_cons_of_mem _ hy))
  rw [List.length_erase_of_mem hx] at this
  have := List.length_pos_of_mem hx
  rw [List.length_cons]
  omega
/-- What Add does. -/
def addR (R : RG) (v : VX) (p : Value) (ol : List Hs) (R' : RG) : Prop :=
 (fitV R.hs R.ws v = (2, 0) ∧ (∃ a, PutAt R.sets v.id a ∧ R' = ⟨R.room, R.held ++ [(v, p)], R.wait, insL R.sets a v.id⟩) ∧ ol = []) ∨
 (fitV R.hs R.ws v = (3, 0) ∧ ∃ t, t ≤ R.wait.length + 1 ∧ ((R.wait.length : Int) + 1 - t ≤ R.room) ∧ (t ≠ 0 → R.room < (R.wait.length : Int) + 1 - (t - 1 : Nat)) ∧ R' = ⟨R.room, R.held, (R.wait ++ [(v, p)]).drop t, R.sets⟩ ∧ ol = ((R.wait ++ [(v, p)]).take t).map fun q => q.1.id) ∨
 ((fitV R.hs R.ws v).1 ≠ 2 ∧ (fitV R.hs R.ws v).1 ≠ 3 ∧ R' = R ∧ ol = [])
/-- What Settle does. -/
def setR (R : RG) (x : Hs) (R' : RG) : Prop :=
 ((rdyE R.hs R.ws x = 6 ∨ rdyE R.hs R.ws x = 9) ∧ R' = R) ∨
 (rdyE R.hs R.ws x = 0 ∧ ∃ m a, ∃ hm : m < R.wait.length, ixF x (R.wait.map fun q => q.1.id) 0 = (m : Int) ∧ PutAt R.sets R.wait[m].1.id a ∧ R' = ⟨R.room, R.held ++ [R.wait[m]], R.wait.take m ++ R.wait.drop (m + 1), insL R.sets a R.wait[m].1.id⟩) ∨
 ((rdyE R.hs R.ws x = 3 ∨ rdyE R.hs R.ws x = 51) ∧ ∃ m, m < R.wait.length ∧ ixF x (R.wait.map fun q => q.1.id) 0 = (m : Int) ∧ R' = ⟨R.room, R.held, R.wait.take m ++ R.wait.drop (m + 1), R.sets⟩)
/-- Both dags do the same. -/
theorem Sm.add {g g' : DG} {R R' : RG} {v : VX} {p : Value} {ol ol' : List Hs} (h : Sm g R) (hI : DI g) (ha : addG g v ol g') (hr : addR R v p ol' R') : Sm g' R' ∧ ol = ol' := by
 have hf : fitV R.hs R.ws v = fitV g.held g.wait v := by rw [h.hs, h.ws]
 have hwl : R.wait.length = g.wait.length := by have := congrArg List.length h.ws; rwa [RG.ws, List.length_map] at this
 have hrm := h.room
 have hq : (g.wait.length : Int) ≤ g.room := by have := hI.ql; have := hI.qlen; omega
 unfold addR at hr
 rw [hf] at hr
 rcases hr with ⟨r1, ⟨a, _, rfl⟩, rfl⟩ | ⟨r1, t, r2, r3, r4, rfl, rfl⟩ | ⟨r1, r2, rfl, rfl⟩
 ·rcases ha with ⟨_, a2, rfl⟩ | ⟨a1, _⟩ | ⟨a1, _⟩ | ⟨a1, _⟩
  ·refine ⟨⟨h.room.trans a2.1.symm, ?_, ?_⟩, rfl⟩
   ·rw [RG.hs, List.map_append, a2.2.1, ← h.hs]; rfl
   ·rw [RG.ws, a2.2.2.1, ← h.ws]; rfl
  ·rw [r1] at a1; cases a1
  ·rw [r1] at a1; cases a1
  ·rw [r1] at a1; exact absurd rfl a1
 ·have hws : ((R.wait ++ [(v, p)]).map (·.1)) = g.wait ++ [v] := by rw [List.map_append, ← h.ws]; rfl
  rcases ha with ⟨a1, _⟩ | ⟨_, a2, a3, rfl⟩ | ⟨_, a2, v0, a3, a4, rfl⟩ | ⟨_, a1, _⟩
  ·rw [r1] at a1; cases a1
  ·have ht : t = 0 := Classical.byContradiction fun hc => by have := r4 hc; omega
   subst ht
   refine ⟨⟨h.room.trans a3.1.symm, h.hs.trans a3.2.1.symm, ?_⟩, by simp⟩
   rw [RG.ws]
   simp only [List.drop_zero]
   rw [hws, a3.2.2.1]
  ·have ht : t = 1 := by
    rcases Nat.lt_trichotomy t 1 with hc | hc | hc
    ·have : t = 0 := by omega
     subst this; omega
    ·exact hc
    ·have := r4 (by omega); omega
   subst ht
   refine ⟨⟨h.room.trans a4.1.symm, h.hs.trans a4.2.1.symm, ?_⟩, ?_⟩
   ·rw [RG.ws]
    simp only
    rw [List.map_drop, hws, a3]; rfl
   ·have e : ((R.wait ++ [(v, p)]).take 1).map (fun q => q.1.id) = (((R.wait ++ [(v, p)]).map (·.1)).take 1).map (·.id) := by rw [← List.map_take, List.map_map]; rfl
    rw [e, hws, a3]; rfl
  ·rw [r1] at a1; exact absurd rfl a1
 ·rcases ha with ⟨a1, _⟩ | ⟨a1, _⟩ | ⟨a1, _⟩ | ⟨_, _, rfl, rfl⟩
  ·rw [a1] at r1; exact absurd rfl r1
  ·rw [a1] at r2; exact absurd rfl r2
  ·rw [a1] at r2; exact absurd rfl r2
  ·exact ⟨h, rfl⟩
theorem Sm.set {g g' : DG} {R R' : RG} {x : Hs} (h : Sm g R) (ha : setG g x g') (hr : setR R x R') : Sm g' R' := by
 unfold setR at hr
 rw [h.hs, h.ws] at hr
 rcases hr with ⟨r1, rfl⟩ | ⟨r1, m, a, hm, r2, r3, rfl⟩ | ⟨r1, m, hm, r2, rfl⟩
 ·rcases ha with ⟨_, rfl⟩ | ⟨a1, _⟩ | ⟨a1, _⟩
  ·exact h
  ·omega
  ·omega
 ·rcases ha with ⟨a1, _⟩ | ⟨_, v, a2, a3, a4, a5, _⟩ | ⟨a1, _⟩
  ·omega
  ·have hb : hasB (R.wait.map (·.1)) x = true := by
    show hasB R.ws x = true
    rw [h.ws]; unfold hasB; rw [a2]; rfl
   obtain ⟨m', hm', e1, e2⟩ := ixF_find (t := 0) hb
   have : m' = m := by rw [r2] at e1; omega
   subst this
   have hw : R.wait.map (·.1) = g.wait := h.ws
   have ev : v = R.wait[m'].1 := by rw [hw, a2] at e2; exact Option.some.inj e2
   refine ⟨h.room.trans a3.symm, ?_, ?_⟩
   ·rw [a4, ← h.hs, RG.hs, ev]; simp [RG.hs]
   ·show (R.wait.take m' ++ R.wait.drop (m' + 1)).map (·.1) = g'.wait
    rw [erase_at (x := x) (t := 0) (m := m') (by rw [r2, Nat.zero_add]), a5, hw]
  ·omega
 ·rcases ha with ⟨a1, _⟩ | ⟨a1, _⟩ | ⟨_, v, a2, a3, a4, a5, _⟩
  ·omega
  ·omega
  ·refine ⟨h.room.trans a3.symm, h.hs.trans a4.symm, ?_⟩
   show (R.wait.take m ++ R.wait.drop (m + 1)).map (·.1) = g'.wait
   have hw : R.wait.map (·.1) = g.wait := h.ws
   rw [erase_at (x := x) (t := 0) (m := m) (by rw [r2, Nat.zero_add]), a5, hw]
/-- What sets is behind a step. -/
theorem Sm.ri' {g : DG} {R : RG} (h : Sm g R) (hI : DI g) (hp : R.sets.Pairwise Lt) (hm : ∀ x, x ∈ R.sets ↔ x ∈ R.hs.map (·.id)) : RI R :=
 h.ri hI (pw_inc hp) hm (by
  have h1 := sub_len (pw_nodup hp) fun x hx => (hm x).1 hx
  rw [List.length_map, h.hs] at h1
  exact Nat.le_trans h1 hI.hl)
theorem Sm.addRI {g g' : DG} {R R' : RG} {v : VX} {p : Value} {ol : List Hs} (h : Sm g' R') (hI : DI g') (hR : RI R) (hr : addR R v p ol R') : RI R' := by
 have hpw : R.sets.Pairwise Lt := List.pairwise_iff_getElem.2 fun i j hi hj hij => by
  have := hR.inc i j hij hj
  rwa [List.getD_eq_getElem?_getD, List.getD_eq_getElem?_getD, List.getElem?_eq_getElem hi, List.getElem?_eq_getElem hj] at this
 rcases hr with ⟨r1, ⟨a, r2, rfl⟩, rfl⟩ | ⟨r1, t, _, _, _, rfl, rfl⟩ | ⟨r1, r2, rfl, rfl⟩
 ·have hno : v.id ∉ R.sets := fun hm => by
   have h1 := hasB_mem.2 ((hR.mem v.id).1 hm)
   unfold fitV at r1
   rw [h1] at r1
   simp at r1
  refine h.ri' hI (put_pw hR.inc hno r2) fun x => ?_
  rw [insL_mem, hR.mem]
  simp [RG.hs, or_comm]
 ·exact h.ri' hI hpw hR.mem
 ·exact hR
theorem Sm.setRI {g' : DG} {R R' : RG} {x : Hs} (h : Sm g' R') (hI : DI g') (hR : RI R) (hno : ∀ v ∈ R.ws, hasB R.hs v.id = false) (hr : setR R x R') : RI R' := by
 have hpw : R.sets.Pairwise Lt := List.pairwise_iff_getElem.2 fun i j hi hj hij => by
  have := hR.inc i j hij hj
  rwa [List.getD_eq_getElem?_getD, List.getD_eq_getElem?_getD, List.getElem?_eq_getElem hi, List.getElem?_eq_getElem hj] at this
 rcases hr with ⟨r1, rfl⟩ | ⟨r1, m, a, hm, r2, r3, rfl⟩ | ⟨r1, m, hm, r2, rfl⟩
 ·exact hR
 ·have hn : R.wait[m].1.id ∉ R.sets := fun hx => by
   have h1 := hasB_mem.2 ((hR.mem _).1 hx)
   have h2 := hno R.wait[m].1 (List.mem_map.2 ⟨_, List.getElem_mem hm, rfl⟩)
   rw [h1] at h2; cases h2
  refine h.ri' hI (put_pw hR.inc hn r3) fun x => ?_
  rw [insL_mem, hR.mem]
  simp [RG.hs, or_comm]
 ·exact h.ri' hI hpw hR.mem
end Go.Proofs.Ytogmdfhicbmplaa
