import Derived.Test.YtennogmeeefopaaDoorA10
import Derived.Test.YtennogmeeefopaaDoorA12
import Derived.Test.YtennogmeeefopaaDoorA13
import Derived.Test.YtennogmeeefopaaDoorA14
import Derived.Test.YtennogmeeefopaaDoorA06
import Derived.Test.YtennogmeeefopaaDoorA11
import Derived.Deep.RegionHeld3
import Derived.Lib.Small
import Derived.Deep.MidRow
namespace Go.Proofs.YtennogmeeefopaaDoor
open Go.RowKit
set_option linter.unusedSimpArgs false
set_option linter.unusedVariables false

theorem Tryd.in14 (w : World) (vs : Array Value) : (callFunc 14 vs).run Tryd.prog w = .ok (.enter 14 vs) w := by kernel_rfl
def sndS : Code → Code
 | .seq _ y => y
 | c => c
def bodyC (f : Func) : Code := match f.body with
 | some c => c
 | none => .skip
def JAppPost (D : DV) (V : JV) (la : Bool) (l : List Int) (sure g d p : Nat) (N : Nat → Prop) (w : World) (e : Ending) (w' : World) : Prop :=
 ∃ (ee : Int) (D' : DV) (V' : JV) (la' de' : Bool), e = .returned (.int .i64 ee) ∧ JDN w' g d p D' V' la' de' (JN2 N w.heap.size w'.heap.size) ∧ Grown w w' N ∧ (D.acts ≤ D'.acts ∧ D'.acts ≤ D.acts + 300) ∧
  ((ee = 0 ∧ de' = false ∧ V'.ps = V.ps ++ [l] ∧ JX D' V' la' sure) ∨ (ee = 7 ∧ CR D' (V.ps ++ [l]) sure) ∨ ((ee = 1 ∨ ee = 4 ∨ ee = 8) ∧ de' = false ∧ V' = V ∧ JX D' V la' sure))
set_option maxRecDepth 8000 in
set_option maxHeartbeats 4000000 in
theorem japp_tail {w0 wi : World} {g d p q k bc : Nat} {a : Int} {ba : Option Addr} {l : List Int} {vf vp : Value} {cs : List FC} {D0 D DA : DV} {V V' : JV} {la : Bool} {sure : Nat} {N : Nat → Prop} {x2 x3 x4 x6 x7 x8 x9 x10 x11 x12 x13 x14 x15 x16 x17 x18 x19 x20 x21 x22 x23 x24 x25 x26 x27 x28 x29 x30 x31 x32 x33 x34 x35 x36 x37 x38 x39 x40 x41 x42 x43 x44 x45 x46 x47 x48 x49 x50 x51 x52 x53 x54 x55 x56 x57 x58 x59 x60 x61 x62 x63 x64 x65 x66 x67 x68 x69 x70 x71 x72 x73 x74 x75 x76 x77 x78 x79 x80 x81 x82 x83 x84 x85 x86 x87 x88 x89 x90 x91 x92 x93 x94 x95 x96 x97 x98 x99 x100 x101 : Value}
  (hT : Tab wi) (hG : Grown w0 wi N) (hJ : Blk wi g 61 (jA d vp V.pr V.sz la false)) (hP : OwnP wi vp V.pl) (hDk0 : Blk w0 d 75 #[ptr p]) (hD : DskAt wi p vf cs D) (hN : ∀ k, (DskS p vf cs k ∨ k = g ∨ vp.ownBlock = some k) → N k) (hNl : ∀ k, N k → k < w0.heap.size) (hd : ¬ N d) (hQ : Blk wi q 79 #[.int .i64 (k : Int), .int .i64 a]) (hq : w0.heap.size ≤ q) (hR : RowAt wi (.slice ba l.length bc) l) (hk : k < 256) (ha : 0 ≤ a ∧ a ≤ 1000000000) (hPo : PayOk l) (hPn : V.pl.length ≤ 1000000000)
  (hAp : ∀ (wx : World) (v : Value), Blk wx d 75 #[ptr p] → DskAt wx p vf cs D → RowAt wx v (fr l) → (∀ k, v.ownBlock = some k → k ≠ p) → Calls Tryd.prog 45 #[ptr d, .string (nmS k), v] wx fun e w' => e = .returned (.int .i64 (pw D)) ∧ ∃ vf' cs', DskAt w' p vf' cs' DA ∧ Grown wx w' (DskS p vf cs) ∧ ∀ k, DskS p vf' cs' k → DskS p vf cs k ∨ wx.heap.size ≤ k)
  (hAc : D0.acts ≤ DA.acts ∧ DA.acts ≤ D0.acts + 300) (hV : V'.ps = V.ps ++ [l] ∧ V'.pr = (k : Int) ∧ V'.sz = a + 16 + (l.length : Int) ∧ V'.pl = (V.pl ++ [((k : Int), a)])) (hOk : ¬ D.fuse = 0 → JX DA V' true sure) (hCr : CR DA (V.ps ++ [l]) sure) :
  Code.wp Tryd.prog (sndS (sndS (sndS (sndS (sndS (bodyC Tryd.f24)))))) (bodyPost Tryd.prog Tryd.f24 (JAppPost D0 V la l sure g d p N w0)) { tmps := #[.pointer (some ⟨g, 0, none⟩), .slice ba l.length bc, x2, x3, x4, .pointer (some ⟨q, 0, none⟩), x6, x7, x8, x9, x10, x11, x12, x13, x14, x15, x16, x17, x18, x19, x20, x21, x22, x23, x24, x25, x26, x27, x28, x29, x30, x31, x32, x33, x34, x35, x36, x37, x38, x39, x40, x41, x42, x43, x44, x45, x46, x47, x48, x49, x50, x51, x52, x53, x54, x55, x56, x57, x58, x59, x60, x61, x62, x63, x64, x65, x66, x67, x68, x69, x70, x71, x72, x73, x74, x75, x76, x77, x78, x79, x80, x81, x82, x83, x84, x85, x86, x87, x88, x89, x90, x91, x92, x93, x94, x95, x96, x97, x98, x99, x100, x101], defers := [] } wi := by
 have HT := Keep.mk hT
 have HG := Keep.mk hG
 have HJ := Keep.mk hJ
 have HP := Keep.mk hP
 have HDk0 := Keep.mk hDk0
 have HDk : Keep (Blk wi d 75 #[ptr p]) := ⟨hG.blk hDk0 hd⟩
 have HD := Keep.mk hD
 have HN := Keep.mk hN
 have HNl := Keep.mk hNl
 have Hd := Keep.mk hd
 have HQ := Keep.mk hQ
 have Hq := Keep.mk hq
 have HR := Keep.mk hR
 have Hk := Keep.mk hk
 have Ha := Keep.mk ha
 have HPo := Keep.mk hPo
 have HPn := Keep.mk hPn
 have HAp := Keep.mk hAp
 have HAc := Keep.mk hAc
 have HV := Keep.mk hV
 have HOk := Keep.mk hOk
 have HCr := Keep.mk hCr
 have HZ : Keep (0 < wi.heap.size) := ⟨Nat.lt_of_le_of_lt (Nat.zero_le _) hJ.lt⟩
 clear hT hG hJ hP hDk0 hD hN hNl hd hQ hq hR hk ha hPo hPn hAp hAc hV hOk hCr
 generalize hg : (bodyPost Tryd.prog Tryd.f24 (JAppPost D0 V la l sure g d p N w0)) = Q
 unfold Tryd.f24
 simp only [bodyC, sndS]
 subst hg
 refine wp_seq_k fun K1 hK1 => ?_
 have D4 : Keep (Below wi.heap.size wi wi.drew) := ⟨(Below.refl _ _).drew⟩
 have HSx : Keep (∀ wx de, Blk wx g 61 (jA d vp V.pr V.sz la de) → Blk wx q 79 #[.int .i64 (k : Int), .int .i64 a] → wx.cell? ⟨g, 0, none⟩ = some (ptr d) ∧ wx.cell? ⟨q, 0, none⟩ = some (.int .i64 (k : Int))) := ⟨fun wx de h1 h2 => ⟨h1.c 0 rfl, h2.c 0 rfl⟩⟩
 refine wp_region_held_drew (S := fun wx => wx.cell? ⟨g, 0, none⟩ = some (ptr d) ∧ wx.cell? ⟨q, 0, none⟩ = some (.int .i64 (k : Int))) (by kernel_rfl) (HSx.out _ _ HJ.out.drew HQ.out.drew) (fun hHeld => ?_)
 refine tkS (i := 0) (oi := ⟨some 58, Op.move (Operand.tmp 0), 22, _, _, none⟩) (v := .pointer (some ⟨g, 0, none⟩)) rfl (Or.inl ⟨by rfl, fun w hS => by obtain ⟨hS1, hS2⟩ := hS; go_simp⟩) hHeld ?_
 refine tkS (i := 1) (oi := ⟨some 59, Op.move (Operand.tmp 0), 22, _, _, none⟩) (v := .pointer (some ⟨g, 0, none⟩)) rfl (Or.inl ⟨by rfl, fun w hS => by obtain ⟨hS1, hS2⟩ := hS; go_simp⟩) hHeld ?_
 refine tkS (i := 2) (oi := ⟨some 60, Op.nilCheck (Operand.tmp 59), 0, _, _, none⟩) (v := .pointer (some ⟨g, 0, none⟩)) rfl (Or.inl ⟨by rfl, fun w hS => by obtain ⟨hS1, hS2⟩ := hS; go_simp⟩) hHeld ?_
 refine tkS (i := 3) (oi := ⟨some 61, Op.fieldAddr 61 (Operand.tmp 60) 0, 0, _, _, none⟩) (v := .pointer (some ⟨g, 0, none⟩)) rfl (Or.inl ⟨by rfl, fun w hS => by obtain ⟨hS1, hS2⟩ := hS; go_simp⟩) hHeld ?_
 refine tkS (i := 4) (oi := ⟨some 62, Op.load 30 (Operand.tmp 61), 30, _, _, none⟩) (v := .pointer (some ⟨d, 0, none⟩)) rfl (Or.inl ⟨by rfl, fun w hS => by obtain ⟨hS1, hS2⟩ := hS; go_simp⟩) hHeld ?_
 refine tkS (i := 5) (oi := ⟨some 63, Op.fieldAddr 79 (Operand.tmp 5) 0, 0, _, _, none⟩) (v := .pointer (some ⟨q, 0, none⟩)) rfl (Or.inl ⟨by rfl, fun w hS => by obtain ⟨hS1, hS2⟩ := hS; go_simp⟩) hHeld ?_
 refine tkS (i := 6) (oi := ⟨some 64, Op.load 3 (Operand.tmp 63), 3, _, _, none⟩) (v := .int .i64 (k : Int)) rfl (Or.inl ⟨by rfl, fun w hS => by obtain ⟨hS1, hS2⟩ := hS; go_simp⟩) hHeld ?_
 refine tkS (i := 8) (oi := ⟨some 66, Op.move (Operand.tmp 1), 37, _, _, none⟩) (v := .slice ba l.length bc) rfl (Or.inl ⟨by rfl, fun w hS => by obtain ⟨hS1, hS2⟩ := hS; go_simp⟩) hHeld ?_
 refine wpAnyH_ready (rs := [7]) (by kernel_rfl) (by simp) ?_
 refine AllReadyH.cons (o := ⟨some 65, Op.call { callee := Callee.value (Operand.func 31), args := #[Operand.tmp 64], argTypes := #[3] }, 9, _, _, none⟩) rfl (fun K hK => ?_) AllReadyH.nil
 rw [if_pos (by rfl)]
 refine wp_callF 31 _ _ rfl Tryd.in31 #[.int .i64 (k : Int)] (by simp [Act.eval]) (fun vz wz => vz = .string (nmS k) ∧ Below wi.heap.size wi wz) ?_ ?_
 ·refine (name_any k (by have := Hk.out; omega) wi.drew (HT.out.below D4.out HZ.out)).mono ?_
  rintro e wz ⟨rfl, h⟩
  exact ⟨_, rfl, rfl, D4.out.trans (h.mono D4.out.size)⟩
 rintro vz w5 ⟨rfl, h5⟩
 have B5 := Keep.mk h5
 clear h5
 obtain ⟨nn, hnn⟩ : ∃ s, Keep (s = nmS k) := ⟨_, ⟨rfl⟩⟩
 rw [← hnn.out]
 refine hK _ _ (HSx.out _ _ (HJ.out.below B5.out HJ.out.lt) (HQ.out.below B5.out HQ.out.lt)) fun hH5 => ?_
 clear hK
 simp only [Act.put, pqA, pqB, pqC]
 refine wpAnyH_ready (rs := [9]) (by kernel_rfl) (by simp) ?_
 refine AllReadyH.cons (o := ⟨some 67, Op.call { callee := Callee.value (Operand.func 46), args := #[Operand.tmp 66], argTypes := #[37] }, 37, _, _, none⟩) rfl (fun K hK => ?_) AllReadyH.nil
 rw [if_pos (by rfl)]
 refine wp_callF 46 _ _ rfl Tryd.in46 #[.slice ba l.length bc] (by simp [Act.eval]) (fun vz wz => Own wz vz (fr l) ∧ (∀ k, vz.ownBlock = some k → w5.heap.size ≤ k) ∧ Below w5.heap.size w5 wz) ?_ ?_
 ·refine (frame_any _ l w5 (HR.out.below B5.out) (by have := HPo.out.2; omega)).mono ?_
  rintro e wz ⟨v6, rfl, h1, h2, h3⟩
  exact ⟨_, rfl, h1, h2, h3⟩
 rintro vz w6 ⟨h1, h2, h3⟩
 have O6 := Keep.mk h1
 have N6 : Keep (∀ k, vz.ownBlock = some k → wi.heap.size ≤ k) := ⟨fun k hk => Nat.le_trans B5.out.size (h2 k hk)⟩
 have B6 : Keep (Below wi.heap.size wi w6) := ⟨B5.out.trans (h3.mono B5.out.size)⟩
 clear h1 h2 h3
 obtain ⟨va, vn, vc, e6⟩ := O6.out.sl
 subst e6
 refine hK _ _ (HSx.out _ _ (HJ.out.below B6.out HJ.out.lt) (HQ.out.below B6.out HQ.out.lt)) fun hH6 => ?_
 clear hK
 simp only [Act.put, pqA, pqB, pqC]
 refine wpAnyH_ready (rs := [10]) (by kernel_rfl) (by simp) ?_
 refine AllReadyH.cons (o := ⟨some 68, Op.call { callee := Callee.value (Operand.func 45), args := #[Operand.tmp 62, Operand.tmp 65, Operand.tmp 67], argTypes := #[30, 9, 37] }, 24, _, _, none⟩) rfl (fun K hK => ?_) AllReadyH.nil
 rw [if_pos (by rfl)]
 have hap := HAp.out w6 (.slice va vn vc) (HDk.out.below B6.out HDk.out.lt) (HD.out.below B6.out) O6.out.row (fun k hk e => by have h1 := N6.out k hk; have h2 := HD.out.blk.lt; omega)
 rw [← hnn.out] at hap
 refine wp_callF 45 _ _ rfl Tryd.in45 #[ptr d, .string nn, .slice va vn vc] (by simp [Act.eval]) (fun vz wz => vz = .int .i64 (pw D) ∧ ∃ vf' cs', DskAt wz p vf' cs' DA ∧ Grown w6 wz (DskS p vf cs) ∧ ∀ k, DskS p vf' cs' k → DskS p vf cs k ∨ w6.heap.size ≤ k) ?_ ?_
 ·refine (hap).mono ?_
  rintro e wz ⟨rfl, vf', cs', h1, h2, h3⟩
  exact ⟨_, rfl, rfl, vf', cs', h1, h2, h3⟩
 rintro vz w7 ⟨rfl, vf7, cs7, h1, h2, h3⟩
 have D7 := Keep.mk h1
 have N7 : Keep (∀ k, DskS p vf7 cs7 k → N k ∨ w0.heap.size ≤ k) := ⟨fun k hk => by rcases h3 k hk with h | h; exact .inl (HN.out k (.inl h)); exact .inr (by have := B6.out.size; have := HG.out.size; omega)⟩
 have hne : ∀ {k : Nat} {T : TypeId}, Typ wi k T → T = 61 ∨ T = 79 → ¬ DskS p vf cs k := fun hk hT e => by rcases HD.out.sTyp e with h | h | h <;> (have := h.one hk; rcases hT with hT | hT <;> (rw [hT] at this; revert this; decide))
 have J7 : Keep (Blk w7 g 61 (jA d vp V.pr V.sz la false)) := ⟨h2.blk (HJ.out.below B6.out HJ.out.lt) (hne HJ.out.typ (.inl rfl))⟩
 have Q7 : Keep (Blk w7 q 79 #[.int .i64 (k : Int), .int .i64 a]) := ⟨h2.blk (HQ.out.below B6.out HQ.out.lt) (hne HQ.out.typ (.inr rfl))⟩
 have P7 : Keep (OwnP w7 vp V.pl) := ⟨(HP.out.grown (Grown.below (S := fun _ => False) B6.out) fun _ _ h => h).grown h2 fun k hk => hne (HP.out.typ hk) (.inr rfl)⟩
 have G7 : Keep (Grown w0 w7 N) := ⟨(HG.out.trans (Grown.below B6.out)).next h2 fun k _ e => HN.out k (.inl e)⟩
 clear h1 h2 h3 hne
 obtain ⟨ee, hee⟩ : ∃ z, Keep (z = pw D) := ⟨_, ⟨rfl⟩⟩
 rw [← hee.out]
 refine hK _ _ (HSx.out _ _ J7.out Q7.out) fun hH7 => ?_
 clear hK
 simp only [Act.put, pqA, pqB, pqC]
 refine wpAnyH_ready (rs := [11]) (by kernel_rfl) (by simp) ?_
 refine AllReadyH.cons (o := ⟨some 69, Op.call { callee := Callee.value (Operand.func 29), args := #[Operand.tmp 58, Operand.tmp 68], argTypes := #[22, 24] }, 24, _, _, none⟩) rfl (fun K hK => ?_) AllReadyH.nil
 rw [if_pos (by rfl)]
 refine wp_callF 29 _ _ rfl Tryd.in29 #[ptr g, .int .i64 ee] (by simp [Act.eval]) (fun vz wz => vz = .int .i64 ee ∧ (∃ de', Blk wz g 61 (jA d vp V.pr V.sz la de') ∧ (ee ≠ 7 → de' = false)) ∧ Grown w7 wz fun k => k = g) ?_ ?_
 ·refine (told_gen g d vp V.pr V.sz ee la false w7 J7.out).mono ?_
  rintro e wz ⟨rfl, h1, h2⟩
  exact ⟨_, rfl, rfl, h1, h2⟩
 rintro vz w8 ⟨rfl, ⟨de8, h1, h1'⟩, h2⟩
 have J8 := Keep.mk h1
 have HE8 := Keep.mk h1'
 have hgt : ∀ {k : Nat} {T : TypeId}, Typ w7 k T → T ≠ 61 → ¬ k = g := fun hk hT e => by subst e; exact hT (hk.one J7.out.typ)
 have D8 : Keep (DskAt w8 p vf7 cs7 DA) := ⟨D7.out.grown h2 fun k hk => by rcases hk with h | h | h <;> exact hgt h (by decide)⟩
 have Q8 : Keep (Blk w8 q 79 #[.int .i64 (k : Int), .int .i64 a]) := ⟨h2.blk Q7.out (hgt Q7.out.typ (by decide))⟩
 have P8 : Keep (OwnP w8 vp V.pl) := ⟨P7.out.grown h2 fun k hk => hgt (P7.out.typ hk) (by decide)⟩
 have G8 : Keep (Grown w0 w8 N) := ⟨G7.out.trans (h2.mono fun k _ e => HN.out k (.inr (.inl e)))⟩
 clear h1 h1' h2 hgt
 refine hK _ _ (HSx.out _ _ J8.out Q8.out) fun hH8 => ?_
 clear hK
 simp only [Act.put, pqA, pqB, pqC]
 refine tkS (i := 12) (oi := ⟨some 7, Op.assign (Operand.tmp 69), 24, _, _, none⟩) (v := .int .i64 ee) rfl (Or.inl ⟨by rfl, fun w hS => by obtain ⟨hS1, hS2⟩ := hS; go_simp⟩) hH8 ?_
 refine wpAnyH_done (by kernel_rfl) ?_ _
 refine hK1 _ _ ?_
 refine wp_seq_k fun K2 hK2 => ?_
 refine wp_seq_k fun K3 hK3 => ?_
 rcases Decidable.em (D.fuse = 0) with hfu | hfu
 ·have he : ee = 7 := by rw [hee.out]; unfold pw; rw [if_pos hfu]
  subst he
  refine rgn ?_
  refine VlS (.int .i64 7) ?_
  refine VlS (.bool false) ?_
  refine WL.nil (hK3 _ _ ?_)
  refine wp_cond_false rfl ?_
  refine wp_skip ?_
  refine hK2 _ _ ?_
  refine wp_seq_k fun K4 hK4 => ?_
  refine wp_seq_k fun K5 hK5 => rgn ?_
  refine VlS (.int .i64 7) ?_
  refine VlS (.bool true) ?_
  refine WL.nil (hK5 _ _ ?_)
  refine wp_cond_true rfl ?_
  refine wp_seq_k fun K6 hK6 => rgn ?_
  refine VlS (.int .i64 7) ?_
  refine VlS (.int .i64 7) ?_
  refine WL.nil (hK6 _ _ ?_)
  refine wp_ret ?_
  go_ret
  exact ⟨7, DA, V, la, de8, rfl, ⟨G8.out.blk HDk0.out Hd.out, vf7, cs7, vp, D8.out, J8.out, P8.out, fun k hk => ⟨by rcases hk with h | h; exact N7.out k h; exact .inl (HN.out k (.inr h)), by rcases hk with h | h | h; exact D8.out.sLt h; rw [h]; exact J8.out.lt; exact (P8.out.typ h).lt⟩⟩, G8.out, HAc.out, .inr (.inl ⟨rfl, HCr.out⟩)⟩
 ·have he : ee = 0 := by rw [hee.out]; unfold pw; rw [if_neg hfu]
  subst he
  have hde : de8 = false := HE8.out (by decide)
  subst hde
  have HJX := Keep.mk (HOk.out hfu)
  clear HE8
  refine rgn ?_
  refine VlS (.int .i64 0) ?_
  refine VlS (.bool false) ?_
  refine WL.nil (hK3 _ _ ?_)
  refine wp_cond_false rfl ?_
  refine wp_skip ?_
  refine hK2 _ _ ?_
  refine wp_seq_k fun K7 hK7 => ?_
  refine wp_seq_k fun K8 hK8 => rgn ?_
  refine VlS (.int .i64 0) ?_
  refine VlS (.bool false) ?_
  refine WL.nil (hK8 _ _ ?_)
  refine wp_cond_false rfl ?_
  refine wp_skip ?_
  refine hK7 _ _ ?_
  refine wp_seq_k fun K9 hK9 => ?_
  have J9 : Keep (Blk w8.drew g 61 (jA d vp V.pr V.sz la false)) := ⟨J8.out.drew⟩
  have D9 : Keep (DskAt w8.drew p vf7 cs7 DA) := ⟨D8.out.grown (Grown.refl w8 (fun _ => False)).drew fun _ _ h => h⟩
  have Q9 : Keep (Blk w8.drew q 79 #[.int .i64 (k : Int), .int .i64 a]) := ⟨Q8.out.drew⟩
  have P9 : Keep (OwnP w8.drew vp V.pl) := ⟨P8.out⟩
  have G9 : Keep (Grown w0 w8.drew N) := ⟨G8.out.drew⟩
  clear J8 D8 Q8 P8 G8 J7 D7 Q7 P7 G7
  obtain ⟨pa, pc, hvp⟩ := P9.out.sl
  subst hvp
  obtain ⟨pn, hpn⟩ : ∃ z, Keep (z = V.pl.length) := ⟨_, ⟨rfl⟩⟩
  rw [← hpn.out] at J9 P9 HN
  refine wp_region_held_drew (S := fun wx => Blk wx q 79 #[.int .i64 (k : Int), .int .i64 a]) (by kernel_rfl) Q9.out (fun hHeld => ?_)
  generalize w8.drew = w9 at *
  refine tkS (i := 0) (oi := ⟨some 75, Op.move (Operand.tmp 0), 22, _, _, none⟩) (v := .pointer (some ⟨g, 0, none⟩)) rfl (Or.inl ⟨by rfl, fun w hS => by go_simp⟩) hHeld ?_
  refine tkS (i := 1) (oi := ⟨some 76, Op.move (Operand.tmp 0), 22, _, _, none⟩) (v := .pointer (some ⟨g, 0, none⟩)) rfl (Or.inl ⟨by rfl, fun w hS => by go_simp⟩) hHeld ?_
  refine tkS (i := 2) (oi := ⟨some 77, Op.nilCheck (Operand.tmp 76), 0, _, _, none⟩) (v := .pointer (some ⟨g, 0, none⟩)) rfl (Or.inl ⟨by rfl, fun w hS => by go_simp⟩) hHeld ?_
  refine tkS (i := 3) (oi := ⟨some 78, Op.fieldAddr 61 (Operand.tmp 77) 1, 0, _, _, none⟩) (v := .pointer (some ⟨g, 1, none⟩)) rfl (Or.inl ⟨by rfl, fun w hS => by go_simp⟩) hHeld ?_
  refine tkS (i := 5) (oi := ⟨some 80, Op.load 79 (Operand.tmp 5), 79, _, _, none⟩) (v := .agg #[.int .i64 (k : Int), .int .i64 a]) rfl (yieldsIf_load_mid (by rfl) 79 (.tmp 5) rfl q 0 rfl (#[.int .i64 (k : Int), .int .i64 a] : Array Value).toList _ (fun w hS => blk_range hS) Tryd.underlying79 rfl (by kernel_rfl)) hHeld ?_
  refine wpAnyH_ready (rs := [4, 6]) (by kernel_rfl) (by simp) ?_
  refine AllReadyH.cons (o := ⟨some 79, Op.load 59 (Operand.tmp 78), 59, _, _, none⟩) rfl (fun K hK => ?_) (AllReadyH.cons (o := ⟨some 81, Op.buildSlice 59 1 #[(0, Operand.tmp 80)], 59, _, _, none⟩) rfl (fun K hK => ?_) AllReadyH.nil)
  rw [if_pos (by rfl)]
  have cl : w9.cell? ⟨g, 1, none⟩ = some (.slice pa pn pc) := J9.out.c 1 rfl
  refine wp_val (.slice pa pn pc) (by go_simp) ?_
  clear cl
  refine hK _ _ (Q9.out) fun hL9 => ?_
  clear hK
  simp only [Act.put, pqA, pqB, pqC]
  refine wpAnyH_ready (rs := [6]) (by kernel_rfl) (by simp) ?_
  refine AllReadyH.cons (o := ⟨some 81, Op.buildSlice 59 1 #[(0, Operand.tmp 80)], 59, _, _, none⟩) rfl (fun K hK => ?_) AllReadyH.nil
  rw [if_pos (by rfl)]
  refine wp_bs 59 1 _ rfl #[(0, .agg #[.int .i64 (k : Int), .int .i64 a])] (by simp [Act.eval]) _ _ (bsP (k : Int) a w9) ?_
  have hbx := below_new w9 (.cells #[.int .i64 (k : Int), .int .i64 a] 79)
  have HN10 := Keep.mk (Blk.new w9 79 #[.int .i64 (k : Int), .int .i64 a])
  have J10 := Keep.mk (J9.out.below hbx J9.out.lt)
  have Q10 := Keep.mk (Q9.out.below hbx Q9.out.lt)
  have P10 := Keep.mk (P9.out.grown (Grown.below (S := fun _ => False) hbx) fun _ _ h => h)
  have D10 := Keep.mk (D9.out.below hbx)
  have G10 : Keep (Grown w0 (w9.alloc (.cells #[.int .i64 (k : Int), .int .i64 a] 79)) N) := ⟨G9.out.trans (Grown.below hbx)⟩
  clear hbx
  generalize w9.alloc (.cells #[.int .i64 (k : Int), .int .i64 a] 79) = w10 at *
  obtain ⟨g9, hg9⟩ : ∃ p, Keep (p = w9.heap.size) := ⟨_, ⟨rfl⟩⟩
  rw [← hg9.out] at HN10 ⊢
  refine hK _ _ (Q10.out) fun hB10 => ?_
  clear hK
  simp only [Act.put, pqA, pqB, pqC]
  refine wpAnyH_ready (rs := [7]) (by kernel_rfl) (by simp) ?_
  refine AllReadyH.cons (o := ⟨some 82, Op.call { callee := Callee.builtin Builtin.append, args := #[Operand.tmp 79, Operand.tmp 81], argTypes := #[59, 59] }, 59, _, _, none⟩) rfl (fun K hK => ?_) AllReadyH.nil
  rw [if_pos (by rfl)]
  refine wp_appP (.tmp 79) (.tmp 81) rfl (.slice pa pn pc) V.pl g9 1 ((k : Int), a) rfl rfl P10.out HN10.out (by have := HPn.out; omega) fun v11 w11 h1 h2 h3 => ?_
  have hne : ∀ {k : Nat} {T : TypeId}, Typ w10 k T → T ≠ 79 → ¬ (Value.slice pa pn pc).ownBlock = some k := fun hk hT e => hT (hk.one (P10.out.typ e))
  have P11 := Keep.mk h1
  have M11 : Keep (∀ k, v11.ownBlock = some k → (Value.slice pa pn pc).ownBlock = some k ∨ w0.heap.size ≤ k) := ⟨fun k hk => by rcases h3 with e | ⟨j, e, hj⟩ <;> rw [hk] at e; exact .inl e.symm; right; have := Option.some.inj e; have := G10.out.size; omega⟩
  have J11 : Keep (Blk w11 g 61 (jA d (.slice pa pn pc) V.pr V.sz la false)) := ⟨h2.blk J10.out (hne J10.out.typ (by decide))⟩
  have Q11 : Keep (Blk w11 q 79 #[.int .i64 (k : Int), .int .i64 a]) := ⟨h2.blk Q10.out fun e => by have h1 := HNl.out q (HN.out q (.inr (.inr e))); have h2 := Hq.out; omega⟩
  have D11 : Keep (DskAt w11 p vf7 cs7 DA) := ⟨D10.out.grown h2 fun k hk => by rcases hk with h | h | h <;> exact hne h (by decide)⟩
  have G11 : Keep (Grown w0 w11 N) := ⟨G10.out.next h2 fun k _ e => HN.out k (.inr (.inr e))⟩
  clear h1 h2 h3 hne
  obtain ⟨a11, n11, c11, e11⟩ : ∃ a n c, v11 = .slice a n c := by obtain ⟨a, c, e⟩ := P11.out.sl; exact ⟨_, _, _, e⟩
  subst e11
  refine hK _ _ (Q11.out) fun hA11 => ?_
  clear hK
  simp only [Act.put, pqA, pqB, pqC]
  refine tkS (i := 8) (oi := ⟨some 83, Op.nilCheck (Operand.tmp 75), 0, _, _, none⟩) (v := .pointer (some ⟨g, 0, none⟩)) rfl (Or.inl ⟨by rfl, fun w hS => by go_simp⟩) hA11 ?_
  refine tkS (i := 9) (oi := ⟨some 84, Op.fieldAddr 61 (Operand.tmp 83) 1, 0, _, _, none⟩) (v := .pointer (some ⟨g, 1, none⟩)) rfl (Or.inl ⟨by rfl, fun w hS => by go_simp⟩) hA11 ?_
  refine wpAnyH_ready (rs := [10]) (by kernel_rfl) (by simp) ?_
  refine AllReadyH.cons (o := ⟨none, Op.store 59 (Operand.tmp 84) (Operand.tmp 82), 0, _, _, none⟩) rfl (fun K hK => ?_) AllReadyH.nil
  rw [if_pos (by rfl)]
  have f_o := J11.out.frozen 1
  have cl : w11.cell? ⟨g, 1, none⟩ = some (.slice pa pn pc) := J11.out.c 1 rfl
  refine wp_cellS (w11.setCell ⟨g, 1, none⟩ (.slice a11 n11 c11)) (by go_simp) ?_
  clear f_o cl
  have hgs : Grown w11 (w11.setCell ⟨g, 1, none⟩ (.slice a11 n11 c11)) fun k => k = g := Grown.setCell w11 g 1 _ fun _ => rfl
  have hgt : ∀ {k : Nat} {T : TypeId}, Typ w11 k T → T ≠ 61 → ¬ k = g := fun hk hT e => by subst e; exact hT (hk.one J11.out.typ)
  have J12 : Keep (Blk (w11.setCell ⟨g, 1, none⟩ (.slice a11 n11 c11)) g 61 (jA d (.slice a11 n11 c11) V.pr V.sz la false)) := ⟨J11.out.set 1 (.slice a11 n11 c11)⟩
  have Q12 : Keep (Blk (w11.setCell ⟨g, 1, none⟩ (.slice a11 n11 c11)) q 79 #[.int .i64 (k : Int), .int .i64 a]) := ⟨hgs.blk Q11.out (hgt Q11.out.typ (by decide))⟩
  have P12 : Keep (OwnP (w11.setCell ⟨g, 1, none⟩ (.slice a11 n11 c11)) (.slice a11 n11 c11) (V.pl ++ [((k : Int), a)])) := ⟨P11.out.grown hgs fun k hk => hgt (P11.out.typ hk) (by decide)⟩
  have D12 : Keep (DskAt (w11.setCell ⟨g, 1, none⟩ (.slice a11 n11 c11)) p vf7 cs7 DA) := ⟨D11.out.grown hgs fun k hk => by rcases hk with h | h | h <;> exact hgt h (by decide)⟩
  have G12 : Keep (Grown w0 (w11.setCell ⟨g, 1, none⟩ (.slice a11 n11 c11)) N) := ⟨G11.out.trans (hgs.mono fun k _ e => HN.out k (.inr (.inl e)))⟩
  clear hgs hgt J11 Q11 P11 D11 G11 J10 Q10 P10 D10 G10 J9 Q9 P9 D9 G9 HN10 hg9
  generalize (w11.setCell ⟨g, 1, none⟩ (.slice a11 n11 c11)) = w12 at *
  refine hK _ _ (Q12.out) fun hS12 => ?_
  clear hK
  simp only [Act.put, pqA, pqB, pqC]
  refine wpAnyH_done (by kernel_rfl) ?_ _
  rotate_left
  rw [if_pos (by rfl)]
  refine wp_bs 59 1 _ rfl #[(0, .agg #[.int .i64 (k : Int), .int .i64 a])] (by simp [Act.eval]) _ _ (bsP (k : Int) a w9) ?_
  have hbx := below_new w9 (.cells #[.int .i64 (k : Int), .int .i64 a] 79)
  have HN10 := Keep.mk (Blk.new w9 79 #[.int .i64 (k : Int), .int .i64 a])
  have J10 := Keep.mk (J9.out.below hbx J9.out.lt)
  have Q10 := Keep.mk (Q9.out.below hbx Q9.out.lt)
  have P10 := Keep.mk (P9.out.grown (Grown.below (S := fun _ => False) hbx) fun _ _ h => h)
  have D10 := Keep.mk (D9.out.below hbx)
  have G10 : Keep (Grown w0 (w9.alloc (.cells #[.int .i64 (k : Int), .int .i64 a] 79)) N) := ⟨G9.out.trans (Grown.below hbx)⟩
  clear hbx
  generalize w9.alloc (.cells #[.int .i64 (k : Int), .int .i64 a] 79) = w10 at *
  obtain ⟨g9, hg9⟩ : ∃ p, Keep (p = w9.heap.size) := ⟨_, ⟨rfl⟩⟩
  rw [← hg9.out] at HN10 ⊢
  refine hK _ _ (Q10.out) fun hB10 => ?_
  clear hK
  simp only [Act.put, pqA, pqB, pqC]
  refine wpAnyH_ready (rs := [4]) (by kernel_rfl) (by simp) ?_
  refine AllReadyH.cons (o := ⟨some 79, Op.load 59 (Operand.tmp 78), 59, _, _, none⟩) rfl (fun K hK => ?_) AllReadyH.nil
  rw [if_pos (by rfl)]
  have cl : w10.cell? ⟨g, 1, none⟩ = some (.slice pa pn pc) := J10.out.c 1 rfl
  refine wp_val (.slice pa pn pc) (by go_simp) ?_
  clear cl
  refine hK _ _ (Q10.out) fun hL10 => ?_
  clear hK
  simp only [Act.put, pqA, pqB, pqC]
  refine wpAnyH_ready (rs := [7]) (by kernel_rfl) (by simp) ?_
  refine AllReadyH.cons (o := ⟨some 82, Op.call { callee := Callee.builtin Builtin.append, args := #[Operand.tmp 79, Operand.tmp 81], argTypes := #[59, 59] }, 59, _, _, none⟩) rfl (fun K hK => ?_) AllReadyH.nil
  rw [if_pos (by rfl)]
  refine wp_appP (.tmp 79) (.tmp 81) rfl (.slice pa pn pc) V.pl g9 1 ((k : Int), a) rfl rfl P10.out HN10.out (by have := HPn.out; omega) fun v11 w11 h1 h2 h3 => ?_
  have hne : ∀ {k : Nat} {T : TypeId}, Typ w10 k T → T ≠ 79 → ¬ (Value.slice pa pn pc).ownBlock = some k := fun hk hT e => hT (hk.one (P10.out.typ e))
  have P11 := Keep.mk h1
  have M11 : Keep (∀ k, v11.ownBlock = some k → (Value.slice pa pn pc).ownBlock = some k ∨ w0.heap.size ≤ k) := ⟨fun k hk => by rcases h3 with e | ⟨j, e, hj⟩ <;> rw [hk] at e; exact .inl e.symm; right; have := Option.some.inj e; have := G10.out.size; omega⟩
  have J11 : Keep (Blk w11 g 61 (jA d (.slice pa pn pc) V.pr V.sz la false)) := ⟨h2.blk J10.out (hne J10.out.typ (by decide))⟩
  have Q11 : Keep (Blk w11 q 79 #[.int .i64 (k : Int), .int .i64 a]) := ⟨h2.blk Q10.out fun e => by have h1 := HNl.out q (HN.out q (.inr (.inr e))); have h2 := Hq.out; omega⟩
  have D11 : Keep (DskAt w11 p vf7 cs7 DA) := ⟨D10.out.grown h2 fun k hk => by rcases hk with h | h | h <;> exact hne h (by decide)⟩
  have G11 : Keep (Grown w0 w11 N) := ⟨G10.out.next h2 fun k _ e => HN.out k (.inr (.inr e))⟩
  clear h1 h2 h3 hne
  obtain ⟨a11, n11, c11, e11⟩ : ∃ a n c, v11 = .slice a n c := by obtain ⟨a, c, e⟩ := P11.out.sl; exact ⟨_, _, _, e⟩
  subst e11
  refine hK _ _ (Q11.out) fun hA11 => ?_
  clear hK
  simp only [Act.put, pqA, pqB, pqC]
  refine tkS (i := 8) (oi := ⟨some 83, Op.nilCheck (Operand.tmp 75), 0, _, _, none⟩) (v := .pointer (some ⟨g, 0, none⟩)) rfl (Or.inl ⟨by rfl, fun w hS => by go_simp⟩) hA11 ?_
  refine tkS (i := 9) (oi := ⟨some 84, Op.fieldAddr 61 (Operand.tmp 83) 1, 0, _, _, none⟩) (v := .pointer (some ⟨g, 1, none⟩)) rfl (Or.inl ⟨by rfl, fun w hS => by go_simp⟩) hA11 ?_
  refine wpAnyH_ready (rs := [10]) (by kernel_rfl) (by simp) ?_
  refine AllReadyH.cons (o := ⟨none, Op.store 59 (Operand.tmp 84) (Operand.tmp 82), 0, _, _, none⟩) rfl (fun K hK => ?_) AllReadyH.nil
  rw [if_pos (by rfl)]
  have f_o := J11.out.frozen 1
  have cl : w11.cell? ⟨g, 1, none⟩ = some (.slice pa pn pc) := J11.out.c 1 rfl
  refine wp_cellS (w11.setCell ⟨g, 1, none⟩ (.slice a11 n11 c11)) (by go_simp) ?_
  clear f_o cl
  have hgs : Grown w11 (w11.setCell ⟨g, 1, none⟩ (.slice a11 n11 c11)) fun k => k = g := Grown.setCell w11 g 1 _ fun _ => rfl
  have hgt : ∀ {k : Nat} {T : TypeId}, Typ w11 k T → T ≠ 61 → ¬ k = g := fun hk hT e => by subst e; exact hT (hk.one J11.out.typ)
  have J12 : Keep (Blk (w11.setCell ⟨g, 1, none⟩ (.slice a11 n11 c11)) g 61 (jA d (.slice a11 n11 c11) V.pr V.sz la false)) := ⟨J11.out.set 1 (.slice a11 n11 c11)⟩
  have Q12 : Keep (Blk (w11.setCell ⟨g, 1, none⟩ (.slice a11 n11 c11)) q 79 #[.int .i64 (k : Int), .int .i64 a]) := ⟨hgs.blk Q11.out (hgt Q11.out.typ (by decide))⟩
  have P12 : Keep (OwnP (w11.setCell ⟨g, 1, none⟩ (.slice a11 n11 c11)) (.slice a11 n11 c11) (V.pl ++ [((k : Int), a)])) := ⟨P11.out.grown hgs fun k hk => hgt (P11.out.typ hk) (by decide)⟩
  have D12 : Keep (DskAt (w11.setCell ⟨g, 1, none⟩ (.slice a11 n11 c11)) p vf7 cs7 DA) := ⟨D11.out.grown hgs fun k hk => by rcases hk with h | h | h <;> exact hgt h (by decide)⟩
  have G12 : Keep (Grown w0 (w11.setCell ⟨g, 1, none⟩ (.slice a11 n11 c11)) N) := ⟨G11.out.trans (hgs.mono fun k _ e => HN.out k (.inr (.inl e)))⟩
  clear hgs hgt J11 Q11 P11 D11 G11 J10 Q10 P10 D10 G10 J9 Q9 P9 D9 G9 HN10 hg9
  generalize (w11.setCell ⟨g, 1, none⟩ (.slice a11 n11 c11)) = w12 at *
  refine hK _ _ (Q12.out) fun hS12 => ?_
  clear hK
  simp only [Act.put, pqA, pqB, pqC]
  refine wpAnyH_done (by kernel_rfl) ?_ _
  rotate_left
  all_goals
   refine hK9 _ _ ?_
   refine wp_seq_k fun K11 hK11 => ?_
   have J13 : Keep (Blk w12.drew g 61 (jA d (.slice a11 n11 c11) V.pr V.sz la false)) := ⟨J12.out.drew⟩
   have Q13 : Keep (Blk w12.drew q 79 #[.int .i64 (k : Int), .int .i64 a]) := ⟨Q12.out.drew⟩
   have P13 : Keep (OwnP w12.drew (.slice a11 n11 c11) (V.pl ++ [((k : Int), a)])) := ⟨P12.out⟩
   have D13 : Keep (DskAt w12.drew p vf7 cs7 DA) := ⟨D12.out.grown (Grown.refl w12 (fun _ => False)).drew fun _ _ h => h⟩
   have G13 : Keep (Grown w0 w12.drew N) := ⟨G12.out.drew⟩
   have hw1 : IntKind.i64.wrap (a + 16) = a + 16 := by rw [IntKind.wrap_i64]; have := Ha.out; omega
   have hw2 : IntKind.i64.wrap (a + 16 + (l.length : Int)) = a + 16 + (l.length : Int) := by rw [IntKind.wrap_i64]; have := Ha.out; have := HPo.out.2; omega
   clear J12 Q12 P12 D12 G12
   refine wp_region_held_drew (S := fun wx => Blk wx q 79 #[.int .i64 (k : Int), .int .i64 a]) (by kernel_rfl) Q13.out (fun hHeld => ?_)
   generalize w12.drew = w13 at *
   refine tkS (i := 0) (oi := ⟨some 85, Op.move (Operand.tmp 0), 22, _, _, none⟩) (v := .pointer (some ⟨g, 0, none⟩)) rfl (Or.inl ⟨by rfl, fun w hS => by have q0 := hS.c 0 (by rfl : (#[.int .i64 (k : Int), .int .i64 a] : Array Value)[0]? = some (.int .i64 (k : Int))); have q1 := hS.c 1 (by rfl : (#[.int .i64 (k : Int), .int .i64 a] : Array Value)[1]? = some (.int .i64 a)); go_simp⟩) hHeld ?_
   refine tkS (i := 1) (oi := ⟨some 86, Op.move (Operand.tmp 0), 22, _, _, none⟩) (v := .pointer (some ⟨g, 0, none⟩)) rfl (Or.inl ⟨by rfl, fun w hS => by have q0 := hS.c 0 (by rfl : (#[.int .i64 (k : Int), .int .i64 a] : Array Value)[0]? = some (.int .i64 (k : Int))); have q1 := hS.c 1 (by rfl : (#[.int .i64 (k : Int), .int .i64 a] : Array Value)[1]? = some (.int .i64 a)); go_simp⟩) hHeld ?_
   refine tkS (i := 2) (oi := ⟨some 87, Op.fieldAddr 79 (Operand.tmp 5) 0, 0, _, _, none⟩) (v := .pointer (some ⟨q, 0, none⟩)) rfl (Or.inl ⟨by rfl, fun w hS => by have q0 := hS.c 0 (by rfl : (#[.int .i64 (k : Int), .int .i64 a] : Array Value)[0]? = some (.int .i64 (k : Int))); have q1 := hS.c 1 (by rfl : (#[.int .i64 (k : Int), .int .i64 a] : Array Value)[1]? = some (.int .i64 a)); go_simp⟩) hHeld ?_
   refine tkS (i := 3) (oi := ⟨some 88, Op.load 3 (Operand.tmp 87), 3, _, _, none⟩) (v := .int .i64 (k : Int)) rfl (Or.inl ⟨by rfl, fun w hS => by have q0 := hS.c 0 (by rfl : (#[.int .i64 (k : Int), .int .i64 a] : Array Value)[0]? = some (.int .i64 (k : Int))); have q1 := hS.c 1 (by rfl : (#[.int .i64 (k : Int), .int .i64 a] : Array Value)[1]? = some (.int .i64 a)); go_simp⟩) hHeld ?_
   refine tkS (i := 4) (oi := ⟨some 89, Op.fieldAddr 79 (Operand.tmp 5) 1, 0, _, _, none⟩) (v := .pointer (some ⟨q, 1, none⟩)) rfl (Or.inl ⟨by rfl, fun w hS => by have q0 := hS.c 0 (by rfl : (#[.int .i64 (k : Int), .int .i64 a] : Array Value)[0]? = some (.int .i64 (k : Int))); have q1 := hS.c 1 (by rfl : (#[.int .i64 (k : Int), .int .i64 a] : Array Value)[1]? = some (.int .i64 a)); go_simp⟩) hHeld ?_
   refine tkS (i := 5) (oi := ⟨some 90, Op.load 3 (Operand.tmp 89), 3, _, _, none⟩) (v := .int .i64 a) rfl (Or.inl ⟨by rfl, fun w hS => by have q0 := hS.c 0 (by rfl : (#[.int .i64 (k : Int), .int .i64 a] : Array Value)[0]? = some (.int .i64 (k : Int))); have q1 := hS.c 1 (by rfl : (#[.int .i64 (k : Int), .int .i64 a] : Array Value)[1]? = some (.int .i64 a)); go_simp⟩) hHeld ?_
   refine tkS (i := 6) (oi := ⟨some 91, Op.binOp BinOp.add 3 (Operand.tmp 90) (Operand.const (Value.int IntKind.i64 16)) 3, 3, _, _, none⟩) (v := .int .i64 (a + 16)) rfl (Or.inl ⟨by rfl, fun w hS => by have q0 := hS.c 0 (by rfl : (#[.int .i64 (k : Int), .int .i64 a] : Array Value)[0]? = some (.int .i64 (k : Int))); have q1 := hS.c 1 (by rfl : (#[.int .i64 (k : Int), .int .i64 a] : Array Value)[1]? = some (.int .i64 a)); go_simp⟩) hHeld ?_
   refine tkS (i := 7) (oi := ⟨some 92, Op.move (Operand.tmp 1), 37, _, _, none⟩) (v := .slice ba l.length bc) rfl (Or.inl ⟨by rfl, fun w hS => by have q0 := hS.c 0 (by rfl : (#[.int .i64 (k : Int), .int .i64 a] : Array Value)[0]? = some (.int .i64 (k : Int))); have q1 := hS.c 1 (by rfl : (#[.int .i64 (k : Int), .int .i64 a] : Array Value)[1]? = some (.int .i64 a)); go_simp⟩) hHeld ?_
   refine tkS (i := 8) (oi := ⟨some 93, Op.call { callee := Callee.builtin Builtin.len, args := #[Operand.tmp 92], argTypes := #[37] }, 3, _, _, none⟩) (v := .int .i64 (l.length : Int)) rfl (Or.inl ⟨by rfl, fun w hS => by have q0 := hS.c 0 (by rfl : (#[.int .i64 (k : Int), .int .i64 a] : Array Value)[0]? = some (.int .i64 (k : Int))); have q1 := hS.c 1 (by rfl : (#[.int .i64 (k : Int), .int .i64 a] : Array Value)[1]? = some (.int .i64 a)); go_simp⟩) hHeld ?_
   refine tkS (i := 9) (oi := ⟨some 94, Op.binOp BinOp.add 3 (Operand.tmp 91) (Operand.tmp 93) 3, 3, _, _, none⟩) (v := .int .i64 (a + 16 + (l.length : Int))) rfl (Or.inl ⟨by rfl, fun w hS => by have q0 := hS.c 0 (by rfl : (#[.int .i64 (k : Int), .int .i64 a] : Array Value)[0]? = some (.int .i64 (k : Int))); have q1 := hS.c 1 (by rfl : (#[.int .i64 (k : Int), .int .i64 a] : Array Value)[1]? = some (.int .i64 a)); go_simp⟩) hHeld ?_
   refine tkS (i := 10) (oi := ⟨some 95, Op.nilCheck (Operand.tmp 85), 0, _, _, none⟩) (v := .pointer (some ⟨g, 0, none⟩)) rfl (Or.inl ⟨by rfl, fun w hS => by have q0 := hS.c 0 (by rfl : (#[.int .i64 (k : Int), .int .i64 a] : Array Value)[0]? = some (.int .i64 (k : Int))); have q1 := hS.c 1 (by rfl : (#[.int .i64 (k : Int), .int .i64 a] : Array Value)[1]? = some (.int .i64 a)); go_simp⟩) hHeld ?_
   refine tkS (i := 11) (oi := ⟨some 96, Op.fieldAddr 61 (Operand.tmp 95) 2, 0, _, _, none⟩) (v := .pointer (some ⟨g, 2, none⟩)) rfl (Or.inl ⟨by rfl, fun w hS => by have q0 := hS.c 0 (by rfl : (#[.int .i64 (k : Int), .int .i64 a] : Array Value)[0]? = some (.int .i64 (k : Int))); have q1 := hS.c 1 (by rfl : (#[.int .i64 (k : Int), .int .i64 a] : Array Value)[1]? = some (.int .i64 a)); go_simp⟩) hHeld ?_
   refine wpAnyH_ready (rs := [12]) (by kernel_rfl) (by simp) ?_
   refine AllReadyH.cons (o := ⟨none, Op.store 3 (Operand.tmp 96) (Operand.tmp 88), 0, _, _, none⟩) rfl (fun K hK => ?_) AllReadyH.nil
   rw [if_pos (by rfl)]
   have f_o := J13.out.frozen 2
   have cl : w13.cell? ⟨g, 2, none⟩ = some (.int .i64 V.pr) := J13.out.c 2 rfl
   refine wp_cellS (w13.setCell ⟨g, 2, none⟩ (.int .i64 (k : Int))) (by go_simp) ?_
   clear f_o cl
   have hgs : Grown w13 (w13.setCell ⟨g, 2, none⟩ (.int .i64 (k : Int))) fun k => k = g := Grown.setCell w13 g 2 _ fun _ => rfl
   have hgt : ∀ {k : Nat} {T : TypeId}, Typ w13 k T → T ≠ 61 → ¬ k = g := fun hk hT e => by subst e; exact hT (hk.one J13.out.typ)
   have J14 : Keep (Blk (w13.setCell ⟨g, 2, none⟩ (.int .i64 (k : Int))) g 61 (jA d (.slice a11 n11 c11) (k : Int) V.sz la false)) := ⟨J13.out.set 2 (.int .i64 (k : Int))⟩
   have Q14 : Keep (Blk (w13.setCell ⟨g, 2, none⟩ (.int .i64 (k : Int))) q 79 #[.int .i64 (k : Int), .int .i64 a]) := ⟨hgs.blk Q13.out (hgt Q13.out.typ (by decide))⟩
   have P14 : Keep (OwnP (w13.setCell ⟨g, 2, none⟩ (.int .i64 (k : Int))) (.slice a11 n11 c11) (V.pl ++ [((k : Int), a)])) := ⟨P13.out.grown hgs fun k hk => hgt (P13.out.typ hk) (by decide)⟩
   have D14 : Keep (DskAt (w13.setCell ⟨g, 2, none⟩ (.int .i64 (k : Int))) p vf7 cs7 DA) := ⟨D13.out.grown hgs fun k hk => by rcases hk with h | h | h <;> exact hgt h (by decide)⟩
   have G14 : Keep (Grown w0 (w13.setCell ⟨g, 2, none⟩ (.int .i64 (k : Int))) N) := ⟨G13.out.trans (hgs.mono fun k _ e => HN.out k (.inr (.inl e)))⟩
   clear hgs hgt J13 Q13 P13 D13 G13
   generalize (w13.setCell ⟨g, 2, none⟩ (.int .i64 (k : Int))) = w14 at *
   refine hK _ _ (Q14.out) fun hS14 => ?_
   clear hK
   simp only [Act.put, pqA, pqB, pqC]
   refine tkS (i := 13) (oi := ⟨some 97, Op.nilCheck (Operand.tmp 86), 0, _, _, none⟩) (v := .pointer (some ⟨g, 0, none⟩)) rfl (Or.inl ⟨by rfl, fun w hS => by have q0 := hS.c 0 (by rfl : (#[.int .i64 (k : Int), .int .i64 a] : Array Value)[0]? = some (.int .i64 (k : Int))); have q1 := hS.c 1 (by rfl : (#[.int .i64 (k : Int), .int .i64 a] : Array Value)[1]? = some (.int .i64 a)); go_simp⟩) hS14 ?_
   refine tkS (i := 14) (oi := ⟨some 98, Op.fieldAddr 61 (Operand.tmp 97) 3, 0, _, _, none⟩) (v := .pointer (some ⟨g, 3, none⟩)) rfl (Or.inl ⟨by rfl, fun w hS => by have q0 := hS.c 0 (by rfl : (#[.int .i64 (k : Int), .int .i64 a] : Array Value)[0]? = some (.int .i64 (k : Int))); have q1 := hS.c 1 (by rfl : (#[.int .i64 (k : Int), .int .i64 a] : Array Value)[1]? = some (.int .i64 a)); go_simp⟩) hS14 ?_
   refine wpAnyH_ready (rs := [15]) (by kernel_rfl) (by simp) ?_
   refine AllReadyH.cons (o := ⟨none, Op.store 3 (Operand.tmp 98) (Operand.tmp 94), 0, _, _, none⟩) rfl (fun K hK => ?_) AllReadyH.nil
   rw [if_pos (by rfl)]
   have f_o := J14.out.frozen 3
   have cl : w14.cell? ⟨g, 3, none⟩ = some (.int .i64 V.sz) := J14.out.c 3 rfl
   refine wp_cellS (w14.setCell ⟨g, 3, none⟩ (.int .i64 (a + 16 + (l.length : Int)))) (by go_simp) ?_
   clear f_o cl
   have hgs : Grown w14 (w14.setCell ⟨g, 3, none⟩ (.int .i64 (a + 16 + (l.length : Int)))) fun k => k = g := Grown.setCell w14 g 3 _ fun _ => rfl
   have hgt : ∀ {k : Nat} {T : TypeId}, Typ w14 k T → T ≠ 61 → ¬ k = g := fun hk hT e => by subst e; exact hT (hk.one J14.out.typ)
   have J15 : Keep (Blk (w14.setCell ⟨g, 3, none⟩ (.int .i64 (a + 16 + (l.length : Int)))) g 61 (jA d (.slice a11 n11 c11) (k : Int) (a + 16 + (l.length : Int)) la false)) := ⟨J14.out.set 3 (.int .i64 (a + 16 + (l.length : Int)))⟩
   have Q15 : Keep (Blk (w14.setCell ⟨g, 3, none⟩ (.int .i64 (a + 16 + (l.length : Int)))) q 79 #[.int .i64 (k : Int), .int .i64 a]) := ⟨hgs.blk Q14.out (hgt Q14.out.typ (by decide))⟩
   have P15 : Keep (OwnP (w14.setCell ⟨g, 3, none⟩ (.int .i64 (a + 16 + (l.length : Int)))) (.slice a11 n11 c11) (V.pl ++ [((k : Int), a)])) := ⟨P14.out.grown hgs fun k hk => hgt (P14.out.typ hk) (by decide)⟩
   have D15 : Keep (DskAt (w14.setCell ⟨g, 3, none⟩ (.int .i64 (a + 16 + (l.length : Int)))) p vf7 cs7 DA) := ⟨D14.out.grown hgs fun k hk => by rcases hk with h | h | h <;> exact hgt h (by decide)⟩
   have G15 : Keep (Grown w0 (w14.setCell ⟨g, 3, none⟩ (.int .i64 (a + 16 + (l.length : Int)))) N) := ⟨G14.out.trans (hgs.mono fun k _ e => HN.out k (.inr (.inl e)))⟩
   clear hgs hgt J14 Q14 P14 D14 G14
   generalize (w14.setCell ⟨g, 3, none⟩ (.int .i64 (a + 16 + (l.length : Int)))) = w15 at *
   refine hK _ _ (Q15.out) fun hS15 => ?_
   clear hK
   simp only [Act.put, pqA, pqB, pqC]
   refine wpAnyH_done (by kernel_rfl) ?_ _
   refine hK11 _ _ ?_
   refine wp_seq_k fun K12 hK12 => rgn ?_
   refine VlS (.pointer (some ⟨g, 0, none⟩)) ?_
   refine VlS (.pointer (some ⟨g, 0, none⟩)) ?_
   refine VlS (.pointer (some ⟨g, 4, none⟩)) ?_
   have f_o := J15.out.frozen 4
   have cl := J15.out.c 4 (by rfl : (jA d (.slice a11 n11 c11) (k : Int) (a + 16 + (l.length : Int)) la false)[4]? = some (.bool la))
   refine WL.cell (by kernel_rfl) (w15.setCell ⟨g, 4, none⟩ (.bool true)) (by go_simp) ?_
   clear f_o cl
   have hgs : Grown w15 (w15.setCell ⟨g, 4, none⟩ (.bool true)) fun k => k = g := Grown.setCell w15 g 4 _ fun _ => rfl
   have hgt : ∀ {k : Nat} {T : TypeId}, Typ w15 k T → T ≠ 61 → ¬ k = g := fun hk hT e => by subst e; exact hT (hk.one J15.out.typ)
   have J16 : Keep (Blk (w15.setCell ⟨g, 4, none⟩ (.bool true)) g 61 (jA d (.slice a11 n11 c11) (k : Int) (a + 16 + (l.length : Int)) true false)) := ⟨J15.out.set 4 (.bool true)⟩
   have P16 : Keep (OwnP (w15.setCell ⟨g, 4, none⟩ (.bool true)) (.slice a11 n11 c11) (V.pl ++ [((k : Int), a)])) := ⟨P15.out.grown hgs fun k hk => hgt (P15.out.typ hk) (by decide)⟩
   have D16 : Keep (DskAt (w15.setCell ⟨g, 4, none⟩ (.bool true)) p vf7 cs7 DA) := ⟨D15.out.grown hgs fun k hk => by rcases hk with h | h | h <;> exact hgt h (by decide)⟩
   have G16 : Keep (Grown w0 (w15.setCell ⟨g, 4, none⟩ (.bool true)) N) := ⟨G15.out.trans (hgs.mono fun k _ e => HN.out k (.inr (.inl e)))⟩
   clear hgs hgt
   generalize (w15.setCell ⟨g, 4, none⟩ (.bool true)) = w16 at *
   simp only [Act.put]
   refine WL.nil (hK12 _ _ ?_)
   refine wp_seq_k fun K13 hK13 => rgn ?_
   refine VlS (.int .i64 0) ?_
   refine WL.nil (hK13 _ _ ?_)
   refine wp_ret ?_
   go_ret
   refine ⟨0, DA, V', true, false, rfl, ⟨G16.out.blk HDk0.out Hd.out, vf7, cs7, .slice a11 n11 c11, D16.out, ?_, ?_, fun k hk => ⟨?_, by rcases hk with h | h | h; exact D16.out.sLt h; rw [h]; exact J16.out.lt; exact (P16.out.typ h).lt⟩⟩, G16.out, HAc.out, .inl ⟨rfl, rfl, HV.out.1, HJX.out⟩⟩
   ·rw [HV.out.2.1, HV.out.2.2.1]; exact J16.out
   ·rw [HV.out.2.2.2]; exact P16.out
   ·rcases hk with h | h | h
    ·exact N7.out k h
    ·exact .inl (HN.out k (.inr (.inl h)))
    ·exact (M11.out k h).imp (fun e => HN.out k (.inr (.inr e))) id
set_option maxRecDepth 8000 in
theorem japp_empty (g d p : Nat) (v : Value) (l : List Int) (D : DV) (V : JV) (la : Bool) (sure : Nat) (N : Nat → Prop) (w : World) (hT : Tab w) (hDN : JDN w g d p D V la false N) (hNl : ∀ k, N k → k < w.heap.size) (hd : ¬ N d) (hX : JX D V la sure) (hA : D.acts ≤ 4611686018427380000) (hR : RowAt w v l) (hRn : l ≠ [] → ∀ k, v.ownBlock = some k → ¬ N k) (hBy : Byts l) (hL : l.length = 0) : Calls Tryd.prog 24 #[ptr g, v] w (JAppPost D V la l sure g d p N w) := by
 obtain ⟨hDk, vf, cs, vp, hD, hJ, hP, hN⟩ := hDN
 obtain ⟨ba, bc, rfl⟩ := row_form hR
 have HT := Keep.mk hT
 have HDk := Keep.mk hDk
 have HD := Keep.mk hD
 have HJ := Keep.mk hJ
 have HP := Keep.mk hP
 have HN := Keep.mk hN
 have HNl := Keep.mk hNl
 have Hd := Keep.mk hd
 have HX := Keep.mk hX
 have HA := Keep.mk hA
 have HR := Keep.mk hR
 have HRn := Keep.mk hRn
 have HBy := Keep.mk hBy
 have HZ : Keep (0 < w.heap.size) := ⟨Nat.lt_of_le_of_lt (Nat.zero_le _) hDk.lt⟩
 have HL := Keep.mk hL
 clear hL
 clear hT hDk hD hJ hP hN hNl hd hX hA hR hRn hBy
 go_enter Tryd.func24, Tryd.ntmps24
 have c5 := HJ.out.c 5 (by rfl : (jA d vp V.pr V.sz la false)[5]? = some (.bool false))
 have hl0 : (l.length : Int) = 0 := by have := HL.out; omega
 have hln : l.length = 0 := HL.out
 refine wp_seq_k fun K1 hK1 => rgn ?_
 refine VlS (.int .i64 0) ?_
 refine WL.nil (hK1 _ _ ?_)
 refine wp_seq_k fun K2 hK2 => ?_
 refine wp_block ?_
 refine wp_seq_k fun K3 hK3 => rgn ?_
 refine VlS (.pointer (some ⟨g, 0, none⟩)) ?_
 refine VlS (.pointer (some ⟨g, 0, none⟩)) ?_
 refine VlS (.pointer (some ⟨g, 5, none⟩)) ?_
 refine VlS (.bool false) ?_
 refine VlS (.bool false) ?_
 refine WL.nil (hK3 _ _ ?_)
 refine wp_cond_false rfl ?_
 refine wp_seq_k fun K4 hK4 => rgn ?_
 refine VlS (.slice ba l.length bc) ?_
 refine VlS (.int .i64 (l.length : Int)) ?_
 refine VlS (.bool true) ?_
 refine VlS (.bool true) ?_
 refine WL.nil (hK4 _ _ ?_)
 refine wp_cond_true rfl ?_
 refine wp_seq_k fun K5 hK5 => rgn ?_
 refine VlS (.int .i64 1) ?_
 refine WL.nil (hK5 _ _ ?_)
 refine wp_ret ?_
 go_ret
 exact ⟨1, D, V, la, false, rfl, ⟨HDk.out, vf, cs, vp, HD.out, HJ.out, HP.out, fun k hk => ⟨.inl (HN.out k hk), HNl.out k (HN.out k hk)⟩⟩, Grown.refl _ _, by omega, .inr (.inr ⟨.inl rfl, rfl, rfl, HX.out⟩)⟩
set_option maxRecDepth 8000 in
theorem japp_big (g d p : Nat) (v : Value) (l : List Int) (D : DV) (V : JV) (la : Bool) (sure : Nat) (N : Nat → Prop) (w : World) (hT : Tab w) (hDN : JDN w g d p D V la false N) (hNl : ∀ k, N k → k < w.heap.size) (hd : ¬ N d) (hX : JX D V la sure) (hA : D.acts ≤ 4611686018427380000) (hR : RowAt w v l) (hRn : l ≠ [] → ∀ k, v.ownBlock = some k → ¬ N k) (hBy : Byts l) (hL : 1048576 < l.length) : Calls Tryd.prog 24 #[ptr g, v] w (JAppPost D V la l sure g d p N w) := by
 obtain ⟨hDk, vf, cs, vp, hD, hJ, hP, hN⟩ := hDN
 obtain ⟨ba, bc, rfl⟩ := row_form hR
 have HT := Keep.mk hT
 have HDk := Keep.mk hDk
 have HD := Keep.mk hD
 have HJ := Keep.mk hJ
 have HP := Keep.mk hP
 have HN := Keep.mk hN
 have HNl := Keep.mk hNl
 have Hd := Keep.mk hd
 have HX := Keep.mk hX
 have HA := Keep.mk hA
 have HR := Keep.mk hR
 have HRn := Keep.mk hRn
 have HBy := Keep.mk hBy
 have HZ : Keep (0 < w.heap.size) := ⟨Nat.lt_of_le_of_lt (Nat.zero_le _) hDk.lt⟩
 have HL := Keep.mk hL
 clear hL
 clear hT hDk hD hJ hP hN hNl hd hX hA hR hRn hBy
 go_enter Tryd.func24, Tryd.ntmps24
 have c5 := HJ.out.c 5 (by rfl : (jA d vp V.pr V.sz la false)[5]? = some (.bool false))
 have hl0 : ¬ (l.length : Int) = 0 := by have := HL.out; omega
 have hln : ¬ l.length = 0 := by have := HL.out; omega
 have hl1 : (1048576 : Int) < (l.length : Int) := by have := HL.out; omega
 have hl2 : 1048576 < l.length := HL.out
 refine wp_seq_k fun K1 hK1 => rgn ?_
 refine VlS (.int .i64 0) ?_
 refine WL.nil (hK1 _ _ ?_)
 refine wp_seq_k fun K2 hK2 => ?_
 refine wp_block ?_
 refine wp_seq_k fun K3 hK3 => rgn ?_
 refine VlS (.pointer (some ⟨g, 0, none⟩)) ?_
 refine VlS (.pointer (some ⟨g, 0, none⟩)) ?_
 refine VlS (.pointer (some ⟨g, 5, none⟩)) ?_
 refine VlS (.bool false) ?_
 refine VlS (.bool false) ?_
 refine WL.nil (hK3 _ _ ?_)
 refine wp_cond_false rfl ?_
 refine wp_seq_k fun K4 hK4 => rgn ?_
 refine VlS (.slice ba l.length bc) ?_
 refine VlS (.int .i64 (l.length : Int)) ?_
 refine VlS (.bool false) ?_
 refine VlS (.bool false) ?_
 refine WL.nil (hK4 _ _ ?_)
 refine wp_cond_false rfl ?_
 refine wp_seq_k fun K5 hK5 => rgn ?_
 refine VlS (.slice ba l.length bc) ?_
 refine VlS (.int .i64 (l.length : Int)) ?_
 refine VlS (.bool true) ?_
 refine VlS (.bool true) ?_
 refine WL.nil (hK5 _ _ ?_)
 refine wp_cond_true rfl ?_
 refine wp_seq_k fun K6 hK6 => rgn ?_
 refine VlS (.int .i64 4) ?_
 refine WL.nil (hK6 _ _ ?_)
 refine wp_ret ?_
 go_ret
 exact ⟨4, D, V, la, false, rfl, ⟨HDk.out, vf, cs, vp, HD.out, HJ.out, HP.out, fun k hk => ⟨.inl (HN.out k hk), HNl.out k (HN.out k hk)⟩⟩, Grown.refl _ _, by omega, .inr (.inr ⟨.inr (.inl rfl), rfl, rfl, HX.out⟩)⟩
set_option maxRecDepth 8000 in
set_option maxHeartbeats 2000000 in
theorem japp_first (g d p : Nat) (v : Value) (l : List Int) (D : DV) (V : JV) (la : Bool) (sure : Nat) (N : Nat → Prop) (w : World) (hT : Tab w) (hDN : JDN w g d p D V la false N) (hNl : ∀ k, N k → k < w.heap.size) (hd : ¬ N d) (hX : JX D V la sure) (hA : D.acts ≤ 4611686018427380000) (hR : RowAt w v l) (hRn : l ≠ [] → ∀ k, v.ownBlock = some k → ¬ N k) (hBy : Byts l) (hPo : PayOk l) (hpr0 : V.pr = -1) : Calls Tryd.prog 24 #[ptr g, v] w (JAppPost D V la l sure g d p N w) := by
 obtain ⟨hDk, vf, cs, vp, hD, hJ, hP, hN⟩ := hDN
 obtain ⟨ba, bc, rfl⟩ := row_form hR
 have HT := Keep.mk hT
 have HDk := Keep.mk hDk
 have HD := Keep.mk hD
 have HJ := Keep.mk hJ
 have HP := Keep.mk hP
 have HN := Keep.mk hN
 have HNl := Keep.mk hNl
 have Hd := Keep.mk hd
 have HX := Keep.mk hX
 have HA := Keep.mk hA
 have HR := Keep.mk hR
 have HRn := Keep.mk hRn
 have HBy := Keep.mk hBy
 have HZ : Keep (0 < w.heap.size) := ⟨Nat.lt_of_le_of_lt (Nat.zero_le _) hDk.lt⟩
 have HPo := Keep.mk hPo
 have hpr := Keep.mk hpr0
 clear hPo hpr0
 clear hT hDk hD hJ hP hN hNl hd hX hA hR hRn hBy
 go_enter Tryd.func24, Tryd.ntmps24
 have c5 := HJ.out.c 5 (by rfl : (jA d vp V.pr V.sz la false)[5]? = some (.bool false))
 have hl0 : ¬ (l.length : Int) = 0 := by have := HPo.out.1; omega
 have hl1 : ¬ (1048576 : Int) < (l.length : Int) := by have := HPo.out.2; omega
 have hln : ¬ l.length = 0 := by have := HPo.out.1; omega
 have hwl : IntKind.i64.wrap (16 + (l.length : Int)) = 16 + (l.length : Int) := by rw [IntKind.wrap_i64]; have := HPo.out.2; omega
 refine wp_seq_k fun K1 hK1 => rgn ?_
 refine VlS (.int .i64 0) ?_
 refine WL.nil (hK1 _ _ ?_)
 refine wp_seq_k fun K2 hK2 => ?_
 refine wp_block ?_
 refine wp_seq_k fun K3 hK3 => rgn ?_
 refine VlS (.pointer (some ⟨g, 0, none⟩)) ?_
 refine VlS (.pointer (some ⟨g, 0, none⟩)) ?_
 refine VlS (.pointer (some ⟨g, 5, none⟩)) ?_
 refine VlS (.bool false) ?_
 refine VlS (.bool false) ?_
 refine WL.nil (hK3 _ _ ?_)
 refine wp_cond_false rfl ?_
 refine wp_seq_k fun K4 hK4 => rgn ?_
 refine VlS (.slice ba l.length bc) ?_
 refine VlS (.int .i64 (l.length : Int)) ?_
 refine VlS (.bool false) ?_
 refine VlS (.bool false) ?_
 refine WL.nil (hK4 _ _ ?_)
 refine wp_cond_false rfl ?_
 refine wp_seq_k fun K5 hK5 => rgn ?_
 refine VlS (.slice ba l.length bc) ?_
 refine VlS (.int .i64 (l.length : Int)) ?_
 refine VlS (.bool false) ?_
 refine VlS (.bool false) ?_
 refine WL.nil (hK5 _ _ ?_)
 refine wp_cond_false rfl ?_
 refine wp_skip ?_
 refine hK2 _ _ ?_
 refine wp_seq_k fun K6 hK6 => rgn ?_
 refine VlS (.pointer (some ⟨g, 0, none⟩)) ?_
 refine VlS (.slice ba l.length bc) ?_
 refine VlS (.int .i64 (l.length : Int)) ?_
 refine VlS (.int .i64 (16 + (l.length : Int))) ?_
 clear c5 hl0 hl1 hln hwl
 refine WL.callF (by kernel_rfl) 44 _ _ rfl Tryd.in44 #[ptr g, .int .i64 (16 + (l.length : Int))] (by simp [Act.eval]) ?_
 refine (next_none g _ w (by rw [← hpr.out]; exact HJ.out.c 2 rfl)).mono ?_
 rintro e w1 ⟨rfl, hb1⟩
 refine ⟨_, rfl, ?_⟩
 have B1 := Keep.mk hb1
 clear hb1
 simp only [Act.put, pqA, pqB, pqC]
 refine WL.new (by kernel_rfl) 79 rfl _ Tryd.newPl ?_
 have HQ0 := Keep.mk (Blk.new w1 79 #[.int .i64 0, .int .i64 0])
 have hbx := below_new w1 (.cells #[.int .i64 0, .int .i64 0] 79)
 have B2 : Keep (Below w.heap.size w (w1.alloc (.cells #[.int .i64 0, .int .i64 0] 79))) := ⟨B1.out.trans (hbx.mono B1.out.size)⟩
 clear hbx
 change WL _ _ _ _ _ (w1.alloc (.cells #[.int .i64 0, .int .i64 0] 79))
 generalize w1.alloc (.cells #[.int .i64 0, .int .i64 0] 79) = w2 at *
 obtain ⟨q, hq⟩ : ∃ p, Keep (p = w1.heap.size) := ⟨_, ⟨rfl⟩⟩
 rw [← hq.out] at HQ0 ⊢
 have hqw : Keep (w.heap.size ≤ q) := ⟨by rw [hq.out]; exact B1.out.size⟩
 simp only [Act.put, pqA, pqB, pqC]
 refine WL.storeR (by kernel_rfl) 79 (.tmp 5) (.tmp 25) rfl q #[.int .i64 0, .int .i64 0] rfl rfl 79 #[.int .i64 0, .int .i64 0] HQ0.out (by kernel_rfl) rfl (by kernel_rfl) ?_
 have HQ := Keep.mk (HQ0.out.setRow #[.int .i64 0, .int .i64 0])
 have B3 : Keep (Below w.heap.size w (w2.setRow q #[.int .i64 0, .int .i64 0])) := ⟨below_setRow B2.out hqw.out _⟩
 clear HQ0 B1 B2 hq
 generalize w2.setRow q #[.int .i64 0, .int .i64 0] = w3 at *
 have q0 := HQ.out.c 0 (by rfl : (#[.int .i64 0, .int .i64 0] : Array Value)[0]? = some (.int .i64 0))
 have J3 := Keep.mk (HJ.out.below B3.out HJ.out.lt)
 simp only [Act.put]
 refine WL.nil (hK6 _ _ ?_)
 refine wp_seq_k fun K7 hK7 => ?_
 refine wp_seq_k fun K8 hK8 => rgn ?_
 refine VlS (.pointer (some ⟨q, 0, none⟩)) ?_
 refine VlS (.int .i64 0) ?_
 refine VlS (.bool false) ?_
 refine WL.nil (hK8 _ _ ?_)
 refine wp_cond_false rfl ?_
 refine wp_skip ?_
 refine hK7 _ _ ?_
 refine wp_seq_k fun K9 hK9 => ?_
 refine wp_seq_k fun K10 hK10 => ?_
 clear q0
 have J4 : Keep (Blk w3.drew g 61 (jA d vp V.pr V.sz la false)) := ⟨J3.out.drew⟩
 have Q4 : Keep (Blk w3.drew q 79 #[.int .i64 0, .int .i64 0]) := ⟨HQ.out.drew⟩
 have B4 : Keep (Below w.heap.size w w3.drew) := ⟨B3.out.drew⟩
 clear J3 HQ B3
 refine wp_region_held_drew (S := fun wx => wx.cell? ⟨g, 2, none⟩ = some (.int .i64 (-1))) (by kernel_rfl) (by rw [← hpr.out]; exact J4.out.c 2 rfl) (fun hHeld => ?_)
 generalize w3.drew = w4 at *
 refine tkS (i := 0) (oi := ⟨some 29, Op.move (Operand.tmp 0), 22, _, _, none⟩) (v := .pointer (some ⟨g, 0, none⟩)) rfl (Or.inl ⟨by rfl, fun w hS => by go_simp⟩) hHeld ?_
 refine tkS (i := 1) (oi := ⟨some 30, Op.nilCheck (Operand.tmp 29), 0, _, _, none⟩) (v := .pointer (some ⟨g, 0, none⟩)) rfl (Or.inl ⟨by rfl, fun w hS => by go_simp⟩) hHeld ?_
 refine tkS (i := 2) (oi := ⟨some 31, Op.fieldAddr 61 (Operand.tmp 30) 2, 0, _, _, none⟩) (v := .pointer (some ⟨g, 2, none⟩)) rfl (Or.inl ⟨by rfl, fun w hS => by go_simp⟩) hHeld ?_
 refine tkS (i := 3) (oi := ⟨some 32, Op.load 3 (Operand.tmp 31), 3, _, _, none⟩) (v := .int .i64 (-1)) rfl (Or.inl ⟨by rfl, fun w hS => by go_simp⟩) hHeld ?_
 refine tkS (i := 4) (oi := ⟨some 33, Op.binOp BinOp.neq 3 (Operand.tmp 32) (Operand.const (Value.int IntKind.i64 (-1))) 3, 4, _, _, none⟩) (v := .bool false) rfl (Or.inl ⟨by rfl, fun w hS => by go_simp⟩) hHeld ?_
 refine tkS (i := 5) (oi := ⟨some 34, Op.move (Operand.tmp 33), 4, _, _, none⟩) (v := .bool false) rfl (Or.inl ⟨by rfl, fun w hS => by go_simp⟩) hHeld ?_
 refine tkS (i := 6) (oi := ⟨some 35, Op.fieldAddr 79 (Operand.tmp 5) 0, 0, _, _, some (5, true)⟩) (v := undef) rfl (Or.inr ⟨by rfl, rfl⟩) hHeld ?_
 refine tkS (i := 7) (oi := ⟨some 36, Op.load 3 (Operand.tmp 35), 3, _, _, some (5, true)⟩) (v := undef) rfl (Or.inr ⟨by rfl, rfl⟩) hHeld ?_
 refine tkS (i := 8) (oi := ⟨some 37, Op.move (Operand.tmp 0), 22, _, _, some (5, true)⟩) (v := undef) rfl (Or.inr ⟨by rfl, rfl⟩) hHeld ?_
 refine tkS (i := 9) (oi := ⟨some 38, Op.nilCheck (Operand.tmp 37), 0, _, _, some (5, true)⟩) (v := undef) rfl (Or.inr ⟨by rfl, rfl⟩) hHeld ?_
 refine tkS (i := 10) (oi := ⟨some 39, Op.fieldAddr 61 (Operand.tmp 38) 2, 0, _, _, some (5, true)⟩) (v := undef) rfl (Or.inr ⟨by rfl, rfl⟩) hHeld ?_
 refine tkS (i := 11) (oi := ⟨some 40, Op.load 3 (Operand.tmp 39), 3, _, _, some (5, true)⟩) (v := undef) rfl (Or.inr ⟨by rfl, rfl⟩) hHeld ?_
 refine tkS (i := 12) (oi := ⟨some 41, Op.binOp BinOp.neq 3 (Operand.tmp 36) (Operand.tmp 40) 3, 4, _, _, some (5, true)⟩) (v := undef) rfl (Or.inr ⟨by rfl, rfl⟩) hHeld ?_
 refine tkS (i := 13) (oi := ⟨some 42, Op.pick (Operand.tmp 34) (Operand.tmp 41) (Operand.const (Value.bool false)), 4, _, _, none⟩) (v := .bool false) rfl (Or.inl ⟨by rfl, fun w hS => by go_simp⟩) hHeld ?_
 refine wpAnyH_done (by kernel_rfl) ?_ _
 refine hK10 _ _ ?_
 refine wp_cond_false rfl ?_
 refine wp_skip ?_
 refine hK9 _ _ ?_
 have hlk0 : lk D.fs (nmS 0) = none := HX.out.ji.hi 0 (by have := hpr.out; omega) (by omega)
 obtain ⟨i, hfd, _⟩ := fnd_absent hlk0
 have hcnt : D.fs.length ≤ 0 := HX.out.ji.count (m := 0) (by rw [hpr.out]; rfl)
 obtain ⟨n1, n2⟩ := HX.out.ji.new (sure := sure) (m := 0) (i := i) (p := l) HX.out.su.1 (by rw [hpr.out]; rfl) (by omega) (HX.out.ji.none_safe hpr.out) hfd (by omega) HPo.out HBy.out
 have hAp : ∀ (wx : World) (v : Value), Blk wx d 75 #[ptr p] → DskAt wx p vf cs D → RowAt wx v (fr l) → (∀ k, v.ownBlock = some k → k ≠ p) → Calls Tryd.prog 45 #[ptr d, .string (nmS 0), v] wx fun e w' => e = .returned (.int .i64 (pw D)) ∧ ∃ vf' cs', DskAt w' p vf' cs' (D.appNew i (nmS 0) (fr l)) ∧ Grown wx w' (DskS p vf cs) ∧ ∀ k, DskS p vf' cs' k → DskS p vf cs k ∨ wx.heap.size ≤ k := fun wx v h1 h2 h3 h4 => by
  refine (app_new d p i (nmS 0) v vf (fr l) cs D wx h1 h2 HX.out.out (nm_rgt (by omega)) hfd (by rw [h2.fcs.len]; have := hcnt; omega) ⟨by rw [HX.out.ji.ok.used]; exact usd_nonneg _, by rw [HX.out.ji.room]; omega, by rw [HX.out.ji.room]; omega, by rw [HX.out.ji.room, HX.out.ji.ok.used, fr_len]; have := HX.out.ji.ok.big; have := HPo.out.2; omega⟩ ⟨HX.out.ji.ok.acts, by have := HA.out; omega⟩ ⟨by have := HX.out.ji.ok.fuse; omega, HX.out.ji.ok.fuse.2⟩ h3 h4).mono ?_
  rintro e w' ⟨rfl, vf', cs', h5, h6, h7⟩
  exact ⟨rfl, vf', cs', h5, h6.mono fun k _ e => .inl e, h7⟩
 exact japp_tail (k := 0) (a := 0) (D0 := D) (D := D) (DA := D.appNew i (nmS 0) (fr l)) (V' := V.new 0 l) (HT.out.below B4.out HZ.out) (Grown.below B4.out) J4.out (HP.out.grown (Grown.below (S := fun _ => False) B4.out) fun _ _ h => h) HDk.out (HD.out.below B4.out) HN.out HNl.out Hd.out Q4.out hqw.out (HR.out.below B4.out) (by omega) (by omega) HPo.out (by have := HX.out.ji.few; omega) hAp (by show D.acts ≤ D.acts + 1 ∧ D.acts + 1 ≤ D.acts + 300; omega) ⟨rfl, rfl, by show 16 + (l.length : Int) = 0 + 16 + (l.length : Int); omega, rfl⟩ (fun hfu => ⟨n1, n2, (fun h => by cases h), (fun _ => by show (0 : Int) ≤ ((0 : Nat) : Int); omega), by rw [← HX.out.out]; exact (act_on hfu).1⟩) (n1.cr n2)
end Go.Proofs.YtennogmeeefopaaDoor
