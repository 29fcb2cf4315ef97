import Derived.Test.YtanmbbckkfkhpaaHdC
namespace Go.Proofs.Ytanmbbckkfkhpaa
open Go.RowKit

theorem Mid.row {wB : World} {hb p x : Nat} {s : ByteArray} {vB : Value} {aP : Nat} {whyP : Int} {badP : Option Nat} {aR : Nat} {whyR bR : Int} {first : Value} {F : Nat → Prop} {w : World} {l : List Int} (h : Mid wB hb p x s vB aP whyP badP aR whyR bR first F w) (hr : RowAt wB vB l) : ∀ wx, (Grown w wx fun k => k = x) → RowAt wx vB l := fun wx hg =>
  hr.below (h.below.trans (hg.to_below (fun k hk e => by have := h.lo.2.1; omega) h.below.size))
/-- What a step leaves. -/
def StepPost (wB : World) (hb p x : Nat) (s : ByteArray) (vB : Value) (e : Ending) (w' : World) : Prop :=
  e = .returned (.bool true) ∧ ∃ a' why' bad' b' F', ErrB why' a' b' ∧ Mid wB hb p x s vB a' why' bad' a' why' b' (errV bad') F' w'

set_option maxRecDepth 4000 in
set_option maxHeartbeats 4000000 in
theorem step_byte (wB : World) (hb p x : Nat) (s : ByteArray) (vB : Value) (a : Nat) (why : Int) (bad : Option Nat) (b : Int) (F : Nat → Prop) (w : World) (h : Mid wB hb p x s vB a why bad a why b (errV bad) F w) (hE : ErrB why a b) (hR : RowAt wB vB (lst s)) (hs : s.size ≤ 140737488355328) (X : Nat) (N : Int) (V : Value) :
    Calls Try.prog 22 #[ptr hb, .agg #[.int .i64 0, .int .u64 (X : Int), .int .i64 N, V]] w (StepPost wB hb p x s vB) := by
  obtain ⟨c, a', why', hP, hQ⟩ := pair_byte p x s vB a why bad hs h.rd.le h.good
  have HP := Keep.mk hP
  have HQ := Keep.mk hQ
  have HE := Keep.mk hE
  have HR := Keep.mk hR
  have HM1 := Keep.mk (h.later (below_new w (.cells #[.int .i64 0, .int .u64 (X : Int), .int .i64 N, V] 43)))
  have HX1 := Keep.mk (Blk.new w 43 #[.int .i64 0, .int .u64 (X : Int), .int .i64 N, V])
  clear h hE hR hP hQ hs
  go_enter Try.func22, Try.ntmps22
  go_wp2_with (first | (refine wpList_boxA rfl 43 (.tmp 1) rfl _ rfl ?_; refine Hid.out ?_))
  refine hid_in ?_
  generalize w.alloc (.cells #[.int .i64 0, .int .u64 (X : Int), .int .i64 N, V] 43) = w1 at *
  have o0 : w1.cell? ⟨w.heap.size, 0, none⟩ = some (.int .i64 0) := by rw [HX1.out.cell]; rfl
  have c0 := HM1.out.c0
  go_wp2_with fail
  refine (HP.out w1 HM1.out.rd).mono ?_
  rintro e w2 ⟨bad', rfl, hi, hg, he⟩
  have HM2 := Keep.mk (HM1.out.prog hi hg he)
  have Hk := Keep.mk he.keep
  clear hi hg he HM1 HX1 o0 c0 HP
  have c1 := HM2.out.c1
  go_wp2_with fail
  refine (HQ.out w2 b HM2.out.rf HE.out (HM2.out.row HR.out)).mono ?_
  rintro e w3 ⟨b', hE', rfl, hr, hg⟩
  have HM3 := Keep.mk (HM2.out.ref hr hg)
  have HE3 := Keep.mk hE'
  clear hr hg hE' HM2 HQ c1
  go_wp2_with (first | (refine wpList_new rfl 56 rfl _ Try.new56 ?_; refine Hid.out ?_))
  refine hid_in ?_
  have HN := Keep.mk (Blk.new w3 56 #[.int .i64 0, .int .i64 0])
  have HA := Keep.mk (below_new w3 (.cells #[.int .i64 0, .int .i64 0] 56))
  generalize w3.alloc (.cells #[.int .i64 0, .int .i64 0] 56) = w4 at *
  have n0 : w4.cell? ⟨w3.heap.size, 0, none⟩ = some (.int .i64 0) := by rw [HN.out.cell]; rfl
  have n1 : w4.cell? ⟨w3.heap.size, 1, none⟩ = some (.int .i64 0) := by rw [HN.out.cell]; rfl
  have m0 := HN.out.frozen 0
  have m1 := HN.out.frozen 1
  go_wp2_with fail
  have HN4 := Keep.mk (show Blk ((w4.setCell ⟨w3.heap.size, 0, none⟩ (.int .i64 why')).setCell ⟨w3.heap.size, 1, none⟩ (.int .i64 b')) w3.heap.size 56 #[.int .i64 why', .int .i64 b'] from (HN.out.set 0 _).set 1 _)
  have HB4 := Keep.mk (below_two HA.out (Nat.le_refl _) (.int .i64 why') (.int .i64 b'))
  clear n0 n1 m0 m1 HN HA
  generalize (w4.setCell ⟨w3.heap.size, 0, none⟩ (.int .i64 why')).setCell ⟨w3.heap.size, 1, none⟩ (.int .i64 b') = w5 at *
  have n0 : w5.cell? ⟨w3.heap.size, 0, none⟩ = some (.int .i64 why') := by rw [HN4.out.cell]; rfl
  have n1 : w5.cell? ⟨w3.heap.size, 1, none⟩ = some (.int .i64 b') := by rw [HN4.out.cell]; rfl
  have HM5 := Keep.mk (HM3.out.later HB4.out)
  clear HM3 HB4 HN4
  go_wp2_with fail
  refine (wrong_any HM5.out HE3.out Hk.out).mono ?_
  rintro e w6 ⟨rfl, hM6⟩
  have HM6 := Keep.mk hM6
  clear hM6
  go_wp2
  go_ret
  exact ⟨rfl, _, _, _, _, _, HE3.out, HM6.out⟩

set_option maxRecDepth 4000 in
set_option maxHeartbeats 4000000 in
theorem step_signed (wB : World) (hb p x : Nat) (s : ByteArray) (vB : Value) (a : Nat) (why : Int) (bad : Option Nat) (b : Int) (F : Nat → Prop) (w : World) (h : Mid wB hb p x s vB a why bad a why b (errV bad) F w) (hE : ErrB why a b) (hR : RowAt wB vB (lst s)) (hs : s.size ≤ 140737488355328) (X : Nat) (N : Int) (V : Value) :
    Calls Try.prog 22 #[ptr hb, .agg #[.int .i64 2, .int .u64 (X : Int), .int .i64 N, V]] w (StepPost wB hb p x s vB) := by
  obtain ⟨c, a', why', hP, hQ⟩ := pair_signed p x s vB a why bad hs h.rd.le h.good
  have HP := Keep.mk hP
  have HQ := Keep.mk hQ
  have HE := Keep.mk hE
  have HR := Keep.mk hR
  have HM1 := Keep.mk (h.later (below_new w (.cells #[.int .i64 2, .int .u64 (X : Int), .int .i64 N, V] 43)))
  have HX1 := Keep.mk (Blk.new w 43 #[.int .i64 2, .int .u64 (X : Int), .int .i64 N, V])
  clear h hE hR hP hQ hs
  go_enter Try.func22, Try.ntmps22
  go_wp2_with (first | (refine wpList_boxA rfl 43 (.tmp 1) rfl _ rfl ?_; refine Hid.out ?_))
  refine hid_in ?_
  generalize w.alloc (.cells #[.int .i64 2, .int .u64 (X : Int), .int .i64 N, V] 43) = w1 at *
  have o0 : w1.cell? ⟨w.heap.size, 0, none⟩ = some (.int .i64 2) := by rw [HX1.out.cell]; rfl
  have c0 := HM1.out.c0
  go_wp2_with fail
  refine (HP.out w1 HM1.out.rd).mono ?_
  rintro e w2 ⟨bad', rfl, hi, hg, he⟩
  have HM2 := Keep.mk (HM1.out.prog hi hg he)
  have Hk := Keep.mk he.keep
  clear hi hg he HM1 HX1 o0 c0 HP
  have c1 := HM2.out.c1
  go_wp2_with fail
  refine (HQ.out w2 b HM2.out.rf HE.out (HM2.out.row HR.out)).mono ?_
  rintro e w3 ⟨b', hE', rfl, hr, hg⟩
  have HM3 := Keep.mk (HM2.out.ref hr hg)
  have HE3 := Keep.mk hE'
  clear hr hg hE' HM2 HQ c1
  go_wp2_with (first | (refine wpList_new rfl 56 rfl _ Try.new56 ?_; refine Hid.out ?_))
  refine hid_in ?_
  have HN := Keep.mk (Blk.new w3 56 #[.int .i64 0, .int .i64 0])
  have HA := Keep.mk (below_new w3 (.cells #[.int .i64 0, .int .i64 0] 56))
  generalize w3.alloc (.cells #[.int .i64 0, .int .i64 0] 56) = w4 at *
  have n0 : w4.cell? ⟨w3.heap.size, 0, none⟩ = some (.int .i64 0) := by rw [HN.out.cell]; rfl
  have n1 : w4.cell? ⟨w3.heap.size, 1, none⟩ = some (.int .i64 0) := by rw [HN.out.cell]; rfl
  have m0 := HN.out.frozen 0
  have m1 := HN.out.frozen 1
  go_wp2_with fail
  have HN4 := Keep.mk (show Blk ((w4.setCell ⟨w3.heap.size, 0, none⟩ (.int .i64 why')).setCell ⟨w3.heap.size, 1, none⟩ (.int .i64 b')) w3.heap.size 56 #[.int .i64 why', .int .i64 b'] from (HN.out.set 0 _).set 1 _)
  have HB4 := Keep.mk (below_two HA.out (Nat.le_refl _) (.int .i64 why') (.int .i64 b'))
  clear n0 n1 m0 m1 HN HA
  generalize (w4.setCell ⟨w3.heap.size, 0, none⟩ (.int .i64 why')).setCell ⟨w3.heap.size, 1, none⟩ (.int .i64 b') = w5 at *
  have n0 : w5.cell? ⟨w3.heap.size, 0, none⟩ = some (.int .i64 why') := by rw [HN4.out.cell]; rfl
  have n1 : w5.cell? ⟨w3.heap.size, 1, none⟩ = some (.int .i64 b') := by rw [HN4.out.cell]; rfl
  have HM5 := Keep.mk (HM3.out.later HB4.out)
  clear HM3 HB4 HN4
  go_wp2_with fail
  refine (wrong_any HM5.out HE3.out Hk.out).mono ?_
  rintro e w6 ⟨rfl, hM6⟩
  have HM6 := Keep.mk hM6
  clear hM6
  go_wp2
  go_ret
  exact ⟨rfl, _, _, _, _, _, HE3.out, HM6.out⟩
end Go.Proofs.Ytanmbbckkfkhpaa
