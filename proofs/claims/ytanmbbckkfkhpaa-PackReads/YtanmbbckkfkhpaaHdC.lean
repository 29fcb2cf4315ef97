import Derived.Test.YtanmbbckkfkhpaaHdB
import Derived.LaidEql
namespace Go.Proofs.Ytanmbbckkfkhpaa
open Go.RowKit

theorem eqErr (a b : Int) (w : World) : (binOp .neq 56 (.agg #[.int .i64 a, .int .i64 b]) (.agg #[.int .i64 a, .int .i64 b])).run Try.prog w = .ok (.bool false) w := by
  go_simp
theorem eqPtr (q : Nat) (w : World) : (binOp .eql 27 (.iface 22 (ptr q)) (.iface 22 (ptr q))).run Try.prog w = .ok (.bool true) w := by
  obtain ⟨i, hi, hc⟩ := Option.map_eq_some_iff.1 (show (Try.prog.info? 22).map (·.comparable) = some true by kernel_rfl)
  obtain ⟨j, hj⟩ := Option.isSome_iff_exists.1 (show (Try.prog.info? 25).isSome = true by kernel_rfl)
  exact run_eql_iface_ptr_same (te := 25) w _ Try.underlying27 Try.underlying22 hi hc hj

set_option maxRecDepth 2000 in
set_option maxHeartbeats 2000000 in
theorem wrong_nil {wB : World} {hb p x : Nat} {s : ByteArray} {vB : Value} {F : Nat → Prop} {w : World} (a : Nat) (h : Mid wB hb p x s vB a 0 none a 0 0 .nilIface F w) :
    Calls Try.prog 47 #[ptr hb, .nilIface, .agg #[.int .i64 0, .int .i64 0]] w fun e w' => e = .returned (.bool true) ∧ Mid wB hb p x s vB a 0 none a 0 0 (.nilIface) F w' := by
  have HM1 := Keep.mk (h.later (below_new w (.cells #[.int .i64 0, .int .i64 0] 56)))
  have HX1 := Keep.mk (Blk.new w 56 #[.int .i64 0, .int .i64 0])
  clear h
  go_enter Try.func47, Try.ntmps47
  go_wp2_with (first | (refine wpList_boxA rfl 56 (.tmp 2) rfl _ rfl ?_; refine Hid.out ?_))
  refine hid_in ?_
  generalize w.alloc (.cells #[.int .i64 0, .int .i64 0] 56) = w1 at *
  go_wp2_with fail
  refine (told_nil w1).mono ?_
  rintro e w2 ⟨rfl, hb2⟩
  have HM2 := Keep.mk (HM1.out.later hb2)
  have HX2 := Keep.mk (HX1.out.below hb2 HX1.out.lt)
  clear hb2 HM1 HX1
  go_wp2_with (first | (refine wpList_new rfl 56 rfl _ Try.new56 ?_; refine Hid.out ?_))
  refine hid_in ?_
  have hX3 := HX2.out.alloc (.cells #[.int .i64 0, .int .i64 0] 56)
  have hM3 := HM2.out.later (below_new w2 (.cells #[.int .i64 0, .int .i64 0] 56))
  have HN := Keep.mk (Blk.new w2 56 #[.int .i64 0, .int .i64 0])
  have HA := Keep.mk (below_new w2 (.cells #[.int .i64 0, .int .i64 0] 56))
  have HM5 := Keep.mk (HM2.out.later (below_two HA.out (Nat.le_refl _) (.int .i64 0) (.int .i64 0)))
  have hne1 : w.heap.size ≠ w2.heap.size := by have := HX2.out.lt; omega
  have hne2 : hb ≠ w2.heap.size := by have := bk_lt HM2.out.bk; omega
  generalize w2.alloc (.cells #[.int .i64 0, .int .i64 0] 56) = w3 at *
  have n0 : w3.cell? ⟨w2.heap.size, 0, none⟩ = some (.int .i64 0) := by rw [HN.out.cell]; rfl
  have n1 : w3.cell? ⟨w2.heap.size, 1, none⟩ = some (.int .i64 0) := by rw [HN.out.cell]; rfl
  have m0 := HN.out.frozen 0
  have m1 := HN.out.frozen 1
  have x0 : w3.cell? ⟨w.heap.size, 0, none⟩ = some (.int .i64 0) := by rw [hX3.cell]; rfl
  have x1 : w3.cell? ⟨w.heap.size, 1, none⟩ = some (.int .i64 0) := by rw [hX3.cell]; rfl
  have c2 := hM3.c2
  have f2 := hM3.f2
  have hq := eqErr (0) (0)
  clear HN HA HM2 HX2 hX3 hM3
  go_wp2
  go_ret
  exact ⟨rfl, HM5.out⟩

set_option maxRecDepth 2000 in
set_option maxHeartbeats 2000000 in
theorem wrong_new {wB : World} {hb p x : Nat} {s : ByteArray} {vB : Value} {F : Nat → Prop} {w : World} (a : Nat) (why : Int) (q : Nat) (hw : why ≠ 0) (h : Mid wB hb p x s vB a why (some q) a why (a : Int) .nilIface F w) :
    Calls Try.prog 47 #[ptr hb, err q, .agg #[.int .i64 why, .int .i64 (a : Int)]] w fun e w' => e = .returned (.bool true) ∧ Mid wB hb p x s vB a why (some q) a why (a : Int) (err q) F w' := by
  have HM1 := Keep.mk (h.later (below_new w (.cells #[.int .i64 why, .int .i64 (a : Int)] 56)))
  have HX1 := Keep.mk (Blk.new w 56 #[.int .i64 why, .int .i64 (a : Int)])
  have Hw := Keep.mk hw
  clear h hw
  unfold err
  go_enter Try.func47, Try.ntmps47
  go_wp2_with (first | (refine wpList_boxA rfl 56 (.tmp 2) rfl _ rfl ?_; refine Hid.out ?_))
  refine hid_in ?_
  generalize w.alloc (.cells #[.int .i64 why, .int .i64 (a : Int)] 56) = w1 at *
  go_wp2_with fail
  have hbd : BadAt w1 q why a := by
    rcases HM1.out.er with ⟨h0, _⟩ | ⟨_, q', h1, h2, _⟩
    · exact absurd h0 Hw.out
    · injection h1 with h1; rw [h1]; exact h2
  refine (told_err q why a w1 hbd Hw.out).mono ?_
  rintro e w2 ⟨rfl, hb2⟩
  have HM2 := Keep.mk (HM1.out.later hb2)
  have HX2 := Keep.mk (HX1.out.below hb2 HX1.out.lt)
  clear hb2 HM1 HX1
  go_wp2_with (first | (refine wpList_new rfl 56 rfl _ Try.new56 ?_; refine Hid.out ?_))
  refine hid_in ?_
  have hX3 := HX2.out.alloc (.cells #[.int .i64 0, .int .i64 0] 56)
  have hM3 := HM2.out.later (below_new w2 (.cells #[.int .i64 0, .int .i64 0] 56))
  have HN := Keep.mk (Blk.new w2 56 #[.int .i64 0, .int .i64 0])
  have HA := Keep.mk (below_new w2 (.cells #[.int .i64 0, .int .i64 0] 56))
  have HM5 := Keep.mk (HM2.out.later (below_two HA.out (Nat.le_refl _) (.int .i64 why) (.int .i64 (a : Int))))
  have hne1 : w.heap.size ≠ w2.heap.size := by have := HX2.out.lt; omega
  have hne2 : hb ≠ w2.heap.size := by have := bk_lt HM2.out.bk; omega
  generalize w2.alloc (.cells #[.int .i64 0, .int .i64 0] 56) = w3 at *
  have n0 : w3.cell? ⟨w2.heap.size, 0, none⟩ = some (.int .i64 0) := by rw [HN.out.cell]; rfl
  have n1 : w3.cell? ⟨w2.heap.size, 1, none⟩ = some (.int .i64 0) := by rw [HN.out.cell]; rfl
  have m0 := HN.out.frozen 0
  have m1 := HN.out.frozen 1
  have x0 : w3.cell? ⟨w.heap.size, 0, none⟩ = some (.int .i64 why) := by rw [hX3.cell]; rfl
  have x1 : w3.cell? ⟨w.heap.size, 1, none⟩ = some (.int .i64 (a : Int)) := by rw [hX3.cell]; rfl
  have c2 := hM3.c2
  have f2 := hM3.f2
  have hq := eqErr (why) ((a : Int))
  clear HN HA HM2 HX2 hX3 hM3
  clear Hw hbd
  have hp := eqPtr q
  go_wp2
  go_ret
  exact ⟨rfl, HM5.out.told⟩

set_option maxRecDepth 2000 in
set_option maxHeartbeats 2000000 in
theorem wrong_old {wB : World} {hb p x : Nat} {s : ByteArray} {vB : Value} {F : Nat → Prop} {w : World} (a : Nat) (why : Int) (q : Nat) (hw : why ≠ 0) (h : Mid wB hb p x s vB a why (some q) a why (a : Int) (err q) F w) :
    Calls Try.prog 47 #[ptr hb, err q, .agg #[.int .i64 why, .int .i64 (a : Int)]] w fun e w' => e = .returned (.bool true) ∧ Mid wB hb p x s vB a why (some q) a why (a : Int) (err q) F w' := by
  have HM1 := Keep.mk (h.later (below_new w (.cells #[.int .i64 why, .int .i64 (a : Int)] 56)))
  have HX1 := Keep.mk (Blk.new w 56 #[.int .i64 why, .int .i64 (a : Int)])
  have Hw := Keep.mk hw
  clear h hw
  unfold err
  go_enter Try.func47, Try.ntmps47
  go_wp2_with (first | (refine wpList_boxA rfl 56 (.tmp 2) rfl _ rfl ?_; refine Hid.out ?_))
  refine hid_in ?_
  generalize w.alloc (.cells #[.int .i64 why, .int .i64 (a : Int)] 56) = w1 at *
  go_wp2_with fail
  have hbd : BadAt w1 q why a := by
    rcases HM1.out.er with ⟨h0, _⟩ | ⟨_, q', h1, h2, _⟩
    · exact absurd h0 Hw.out
    · injection h1 with h1; rw [h1]; exact h2
  refine (told_err q why a w1 hbd Hw.out).mono ?_
  rintro e w2 ⟨rfl, hb2⟩
  have HM2 := Keep.mk (HM1.out.later hb2)
  have HX2 := Keep.mk (HX1.out.below hb2 HX1.out.lt)
  clear hb2 HM1 HX1
  go_wp2_with (first | (refine wpList_new rfl 56 rfl _ Try.new56 ?_; refine Hid.out ?_))
  refine hid_in ?_
  have hX3 := HX2.out.alloc (.cells #[.int .i64 0, .int .i64 0] 56)
  have hM3 := HM2.out.later (below_new w2 (.cells #[.int .i64 0, .int .i64 0] 56))
  have HN := Keep.mk (Blk.new w2 56 #[.int .i64 0, .int .i64 0])
  have HA := Keep.mk (below_new w2 (.cells #[.int .i64 0, .int .i64 0] 56))
  have HM5 := Keep.mk (HM2.out.later (below_two HA.out (Nat.le_refl _) (.int .i64 why) (.int .i64 (a : Int))))
  have hne1 : w.heap.size ≠ w2.heap.size := by have := HX2.out.lt; omega
  have hne2 : hb ≠ w2.heap.size := by have := bk_lt HM2.out.bk; omega
  generalize w2.alloc (.cells #[.int .i64 0, .int .i64 0] 56) = w3 at *
  have n0 : w3.cell? ⟨w2.heap.size, 0, none⟩ = some (.int .i64 0) := by rw [HN.out.cell]; rfl
  have n1 : w3.cell? ⟨w2.heap.size, 1, none⟩ = some (.int .i64 0) := by rw [HN.out.cell]; rfl
  have m0 := HN.out.frozen 0
  have m1 := HN.out.frozen 1
  have x0 : w3.cell? ⟨w.heap.size, 0, none⟩ = some (.int .i64 why) := by rw [hX3.cell]; rfl
  have x1 : w3.cell? ⟨w.heap.size, 1, none⟩ = some (.int .i64 (a : Int)) := by rw [hX3.cell]; rfl
  have c2 := hM3.c2
  unfold err at c2
  have f2 := hM3.f2
  have hq := eqErr (why) ((a : Int))
  clear HN HA HM2 HX2 hX3 hM3
  clear Hw hbd
  have hp := eqPtr q
  go_wp2
  go_ret
  exact ⟨rfl, HM5.out⟩

theorem wrong_any {wB : World} {hb p x : Nat} {s : ByteArray} {vB : Value} {F : Nat → Prop} {w : World} {a : Nat} {why b : Int} {bad bad0 : Option Nat} (h : Mid wB hb p x s vB a why bad a why b (errV bad0) F w) (hE : ErrB why a b) (hk : bad0 = none ∨ bad = bad0) :
    Calls Try.prog 47 #[ptr hb, errV bad, .agg #[.int .i64 why, .int .i64 b]] w fun e w' => e = .returned (.bool true) ∧ Mid wB hb p x s vB a why bad a why b (errV bad) F w' := by
  rcases h.er with ⟨h0, h1⟩ | ⟨h0, q, h1, _⟩
  · subst h0 h1
    have hb0 := errB_0 hE
    subst hb0
    have h2 : bad0 = none := by rcases hk with h | h <;> simp [h]
    subst h2
    exact wrong_nil a h
  · subst h1
    have hb0 : b = (a : Int) := by
      rcases hE with h | h
      · exact absurd h.1 h0
      · exact h.2
    subst hb0
    rcases hk with rfl | rfl
    · exact wrong_new a why q h0 h
    · exact wrong_old a why q h0 h
end Go.Proofs.Ytanmbbckkfkhpaa
