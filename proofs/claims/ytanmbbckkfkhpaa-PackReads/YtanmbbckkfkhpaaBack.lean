import Derived.Test.YtanmbbckkfkhpaaTold
import Derived.Test.YtanmbbckkfkhpaaLay
namespace Go.Proofs.Ytanmbbckkfkhpaa
open Go.RowKit

theorem fst_num (X : Nat) (hX : X < 18446744073709551616) (rest : List Int) (most : Int) (h : (X : Int) ≤ most) : fstM (numL X ++ rest) most = ((X : Int), ((numL X).length : Int), 0) := by
  unfold fstM
  rw [fstG_numL X hX rest, if_neg]
  rintro ⟨_, h2⟩
  simp only at h2
  omega
theorem zag_zig (x : Int) : zag (zig x) = x := by
  unfold zag zig
  by_cases h : 0 ≤ x
  · rw [if_pos h, if_neg (by omega)]; omega
  · rw [if_neg h, if_pos (by omega)]; omega
theorem byt_form (m rest : List Int) (mm : Int) (h : (m.length : Int) ≤ mm) (hl : m.length < 18446744073709551616) : byt (bform m ++ rest) mm = (0, (bform m).length, m) := by
  have hf := fst_num m.length hl (m ++ rest) mm h
  rw [byt_eq, bform, List.append_assoc, hf]
  simp only [if_true, Int.toNat_natCast]
  have hd : (numL m.length ++ (m ++ rest)).drop (numL m.length).length = m ++ rest := List.drop_left
  have hw : nextW (m ++ rest) (m.length : Int) = 0 := by
    unfold nextW
    rw [if_neg (by omega), if_neg (by rw [List.length_append]; omega)]
  have hn : nextN (m ++ rest) (m.length : Int) = m.length := by unfold nextN; rw [hw]; simp
  rw [hd, hw, hn, List.take_left, List.length_append]
theorem next_app (l rest : List Int) : nextW (l ++ rest) (l.length : Int) = 0 ∧ nextN (l ++ rest) (l.length : Int) = l.length := by
  have hw : nextW (l ++ rest) (l.length : Int) = 0 := by
    unfold nextW
    rw [if_neg (by omega), if_neg (by rw [List.length_append]; omega)]
  exact ⟨hw, by unfold nextN; rw [hw]; simp⟩
theorem Try.isAgg5 (w : World) : (isAgg 5).run Try.prog w = .ok false w := by kernel_rfl
theorem Try.cells5 : Try.prog.cellsOf 5 = 1 := by kernel_rfl
theorem Try.size5 : (Try.prog.info? 5).map (·.size) = some 1 := by kernel_rfl
theorem run_part5 (c : Nat → Int) (i : Nat) (hi : i < 32) (w : World) : (part 5 (bytesA 32 c) i).run Try.prog w = .ok (.int .u8 (c i)) w := by
  unfold part
  rw [Sem.run_bind, Try.isAgg5]
  simp [Result.andThen, bytesA_get 32 c i hi]
theorem run_items (c : Nat → Int) (d : Nat) (w : World) : ∀ is : List Nat, (∀ i ∈ is, i < 32) → (Op.eqItems (d + 1) 5 1 (bytesA 32 c) (bytesA 32 c) is).run Try.prog w = .ok true w
  | [], _ => by simp [Op.eqItems]
  | i :: is, h => by
    have hi := h i (by simp)
    have ih := run_items c d w is (fun j hj => h j (by simp [hj]))
    simp only [Op.eqItems, Sem.run_bind, Nat.mul_one, run_part5 c i hi, Result.andThen_ok]
    rw [run_equalIn_int (P := Try.prog) (w := w) d 5 .u8 .u8 (c i) (c i) Try.underlying5]
    simp [Result.andThen_ok, ih]
/-- Two hashes that are the same. -/
theorem run_eql_arr (c : Nat → Int) (w : World) : (binOp .eql 84 (.agg (bytesA 32 c)) (.agg (bytesA 32 c))).run Try.prog w = .ok (.bool true) w := by
  obtain ⟨i, hi, _⟩ := Option.map_eq_some_iff.1 Try.size5
  rw [run_eql_struct, run_equalIn_array (P := Try.prog) w 9999 _ _ Try.underlying84 hi, Try.cells5, run_items c 9998 w _ (fun j hj => List.mem_range.1 hj)]
  rfl

/-- The step into a call of a Go function of the text (no row of the library's table). -/
theorem run_callF {P : Program} (a : Act) (o : Oper) (f : FuncId) (args : Array Operand) (ts : Array TypeId) (ho : o.op = .call { callee := .value (.func f), args := args, argTypes := ts })
    (hf : ∀ (w : World) (vs : Array Value), (callFunc f vs).run P w = .ok (.enter f vs) w) (w : World) :
    (execOp a.eval o).run P w = .ok (.enter f (args.map a.eval)) w := by
  unfold execOp
  simp only [ho]
  simp [resolve, Act.eval, go_sem]
  exact hf w _
/-- A call of function f at 'Oper.wp'. -/
theorem wp_callF {P : Program} {Q : Exit → Act → World → Prop} {o : Oper} {a : Act} {w : World} {K : Act → World → Prop} (f : FuncId) (args : Array Operand) (ts : Array TypeId) (ho : o.op = .call { callee := .value (.func f), args := args, argTypes := ts })
    (hf : ∀ (w : World) (vs : Array Value), (callFunc f vs).run P w = .ok (.enter f vs) w)
    (vs : Array Value) (hvs : args.map a.eval = vs)
    (R : Value → World → Prop) (hc : Calls P f vs w fun e w' => ∃ v, e = .returned v ∧ R v w')
    (h : ∀ v w', R v w' → K (a.put o.dst v) w') : o.wp P a w K Q := by
  unfold Oper.wp
  rw [run_callF a o f args ts ho hf w, Oper.upon_enter, hvs]
  refine hc.mono ?_
  rintro e w' ⟨v, rfl, hr⟩
  exact h v w' hr
theorem Try.enter41 (w : World) (vs : Array Value) : (callFunc 41 vs).run Try.prog w = .ok (.enter 41 vs) w := by kernel_rfl
theorem blk_range {w : World} {b : Nat} {T : TypeId} {cs : Array Value} (h : Blk w b T cs) : w.rangeAt b 0 cs.toList := fun j v hv => by
  rw [Nat.zero_add, h.cell]; simpa using hv
/-- What back leaves. -/
def BackPost (p : Nat) (s : ByteArray) (a : Nat) (w : World) (e : Ending) (w' : World) : Prop :=
  e = .returned (.bool true) ∧ InAt w' p s a none ∧ Grown w w' fun k => k = p
theorem InAt.box {w : World} {p : Nat} {s : ByteArray} {a : Nat} {bad : Option Nat} (h : InAt w p s a bad) (o : Obj) : InAt (w.alloc o) p s a bad := ⟨h.blk.alloc o, h.le⟩

set_option maxRecDepth 2000 in
set_option maxHeartbeats 1000000 in
theorem back_byte (p : Nat) (s : ByteArray) (a : Nat) (vB : Value) (m rest : List Int) (X : Nat) (N : Int) (w : World) (hI : InAt w p s a none) (hb : s.size ≤ 140737488355328) (hD : (lst s).drop a = [((X % 256 : Nat) : Int)] ++ rest) (hR : ∀ wx, (Grown w wx fun k => k = p) → RowAt wx vB m)
    (hX : X < 18446744073709551616) (hm : m.length ≤ 140737488355328) :
    Calls Try.prog 26 #[ptr p, .agg #[.int .i64 0, .int .u64 (X : Int), .int .i64 N, vB]] w (BackPost p s (a + ([((X % 256 : Nat) : Int)]).length) w) := by
  have HI := Keep.mk (hI.box (.cells #[.int .i64 0, .int .u64 (X : Int), .int .i64 N, vB] 43))
  have HG0 := Keep.mk (Grown.alloc w (.cells #[.int .i64 0, .int .u64 (X : Int), .int .i64 N, vB] 43) fun k => k = p)
  have HS := Keep.mk hb
  have HD := Keep.mk hD
  have HRx := Keep.mk hR
  have HR := Keep.mk (hR _ HG0.out)
  have HX := Keep.mk hX
  have HM := Keep.mk hm
  have HBx := Keep.mk (Blk.new w 43 #[.int .i64 0, .int .u64 (X : Int), .int .i64 N, vB])
  have Hlt := Keep.mk hI.blk.lt
  clear hI hb hD hR hX hm
  go_enter Try.func26, Try.ntmps26
  go_wp2_with (refine wpList_boxA rfl 43 (.tmp 1) rfl _ rfl ?_; refine Hid.out ?_)
  refine hid_in ?_
  generalize w.alloc (.cells #[.int .i64 0, .int .u64 (X : Int), .int .i64 N, vB] 43) = w0 at *
  have c0 : w0.cell? ⟨w.heap.size, 0, none⟩ = some (.int .i64 0) := by rw [HBx.out.cell]; rfl
  have c3 : w0.cell? ⟨w.heap.size, 3, none⟩ = some vB := by rw [HBx.out.cell]; rfl
  go_wp2_with fail
  refine (ibyte_good p s a w0 HI.out HS.out ([((X % 256 : Nat) : Int)] ++ rest) HD.out.symm 0 (next_app [((X % 256 : Nat) : Int)] rest).1.symm 1 (next_app [((X % 256 : Nat) : Int)] rest).2.symm ((X % 256 : Nat) : Int) rfl).mono ?_
  rintro e w1 ⟨bad, er, rfl, h1, h2, h3⟩
  rcases h3 with ⟨_, rfl, rfl⟩ | ⟨h, _⟩
  case inr => exact absurd rfl h
  have HI1 := Keep.mk h1
  have HG1 := Keep.mk h2
  have hBx1 := h2.blk HBx.out (by have := Hlt.out; omega)
  have d1 : w1.cell? ⟨w.heap.size, 1, none⟩ = some (.int .u64 (X : Int)) := by rw [hBx1.cell]; rfl
  have d3 : w1.cell? ⟨w.heap.size, 3, none⟩ = some vB := by rw [hBx1.cell]; rfl
  have HR1 := Keep.mk (HRx.out _ (HG0.out.trans h2))
  clear h1 h2 hBx1 c0 c3
  have hxx : (X : Int) % 256 = ((X % 256 : Nat) : Int) := by omega
  generalize X % 256 = x8 at *
  go_wp2
  go_ret
  exact ⟨by show Ending.returned (.bool _) = _; simp, HI1.out, HG0.out.trans HG1.out⟩

set_option maxRecDepth 2000 in
set_option maxHeartbeats 1000000 in
theorem back_num (p : Nat) (s : ByteArray) (a : Nat) (vB : Value) (m rest : List Int) (X : Nat) (N : Int) (w : World) (hI : InAt w p s a none) (hb : s.size ≤ 140737488355328) (hD : (lst s).drop a = numL X ++ rest) (hR : ∀ wx, (Grown w wx fun k => k = p) → RowAt wx vB m)
    (hX : X < 18446744073709551616) (hm : m.length ≤ 140737488355328) :
    Calls Try.prog 26 #[ptr p, .agg #[.int .i64 1, .int .u64 (X : Int), .int .i64 N, vB]] w (BackPost p s (a + (numL X).length) w) := by
  have HI := Keep.mk (hI.box (.cells #[.int .i64 1, .int .u64 (X : Int), .int .i64 N, vB] 43))
  have HG0 := Keep.mk (Grown.alloc w (.cells #[.int .i64 1, .int .u64 (X : Int), .int .i64 N, vB] 43) fun k => k = p)
  have HS := Keep.mk hb
  have HD := Keep.mk hD
  have HRx := Keep.mk hR
  have HR := Keep.mk (hR _ HG0.out)
  have HX := Keep.mk hX
  have HM := Keep.mk hm
  have HBx := Keep.mk (Blk.new w 43 #[.int .i64 1, .int .u64 (X : Int), .int .i64 N, vB])
  have Hlt := Keep.mk hI.blk.lt
  clear hI hb hD hR hX hm
  go_enter Try.func26, Try.ntmps26
  go_wp2_with (refine wpList_boxA rfl 43 (.tmp 1) rfl _ rfl ?_; refine Hid.out ?_)
  refine hid_in ?_
  generalize w.alloc (.cells #[.int .i64 1, .int .u64 (X : Int), .int .i64 N, vB] 43) = w0 at *
  have c0 : w0.cell? ⟨w.heap.size, 0, none⟩ = some (.int .i64 1) := by rw [HBx.out.cell]; rfl
  have c3 : w0.cell? ⟨w.heap.size, 3, none⟩ = some vB := by rw [HBx.out.cell]; rfl
  have hc := inum_good p s a 18446744073709551615 w0 HI.out HS.out
  rw [HD.out, fst_num X HX.out rest _ (by have := HX.out; omega)] at hc
  simp only [Int.toNat_natCast] at hc
  have HC := Keep.mk hc
  clear hc
  go_wp2_with fail
  refine HC.out.mono ?_
  rintro e w1 ⟨bad, er, rfl, h1, h2, h3⟩
  rcases h3 with ⟨_, rfl, rfl⟩ | ⟨h, _⟩
  case inr => exact absurd rfl h
  have HI1 := Keep.mk h1
  have HG1 := Keep.mk h2
  have hBx1 := h2.blk HBx.out (by have := Hlt.out; omega)
  have d1 : w1.cell? ⟨w.heap.size, 1, none⟩ = some (.int .u64 (X : Int)) := by rw [hBx1.cell]; rfl
  have d3 : w1.cell? ⟨w.heap.size, 3, none⟩ = some vB := by rw [hBx1.cell]; rfl
  have HR1 := Keep.mk (HRx.out _ (HG0.out.trans h2))
  clear h1 h2 hBx1 c0 c3
  clear HC
  go_wp2
  go_ret
  exact ⟨by show Ending.returned (.bool _) = _; simp, HI1.out, HG0.out.trans HG1.out⟩

set_option maxRecDepth 2000 in
set_option maxHeartbeats 1000000 in
theorem back_signed (p : Nat) (s : ByteArray) (a : Nat) (vB : Value) (m rest : List Int) (X : Nat) (N : Int) (w : World) (hI : InAt w p s a none) (hb : s.size ≤ 140737488355328) (hD : (lst s).drop a = numL (zig (wrap64 (X : Int))) ++ rest) (hR : ∀ wx, (Grown w wx fun k => k = p) → RowAt wx vB m)
    (hX : X < 18446744073709551616) (hm : m.length ≤ 140737488355328) :
    Calls Try.prog 26 #[ptr p, .agg #[.int .i64 2, .int .u64 (X : Int), .int .i64 N, vB]] w (BackPost p s (a + (numL (zig (wrap64 (X : Int)))).length) w) := by
  have HI := Keep.mk (hI.box (.cells #[.int .i64 2, .int .u64 (X : Int), .int .i64 N, vB] 43))
  have HG0 := Keep.mk (Grown.alloc w (.cells #[.int .i64 2, .int .u64 (X : Int), .int .i64 N, vB] 43) fun k => k = p)
  have HS := Keep.mk hb
  have HD := Keep.mk hD
  have HRx := Keep.mk hR
  have HR := Keep.mk (hR _ HG0.out)
  have HX := Keep.mk hX
  have HM := Keep.mk hm
  have HBx := Keep.mk (Blk.new w 43 #[.int .i64 2, .int .u64 (X : Int), .int .i64 N, vB])
  have Hlt := Keep.mk hI.blk.lt
  clear hI hb hD hR hX hm
  obtain ⟨xi, hxi⟩ : ∃ xi, Keep (wrap64 (X : Int) = xi) := ⟨_, ⟨rfl⟩⟩
  have hi1 : Keep (-9223372036854775808 ≤ xi) := ⟨by rw [← hxi.out]; unfold wrap64; omega⟩
  have hi2 : Keep (xi ≤ 9223372036854775807) := ⟨by rw [← hxi.out]; unfold wrap64; omega⟩
  rw [hxi.out] at HD ⊢
  have hxw := hxi.out
  go_enter Try.func26, Try.ntmps26
  go_wp2_with (refine wpList_boxA rfl 43 (.tmp 1) rfl _ rfl ?_; refine Hid.out ?_)
  refine hid_in ?_
  generalize w.alloc (.cells #[.int .i64 2, .int .u64 (X : Int), .int .i64 N, vB] 43) = w0 at *
  have c0 : w0.cell? ⟨w.heap.size, 0, none⟩ = some (.int .i64 2) := by rw [HBx.out.cell]; rfl
  have c3 : w0.cell? ⟨w.heap.size, 3, none⟩ = some vB := by rw [HBx.out.cell]; rfl
  have hz : zig xi < 18446744073709551616 := zig_lt xi hi1.out hi2.out
  have hf := fst_num (zig xi) hz rest 18446744073709551615 (by omega)
  have hc := isigned_good p s a w0 HI.out HS.out ((zig xi : Int), ((numL (zig xi)).length : Int), 0) (by rw [HD.out, hf]) xi (by rw [if_pos rfl, zag_zig]) (by simp only; omega) (by simp only; omega)
  simp only [Int.toNat_natCast] at hc
  have HC := Keep.mk hc
  clear hc hf hz
  go_wp2_with fail
  refine HC.out.mono ?_
  rintro e w1 ⟨bad, er, rfl, h1, h2, h3⟩
  rcases h3 with ⟨_, rfl, rfl⟩ | ⟨h, _⟩
  case inr => exact absurd rfl h
  have HI1 := Keep.mk h1
  have HG1 := Keep.mk h2
  have hBx1 := h2.blk HBx.out (by have := Hlt.out; omega)
  have d1 : w1.cell? ⟨w.heap.size, 1, none⟩ = some (.int .u64 (X : Int)) := by rw [hBx1.cell]; rfl
  have d3 : w1.cell? ⟨w.heap.size, 3, none⟩ = some vB := by rw [hBx1.cell]; rfl
  have HR1 := Keep.mk (HRx.out _ (HG0.out.trans h2))
  clear h1 h2 hBx1 c0 c3
  clear HC
  go_wp2
  go_ret
  exact ⟨by show Ending.returned (.bool _) = _; simp, HI1.out, HG0.out.trans HG1.out⟩

set_option maxRecDepth 2000 in
set_option maxHeartbeats 1000000 in
theorem back_raw (p : Nat) (s : ByteArray) (a : Nat) (vB : Value) (m rest : List Int) (X : Nat) (N : Int) (w : World) (hI : InAt w p s a none) (hb : s.size ≤ 140737488355328) (hD : (lst s).drop a = m ++ rest) (hR : ∀ wx, (Grown w wx fun k => k = p) → RowAt wx vB m)
    (hX : X < 18446744073709551616) (hm : m.length ≤ 140737488355328) :
    Calls Try.prog 26 #[ptr p, .agg #[.int .i64 3, .int .u64 (X : Int), .int .i64 N, vB]] w (BackPost p s (a + (m).length) w) := by
  have HI := Keep.mk (hI.box (.cells #[.int .i64 3, .int .u64 (X : Int), .int .i64 N, vB] 43))
  have HG0 := Keep.mk (Grown.alloc w (.cells #[.int .i64 3, .int .u64 (X : Int), .int .i64 N, vB] 43) fun k => k = p)
  have HS := Keep.mk hb
  have HD := Keep.mk hD
  have HRx := Keep.mk hR
  have HR := Keep.mk (hR _ HG0.out)
  have HX := Keep.mk hX
  have HM := Keep.mk hm
  have HBx := Keep.mk (Blk.new w 43 #[.int .i64 3, .int .u64 (X : Int), .int .i64 N, vB])
  have Hlt := Keep.mk hI.blk.lt
  clear hI hb hD hR hX hm
  go_enter Try.func26, Try.ntmps26
  go_wp2_with (refine wpList_boxA rfl 43 (.tmp 1) rfl _ rfl ?_; refine Hid.out ?_)
  refine hid_in ?_
  generalize w.alloc (.cells #[.int .i64 3, .int .u64 (X : Int), .int .i64 N, vB] 43) = w0 at *
  have c0 : w0.cell? ⟨w.heap.size, 0, none⟩ = some (.int .i64 3) := by rw [HBx.out.cell]; rfl
  have c3 : w0.cell? ⟨w.heap.size, 3, none⟩ = some vB := by rw [HBx.out.cell]; rfl
  obtain ⟨xa, xc, hvB⟩ := row_form HR.out
  subst hvB
  have hn := next_app m rest
  have HC := Keep.mk (iraw_good p s a (m.length : Int) w0 HI.out HS.out (by omega) (by have := HM.out; omega) (m ++ rest) HD.out.symm 0 hn.1.symm m.length hn.2.symm)
  rw [List.take_left] at HC
  clear hn
  go_wp2_with fail
  refine HC.out.mono ?_
  rintro e w1 ⟨bad, er, res, rfl, h1, h2, h3, h4⟩
  rcases h3 with ⟨_, rfl, rfl⟩ | ⟨h, _⟩
  case inr => exact absurd rfl h
  rcases h4 with ⟨_, hOr, _⟩ | ⟨h, _⟩
  case inr => exact absurd rfl h
  have HI1 := Keep.mk h1
  have HG1 := Keep.mk h2
  have hBx1 := h2.blk HBx.out (by have := Hlt.out; omega)
  have d3 : w1.cell? ⟨w.heap.size, 3, none⟩ = some (Value.slice xa m.length xc) := by rw [hBx1.cell]; rfl
  have HR1 := Keep.mk (HRx.out _ (HG0.out.trans h2))
  have hc1 := conv_row res m w1 hOr.row
  have hc2 := conv_row (Value.slice xa m.length xc) m w1 HR1.out
  obtain ⟨st, hst⟩ : ∃ st, Keep (st = strOfNums m) := ⟨_, ⟨rfl⟩⟩
  rw [← hst.out] at hc1 hc2
  clear h1 h2 hBx1 c0 c3 hOr
  clear HC
  go_wp2
  go_ret
  exact ⟨by show Ending.returned (.bool _) = _; simp, HI1.out, HG0.out.trans HG1.out⟩

set_option maxRecDepth 2000 in
set_option maxHeartbeats 1000000 in
theorem back_bytes (p : Nat) (s : ByteArray) (a : Nat) (vB : Value) (m rest : List Int) (X : Nat) (N : Int) (w : World) (hI : InAt w p s a none) (hb : s.size ≤ 140737488355328) (hD : (lst s).drop a = bform m ++ rest) (hR : ∀ wx, (Grown w wx fun k => k = p) → RowAt wx vB m)
    (hX : X < 18446744073709551616) (hm : m.length ≤ 140737488355328) :
    Calls Try.prog 26 #[ptr p, .agg #[.int .i64 4, .int .u64 (X : Int), .int .i64 N, vB]] w (BackPost p s (a + (bform m).length) w) := by
  have HI := Keep.mk (hI.box (.cells #[.int .i64 4, .int .u64 (X : Int), .int .i64 N, vB] 43))
  have HG0 := Keep.mk (Grown.alloc w (.cells #[.int .i64 4, .int .u64 (X : Int), .int .i64 N, vB] 43) fun k => k = p)
  have HS := Keep.mk hb
  have HD := Keep.mk hD
  have HRx := Keep.mk hR
  have HR := Keep.mk (hR _ HG0.out)
  have HX := Keep.mk hX
  have HM := Keep.mk hm
  have HBx := Keep.mk (Blk.new w 43 #[.int .i64 4, .int .u64 (X : Int), .int .i64 N, vB])
  have Hlt := Keep.mk hI.blk.lt
  clear hI hb hD hR hX hm
  go_enter Try.func26, Try.ntmps26
  go_wp2_with (refine wpList_boxA rfl 43 (.tmp 1) rfl _ rfl ?_; refine Hid.out ?_)
  refine hid_in ?_
  generalize w.alloc (.cells #[.int .i64 4, .int .u64 (X : Int), .int .i64 N, vB] 43) = w0 at *
  have c0 : w0.cell? ⟨w.heap.size, 0, none⟩ = some (.int .i64 4) := by rw [HBx.out.cell]; rfl
  have c3 : w0.cell? ⟨w.heap.size, 3, none⟩ = some vB := by rw [HBx.out.cell]; rfl
  obtain ⟨xa, xc, hvB⟩ := row_form HR.out
  subst hvB
  have hy := byt_form m rest (m.length : Int) (Int.le_refl _) (by have := HM.out; omega)
  have HC := Keep.mk (ibytes_good p s a (m.length : Int) m.length (by omega) w0 HI.out HS.out (by have := HM.out; omega) (bform m ++ rest) HD.out.symm 0 (by rw [hy]) (bform m).length (by rw [hy]) m (by rw [hy]))
  clear hy
  go_wp2_with fail
  refine HC.out.mono ?_
  rintro e w1 ⟨bad, er, res, rfl, h1, h2, h3, h4⟩
  rcases h3 with ⟨_, rfl, rfl⟩ | ⟨h, _⟩
  case inr => exact absurd rfl h
  rcases h4 with ⟨_, hOr, _⟩ | ⟨h, _⟩
  case inr => exact absurd rfl h
  have HI1 := Keep.mk h1
  have HG1 := Keep.mk h2
  have hBx1 := h2.blk HBx.out (by have := Hlt.out; omega)
  have d3 : w1.cell? ⟨w.heap.size, 3, none⟩ = some (Value.slice xa m.length xc) := by rw [hBx1.cell]; rfl
  have HR1 := Keep.mk (HRx.out _ (HG0.out.trans h2))
  have hc1 := conv_row res m w1 hOr.row
  have hc2 := conv_row (Value.slice xa m.length xc) m w1 HR1.out
  obtain ⟨st, hst⟩ : ∃ st, Keep (st = strOfNums m) := ⟨_, ⟨rfl⟩⟩
  rw [← hst.out] at hc1 hc2
  clear h1 h2 hBx1 c0 c3 hOr
  clear HC
  go_wp2
  go_ret
  exact ⟨by show Ending.returned (.bool _) = _; simp, HI1.out, HG0.out.trans HG1.out⟩

set_option maxRecDepth 2000 in
set_option maxHeartbeats 1000000 in
theorem back_text (p : Nat) (s : ByteArray) (a : Nat) (vB : Value) (m rest : List Int) (X : Nat) (N : Int) (w : World) (hI : InAt w p s a none) (hb : s.size ≤ 140737488355328) (hD : (lst s).drop a = bform m ++ rest) (hR : ∀ wx, (Grown w wx fun k => k = p) → RowAt wx vB m)
    (hX : X < 18446744073709551616) (hm : m.length ≤ 140737488355328) :
    Calls Try.prog 26 #[ptr p, .agg #[.int .i64 5, .int .u64 (X : Int), .int .i64 N, vB]] w (BackPost p s (a + (bform m).length) w) := by
  have HI := Keep.mk (hI.box (.cells #[.int .i64 5, .int .u64 (X : Int), .int .i64 N, vB] 43))
  have HG0 := Keep.mk (Grown.alloc w (.cells #[.int .i64 5, .int .u64 (X : Int), .int .i64 N, vB] 43) fun k => k = p)
  have HS := Keep.mk hb
  have HD := Keep.mk hD
  have HRx := Keep.mk hR
  have HR := Keep.mk (hR _ HG0.out)
  have HX := Keep.mk hX
  have HM := Keep.mk hm
  have HBx := Keep.mk (Blk.new w 43 #[.int .i64 5, .int .u64 (X : Int), .int .i64 N, vB])
  have Hlt := Keep.mk hI.blk.lt
  clear hI hb hD hR hX hm
  go_enter Try.func26, Try.ntmps26
  go_wp2_with (refine wpList_boxA rfl 43 (.tmp 1) rfl _ rfl ?_; refine Hid.out ?_)
  refine hid_in ?_
  generalize w.alloc (.cells #[.int .i64 5, .int .u64 (X : Int), .int .i64 N, vB] 43) = w0 at *
  have c0 : w0.cell? ⟨w.heap.size, 0, none⟩ = some (.int .i64 5) := by rw [HBx.out.cell]; rfl
  have c3 : w0.cell? ⟨w.heap.size, 3, none⟩ = some vB := by rw [HBx.out.cell]; rfl
  obtain ⟨xa, xc, hvB⟩ := row_form HR.out
  subst hvB
  have hy := byt_form m rest (m.length : Int) (Int.le_refl _) (by have := HM.out; omega)
  obtain ⟨st, hst⟩ : ∃ st, Keep (st = strOfNums m) := ⟨_, ⟨rfl⟩⟩
  have HC := Keep.mk (itext_good p s a (m.length : Int) m.length (by omega) w0 HI.out HS.out (by have := HM.out; omega) (bform m ++ rest) HD.out.symm 0 (by rw [hy]) (bform m).length (by rw [hy]) m (by rw [hy]) st hst.out)
  clear hy
  go_wp2_with fail
  refine HC.out.mono ?_
  rintro e w1 ⟨bad, er, rfl, h1, h2, h3⟩
  rcases h3 with ⟨_, rfl, rfl⟩ | ⟨h, _⟩
  case inr => exact absurd rfl h
  have HI1 := Keep.mk h1
  have HG1 := Keep.mk h2
  have hBx1 := h2.blk HBx.out (by have := Hlt.out; omega)
  have d1 : w1.cell? ⟨w.heap.size, 1, none⟩ = some (.int .u64 (X : Int)) := by rw [hBx1.cell]; rfl
  have d3 : w1.cell? ⟨w.heap.size, 3, none⟩ = some (Value.slice xa m.length xc) := by rw [hBx1.cell]; rfl
  have HR1 := Keep.mk (HRx.out _ (HG0.out.trans h2))
  clear h1 h2 hBx1 c0 c3
  have hc2 := conv_row _ m w1 HR1.out
  rw [← hst.out] at hc2
  clear HC
  go_wp2
  go_ret
  exact ⟨by show Ending.returned (.bool _) = _; simp, HI1.out, HG0.out.trans HG1.out⟩

set_option maxRecDepth 2000 in
set_option maxHeartbeats 1000000 in
theorem back_other (p : Nat) (s : ByteArray) (a : Nat) (vB : Value) (m rest : List Int) (K : Int) (X : Nat) (N : Int) (w : World) (hI : InAt w p s a none) (hb : s.size ≤ 140737488355328) (hD : (lst s).drop a = ([] : List Int) ++ rest) (hR : ∀ wx, (Grown w wx fun k => k = p) → RowAt wx vB m)
    (hX : X < 18446744073709551616) (hm : m.length ≤ 140737488355328) (k0 : (K == 0) = false) (k1 : (K == 1) = false) (k2 : (K == 2) = false) (k3 : (K == 3) = false) (k4 : (K == 4) = false) (k5 : (K == 5) = false) (k6 : (K == 6) = false) :
    Calls Try.prog 26 #[ptr p, .agg #[.int .i64 K, .int .u64 (X : Int), .int .i64 N, vB]] w (BackPost p s (a + (([] : List Int)).length) w) := by
  have HI := Keep.mk (hI.box (.cells #[.int .i64 K, .int .u64 (X : Int), .int .i64 N, vB] 43))
  have HG0 := Keep.mk (Grown.alloc w (.cells #[.int .i64 K, .int .u64 (X : Int), .int .i64 N, vB] 43) fun k => k = p)
  have HS := Keep.mk hb
  have HD := Keep.mk hD
  have HRx := Keep.mk hR
  have HR := Keep.mk (hR _ HG0.out)
  have HX := Keep.mk hX
  have HM := Keep.mk hm
  have HBx := Keep.mk (Blk.new w 43 #[.int .i64 K, .int .u64 (X : Int), .int .i64 N, vB])
  have Hlt := Keep.mk hI.blk.lt
  clear hI hb hD hR hX hm
  go_enter Try.func26, Try.ntmps26
  go_wp2_with (refine wpList_boxA rfl 43 (.tmp 1) rfl _ rfl ?_; refine Hid.out ?_)
  refine hid_in ?_
  generalize w.alloc (.cells #[.int .i64 K, .int .u64 (X : Int), .int .i64 N, vB] 43) = w0 at *
  have c0 : w0.cell? ⟨w.heap.size, 0, none⟩ = some (.int .i64 K) := by rw [HBx.out.cell]; rfl
  have c3 : w0.cell? ⟨w.heap.size, 3, none⟩ = some vB := by rw [HBx.out.cell]; rfl
  go_wp2
  go_ret
  exact ⟨rfl, HI.out, HG0.out⟩

set_option maxRecDepth 2000 in
set_option maxHeartbeats 1000000 in
theorem back_hash (p : Nat) (s : ByteArray) (a : Nat) (vB : Value) (m rest : List Int) (X : Nat) (N : Int) (w : World) (hI : InAt w p s a none) (hb : s.size ≤ 140737488355328) (hD : (lst s).drop a = hl 32 (hof m) ++ rest) (hR : ∀ wx, (Grown w wx fun k => k = p) → RowAt wx vB m)
    (hX : X < 18446744073709551616) (hm : m.length ≤ 140737488355328) :
    Calls Try.prog 26 #[ptr p, .agg #[.int .i64 6, .int .u64 (X : Int), .int .i64 N, vB]] w (BackPost p s (a + (hl 32 (hof m)).length) w) := by
  have HI := Keep.mk (hI.box (.cells #[.int .i64 6, .int .u64 (X : Int), .int .i64 N, vB] 43))
  have HG0 := Keep.mk (Grown.alloc w (.cells #[.int .i64 6, .int .u64 (X : Int), .int .i64 N, vB] 43) fun k => k = p)
  have HS := Keep.mk hb
  have HD := Keep.mk hD
  have HRx := Keep.mk hR
  have HR := Keep.mk (hR _ HG0.out)
  have HX := Keep.mk hX
  have HM := Keep.mk hm
  have HBx := Keep.mk (Blk.new w 43 #[.int .i64 6, .int .u64 (X : Int), .int .i64 N, vB])
  have Hlt := Keep.mk hI.blk.lt
  clear hI hb hD hR hX hm
  go_enter Try.func26, Try.ntmps26
  go_wp2_with (refine wpList_boxA rfl 43 (.tmp 1) rfl _ rfl ?_; refine Hid.out ?_)
  refine hid_in ?_
  generalize w.alloc (.cells #[.int .i64 6, .int .u64 (X : Int), .int .i64 N, vB] 43) = w0 at *
  have c0 : w0.cell? ⟨w.heap.size, 0, none⟩ = some (.int .i64 6) := by rw [HBx.out.cell]; rfl
  have c3 : w0.cell? ⟨w.heap.size, 3, none⟩ = some vB := by rw [HBx.out.cell]; rfl
  have hn := next_app (hl 32 (hof m)) rest
  rw [hl_len] at hn
  have hcc : bytesA 32 (hrd (hl 32 (hof m) ++ rest) 0) = bytesA 32 (hof m) := bytesA_congr fun i hi => by
    have h1 := hl_get 32 (hof m) i hi
    rw [List.getD_eq_getElem?_getD] at h1
    simp only [hrd, if_true]
    rw [List.getD_eq_getElem?_getD, List.getElem?_append_left (by rw [hl_len]; exact hi), h1]
  have hc := ihash_good p s a w0 HI.out HS.out (hl 32 (hof m) ++ rest) HD.out.symm 0 hn.1.symm 32 hn.2.symm
  rw [hcc] at hc
  rw [hl_len]
  have HC := Keep.mk hc
  obtain ⟨c, hcd⟩ : ∃ c, Keep (c = hof m) := ⟨_, ⟨rfl⟩⟩
  rw [← hcd.out] at HC
  clear hn hcc hc
  go_wp2_with fail
  refine HC.out.mono ?_
  rintro e w1 ⟨bad, er, rfl, h1, h2, h3⟩
  rcases h3 with ⟨_, rfl, rfl⟩ | ⟨h, _⟩
  case inr => exact absurd rfl h
  have HI1 := Keep.mk h1
  have HG1 := Keep.mk h2
  have hBx1 := h2.blk HBx.out (by have := Hlt.out; omega)
  have d1 : w1.cell? ⟨w.heap.size, 1, none⟩ = some (.int .u64 (X : Int)) := by rw [hBx1.cell]; rfl
  have d3 : w1.cell? ⟨w.heap.size, 3, none⟩ = some vB := by rw [hBx1.cell]; rfl
  have HR1 := Keep.mk (HRx.out _ (HG0.out.trans h2))
  clear h1 h2 hBx1 c0 c3
  clear HC
  have HNw := Keep.mk (Blk.new w1 84 (bytesA 32 fun _ => 0))
  go_wp2_with (first | (refine wpList_new rfl 84 rfl _ Try.new84 ?_) | (refine wpList_store_row rfl 84 (.tmp 17) (.tmp 132) rfl w1.heap.size (bytesA 32 c) rfl rfl 84 (bytesA 32 fun _ => 0) HNw.out (Try.size84B _) (bytesA_sizes _ _ _) (bytesA_one _ _) ?_))
  have HN2 := Keep.mk (HNw.out.setRow (bytesA 32 c))
  have HBx2 : Keep (Below w1.heap.size w1 ((w1.alloc (.cells (bytesA 32 fun _ => 0) 84)).setRow w1.heap.size (bytesA 32 c))) := ⟨below_setRow (below_new w1 _) (Nat.le_refl _) _⟩
  generalize (w1.alloc (.cells (bytesA 32 fun _ => 0) 84)).setRow w1.heap.size (bytesA 32 c) = w2 at *
  have HI2 : Keep (InAt w2 p s (a + 32) none) := ⟨HI1.out.blk.below HBx2.out HI1.out.blk.lt, HI1.out.le⟩
  have HR2 := Keep.mk (HR1.out.below HBx2.out)
  have HS2 : Keep (∀ wx, Below w2.heap.size w2 wx → wx.rangeAt w1.heap.size 0 (bytesA 32 c).toList ∧ wx.cell? ⟨w.heap.size, 3, none⟩ = some vB) := ⟨fun wx hx => ⟨blk_range (HN2.out.below hx HN2.out.lt), by
    have h1 := cell_lt d3
    have h2 : w2.cell? ⟨w.heap.size, 3, none⟩ = some vB := by rw [HBx2.out.cell (p := ⟨w.heap.size, 3, none⟩) h1]; exact d3
    rw [hx.cell (p := ⟨w.heap.size, 3, none⟩) (cell_lt h2)]; exact h2⟩⟩
  have hD0 : Below w2.heap.size w2 w2.drew := (Below.refl _ _).drew
  have hi : (Try.prog.info? 84).map (·.size) = some ((bytesA 32 c).toList).length := by rw [Array.length_toList, bytesA_size]; exact Try.size84
  have hu := Try.underlying84
  have heq := run_eql_arr c
  obtain ⟨CM, hCM⟩ : ∃ CM, Keep (CM = (bytesA 32 c).toList) := ⟨_, ⟨rfl⟩⟩
  obtain ⟨AM, hAM⟩ : ∃ AM, Keep (AM = bytesA 32 c) := ⟨_, ⟨rfl⟩⟩
  rw [← hCM.out] at HS2 hi
  have hCA : CM.toArray = AM := by rw [hCM.out, hAM.out]
  rw [← hAM.out] at heq
  clear d1 d3
  refine wp_region_held_drew (S := fun w' => w'.rangeAt w1.heap.size 0 CM ∧ w'.cell? ⟨w.heap.size, 3, none⟩ = some vB) (by kernel_rfl) (HS2.out _ hD0) (fun hHeld => ?_)
  refine wpAnyH_take (i := 0) (oi := ⟨some 134, Op.move (Operand.tmp 18), 27, _, _, none⟩) (v := .nilIface) rfl (by kernel_rfl) (by kernel_rfl) (by kernel_rfl) (fun _ _ _ h => h) (Or.inl ⟨by rfl, fun w hS => by go_simp⟩) hHeld ?_
  simp only [Act.put, List.setIfInBounds_toArray, List.set_cons_zero, List.set_cons_succ]
  refine wpAnyH_take (i := 1) (oi := ⟨some 135, Op.binOp BinOp.eql 27 (Operand.tmp 134) (Operand.const Value.nilIface) 27, 4, _, _, none⟩) (v := .bool true) rfl (by kernel_rfl) (by kernel_rfl) (by kernel_rfl) (fun _ _ _ h => h) (Or.inl ⟨by rfl, fun w hS => by go_simp⟩) hHeld ?_
  simp only [Act.put, List.setIfInBounds_toArray, List.set_cons_zero, List.set_cons_succ]
  refine wpAnyH_take (i := 2) (oi := ⟨some 136, Op.move (Operand.tmp 135), 4, _, _, none⟩) (v := .bool true) rfl (by kernel_rfl) (by kernel_rfl) (by kernel_rfl) (fun _ _ _ h => h) (Or.inl ⟨by rfl, fun w hS => by go_simp⟩) hHeld ?_
  simp only [Act.put, List.setIfInBounds_toArray, List.set_cons_zero, List.set_cons_succ]
  refine wpAnyH_take (i := 3) (oi := ⟨some 137, Op.load 84 (Operand.tmp 17), 84, _, _, some (2, true)⟩) (v := .agg (CM).toArray) rfl (by kernel_rfl) (by kernel_rfl) (by kernel_rfl) (fun _ _ _ h => h) (yieldsIf_load_mid (by rfl) 84 (Operand.tmp 17) rfl w1.heap.size 0 rfl CM _ (fun w hS => hS.1) hu rfl hi) hHeld ?_
  simp only [Act.put, List.setIfInBounds_toArray, List.set_cons_zero, List.set_cons_succ]
  rw [hCA]
  refine wpAnyH_take (i := 4) (oi := ⟨some 138, Op.fieldAddr 43 (Operand.tmp 3) 3, 0, _, _, some (2, true)⟩) (v := .pointer (some ⟨w.heap.size, 3, none⟩)) rfl (by kernel_rfl) (by kernel_rfl) (by kernel_rfl) (fun _ _ _ h => h) (Or.inl ⟨by rfl, fun w hS => by go_simp⟩) hHeld ?_
  simp only [Act.put, List.setIfInBounds_toArray, List.set_cons_zero, List.set_cons_succ]
  refine wpAnyH_take (i := 5) (oi := ⟨some 139, Op.load 36 (Operand.tmp 138), 36, _, _, some (2, true)⟩) (v := vB) rfl (by kernel_rfl) (by kernel_rfl) (by kernel_rfl) (fun _ _ _ h => h) (Or.inl ⟨by rfl, fun w hS => by obtain ⟨_, hS2⟩ := hS; go_simp⟩) hHeld ?_
  simp only [Act.put, List.setIfInBounds_toArray, List.set_cons_zero, List.set_cons_succ]
  refine wpAnyH_ready (rs := [6]) (by kernel_rfl) (by simp) ?_
  refine AllReadyH.cons (o := ⟨some 140, Op.call { callee := Callee.value (Operand.func 41), args := #[Operand.tmp 139], argTypes := #[36] }, 84, _, _, some (2, true)⟩) rfl (fun K hK => ?_) AllReadyH.nil
  rw [if_pos (by rfl)]
  refine wp_callF 41 _ _ rfl Try.enter41 #[vB] (by simp [Act.eval]) (fun v w' => v = .agg AM ∧ Below w2.heap.size w2 w') ?_ ?_
  · refine (hashOf_any vB m _ (HR2.out.below hD0) HM.out).mono ?_
    rintro e w3 ⟨rfl, hb3⟩
    exact ⟨_, rfl, by rw [hAM.out, hcd.out], hD0.trans (hb3.mono hD0.size)⟩
  rintro v w3 ⟨rfl, hb3⟩
  refine hK.out _ _ (HS2.out _ hb3) fun hHeld3 => ?_
  clear hK
  simp only [Act.put, List.setIfInBounds_toArray, List.set_cons_zero, List.set_cons_succ]
  refine wpAnyH_take (i := 7) (oi := ⟨some 141, Op.binOp BinOp.eql 84 (Operand.tmp 137) (Operand.tmp 140) 84, 4, _, _, some (2, true)⟩) (v := .bool true) rfl (by kernel_rfl) (by kernel_rfl) (by kernel_rfl) (fun _ _ _ h => h) (Or.inl ⟨by rfl, fun w hS => by go_simp⟩) hHeld3 ?_
  simp only [Act.put, List.setIfInBounds_toArray, List.set_cons_zero, List.set_cons_succ]
  refine wpAnyH_take (i := 8) (oi := ⟨some 142, Op.pick (Operand.tmp 136) (Operand.tmp 141) (Operand.const (Value.bool false)), 4, _, _, none⟩) (v := .bool true) rfl (by kernel_rfl) (by kernel_rfl) (by kernel_rfl) (fun _ _ _ h => h) (Or.inl ⟨by rfl, fun w hS => by go_simp⟩) hHeld3 ?_
  simp only [Act.put, List.setIfInBounds_toArray, List.set_cons_zero, List.set_cons_succ]
  refine wpAnyH_take (i := 9) (oi := ⟨some 4, Op.assign (Operand.tmp 142), 4, _, _, none⟩) (v := .bool true) rfl (by kernel_rfl) (by kernel_rfl) (by kernel_rfl) (fun _ _ _ h => h) (Or.inl ⟨by rfl, fun w hS => by go_simp⟩) hHeld3 ?_
  simp only [Act.put, List.setIfInBounds_toArray, List.set_cons_zero, List.set_cons_succ]
  refine wpAnyH_done (by kernel_rfl) ?_ _
  have HI3 : Keep (InAt w3 p s (a + 32) none) := ⟨HI2.out.blk.below hb3 HI2.out.blk.lt, HI2.out.le⟩
  have HG3 : Keep (Grown w w3 fun k => k = p) := ⟨((HG0.out.trans HG1.out).next (Grown.below (S := fun _ => False) HBx2.out) fun _ _ h => h.elim).next (Grown.below (S := fun _ => False) hb3) fun _ _ h => h.elim⟩
  clear hHeld hHeld3 hb3
  go_wp2
  go_ret
  exact ⟨rfl, HI3.out, HG3.out⟩

theorem back_any (p : Nat) (s : ByteArray) (a : Nat) (vB : Value) (m rest : List Int) (K : Int) (X : Nat) (N : Int) (w : World) (hI : InAt w p s a none) (hb : s.size ≤ 140737488355328) (hD : (lst s).drop a = frm K X m ++ rest)
    (hR : ∀ wx, (Grown w wx fun k => k = p) → RowAt wx vB m) (hX : X < 18446744073709551616) (hm : m.length ≤ 140737488355328) :
    Calls Try.prog 26 #[ptr p, .agg #[.int .i64 K, .int .u64 (X : Int), .int .i64 N, vB]] w (BackPost p s (a + (frm K X m).length) w) := by
  by_cases k0 : K = 0
  · subst k0; rw [frm_0] at hD ⊢; exact back_byte p s a vB m rest X N w hI hb hD hR hX hm
  by_cases k1 : K = 1
  · subst k1; rw [frm_1] at hD ⊢; exact back_num p s a vB m rest X N w hI hb hD hR hX hm
  by_cases k2 : K = 2
  · subst k2; rw [frm_2] at hD ⊢; exact back_signed p s a vB m rest X N w hI hb hD hR hX hm
  by_cases k3 : K = 3
  · subst k3; rw [frm_3] at hD ⊢; exact back_raw p s a vB m rest X N w hI hb hD hR hX hm
  by_cases k4 : K = 4
  · subst k4; rw [frm_4] at hD ⊢; exact back_bytes p s a vB m rest X N w hI hb hD hR hX hm
  by_cases k5 : K = 5
  · subst k5; rw [frm_5] at hD ⊢; exact back_text p s a vB m rest X N w hI hb hD hR hX hm
  by_cases k6 : K = 6
  · subst k6; rw [frm_6] at hD ⊢; exact back_hash p s a vB m rest X N w hI hb hD hR hX hm
  rw [frm_n K X m k0 k1 k2 k3 k4 k5 k6] at hD ⊢
  exact back_other p s a vB m rest K X N w hI hb hD hR hX hm (by simpa using k0) (by simpa using k1) (by simpa using k2) (by simpa using k3) (by simpa using k4) (by simpa using k5) (by simpa using k6)
end Go.Proofs.Ytanmbbckkfkhpaa
