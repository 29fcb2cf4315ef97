import Derived.Test.YtlggejehaonkcaaDoorA07
import Derived.Deep.RegionHeld3
import Derived.Deep.MidRow
import Derived.Lib.EndianBits
import Derived.ChangeKeysEq
import Derived.Laws.StructEq
import Derived.Laws.Cover3
import Derived.Lib.Strings
namespace Go.Proofs.YtlggejehaonkcaaDoor
open Go.RowKit
set_option linter.unusedSimpArgs false
set_option linter.unusedVariables false

theorem Tryd.in39 (w : World) (vs : Array Value) : (callFunc 39 vs).run Tryd.prog w = .ok (.enter 39 vs) w := by kernel_rfl
def leN (l : List Int) : Nat → Int
 | 0 => 0
 | t + 1 => leN l t + l.getD t 0 * 256 ^ t
theorem leN_lt (l : List Int) (h : Byts l) : ∀ t, 0 ≤ leN l t ∧ leN l t < 256 ^ t
 | 0 => by simp [leN]
 | t + 1 => by
  have h1 := leN_lt l h t
  have h2 := h.getD t
  have hp : (0 : Int) < 256 ^ t := Int.pow_pos (by omega)
  simp only [leN, Int.pow_succ]
  generalize (256 : Int) ^ t = P at *
  constructor
  ·have := Int.mul_nonneg h2.1 (Int.le_of_lt hp); omega
  ·have : l.getD t 0 * P ≤ 255 * P := Int.mul_le_mul_of_nonneg_right (by omega) (Int.le_of_lt hp)
   omega
theorem or0_all : ∀ m : Fin 256, bits BinOp.or IntKind.u32 0 (m.val : Int) = (m.val : Int) := by decide +kernel
theorem or_byte (n c : Int) (t : Nat) (ht : t < 4) (hn : 0 ≤ n ∧ n < 256 ^ t) (hc : 0 ≤ c ∧ c < 256) : bits BinOp.or IntKind.u32 n (c * 256 ^ t) = n + c * 256 ^ t := by
 obtain rfl | rfl | rfl | rfl : t = 0 ∨ t = 1 ∨ t = 2 ∨ t = 3 := by omega
 ·simp at hn
  obtain rfl : n = 0 := by omega
  have := or0_all ⟨c.toNat, by omega⟩
  rw [show ((c.toNat : Nat) : Int) = c by omega] at this
  simp only [Int.pow_zero, Int.mul_one, Int.zero_add]
  exact this
 ·exact u32_or8 _ _ hn.1 (by omega) (by omega) (by omega) (by omega)
 ·exact u32_or16 _ _ hn.1 (by omega) (by omega) (by omega) (by omega)
 ·exact u32_or24 _ _ hn.1 (by omega) (by omega) (by omega) (by omega)
theorem sh_byte (c : Int) (t : Nat) (ht : t < 4) (hc : 0 ≤ c ∧ c < 256) : IntKind.u32.wrap (c * 2 ^ (8 * (t : Int)).toNat) = c * 256 ^ t := by
 rw [show (8 * (t : Int)).toNat = 8 * t by omega, IntKind.wrap_u32]
 obtain rfl | rfl | rfl | rfl : t = 0 ∨ t = 1 ∨ t = 2 ∨ t = 3 := by omega
 ·simp; omega
 ·simp; omega
 ·simp; omega
 ·simp; omega
theorem slB_lo (vb : Value) (lb : List Int) (w : World) (hr : RowAt w vb lb) (a : Nat) (ha : a ≤ lb.length) :
  ∃ vs, (∀ wx : World, (Instr.sliceAt 41 vb (some (.int .i64 (a : Int))) none none).run Tryd.prog wx = .ok vs wx) ∧ ∀ wx, RowAt wx vb lb → RowAt wx vs (lb.drop a) := by
 have hu : Tryd.prog.underlying 41 = some (.slice (Tryd.prog.elem 41)) := by rw [Tryd.elemBy]; exact Tryd.underlying41
 obtain ⟨b, c, rfl⟩ := row_form hr
 refine ⟨sliced b a lb.length c 1, fun wx => ?_, fun wx hx => ?_⟩
 ·have h1 := run_slice_l (P := Tryd.prog) (w := wx) 41 b lb.length c hu .i64 (a : Int) (by omega) (by omega)
  rw [run_sliceAt_slice (P := Tryd.prog) (w := wx) 41 (.slice b lb.length c) (some (.int .i64 (a : Int))) none none hu, h1, Tryd.elemBy]
  refine (congrArg (fun z => Result.andThen z fun s w => Result.ok (sliced b (a : Int).toNat lb.length c s) w) (Tryd.sizeOf5 wx)).trans ?_
  show Result.ok (sliced b (a : Int).toNat lb.length c 1) wx = _
  rw [Int.toNat_natCast]
 ·unfold sliced
  rcases hx with ⟨e, h⟩ | ⟨ad, c', e, h⟩ | ⟨g, off, cap, e, hc, h⟩
  ·injection e with e1 e2 e3
   subst e1 e3 h
   obtain rfl : a = 0 := by simpa using ha
   exact .inl ⟨rfl, rfl⟩
  ·injection e with e1 e2 e3
   subst e1 h
   obtain rfl : a = 0 := by simpa using ha
   exact .inr (.inl ⟨ad, c, by split <;> simp [Addr.add], rfl⟩)
  ·injection e with e1 e2 e3
   subst e1 e3
   by_cases hca : c = a
   ·rw [if_pos hca]
    have hd : lb.drop a = [] := List.drop_eq_nil_of_le (by omega)
    exact .inr (.inl ⟨_, _, by rw [show lb.length - a = 0 by omega], hd⟩)
   ·rw [if_neg hca]
    refine .inr (.inr ⟨g, off + a, c - a, by rw [List.length_drop]; simp [Addr.add], by rw [List.length_drop]; omega, fun i hi => ?_⟩)
    rw [List.length_drop] at hi
    rw [show off + a + i = off + (a + i) by omega, h (a + i) (by omega)]
    simp [List.getD_eq_getElem?_getD]
theorem slB_hi32 (vb : Value) (lb : List Int) (w : World) (hr : RowAt w vb lb) (a : Nat) (ha : a ≤ lb.length) :
  ∃ vs, (∀ wx : World, (Instr.sliceAt 41 vb none (some (.int .u32 (a : Int))) none).run Tryd.prog wx = .ok vs wx) ∧ ∀ wx, RowAt wx vb lb → RowAt wx vs (lb.take a) := by
 obtain ⟨vs, h1, h2⟩ := sub_any vb lb w hr a ha
 refine ⟨vs, fun wx => ?_, h2⟩
 have hu : Tryd.prog.underlying 41 = some (.slice (Tryd.prog.elem 41)) := by rw [Tryd.elemBy]; exact Tryd.underlying41
 obtain ⟨b, c, rfl⟩ := row_form hr
 have hac : (a : Int) ≤ (c : Int) := by
  rcases hr with ⟨e, h⟩ | ⟨ad, c', e, h⟩ | ⟨g, off, cap, e, hc, h⟩
  ·subst h; simp at ha; omega
  ·subst h; simp at ha; omega
  ·injection e with e1 e2 e3; subst e3; omega
 rw [← h1 wx, run_sliceAt_slice (P := Tryd.prog) (w := wx) 41 _ none (some (.int .u32 (a : Int))) none hu, run_sliceAt_slice (P := Tryd.prog) (w := wx) 41 _ none (some (.int .i64 (a : Int))) none hu, run_slice_h (P := Tryd.prog) (w := wx) 41 b lb.length c hu .u32 (a : Int) (by omega) hac, run_slice_h (P := Tryd.prog) (w := wx) 41 b lb.length c hu .i64 (a : Int) (by omega) hac]
theorem Tryd.cells5r : Tryd.prog.cellsOf 5 = 1 := by kernel_rfl
theorem Tryd.isAgg5r (w : World) : (isAgg 5).run Tryd.prog w = .ok false w := by kernel_rfl
theorem Tryd.size5r : (Tryd.prog.info? 5).map (·.size) = some 1 := by kernel_rfl
theorem run_part16 (c : Nat → Int) (i : Nat) (hi : i < 16) (w : World) : (part 5 (bytesA 16 c) i).run Tryd.prog w = .ok (.int .u8 (c i)) w := by
 unfold part
 rw [Sem.run_bind, Tryd.isAgg5r]
 simp [Result.andThen, bytesA_get 16 c i hi]
theorem run_items16 (c e : Nat → Int) (d : Nat) (w : World) : ∀ is : List Nat, (∀ i ∈ is, i < 16) → (Op.eqItems (d + 1) 5 1 (bytesA 16 c) (bytesA 16 e) is).run Tryd.prog w = .ok (is.all fun i => c i == e i) w
 | [], _ => by simp [Op.eqItems]
 | i :: is, h => by
  have hi := h i (by simp)
  have ih := run_items16 c e d w is (fun j hj => h j (by simp [hj]))
  simp only [Op.eqItems, Sem.run_bind, Nat.mul_one, run_part16 c i hi, run_part16 e i hi, Result.andThen_ok]
  rw [run_equalIn_int (P := Tryd.prog) (w := w) d 5 .u8 .u8 (c i) (e i) Tryd.underlying5]
  by_cases hh : c i = e i
  ·simp [Result.andThen_ok, ih, hh]
  ·simp [Result.andThen_ok, hh]
def eq16 (c e : Nat → Int) : Bool := (List.range 16).all fun i => c i == e i
theorem run_neq16 (c e : Nat → Int) (w : World) : (binOp .neq 104 (.agg (bytesA 16 c)) (.agg (bytesA 16 e))).run Tryd.prog w = .ok (.bool (!eq16 c e)) w := by
 obtain ⟨i, hi, _⟩ := Option.map_eq_some_iff.1 Tryd.size5r
 rw [run_neq_struct, run_equalIn_array (P := Tryd.prog) w 9999 _ _ Tryd.underlying104 hi, Tryd.cells5r, run_items16 c e 9998 w _ (fun j hj => List.mem_range.1 hj)]
 rfl
def bgn (l : List Int) : Option (List Int) :=
 if l.length < 16 then none
 else
  let n := (leN l 4).toNat
  let p := (l.drop 16).take n
  if n < 1 ∨ 1048576 < n ∨ l.length - 16 < n then none
  else if eq16 (hdF p) (fun i => l.getD i 0) then some p else none

theorem WL.slLoB {ops : Array Oper} {rest : List Oper} {o : Oper} {a : Act} {w : World} {Q : Exit → Act → World → Prop} (hw : Region.wanted o (yielded ops a.tmps) = true) (x lo : Operand) (ho : o.op = .slice 41 x (some lo) none none)
  (vx vh vs : Value) (hx : a.eval x = vx) (hh : a.eval lo = vh) (hr : (Instr.sliceAt 41 vx (some vh) none none).run Tryd.prog w = .ok vs w) (h : WL Tryd.prog ops Q rest (a.put o.dst vs) w) : WL Tryd.prog ops Q (o :: rest) a w :=
 WL.val hw vs (by unfold execOp; simp only [ho, hx, hh, Option.map_some, Option.map_none, Sem.run_bind, hr, Result.andThen_ok, Sem.run_pure]) h
theorem WL.slHiB {ops : Array Oper} {rest : List Oper} {o : Oper} {a : Act} {w : World} {Q : Exit → Act → World → Prop} (hw : Region.wanted o (yielded ops a.tmps) = true) (x hi : Operand) (ho : o.op = .slice 41 x none (some hi) none)
  (vx vh vs : Value) (hx : a.eval x = vx) (hh : a.eval hi = vh) (hr : (Instr.sliceAt 41 vx none (some vh) none).run Tryd.prog w = .ok vs w) (h : WL Tryd.prog ops Q rest (a.put o.dst vs) w) : WL Tryd.prog ops Q (o :: rest) a w :=
 WL.val hw vs (by unfold execOp; simp only [ho, hx, hh, Option.map_some, Option.map_none, Sem.run_bind, hr, Result.andThen_ok, Sem.run_pure]) h
theorem yieldsIf_loadAj {P : Program} {ops : Array Oper} {S : World → Prop} {op : Oper} {a : Act} (hw : Region.wanted op (yielded ops a.tmps) = true) (ty : TypeId) (x : Operand) (ho : op.op = .load ty x)
  (b o : Nat) (hx : a.eval x = .pointer (some ⟨b, o, none⟩)) (cs : Array Value) (d : TypeDesc) (hS : ∀ w, S w → w.rangeAt b o cs.toList)
  (hu : P.underlying ty = some d) (hd : d.isRow = true) (hi : (P.info? ty).map (·.size) = some cs.size) : YieldsIf P ops S op (.agg cs) a := by
 have := yieldsIf_load_mid (P := P) (S := S) hw ty x ho b o hx cs.toList d hS hu hd (by rw [Array.length_toList]; exact hi)
 rwa [Array.toArray_toList] at this
set_option maxRecDepth 8000 in
set_option maxHeartbeats 2000000 in
theorem begun_short (v : Value) (l : List Int) (w : World) (hr : RowAt w v l) (hL : l.length < 16) : Calls Tryd.prog 39 #[v] w fun e w' => e = .returned (.slice none 0 0) ∧ Below w.heap.size w w' := by
 obtain ⟨va, vc, rfl⟩ := row_form hr
 have HR := Keep.mk hr
 have HL := Keep.mk hL
 clear hr hL
 go_enter Tryd.func39, Tryd.ntmps39
 have h16 : (l.length : Int) < 16 := by have := HL.out; omega
 refine wp_seq_k fun K1 hK1 => rgn ?_
 refine VlS (.slice none 0 0) ?_
 refine WL.nil (hK1 _ _ ?_)
 refine wp_seq_k fun K2 hK2 => ?_
 refine wp_seq_k fun K3 hK3 => rgn ?_
 refine VlS (.slice va l.length vc) ?_
 refine VlS (.int .i64 (l.length : Int)) ?_
 refine VlS (.bool true) ?_
 refine WL.nil (hK3 _ _ ?_)
 refine wp_cond_true rfl ?_
 refine wp_seq_k fun K4 hK4 => rgn ?_
 refine VlS (.slice none 0 0) ?_
 refine WL.nil (hK4 _ _ ?_)
 refine wp_ret ?_
 go_ret
 exact ⟨rfl, Below.refl _ _⟩
set_option maxRecDepth 8000 in
set_option maxHeartbeats 2000000 in
theorem begun_len (v : Value) (l : List Int) (w : World) (hr : RowAt w v l) (hL : 16 ≤ l.length) (hB : Byts l) (hC : (leN l 4).toNat < 1 ∨ 1048576 < (leN l 4).toNat ∨ l.length - 16 < (leN l 4).toNat) : Calls Tryd.prog 39 #[v] w fun e w' => e = .returned (.slice none 0 0) ∧ Below w.heap.size w w' := by
 obtain ⟨va, vc, rfl⟩ := row_form hr
 have HR := Keep.mk hr
 have HL := Keep.mk hL
 have HB := Keep.mk hB
 have HC := Keep.mk hC
 clear hr hL hB hC
 go_enter Tryd.func39, Tryd.ntmps39
 have h16 : ¬ (l.length : Int) < 16 := by have := HL.out; omega
 obtain ⟨gb, go, hva, hcell⟩ : ∃ gb go, va = some ⟨gb, go, none⟩ ∧ Keep (∀ i, i < l.length → w.cell? ⟨gb, go + i, none⟩ = some (.int .u8 (l.getD i 0))) := by
  rcases HR.out with ⟨_, h⟩ | ⟨_, _, _, h⟩ | ⟨b, off, cap, e, _, h⟩
  ·have := HL.out; rw [h] at this; simp at this
  ·have := HL.out; rw [h] at this; simp at this
  ·injection e with e1; exact ⟨b, off, e1, ⟨h⟩⟩
 subst hva
 refine wp_seq_k fun K1 hK1 => rgn ?_
 refine VlS (.slice none 0 0) ?_
 refine WL.nil (hK1 _ _ ?_)
 refine wp_seq_k fun K2 hK2 => ?_
 refine wp_seq_k fun K3 hK3 => rgn ?_
 refine VlS (.slice (some ⟨gb, go, none⟩) l.length vc) ?_
 refine VlS (.int .i64 (l.length : Int)) ?_
 refine VlS (.bool false) ?_
 refine WL.nil (hK3 _ _ ?_)
 refine wp_cond_false rfl ?_
 refine wp_skip ?_
 refine hK2 _ _ ?_
 refine wp_seq_k fun K4 hK4 => rgn ?_
 refine VlS (.int .u32 0) ?_
 refine WL.nil (hK4 _ _ ?_)
 refine wp_seq_k fun K5 hK5 => ?_
 refine wp_seq_k fun K6 hK6 => rgn ?_
 refine VlS (.int .i64 0) ?_
 refine WL.nil (hK6 _ _ ?_)
 refine wp_block ?_
 refine wp_loop (fun ac wr => ∃ (t : Nat) (f : Nat → Value), ac = { tmps := #[.slice (some ⟨gb, go, none⟩) l.length vc, undef, .slice none 0 0, .int .u32 (leN l t), f 4, undef, undef, .slice (some ⟨gb, go, none⟩) l.length vc, .int .i64 (l.length : Int), .bool false, .int .i64 (t : Int), f 11, f 12, f 13, f 14, f 15, f 16, f 17, f 18, f 19, f 20, f 21, f 22, f 23, undef, undef, undef, undef, undef, undef, undef, undef, undef, undef, undef, undef, undef, undef, undef, undef, undef, undef, undef, undef, undef, undef, undef, undef, undef], defers := [] } ∧ t ≤ 4 ∧ w = wr) (fun a _ => 4 - (intOf (a.tmps.getD 10 undef)).toNat) ⟨0, fun zz => [.slice (some ⟨gb, go, none⟩) l.length vc, undef, .slice none 0 0, .int .u32 0, undef, undef, undef, .slice (some ⟨gb, go, none⟩) l.length vc, .int .i64 (l.length : Int), .bool false, .int .i64 0, undef, undef, undef, undef, undef, undef, undef, undef, undef, undef, undef, undef, undef, undef, undef, undef, undef, undef, undef, undef, undef, undef, undef, undef, undef, undef, undef, undef, undef, undef, undef, undef, undef, undef, undef, undef, undef, undef].getD zz undef, rfl, by omega, rfl⟩ ?_
 rintro ac wr ⟨t, f, rfl, ht, rfl⟩
 by_cases hlt : t < 4
 ·have hlt' : (t : Int) < 4 := by omega
  have htl : (t : Int) < (l.length : Int) := by have := HL.out; omega
  have hwt : IntKind.i64.wrap ((t : Int) + 1) = (t : Int) + 1 := by rw [IntKind.wrap_i64]; omega
  have hw8 : IntKind.i64.wrap (8 * (t : Int)) = 8 * (t : Int) := by rw [IntKind.wrap_i64]; omega
  obtain ⟨c, hc⟩ : ∃ c, Keep (c = l.getD t 0) := ⟨_, ⟨rfl⟩⟩
  obtain ⟨n, hn⟩ : ∃ n, Keep (n = leN l t) := ⟨_, ⟨rfl⟩⟩
  rw [← hn.out]
  have hcb : 0 ≤ c ∧ c < 256 := by rw [hc.out]; exact HB.out.getD t
  have hct := hcell.out t (by have := HL.out; omega)
  rw [← hc.out] at hct
  have hwc : IntKind.u32.wrap c = c := by rw [IntKind.wrap_u32]; omega
  have hsh := sh_byte c t hlt hcb
  have hor := or_byte n c t hlt (by rw [hn.out]; exact leN_lt l HB.out t) hcb
  refine wp_seq_k fun K7 hK7 => rgn ?_
  refine VlS (.bool true) ?_
  refine WL.nil (hK7 _ _ ?_)
  refine wp_seq_k fun K8 hK8 => ?_
  refine wp_cond_true rfl ?_
  refine wp_skip ?_
  refine hK8 _ _ ?_
  refine wp_seq_k fun K9 hK9 => ?_
  refine wp_block ?_
  refine wp_seq_k fun K10 hK10 => rgn ?_
  refine VlS (.int .i64 (t : Int)) ?_
  refine VlS (.int .i64 (t : Int)) ?_
  refine WL.nil (hK10 _ _ ?_)
  refine rgn ?_
  refine VlS (.int .u32 n) ?_
  refine VlS (.slice (some ⟨gb, go, none⟩) l.length vc) ?_
  refine VlS (.int .i64 (t : Int)) ?_
  refine VlS (.pointer (some ⟨gb, go + t, none⟩)) ?_
  refine VlS (.int .u8 c) ?_
  refine VlS (.int .u32 c) ?_
  refine VlS (.int .i64 (t : Int)) ?_
  refine VlS (.int .i64 (8 * (t : Int))) ?_
  refine VlS (.int .u32 (c * 256 ^ t)) ?_
  refine VlS (.int .u32 (n + c * 256 ^ t)) ?_
  refine VlS (.int .u32 (n + c * 256 ^ t)) ?_
  refine WL.nil (hK9 _ _ ?_)
  refine rgn ?_
  refine VlS (.int .i64 ((t : Int) + 1)) ?_
  refine VlS (.int .i64 ((t : Int) + 1)) ?_
  refine WL.nil ?_
  refine ⟨⟨t + 1, fun zz => [.slice (some ⟨gb, go, none⟩) l.length vc, undef, .slice none 0 0, .int .u32 (n + c * 256 ^ t), .int .i64 (t : Int), undef, undef, .slice (some ⟨gb, go, none⟩) l.length vc, .int .i64 (l.length : Int), .bool false, .int .i64 ((t : Int) + 1), .bool true, .int .i64 (t : Int), .int .u32 n, .slice (some ⟨gb, go, none⟩) l.length vc, .int .i64 (t : Int), .pointer (some ⟨gb, go + t, none⟩), .int .u8 c, .int .u32 c, .int .i64 (t : Int), .int .i64 (8 * (t : Int)), .int .u32 (c * 256 ^ t), .int .u32 (n + c * 256 ^ t), .int .i64 ((t : Int) + 1), undef, undef, undef, undef, undef, undef, undef, undef, undef, undef, undef, undef, undef, undef, undef, undef, undef, undef, undef, undef, undef, undef, undef, undef, undef].getD zz undef, ?_, by omega, rfl⟩, ?_⟩
  ·have e : leN l (t + 1) = n + c * 256 ^ t := by rw [hn.out, hc.out]; rfl
   rw [e]; rfl
  ·simp only [intOf]; show 4 - ((t : Int) + 1).toNat < 4 - ((t : Int)).toNat; omega
 ·obtain rfl : t = 4 := by omega
  obtain ⟨N, hN⟩ : ∃ N : Nat, Keep (N = (leN l 4).toNat) := ⟨_, ⟨rfl⟩⟩
  have hNe : leN l 4 = (N : Int) := by rw [hN.out]; have := leN_lt l HB.out 4; omega
  rw [hNe]
  have hNb : (N : Int) < 4294967296 := by rw [← hNe]; have := leN_lt l HB.out 4; omega
  clear hNe
  obtain ⟨vs, hs1, hs2⟩ := slB_lo (.slice (some ⟨gb, go, none⟩) l.length vc) l w HR.out 16 HL.out
  have HS1 := Keep.mk (hs1 w)
  have HV := Keep.mk (hs2 w HR.out)
  have HVa := Keep.mk hs2
  clear hs1 hs2
  obtain ⟨ra, rc, hv⟩ := row_form HV.out
  subst hv
  obtain ⟨rl, hrl⟩ : ∃ r, Keep (r = l.drop 16) := ⟨_, ⟨rfl⟩⟩
  rw [← hrl.out] at HS1 HV HVa
  have hrn : Keep (rl.length = l.length - 16) := ⟨by rw [hrl.out, List.length_drop]⟩
  have hwN : IntKind.i64.wrap (N : Int) = (N : Int) := by rw [IntKind.wrap_i64]; omega
  have HNN : Keep (N < 1 ∨ 1048576 < N ∨ rl.length < N) := ⟨by rw [hrn.out, hN.out]; exact HC.out⟩
  refine wp_seq_k fun K11 hK11 => rgn ?_
  refine VlS (.bool false) ?_
  refine WL.nil (hK11 _ _ ?_)
  refine wp_seq_k fun K12 hK12 => ?_
  refine wp_cond_false rfl ?_
  refine wp_exit ?_
  refine hK5 _ _ ?_
  refine wp_seq_k fun K13 hK13 => rgn ?_
  refine VlS (.slice (some ⟨gb, go, none⟩) l.length vc) ?_
  refine WL.slLoB (by kernel_rfl) (.tmp 24) (.const (.int .i64 16)) rfl (.slice (some ⟨gb, go, none⟩) l.length vc) (.int .i64 16) (.slice ra rl.length rc) rfl rfl HS1.out ?_
  simp only [Act.put, pqA, pqB, pqC]
  refine VlS (.slice ra rl.length rc) ?_
  refine WL.nil (hK13 _ _ ?_)
  refine wp_seq_k fun K14 hK14 => ?_
  refine wp_seq_k fun K15 hK15 => rgn ?_
  refine VlS (.int .u32 (N : Int)) ?_
  by_cases h10_1 : (N : Int) < 1
  ·skip
   refine VlS (.bool true) ?_
   refine VlS (.bool true) ?_
   refine SkS ?_
   refine SkS ?_
   refine VlS (.bool true) ?_
   refine VlS (.bool true) ?_
   refine SkS ?_
   refine SkS ?_
   refine SkS ?_
   refine SkS ?_
   refine SkS ?_
   refine VlS (.bool true) ?_
   refine WL.nil (hK15 _ _ ?_)
   refine wp_cond_true rfl ?_
   refine wp_seq_k fun K16 hK16 => rgn ?_
   refine VlS (.slice none 0 0) ?_
   refine WL.nil (hK16 _ _ ?_)
   refine wp_ret ?_
   go_ret
   exact ⟨rfl, Below.refl _ _⟩
  ·skip
   refine VlS (.bool false) ?_
   refine VlS (.bool false) ?_
   refine VlS (.int .u32 (N : Int)) ?_
   by_cases h10_4 : (1048576 : Int) < (N : Int)
   ·skip
    refine VlS (.bool true) ?_
    refine VlS (.bool true) ?_
    refine VlS (.bool true) ?_
    refine SkS ?_
    refine SkS ?_
    refine SkS ?_
    refine SkS ?_
    refine SkS ?_
    refine VlS (.bool true) ?_
    refine WL.nil (hK15 _ _ ?_)
    refine wp_cond_true rfl ?_
    refine wp_seq_k fun K17 hK17 => rgn ?_
    refine VlS (.slice none 0 0) ?_
    refine WL.nil (hK17 _ _ ?_)
    refine wp_ret ?_
    go_ret
    exact ⟨rfl, Below.refl _ _⟩
   ·skip
    refine VlS (.bool false) ?_
    refine VlS (.bool false) ?_
    refine VlS (.bool false) ?_
    refine VlS (.int .u32 (N : Int)) ?_
    refine VlS (.int .i64 (N : Int)) ?_
    refine VlS (.slice ra rl.length rc) ?_
    refine VlS (.int .i64 (rl.length : Int)) ?_
    by_cases h10_11 : (rl.length : Int) < (N : Int)
    ·skip
     refine VlS (.bool true) ?_
     refine VlS (.bool true) ?_
     refine WL.nil (hK15 _ _ ?_)
     refine wp_cond_true rfl ?_
     refine wp_seq_k fun K18 hK18 => rgn ?_
     refine VlS (.slice none 0 0) ?_
     refine WL.nil (hK18 _ _ ?_)
     refine wp_ret ?_
     go_ret
     exact ⟨rfl, Below.refl _ _⟩
    ·skip
     refine VlS (.bool false) ?_
     refine VlS (.bool false) ?_
     refine WL.nil (hK15 _ _ ?_)
     refine wp_cond_false rfl ?_
     refine wp_skip ?_
     refine hK14 _ _ ?_
     refine wp_seq_k fun K19 hK19 => ?_
     exfalso; have := HNN.out; omega
set_option maxRecDepth 8000 in
set_option maxHeartbeats 2000000 in
theorem begun_off (v : Value) (l : List Int) (w : World) (hr : RowAt w v l) (hL : 16 ≤ l.length) (hB : Byts l) (hC : 1 ≤ (leN l 4).toNat ∧ (leN l 4).toNat ≤ 1048576 ∧ (leN l 4).toNat ≤ l.length - 16) (hE : eq16 (hdF ((l.drop 16).take (leN l 4).toNat)) (fun i => l.getD i 0) = false) : Calls Tryd.prog 39 #[v] w fun e w' => e = .returned (.slice none 0 0) ∧ Below w.heap.size w w' := by
 obtain ⟨va, vc, rfl⟩ := row_form hr
 have HR := Keep.mk hr
 have HL := Keep.mk hL
 have HB := Keep.mk hB
 have HC := Keep.mk hC
 have HE := Keep.mk hE
 clear hr hL hB hC hE
 go_enter Tryd.func39, Tryd.ntmps39
 have h16 : ¬ (l.length : Int) < 16 := by have := HL.out; omega
 obtain ⟨gb, go, hva, hcell⟩ : ∃ gb go, va = some ⟨gb, go, none⟩ ∧ Keep (∀ i, i < l.length → w.cell? ⟨gb, go + i, none⟩ = some (.int .u8 (l.getD i 0))) := by
  rcases HR.out with ⟨_, h⟩ | ⟨_, _, _, h⟩ | ⟨b, off, cap, e, _, h⟩
  ·have := HL.out; rw [h] at this; simp at this
  ·have := HL.out; rw [h] at this; simp at this
  ·injection e with e1; exact ⟨b, off, e1, ⟨h⟩⟩
 subst hva
 refine wp_seq_k fun K1 hK1 => rgn ?_
 refine VlS (.slice none 0 0) ?_
 refine WL.nil (hK1 _ _ ?_)
 refine wp_seq_k fun K2 hK2 => ?_
 refine wp_seq_k fun K3 hK3 => rgn ?_
 refine VlS (.slice (some ⟨gb, go, none⟩) l.length vc) ?_
 refine VlS (.int .i64 (l.length : Int)) ?_
 refine VlS (.bool false) ?_
 refine WL.nil (hK3 _ _ ?_)
 refine wp_cond_false rfl ?_
 refine wp_skip ?_
 refine hK2 _ _ ?_
 refine wp_seq_k fun K4 hK4 => rgn ?_
 refine VlS (.int .u32 0) ?_
 refine WL.nil (hK4 _ _ ?_)
 refine wp_seq_k fun K5 hK5 => ?_
 refine wp_seq_k fun K6 hK6 => rgn ?_
 refine VlS (.int .i64 0) ?_
 refine WL.nil (hK6 _ _ ?_)
 refine wp_block ?_
 refine wp_loop (fun ac wr => ∃ (t : Nat) (f : Nat → Value), ac = { tmps := #[.slice (some ⟨gb, go, none⟩) l.length vc, undef, .slice none 0 0, .int .u32 (leN l t), f 4, undef, undef, .slice (some ⟨gb, go, none⟩) l.length vc, .int .i64 (l.length : Int), .bool false, .int .i64 (t : Int), f 11, f 12, f 13, f 14, f 15, f 16, f 17, f 18, f 19, f 20, f 21, f 22, f 23, undef, undef, undef, undef, undef, undef, undef, undef, undef, undef, undef, undef, undef, undef, undef, undef, undef, undef, undef, undef, undef, undef, undef, undef, undef], defers := [] } ∧ t ≤ 4 ∧ w = wr) (fun a _ => 4 - (intOf (a.tmps.getD 10 undef)).toNat) ⟨0, fun zz => [.slice (some ⟨gb, go, none⟩) l.length vc, undef, .slice none 0 0, .int .u32 0, undef, undef, undef, .slice (some ⟨gb, go, none⟩) l.length vc, .int .i64 (l.length : Int), .bool false, .int .i64 0, undef, undef, undef, undef, undef, undef, undef, undef, undef, undef, undef, undef, undef, undef, undef, undef, undef, undef, undef, undef, undef, undef, undef, undef, undef, undef, undef, undef, undef, undef, undef, undef, undef, undef, undef, undef, undef, undef].getD zz undef, rfl, by omega, rfl⟩ ?_
 rintro ac wr ⟨t, f, rfl, ht, rfl⟩
 by_cases hlt : t < 4
 ·have hlt' : (t : Int) < 4 := by omega
  have htl : (t : Int) < (l.length : Int) := by have := HL.out; omega
  have hwt : IntKind.i64.wrap ((t : Int) + 1) = (t : Int) + 1 := by rw [IntKind.wrap_i64]; omega
  have hw8 : IntKind.i64.wrap (8 * (t : Int)) = 8 * (t : Int) := by rw [IntKind.wrap_i64]; omega
  obtain ⟨c, hc⟩ : ∃ c, Keep (c = l.getD t 0) := ⟨_, ⟨rfl⟩⟩
  obtain ⟨n, hn⟩ : ∃ n, Keep (n = leN l t) := ⟨_, ⟨rfl⟩⟩
  rw [← hn.out]
  have hcb : 0 ≤ c ∧ c < 256 := by rw [hc.out]; exact HB.out.getD t
  have hct := hcell.out t (by have := HL.out; omega)
  rw [← hc.out] at hct
  have hwc : IntKind.u32.wrap c = c := by rw [IntKind.wrap_u32]; omega
  have hsh := sh_byte c t hlt hcb
  have hor := or_byte n c t hlt (by rw [hn.out]; exact leN_lt l HB.out t) hcb
  refine wp_seq_k fun K7 hK7 => rgn ?_
  refine VlS (.bool true) ?_
  refine WL.nil (hK7 _ _ ?_)
  refine wp_seq_k fun K8 hK8 => ?_
  refine wp_cond_true rfl ?_
  refine wp_skip ?_
  refine hK8 _ _ ?_
  refine wp_seq_k fun K9 hK9 => ?_
  refine wp_block ?_
  refine wp_seq_k fun K10 hK10 => rgn ?_
  refine VlS (.int .i64 (t : Int)) ?_
  refine VlS (.int .i64 (t : Int)) ?_
  refine WL.nil (hK10 _ _ ?_)
  refine rgn ?_
  refine VlS (.int .u32 n) ?_
  refine VlS (.slice (some ⟨gb, go, none⟩) l.length vc) ?_
  refine VlS (.int .i64 (t : Int)) ?_
  refine VlS (.pointer (some ⟨gb, go + t, none⟩)) ?_
  refine VlS (.int .u8 c) ?_
  refine VlS (.int .u32 c) ?_
  refine VlS (.int .i64 (t : Int)) ?_
  refine VlS (.int .i64 (8 * (t : Int))) ?_
  refine VlS (.int .u32 (c * 256 ^ t)) ?_
  refine VlS (.int .u32 (n + c * 256 ^ t)) ?_
  refine VlS (.int .u32 (n + c * 256 ^ t)) ?_
  refine WL.nil (hK9 _ _ ?_)
  refine rgn ?_
  refine VlS (.int .i64 ((t : Int) + 1)) ?_
  refine VlS (.int .i64 ((t : Int) + 1)) ?_
  refine WL.nil ?_
  refine ⟨⟨t + 1, fun zz => [.slice (some ⟨gb, go, none⟩) l.length vc, undef, .slice none 0 0, .int .u32 (n + c * 256 ^ t), .int .i64 (t : Int), undef, undef, .slice (some ⟨gb, go, none⟩) l.length vc, .int .i64 (l.length : Int), .bool false, .int .i64 ((t : Int) + 1), .bool true, .int .i64 (t : Int), .int .u32 n, .slice (some ⟨gb, go, none⟩) l.length vc, .int .i64 (t : Int), .pointer (some ⟨gb, go + t, none⟩), .int .u8 c, .int .u32 c, .int .i64 (t : Int), .int .i64 (8 * (t : Int)), .int .u32 (c * 256 ^ t), .int .u32 (n + c * 256 ^ t), .int .i64 ((t : Int) + 1), undef, undef, undef, undef, undef, undef, undef, undef, undef, undef, undef, undef, undef, undef, undef, undef, undef, undef, undef, undef, undef, undef, undef, undef, undef].getD zz undef, ?_, by omega, rfl⟩, ?_⟩
  ·have e : leN l (t + 1) = n + c * 256 ^ t := by rw [hn.out, hc.out]; rfl
   rw [e]; rfl
  ·simp only [intOf]; show 4 - ((t : Int) + 1).toNat < 4 - ((t : Int)).toNat; omega
 ·obtain rfl : t = 4 := by omega
  obtain ⟨N, hN⟩ : ∃ N : Nat, Keep (N = (leN l 4).toNat) := ⟨_, ⟨rfl⟩⟩
  have hNe : leN l 4 = (N : Int) := by rw [hN.out]; have := leN_lt l HB.out 4; omega
  rw [hNe]
  have hNb : (N : Int) < 4294967296 := by rw [← hNe]; have := leN_lt l HB.out 4; omega
  clear hNe
  obtain ⟨vs, hs1, hs2⟩ := slB_lo (.slice (some ⟨gb, go, none⟩) l.length vc) l w HR.out 16 HL.out
  have HS1 := Keep.mk (hs1 w)
  have HV := Keep.mk (hs2 w HR.out)
  have HVa := Keep.mk hs2
  clear hs1 hs2
  obtain ⟨ra, rc, hv⟩ := row_form HV.out
  subst hv
  obtain ⟨rl, hrl⟩ : ∃ r, Keep (r = l.drop 16) := ⟨_, ⟨rfl⟩⟩
  rw [← hrl.out] at HS1 HV HVa
  have hrn : Keep (rl.length = l.length - 16) := ⟨by rw [hrl.out, List.length_drop]⟩
  have hwN : IntKind.i64.wrap (N : Int) = (N : Int) := by rw [IntKind.wrap_i64]; omega
  have hn1 : ¬ (N : Int) < 1 := by have := HC.out; rw [← hN.out] at this; omega
  have hn2 : ¬ (1048576 : Int) < (N : Int) := by have := HC.out; rw [← hN.out] at this; omega
  have hn3 : ¬ (rl.length : Int) < (N : Int) := by have := HC.out; rw [← hN.out] at this; have := hrn.out; omega
  obtain ⟨vp, hp1, hp2⟩ := slB_hi32 (.slice ra rl.length rc) rl w HV.out N (by omega)
  have HP1 := Keep.mk (hp1 w)
  have HPv := Keep.mk (hp2 w HV.out)
  have HPa := Keep.mk hp2
  clear hp1 hp2
  obtain ⟨pa, pc, hv⟩ := row_form HPv.out
  subst hv
  obtain ⟨pl, hpl⟩ : ∃ r, Keep (r = rl.take N) := ⟨_, ⟨rfl⟩⟩
  rw [← hpl.out] at HP1 HPv HPa
  have hpn : Keep ((pl.length : Int) ≤ 1048576) := ⟨by rw [hpl.out, List.length_take]; omega⟩
  refine wp_seq_k fun K11 hK11 => rgn ?_
  refine VlS (.bool false) ?_
  refine WL.nil (hK11 _ _ ?_)
  refine wp_seq_k fun K12 hK12 => ?_
  refine wp_cond_false rfl ?_
  refine wp_exit ?_
  refine hK5 _ _ ?_
  refine wp_seq_k fun K13 hK13 => rgn ?_
  refine VlS (.slice (some ⟨gb, go, none⟩) l.length vc) ?_
  refine WL.slLoB (by kernel_rfl) (.tmp 24) (.const (.int .i64 16)) rfl (.slice (some ⟨gb, go, none⟩) l.length vc) (.int .i64 16) (.slice ra rl.length rc) rfl rfl HS1.out ?_
  simp only [Act.put, pqA, pqB, pqC]
  refine VlS (.slice ra rl.length rc) ?_
  refine WL.nil (hK13 _ _ ?_)
  refine wp_seq_k fun K14 hK14 => ?_
  refine wp_seq_k fun K15 hK15 => rgn ?_
  refine VlS (.int .u32 (N : Int)) ?_
  refine VlS (.bool false) ?_
  refine VlS (.bool false) ?_
  refine VlS (.int .u32 (N : Int)) ?_
  refine VlS (.bool false) ?_
  refine VlS (.bool false) ?_
  refine VlS (.bool false) ?_
  refine VlS (.int .u32 (N : Int)) ?_
  refine VlS (.int .i64 (N : Int)) ?_
  refine VlS (.slice ra rl.length rc) ?_
  refine VlS (.int .i64 (rl.length : Int)) ?_
  refine VlS (.bool false) ?_
  refine VlS (.bool false) ?_
  refine WL.nil (hK15 _ _ ?_)
  refine wp_cond_false rfl ?_
  refine wp_skip ?_
  refine hK14 _ _ ?_
  refine wp_seq_k fun K16 hK16 => rgn ?_
  refine VlS (.slice ra rl.length rc) ?_
  refine VlS (.int .u32 (N : Int)) ?_
  refine WL.slHiB (by kernel_rfl) (.tmp 39) (.tmp 40) rfl (.slice ra rl.length rc) (.int .u32 (N : Int)) (.slice pa pl.length pc) rfl rfl HP1.out ?_
  simp only [Act.put, pqA, pqB, pqC]
  refine VlS (.slice pa pl.length pc) ?_
  refine WL.nil (hK16 _ _ ?_)
  refine wp_seq_k fun K17 hK17 => ?_
  refine wp_seq_k fun K18 hK18 => ?_
  obtain ⟨E, hE⟩ : ∃ E : Nat → Int, Keep (E = fun i => l.getD i 0) := ⟨_, ⟨rfl⟩⟩
  have HEq : Keep (eq16 (hdF pl) E = false) := ⟨by rw [hpl.out, hrl.out, hN.out, hE.out]; exact HE.out⟩
  have D0 : Keep (Below w.heap.size w w.drew) := ⟨(Below.refl _ _).drew⟩
  have HRg : Keep (∀ wx, Below w.heap.size w wx → wx.rangeAt gb go (bytesA 16 E).toList) := ⟨fun wx hx j v hv => by
   rw [hE.out, hl_bytesA] at hv
   have hj : j < 16 := by have := (List.getElem?_eq_some_iff.1 hv).1; rw [bv_len, hl_len] at this; exact this
   rw [bv_get _ _ (by rw [hl_len]; exact hj), hl_get _ _ _ hj] at hv
   injection hv with hv
   rw [← hv]
   exact bcl hx ⟨cell_lt (hcell.out j (by have := HL.out; omega)), hcell.out j (by have := HL.out; omega)⟩⟩
  refine wp_region_held_drew (S := fun wx => Below w.heap.size w wx) (by kernel_rfl) (D0.out) (fun hHeld => ?_)
  refine tkS (i := 0) (oi := ⟨some 42, Op.move (Operand.tmp 6), 41, _, _, none⟩) (v := .slice pa pl.length pc) rfl (Or.inl ⟨by rfl, fun w hS => by go_simp⟩) hHeld ?_
  refine tkS (i := 2) (oi := ⟨some 44, Op.move (Operand.tmp 0), 41, _, _, none⟩) (v := .slice (some ⟨gb, go, none⟩) l.length vc) rfl (Or.inl ⟨by rfl, fun w hS => by go_simp⟩) hHeld ?_
  refine tkS (i := 3) (oi := ⟨some 45, Op.sliceToArrayPointer 104 (Operand.tmp 44), 0, _, _, none⟩) (v := .pointer (some ⟨gb, go, none⟩)) rfl (Or.inl ⟨by rfl, fun w hS => by have hq := run_arrayAt (P := Tryd.prog) (w := w) 104 5 16 (some ⟨gb, go, none⟩) l.length vc Tryd.underlying104 HL.out; clear hS; go_simp⟩) hHeld ?_
  refine tkS (i := 4) (oi := ⟨some 46, Op.load 104 (Operand.tmp 45), 104, _, _, none⟩) (v := .agg (bytesA 16 E)) rfl (yieldsIf_loadAj (by rfl) 104 (.tmp 45) rfl gb go rfl (bytesA 16 E) _ (fun w hS => HRg.out w hS) Tryd.underlying104 rfl (Tryd.size104B _)) hHeld ?_
  refine wpAnyH_ready (rs := [1]) (by kernel_rfl) (by simp) ?_
  refine AllReadyH.cons (o := ⟨some 43, Op.call { callee := Callee.value (Operand.func 48), args := #[Operand.tmp 42], argTypes := #[41] }, 104, _, _, none⟩) rfl (fun K hK => ?_) AllReadyH.nil
  rw [if_pos (by rfl)]
  refine wp_callF 48 _ _ rfl Tryd.in48 #[.slice pa pl.length pc] (by simp [Act.eval]) (fun vz wz => vz = .agg (bytesA 16 (hdF pl)) ∧ Below w.heap.size w wz) ?_ ?_
  ·refine (head_any _ pl w.drew (HPv.out.below D0.out) hpn.out).mono ?_
   rintro e wz ⟨rfl, h⟩
   exact ⟨_, rfl, rfl, D0.out.trans (h.mono D0.out.size)⟩
  rintro vz w2 ⟨rfl, h2⟩
  have B2 := Keep.mk h2
  clear h2
  refine hK _ _ B2.out fun hH2 => ?_
  clear hK
  simp only [Act.put, pqA, pqB, pqC]
  refine tkS (i := 5) (oi := ⟨some 47, Op.binOp BinOp.neq 104 (Operand.tmp 43) (Operand.tmp 46) 104, 4, _, _, none⟩) (v := .bool true) rfl (Or.inl ⟨by rfl, fun w hS => by have hq := run_neq16 (hdF pl) E w; rw [HEq.out] at hq; clear hS; unfold execOp; simp only [Sem.run_bind, Act.eval]; exact (congrArg (fun z => Result.andThen z fun a w => Result.ok (Next.value a) w) hq)⟩) hH2 ?_
  refine wpAnyH_done (by kernel_rfl) ?_ _
  refine hK18 _ _ ?_
  refine wp_cond_true rfl ?_
  refine wp_seq_k fun K19 hK19 => rgn ?_
  refine VlS (.slice none 0 0) ?_
  refine WL.nil (hK19 _ _ ?_)
  refine wp_ret ?_
  go_ret
  exact ⟨rfl, B2.out⟩
def OwnR (w : World) (v : Value) (vs : List Value) : Prop := w.ownsRow 0 41 1 v vs.length vs
theorem OwnR.form {w : World} {v : Value} {l : List Value} (h : OwnR w v l) : (v = .slice none 0 0 ∧ l = []) ∨ ∃ g cap cur, v = .slice (some ⟨g, 0, none⟩) l.length cap ∧ Blk w g 41 cur ∧ l.length ≤ cap ∧ cur.toList.take l.length = l := by
 rcases h.2 with ⟨rfl, h0⟩ | ⟨g, cap, cur, rfl, _, h3, h4, h5, h6, h7⟩
 ·exact .inl ⟨rfl, List.eq_nil_of_length_eq_zero h0⟩
 ·exact .inr ⟨g, cap, cur, rfl, h3, h4, by rw [Nat.mul_one] at h7; exact h7⟩
theorem OwnR.sl {w : World} {v : Value} {l : List Value} (h : OwnR w v l) : ∃ a c, v = .slice a l.length c := by
 rcases h.form with ⟨rfl, rfl⟩ | ⟨g, cap, cur, rfl, _⟩
 ·exact ⟨_, _, rfl⟩
 ·exact ⟨_, _, rfl⟩
theorem OwnR.lt {w : World} {v : Value} {l : List Value} (h : OwnR w v l) : ∀ k, v.ownBlock = some k → k < w.heap.size := fun k hk => (World.ownsRow.lt h k hk).2
theorem OwnR.grown {w w' : World} {v : Value} {l : List Value} {S : Nat → Prop} (h : OwnR w v l) (hg : Grown w w' S) (hs : ∀ k, v.ownBlock = some k → ¬ S k) : OwnR w' v l := by
 refine ⟨h.1, ?_⟩
 rcases h.2 with h1 | ⟨g, cap, cur, rfl, h2, h3, h4⟩
 ·exact .inl h1
 ·exact .inr ⟨g, cap, cur, rfl, h2, hg.blk h3 (hs g rfl), h4⟩
theorem OwnR.typ {w : World} {v : Value} {l : List Value} (h : OwnR w v l) {k : Nat} (hk : v.ownBlock = some k) : Typ w k 41 := by
 rcases h.form with ⟨rfl, _⟩ | ⟨g, cap, cur, rfl, h3, _⟩
 ·simp [Value.ownBlock] at hk
 ·simp [Value.ownBlock] at hk
  subst hk
  exact h3.typ
theorem ownR_empty (w : World) : OwnR (w.alloc (.cells #[] 41)) (.slice (some ⟨w.heap.size, 0, none⟩) 0 0) [] :=
 ⟨rfl, .inr ⟨w.heap.size, 0, #[], rfl, Nat.zero_le _, Blk.new w 41 #[], Nat.le_refl _, by decide, rfl, rfl⟩⟩
theorem Tryd.infoR : (Tryd.prog.info? 41).map (fun i => (i.zero, i.size, i.bytes)) = some (some (.slice none 0 0), 1, 24) := by kernel_rfl
theorem run_appR (w : World) (ty : TypeId) (v : Value) (l : List Value) (hown : OwnR w v l) (g : Nat) (x : Value) (hx : x.oneCell' = true) (hg : Blk w g 41 #[x]) (hb : l.length ≤ 1000000000000) :
  ∃ v' w', (Builtin.append_ #[22, 22] ty #[v, .slice (some ⟨g, 0, none⟩) 1 1]).run Tryd.prog w = .ok v' w' ∧ OwnR w' v' (l ++ [x]) ∧ (Grown w w' fun k => v.ownBlock = some k) ∧ Moved w v v' := by
 obtain ⟨i, hi, hzz⟩ := Option.map_eq_some_iff.1 Tryd.infoR
 simp only [Prod.mk.injEq] at hzz
 obtain ⟨hz, hsz, hby⟩ := hzz
 obtain ⟨v', w', hr, h1, h2, _, h3⟩ := run_append_own_at (P := Tryd.prog) w 0 22 ty 41 i (.slice none 0 0) 1 24 Tryd.underlying22 hi hz hsz hby rfl (by omega) v l.length l hown ⟨g, 0, none⟩ 1 1 [x] rfl (fun j u hu => by
   rw [Addr.add_mid, Nat.zero_add, hg.cell]
   simpa using hu)
  (fun u hu => by simp at hu; rw [hu]; exact hx) (by unfold maxLen; omega) (by omega) (Nat.zero_le _)
 refine ⟨v', w', hr, ?_, Grown.of h2 fun k _ e => e, ?_⟩
 ·unfold OwnR
  rw [List.length_append]
  exact h1
 ·rcases h3 with h3 | h3
  ·exact .inl h3
  ·exact .inr ⟨_, h3, Nat.le_refl _⟩
theorem WL.appR {ops : Array Oper} {rest : List Oper} {o : Oper} {a : Act} {w : World} {Q : Exit → Act → World → Prop} (hw : Region.wanted o (yielded ops a.tmps) = true) (s x : Operand)
  (ho : o.op = .call { callee := .builtin .append, args := #[s, x], argTypes := #[22, 22] }) (v : Value) (l : List Value) (g : Nat) (y : Value) (hy : y.oneCell' = true)
  (hs : a.eval s = v) (hx : a.eval x = .slice (some ⟨g, 0, none⟩) 1 1) (hown : OwnR w v l) (hg : Blk w g 41 #[y]) (hb : l.length ≤ 1000000000000)
  (h : ∀ v' w', OwnR w' v' (l ++ [y]) → (Grown w w' fun k => v.ownBlock = some k) → Moved w v v' → WL Tryd.prog ops Q rest (a.put o.dst v') w') : WL Tryd.prog ops Q (o :: rest) a w :=
 ⟨wpList_wanted hw fun K hK => by
  obtain ⟨v', w', hr, h1, h2, h3⟩ := run_appR w o.type v l hown g y hy hg hb
  unfold Oper.wp execOp
  simp only [ho, resolve, invoke, builtin, Sem.run_bind, Sem.run_pure, Result.andThen_ok, List.map_toArray, List.map_cons, List.map_nil, hs, hx, hr]
  exact hK _ _ (h v' w' h1 h2 h3).out⟩
abbrev noS : Value := .slice none 0 0
def RwsAt (w : World) (v : Value) (ls : List (List Int)) : Prop :=
 ∃ V : Nat → Value, ((∃ a c, v = .slice a 0 c ∧ ls = []) ∨ ∃ q o cap, v = .slice (some ⟨q, o, none⟩) ls.length cap ∧ ls.length ≤ cap ∧ ∀ i, i < ls.length → w.cell? ⟨q, o + i, none⟩ = some (V i)) ∧ ∀ i, i < ls.length → RowAt w (V i) (ls.getD i [])
theorem RwsAt.form {w : World} {v : Value} {ls : List (List Int)} (h : RwsAt w v ls) : ∃ a c, v = .slice a ls.length c := by
 obtain ⟨V, ⟨a, c, rfl, rfl⟩ | ⟨q, o, cap, rfl, _⟩, _⟩ := h
 ·exact ⟨_, _, rfl⟩
 ·exact ⟨_, _, rfl⟩
theorem RwsAt.nil (w : World) : RwsAt w noS [] := ⟨fun _ => noS, .inl ⟨_, _, rfl, rfl⟩, fun i hi => by simp at hi⟩
theorem RwsAt.at {w : World} {a : Option Addr} {n c : Nat} {ls : List (List Int)} (h : RwsAt w (.slice a n c) ls) (t : Nat) (ht : t < ls.length) : ∃ q o pa pc, a = some ⟨q, o, none⟩ ∧ n = ls.length ∧ w.cell? ⟨q, o + t, none⟩ = some (.slice pa (ls.getD t []).length pc) ∧ RowAt w (.slice pa (ls.getD t []).length pc) (ls.getD t []) := by
 obtain ⟨V, ⟨a', c', h1, rfl⟩ | ⟨q, o, cap, h1, _, h4⟩, h2⟩ := h
 ·simp at ht
 ·injection h1 with h1 h3 h5
  subst h1 h3
  obtain ⟨pa, pc, hv⟩ := row_form (h2 t ht)
  exact ⟨q, o, pa, pc, rfl, rfl, by rw [h4 t ht, hv], by rw [← hv]; exact h2 t ht⟩
def RwN (w : World) (v : Value) (ls : List (List Int)) (N : Nat → Prop) : Prop :=
 ∃ vs : List Value, OwnR w v vs ∧ (∀ k, v.ownBlock = some k → N k) ∧ vs.length = ls.length ∧ ∀ i, i < ls.length → RowAt w (vs.getD i noS) (ls.getD i []) ∧ ∀ k, (vs.getD i noS).ownBlock = some k → N k
theorem RwN.rws {w : World} {v : Value} {ls : List (List Int)} {N : Nat → Prop} (h : RwN w v ls N) : RwsAt w v ls := by
 obtain ⟨vs, h1, _, h2, h3⟩ := h
 refine ⟨fun i => vs.getD i noS, ?_, fun i hi => (h3 i hi).1⟩
 rcases h1.form with ⟨rfl, h4⟩ | ⟨g, cap, cur, rfl, h4, h5, h6⟩
 ·exact .inl ⟨_, _, rfl, List.eq_nil_of_length_eq_zero (by rw [← h2, h4]; rfl)⟩
 ·refine .inr ⟨g, 0, cap, by rw [h2], by omega, fun i hi => ?_⟩
  rw [h4.cell, Nat.zero_add]
  have : vs[i]? = some (vs.getD i noS) := by rw [List.getD_eq_getElem?_getD, List.getElem?_eq_getElem (by omega)]; rfl
  rw [← this, ← h6, List.getElem?_take, if_pos (by omega), Array.getElem?_toList]
theorem RwN.grown {w w' : World} {v : Value} {ls : List (List Int)} {N S : Nat → Prop} (h : RwN w v ls N) (hg : Grown w w' S) (hT : ∀ k, k < w.heap.size → N k → ¬ S k) : RwN w' v ls N := by
 obtain ⟨vs, h1, h2, h3, h4⟩ := h
 exact ⟨vs, h1.grown hg fun k hk => hT k (h1.lt k hk) (h2 k hk), h2, h3, fun i hi => ⟨(h4 i hi).1.grown hg fun k hk hl => hT k hl ((h4 i hi).2 k hk), (h4 i hi).2⟩⟩
theorem RwN.below {w w' : World} {v : Value} {ls : List (List Int)} {N : Nat → Prop} (h : RwN w v ls N) (hb : Below w.heap.size w w') : RwN w' v ls N := h.grown (Grown.below (S := fun _ => False) hb) fun _ _ _ h => h
theorem RwN.mono {w : World} {v : Value} {ls : List (List Int)} {N M : Nat → Prop} (h : RwN w v ls N) (hm : ∀ k, k < w.heap.size → N k → M k) (hlt : ∀ i, i < ls.length → ∀ x k, RowAt w x (ls.getD i []) → x.ownBlock = some k → N k → M k) : RwN w v ls M := by
 obtain ⟨vs, h1, h2, h3, h4⟩ := h
 exact ⟨vs, h1, fun k hk => hm k (h1.lt k hk) (h2 k hk), h3, fun i hi => ⟨(h4 i hi).1, fun k hk => hlt i hi _ k (h4 i hi).1 hk ((h4 i hi).2 k hk)⟩⟩
theorem RwN.form {w : World} {v : Value} {ls : List (List Int)} {N : Nat → Prop} (h : RwN w v ls N) : ∃ a c, v = .slice a ls.length c := h.rws.form
def fr (p : List Int) : List Int := hl 16 (hdF p) ++ p
theorem hl_length (n : Nat) (c : Nat → Int) : (hl n c).length = n := by simp [hl]
theorem fr_len (p : List Int) : (fr p).length = 16 + p.length := by simp [fr, hl_length]
def frs (P : List (List Int)) : List Int := P.flatMap fr
theorem frs_cons (p : List Int) (P : List (List Int)) : frs (p :: P) = fr p ++ frs P := rfl
theorem frs_app (P Q : List (List Int)) : frs (P ++ Q) = frs P ++ frs Q := by simp [frs]
def PayOk (p : List Int) : Prop := 1 ≤ p.length ∧ p.length ≤ 1048576
theorem byN_val (n : Nat) (h : n < 4294967296) : byN n 0 + byN n 1 * 256 + byN n 2 * 65536 + byN n 3 * 16777216 = (n : Int) := by unfold byN; omega
theorem fr_get (p r : List Int) (i : Nat) (hi : i < 16) : (fr p ++ r).getD i 0 = hdF p i := by
 rw [List.getD_eq_getElem?_getD, List.getElem?_append_left (by rw [fr_len]; omega)]
 unfold fr
 rw [List.getElem?_append_left (by rw [hl_length]; exact hi)]
 simp [hl, hi]
theorem fr_leN (p r : List Int) (h : p.length < 4294967296) : leN (fr p ++ r) 4 = (p.length : Int) := by
 have e := byN_val p.length h
 simp only [leN, fr_get p r 0 (by omega), fr_get p r 1 (by omega), fr_get p r 2 (by omega), fr_get p r 3 (by omega)]
 have h0 : hdF p 0 = byN p.length 0 := by simp [hdF]
 have h1 : hdF p 1 = byN p.length 1 := by simp [hdF]
 have h2 : hdF p 2 = byN p.length 2 := by simp [hdF]
 have h3 : hdF p 3 = byN p.length 3 := by simp [hdF]
 rw [h0, h1, h2, h3]
 omega
theorem bgn_fr (p r : List Int) (h : PayOk p) : bgn (fr p ++ r) = some p := by
 have hn := fr_leN p r (by have := h.2; omega)
 unfold bgn
 have hd : (fr p ++ r).drop 16 = p ++ r := by
  unfold fr
  rw [List.append_assoc, List.drop_append_of_le_length (by rw [hl_length]; exact Nat.le_refl _), List.drop_of_length_le (by rw [hl_length]; exact Nat.le_refl _), List.nil_append]
 have hl16 : ¬ (fr p ++ r).length < 16 := by rw [List.length_append, fr_len]; omega
 rw [if_neg hl16]
 simp only [hn, hd, Int.toNat_natCast, List.take_left']
 rw [if_neg (by rw [List.length_append, fr_len]; have := h.1; have := h.2; omega), if_pos]
 unfold eq16
 rw [List.all_eq_true]
 intro i hi
 show (hdF p i == (fr p ++ r).getD i 0) = true
 rw [fr_get p r i (by simpa using hi)]
 simp
theorem bgn_some {l p : List Int} (h : bgn l = some p) : PayOk p ∧ ∃ r, l = fr p ++ r := by
 unfold bgn at h
 split at h
 ·cases h
 ·rename_i h16
  simp only at h
  split at h
  ·cases h
  ·rename_i hn
   split at h
   ·rename_i he
    injection h with h
    have hpl : p.length = (leN l 4).toNat := by rw [← h, List.length_take, List.length_drop]; omega
    refine ⟨⟨by omega, by omega⟩, (l.drop 16).drop (leN l 4).toNat, ?_⟩
    rw [h] at he
    have ht : l.take 16 = hl 16 (hdF p) := by
     apply List.ext_getElem?
     intro i
     by_cases hi : i < 16
     ·unfold eq16 at he
      have := List.all_eq_true.1 he i (by simpa using hi)
      have e1 : hdF p i = l.getD i 0 := by simpa using this
      rw [List.getElem?_take, if_pos hi, List.getElem?_eq_getElem (by omega)]
      rw [List.getD_eq_getElem?_getD, List.getElem?_eq_getElem (by omega)] at e1
      simp [hl, hi, e1]
     ·rw [List.getElem?_eq_none (by rw [List.length_take]; omega), List.getElem?_eq_none (by rw [hl_length]; omega)]
    unfold fr
    rw [← ht, ← h, List.append_assoc, List.take_append_drop, List.take_append_drop]
   ·cases h
theorem bgn_nil : bgn [] = none := by simp [bgn]
def rdS : Nat → List Int → List (List Int)
 | 0, _ => []
 | n + 1, l => match bgn l with
  | none => []
  | some p => p :: rdS n (l.drop (16 + p.length))
theorem rdS_fuel : ∀ (n m : Nat) (l : List Int), l.length ≤ n → l.length ≤ m → rdS n l = rdS m l
 | 0, m, l, h, _ => by
  have : l = [] := List.eq_nil_of_length_eq_zero (by omega)
  subst this
  cases m <;> simp [rdS, bgn_nil]
 | n + 1, 0, l, _, h => by
  have : l = [] := List.eq_nil_of_length_eq_zero (by omega)
  subst this
  simp [rdS, bgn_nil]
 | n + 1, m + 1, l, h1, h2 => by
  unfold rdS
  cases hb : bgn l with
  | none => rfl
  | some p =>
   simp only
   rw [rdS_fuel n m _ (by rw [List.length_drop]; omega) (by rw [List.length_drop]; omega)]
def rdB (l : List Int) : List (List Int) := rdS l.length l
theorem rdB_none {l : List Int} (h : bgn l = none) : rdB l = [] := by
 unfold rdB
 cases l.length <;> simp [rdS, h]
theorem rdB_some {l p : List Int} (h : bgn l = some p) : rdB l = p :: rdB (l.drop (16 + p.length)) := by
 obtain ⟨hp, r, e⟩ := bgn_some h
 have hl : l.length = 16 + p.length + r.length := by rw [e, List.length_append, fr_len]
 unfold rdB
 obtain ⟨n, hn⟩ : ∃ n, l.length = n + 1 := ⟨l.length - 1, by omega⟩
 rw [hn, rdS, h]
 simp only
 rw [rdS_fuel n (l.drop (16 + p.length)).length _ (by rw [List.length_drop]; omega) (Nat.le_refl _)]
theorem rdB_nil : rdB [] = [] := rfl
theorem rdB_fr (p r : List Int) (h : PayOk p) : rdB (fr p ++ r) = p :: rdB r := by
 rw [rdB_some (bgn_fr p r h), List.drop_append_of_le_length (by rw [fr_len]; exact Nat.le_refl _), List.drop_of_length_le (by rw [fr_len]; exact Nat.le_refl _), List.nil_append]
theorem rdB_frs : ∀ (P : List (List Int)) (r : List Int), (∀ p ∈ P, PayOk p) → rdB (frs P ++ r) = P ++ rdB r
 | [], r, _ => rfl
 | p :: P, r, h => by
  rw [frs_cons, List.append_assoc, rdB_fr _ _ (h p (by simp)), rdB_frs P r fun q hq => h q (by simp [hq]), List.cons_append]
theorem rdB_pre : ∀ (n : Nat) (l : List Int), l.length ≤ n → ∃ r, l = frs (rdB l) ++ r ∧ bgn r = none ∧ ∀ p ∈ rdB l, PayOk p
 | n, l, hn => by
  cases hb : bgn l with
  | none => rw [rdB_none hb]; exact ⟨l, rfl, hb, fun p hp => by simp at hp⟩
  | some p =>
   obtain ⟨hp, r, e⟩ := bgn_some hb
   have hd : l.drop (16 + p.length) = r := by rw [e, List.drop_append_of_le_length (by rw [fr_len]; exact Nat.le_refl _), List.drop_of_length_le (by rw [fr_len]; exact Nat.le_refl _), List.nil_append]
   have hl : l.length = 16 + p.length + r.length := by rw [e, List.length_append, fr_len]
   match n with
   | 0 => omega
   | n + 1 =>
    obtain ⟨r', e', h1, h2⟩ := rdB_pre n r (by omega)
    rw [rdB_some hb, hd]
    refine ⟨r', ?_, h1, fun q hq => ?_⟩
    ·rw [frs_cons, List.append_assoc, ← e', e]
    ·rcases List.mem_cons.1 hq with rfl | hq
     ·exact hp
     ·exact h2 q hq
def enB (l : List Int) : Nat := (frs (rdB l)).length
theorem enB_le (l : List Int) : enB l ≤ l.length := by
 obtain ⟨r, e, _⟩ := rdB_pre _ l (Nat.le_refl _)
 have := congrArg List.length e
 rw [List.length_append] at this
 unfold enB
 omega
theorem enB_take (l : List Int) : l.take (enB l) = frs (rdB l) := by
 obtain ⟨r, e, _⟩ := rdB_pre _ l (Nat.le_refl _)
 have h : l.take (enB l) = (frs (rdB l) ++ r).take (enB l) := by rw [← e]
 rw [h]
 unfold enB
 exact List.take_left' rfl
theorem rdB_all (l : List Int) : ∀ p ∈ rdB l, PayOk p := (rdB_pre _ l (Nat.le_refl _)).choose_spec.2.2
theorem rdB_self (P : List (List Int)) (h : ∀ p ∈ P, PayOk p) : rdB (frs P) = P := by
 have := rdB_frs P [] h
 rwa [List.append_nil, rdB_nil, List.append_nil] at this
theorem rdB_cutEnd (l : List Int) : rdB (l.take (enB l)) = rdB l := by rw [enB_take, rdB_self _ (rdB_all l)]
theorem enB_cutEnd (l : List Int) : enB (l.take (enB l)) = enB l := by
 show (frs (rdB (l.take (enB l)))).length = (frs (rdB l)).length
 rw [rdB_cutEnd]
def plc (k : Int) : Int → List (List Int) → List (Int × Int)
 | _, [] => []
 | a, p :: r => (k, a) :: plc k (a + 16 + (p.length : Int)) r
theorem plc_app (k : Int) : ∀ (P Q : List (List Int)) (a : Int), plc k a (P ++ Q) = plc k a P ++ plc k (a + ((frs P).length : Int)) Q
 | [], Q, a => by simp [plc, frs]
 | p :: P, Q, a => by
  rw [List.cons_append, plc, plc, plc_app k P Q, frs_cons, List.length_append, fr_len, List.cons_append]
  congr 3
  omega
theorem plc_len (k : Int) : ∀ (P : List (List Int)) (a : Int), (plc k a P).length = P.length
 | [], a => rfl
 | p :: P, a => by rw [plc, List.length_cons, plc_len k P, List.length_cons]
structure JV where
 ps : List (List Int)
 pl : List (Int × Int)
 pr : Int
 sz : Int
 torn : Bool
def JV.more (s : JV) (k : Nat) (b : List Int) : JV := ⟨s.ps ++ rdB b, s.pl ++ plc (k : Int) 0 (rdB b), (k : Int), (enB b : Int), decide (enB b < b.length)⟩
def rdJ (F : Nat → Option (List Int)) : Nat → Nat → JV → JV
 | 0, _, s => s
 | n + 1, k, s => match F k with
  | none => s
  | some b => if (s.more k b).torn = true then s.more k b else rdJ F n (k + 1) (s.more k b)
def JV.nil : JV := ⟨[], [], -1, 0, false⟩
def openV (F : Nat → Option (List Int)) : JV := rdJ F 256 0 JV.nil
theorem rdJ_pr (F : Nat → Option (List Int)) : ∀ (n k : Nat) (s : JV), s.pr = (k : Int) - 1 → s.pr ≤ (rdJ F n k s).pr ∧ (rdJ F n k s).pr < (k : Int) + n
 | 0, k, s, h => by rw [rdJ]; omega
 | n + 1, k, s, h => by
  rw [rdJ]
  cases F k with
  | none => simp only; omega
  | some b =>
   simp only
   split
   ·simp only [JV.more]; omega
   ·have := rdJ_pr F n (k + 1) (s.more k b) (by simp only [JV.more]; omega)
    simp only [JV.more] at this ⊢
    omega
theorem rdJ_stay (F : Nat → Option (List Int)) (n k : Nat) (s : JV) (h : s.pr = (k : Int) - 1) (he : (rdJ F n k s).pr = s.pr) : rdJ F n k s = s := by
 cases n with
 | zero => rfl
 | succ n =>
  rw [rdJ] at he ⊢
  cases hF : F k with
  | none => rfl
  | some b =>
   rw [hF] at he
   simp only at he
   split at he
   ·simp only [JV.more] at he; omega
   ·have := rdJ_pr F n (k + 1) (s.more k b) (by simp only [JV.more]; omega)
    simp only [JV.more] at this he
    omega
theorem rdJ_none {F : Nat → Option (List Int)} {n k : Nat} {s : JV} (h : F k = none) : rdJ F n k s = s := by
 cases n with
 | zero => rfl
 | succ n => rw [rdJ, h]
theorem JV.more_cut (s : JV) (k : Nat) (b : List Int) : s.more k (b.take (enB b)) = { s.more k b with torn := false } := by
 unfold JV.more
 rw [rdB_cutEnd, enB_cutEnd, List.length_take, Nat.min_eq_left (enB_le b)]
 simp
structure Mid (F F' : Nat → Option (List Int)) (V : JV) : Prop where
 low : ∀ j : Nat, (j : Int) < V.pr → F' j = F j
 at' : ∀ j : Nat, (j : Int) = V.pr → F' j = F j ∨ (F' j = (F j).map (List.take V.sz.toNat) ∧ ∀ i : Nat, j < i → i < 256 → F' i = none)
 high : ∀ j : Nat, V.pr < (j : Int) → j < 256 → F' j = F j ∨ F' j = none
theorem rdJ_mid (F F' : Nat → Option (List Int)) : ∀ (n k : Nat) (s : JV), s.pr = (k : Int) - 1 → k + n ≤ 256 → Mid F F' (rdJ F n k s) → ∃ b, rdJ F' n k s = { rdJ F n k s with torn := b }
 | 0, k, s, h, _, _ => ⟨s.torn, rfl⟩
 | n + 1, k, s, h, hk, hM => by
  cases hF : F k with
  | none =>
   have e : rdJ F (n + 1) k s = s := rdJ_none hF
   rw [e] at hM ⊢
   have : F' k = none := by
    rcases hM.high k (by omega) (by omega) with h1 | h1
    ·rw [h1, hF]
    ·exact h1
   rw [rdJ_none this]
   exact ⟨s.torn, rfl⟩
  | some b =>
   by_cases ht : (s.more k b).torn = true
   ·have e : rdJ F (n + 1) k s = s.more k b := by rw [rdJ, hF]; simp only; rw [if_pos ht]
    rw [e] at hM ⊢
    rcases hM.at' k rfl with h1 | ⟨h1, h2⟩
    ·refine ⟨(s.more k b).torn, ?_⟩
     rw [rdJ, h1, hF]
     simp only
     rw [if_pos ht]
    ·refine ⟨false, ?_⟩
     have e2 : F' k = some (b.take (enB b)) := by
      rw [h1, hF]
      simp [JV.more]
     have e3 : rdJ F' (n + 1) k s = rdJ F' n (k + 1) (s.more k (b.take (enB b))) := by
      rw [rdJ, e2]
      simp only
      rw [if_neg (by rw [JV.more_cut]; simp)]
     rw [e3, JV.more_cut]
     by_cases hn : n = 0
     ·subst hn; rfl
     ·exact rdJ_none (h2 (k + 1) (by omega) (by omega))
   ·have e : rdJ F (n + 1) k s = rdJ F n (k + 1) (s.more k b) := by rw [rdJ, hF]; simp only; rw [if_neg ht]
    have hp : (s.more k b).pr = ((k + 1 : Nat) : Int) - 1 := by simp only [JV.more]; omega
    have hge := rdJ_pr F n (k + 1) (s.more k b) hp
    have eb : enB b = b.length := by
     have h1 := enB_le b
     have h2 : ¬ enB b < b.length := fun h => ht (by simp only [JV.more]; exact decide_eq_true h)
     omega
    have e4 : F' k = some b := by
     by_cases hq : (rdJ F n (k + 1) (s.more k b)).pr = (k : Int)
     ·rw [e] at hM
      rcases hM.at' k hq.symm with h1 | ⟨h1, _⟩
      ·rw [h1, hF]
      ·rw [h1, hF, rdJ_stay F n (k + 1) _ hp (by rw [hq]; rfl)]
       simp [JV.more, eb]
     ·rw [hM.low k (by rw [e]; have : (s.more k b).pr = (k : Int) := rfl; omega), hF]
    have e5 : rdJ F' (n + 1) k s = rdJ F' n (k + 1) (s.more k b) := by
     rw [rdJ, e4]
     simp only
     rw [if_neg ht]
    rw [e5, e]
    rw [e] at hM
    exact rdJ_mid F F' n (k + 1) (s.more k b) hp (by omega) hM
structure Mended (F F' : Nat → Option (List Int)) (V : JV) : Prop where
 low : ∀ j : Nat, (j : Int) < V.pr → F' j = F j
 at' : ∀ j : Nat, (j : Int) = V.pr → F' j = (F j).map (List.take V.sz.toNat)
 high : ∀ j : Nat, V.pr < (j : Int) → j < 256 → F' j = none
theorem Mended.mid {F F' : Nat → Option (List Int)} {V : JV} (h : Mended F F' V) : Mid F F' V := ⟨h.low, fun j hj => .inr ⟨h.at' j hj, fun i hi h2 => h.high i (by omega) h2⟩, fun j h1 h2 => .inr (h.high j h1 h2)⟩
theorem rdJ_at (F : Nat → Option (List Int)) : ∀ (n k : Nat) (s : JV), s.pr = (k : Int) - 1 → s.torn = false → rdJ F n k s = s ∨ ∃ (m : Nat) (b : List Int), m < k + n ∧ F m = some b ∧ (rdJ F n k s).pr = (m : Int) ∧ (rdJ F n k s).sz = (enB b : Int) ∧ (rdJ F n k s).torn = decide (enB b < b.length)
 | 0, k, s, _, _ => .inl rfl
 | n + 1, k, s, h, h0 => by
  rw [rdJ]
  cases hF : F k with
  | none => exact .inl rfl
  | some b =>
   right
   simp only
   split
   ·exact ⟨k, b, by omega, hF, rfl, rfl, rfl⟩
   ·rename_i ht
    have htf : (s.more k b).torn = false := by simpa using ht
    rcases rdJ_at F n (k + 1) (s.more k b) (by simp only [JV.more]; omega) htf with h1 | ⟨m, b', h1, h2, h3⟩
    ·rw [h1]; exact ⟨k, b, by omega, hF, rfl, rfl, rfl⟩
    ·exact ⟨m, b', by omega, h2, h3⟩
theorem rdJ_mended (F F' : Nat → Option (List Int)) : ∀ (n k : Nat) (s : JV), s.pr = (k : Int) - 1 → s.torn = false → k + n ≤ 256 → Mended F F' (rdJ F n k s) → rdJ F' n k s = { rdJ F n k s with torn := false } := fun n k s h h0 hk hM => by
 obtain ⟨b, hb⟩ := rdJ_mid F F' n k s h hk hM.mid
 rw [hb]
 have : b = false := by
  rcases rdJ_at F' n k s h h0 with h1 | ⟨m, b', h1, h2, h3, h4, h5⟩
  ·rw [h1] at hb
   have := congrArg JV.torn hb
   simp only at this
   rw [← this, h0]
  ·rw [hb] at h3 h4 h5
   simp only at h3 h4 h5
   have h6 := hM.at' m h3.symm
   rw [h2] at h6
   cases hFm : F m with
   | none => rw [hFm] at h6; cases h6
   | some bm =>
    rw [hFm] at h6
    injection h6 with h6
    rw [h4] at h6
    have h7 : b'.length ≤ enB b' := by
     have := congrArg List.length h6
     rw [List.length_take] at this
     simp only [Int.toNat_natCast] at this
     omega
    rw [h5]
    simp
    omega
 rw [this]
theorem openV_mended {F F' : Nat → Option (List Int)} (h : Mended F F' (openV F)) : openV F' = { openV F with torn := false } := rdJ_mended F F' 256 0 JV.nil rfl rfl (Nat.le_refl _) h
theorem bless_eq : ∀ (x y : List UInt8), Op.bytesLess x y = decide (x < y)
 | [], [] => by simp [Op.bytesLess]
 | _ :: _, [] => by simp [Op.bytesLess]
 | [], _ :: _ => by simp [Op.bytesLess]
 | a :: x, b :: y => by
  rw [Op.bytesLess, bless_eq x y]
  simp only [List.cons_lt_cons_iff]
  by_cases h1 : a < b <;> by_cases h2 : a = b <;> by_cases h3 : x < y <;> simp [h1, h2, h3]
theorem ba_ext {a b : ByteArray} (h : a.data.toList = b.data.toList) : a = b := by
 cases a; cases b; simp at h; rw [h]
theorem ba_data (n : ByteArray) : n.data.toList = n.toList := (Lib.toList_data n).symm
abbrev nlt (a b : ByteArray) : Prop := a.toList < b.toList
theorem nlt_irrefl (a : ByteArray) : ¬ nlt a a := List.lt_irrefl _
theorem nlt_trans {a b c : ByteArray} (h : nlt a b) (k : nlt b c) : nlt a c := List.lt_trans h k
theorem nlt_tri {a b : ByteArray} (h : ¬ nlt a b) (e : a ≠ b) : nlt b a := by
 unfold nlt at h ⊢
 rcases List.le_iff_lt_or_eq.1 (List.not_lt.1 h) with h1 | h1
 ·exact h1
 ·exact absurd (ba_ext (by rw [ba_data, ba_data, h1])) e
theorem toList_ext {a b : ByteArray} (h : a.toList = b.toList) : a = b := ba_ext (by rw [ba_data, ba_data, h])
def Srt (fs : List PF) : Prop := fs.Pairwise fun a b => nlt a.nm b.nm
def lk (fs : List PF) (n : ByteArray) : Option PF := fs.find? fun f => decide (f.nm = n)
theorem lk_some {fs : List PF} {n : ByteArray} {f : PF} (h : lk fs n = some f) : ∃ i : Nat, fs[i]? = some f ∧ f.nm = n := by
 obtain ⟨i, hi, rfl⟩ := List.getElem_of_mem (List.mem_of_find?_eq_some h)
 exact ⟨i, List.getElem?_eq_getElem hi, by have := List.find?_some h; simpa using this⟩
theorem lk_none {fs : List PF} {n : ByteArray} (h : lk fs n = none) : ∀ f ∈ fs, f.nm ≠ n := fun f hf e => by
 have := List.find?_eq_none.1 h f hf
 simp [e] at this
theorem lk_absent {fs : List PF} {n : ByteArray} (h : ∀ f ∈ fs, f.nm ≠ n) : lk fs n = none := List.find?_eq_none.2 fun f hf => by simpa using h f hf
theorem srt_one {fs : List PF} (h : Srt fs) {i j : Nat} {f g : PF} (hi : fs[i]? = some f) (hj : fs[j]? = some g) (e : f.nm = g.nm) : i = j := by
 obtain ⟨hi', rfl⟩ := List.getElem?_eq_some_iff.1 hi
 obtain ⟨hj', rfl⟩ := List.getElem?_eq_some_iff.1 hj
 have hp := List.pairwise_iff_getElem.1 h
 rcases Nat.lt_trichotomy i j with h1 | h1 | h1
 ·have := hp i j hi' hj' h1
  rw [e] at this
  exact absurd this (nlt_irrefl _)
 ·exact h1
 ·have := hp j i hj' hi' h1
  rw [e] at this
  exact absurd this (nlt_irrefl _)
theorem lk_at {fs : List PF} (h : Srt fs) {i : Nat} {f : PF} (hi : fs[i]? = some f) : lk fs f.nm = some f := by
 cases hl : lk fs f.nm with
 | none => exact absurd rfl (lk_none hl f (List.mem_of_getElem? hi))
 | some g =>
  obtain ⟨j, hj, e⟩ := lk_some hl
  obtain rfl := srt_one h hi hj e.symm
  rw [hi] at hj
  exact hj.symm
theorem fnd_of : ∀ (fs : List PF) (a i : Nat) (f : PF), Srt fs → fs[i]? = some f → fnd f.nm fs a = (a + i, true)
 | [], a, i, f, _, h => by simp at h
 | g :: r, a, 0, f, hs, h => by
  simp at h
  subst h
  unfold fnd
  rw [bless_eq, if_neg (by simp)]
  simp
 | g :: r, a, i + 1, f, hs, h => by
  have hr : r[i]? = some f := by simpa using h
  have hlt : nlt g.nm f.nm := (List.pairwise_cons.1 hs).1 f (List.mem_of_getElem? hr)
  unfold fnd
  rw [bless_eq, if_pos (decide_eq_true hlt), fnd_of r (a + 1) i f (List.pairwise_cons.1 hs).2 hr, Nat.add_right_comm, Nat.add_assoc]
theorem fnd_is {fs : List PF} (hs : Srt fs) {n : ByteArray} {f : PF} (h : lk fs n = some f) : ∃ i : Nat, fs[i]? = some f ∧ f.nm = n ∧ fnd n fs 0 = (i, true) := by
 obtain ⟨i, hi, e⟩ := lk_some h
 refine ⟨i, hi, e, ?_⟩
 have := fnd_of fs 0 i f hs hi
 rwa [e, Nat.zero_add] at this
theorem fnd_not : ∀ (fs : List PF) (n : ByteArray) (a : Nat), (∀ f ∈ fs, f.nm ≠ n) → (fnd n fs a).2 = false
 | [], n, a, _ => rfl
 | g :: r, n, a, h => by
  unfold fnd
  split
  ·exact fnd_not r n (a + 1) fun f hf => h f (by simp [hf])
  ·simp only [beq_eq_false_iff_ne, ne_eq]
   exact fun e => h g (by simp) (toList_ext e)
theorem fnd_absent {fs : List PF} {n : ByteArray} (h : lk fs n = none) : ∃ i, fnd n fs 0 = (i, false) ∧ i ≤ fs.length := by
 have h1 := fnd_not fs n 0 (lk_none h)
 have h2 := fnd_le n fs 0
 exact ⟨(fnd n fs 0).1, Prod.ext rfl h1, by omega⟩
theorem fnd_split : ∀ (fs : List PF) (n : ByteArray) (a i : Nat), Srt fs → fnd n fs a = (a + i, false) → (∀ f ∈ fs.take i, nlt f.nm n) ∧ ∀ f ∈ fs.drop i, nlt n f.nm
 | [], n, a, i, _, _ => ⟨fun f hf => by simp at hf, fun f hf => by simp at hf⟩
 | g :: r, n, a, i, hs, h => by
  unfold fnd at h
  split at h
  ·rename_i hlt
   rw [bless_eq] at hlt
   have hi := (fnd_le n r (a + 1)).1
   rw [h] at hi
   simp only at hi
   obtain ⟨j, rfl⟩ : ∃ j, i = j + 1 := ⟨i - 1, by omega⟩
   obtain ⟨h1, h2⟩ := fnd_split r n (a + 1) j (List.pairwise_cons.1 hs).2 (by rw [h]; congr 1; omega)
   refine ⟨fun f hf => ?_, fun f hf => h2 f (by simpa using hf)⟩
   rw [List.take_succ_cons] at hf
   rcases List.mem_cons.1 hf with rfl | hf
   ·exact of_decide_eq_true hlt
   ·exact h1 f hf
  ·rename_i hlt
   injection h with h0 h3
   obtain rfl : i = 0 := by omega
   have hne : g.nm ≠ n := fun e => by rw [e] at h3; simp at h3
   have hlt' : ¬ nlt g.nm n := fun h => hlt (by rw [bless_eq]; exact decide_eq_true h)
   have hg := nlt_tri hlt' hne
   refine ⟨fun f hf => by simp at hf, fun f hf => ?_⟩
   rw [List.drop_zero] at hf
   rcases List.mem_cons.1 hf with rfl | hf
   ·exact hg
   ·exact nlt_trans hg ((List.pairwise_cons.1 hs).1 f hf)
theorem srt_ins {fs : List PF} {n : ByteArray} {i : Nat} {f : PF} (hs : Srt fs) (h : fnd n fs 0 = (i, false)) (hf : f.nm = n) : Srt (fs.take i ++ [f] ++ fs.drop i) := by
 obtain ⟨h1, h2⟩ := fnd_split fs n 0 i hs (by rw [Nat.zero_add]; exact h)
 have h3 : (fs.take i ++ fs.drop i).Pairwise fun a b => nlt a.nm b.nm := by rw [List.take_append_drop]; exact hs
 obtain ⟨p1, p2, p3⟩ := List.pairwise_append.1 h3
 rw [List.append_assoc]
 refine List.pairwise_append.2 ⟨p1, List.pairwise_cons.2 ⟨fun b hb => by rw [hf]; exact h2 b hb, p2⟩, fun a ha b hb => ?_⟩
 rcases List.mem_cons.1 hb with rfl | hb
 ·rw [hf]; exact h1 a ha
 ·exact p3 a ha b hb
theorem srt_del {fs : List PF} (hs : Srt fs) (i : Nat) : Srt (fs.take i ++ fs.drop (i + 1)) := by
 have h3 : (fs.take i ++ fs.drop i).Pairwise fun a b => nlt a.nm b.nm := by rw [List.take_append_drop]; exact hs
 obtain ⟨p1, p2, p3⟩ := List.pairwise_append.1 h3
 have hsub : (fs.drop (i + 1)).Sublist (fs.drop i) := by rw [← List.drop_drop]; exact List.drop_sublist _ _
 exact List.pairwise_append.2 ⟨p1, p2.sublist hsub, fun a ha b hb => p3 a ha b (hsub.subset hb)⟩
theorem srt_set {fs : List PF} (hs : Srt fs) {i : Nat} {f g : PF} (hi : fs[i]? = some f) (e : g.nm = f.nm) : Srt (fs.set i g) := by
 unfold Srt at hs ⊢
 have hm : ∀ l : List PF, (l.Pairwise fun a b => nlt a.nm b.nm) ↔ (l.map PF.nm).Pairwise nlt := fun l => List.pairwise_map.symm
 rw [hm] at hs ⊢
 rw [List.map_set, e]
 obtain ⟨hi', rfl⟩ := List.getElem?_eq_some_iff.1 hi
 rwa [show (List.map PF.nm fs).set i (fs[i]).nm = List.map PF.nm fs by
  apply List.ext_getElem?
  intro j
  by_cases hj : i = j
  ·subst hj
   rw [List.getElem?_set_self (by simpa using hi'), List.getElem?_map, List.getElem?_eq_getElem hi']
   rfl
  ·rw [List.getElem?_set_ne hj]]
theorem del_mem {α : Type} {l : List α} {i : Nat} {x : α} (h : x ∈ l.take i ++ l.drop (i + 1)) : ∃ j, j ≠ i ∧ l[j]? = some x := by
 rcases List.mem_append.1 h with h | h
 ·obtain ⟨j, hj, rfl⟩ := List.getElem_of_mem h
  rw [List.length_take] at hj
  refine ⟨j, by omega, ?_⟩
  rw [List.getElem_take, List.getElem?_eq_getElem]
 ·obtain ⟨j, hj, rfl⟩ := List.getElem_of_mem h
  rw [List.length_drop] at hj
  refine ⟨i + 1 + j, by omega, ?_⟩
  rw [List.getElem_drop, List.getElem?_eq_getElem]
theorem mem_del {α : Type} {l : List α} {i j : Nat} {x : α} (h : l[j]? = some x) (hj : j ≠ i) : x ∈ l.take i ++ l.drop (i + 1) := by
 obtain ⟨hl, rfl⟩ := List.getElem?_eq_some_iff.1 h
 by_cases h1 : j < i
 ·exact List.mem_append.2 (.inl (by rw [List.mem_take_iff_getElem]; exact ⟨j, by omega, rfl⟩))
 ·refine List.mem_append.2 (.inr ?_)
  rw [List.mem_drop_iff_getElem]
  exact ⟨j - (i + 1), by omega, by congr 1; omega⟩
theorem lk_mem {fs : List PF} (hs : Srt fs) {f : PF} (h : f ∈ fs) : lk fs f.nm = some f := by
 obtain ⟨i, hi, rfl⟩ := List.getElem_of_mem h
 exact lk_at hs (List.getElem?_eq_getElem hi)
theorem lk_del {fs : List PF} (hs : Srt fs) {i : Nat} {f : PF} (hi : fs[i]? = some f) (n : ByteArray) : lk (fs.take i ++ fs.drop (i + 1)) n = if f.nm = n then none else lk fs n := by
 split
 ·rename_i e
  refine lk_absent fun g hg e2 => ?_
  obtain ⟨j, hj, hgj⟩ := del_mem hg
  exact hj (srt_one hs hgj hi (e2.trans e.symm))
 ·rename_i e
  cases hl : lk fs n with
  | none =>
   refine lk_absent fun g hg => ?_
   obtain ⟨j, hj, hgj⟩ := del_mem hg
   exact lk_none hl g (List.mem_of_getElem? hgj)
  | some g =>
   obtain ⟨j, hj, e2⟩ := lk_some hl
   have hji : j ≠ i := fun h => by subst h; rw [hi] at hj; injection hj with hj; subst hj; exact e e2
   have := lk_mem (srt_del hs i) (mem_del hj hji)
   rwa [e2] at this
theorem lk_set {fs : List PF} (hs : Srt fs) {i : Nat} {f g : PF} (hi : fs[i]? = some f) (e : g.nm = f.nm) (n : ByteArray) : lk (fs.set i g) n = if f.nm = n then some g else lk fs n := by
 have hs' := srt_set hs hi e
 have hl := (List.getElem?_eq_some_iff.1 hi).1
 split
 ·rename_i e2
  have := lk_at hs' (List.getElem?_set_self hl)
  rwa [e, e2] at this
 ·rename_i e2
  cases hk : lk fs n with
  | none =>
   refine lk_absent fun x hx e3 => ?_
   obtain ⟨j, hj, rfl⟩ := List.getElem_of_mem hx
   have hj2 := List.getElem?_eq_getElem hj
   by_cases h : i = j
   ·subst h
    rw [List.getElem?_set_self hl] at hj2
    injection hj2 with hj2
    rw [← hj2, e] at e3
    exact e2 e3
   ·rw [List.getElem?_set_ne h] at hj2
    exact lk_none hk _ (List.mem_of_getElem? hj2) e3
  | some x =>
   obtain ⟨j, hj, e3⟩ := lk_some hk
   have h : i ≠ j := fun h => by subst h; rw [hi] at hj; injection hj with hj; subst hj; exact e2 e3
   have := lk_at hs' ((List.getElem?_set_ne h).trans hj)
   rwa [e3] at this
theorem lk_ins {fs : List PF} (hs : Srt fs) {n : ByteArray} {i : Nat} {f : PF} (h : fnd n fs 0 = (i, false)) (hf : f.nm = n) (m : ByteArray) : lk (fs.take i ++ [f] ++ fs.drop i) m = if m = n then some f else lk fs m := by
 have hs' := srt_ins hs h hf
 split
 ·rename_i e
  have := lk_mem hs' (f := f) (by simp)
  rwa [hf, ← e] at this
 ·rename_i e
  cases hk : lk fs m with
  | none =>
   refine lk_absent fun x hx e3 => ?_
   rw [List.append_assoc, List.mem_append] at hx
   rcases hx with hx | hx
   ·exact lk_none hk x (List.mem_of_mem_take hx) e3
   ·rcases List.mem_append.1 hx with hx | hx
    ·rw [List.mem_singleton.1 hx, hf] at e3; exact e e3.symm
    ·exact lk_none hk x (List.mem_of_mem_drop hx) e3
  | some x =>
   obtain ⟨j, hj, e3⟩ := lk_some hk
   have hx : x ∈ fs.take i ++ fs.drop i := by rw [List.take_append_drop]; exact List.mem_of_getElem? hj
   have := lk_mem hs' (f := x) (by
    rcases List.mem_append.1 hx with h | h
    ·simp [h]
    ·simp [h])
   rwa [e3] at this
def numV (l : List UInt8) : Nat := l.foldl (fun a c => a * 10 + (c.toNat - 48)) 0
theorem numV_dig (u : Nat) : numV (Lib.decDigits u) = u := by
 induction u using Nat.strongRecOn with
 | ind u ih =>
  rw [Lib.decDigits]
  split
  ·rename_i h
   have : (UInt8.ofNat (48 + u)).toNat = 48 + u := by simp; omega
   simp only [numV, List.foldl_cons, List.foldl_nil, this]
   omega
  ·rename_i h
   have h1 := ih (u / 10) (by omega)
   have h2 : (UInt8.ofNat (48 + u % 10)).toNat = 48 + u % 10 := by simp; omega
   unfold numV at h1 ⊢
   rw [List.foldl_append, h1]
   simp only [List.foldl_cons, List.foldl_nil, h2]
   omega
theorem numV_zeros : ∀ (c : Nat) (l : List UInt8), numV (Lib.repeatL [48] c ++ l) = numV l
 | 0, l => rfl
 | c + 1, l => by
  have := numV_zeros c l
  unfold numV at this ⊢
  rw [Lib.repeatL, List.cons_append, List.nil_append, List.cons_append, List.foldl_cons]
  exact this
theorem nmS_list (k : Nat) : (nmS k).data.toList = 106 :: (Lib.repeatL [48] (4 - (Lib.decDigits k).length) ++ Lib.decDigits k) := by
 unfold nmS
 simp [ByteArray.data_append]
theorem nmS_inj {i j : Nat} (h : nmS i = nmS j) : i = j := by
 have h1 := congrArg (fun n => numV n.data.toList.tail) h
 simp only [nmS_list, List.tail_cons, numV_zeros, numV_dig] at h1
 exact h1
def Fk (fs : List PF) (k : Nat) : Option (List Int) := (lk fs (nmS k)).map PF.bs
end Go.Proofs.YtlggejehaonkcaaDoor
