import Derived.Test.YtlggejehaonkcaaDoorA02
import Derived.Test.YtlggejehaonkcaaDoorA01
import Derived.Deep.RegionHeld3
import Derived.Scope
import Derived.OwnWalk
import Derived.Laws.OwnMore
import Derived.WalkKit
import Derived.WalkSpells
import Derived.WalkLawsBesides
import Derived.BigQuiet
import Derived.BigRegion
import Derived.Deep.WholeRow
import Derived.Deep.MidRow
import Derived.Deep.RegionWith
import Derived.Deep.DeepCutAuto
import Derived.Laws.CopyRow
namespace Go.Proofs.YtlggejehaonkcaaDoor
open Go.RowKit
set_option linter.unusedSimpArgs false
set_option linter.unusedVariables false

theorem Tryd.newPl (w : World) : (Instr.alloc 88 true (.tuple #[])).run Tryd.prog w = .ok (.pointer (some ⟨w.heap.size, 0, none⟩)) (w.alloc (.cells #[.int .i64 0, .int .i64 0] 88)) := by kernel_rfl
set_option maxRecDepth 8000 in
theorem next_none (g : Nat) (n : Int) (w : World) (c2 : w.cell? ⟨g, 2, none⟩ = some (.int .i64 (-1))) : Calls Tryd.prog 33 #[ptr g, .int .i64 n] w fun r w' => r = .returned (.agg #[.int .i64 0, .int .i64 0]) ∧ Below w.heap.size w w' := by
 go_enter Tryd.func33, Tryd.ntmps33
 refine wp_seq_k fun K1 hK1 => rgn ?_
 refine WL.new (by kernel_rfl) 88 rfl _ Tryd.newPl ?_
 have HP := Keep.mk (Blk.new w 88 #[.int .i64 0, .int .i64 0])
 have B1 := Keep.mk (below_new w (.cells #[.int .i64 0, .int .i64 0] 88))
 have c2' : (w.alloc (.cells #[.int .i64 0, .int .i64 0] 88)).cell? ⟨g, 2, none⟩ = some (.int .i64 (-1)) := by rw [World.cell?_alloc_lt _ _ _ (cell_lt c2)]; exact c2
 clear c2
 have hw0 : IntKind.i64.wrap 0 = 0 := by rw [IntKind.wrap_i64]; rfl
 generalize w.alloc (.cells #[.int .i64 0, .int .i64 0] 88) = w1 at *
 obtain ⟨q, hq⟩ : ∃ p, Keep (p = w.heap.size) := ⟨_, ⟨rfl⟩⟩
 rw [← hq.out] at HP ⊢
 simp only [Act.put, pqA, pqB, pqC]
 refine WL.nil (hK1 _ _ ?_)
 refine wp_seq_k fun K2 hK2 => ?_
 refine wp_seq_k fun K3 hK3 => rgn ?_
 refine VlS (.pointer (some ⟨g, 0, none⟩)) ?_
 refine VlS (.pointer (some ⟨g, 0, none⟩)) ?_
 refine VlS (.pointer (some ⟨g, 2, none⟩)) ?_
 refine VlS (.int .i64 (-1)) ?_
 refine VlS (.bool true) ?_
 refine VlS (.bool true) ?_
 refine SkS ?_
 refine SkS ?_
 refine SkS ?_
 refine SkS ?_
 refine SkS ?_
 refine SkS ?_
 refine SkS ?_
 refine SkS ?_
 refine SkS ?_
 refine SkS ?_
 refine SkS ?_
 refine SkS ?_
 refine SkS ?_
 refine SkS ?_
 refine VlS (.bool true) ?_
 refine WL.nil (hK3 _ _ ?_)
 refine wp_cond_true rfl ?_
 refine wp_seq_k fun K4 hK4 => rgn ?_
 refine VlS (.pointer (some ⟨g, 0, none⟩)) ?_
 refine VlS (.pointer (some ⟨g, 0, none⟩)) ?_
 refine VlS (.pointer (some ⟨g, 2, none⟩)) ?_
 refine VlS (.int .i64 (-1)) ?_
 refine VlS (.int .i64 0) ?_
 refine WL.bld (by kernel_rfl) 88 _ rfl [(0, .int .i64 0)] (by simp [Act.eval]) #[.int .i64 0, .int .i64 0] (by kernel_rfl) ?_
 simp only [Act.put, pqA, pqB, pqC]
 refine WL.storeR (by kernel_rfl) 88 (.tmp 4) (.tmp 31) rfl q #[.int .i64 0, .int .i64 0] rfl rfl 88 #[.int .i64 0, .int .i64 0] HP.out (by kernel_rfl) rfl (by kernel_rfl) ?_
 have HP2 := Keep.mk (HP.out.setRow #[.int .i64 0, .int .i64 0])
 have B2 : Keep (Below w.heap.size w (w1.setRow q #[.int .i64 0, .int .i64 0])) := ⟨below_setRow B1.out (by rw [hq.out]; exact Nat.le_refl _) _⟩
 clear HP
 generalize w1.setRow q #[.int .i64 0, .int .i64 0] = w2 at *
 simp only [Act.put]
 refine WL.nil (hK4 _ _ ?_)
 refine wp_ret ?_
 try simp only [Exit.inBlock, Exit.then]
 refine bodyPost_ret (v := .agg #[.int .i64 0, .int .i64 0]) (results_cell1_row Tryd.results33 _ _ q 88 _ (0, 0) _ rfl HP2.out Tryd.underlying88 rfl (by kernel_rfl)) rfl ?_
 exact ⟨rfl, B2.out⟩
theorem OwnF.cells {w : World} {g n c : Nat} {l : List FC} (h : OwnF w (.slice (some ⟨g, 0, none⟩) n c) l) {j : Nat} {u : Value} (hj : (fL l)[j]? = some u) : w.cell? ⟨g, j, none⟩ = some u := by
 rcases h.form with ⟨e, _⟩ | ⟨g', cap, cur, e, hb, h3, h4, h5, h6⟩
 ·cases e
 ·injection e with e1 e2 e3
  injection e1 with e1
  injection e1 with e1
  subst e1 e2 e3
  rw [hb.cell]
  rw [← h6, List.getElem?_take] at hj
  split at hj
  ·rw [← hj]; simp
  ·cases hj
def SrcF (w : World) (v : Value) (m : List FC) : Prop :=
 (v = .slice none 0 0 ∧ m = []) ∨ ∃ g off c, v = .slice (some ⟨g, off, none⟩) m.length c ∧ ∀ j u, (fL m)[j]? = some u → w.cell? ⟨g, off + j, none⟩ = some u
theorem Tryd.elemFs : Tryd.prog.elem 49 = 72 := by kernel_rfl
theorem Tryd.sizeOfF (w : World) : (sizeOf 72).run Tryd.prog w = .ok 3 w := by kernel_rfl
theorem slF_hi {w : World} {a : Option Addr} {n c : Nat} {l : List FC} (h : OwnF w (.slice a n c) l) (i : Nat) (hi : i ≤ l.length) : ∃ vs, (∀ wx : World, (Instr.sliceAt 49 (.slice a n c) none (some (.int .i64 (i : Int))) none).run Tryd.prog wx = .ok vs wx) ∧ ∀ wx, OwnF wx (.slice a n c) l → SrcF wx vs (l.take i) := by
 have hu : Tryd.prog.underlying 49 = some (.slice (Tryd.prog.elem 49)) := by rw [Tryd.elemFs]; exact Tryd.underlying49
 have hc : i ≤ c := by
  rcases h.form with ⟨e, hl⟩ | ⟨g', cap, cur, e, hb, h3, h4, h5, h6⟩
  ·subst hl; simp at hi; omega
  ·injection e with e1 e2 e3; subst e3; omega
 refine ⟨sliced a 0 i c 3, fun wx => ?_, fun wx hx => ?_⟩
 ·have h1 := run_slice_h (P := Tryd.prog) (w := wx) 49 a n c hu .i64 (i : Int) (by omega) (by omega)
  rw [run_sliceAt_slice (P := Tryd.prog) (w := wx) 49 (.slice a n c) none (some (.int .i64 (i : Int))) none hu, h1, Tryd.elemFs]
  refine (congrArg (fun z => Result.andThen z fun s w => Result.ok (sliced a 0 (i : Int).toNat c s) w) (Tryd.sizeOfF wx)).trans ?_
  show Result.ok (sliced a 0 (i : Int).toNat c 3) wx = _
  rw [Int.toNat_natCast]
 ·rcases hx.form with ⟨e, hl⟩ | ⟨g', cap, cur, e, hb, h3, h4, h5, h6⟩
  ·injection e with e1 e2 e3
   subst e1 e2 e3 hl
   obtain rfl : i = 0 := by simpa using hi
   exact .inl ⟨rfl, by simp⟩
  ·injection e with e1 e2 e3
   subst e1 e2 e3
   refine .inr ⟨g', 0, c, ?_, fun j u hj => ?_⟩
   ·unfold sliced
    rw [List.length_take, Nat.min_eq_left hi]
    split <;> simp [Addr.add]
   ·rw [fL_take, List.getElem?_take] at hj
    split at hj
    ·rw [Nat.zero_add]; exact hx.cells hj
    ·cases hj
theorem slF_lo {w : World} {a : Option Addr} {n c : Nat} {l : List FC} (h : OwnF w (.slice a n c) l) (i : Nat) (hi : i ≤ l.length) : ∃ vs, (∀ wx : World, (Instr.sliceAt 49 (.slice a n c) (some (.int .i64 (i : Int))) none none).run Tryd.prog wx = .ok vs wx) ∧ ∀ wx, OwnF wx (.slice a n c) l → SrcF wx vs (l.drop i) := by
 have hu : Tryd.prog.underlying 49 = some (.slice (Tryd.prog.elem 49)) := by rw [Tryd.elemFs]; exact Tryd.underlying49
 have hc : i ≤ n ∧ n = l.length := by
  rcases h.form with ⟨e, hl⟩ | ⟨g', cap, cur, e, hb, h3, h4, h5, h6⟩
  ·injection e with e1 e2 e3; subst hl e2; simp at hi; subst hi; exact ⟨Nat.le_refl _, rfl⟩
  ·injection e with e1 e2 e3; subst e2; exact ⟨hi, rfl⟩
 refine ⟨sliced a i n c 3, fun wx => ?_, fun wx hx => ?_⟩
 ·have h1 := run_slice_l (P := Tryd.prog) (w := wx) 49 a n c hu .i64 (i : Int) (by omega) (by omega)
  rw [run_sliceAt_slice (P := Tryd.prog) (w := wx) 49 (.slice a n c) (some (.int .i64 (i : Int))) none none hu, h1, Tryd.elemFs]
  refine (congrArg (fun z => Result.andThen z fun s w => Result.ok (sliced a (i : Int).toNat n c s) w) (Tryd.sizeOfF wx)).trans ?_
  show Result.ok (sliced a (i : Int).toNat n c 3) wx = _
  rw [Int.toNat_natCast]
 ·rcases hx.form with ⟨e, hl⟩ | ⟨g', cap, cur, e, hb, h3, h4, h5, h6⟩
  ·injection e with e1 e2 e3
   subst e1 e2 e3 hl
   obtain rfl : i = 0 := by simpa using hi
   exact .inl ⟨rfl, by simp⟩
  ·injection e with e1 e2 e3
   subst e1 e2 e3
   unfold sliced
   by_cases hci : c = i
   ·have hd : l.drop i = [] := List.drop_eq_nil_of_le (by omega)
    rw [if_pos hci, hd]
    refine .inr ⟨g', 0, c - i, ?_, fun j u hj => by simp [fL] at hj⟩
    rw [show l.length - i = 0 by omega]; rfl
   ·rw [if_neg hci]
    refine .inr ⟨g', i * 3, c - i, ?_, fun j u hj => ?_⟩
    ·rw [List.length_drop]; simp [Addr.add]; try omega
    ·rw [fL_drop, List.getElem?_drop] at hj
     exact hx.cells hj
theorem run_appS (w : World) (ty : TypeId) (v vs : Value) (l m : List FC) (hown : OwnF w v l) (hm : ∀ x ∈ m, SlF x) (hs : SrcF w vs m) (hb : l.length + m.length ≤ 1000000000000) :
  ∃ v' w', (Builtin.append_ #[49, 49] ty #[v, vs]).run Tryd.prog w = .ok v' w' ∧ OwnF w' v' (l ++ m) ∧ (Grown w w' fun k => v.ownBlock = some k) ∧ Moved w v v' := by
 rcases hs with ⟨rfl, rfl⟩ | ⟨g, off, c, rfl, hg⟩
 ·obtain ⟨i, hi, _⟩ := Option.map_eq_some_iff.1 Tryd.infoF
  exact ⟨v, w, run_append_owned_none (P := Tryd.prog) (w := w) 0 49 ty 72 i 3 Tryd.underlying49 hi v l.length (fL l) hown, by rw [List.append_nil]; exact hown, Grown.refl _ _, Moved.refl _ _⟩
 ·exact run_appF w ty v l hown g off c m hm hg hb
theorem WL.appS {ops : Array Oper} {rest : List Oper} {o : Oper} {a : Act} {w : World} {Q : Exit → Act → World → Prop} (hw : Region.wanted o (yielded ops a.tmps) = true) (s x : Operand)
  (ho : o.op = .call { callee := .builtin .append, args := #[s, x], argTypes := #[49, 49] }) (v vs : Value) (l m : List FC) (hm : ∀ x ∈ m, SlF x)
  (hs : a.eval s = v) (hx : a.eval x = vs) (hown : OwnF w v l) (hsrc : SrcF w vs m) (hb : l.length + m.length ≤ 1000000000000)
  (h : ∀ v' w', OwnF w' v' (l ++ m) → (Grown w w' fun k => v.ownBlock = some k) → Moved w v v' → WL Tryd.prog ops Q rest (a.put o.dst v') w') : WL Tryd.prog ops Q (o :: rest) a w :=
 ⟨wpList_wanted hw fun K hK => by
  obtain ⟨v', w', hr, h1, h2, h3⟩ := run_appS w o.type v vs l m hown hm hsrc hb
  unfold Oper.wp execOp
  simp only [ho, resolve, invoke, builtin, Sem.run_bind, Sem.run_pure, Result.andThen_ok, List.map_toArray, List.map_cons, List.map_nil, hs, hx, hr]
  exact hK _ _ (h v' w' h1 h2 h3).out⟩
theorem WL.slHi {ops : Array Oper} {rest : List Oper} {o : Oper} {a : Act} {w : World} {Q : Exit → Act → World → Prop} (hw : Region.wanted o (yielded ops a.tmps) = true) (x hi : Operand) (ho : o.op = .slice 49 x none (some hi) none)
  (vx vh vs : Value) (hx : a.eval x = vx) (hh : a.eval hi = vh) (hr : (Instr.sliceAt 49 vx none (some vh) none).run Tryd.prog w = .ok vs w) (h : WL Tryd.prog ops Q rest (a.put o.dst vs) w) : WL Tryd.prog ops Q (o :: rest) a w :=
 WL.val hw vs (by unfold execOp; simp only [ho, hx, hh, Option.map_some, Option.map_none, Sem.run_bind, hr, Result.andThen_ok, Sem.run_pure]) h
theorem WL.slLo {ops : Array Oper} {rest : List Oper} {o : Oper} {a : Act} {w : World} {Q : Exit → Act → World → Prop} (hw : Region.wanted o (yielded ops a.tmps) = true) (x lo : Operand) (ho : o.op = .slice 49 x (some lo) none none)
  (vx vh vs : Value) (hx : a.eval x = vx) (hh : a.eval lo = vh) (hr : (Instr.sliceAt 49 vx (some vh) none none).run Tryd.prog w = .ok vs w) (h : WL Tryd.prog ops Q rest (a.put o.dst vs) w) : WL Tryd.prog ops Q (o :: rest) a w :=
 WL.val hw vs (by unfold execOp; simp only [ho, hx, hh, Option.map_some, Option.map_none, Sem.run_bind, hr, Result.andThen_ok, Sem.run_pure]) h
theorem ins_get {α : Type} (l : List α) (x : α) (i j : Nat) (hi : i ≤ l.length) : (l.take i ++ [x] ++ l.drop i)[j]? = if j < i then l[j]? else if j = i then some x else l[j - 1]? := by
 rw [List.append_assoc, List.getElem?_append, List.length_take, Nat.min_eq_left hi]
 by_cases h : j < i
 ·rw [if_pos h, if_pos h, List.getElem?_take, if_pos h]
 ·rw [if_neg h, if_neg h]
  by_cases h2 : j = i
  ·subst h2; simp
  ·rw [if_neg h2, List.singleton_append, show j - i = (j - 1 - i) + 1 by omega, List.getElem?_cons_succ, List.getElem?_drop, show i + (j - 1 - i) = j - 1 by omega]
theorem FcsAt.ins {w : World} {cs : List FC} {fs : List PF} (h : FcsAt w cs fs) (i : Nat) (hi : i ≤ cs.length) (n : ByteArray) : FcsAt w (cs.take i ++ [⟨n, .slice none 0 0, 0⟩] ++ cs.drop i) (fs.take i ++ [⟨n, [], 0⟩] ++ fs.drop i) := by
 have hl := h.len
 refine ⟨by simp; omega, fun j x f hx hf => ?_, fun j k x y hx hy hne b hb => ?_⟩
 ·rw [ins_get _ _ _ _ hi] at hx
  rw [ins_get _ _ _ _ (by omega)] at hf
  by_cases h1 : j < i
  ·rw [if_pos h1] at hx hf; exact h.each j x f hx hf
  ·rw [if_neg h1] at hx hf
   by_cases h2 : j = i
   ·rw [if_pos h2] at hx hf
    injection hx with hx; injection hf with hf; subst hx hf
    exact ⟨rfl, rfl, own_nil w⟩
   ·rw [if_neg h2] at hx hf; exact h.each _ x f hx hf
 ·have hold : ∀ m z, (cs.take i ++ [⟨n, .slice none 0 0, 0⟩] ++ cs.drop i)[m]? = some z → (∃ q, z.b.ownBlock = some q) → m ≠ i ∧ cs[if m < i then m else m - 1]? = some z := fun m z hz ⟨q, hq⟩ => by
   rw [ins_get _ _ _ _ hi] at hz
   by_cases h1 : m < i
   ·rw [if_pos h1] at hz ⊢; exact ⟨by omega, hz⟩
   ·rw [if_neg h1] at hz ⊢
    by_cases h2 : m = i
    ·rw [if_pos h2] at hz; injection hz with hz; subst hz; cases hq
    ·rw [if_neg h2] at hz; exact ⟨h2, hz⟩
  intro hyb
  obtain ⟨n1, h1⟩ := hold j x hx ⟨b, hb⟩
  obtain ⟨n2, h2⟩ := hold k y hy ⟨b, hyb⟩
  refine h.apart _ _ x y h1 h2 ?_ b hb hyb
  split <;> split <;> omega
theorem ins_set {α : Type} (l : List α) (x y : α) (i : Nat) (hi : i ≤ l.length) : (l.take i ++ [x] ++ l.drop i).set i y = l.take i ++ [y] ++ l.drop i := by
 rw [List.append_assoc, List.set_append, List.length_take, Nat.min_eq_left hi, if_neg (Nat.lt_irrefl i), Nat.sub_self, List.append_assoc]
 rfl
theorem FcsAt.set {w w' : World} {cs : List FC} {fs : List PF} (h : FcsAt w cs fs) {i : Nat} {x : FC} {f : PF} (hi : i < cs.length) (hnew : FcAt w' x f)
  (hold : ∀ (j : Nat) (y : FC) (g : PF), j ≠ i → cs[j]? = some y → fs[j]? = some g → FcAt w' y g) (hap : ∀ (j : Nat) (y : FC) (k : Nat), j ≠ i → cs[j]? = some y → x.b.ownBlock = some k → y.b.ownBlock ≠ some k) : FcsAt w' (cs.set i x) (fs.set i f) := by
 have hl := h.len
 have hg : ∀ (m : Nat) (z : FC), (cs.set i x)[m]? = some z → (m = i ∧ z = x) ∨ (m ≠ i ∧ cs[m]? = some z) := fun m z hz => by
  by_cases e : i = m
  ·subst e; rw [List.getElem?_set_self hi] at hz; injection hz with hz; exact .inl ⟨rfl, hz.symm⟩
  ·rw [List.getElem?_set_ne e] at hz; exact .inr ⟨fun e' => e e'.symm, hz⟩
 refine ⟨by simp; exact hl, fun j y g hy hg' => ?_, fun j k y z hy hz hne b hb hzb => ?_⟩
 ·rcases hg j y hy with ⟨rfl, rfl⟩ | ⟨hn, hy⟩
  ·rw [List.getElem?_set_self (by omega)] at hg'; injection hg' with hg'; subst hg'; exact hnew
  ·rw [List.getElem?_set_ne (fun e => hn e.symm)] at hg'; exact hold j y g hn hy hg'
 ·rcases hg j y hy with ⟨e1, e2⟩ | ⟨hn, hy2⟩
  ·rcases hg k z hz with ⟨e3, e4⟩ | ⟨hn2, hz2⟩
   ·exact hne (e1.trans e3.symm)
   ·rw [e2] at hb; exact hap k z b hn2 hz2 hb hzb
  ·rcases hg k z hz with ⟨e3, e4⟩ | ⟨hn2, hz2⟩
   ·rw [e4] at hzb; exact hap j y b hn hy2 hzb hb
   ·exact h.apart j k y z hy2 hz2 hne b hb hzb
def DskS (p : Nat) (vf : Value) (cs : List FC) (k : Nat) : Prop := k = p ∨ vf.ownBlock = some k ∨ ∃ (i : Nat) (x : FC), cs[i]? = some x ∧ x.b.ownBlock = some k
theorem DskAt.sTyp {w : World} {p : Nat} {vf : Value} {cs : List FC} {D : DV} (h : DskAt w p vf cs D) {k : Nat} (hk : DskS p vf cs k) : Typ w k 5 ∨ Typ w k 72 ∨ Typ w k 51 := by
 rcases hk with rfl | hk | ⟨i, x, hi, hk⟩
 ·exact .inr (.inr h.blk.typ)
 ·exact .inr (.inl (h.own.typ hk))
 ·have hl := (List.getElem?_eq_some_iff.1 hi).1
  rw [h.fcs.len] at hl
  exact .inl ((h.fcs.each i x _ hi (List.getElem?_eq_getElem hl)).2.2.typ hk)
theorem Tryd.in35 (w : World) (vs : Array Value) : (callFunc 35 vs).run Tryd.prog w = .ok (.enter 35 vs) w := by kernel_rfl
def pw (D : DV) : Int := if D.fuse = 0 then 7 else 0
theorem bcl {B : Nat} {a b : World} (h : Below B a b) {k j : Nat} {v : Value} (hk : k < B ∧ a.cell? ⟨k, j, none⟩ = some v) : b.cell? ⟨k, j, none⟩ = some v := by
 have : b.cell? ⟨k, j, none⟩ = a.cell? ⟨k, j, none⟩ := by simp only [World.cell?, h.block k hk.1]
 rw [this]; exact hk.2
theorem wp_cellS {P : Program} {Q : Exit → Act → World → Prop} {o : Oper} {a : Act} {w : World} {K : Act → World → Prop} (w' : World) (hrun : (execOp a.eval o).run P w = .ok .skip w') (h : K (a.put o.dst undef) w') : o.wp P a w K Q := by unfold Oper.wp; rw [hrun, Oper.upon_skip]; exact h
def DV.appNew (D : DV) (i : Nat) (n : ByteArray) (l : List Int) : DV := DV.act { D with fs := D.fs.take i ++ [⟨n, l, 0⟩] ++ D.fs.drop i, used := D.used + (l.length : Int) }
def NewF (B : Nat) (v : Value) : Prop := ∀ k, v.ownBlock = some k → B ≤ k
theorem own_new {w w' : World} {v v' : Value} {l : List Int} {B : Nat} (h : AppPost w v l v' w') (hB : B ≤ w.heap.size) (hv : ∀ k, v.ownBlock = some k → B ≤ k) : ∀ k, v'.ownBlock = some k → B ≤ k := fun k hk => by
 rcases h.moved with e | ⟨j, e, hj⟩
 ·exact hv k (by rw [← e]; exact hk)
 ·rw [e] at hk; injection hk; omega
theorem NewF.at {B g n c : Nat} (h : B ≤ g) : NewF B (.slice (some ⟨g, 0, none⟩) n c) := fun k hk => by have e : g = k := Option.some.inj hk; omega
theorem NewF.moved {B : Nat} {v v' : Value} {w : World} (h : NewF B v) (hB : B ≤ w.heap.size) (hm : Moved w v v') : NewF B v' := fun k hk => by
 rcases hm with e | ⟨j, e, hj⟩
 ·exact h k (by rw [← e]; exact hk)
 ·rw [hk] at e; have := Option.some.inj e; omega
theorem newF_below {v : Value} {w0 w w' : World} (h : NewF w0.heap.size v) (hb : Below w0.heap.size w0 w) (hg : Grown w w' fun k => v.ownBlock = some k) : Below w0.heap.size w0 w' := hb.trans (hg.to_below (fun k hk e => by have := h k e; omega) hb.size)
theorem srcF_one {w : World} {g : Nat} {x : FC} (h : Blk w g 72 (fA x)) : SrcF w (.slice (some ⟨g, 0, none⟩) 1 1) [x] := .inr ⟨g, 0, 1, rfl, fun j u hj => by rw [Nat.zero_add, h.cell]; simpa [fL] using hj⟩
theorem ownF_frozen {w : World} {g n c : Nat} {l : List FC} (h : OwnF w (.slice (some ⟨g, 0, none⟩) n c) l) (j : Nat) : w.frozen? ⟨g, j, none⟩ = false := by
 rcases h.form with ⟨e, _⟩ | ⟨g', cap, cur, e, hb, _⟩
 ·cases e
 ·injection e with e1 e2 e3
  injection e1 with e1
  injection e1 with e1
  subst e1
  exact hb.frozen _
theorem dsk_ins {w : World} {p : Nat} {vf v7 : Value} {cs csi : List FC} {D : DV} {i : Nat} {n : ByteArray} (h : DskAt w p vf cs D) (ho : OwnF w v7 csi) (hp : v7.ownBlock ≠ some p) (hc : csi = cs.take i ++ [(⟨n, .slice none 0 0, 0⟩ : FC)] ++ cs.drop i) (hi : i ≤ cs.length) : DskAt (w.setCell ⟨p, 0, none⟩ v7) p v7 csi { D with fs := D.fs.take i ++ [⟨n, [], 0⟩] ++ D.fs.drop i } := by
 have hg : Grown w (w.setCell ⟨p, 0, none⟩ v7) fun k => k = p := Grown.setCell w p 0 _ fun _ => rfl
 refine ⟨?_, ho.grown hg fun k hk e => hp (by rw [← e]; exact hk), ?_⟩
 ·exact h.blk.set 0 v7
 ·rw [hc]
  exact (h.fcs.ins i hi n).grown hg fun k hk e => by subst e; have := hk.one h.blk.typ; revert this; decide
theorem dsk_put {w w9 : World} {p g7 n7 k7 i : Nat} {cs csi : List FC} {D : DV} {n : ByteArray} {l : List Int} {a9 : Option Addr} {n9 k9 : Nat} (h : DskAt w p (.slice (some ⟨g7, 0, none⟩) n7 k7) csi { D with fs := D.fs.take i ++ [⟨n, [], 0⟩] ++ D.fs.drop i }) (ha : AppPost w.drew (.slice none 0 0) ([] ++ l) (.slice a9 n9 k9) w9) (hb : Below w.heap.size w w9) (hc : csi = cs.take i ++ [(⟨n, .slice none 0 0, 0⟩ : FC)] ++ cs.drop i) (hi : i ≤ cs.length) :
  DskAt (w9.setCell ⟨g7, i * 3 + 1, none⟩ (.slice a9 n9 k9)) p (.slice (some ⟨g7, 0, none⟩) n7 k7) (csi.set i ⟨n, .slice a9 n9 k9, 0⟩) { D with fs := D.fs.take i ++ [⟨n, l, 0⟩] ++ D.fs.drop i } := by
 have hg : Grown w9 (w9.setCell ⟨g7, i * 3 + 1, none⟩ (.slice a9 n9 k9)) fun k => k = g7 := Grown.setCell w9 g7 _ _ fun _ => rfl
 have h9 := h.below hb
 have hx : csi[i]? = some (⟨n, .slice none 0 0, 0⟩ : FC) := by rw [hc, ins_get _ _ _ _ hi, if_neg (Nat.lt_irrefl i), if_pos rfl]
 have ht : Typ w9 g7 72 := h9.own.typ rfl
 have hl : i < csi.length := (List.getElem?_eq_some_iff.1 hx).1
 have hfs : i ≤ D.fs.length := by have := h.fcs.len; rw [hc] at this; simp at this; omega
 refine ⟨hg.blk h9.blk fun e => ?_, h9.own.set hx (by omega) rfl, ?_⟩
 ·subst e; have := ht.one h9.blk.typ; revert this; decide
 ·have hf := h9.fcs.set (w' := w9.setCell ⟨g7, i * 3 + 1, none⟩ (.slice a9 n9 k9)) (x := ⟨n, .slice a9 n9 k9, 0⟩) (f := ⟨n, l, 0⟩) hl ⟨rfl, rfl, ?_⟩ (fun j y g hj hy hgj => (h9.fcs.each j y g hy hgj).grown hg fun k hk e => ?_) (fun j y k hj hy hk hyk => ?_)
  ·rw [ins_set _ _ _ _ hfs] at hf; exact hf
  ·have ho := ha.1
   rw [List.nil_append] at ho
   exact ho.grown hg fun k hk e => by subst e; have := (ho.typ hk).one ht; revert this; decide
  ·subst e; have := hk.one ht; revert this; decide
  ·have h1 := own_new (B := w.heap.size) ha (Nat.le_refl _) (fun j hj => by cases hj) k hk
   have hjl := (List.getElem?_eq_some_iff.1 hy).1
   rw [h.fcs.len] at hjl
   have h2 := (h.fcs.each j y _ hy (List.getElem?_eq_getElem hjl)).2.2.lt k hyk
   omega
theorem dsk_new {B p g7 n7 k7 i : Nat} {vf : Value} {cs csi : List FC} {n : ByteArray} {x : FC} (h7 : NewF B (.slice (some ⟨g7, 0, none⟩) n7 k7)) (hc : csi = cs.take i ++ [(⟨n, .slice none 0 0, 0⟩ : FC)] ++ cs.drop i) (hi : i ≤ cs.length) (hx : ∀ k, x.b.ownBlock = some k → B ≤ k) : ∀ k, DskS p (.slice (some ⟨g7, 0, none⟩) n7 k7) (csi.set i x) k → DskS p vf cs k ∨ B ≤ k := by
 rintro k (e | e | ⟨j, y, hy, e⟩)
 ·exact .inl (.inl e)
 ·exact .inr (h7 k e)
 ·rw [hc, ins_set _ _ _ _ hi, ins_get _ _ _ _ hi] at hy
  split at hy
  ·exact .inl (.inr (.inr ⟨j, y, hy, e⟩))
  ·split at hy
   ·injection hy with hy; subst hy; exact .inr (hx k e)
   ·exact .inl (.inr (.inr ⟨_, y, hy, e⟩))
set_option maxRecDepth 8000 in
set_option maxHeartbeats 2000000 in
theorem app_new (d p i : Nat) (n : ByteArray) (v vf : Value) (l : List Int) (cs : List FC) (D : DV) (w : World) (hDk : Blk w d 53 #[ptr p]) (hD : DskAt w p vf cs D) (hO : D.out = false) (hRg : rgt n = true) (hF : fnd n D.fs 0 = (i, false)) (hL : cs.length < 256)
  (hU : 0 ≤ D.used ∧ 0 ≤ D.room ∧ D.room ≤ 70368744177664 ∧ (l.length : Int) ≤ D.room - D.used) (hA : 0 ≤ D.acts ∧ D.acts ≤ 4611686018427387904) (hFu : -9223372036854775808 < D.fuse ∧ D.fuse ≤ 9223372036854775807) (hR : RowAt w v l) (hRp : ∀ k, v.ownBlock = some k → k ≠ p) :
  Calls Tryd.prog 35 #[ptr d, .string n, v] w fun e w' => e = .returned (.int .i64 (pw D)) ∧ ∃ vf' cs', DskAt w' p vf' cs' (D.appNew i n l) ∧ (Grown w w' fun k => k = p) ∧ ∀ k, DskS p vf' cs' k → DskS p vf cs k ∨ w.heap.size ≤ k := by
 obtain ⟨va, vc, rfl⟩ := hD.own.sl
 obtain ⟨ba, bc, rfl⟩ := row_form hR
 have HDk := Keep.mk hDk
 have HD := Keep.mk hD
 have HDp : Keep (p < w.heap.size) := ⟨hD.blk.lt⟩
 have HO := Keep.mk hO
 have HRg := Keep.mk hRg
 have HF := Keep.mk hF
 have HL := Keep.mk hL
 have HU := Keep.mk hU
 have HA := Keep.mk hA
 have HFu := Keep.mk hFu
 have HR := Keep.mk hR
 have HRp := Keep.mk hRp
 clear hDk hD hO hRg hF hL hU hA hFu hR hRp
 go_enter Tryd.func35, Tryd.ntmps35
 have cd := HDk.out.c 0 (by rfl : (#[ptr p] : Array Value)[0]? = some (ptr p))
 have c4 : w.cell? ⟨p, 4, none⟩ = some (.bool false) := by have h := HD.out.blk.c 4 (by rfl : (stA (.slice va cs.length vc) D)[4]? = some (.bool D.out)); rw [HO.out] at h; exact h
 refine wp_seq_k fun K1 hK1 => rgn ?_
 refine VlS (.int .i64 0) ?_
 refine WL.nil (hK1 _ _ ?_)
 refine wp_seq_k fun K2 hK2 => rgn ?_
 refine VlS (.pointer (some ⟨d, 0, none⟩)) ?_
 refine VlS (.pointer (some ⟨d, 0, none⟩)) ?_
 refine VlS (.pointer (some ⟨d, 0, none⟩)) ?_
 refine VlS (.pointer (some ⟨p, 0, none⟩)) ?_
 refine VlS (.pointer (some ⟨p, 0, none⟩)) ?_
 refine WL.nil (hK2 _ _ ?_)
 refine wp_seq_k fun K3 hK3 => ?_
 refine wp_seq_k fun K4 hK4 => rgn ?_
 refine VlS (.pointer (some ⟨p, 0, none⟩)) ?_
 refine VlS (.pointer (some ⟨p, 0, none⟩)) ?_
 refine VlS (.pointer (some ⟨p, 4, none⟩)) ?_
 refine VlS (.bool false) ?_
 refine WL.nil (hK4 _ _ ?_)
 refine wp_cond_false rfl ?_
 refine wp_skip ?_
 refine hK3 _ _ ?_
 refine wp_seq_k fun K5 hK5 => ?_
 refine wp_seq_k fun K6 hK6 => rgn ?_
 refine VlS (.string n) ?_
 clear cd c4
 have hrt := right_any n w
 rw [HRg.out] at hrt
 refine WL.callF (by kernel_rfl) 47 _ _ rfl Tryd.in47 #[.string n] (by simp [Act.eval]) ?_
 refine (hrt).mono ?_
 rintro e wz ⟨rfl, hz⟩
 refine ⟨_, rfl, ?_⟩
 subst hz
 clear hrt
 simp only [Act.put, pqA, pqB, pqC]
 refine VlS (.bool false) ?_
 refine WL.nil (hK6 _ _ ?_)
 refine wp_cond_false rfl ?_
 refine wp_skip ?_
 refine hK5 _ _ ?_
 refine wp_seq_k fun K7 hK7 => rgn ?_
 refine VlS (.pointer (some ⟨p, 0, none⟩)) ?_
 refine VlS (.string n) ?_
 have hfd := find_any p n _ cs D wz HD.out (by have := HL.out; omega)
 rw [HF.out] at hfd
 refine WL.callF (by kernel_rfl) 43 _ _ rfl Tryd.in43 #[ptr p, .string n] (by simp [Act.eval]) ?_
 refine (hfd).mono ?_
 rintro e w1 ⟨rfl, hb1⟩
 refine ⟨_, rfl, ?_⟩
 have HD1 := Keep.mk (HD.out.below hb1)
 have B1 := Keep.mk hb1
 have c0 := HD1.out.blk.c 0 (by rfl : (stA (.slice va cs.length vc) D)[0]? = some (.slice va cs.length vc))
 clear hb1 hfd
 have hlt : (cs.length : Int) < 256 := by have := HL.out; omega
 simp only [Act.put, pqA, pqB, pqC]
 refine VlS (.tuple #[.int .i64 (i : Int), .bool false]) ?_
 refine VlS (.int .i64 (i : Int)) ?_
 refine VlS (.bool false) ?_
 refine VlS (.int .i64 (i : Int)) ?_
 refine VlS (.bool false) ?_
 refine WL.nil (hK7 _ _ ?_)
 refine wp_seq_k fun K8 hK8 => ?_
 refine wp_seq_k fun K9 hK9 => rgn ?_
 refine VlS (.bool false) ?_
 refine VlS (.bool true) ?_
 refine VlS (.bool true) ?_
 refine VlS (.pointer (some ⟨p, 0, none⟩)) ?_
 refine VlS (.pointer (some ⟨p, 0, none⟩)) ?_
 refine VlS (.pointer (some ⟨p, 0, none⟩)) ?_
 refine VlS (.slice va cs.length vc) ?_
 refine VlS (.int .i64 (cs.length : Int)) ?_
 refine VlS (.bool false) ?_
 refine VlS (.bool false) ?_
 refine WL.nil (hK9 _ _ ?_)
 refine wp_cond_false rfl ?_
 refine wp_skip ?_
 refine hK8 _ _ ?_
 refine wp_seq_k fun K10 hK10 => ?_
 refine wp_seq_k fun K11 hK11 => ?_
 have hS0 : Keep (w1.drew.cell? ⟨p, 1, none⟩ = some (.int .i64 D.room) ∧ w1.drew.cell? ⟨p, 2, none⟩ = some (.int .i64 D.used)) := ⟨HD1.out.blk.drew.c 1 rfl, HD1.out.blk.drew.c 2 rfl⟩
 have hwr : IntKind.i64.wrap (D.room - D.used) = D.room - D.used := by rw [IntKind.wrap_i64]; have := HU.out; omega
 have hle : ¬ D.room - D.used < (l.length : Int) := by have := HU.out; omega
 refine wp_region_held_drew (S := fun wx => wx.cell? ⟨p, 1, none⟩ = some (.int .i64 D.room) ∧ wx.cell? ⟨p, 2, none⟩ = some (.int .i64 D.used)) (by kernel_rfl) (hS0.out) (fun hHeld => ?_)
 refine tkS (i := 0) (oi := ⟨some 38, Op.move (Operand.tmp 2), 41, _, _, none⟩) (v := .slice ba l.length bc) rfl (Or.inl ⟨by rfl, fun w hS => by obtain ⟨hS1, hS2⟩ := hS; go_simp⟩) hHeld ?_
 refine tkS (i := 1) (oi := ⟨some 39, Op.call { callee := Callee.builtin Builtin.len, args := #[Operand.tmp 38], argTypes := #[41] }, 3, _, _, none⟩) (v := .int .i64 (l.length : Int)) rfl (Or.inl ⟨by rfl, fun w hS => by obtain ⟨hS1, hS2⟩ := hS; go_simp⟩) hHeld ?_
 refine tkS (i := 2) (oi := ⟨some 40, Op.move (Operand.tmp 7), 48, _, _, none⟩) (v := .pointer (some ⟨p, 0, none⟩)) rfl (Or.inl ⟨by rfl, fun w hS => by obtain ⟨hS1, hS2⟩ := hS; go_simp⟩) hHeld ?_
 refine tkS (i := 3) (oi := ⟨some 41, Op.nilCheck (Operand.tmp 40), 0, _, _, none⟩) (v := .pointer (some ⟨p, 0, none⟩)) rfl (Or.inl ⟨by rfl, fun w hS => by obtain ⟨hS1, hS2⟩ := hS; go_simp⟩) hHeld ?_
 refine tkS (i := 4) (oi := ⟨some 42, Op.fieldAddr 51 (Operand.tmp 41) 1, 0, _, _, none⟩) (v := .pointer (some ⟨p, 1, none⟩)) rfl (Or.inl ⟨by rfl, fun w hS => by obtain ⟨hS1, hS2⟩ := hS; go_simp⟩) hHeld ?_
 refine tkS (i := 5) (oi := ⟨some 43, Op.load 3 (Operand.tmp 42), 3, _, _, none⟩) (v := .int .i64 D.room) rfl (Or.inl ⟨by rfl, fun w hS => by obtain ⟨hS1, hS2⟩ := hS; go_simp⟩) hHeld ?_
 refine tkS (i := 6) (oi := ⟨some 44, Op.move (Operand.tmp 7), 48, _, _, none⟩) (v := .pointer (some ⟨p, 0, none⟩)) rfl (Or.inl ⟨by rfl, fun w hS => by obtain ⟨hS1, hS2⟩ := hS; go_simp⟩) hHeld ?_
 refine tkS (i := 7) (oi := ⟨some 45, Op.nilCheck (Operand.tmp 44), 0, _, _, none⟩) (v := .pointer (some ⟨p, 0, none⟩)) rfl (Or.inl ⟨by rfl, fun w hS => by obtain ⟨hS1, hS2⟩ := hS; go_simp⟩) hHeld ?_
 refine tkS (i := 8) (oi := ⟨some 46, Op.fieldAddr 51 (Operand.tmp 45) 2, 0, _, _, none⟩) (v := .pointer (some ⟨p, 2, none⟩)) rfl (Or.inl ⟨by rfl, fun w hS => by obtain ⟨hS1, hS2⟩ := hS; go_simp⟩) hHeld ?_
 refine tkS (i := 9) (oi := ⟨some 47, Op.load 3 (Operand.tmp 46), 3, _, _, none⟩) (v := .int .i64 D.used) rfl (Or.inl ⟨by rfl, fun w hS => by obtain ⟨hS1, hS2⟩ := hS; go_simp⟩) hHeld ?_
 refine tkS (i := 10) (oi := ⟨some 48, Op.binOp BinOp.sub 3 (Operand.tmp 43) (Operand.tmp 47) 3, 3, _, _, none⟩) (v := .int .i64 (D.room - D.used)) rfl (Or.inl ⟨by rfl, fun w hS => by obtain ⟨hS1, hS2⟩ := hS; go_simp⟩) hHeld ?_
 refine tkS (i := 11) (oi := ⟨some 49, Op.binOp BinOp.gtr 3 (Operand.tmp 39) (Operand.tmp 48) 3, 4, _, _, none⟩) (v := .bool false) rfl (Or.inl ⟨by rfl, fun w hS => by obtain ⟨hS1, hS2⟩ := hS; go_simp⟩) hHeld ?_
 refine wpAnyH_done (by kernel_rfl) ?_ _
 refine hK11 _ _ ?_
 refine wp_cond_false rfl ?_
 refine wp_skip ?_
 refine hK10 _ _ ?_
 refine wp_seq_k fun K12 hK12 => ?_
 refine wp_seq_k fun K13 hK13 => ?_
 have HD2 := Keep.mk (HD1.out.grown (Grown.refl w1 (fun _ => False)).drew fun _ _ h => h)
 have B2 : Keep (Below wz.heap.size wz w1.drew) := ⟨B1.out.drew⟩
 clear c0 hS0 hwr hle hlt HD1 B1
 generalize w1.drew = w2 at *
 refine rgn ?_
 refine VlS (.bool false) ?_
 refine VlS (.bool true) ?_
 refine WL.nil (hK13 _ _ ?_)
 refine wp_cond_true rfl ?_
 refine wp_seq_k fun K14 hK14 => rgn ?_
 refine WL.bs (by kernel_rfl) 49 0 _ rfl #[] (by simp) _ _ (bsFE w2) ?_
 have HN3 := Keep.mk (ownF_empty w2)
 have hbx := below_new w2 (.cells #[] 72)
 have HD3 := Keep.mk (HD2.out.below hbx)
 have B3 : Keep (Below wz.heap.size wz (w2.alloc (.cells #[] 72))) := ⟨B2.out.trans (hbx.mono B2.out.size)⟩
 clear hbx HD2
 generalize w2.alloc (.cells #[] 72) = w3 at *
 obtain ⟨g3, hg3⟩ : ∃ g, Keep (g = w2.heap.size) := ⟨_, ⟨rfl⟩⟩
 rw [← hg3.out] at HN3 ⊢
 have hB3 : Keep (wz.heap.size ≤ g3) := ⟨by rw [hg3.out]; exact B2.out.size⟩
 have c0 := HD3.out.blk.c 0 (by rfl : (stA (.slice va cs.length vc) D)[0]? = some (.slice va cs.length vc))
 have hil : Keep (i ≤ cs.length) := ⟨by have h := fnd_le n D.fs 0; rw [HF.out] at h; have := HD3.out.fcs.len; simp at h; omega⟩
 obtain ⟨vs1, hs1, hs2⟩ := slF_hi HD3.out.own i hil.out
 have HS1 := Keep.mk (hs1 w3)
 have HS2 := Keep.mk (hs2 w3 HD3.out.own)
 clear hs1 hs2
 simp only [Act.put, pqA, pqB, pqC]
 refine VlS (.pointer (some ⟨p, 0, none⟩)) ?_
 refine VlS (.pointer (some ⟨p, 0, none⟩)) ?_
 refine VlS (.pointer (some ⟨p, 0, none⟩)) ?_
 refine VlS (.slice va cs.length vc) ?_
 refine VlS (.int .i64 (i : Int)) ?_
 refine WL.slHi (by kernel_rfl) (.tmp 56) (.tmp 57) rfl (.slice va cs.length vc) (.int .i64 (i : Int)) vs1 rfl rfl HS1.out ?_
 simp only [Act.put, pqA, pqB, pqC]
 refine WL.appS (by kernel_rfl) (.tmp 52) (.tmp 58) rfl (.slice (some ⟨g3, 0, none⟩) 0 0) vs1 [] (cs.take i) (fun x hx => HD3.out.fcs.sl x (List.mem_of_mem_take hx)) rfl rfl HN3.out HS2.out (by simp; have := HL.out; omega) fun v4 w4 ho hg hm => ?_
 have HO4 := Keep.mk ho
 have N4 : Keep (NewF wz.heap.size v4) := ⟨NewF.moved (NewF.at hB3.out) B3.out.size hm⟩
 have B4 : Keep (Below wz.heap.size wz w4) := ⟨newF_below (NewF.at hB3.out) B3.out hg⟩
 have HD4 : Keep (DskAt w4 p (.slice va cs.length vc) cs D) := ⟨HD.out.below B4.out⟩
 clear ho hg hm HD3 HS1 HS2 c0
 obtain ⟨a4, k4, e4⟩ := HO4.out.sl
 subst e4
 obtain ⟨n4, hn4⟩ : ∃ q, Keep (q = (([] : List FC) ++ cs.take i).length) := ⟨_, ⟨rfl⟩⟩
 rw [← hn4.out] at HO4 N4 ⊢
 simp only [Act.put, pqA, pqB, pqC]
 refine VlS (.slice a4 n4 k4) ?_
 refine WL.nil (hK14 _ _ ?_)
 refine wp_seq_k fun K15 hK15 => rgn ?_
 refine VlS (.slice a4 n4 k4) ?_
 refine VlS (.string n) ?_
 refine WL.bld (by kernel_rfl) 72 _ rfl [(0, .string n)] (by simp [Act.eval]) _ (f_built n) ?_
 simp only [Act.put, pqA, pqB, pqC]
 refine WL.bs (by kernel_rfl) 49 1 _ rfl #[(0, .agg (fA (⟨n, .slice none 0 0, 0⟩ : FC)))] (by simp [Act.eval]) _ _ (bsF n none 0 0 0 w4) ?_
 have HB5 := Keep.mk (Blk.new w4 72 (fA (⟨n, .slice none 0 0, 0⟩ : FC)))
 have hbx := below_new w4 (.cells (fA (⟨n, .slice none 0 0, 0⟩ : FC)) 72)
 have HO5 := Keep.mk (HO4.out.below hbx)
 have B5 : Keep (Below wz.heap.size wz (w4.alloc (.cells (fA (⟨n, .slice none 0 0, 0⟩ : FC)) 72))) := ⟨B4.out.trans (hbx.mono B4.out.size)⟩
 clear hbx HO4
 generalize w4.alloc (.cells (fA (⟨n, .slice none 0 0, 0⟩ : FC)) 72) = w5 at *
 obtain ⟨g5, hg5⟩ : ∃ g, Keep (g = w4.heap.size) := ⟨_, ⟨rfl⟩⟩
 rw [← hg5.out] at HB5 ⊢
 simp only [Act.put, pqA, pqB, pqC]
 refine WL.appS (by kernel_rfl) (.tmp 60) (.tmp 63) rfl (.slice a4 n4 k4) (.slice (some ⟨g5, 0, none⟩) 1 1) ([] ++ cs.take i) [(⟨n, .slice none 0 0, 0⟩ : FC)] (fun x hx => by simp at hx; subst hx; exact ⟨none, 0, 0, rfl⟩) rfl rfl HO5.out (srcF_one HB5.out) (by simp; have := HL.out; omega) fun v6 w6 ho hg hm => ?_
 have HO6 := Keep.mk ho
 have N6 : Keep (NewF wz.heap.size v6) := ⟨NewF.moved N4.out B5.out.size hm⟩
 have B6 : Keep (Below wz.heap.size wz w6) := ⟨newF_below N4.out B5.out hg⟩
 have HD6 : Keep (DskAt w6 p (.slice va cs.length vc) cs D) := ⟨HD.out.below B6.out⟩
 clear ho hg hm HD4 HB5
 obtain ⟨a6, k6, e6⟩ := HO6.out.sl
 subst e6
 obtain ⟨n6, hn6⟩ : ∃ q, Keep (q = ([] ++ cs.take i ++ [(⟨n, .slice none 0 0, 0⟩ : FC)]).length) := ⟨_, ⟨rfl⟩⟩
 rw [← hn6.out] at HO6 N6 ⊢
 have c0 := HD6.out.blk.c 0 (by rfl : (stA (.slice va cs.length vc) D)[0]? = some (.slice va cs.length vc))
 obtain ⟨vs2, hs1, hs2⟩ := slF_lo HD6.out.own i hil.out
 have HS1 := Keep.mk (hs1 w6)
 have HS2 := Keep.mk (hs2 w6 HD6.out.own)
 clear hs1 hs2
 simp only [Act.put, pqA, pqB, pqC]
 refine VlS (.slice a6 n6 k6) ?_
 refine WL.nil (hK15 _ _ ?_)
 refine rgn ?_
 refine VlS (.pointer (some ⟨p, 0, none⟩)) ?_
 refine VlS (.slice a6 n6 k6) ?_
 refine VlS (.pointer (some ⟨p, 0, none⟩)) ?_
 refine VlS (.pointer (some ⟨p, 0, none⟩)) ?_
 refine VlS (.pointer (some ⟨p, 0, none⟩)) ?_
 refine VlS (.slice va cs.length vc) ?_
 refine VlS (.int .i64 (i : Int)) ?_
 refine WL.slLo (by kernel_rfl) (.tmp 70) (.tmp 71) rfl (.slice va cs.length vc) (.int .i64 (i : Int)) vs2 rfl rfl HS1.out ?_
 simp only [Act.put, pqA, pqB, pqC]
 refine WL.appS (by kernel_rfl) (.tmp 66) (.tmp 72) rfl (.slice a6 n6 k6) vs2 ([] ++ cs.take i ++ [(⟨n, .slice none 0 0, 0⟩ : FC)]) (cs.drop i) (fun x hx => HD6.out.fcs.sl x (List.mem_of_mem_drop hx)) rfl rfl HO6.out HS2.out (by simp; have := HL.out; omega) fun v7 w7 ho hg hm => ?_
 have HO7 : Keep (OwnF w7 v7 (cs.take i ++ [(⟨n, .slice none 0 0, 0⟩ : FC)] ++ cs.drop i)) := ⟨by rw [List.nil_append] at ho; exact ho⟩
 have N7 : Keep (NewF wz.heap.size v7) := ⟨NewF.moved N6.out B6.out.size hm⟩
 have B7 : Keep (Below wz.heap.size wz w7) := ⟨newF_below N6.out B6.out hg⟩
 have HD7 : Keep (DskAt w7 p (.slice va cs.length vc) cs D) := ⟨HD.out.below B7.out⟩
 clear ho hg hm HD6 HS1 HS2 c0
 obtain ⟨csi, hcsi⟩ : ∃ q, Keep (q = (cs.take i ++ [(⟨n, .slice none 0 0, 0⟩ : FC)] ++ cs.drop i)) := ⟨_, ⟨rfl⟩⟩
 rw [← hcsi.out] at HO7
 obtain ⟨a7, k7, e7⟩ := HO7.out.sl
 subst e7
 obtain ⟨g7, e7, hr7⟩ := HO7.out.at (t := i) (c := (⟨n, .slice none 0 0, 0⟩ : FC)) (by rw [hcsi.out, ins_get _ _ _ _ hil.out, if_neg (Nat.lt_irrefl i), if_pos rfl])
 subst e7
 clear hr7
 have f_o := HD7.out.blk.frozen 0
 have c0 := HD7.out.blk.c 0 (by rfl : (stA (.slice va cs.length vc) D)[0]? = some (.slice va cs.length vc))
 simp only [Act.put, pqA, pqB, pqC]
 refine VlS (.pointer (some ⟨p, 0, none⟩)) ?_
 refine VlS (.pointer (some ⟨p, 0, none⟩)) ?_
 refine WL.cell (by kernel_rfl) (w7.setCell ⟨p, 0, none⟩ (.slice (some ⟨g7, 0, none⟩) csi.length k7)) (by go_simp) ?_
 clear f_o c0
 have HD8 : Keep (DskAt (w7.setCell ⟨p, 0, none⟩ (.slice (some ⟨g7, 0, none⟩) csi.length k7)) p (.slice (some ⟨g7, 0, none⟩) csi.length k7) csi { D with fs := D.fs.take i ++ [⟨n, [], 0⟩] ++ D.fs.drop i }) := ⟨dsk_ins HD7.out HO7.out (by have := HDp.out; intro e; have e : g7 = p := Option.some.inj e; have := N7.out g7 rfl; omega) hcsi.out hil.out⟩
 have G8 : Keep (Grown wz (w7.setCell ⟨p, 0, none⟩ (.slice (some ⟨g7, 0, none⟩) csi.length k7)) fun k => k = p) := ⟨(Grown.below B7.out).trans (Grown.setCell w7 p 0 _ fun _ => rfl)⟩
 clear HD7 HO7
 generalize w7.setCell ⟨p, 0, none⟩ (.slice (some ⟨g7, 0, none⟩) csi.length k7) = w8 at *
 have HR8 := Keep.mk (HR.out.grown G8.out fun b hb _ => HRp.out b hb)
 obtain ⟨g_, hg_, hr8⟩ := HD8.out.own.at (t := i) (c := (⟨n, .slice none 0 0, 0⟩ : FC)) (by rw [hcsi.out, ins_get _ _ _ _ hil.out, if_neg (Nat.lt_irrefl i), if_pos rfl])
 obtain rfl : g7 = g_ := by injection hg_ with h; injection h
 have HR1 : Keep (w8.cell? ⟨g7, i * 3 + 1, none⟩ = some (.slice none 0 0)) := ⟨hr8 1 _ rfl⟩
 clear hr8 hg_
 have hgp : Keep (g7 ≠ p ∧ wz.heap.size ≤ g7) := ⟨by have := HDp.out; have := N7.out g7 rfl; omega, N7.out g7 rfl⟩
 have hcl : Keep (csi.length = cs.length + 1) := ⟨by rw [hcsi.out]; simp; have := hil.out; omega⟩
 have hilc : (i : Int) < (csi.length : Int) := by have := hcl.out; have := hil.out; omega
 simp only [Act.put]
 refine WL.nil (hK12 _ _ ?_)
 refine wp_seq_k fun K16 hK16 => ?_
 have hS0 : Keep (w8.drew.cell? ⟨p, 0, none⟩ = some (.slice (some ⟨g7, 0, none⟩) csi.length k7)) := ⟨HD8.out.blk.drew.c 0 rfl⟩
 refine wp_region_held_drew (S := fun wx => wx.cell? ⟨p, 0, none⟩ = some (.slice (some ⟨g7, 0, none⟩) csi.length k7)) (by kernel_rfl) (hS0.out) (fun hHeld => ?_)
 refine tkS (i := 0) (oi := ⟨some 76, Op.move (Operand.tmp 7), 48, _, _, none⟩) (v := .pointer (some ⟨p, 0, none⟩)) rfl (Or.inl ⟨by rfl, fun w hS => by go_simp⟩) hHeld ?_
 refine tkS (i := 1) (oi := ⟨some 77, Op.nilCheck (Operand.tmp 76), 0, _, _, none⟩) (v := .pointer (some ⟨p, 0, none⟩)) rfl (Or.inl ⟨by rfl, fun w hS => by go_simp⟩) hHeld ?_
 refine tkS (i := 2) (oi := ⟨some 78, Op.fieldAddr 51 (Operand.tmp 77) 0, 0, _, _, none⟩) (v := .pointer (some ⟨p, 0, none⟩)) rfl (Or.inl ⟨by rfl, fun w hS => by go_simp⟩) hHeld ?_
 refine tkS (i := 3) (oi := ⟨some 79, Op.load 49 (Operand.tmp 78), 49, _, _, none⟩) (v := .slice (some ⟨g7, 0, none⟩) csi.length k7) rfl (Or.inl ⟨by rfl, fun w hS => by go_simp⟩) hHeld ?_
 refine tkS (i := 4) (oi := ⟨some 80, Op.move (Operand.tmp 8), 3, _, _, none⟩) (v := .int .i64 (i : Int)) rfl (Or.inl ⟨by rfl, fun w hS => by go_simp⟩) hHeld ?_
 refine tkS (i := 5) (oi := ⟨some 81, Op.move (Operand.tmp 7), 48, _, _, none⟩) (v := .pointer (some ⟨p, 0, none⟩)) rfl (Or.inl ⟨by rfl, fun w hS => by go_simp⟩) hHeld ?_
 refine tkS (i := 6) (oi := ⟨some 82, Op.nilCheck (Operand.tmp 81), 0, _, _, none⟩) (v := .pointer (some ⟨p, 0, none⟩)) rfl (Or.inl ⟨by rfl, fun w hS => by go_simp⟩) hHeld ?_
 refine tkS (i := 7) (oi := ⟨some 83, Op.fieldAddr 51 (Operand.tmp 82) 0, 0, _, _, none⟩) (v := .pointer (some ⟨p, 0, none⟩)) rfl (Or.inl ⟨by rfl, fun w hS => by go_simp⟩) hHeld ?_
 refine tkS (i := 8) (oi := ⟨some 84, Op.load 49 (Operand.tmp 83), 49, _, _, none⟩) (v := .slice (some ⟨g7, 0, none⟩) csi.length k7) rfl (Or.inl ⟨by rfl, fun w hS => by go_simp⟩) hHeld ?_
 refine tkS (i := 9) (oi := ⟨some 85, Op.move (Operand.tmp 8), 3, _, _, none⟩) (v := .int .i64 (i : Int)) rfl (Or.inl ⟨by rfl, fun w hS => by go_simp⟩) hHeld ?_
 refine tkS (i := 10) (oi := ⟨some 86, Op.indexAddr 49 (Operand.tmp 84) (Operand.tmp 85), 0, _, _, none⟩) (v := .pointer (some ⟨g7, i * 3, none⟩)) rfl (Or.inl ⟨by rfl, fun w hS => by go_simp⟩) hHeld ?_
 refine tkS (i := 11) (oi := ⟨some 87, Op.fieldAddr 72 (Operand.tmp 86) 1, 0, _, _, none⟩) (v := .pointer (some ⟨g7, i * 3 + 1, none⟩)) rfl (Or.inl ⟨by rfl, fun w hS => by go_simp⟩) hHeld ?_
 refine tkS (i := 13) (oi := ⟨some 89, Op.move (Operand.tmp 2), 41, _, _, none⟩) (v := .slice ba l.length bc) rfl (Or.inl ⟨by rfl, fun w hS => by go_simp⟩) hHeld ?_
 refine wpAnyH_ready (rs := [12]) (by kernel_rfl) (by simp) ?_
 refine AllReadyH.cons (o := ⟨some 88, Op.load 41 (Operand.tmp 87), 41, _, _, none⟩) rfl (fun K hK => ?_) AllReadyH.nil
 rw [if_pos (by rfl)]
 have cl : w8.drew.cell? ⟨g7, i * 3 + 1, none⟩ = some (.slice none 0 0) := HR1.out
 refine wp_val (.slice none 0 0) (by go_simp) ?_
 clear cl
 refine hK _ _ hS0.out fun hH1 => ?_
 clear hK
 simp only [Act.put, pqA, pqB, pqC]
 refine wpAnyH_ready (rs := [14]) (by kernel_rfl) (by simp) ?_
 refine AllReadyH.cons (o := ⟨some 90, Op.call { callee := Callee.builtin Builtin.append, args := #[Operand.tmp 88, Operand.tmp 89], argTypes := #[41, 41] }, 41, _, _, none⟩) rfl (fun K hK => ?_) AllReadyH.nil
 rw [if_pos (by rfl)]
 refine wp_app (.tmp 88) (.tmp 89) rfl (.slice none 0 0) (.slice ba l.length bc) [] l rfl rfl (own_nil _) (HR8.out.below (Below.refl _ _).drew) (by have := HU.out; simp; omega) fun v9 w9 hp => ?_
 have HA9 := Keep.mk hp
 have G9 : Keep (Below w8.heap.size w8 w9) := ⟨(Below.refl w8.heap.size w8).drew.trans (hp.grown.to_below (B := w8.heap.size) (fun k _ e => by cases e) (Nat.le_refl _))⟩
 clear hp
 obtain ⟨a9, n9, k9, e9⟩ := HA9.out.1.sl
 subst e9
 have hS9 : Keep (w9.cell? ⟨p, 0, none⟩ = some (.slice (some ⟨g7, 0, none⟩) csi.length k7)) := ⟨(HD8.out.blk.below G9.out HD8.out.blk.lt).c 0 rfl⟩
 refine hK _ _ hS9.out fun hH2 => ?_
 clear hK
 simp only [Act.put, pqA, pqB, pqC]
 refine tkS (i := 15) (oi := ⟨some 91, Op.indexAddr 49 (Operand.tmp 79) (Operand.tmp 80), 0, _, _, none⟩) (v := .pointer (some ⟨g7, i * 3, none⟩)) rfl (Or.inl ⟨by rfl, fun w hS => by go_simp⟩) hH2 ?_
 refine tkS (i := 16) (oi := ⟨some 92, Op.fieldAddr 72 (Operand.tmp 91) 1, 0, _, _, none⟩) (v := .pointer (some ⟨g7, i * 3 + 1, none⟩)) rfl (Or.inl ⟨by rfl, fun w hS => by go_simp⟩) hH2 ?_
 refine wpAnyH_ready (rs := [17]) (by kernel_rfl) (by simp) ?_
 refine AllReadyH.cons (o := ⟨none, Op.store 41 (Operand.tmp 92) (Operand.tmp 90), 0, _, _, none⟩) rfl (fun K hK => ?_) AllReadyH.nil
 rw [if_pos (by rfl)]
 have f_o : w9.frozen? ⟨g7, i * 3 + 1, none⟩ = false := ownF_frozen (HD8.out.own.below G9.out) _
 have cl : w9.cell? ⟨g7, i * 3 + 1, none⟩ = some (.slice none 0 0) := bcl G9.out ⟨cell_lt HR1.out, HR1.out⟩
 refine wp_cellS (w9.setCell ⟨g7, i * 3 + 1, none⟩ (.slice a9 n9 k9)) (by go_simp) ?_
 clear f_o cl
 refine hK _ _ ((Grown.setCell w9 g7 (i * 3 + 1) _ (S := fun k => k = g7) fun _ => rfl).cell hS9.out (fun e => hgp.out.1 e.symm)) fun hH3 => ?_
 clear hK
 simp only [Act.put, pqA, pqB, pqC]
 refine wpAnyH_done (by kernel_rfl) ?_ _
 refine hK16 _ _ ?_
 refine wp_seq_k fun K17 hK17 => ?_
 obtain ⟨w10, hw10⟩ : ∃ wx, Keep (wx = w9.setCell ⟨g7, i * 3 + 1, none⟩ (.slice a9 n9 k9)) := ⟨_, ⟨rfl⟩⟩
 rw [← hw10.out]
 have HD10 : Keep (DskAt w10 p (.slice (some ⟨g7, 0, none⟩) csi.length k7) (csi.set i (⟨n, .slice a9 n9 k9, 0⟩ : FC)) { D with fs := D.fs.take i ++ [⟨n, l, 0⟩] ++ D.fs.drop i }) := ⟨by rw [hw10.out]; exact dsk_put HD8.out HA9.out G9.out hcsi.out hil.out⟩
 have G10 : Keep (Grown wz w10 fun k => k = p) := ⟨by rw [hw10.out]; exact (G8.out.trans (Grown.below G9.out |>.mono (fun k _ h => h) (S := fun k => k = p))).next (Grown.setCell w9 g7 _ _ (S := fun k => k = g7) fun _ => rfl) fun k hk e => by have := hgp.out; omega⟩
 have N10 : Keep (∀ k, DskS p (.slice (some ⟨g7, 0, none⟩) csi.length k7) (csi.set i (⟨n, .slice a9 n9 k9, 0⟩ : FC)) k → DskS p (.slice va cs.length vc) cs k ∨ wz.heap.size ≤ k) := ⟨dsk_new (by have := N7.out g7 rfl; exact N7.out) hcsi.out hil.out (fun k hk => by have h := own_new (B := w8.heap.size) HA9.out (Nat.le_refl _) (fun j hj => by cases hj) k hk; have := G8.out.size; omega)⟩
 clear HD8 HA9 G9 G8 hw10 hS9 HR8 HR1 hS0
 have c2 := HD10.out.blk.c 2 (by rfl : (stA (.slice (some ⟨g7, 0, none⟩) csi.length k7) { D with fs := D.fs.take i ++ [⟨n, l, 0⟩] ++ D.fs.drop i })[2]? = some (.int .i64 D.used))
 have f_o := HD10.out.blk.frozen 2
 have hwu : IntKind.i64.wrap (D.used + (l.length : Int)) = D.used + (l.length : Int) := by rw [IntKind.wrap_i64]; have := HU.out; omega
 refine rgn ?_
 refine VlS (.pointer (some ⟨p, 0, none⟩)) ?_
 refine VlS (.pointer (some ⟨p, 0, none⟩)) ?_
 refine VlS (.pointer (some ⟨p, 2, none⟩)) ?_
 refine VlS (.int .i64 D.used) ?_
 refine VlS (.slice ba l.length bc) ?_
 refine VlS (.int .i64 (l.length : Int)) ?_
 refine VlS (.int .i64 (D.used + (l.length : Int))) ?_
 refine VlS (.pointer (some ⟨p, 0, none⟩)) ?_
 refine VlS (.pointer (some ⟨p, 2, none⟩)) ?_
 refine WL.cell (by kernel_rfl) (w10.setCell ⟨p, 2, none⟩ (.int .i64 (D.used + (l.length : Int)))) (by go_simp) ?_
 clear f_o c2
 have HD11 : Keep (DskAt (w10.setCell ⟨p, 2, none⟩ (.int .i64 (D.used + (l.length : Int)))) p (.slice (some ⟨g7, 0, none⟩) csi.length k7) (csi.set i (⟨n, .slice a9 n9 k9, 0⟩ : FC)) { D with fs := D.fs.take i ++ [⟨n, l, 0⟩] ++ D.fs.drop i, used := D.used + (l.length : Int) }) := ⟨HD10.out.put rfl rfl⟩
 have G11 : Keep (Grown wz (w10.setCell ⟨p, 2, none⟩ (.int .i64 (D.used + (l.length : Int)))) fun k => k = p) := ⟨G10.out.trans (Grown.setCell w10 p 2 _ fun _ => rfl)⟩
 clear HD10 G10
 generalize w10.setCell ⟨p, 2, none⟩ (.int .i64 (D.used + (l.length : Int))) = w11 at *
 simp only [Act.put]
 refine WL.nil (hK17 _ _ ?_)
 refine wp_seq_k fun K18 hK18 => ?_
 refine wp_seq_k fun K19 hK19 => rgn ?_
 refine VlS (.pointer (some ⟨p, 0, none⟩)) ?_
 have hac := act_any p _ _ _ w11 HD11.out HA.out ⟨HFu.out.1, HFu.out.2⟩
 refine WL.callF (by kernel_rfl) 44 _ _ rfl Tryd.in44 #[ptr p] (by simp [Act.eval]) ?_
 refine (hac).mono ?_
 rintro e wq ⟨rfl, h1, h2⟩
 refine ⟨_, rfl, ?_⟩
 have HD12 := Keep.mk h1
 have G12 : Keep (Grown wz wq fun k => k = p) := ⟨G11.out.trans h2⟩
 clear h1 h2 hac
 simp only [Act.put, pqA, pqB, pqC]
 rcases Decidable.em (D.fuse = 0) with hfu | hfu
 ·rw [show decide (D.fuse = 0) = true from decide_eq_true hfu]
  refine WL.nil (hK19 _ _ ?_)
  refine wp_cond_true rfl ?_
  refine wp_seq_k fun K20 hK20 => rgn ?_
  refine VlS (.int .i64 7) ?_
  refine WL.nil (hK20 _ _ ?_)
  refine wp_ret ?_
  go_ret
  exact ⟨by unfold pw; rw [if_pos hfu]; rfl, _, _, HD12.out, G12.out, N10.out⟩
 ·rw [show decide (D.fuse = 0) = false from decide_eq_false hfu]
  refine WL.nil (hK19 _ _ ?_)
  refine wp_cond_false rfl ?_
  refine wp_skip ?_
  refine hK18 _ _ ?_
  refine wp_seq_k fun K21 hK21 => rgn ?_
  refine VlS (.int .i64 0) ?_
  refine WL.nil (hK21 _ _ ?_)
  refine wp_ret ?_
  go_ret
  exact ⟨by unfold pw; rw [if_neg hfu]; rfl, _, _, HD12.out, G12.out, N10.out⟩
theorem append_new (d p i : Nat) (n : ByteArray) (v vf : Value) (l : List Int) (cs : List FC) (D : DV) (w : World) (hDk : Blk w d 53 #[ptr p]) (hD : DskAt w p vf cs D) (hO : D.out = false) (hRg : rgt n = true) (hF : fnd n D.fs 0 = (i, false)) (hL : cs.length < 256)
  (hU : 0 ≤ D.used ∧ 0 ≤ D.room ∧ D.room ≤ 70368744177664 ∧ (l.length : Int) ≤ D.room - D.used) (hA : 0 ≤ D.acts ∧ D.acts ≤ 4611686018427387904) (hFu : -9223372036854775808 < D.fuse ∧ D.fuse ≤ 9223372036854775807 ∧ ¬ D.fuse = 0) (hR : RowAt w v l) (hRp : ∀ k, v.ownBlock = some k → k ≠ p) :
  Calls Tryd.prog 35 #[ptr d, .string n, v] w fun e w' => e = .returned (.int .i64 0) ∧ ∃ vf' cs', DskAt w' p vf' cs' (D.appNew i n l) ∧ (Grown w w' fun k => k = p) ∧ ∀ k, DskS p vf' cs' k → DskS p vf cs k ∨ w.heap.size ≤ k :=
 (app_new d p i n v vf l cs D w hDk hD hO hRg hF hL hU hA ⟨hFu.1, hFu.2.1⟩ hR hRp).mono fun e w' ⟨h1, h2⟩ => ⟨by rw [h1]; unfold pw; rw [if_neg hFu.2.2], h2⟩
theorem ownF_off {w : World} {g n c : Nat} {l : List FC} (h : OwnF w (.slice (some ⟨g, 0, none⟩) n c) l) {a b : Nat} {v : Value} (hab : a ≠ b) : (w.setCell ⟨g, a, none⟩ v).cell? ⟨g, b, none⟩ = w.cell? ⟨g, b, none⟩ := by
 rcases h.form with ⟨e, _⟩ | ⟨g', cap, cur, e, hb, _⟩
 ·cases e
 ·injection e with e1 e2 e3
  injection e1 with e1
  injection e1 with e1
  subst e1
  rw [(hb.set a v).cell, hb.cell, Array.getElem?_setIfInBounds_ne hab]
theorem dsk_sync {w : World} {p g n7 k7 i : Nat} {cs : List FC} {D : DV} {x : FC} {f : PF} (h : DskAt w p (.slice (some ⟨g, 0, none⟩) n7 k7) cs D.act) (hx : cs[i]? = some x) (hf : D.fs[i]? = some f) : DskAt (w.drew.setCell ⟨g, i * 3 + 2, none⟩ (.int .i64 (f.bs.length : Int))) p (.slice (some ⟨g, 0, none⟩) n7 k7) (cs.set i { x with sf := (f.bs.length : Int) }) (D.act.sync i) := by
 have hg : Grown w (w.drew.setCell ⟨g, i * 3 + 2, none⟩ (.int .i64 (f.bs.length : Int))) fun k => k = g := (Grown.refl w _).drew.trans (Grown.setCell w.drew g _ _ fun _ => rfl)
 have ht : Typ w g 72 := h.own.typ rfl
 refine ⟨hg.blk h.blk fun e => ?_, OwnF.set (w := w.drew) h.own hx (by omega) rfl, ?_⟩
 ·subst e; have := ht.one h.blk.typ; revert this; decide
 ·exact h.fcs.sync hx hf fun y l ho => ho.grown hg fun k hk e => by subst e; have := (ho.typ hk).one ht; revert this; decide
theorem dskS_sync {p : Nat} {vf : Value} {cs : List FC} {i : Nat} {x : FC} {z : Int} (hx : cs[i]? = some x) {k : Nat} (h : DskS p vf (cs.set i { x with sf := z }) k) : DskS p vf cs k := by
 rcases h with h | h | ⟨j, y, hy, hk⟩
 ·exact .inl h
 ·exact .inr (.inl h)
 ·by_cases e : i = j
  ·subst e
   rw [List.getElem?_set_self (List.getElem?_eq_some_iff.1 hx).1] at hy
   injection hy with hy
   subst hy
   exact .inr (.inr ⟨i, x, hx, hk⟩)
  ·rw [List.getElem?_set_ne e] at hy
   exact .inr (.inr ⟨j, y, hy, hk⟩)
set_option maxRecDepth 8000 in
set_option maxHeartbeats 2000000 in
theorem syn_is (d p i : Nat) (n : ByteArray) (vf : Value) (cs : List FC) (D : DV) (w : World) (hDk : Blk w d 53 #[ptr p]) (hD : DskAt w p vf cs D) (hO : D.out = false) (hF : fnd n D.fs 0 = (i, true)) (hL : cs.length ≤ 256) (hA : 0 ≤ D.acts ∧ D.acts ≤ 4611686018427387904) (hFu : -9223372036854775808 < D.fuse ∧ D.fuse ≤ 9223372036854775807 ) :
  Calls Tryd.prog 34 #[ptr d, .string n] w fun e w' => e = .returned (.int .i64 (pw D)) ∧ ∃ cs', DskAt w' p vf cs' (if D.fuse = 0 then D.act else D.act.sync i) ∧ (Grown w w' fun k => k = p ∨ vf.ownBlock = some k) ∧ ∀ k, DskS p vf cs' k → DskS p vf cs k := by
 obtain ⟨va, vc, rfl⟩ := hD.own.sl
 have HDk := Keep.mk hDk
 have HD := Keep.mk hD
 have HO := Keep.mk hO
 have HF := Keep.mk hF
 have HL := Keep.mk hL
 have HA := Keep.mk hA
 have HFu := Keep.mk hFu
 clear hDk hD hO hF hL hA hFu
 go_enter Tryd.func34, Tryd.ntmps34
 have cd := HDk.out.c 0 (by rfl : (#[ptr p] : Array Value)[0]? = some (ptr p))
 have c4 : w.cell? ⟨p, 4, none⟩ = some (.bool false) := by have h := HD.out.blk.c 4 (by rfl : (stA (.slice va cs.length vc) D)[4]? = some (.bool D.out)); rw [HO.out] at h; exact h
 refine wp_seq_k fun K1 hK1 => rgn ?_
 refine VlS (.int .i64 0) ?_
 refine WL.nil (hK1 _ _ ?_)
 refine wp_seq_k fun K2 hK2 => rgn ?_
 refine VlS (.pointer (some ⟨d, 0, none⟩)) ?_
 refine VlS (.pointer (some ⟨d, 0, none⟩)) ?_
 refine VlS (.pointer (some ⟨d, 0, none⟩)) ?_
 refine VlS (.pointer (some ⟨p, 0, none⟩)) ?_
 refine VlS (.pointer (some ⟨p, 0, none⟩)) ?_
 refine WL.nil (hK2 _ _ ?_)
 refine wp_seq_k fun K3 hK3 => ?_
 refine wp_seq_k fun K4 hK4 => rgn ?_
 refine VlS (.pointer (some ⟨p, 0, none⟩)) ?_
 refine VlS (.pointer (some ⟨p, 0, none⟩)) ?_
 refine VlS (.pointer (some ⟨p, 4, none⟩)) ?_
 refine VlS (.bool false) ?_
 refine WL.nil (hK4 _ _ ?_)
 refine wp_cond_false rfl ?_
 refine wp_skip ?_
 refine hK3 _ _ ?_
 refine wp_seq_k fun K5 hK5 => rgn ?_
 refine VlS (.pointer (some ⟨p, 0, none⟩)) ?_
 refine VlS (.string n) ?_
 clear cd c4
 have hfd := find_any p n _ cs D w HD.out (by have := HL.out; omega)
 rw [HF.out] at hfd
 refine WL.callF (by kernel_rfl) 43 _ _ rfl Tryd.in43 #[ptr p, .string n] (by simp [Act.eval]) ?_
 refine (hfd).mono ?_
 rintro e w1 ⟨rfl, hb1⟩
 refine ⟨_, rfl, ?_⟩
 have HD1 := Keep.mk (HD.out.below hb1)
 have B1 := Keep.mk hb1
 clear hb1 hfd
 simp only [Act.put, pqA, pqB, pqC]
 refine VlS (.tuple #[.int .i64 (i : Int), .bool true]) ?_
 refine VlS (.int .i64 (i : Int)) ?_
 refine VlS (.bool true) ?_
 refine VlS (.int .i64 (i : Int)) ?_
 refine VlS (.bool true) ?_
 refine WL.nil (hK5 _ _ ?_)
 refine wp_seq_k fun K6 hK6 => ?_
 refine wp_seq_k fun K7 hK7 => rgn ?_
 refine VlS (.bool true) ?_
 refine VlS (.bool false) ?_
 refine WL.nil (hK7 _ _ ?_)
 refine wp_cond_false rfl ?_
 refine wp_skip ?_
 refine hK6 _ _ ?_
 refine wp_seq_k fun K8 hK8 => ?_
 refine wp_seq_k fun K9 hK9 => rgn ?_
 refine VlS (.pointer (some ⟨p, 0, none⟩)) ?_
 have hac := act_any p _ _ _ w1 HD1.out HA.out ⟨HFu.out.1, HFu.out.2⟩
 refine WL.callF (by kernel_rfl) 44 _ _ rfl Tryd.in44 #[ptr p] (by simp [Act.eval]) ?_
 refine (hac).mono ?_
 rintro e wq ⟨rfl, h1, h2⟩
 refine ⟨_, rfl, ?_⟩
 have HD2 := Keep.mk h1
 have G2 : Keep (Grown w wq fun k => k = p) := ⟨(Grown.below B1.out).trans h2⟩
 clear h1 h2 hac HD1
 simp only [Act.put, pqA, pqB, pqC]
 rcases Decidable.em (D.fuse = 0) with hfu | hfu
 ·rw [show decide (D.fuse = 0) = true from decide_eq_true hfu]
  refine WL.nil (hK9 _ _ ?_)
  refine wp_cond_true rfl ?_
  refine wp_seq_k fun K10 hK10 => rgn ?_
  refine VlS (.int .i64 7) ?_
  refine WL.nil (hK10 _ _ ?_)
  refine wp_ret ?_
  go_ret
  exact ⟨by unfold pw; rw [if_pos hfu]; rfl, cs, by rw [if_pos hfu]; exact HD2.out, G2.out.mono fun k _ h => .inl h, fun k hk => hk⟩
 ·rw [show decide (D.fuse = 0) = false from decide_eq_false hfu]
  refine WL.nil (hK9 _ _ ?_)
  refine wp_cond_false rfl ?_
  refine wp_skip ?_
  refine hK8 _ _ ?_
  refine wp_seq_k fun K11 hK11 => ?_
  obtain ⟨f_, hf_⟩ : ∃ f, D.fs[i]? = some f := by obtain ⟨j, f, h1, h2⟩ := fnd_at n D.fs 0 (by rw [HF.out]); rw [HF.out] at h1; simp at h1; subst h1; exact ⟨f, h2⟩
  have hci : i < cs.length := by have h := HD2.out.fcs.len; have h2 := (List.getElem?_eq_some_iff.1 hf_).1; have e : D.act.fs = D.fs := rfl; rw [e] at h; omega
  obtain ⟨x, hx⟩ : ∃ x, cs[i]? = some x := ⟨cs[i], List.getElem?_eq_getElem hci⟩
  have HX := Keep.mk hx
  have HFI := Keep.mk hf_
  obtain ⟨g, ha, hrg⟩ := HD2.out.own.at hx
  subst ha
  have hec := HD2.out.fcs.each i x f_ hx hf_
  obtain ⟨ba, bc, hxb⟩ := row_form hec.2.2.row
  have hci' : (i : Int) < (cs.length : Int) := by omega
  have hS0 : Keep (wq.drew.cell? ⟨p, 0, none⟩ = some (.slice (some ⟨g, 0, none⟩) cs.length vc) ∧ wq.drew.cell? ⟨g, i * 3 + 1, none⟩ = some (.slice ba f_.bs.length bc)) := ⟨HD2.out.blk.drew.c 0 rfl, by have h := hrg 1 x.b rfl; rw [hxb] at h; exact h⟩
  have hgp : Keep (g ≠ p) := ⟨fun e => HD2.out.own.ne HD2.out.blk (by decide) (by rw [e]; rfl)⟩
  have cl : Keep (wq.drew.cell? ⟨g, i * 3 + 2, none⟩ = some (.int .i64 x.sf)) := ⟨hrg 2 _ rfl⟩
  clear hrg hec hx hf_ hxb hci
  refine wp_region_held_drew (S := fun wx => wx.cell? ⟨p, 0, none⟩ = some (.slice (some ⟨g, 0, none⟩) cs.length vc) ∧ wx.cell? ⟨g, i * 3 + 1, none⟩ = some (.slice ba f_.bs.length bc)) (by kernel_rfl) (hS0.out) (fun hHeld => ?_)
  refine tkS (i := 0) (oi := ⟨some 26, Op.move (Operand.tmp 5), 48, _, _, none⟩) (v := .pointer (some ⟨p, 0, none⟩)) rfl (Or.inl ⟨by rfl, fun w hS => by obtain ⟨hS1, hS2⟩ := hS; go_simp⟩) hHeld ?_
  refine tkS (i := 1) (oi := ⟨some 27, Op.nilCheck (Operand.tmp 26), 0, _, _, none⟩) (v := .pointer (some ⟨p, 0, none⟩)) rfl (Or.inl ⟨by rfl, fun w hS => by obtain ⟨hS1, hS2⟩ := hS; go_simp⟩) hHeld ?_
  refine tkS (i := 2) (oi := ⟨some 28, Op.fieldAddr 51 (Operand.tmp 27) 0, 0, _, _, none⟩) (v := .pointer (some ⟨p, 0, none⟩)) rfl (Or.inl ⟨by rfl, fun w hS => by obtain ⟨hS1, hS2⟩ := hS; go_simp⟩) hHeld ?_
  refine tkS (i := 3) (oi := ⟨some 29, Op.load 49 (Operand.tmp 28), 49, _, _, none⟩) (v := .slice (some ⟨g, 0, none⟩) cs.length vc) rfl (Or.inl ⟨by rfl, fun w hS => by obtain ⟨hS1, hS2⟩ := hS; go_simp⟩) hHeld ?_
  refine tkS (i := 4) (oi := ⟨some 30, Op.move (Operand.tmp 6), 3, _, _, none⟩) (v := .int .i64 (i : Int)) rfl (Or.inl ⟨by rfl, fun w hS => by obtain ⟨hS1, hS2⟩ := hS; go_simp⟩) hHeld ?_
  refine tkS (i := 5) (oi := ⟨some 31, Op.move (Operand.tmp 5), 48, _, _, none⟩) (v := .pointer (some ⟨p, 0, none⟩)) rfl (Or.inl ⟨by rfl, fun w hS => by obtain ⟨hS1, hS2⟩ := hS; go_simp⟩) hHeld ?_
  refine tkS (i := 6) (oi := ⟨some 32, Op.nilCheck (Operand.tmp 31), 0, _, _, none⟩) (v := .pointer (some ⟨p, 0, none⟩)) rfl (Or.inl ⟨by rfl, fun w hS => by obtain ⟨hS1, hS2⟩ := hS; go_simp⟩) hHeld ?_
  refine tkS (i := 7) (oi := ⟨some 33, Op.fieldAddr 51 (Operand.tmp 32) 0, 0, _, _, none⟩) (v := .pointer (some ⟨p, 0, none⟩)) rfl (Or.inl ⟨by rfl, fun w hS => by obtain ⟨hS1, hS2⟩ := hS; go_simp⟩) hHeld ?_
  refine tkS (i := 8) (oi := ⟨some 34, Op.load 49 (Operand.tmp 33), 49, _, _, none⟩) (v := .slice (some ⟨g, 0, none⟩) cs.length vc) rfl (Or.inl ⟨by rfl, fun w hS => by obtain ⟨hS1, hS2⟩ := hS; go_simp⟩) hHeld ?_
  refine tkS (i := 9) (oi := ⟨some 35, Op.move (Operand.tmp 6), 3, _, _, none⟩) (v := .int .i64 (i : Int)) rfl (Or.inl ⟨by rfl, fun w hS => by obtain ⟨hS1, hS2⟩ := hS; go_simp⟩) hHeld ?_
  refine tkS (i := 10) (oi := ⟨some 36, Op.indexAddr 49 (Operand.tmp 34) (Operand.tmp 35), 0, _, _, none⟩) (v := .pointer (some ⟨g, i * 3, none⟩)) rfl (Or.inl ⟨by rfl, fun w hS => by obtain ⟨hS1, hS2⟩ := hS; go_simp⟩) hHeld ?_
  refine tkS (i := 11) (oi := ⟨some 37, Op.fieldAddr 72 (Operand.tmp 36) 1, 0, _, _, none⟩) (v := .pointer (some ⟨g, i * 3 + 1, none⟩)) rfl (Or.inl ⟨by rfl, fun w hS => by obtain ⟨hS1, hS2⟩ := hS; go_simp⟩) hHeld ?_
  refine tkS (i := 12) (oi := ⟨some 38, Op.load 41 (Operand.tmp 37), 41, _, _, none⟩) (v := .slice ba f_.bs.length bc) rfl (Or.inl ⟨by rfl, fun w hS => by obtain ⟨hS1, hS2⟩ := hS; go_simp⟩) hHeld ?_
  refine tkS (i := 13) (oi := ⟨some 39, Op.call { callee := Callee.builtin Builtin.len, args := #[Operand.tmp 38], argTypes := #[41] }, 3, _, _, none⟩) (v := .int .i64 (f_.bs.length : Int)) rfl (Or.inl ⟨by rfl, fun w hS => by obtain ⟨hS1, hS2⟩ := hS; go_simp⟩) hHeld ?_
  refine tkS (i := 14) (oi := ⟨some 40, Op.indexAddr 49 (Operand.tmp 29) (Operand.tmp 30), 0, _, _, none⟩) (v := .pointer (some ⟨g, i * 3, none⟩)) rfl (Or.inl ⟨by rfl, fun w hS => by obtain ⟨hS1, hS2⟩ := hS; go_simp⟩) hHeld ?_
  refine tkS (i := 15) (oi := ⟨some 41, Op.fieldAddr 72 (Operand.tmp 40) 2, 0, _, _, none⟩) (v := .pointer (some ⟨g, i * 3 + 2, none⟩)) rfl (Or.inl ⟨by rfl, fun w hS => by obtain ⟨hS1, hS2⟩ := hS; go_simp⟩) hHeld ?_
  refine wpAnyH_ready (rs := [16]) (by kernel_rfl) (by simp) ?_
  refine AllReadyH.cons (o := ⟨none, Op.store 3 (Operand.tmp 41) (Operand.tmp 39), 0, _, _, none⟩) rfl (fun K hK => ?_) AllReadyH.nil
  rw [if_pos (by rfl)]
  have f_o : wq.drew.frozen? ⟨g, i * 3 + 2, none⟩ = false := ownF_frozen (l := cs) HD2.out.own _
  have cl := cl.out
  refine wp_cellS (wq.drew.setCell ⟨g, i * 3 + 2, none⟩ (.int .i64 (f_.bs.length : Int))) (by go_simp) ?_
  clear f_o cl
  refine hK _ _ ⟨(Grown.setCell wq.drew g (i * 3 + 2) _ (S := fun k => k = g) fun _ => rfl).cell hS0.out.1 (fun e => hgp.out e.symm), by rw [ownF_off (w := wq.drew) (l := cs) HD2.out.own (by omega)]; exact hS0.out.2⟩ fun hH9 => ?_
  clear hK
  simp only [Act.put, pqA, pqB, pqC]
  refine wpAnyH_done (by kernel_rfl) ?_ _
  refine hK11 _ _ ?_
  refine wp_seq_k fun K12 hK12 => rgn ?_
  refine VlS (.int .i64 0) ?_
  refine WL.nil (hK12 _ _ ?_)
  refine wp_ret ?_
  go_ret
  exact ⟨by unfold pw; rw [if_neg hfu]; rfl, _, by rw [if_neg hfu]; exact dsk_sync HD2.out HX.out HFI.out, (G2.out.mono (fun k _ h => .inl h)).next ((Grown.refl wq (fun k => k = g)).drew.trans (Grown.setCell wq.drew g (i * 3 + 2) _ fun _ => rfl)) fun k hk e => .inr (by rw [e]; rfl), fun k hk => dskS_sync HX.out hk⟩
end Go.Proofs.YtlggejehaonkcaaDoor
namespace Go.Proofs.YtlggejehaonkcaaDoor
open Go.RowKit

def wordsA (n : Nat) (c : Nat → Int) : Array Value := Array.ofFn (n := n) fun i => .int .u32 (c i.val)
theorem wordsA_size (n : Nat) (c : Nat → Int) : (wordsA n c).size = n := by simp [wordsA]
theorem wordsA_get (n : Nat) (c : Nat → Int) (j : Nat) (h : j < n) : (wordsA n c)[j]? = some (.int .u32 (c j)) := by simp [wordsA, h]
theorem wordsA_set (n : Nat) (c : Nat → Int) (j : Nat) (v : Int) : (wordsA n c).setIfInBounds j (.int .u32 v) = wordsA n (upd c j v) := by
 apply Array.ext_getElem?
 intro i
 rw [Array.getElem?_setIfInBounds]
 by_cases e : j = i
 ·subst e
  by_cases hj : j < n <;> simp [wordsA, upd, hj]
 ·by_cases hi : i < n <;> simp [wordsA, upd, hi, e, Ne.symm e]
theorem wordsA_one (n : Nat) (c : Nat → Int) : (wordsA n c).all (·.oneCell') = true := by
 rw [Array.all_eq_true_iff_forall_mem]; intro v hv; simp [wordsA] at hv; obtain ⟨i, rfl⟩ := hv; rfl
theorem Tryd.size111 : (Tryd.prog.info? 111).map (·.size) = some 8 := by kernel_rfl
theorem Tryd.size131 : (Tryd.prog.info? 131).map (·.size) = some 64 := by kernel_rfl
theorem Tryd.size113 : (Tryd.prog.info? 113).map (·.size) = some 64 := by kernel_rfl
theorem Tryd.size111W (c : Nat → Int) : (Tryd.prog.info? 111).map (·.size) = some (wordsA 8 c).size := by rw [wordsA_size]; exact Tryd.size111
theorem Tryd.size131W (c : Nat → Int) : (Tryd.prog.info? 131).map (·.size) = some (wordsA 64 c).size := by rw [wordsA_size]; exact Tryd.size131
theorem Tryd.size113B (c : Nat → Int) : (Tryd.prog.info? 113).map (·.size) = some (bytesA 64 c).size := by rw [bytesA_size]; exact Tryd.size113
theorem wordsA_sizes (n : Nat) (c d : Nat → Int) : (wordsA n c).size = (wordsA n d).size := by rw [wordsA_size, wordsA_size]
section
variable {P : Program}
end
theorem Tryd.new131 (w : World) : (Instr.alloc 131 true (.tuple #[])).run Tryd.prog w = .ok (.pointer (some ⟨w.heap.size, 0, none⟩)) (w.alloc (.cells (wordsA 64 fun _ => 0) 131)) := by kernel_rfl
theorem Tryd.new111 (w : World) : (Instr.alloc 111 true (.tuple #[])).run Tryd.prog w = .ok (.pointer (some ⟨w.heap.size, 0, none⟩)) (w.alloc (.cells (wordsA 8 fun _ => 0) 111)) := by kernel_rfl
section
variable {P : Program} {ops : Array Oper} {Q : Exit → Act → World → Prop} {md : Region.Mode}

theorem getD_lt {l : Array Bool} {i : Nat} (h : l.getD i true = false) : ∃ hi : i < l.size, l[i] = false := by
 by_cases hi : i < l.size
 ·exact ⟨hi, by simpa [Array.getD, hi] using h⟩
 ·simp [Array.getD, hi] at h

theorem wpAny_inv (I : Array Bool → Act → World → Prop)
  (hs : ∀ l a w, I l a w → l.size = ops.size)
  (hstep : ∀ l a w i o, I l a w → l.getD i true = false → ops[i]? = some o → (∀ e ∈ o.after, Region.binds md e = true → l.getD e.on false = true) →
   o.guard = none ∧ o.wp P a w (I (l.setIfInBounds i true)) Q)
  (hback : ∀ i o, ops[i]? = some o → ∀ e ∈ o.after, Region.binds md e = true → e.on < i)
  (hdone : ∀ l a w, I l a w → (∀ i, i < ops.size → l.getD i false = true) → Q .normal a w) :
  ∀ fuel l a w, l.toList.countP (fun b => !b) ≤ fuel → I l a w → wpAny P md ops Q fuel l a w := by
 have hall : ∀ l a w, I l a w → Region.ready md ops l = [] → ∀ i, i < ops.size → l.getD i false = true := by
  intro l a w hI hr i
  induction i using Nat.strongRecOn with
  | ind i ih =>
   intro hi
   by_cases hc : l.getD i true = false
   ·have : i ∈ Region.ready md ops l := mem_ready.2 ⟨hc, ops[i], Array.getElem?_eq_getElem hi, fun e he hb => ih _ (hback i _ (Array.getElem?_eq_getElem hi) e he hb) (Nat.lt_trans (hback i _ (Array.getElem?_eq_getElem hi) e he hb) hi)⟩
    rw [hr] at this; simp at this
   ·have hl : i < l.size := by rw [hs l a w hI]; exact hi
    simpa [Array.getD, hl] using hc
 intro fuel
 induction fuel with
 | zero =>
  intro l a w hf hI
  have hnil : Region.ready md ops l = [] := by
   rw [List.eq_nil_iff_forall_not_mem]
   intro j hj
   obtain ⟨hj0, _⟩ := mem_ready.1 hj
   obtain ⟨hlt, hv⟩ := getD_lt hj0
   have : 0 < l.toList.countP (fun b => !b) := List.countP_pos_iff.2 ⟨l[j], by simp, by simp [hv]⟩
   omega
  exact ⟨hnil, hdone l a w hI (hall l a w hI hnil)⟩
 | succ fuel ih =>
  intro l a w hf hI
  refine ⟨fun hnil => hdone l a w hI (hall l a w hI hnil), fun i hi => ?_⟩
  obtain ⟨hj0, o, ho, he⟩ := mem_ready.1 hi
  obtain ⟨hlt, hv⟩ := getD_lt hj0
  obtain ⟨hg, hw⟩ := hstep l a w i o hI hj0 ho he
  unfold wpOp
  simp only [ho, Region.wanted, hg, if_true]
  refine .inl (Oper.wp_mono (fun a' w' h' => ih _ a' w' ?_ h') hw)
  have hc := List.countP_set (p := fun b => !b) (l := l.toList) (i := i) (a := true) (by simpa using hlt)
  have hp : 0 < l.toList.countP (fun b => !b) := List.countP_pos_iff.2 ⟨l[i], by simp, by simp [hv]⟩
  have e1 : l.toList[i]'(by simpa using hlt) = false := by simpa using hv
  rw [Array.toList_setIfInBounds, hc, e1]
  generalize List.countP (fun b => !b) l.toList = n at *
  simp
  omega

theorem wp_region_inv {id : Nat} {a : Act} {w : World} (hm : P.follows .mixedOrders = true) (I : Array Bool → Act → World → Prop)
  (hs : ∀ l a w, I l a w → l.size = ops.size)
  (hstep : ∀ l a w i o, I l a w → l.getD i true = false → ops[i]? = some o → (∀ e ∈ o.after, Region.binds .any e = true → l.getD e.on false = true) →
   o.guard = none ∧ o.wp P a w (I (l.setIfInBounds i true)) Q)
  (hback : ∀ i o, ops[i]? = some o → ∀ e ∈ o.after, Region.binds .any e = true → e.on < i)
  (hdone : ∀ l a w, I l a w → (∀ i, i < ops.size → l.getD i false = true) → Q .normal a w)
  (h0 : I (Array.replicate ops.size false) a w.drew) : (Code.region id ops true).wp P Q a w :=
 wp_region_any hm (wpAny_inv I hs hstep hback hdone _ _ _ _ (by simp [List.countP_replicate]) h0)

theorem wp_new {o : Oper} {a : Act} {w : World} {K : Act → World → Prop} (t : TypeId) (ho : o.op = .alloc t)
  (cells : Array Value) (hf : ∀ w : World, (Instr.alloc t true (.tuple #[])).run P w = .ok (.pointer (some ⟨w.heap.size, 0, none⟩)) (w.alloc (.cells cells t)))
  (h : K (a.put o.dst (.pointer (some ⟨w.heap.size, 0, none⟩))) (w.alloc (.cells cells t))) : o.wp P a w K Q := by
 unfold Oper.wp execOp
 simp only [ho, Sem.run_bind, hf w, Result.andThen_ok]
 exact h

end
theorem Tryd.enter63 (w : World) (vs : Array Value) : (callFunc 63 vs).run Tryd.prog w = .ok (.enter 63 vs) w := by kernel_rfl
theorem Tryd.enter64 (w : World) (vs : Array Value) : (callFunc 64 vs).run Tryd.prog w = .ok (.enter 64 vs) w := by kernel_rfl
section
variable {P : Program} {ops : Array Oper} {Q : Exit → Act → World → Prop}

def backB (ops : Array Oper) : Bool := (List.range ops.size).all fun i => match ops[i]? with
 | some o => o.after.all fun e => !Region.binds .any e || decide (e.on < i)
 | none => true
theorem back_of (h : backB ops = true) : ∀ i o, ops[i]? = some o → ∀ e ∈ o.after, Region.binds .any e = true → e.on < i := by
 intro i o ho e he hb
 have hi : i < ops.size := (Array.getElem?_eq_some_iff.1 ho).1
 have h1 := List.all_eq_true.1 h i (List.mem_range.2 hi)
 simp only [ho] at h1
 have h2 := Array.all_eq_true_iff_forall_mem.1 h1 e he
 simpa [hb] using h2

def dstsB (ops : Array Oper) (n : Nat) : Bool := (List.range ops.size).all fun i => match ops[i]? with
 | some o => (match o.dst with
  | some d => decide (d < n) && (List.range ops.size).all fun j => match ops[j]? with
   | some o' => (o'.dst != some d) || i == j
   | none => true
  | none => true)
 | none => true
theorem dsts_lt {n : Nat} (h : dstsB ops n = true) (i : Nat) (o : Oper) (d : Nat) (ho : ops[i]? = some o) (hd : o.dst = some d) : d < n := by
 have hi : i < ops.size := (Array.getElem?_eq_some_iff.1 ho).1
 have h1 := List.all_eq_true.1 h i (List.mem_range.2 hi)
 simp only [ho, hd, Bool.and_eq_true, decide_eq_true_eq] at h1
 exact h1.1
theorem dsts_inj {n : Nat} (h : dstsB ops n = true) (i j : Nat) (o o' : Oper) (d : Nat) (ho : ops[i]? = some o) (ho' : ops[j]? = some o') (hd : o.dst = some d) (hd' : o'.dst = some d) : i = j := by
 have hi : i < ops.size := (Array.getElem?_eq_some_iff.1 ho).1
 have hj : j < ops.size := (Array.getElem?_eq_some_iff.1 ho').1
 have h1 := List.all_eq_true.1 h i (List.mem_range.2 hi)
 simp only [ho, hd, Bool.and_eq_true, decide_eq_true_eq] at h1
 have h2 := List.all_eq_true.1 h1.2 j (List.mem_range.2 hj)
 simpa [ho', hd'] using h2

def putsTo (ops : Array Oper) (V : Nat → Value) (a0 : Act) : Nat → Act
 | 0 => a0
 | n + 1 => match ops[n]? with
  | some o => (putsTo ops V a0 n).put o.dst (V n)
  | none => putsTo ops V a0 n

theorem putsTo_facts (V : Nat → Value) (a0 : Act) (hd : dstsB ops a0.tmps.size = true) (n : Nat) :
  (putsTo ops V a0 n).defers = a0.defers ∧ (putsTo ops V a0 n).tmps.size = a0.tmps.size ∧
  (∀ t : Nat, (∀ j o, j < n → ops[j]? = some o → o.dst ≠ some t) → (putsTo ops V a0 n).tmps[t]? = a0.tmps[t]?) ∧
  (∀ j o d, j < n → ops[j]? = some o → o.dst = some d → (putsTo ops V a0 n).tmps[d]? = some (V j)) := by
 induction n with
 | zero => exact ⟨rfl, rfl, fun _ _ => rfl, fun j _ _ h => absurd h (by omega)⟩
 | succ n ih =>
  obtain ⟨i1, i2, i3, i4⟩ := ih
  cases hn : ops[n]? with
  | none =>
   have e : putsTo ops V a0 (n + 1) = putsTo ops V a0 n := by simp only [putsTo, hn]
   rw [e]
   refine ⟨i1, i2, fun t ht => i3 t (fun j o hj ho => ht j o (by omega) ho), fun j o d hj ho hdd => ?_⟩
   have : j ≠ n := fun e => by subst e; rw [hn] at ho; cases ho
   exact i4 j o d (by omega) ho hdd
  | some o =>
   have e : putsTo ops V a0 (n + 1) = (putsTo ops V a0 n).put o.dst (V n) := by simp only [putsTo, hn]
   rw [e]
   cases hod : o.dst with
   | none =>
    have e2 : (putsTo ops V a0 n).put none (V n) = putsTo ops V a0 n := rfl
    rw [e2]
    refine ⟨i1, i2, fun t ht => i3 t (fun j o hj ho => ht j o (by omega) ho), fun j o' d hj ho hdd => ?_⟩
    have : j ≠ n := fun e => by subst e; rw [hn] at ho; cases ho; rw [hod] at hdd; cases hdd
    exact i4 j o' d (by omega) ho hdd
   | some dn =>
    have hlt : dn < a0.tmps.size := dsts_lt hd n o dn hn hod
    refine ⟨by simpa [Act.put] using i1, by simpa [Act.put] using i2, fun t ht => ?_, fun j o' d hj ho hdd => ?_⟩
    ·have hne : dn ≠ t := fun e => ht n o (by omega) hn (by rw [hod, e])
     simp only [Act.put]
     rw [Array.getElem?_setIfInBounds_ne hne]
     exact i3 t (fun j o hj ho => ht j o (by omega) ho)
    ·by_cases hjn : j = n
     ·subst hjn
      rw [hn] at ho; cases ho
      rw [hod] at hdd; cases hdd
      simp [Act.put, i2, hlt]
     ·have hne : dn ≠ d := fun e => hjn (dsts_inj hd j n o' o d ho hn hdd (by rw [hod, e]))
      simp only [Act.put]
      rw [Array.getElem?_setIfInBounds_ne hne]
      exact i4 j o' d (by omega) ho hdd

theorem act_ext {a b : Act} (h1 : a.tmps = b.tmps) (h2 : a.defers = b.defers) : a = b := by
 cases a; cases b; simp_all

theorem eval_of_get {a : Act} {t : Nat} {v : Value} (h : a.tmps[t]? = some v) : a.eval (.tmp t) = v := by
 simp [Act.eval, h]

theorem wp_region_vals {id : Nat} {a0 : Act} {w : World} (hm : P.follows .mixedOrders = true) (V : Nat → Value) (W : Array Bool → World → Prop)
  (hd : dstsB ops a0.tmps.size = true) (hb : backB ops = true)
  (hstep : ∀ (l : Array Bool) (a : Act) (w : World) (i : Nat) (o : Oper),
   (∀ t : Nat, (∀ (j : Nat) (o' : Oper), ops[j]? = some o' → o'.dst ≠ some t) → a.eval (.tmp t) = a0.eval (.tmp t)) →
   (∀ (j : Nat) (o' : Oper) (d : Nat), ops[j]? = some o' → o'.dst = some d → l.getD j false = true → a.eval (.tmp d) = V j) →
   W l w → l.size = ops.size → l.getD i true = false → ops[i]? = some o → (∀ e ∈ o.after, Region.binds .any e = true → l.getD e.on false = true) →
   o.guard = none ∧ o.wp P a w (fun a' w' => a' = a.put o.dst (V i) ∧ W (l.setIfInBounds i true) w') Q)
  (hdone : ∀ l w, W l w → (∀ i, i < ops.size → l.getD i false = true) → Q .normal (putsTo ops V a0 ops.size) w)
  (h0 : W (Array.replicate ops.size false) w.drew) : (Code.region id ops true).wp P Q a0 w := by
 refine wp_region_inv hm (fun l a w => l.size = ops.size ∧ a.defers = a0.defers ∧ a.tmps.size = a0.tmps.size ∧
  (∀ t : Nat, (∀ (j : Nat) (o' : Oper), ops[j]? = some o' → o'.dst ≠ some t) → a.tmps[t]? = a0.tmps[t]?) ∧
  (∀ (j : Nat) (o' : Oper) (d : Nat), ops[j]? = some o' → o'.dst = some d → l.getD j false = true → a.tmps[d]? = some (V j)) ∧ W l w) ?_ ?_ (back_of hb) ?_ ?_
 ·intro l a w h; exact h.1
 ·rintro l a w i o ⟨h1, h2, h3, h4, h5, h6⟩ hi ho he
  obtain ⟨hg, hw⟩ := hstep l a w i o (fun t ht => by simp only [Act.eval, Array.getD_eq_getD_getElem?]; rw [h4 t ht]) (fun j o' d hj hdd hl => eval_of_get (h5 j o' d hj hdd hl)) h6 h1 hi ho he
  refine ⟨hg, Oper.wp_mono ?_ hw⟩
  rintro a' w' ⟨rfl, hW⟩
  refine ⟨by simpa using h1, ?_, ?_, ?_, ?_, hW⟩
  ·cases hod : o.dst <;> simpa [Act.put] using h2
  ·cases hod : o.dst <;> simpa [Act.put] using h3
  ·intro t ht
   cases hod : o.dst with
   | none => exact h4 t ht
   | some dn =>
    have hne : dn ≠ t := fun e => ht i o ho (by rw [hod, e])
    simp only [Act.put]
    rw [Array.getElem?_setIfInBounds_ne hne]
    exact h4 t ht
  ·intro j o' d hj hdd hl
   cases hod : o.dst with
   | none =>
    have hji : i ≠ j := fun e => by subst e; rw [ho] at hj; cases hj; rw [hod] at hdd; cases hdd
    rw [getD_set_ne false hji] at hl
    exact h5 j o' d hj hdd hl
   | some dn =>
    have hlt : dn < a0.tmps.size := dsts_lt hd i o dn ho hod
    by_cases hji : i = j
    ·subst hji
     rw [ho] at hj; cases hj
     rw [hod] at hdd; cases hdd
     simp [Act.put, h3, hlt]
    ·have hne : dn ≠ d := fun e => hji (dsts_inj hd i j o o' d ho hj (by rw [hod, e]) hdd)
     rw [getD_set_ne false hji] at hl
     simp only [Act.put]
     rw [Array.getElem?_setIfInBounds_ne hne]
     exact h5 j o' d hj hdd hl
 ·rintro l a w ⟨h1, h2, h3, h4, h5, h6⟩ hall
  obtain ⟨p1, p2, p3, p4⟩ := putsTo_facts V a0 hd ops.size
  have e : a = putsTo ops V a0 ops.size := by
   refine act_ext (Array.ext_getElem? fun t => ?_) (h2.trans p1.symm)
   by_cases hx : ∃ (j : Nat) (o' : Oper), ops[j]? = some o' ∧ o'.dst = some t
   ·obtain ⟨j, o', hj, hdd⟩ := hx
    have hlt : j < ops.size := (Array.getElem?_eq_some_iff.1 hj).1
    rw [h5 j o' t hj hdd (hall j hlt), p4 j o' t hlt hj hdd]
   ·have hn : ∀ (j : Nat) (o' : Oper), ops[j]? = some o' → o'.dst ≠ some t := fun j o' hj hdd => hx ⟨j, o', hj, hdd⟩
    rw [h4 t hn, p3 t (fun j o' _ hj => hn j o' hj)]
  rw [e]
  exact hdone l w h6 hall
 ·refine ⟨by simp, rfl, rfl, fun _ _ => rfl, fun j o' d _ _ hl => ?_, h0⟩
  simp [Array.getD] at hl

theorem wp_move {o : Oper} {a : Act} {w : World} {K : Act → World → Prop} (x : Operand) (ho : o.op = .move x) (v : Value) (hv : a.eval x = v) (h : K (a.put o.dst v) w) : o.wp P a w K Q :=
 wp_val v (by unfold execOp; simp only [ho, hv]; rfl) h
theorem wp_nilCheck {o : Oper} {a : Act} {w : World} {K : Act → World → Prop} (x : Operand) (ho : o.op = .nilCheck x) (b : Addr) (hv : a.eval x = .pointer (some b)) (h : K (a.put o.dst (.pointer (some b))) w) : o.wp P a w K Q :=
 wp_val _ (by unfold execOp; simp only [ho, hv]; rfl) h
theorem wp_fieldAddr {o : Oper} {a : Act} {w : World} {K : Act → World → Prop} (t : TypeId) (x : Operand) (k : Nat) (ho : o.op = .fieldAddr t x k) (v u : Value) (hv : a.eval x = v)
  (hf : ∀ w : World, (Instr.fieldAt t v k).run P w = .ok u w) (h : K (a.put o.dst u) w) : o.wp P a w K Q := by
 refine wp_val u ?_ h
 unfold execOp
 simp only [ho, hv, Sem.run_bind, hf w, Result.andThen_ok]
 rfl
theorem wp_store_part {o : Oper} {a : Act} {w : World} {K : Act → World → Prop} (ty : TypeId) (x y : Operand) (ho : o.op = .store ty x y)
  (g off : Nat) (cells : Array Value) (hx : a.eval x = .pointer (some ⟨g, off, none⟩)) (hy : a.eval y = .agg cells)
  (t : TypeId) (cur : Array Value) (hg : w.heap[g]? = some (.cells cur t (0, 0))) (hi : (P.info? ty).map (·.size) = some cells.size) (hfit : off + cells.size ≤ cur.size)
  (h1 : cells.all (·.oneCell') = true)
  (h : K (a.put o.dst undef) (w.setRow g (cur.toList.take off ++ cells.toList ++ cur.toList.drop (off + cells.size)).toArray)) : o.wp P a w K Q := by
 have hst := run_storeCells_at P g off t cells.toList 0 cur w hg (by simpa using hfit) (fun v hv => (Array.all_eq_true_iff_forall_mem.1 h1) v (by simpa using hv))
 have hrun : (storeVar ty ⟨g, off, none⟩ (.agg cells)).run P w = .ok () (w.setRow g (cur.toList.take off ++ cells.toList ++ cur.toList.drop (off + cells.size)).toArray) := by
  cases hq : P.info? ty with
  | none => simp [hq] at hi
  | some i =>
   have hs : cells.size = i.size := by simp [hq] at hi; omega
   simp only [Nat.add_zero, Array.length_toList] at hst
   simp [storeVar, sizeOf, typeInfo, hq, Value.cells, hs, hst]
 unfold Oper.wp execOp
 simp only [ho, hx, hy, Instr.storeAt, Instr.sureAddr, Sem.run_bind, Sem.run_pure, Result.andThen_ok, hrun]
 exact h
end
def rot (x n : Int) : Int := bits .or .u32 (x * 2 ^ (32 - n).toNat % 4294967296) (x / 2 ^ n.toNat)

theorem and31 (n : Int) (h1 : 1 ≤ n) (h2 : n ≤ 31) : bits .and .u64 (IntKind.u64.wrap (-n)) 31 = 32 - n := by
 obtain ⟨k, rfl⟩ := Int.eq_ofNat_of_zero_le (show 0 ≤ n by omega)
 have hk : k < 32 := by omega
 have hk1 : 1 ≤ k := by omega
 have : ∀ k : Fin 32, 1 ≤ k.val → bits .and .u64 (IntKind.u64.wrap (-((k.val : Nat) : Int))) 31 = 32 - ((k.val : Nat) : Int) := by decide +kernel
 exact this ⟨k, hk⟩ hk1

set_option maxRecDepth 8000 in
set_option maxHeartbeats 400000 in
theorem rotl_any (x n : Int) (w : World) (h1 : 1 ≤ n) (h2 : n ≤ 31) :
  Calls Tryd.prog 72 #[.int .u32 x, .int .i64 (-n)] w fun e w' => e = .returned (.int .u32 (rot x n)) ∧ w' = w := by
 have ha := and31 n h1 h2
 have hs : 32 - n ≤ 32 := by omega
 have hs0 : 0 ≤ 32 - n := by omega
 have hw : IntKind.u64.wrap (32 - (32 - n)) = n := by rw [IntKind.wrap_u64]; omega
 go_enter Tryd.func72, Tryd.ntmps72
 go_wp2
 go_ret
 exact ⟨rfl, rfl⟩

set_option maxRecDepth 8000 in
set_option maxHeartbeats 400000 in
theorem turn_any (x n : Int) (w : World) (h1 : 1 ≤ n) (h2 : n ≤ 31) :
  Calls Tryd.prog 65 #[.int .u32 x, .int .i64 n] w fun e w' => e = .returned (.int .u32 (rot x n)) ∧ w' = w := by
 go_enter Tryd.func65, Tryd.ntmps65
 go_wp2_with fail
 refine (rotl_any x n _ h1 h2).mono ?_
 rintro e w' ⟨rfl, rfl⟩
 go_wp2
 go_ret
 exact ⟨rfl, rfl⟩

def beginL : List Int := [0x6a09e667, 0xbb67ae85, 0x3c6ef372, 0xa54ff53a, 0x510e527f, 0x9b05688c, 0x1f83d9ab, 0x5be0cd19]
def beginF (i : Nat) : Int := beginL.getD i 0
def roundsL : List Int := [0x428a2f98, 0x71374491, 0xb5c0fbcf, 0xe9b5dba5, 0x3956c25b, 0x59f111f1, 0x923f82a4, 0xab1c5ed5, 0xd807aa98, 0x12835b01, 0x243185be, 0x550c7dc3, 0x72be5d74, 0x80deb1fe, 0x9bdc06a7, 0xc19bf174, 0xe49b69c1, 0xefbe4786, 0x0fc19dc6, 0x240ca1cc, 0x2de92c6f, 0x4a7484aa, 0x5cb0a9dc, 0x76f988da, 0x983e5152, 0xa831c66d, 0xb00327c8, 0xbf597fc7, 0xc6e00bf3, 0xd5a79147, 0x06ca6351, 0x14292967, 0x27b70a85, 0x2e1b2138, 0x4d2c6dfc, 0x53380d13, 0x650a7354, 0x766a0abb, 0x81c2c92e, 0x92722c85, 0xa2bfe8a1, 0xa81a664b, 0xc24b8b70, 0xc76c51a3, 0xd192e819, 0xd6990624, 0xf40e3585, 0x106aa070, 0x19a4c116, 0x1e376c08, 0x2748774c, 0x34b0bcb5, 0x391c0cb3, 0x4ed8aa4a, 0x5b9cca4f, 0x682e6ff3, 0x748f82ee, 0x78a5636f, 0x84c87814, 0x8cc70208, 0x90befffa, 0xa4506ceb, 0xbef9a3f7, 0xc67178f2]
def roundsF (i : Nat) : Int := roundsL.getD i 0

set_option maxRecDepth 10000 in
theorem begin_any (w : World) :
  Calls Tryd.prog 52 #[] w fun e w' => e = .returned (.agg (wordsA 8 beginF)) ∧ w' = w.alloc (.cells (wordsA 8 beginF) 111) := by
 go_enter Tryd.func52, Tryd.ntmps52
 go_step; go_step; go_step
 refine wpList_new rfl 111 rfl _ Tryd.new111 ?_
 go_step; go_step; go_step; go_step; go_step
 refine wpList_bld rfl 111 _ rfl (wordsA 8 beginF) (by kernel_rfl) ?_
 refine wpList_plain rfl fun _ hK => ?_
 refine wp_store_row 111 _ _ rfl w.heap.size (wordsA 8 beginF) rfl rfl 111 (wordsA 8 fun _ => 0) (Blk.new w 111 _) (by simpa [wordsA_size] using Tryd.size111) (by simp [wordsA_size]) (wordsA_one _ _) (hK _ _ ?_)
 rw [World.setRow_alloc_new]
 go_step; go_step; go_step; go_step
 exact bodyPost_ret (v := .agg (wordsA 8 beginF)) (results_cell_row Tryd.results52 _ _ w.heap.size 111 _ (0, 0) _ rfl (heap_alloc_new _ _) Tryd.underlying111 rfl (by simpa [wordsA_size] using Tryd.size111)) rfl ⟨rfl, rfl⟩

set_option maxRecDepth 10000 in
theorem rounds_any (w : World) :
  Calls Tryd.prog 63 #[] w fun e w' => e = .returned (.agg (wordsA 64 roundsF)) ∧ w' = w.alloc (.cells (wordsA 64 roundsF) 131) := by
 go_enter Tryd.func63, Tryd.ntmps63
 go_step; go_step; go_step
 refine wpList_new rfl 131 rfl _ Tryd.new131 ?_
 go_step; go_step; go_step; go_step; go_step
 refine wpList_bld rfl 131 _ rfl (wordsA 64 roundsF) (by kernel_rfl) ?_
 refine wpList_plain rfl fun _ hK => ?_
 refine wp_store_row 131 _ _ rfl w.heap.size (wordsA 64 roundsF) rfl rfl 131 (wordsA 64 fun _ => 0) (Blk.new w 131 _) (by simpa [wordsA_size] using Tryd.size131) (by simp [wordsA_size]) (wordsA_one _ _) (hK _ _ ?_)
 rw [World.setRow_alloc_new]
 go_step; go_step; go_step; go_step
 exact bodyPost_ret (v := .agg (wordsA 64 roundsF)) (results_cell_row Tryd.results63 _ _ w.heap.size 131 _ (0, 0) _ rfl (heap_alloc_new _ _) Tryd.underlying131 rfl (by simpa [wordsA_size] using Tryd.size131)) rfl ⟨rfl, rfl⟩

def be32 (b : Nat → Int) (t : Nat) : Int :=
 bits .or .u32 (bits .or .u32 (bits .or .u32 (b (4 * t) % 4294967296 * 16777216 % 4294967296) (b (4 * t + 1) % 4294967296 * 65536 % 4294967296)) (b (4 * t + 2) % 4294967296 * 256 % 4294967296)) (b (4 * t + 3) % 4294967296)
def sig0 (x : Int) : Int := bits .xor .u32 (bits .xor .u32 (rot x 7) (rot x 18)) (x / 8)
def sig1 (x : Int) : Int := bits .xor .u32 (bits .xor .u32 (rot x 17) (rot x 19)) (x / 1024)
def nextW (c : Nat → Int) (t : Nat) : Int := (((c (t - 16) + sig0 (c (t - 15))) % 4294967296 + c (t - 7)) % 4294967296 + sig1 (c (t - 2))) % 4294967296
def sched (b : Nat → Int) : Nat → (Nat → Int)
 | 0 => fun _ => 0
 | t + 1 => upd (sched b t) t (if t < 16 then be32 b t else nextW (sched b t) t)

set_option maxRecDepth 8000 in
set_option maxHeartbeats 2000000 in
theorem spread_any (b : Nat → Int) (w : World) :
  Calls Tryd.prog 64 #[.agg (bytesA 64 b)] w fun e w' => e = .returned (.agg (wordsA 64 (sched b 64))) ∧ Below w.heap.size w w' := by
 go_enter Tryd.func64, Tryd.ntmps64
 go_wp2_with (first | (refine wpList_boxA rfl 113 _ rfl (bytesA 64 b) rfl ?_) | (refine wpList_new rfl 131 rfl _ Tryd.new131 ?_))
 have hP := ((Blk.new w 113 (bytesA 64 b)).alloc (.cells (wordsA 64 fun _ => 0) 131)).alloc (.cells (wordsA 64 fun _ => 0) 131)
 have hR := (Blk.new (w.alloc (.cells (bytesA 64 b) 113)) 131 (wordsA 64 fun _ => 0)).alloc (.cells (wordsA 64 fun _ => 0) 131)
 have hW := (Blk.new ((w.alloc (.cells (bytesA 64 b) 113)).alloc (.cells (wordsA 64 fun _ => 0) 131)) 131 (wordsA 64 fun _ => 0))
 have hB : Below w.heap.size w (((w.alloc (.cells (bytesA 64 b) 113)).alloc (.cells (wordsA 64 fun _ => 0) 131)).alloc (.cells (wordsA 64 fun _ => 0) 131)) :=
  (((Below.refl _ _).alloc (Nat.le_refl _) _).alloc (by simp) _).alloc (by simp; omega) _
 simp only [World.size_alloc] at hR hW ⊢
 generalize (((w.alloc (.cells (bytesA 64 b) 113)).alloc (.cells (wordsA 64 fun _ => 0) 131)).alloc (.cells (wordsA 64 fun _ => 0) 131)) = w0 at *
 go_loopw [8] (fun i wr => ∃ t : Nat, t ≤ 16 ∧ i = .int .i64 t ∧ Blk wr w.heap.size 113 (bytesA 64 b) ∧ Blk wr (w.heap.size + 1) 131 (wordsA 64 fun _ => 0) ∧ Blk wr (w.heap.size + 1 + 1) 131 (wordsA 64 (sched b t)) ∧ Below w.heap.size w wr) (fun i _ => 16 - (intOf i).toNat)
 case atStart => exact ⟨0, by omega, rfl, hP, hR, hW, hB⟩
 case round =>
  clear hP hR hW hB
  obtain ⟨t, ht, rfl, hP, hR, hW, hB⟩ := hrel
  by_cases hlt : t < 16
  ·have e0 : wr.cell? ⟨w.heap.size, 4 * t, none⟩ = some (.int .u8 (b (4 * t))) := by rw [hP.cell, bytesA_get _ _ _ (by omega)]
   have e1 : wr.cell? ⟨w.heap.size, 4 * t + 1, none⟩ = some (.int .u8 (b (4 * t + 1))) := by rw [hP.cell, bytesA_get _ _ _ (by omega)]
   have e2 : wr.cell? ⟨w.heap.size, 4 * t + 2, none⟩ = some (.int .u8 (b (4 * t + 2))) := by rw [hP.cell, bytesA_get _ _ _ (by omega)]
   have e3 : wr.cell? ⟨w.heap.size, 4 * t + 3, none⟩ = some (.int .u8 (b (4 * t + 3))) := by rw [hP.cell, bytesA_get _ _ _ (by omega)]
   have e4 : wr.cell? ⟨w.heap.size + 1 + 1, t, none⟩ = some (.int .u32 (sched b t t)) := by rw [hW.cell, wordsA_get _ _ _ (by omega)]
   have e5 : wr.frozen? ⟨w.heap.size + 1 + 1, t, none⟩ = false := hW.frozen t
   go_wp2
   go_region
   go_wp2
   go_roundw
   case rel => exact ⟨t + 1, by omega, by go_num, (hP.set_ne (by omega) _).drew, (hR.set_ne (by omega) _).drew, by
    have h := (hW.set t (.int .u32 (be32 b t))).drew
    rw [wordsA_set] at h
    simp only [sched, if_pos hlt]; exact h, (hB.setCell (by show w.heap.size ≤ w.heap.size + 1 + 1; omega) _).drew⟩
   case measure => simp [intOf]; omega
  ·obtain rfl : t = 16 := by omega
   clear hlt ht
   go_wp2
   go_loopw [5] (fun i wr => ∃ t : Nat, 16 ≤ t ∧ t ≤ 64 ∧ i = .int .i64 t ∧ Blk wr (w.heap.size + 1) 131 (wordsA 64 fun _ => 0) ∧ Blk wr (w.heap.size + 1 + 1) 131 (wordsA 64 (sched b t)) ∧ Below w.heap.size w wr) (fun i _ => 64 - (intOf i).toNat)
   case atStart => exact ⟨16, by omega, by omega, rfl, hR, hW, hB⟩
   case round =>
    clear hP hR hW hB
    obtain ⟨t, ht0, ht, rfl, hR, hW, hB⟩ := hrel
    by_cases hlt : t < 64
    ·have e16 : wr.cell? ⟨w.heap.size + 1 + 1, t - 16, none⟩ = some (.int .u32 (sched b t (t - 16))) := by rw [hW.cell, wordsA_get _ _ _ (by omega)]
     have e15 : wr.cell? ⟨w.heap.size + 1 + 1, t - 15, none⟩ = some (.int .u32 (sched b t (t - 15))) := by rw [hW.cell, wordsA_get _ _ _ (by omega)]
     have e7 : wr.cell? ⟨w.heap.size + 1 + 1, t - 7, none⟩ = some (.int .u32 (sched b t (t - 7))) := by rw [hW.cell, wordsA_get _ _ _ (by omega)]
     have e2 : wr.cell? ⟨w.heap.size + 1 + 1, t - 2, none⟩ = some (.int .u32 (sched b t (t - 2))) := by rw [hW.cell, wordsA_get _ _ _ (by omega)]
     have e0 : wr.cell? ⟨w.heap.size + 1 + 1, t, none⟩ = some (.int .u32 (sched b t t)) := by rw [hW.cell, wordsA_get _ _ _ (by omega)]
     have ef : wr.frozen? ⟨w.heap.size + 1 + 1, t, none⟩ = false := hW.frozen t
     have hlt' : (t : Int) < 64 := by omega
     have ht0' : (16 : Int) ≤ (t : Int) := by omega
     have w16 : IntKind.i64.wrap ((t : Int) - 16) = (t : Int) - 16 := by rw [IntKind.wrap_i64]; omega
     have w7 : IntKind.i64.wrap ((t : Int) - 7) = (t : Int) - 7 := by rw [IntKind.wrap_i64]; omega
     have n16 : ((t : Int) - 16).toNat = t - 16 := by omega
     have n7 : ((t : Int) - 7).toNat = t - 7 := by omega
     have g16 : 0 ≤ (t : Int) - 16 := by omega
     have g7 : 0 ≤ (t : Int) - 7 := by omega
     have l16 : (t : Int) - 16 < 64 := by omega
     have l7 : (t : Int) - 7 < 64 := by omega
     have h7 : (7 : Int) ≤ (t : Int) := by omega
     have k16 : ∀ v, (wr.setCell ⟨w.heap.size + 1 + 1, t, none⟩ v).cell? ⟨w.heap.size + 1 + 1, t - 16, none⟩ = some (.int .u32 (sched b t (t - 16))) := fun v => by rw [World.cell?_setCell_other _ _ _ _ (by intro e; injection e; omega)]; exact e16
     have k7 : ∀ v, (wr.setCell ⟨w.heap.size + 1 + 1, t, none⟩ v).cell? ⟨w.heap.size + 1 + 1, t - 7, none⟩ = some (.int .u32 (sched b t (t - 7))) := fun v => by rw [World.cell?_setCell_other _ _ _ _ (by intro e; injection e; omega)]; exact e7
     go_wp2
     go_region
     go_wp2
     go_region_held3 (fun w' => w'.cell? ⟨w.heap.size + 1 + 1, t - 16, none⟩ = some (.int .u32 (sched b t (t - 16))) ∧ w'.cell? ⟨w.heap.size + 1 + 1, t - 7, none⟩ = some (.int .u32 (sched b t (t - 7)))) (go_keep) (first | (go_at_call 65; refine (turn_any _ _ _ (by omega) (by omega)).mono ?_; rintro e w' ⟨rfl, rfl⟩))
     go_wp2
     go_roundw
     case rel =>
      go_tidy
      simp only [IntKind.wrap_u32']
      repeat apply Exists.intro
      refine ⟨?_, rfl⟩
      exact ⟨t + 1, by omega, by omega, by go_num, (hR.set_ne (by omega) _).drew.drew, by
       have h := (hW.set t (.int .u32 (nextW (sched b t) t))).drew.drew
       rw [wordsA_set] at h
       simp only [sched, if_neg (show ¬ t < 16 by omega)]; exact h, (hB.setCell (by show w.heap.size ≤ w.heap.size + 1 + 1; omega) _).drew.drew⟩
     case measure => simp [intOf]; omega
    ·obtain rfl : t = 64 := by omega
     clear hlt ht ht0
     obtain ⟨c, hc⟩ : ∃ c, Hid (c = sched b 64) := ⟨_, rfl⟩
     rw [← hc.out] at hW
     go_wp2_with (refine wpList_load_row rfl 131 (.tmp 3) rfl (w.heap.size + 1 + 1) rfl 131 (wordsA 64 c) (0, 0) (.array 64 110) hW Tryd.underlying131 rfl (Tryd.size131W _) ?_; refine wpList_store_row rfl 131 (.tmp 2) (.tmp 84) rfl (w.heap.size + 1) (wordsA 64 c) rfl rfl 131 (wordsA 64 fun _ => 0) hR (Tryd.size131W _) (wordsA_sizes _ _ _) (wordsA_one _ _) ?_)
     exact bodyPost_ret (v := .agg (wordsA 64 c)) (results_cell_row Tryd.results64 _ _ (w.heap.size + 1) 131 _ (0, 0) _ rfl (hR.setRow _) Tryd.underlying131 rfl (Tryd.size131W _)) rfl ⟨by rw [hc.out], below_setRow hB (by omega) _⟩
end Go.Proofs.YtlggejehaonkcaaDoor
