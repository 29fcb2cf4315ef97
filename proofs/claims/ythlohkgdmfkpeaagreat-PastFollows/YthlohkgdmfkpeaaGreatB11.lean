import Derived.Test.YthlohkgdmfkpeaaGreatB10
import Derived.Test.YthlohkgdmfkpeaaGreatB06
import Derived.Test.YthlohkgdmfkpeaaGreatB05
import Derived.Lib.MinMax
import Derived.Sort.Grow
import Derived.Laws.AppendOwnNone
import Derived.Shelf.SlSortCmp.NoneTotal
namespace Go.Proofs.YthlohkgdmfkpeaaGreat
open Go.RowKit
set_option linter.unusedSimpArgs false
set_option linter.unusedVariables false

theorem Tryz.in62 (w : World) (vs : Array Value) : (callFunc 62 vs).run Tryz.prog w = .ok (.enter 62 vs) w := by kernel_rfl
theorem Tryz.in74 (w : World) (vs : Array Value) : (callFunc 74 vs).run Tryz.prog w = .ok (.enter 74 vs) w := by kernel_rfl
def SlG (w : World) (s : Nat) (v : Value) (n : Nat) (xs : List Value) : Prop :=
 xs.length = n * s ∧ ((∃ a c, v = .slice a 0 c ∧ n = 0) ∨ ∃ b off c, v = .slice (some ⟨b, off, none⟩) n c ∧ n ≤ c ∧ w.rangeAt b off xs)
theorem SlG.form {w : World} {s n : Nat} {v : Value} {xs : List Value} (h : SlG w s v n xs) : ∃ a c, v = .slice a n c := by
 rcases h.2 with ⟨a, c, rfl, rfl⟩ | ⟨b, off, c, rfl, _⟩
 ·exact ⟨_, _, rfl⟩
 ·exact ⟨_, _, rfl⟩
theorem WL.appG {ops : Array Oper} {rest : List Oper} {o : Oper} {a : Act} {w : World} {Q : Exit → Act → World → Prop} (hw : Region.wanted o (yielded ops a.tmps) = true) (tS tE : TypeId) (sz bt : Nat) (zv : Value) (hU : Tryz.prog.underlying tS = some (.slice tE))
  (hI : (Tryz.prog.info? tE).map (fun i => (i.zero, i.size, i.bytes)) = some (some zv, sz, bt)) (hzs : zv.cells.size = sz) (h0 : 0 < sz) (s x : Operand)
  (ho : o.op = .call { callee := .builtin .append, args := #[s, x], argTypes := #[tS, tS] }) (base : Nat) (v : Value) (ad : Addr) (n m c : Nat) (xs ys : List Value)
  (hs : a.eval s = v) (hx : a.eval x = .slice (some ad) m c) (hown : w.ownsRow base tE sz v n xs) (hl : ys.length = m * sz) (hys : ∀ j u, ys[j]? = some u → w.cell? (ad.add j) = some u) (h1 : ∀ u ∈ ys, u.oneCell' = true) (hb : n + m ≤ 1000000) (hbt : bt ≤ 1000000) (hbase : base ≤ w.heap.size)
  (h : ∀ v' w', w'.ownsRow base tE sz v' (n + m) (xs ++ ys) → w.grownBy w' v.ownBlock → WL Tryz.prog ops Q rest (a.put o.dst v') w') : WL Tryz.prog ops Q (o :: rest) a w :=
 ⟨wpList_wanted hw fun K hK => by
  obtain ⟨i, hi, hzz⟩ := Option.map_eq_some_iff.1 hI
  simp only [Prod.mk.injEq] at hzz
  obtain ⟨hz, hsz, hby⟩ := hzz
  refine wp_append_own w s x tS ho base tE i zv sz bt hU hi hz hsz hby hzs h0 v n xs hs hown ad m c ys hx hl hys h1 (by unfold maxLen; omega) ?_ hbase fun v' w' h1 h2 _ => hK _ _ (h v' w' h1 h2).out
  exact Nat.le_trans (Nat.mul_le_mul hb hbt) (by decide)⟩
theorem owns_new (w : World) (tE : TypeId) (s : Nat) : (w.alloc (.cells #[] tE)).ownsRow w.heap.size tE s (.slice (some ⟨w.heap.size, 0, none⟩) 0 0) 0 [] :=
 ⟨by simp, .inr ⟨w.heap.size, 0, #[], rfl, Nat.le_refl _, Blk.new w tE #[], Nat.le_refl _, by decide, by simp, by simp⟩⟩
theorem owns_block {w : World} {base s : Nat} {T : TypeId} {v : Value} {n : Nat} {xs : List Value} (h : w.ownsRow base T s v n xs) : ∀ k, v.ownBlock = some k → base ≤ k := by
 intro k hk
 rcases h.2 with ⟨rfl, _⟩ | ⟨g, cap, cur, rfl, hg, _⟩
 ·simp [Value.ownBlock] at hk
 ·simp [Value.ownBlock] at hk; omega
theorem Tryz.infoC119 : (Tryz.prog.info? 119).map (fun i => (i.zero, i.size)) = some (some (.agg (Nd.opL Nd.zeroOp).toArray), 37) := by kernel_rfl
theorem infoC119 : ∃ bt, bt ≤ 1000000 ∧ (Tryz.prog.info? 119).map (fun i => (i.zero, i.size, i.bytes)) = some (some (.agg (Nd.opL Nd.zeroOp).toArray), 37, bt) := by
 obtain ⟨i, hi, hzz⟩ := Option.map_eq_some_iff.1 Tryz.infoC119
 simp only [Prod.mk.injEq] at hzz
 have hb : (Tryz.prog.info? 119).map (fun i => decide (i.bytes ≤ 1000000)) = some true := by kernel_rfl
 rw [hi] at hb
 exact ⟨i.bytes, of_decide_eq_true (Option.some.inj hb), by rw [hi]; simp [hzz.1, hzz.2]⟩
theorem eqnN48 (c : Nat) (w : World) : (binOp .eql 48 (.slice none 0 c) (.slice none 0 0)).run Tryz.prog w = .ok (.bool true) w := by kernel_rfl
theorem eqnS48 (ad : Addr) (n c : Nat) (w : World) : (binOp .eql 48 (.slice (some ad) n c) (.slice none 0 0)).run Tryz.prog w = .ok (.bool false) w := by kernel_rfl
theorem bsE48 (w : World) : (Instr.buildSlice 48 0 #[]).run Tryz.prog w = .ok (.slice (some ⟨w.heap.size, 0, none⟩) 0 0) (w.alloc (.cells #[] 119)) := by kernel_rfl
set_option maxRecDepth 8000 in
theorem cloneO (v : Value) (n : Nat) (xs : List Value) (w : World) (hv : SlG w 37 v n xs) (hx1 : ∀ u ∈ xs, u.oneCell' = true) (hL : n ≤ 1000000) : Calls Tryz.prog 62 #[v] w fun e w' => ∃ v', e = .returned v' ∧ w'.ownsRow w.heap.size 119 37 v' n xs ∧ Below w.heap.size w w' := by
 obtain ⟨pa, pc, rfl⟩ := hv.form
 obtain ⟨bt, hbt, hI⟩ := infoC119
 have Hbt := Keep.mk hbt
 have HI := Keep.mk hI
 have HL := Keep.mk hL
 have H1 := Keep.mk hx1
 have HXl := Keep.mk hv.1
 have hxl := hv.1
 rcases pa with _ | ad
 ·have hn : n = 0 := by
   rcases hv.2 with ⟨a, c, h1, h2⟩ | ⟨b, off, cap, h1, h2, h3⟩
   ·exact h2
   ·injection h1 with h4; cases h4
  subst hn
  clear hv hL hbt hI hx1
  go_enter Tryz.func62, Tryz.ntmps62
  refine wp_seq_k fun K1 hK1 => rgn ?_
  refine VlS (.slice none 0 0) ?_
  refine WL.nil (hK1 _ _ ?_)
  refine wp_seq_k fun K2 hK2 => ?_
  refine wp_seq_k fun K3 hK3 => rgn ?_
  refine VlS (.slice none 0 pc) ?_
  refine WL.val (by kernel_rfl) (.bool true) (by go_simp; rw [eqnN48]; rfl) ?_
  simp only [Act.put, pqA, pqB, pqC]
  refine WL.nil (hK3 _ _ ?_)
  refine wp_cond_true rfl ?_
  refine wp_seq_k fun K4 hK4 => rgn ?_
  refine VlS (.slice none 0 0) ?_
  refine WL.nil (hK4 _ _ ?_)
  refine wp_ret ?_
  go_ret
  exact ⟨_, rfl, ⟨by simpa using hxl, .inl ⟨rfl, rfl⟩⟩, Below.refl _ _⟩
 ·have HC : Keep (∀ w1 : World, Below w.heap.size w w1 → ∀ j u, xs[j]? = some u → w1.cell? (ad.add j) = some u) := ⟨fun w1 hb j u hu => by
   rcases hv.2 with ⟨a, c, h1, h2⟩ | ⟨b, off, cap, h1, h2, h3⟩
   ·rw [h2] at hxl
    have : xs = [] := List.eq_nil_of_length_eq_zero (by omega)
    rw [this] at hu; simp at hu
   ·injection h1 with h4
    injection h4 with h4
    subst h4
    rw [Addr.add_mid]
    exact (Grown.below (S := fun _ => False) hb).cell (h3 j u hu) fun h => h⟩
  clear hv hL hbt hI hx1 hxl
  go_enter Tryz.func62, Tryz.ntmps62
  refine wp_seq_k fun K1 hK1 => rgn ?_
  refine VlS (.slice none 0 0) ?_
  refine WL.nil (hK1 _ _ ?_)
  refine wp_seq_k fun K2 hK2 => ?_
  refine wp_seq_k fun K3 hK3 => rgn ?_
  refine VlS (.slice (some ad) n pc) ?_
  refine WL.val (by kernel_rfl) (.bool false) (by go_simp; rw [eqnS48]; rfl) ?_
  simp only [Act.put, pqA, pqB, pqC]
  refine WL.nil (hK3 _ _ ?_)
  refine wp_cond_false rfl ?_
  refine wp_skip ?_
  refine hK2 _ _ ?_
  refine wp_seq_k fun K4 hK4 => rgn ?_
  refine WL.bs (by kernel_rfl) 48 0 _ rfl #[] (by simp) _ _ (bsE48 w) ?_
  have HN := Keep.mk (owns_new w 119 37)
  have BN := Keep.mk (below_new w (.cells #[] 119))
  have HC1 := Keep.mk (HC.out _ BN.out)
  generalize w.alloc (.cells #[] 119) = w1 at *
  simp only [Act.put, pqA, pqB, pqC]
  refine VlS (.slice (some ad) n pc) ?_
  refine WL.appG (by kernel_rfl) 48 119 37 bt _ Tryz.underlying48 HI.out (by kernel_rfl) (by decide) (.tmp 5) (.tmp 6) rfl w.heap.size _ ad 0 n pc [] xs rfl rfl HN.out HXl.out HC1.out H1.out (by have := HL.out; omega) Hbt.out BN.out.size fun v1 w2 h1 h2 => ?_
  have H2 := Keep.mk h1
  have B2 := Keep.mk (belowG BN.out h2 BN.out.size fun k hk => by cases hk; exact Nat.le_refl _)
  clear h1 h2
  simp only [Act.put, pqA, pqB, pqC]
  refine VlS (v1) ?_
  refine WL.nil (hK4 _ _ ?_)
  refine wp_ret ?_
  go_ret
  refine ⟨_, rfl, ?_, B2.out⟩
  have h := H2.out
  rw [Nat.zero_add, List.nil_append] at h
  exact h
theorem Tryz.infoC52 : (Tryz.prog.info? 52).map (fun i => (i.zero, i.size)) = some (some (.agg (entA (fun _ => 0) 0 0 (.slice none 0 0) (.slice none 0 0))), 36) := by kernel_rfl
theorem infoC52 : ∃ bt, bt ≤ 1000000 ∧ (Tryz.prog.info? 52).map (fun i => (i.zero, i.size, i.bytes)) = some (some (.agg (entA (fun _ => 0) 0 0 (.slice none 0 0) (.slice none 0 0))), 36, bt) := by
 obtain ⟨i, hi, hzz⟩ := Option.map_eq_some_iff.1 Tryz.infoC52
 simp only [Prod.mk.injEq] at hzz
 have hb : (Tryz.prog.info? 52).map (fun i => decide (i.bytes ≤ 1000000)) = some true := by kernel_rfl
 rw [hi] at hb
 exact ⟨i.bytes, of_decide_eq_true (Option.some.inj hb), by rw [hi]; simp [hzz.1, hzz.2]⟩
theorem eqnN23 (c : Nat) (w : World) : (binOp .eql 23 (.slice none 0 c) (.slice none 0 0)).run Tryz.prog w = .ok (.bool true) w := by kernel_rfl
theorem eqnS23 (ad : Addr) (n c : Nat) (w : World) : (binOp .eql 23 (.slice (some ad) n c) (.slice none 0 0)).run Tryz.prog w = .ok (.bool false) w := by kernel_rfl
theorem bsE23 (w : World) : (Instr.buildSlice 23 0 #[]).run Tryz.prog w = .ok (.slice (some ⟨w.heap.size, 0, none⟩) 0 0) (w.alloc (.cells #[] 52)) := by kernel_rfl
set_option maxRecDepth 8000 in
theorem cloneE (v : Value) (n : Nat) (xs : List Value) (w : World) (hv : SlG w 36 v n xs) (hx1 : ∀ u ∈ xs, u.oneCell' = true) (hL : n ≤ 1000000) : Calls Tryz.prog 74 #[v] w fun e w' => ∃ v', e = .returned v' ∧ w'.ownsRow w.heap.size 52 36 v' n xs ∧ Below w.heap.size w w' := by
 obtain ⟨pa, pc, rfl⟩ := hv.form
 obtain ⟨bt, hbt, hI⟩ := infoC52
 have Hbt := Keep.mk hbt
 have HI := Keep.mk hI
 have HL := Keep.mk hL
 have H1 := Keep.mk hx1
 have HXl := Keep.mk hv.1
 have hxl := hv.1
 rcases pa with _ | ad
 ·have hn : n = 0 := by
   rcases hv.2 with ⟨a, c, h1, h2⟩ | ⟨b, off, cap, h1, h2, h3⟩
   ·exact h2
   ·injection h1 with h4; cases h4
  subst hn
  clear hv hL hbt hI hx1
  go_enter Tryz.func74, Tryz.ntmps74
  refine wp_seq_k fun K1 hK1 => rgn ?_
  refine VlS (.slice none 0 0) ?_
  refine WL.nil (hK1 _ _ ?_)
  refine wp_seq_k fun K2 hK2 => ?_
  refine wp_seq_k fun K3 hK3 => rgn ?_
  refine VlS (.slice none 0 pc) ?_
  refine WL.val (by kernel_rfl) (.bool true) (by go_simp; rw [eqnN23]; rfl) ?_
  simp only [Act.put, pqA, pqB, pqC]
  refine WL.nil (hK3 _ _ ?_)
  refine wp_cond_true rfl ?_
  refine wp_seq_k fun K4 hK4 => rgn ?_
  refine VlS (.slice none 0 0) ?_
  refine WL.nil (hK4 _ _ ?_)
  refine wp_ret ?_
  go_ret
  exact ⟨_, rfl, ⟨by simpa using hxl, .inl ⟨rfl, rfl⟩⟩, Below.refl _ _⟩
 ·have HC : Keep (∀ w1 : World, Below w.heap.size w w1 → ∀ j u, xs[j]? = some u → w1.cell? (ad.add j) = some u) := ⟨fun w1 hb j u hu => by
   rcases hv.2 with ⟨a, c, h1, h2⟩ | ⟨b, off, cap, h1, h2, h3⟩
   ·rw [h2] at hxl
    have : xs = [] := List.eq_nil_of_length_eq_zero (by omega)
    rw [this] at hu; simp at hu
   ·injection h1 with h4
    injection h4 with h4
    subst h4
    rw [Addr.add_mid]
    exact (Grown.below (S := fun _ => False) hb).cell (h3 j u hu) fun h => h⟩
  clear hv hL hbt hI hx1 hxl
  go_enter Tryz.func74, Tryz.ntmps74
  refine wp_seq_k fun K1 hK1 => rgn ?_
  refine VlS (.slice none 0 0) ?_
  refine WL.nil (hK1 _ _ ?_)
  refine wp_seq_k fun K2 hK2 => ?_
  refine wp_seq_k fun K3 hK3 => rgn ?_
  refine VlS (.slice (some ad) n pc) ?_
  refine WL.val (by kernel_rfl) (.bool false) (by go_simp; rw [eqnS23]; rfl) ?_
  simp only [Act.put, pqA, pqB, pqC]
  refine WL.nil (hK3 _ _ ?_)
  refine wp_cond_false rfl ?_
  refine wp_skip ?_
  refine hK2 _ _ ?_
  refine wp_seq_k fun K4 hK4 => rgn ?_
  refine WL.bs (by kernel_rfl) 23 0 _ rfl #[] (by simp) _ _ (bsE23 w) ?_
  have HN := Keep.mk (owns_new w 52 36)
  have BN := Keep.mk (below_new w (.cells #[] 52))
  have HC1 := Keep.mk (HC.out _ BN.out)
  generalize w.alloc (.cells #[] 52) = w1 at *
  simp only [Act.put, pqA, pqB, pqC]
  refine VlS (.slice (some ad) n pc) ?_
  refine WL.appG (by kernel_rfl) 23 52 36 bt _ Tryz.underlying23 HI.out (by kernel_rfl) (by decide) (.tmp 5) (.tmp 6) rfl w.heap.size _ ad 0 n pc [] xs rfl rfl HN.out HXl.out HC1.out H1.out (by have := HL.out; omega) Hbt.out BN.out.size fun v1 w2 h1 h2 => ?_
  have H2 := Keep.mk h1
  have B2 := Keep.mk (belowG BN.out h2 BN.out.size fun k hk => by cases hk; exact Nat.le_refl _)
  clear h1 h2
  simp only [Act.put, pqA, pqB, pqC]
  refine VlS (v1) ?_
  refine WL.nil (hK4 _ _ ?_)
  refine wp_ret ?_
  go_ret
  refine ⟨_, rfl, ?_, B2.out⟩
  have h := H2.out
  rw [Nat.zero_add, List.nil_append] at h
  exact h
theorem Tryz.in36 (w : World) (vs : Array Value) : (callFunc 36 vs).run Tryz.prog w = .ok (.enter 36 vs) w := by kernel_rfl
theorem owns_sl {w : World} {base s n : Nat} {T : TypeId} {v : Value} {xs : List Value} (h : w.ownsRow base T s v n xs) : SlG w s v n xs := by
 refine ⟨h.1, ?_⟩
 rcases h.2 with ⟨rfl, rfl⟩ | ⟨g, cap, cur, rfl, _, h2, h3, h4, h5, h6⟩
 ·exact .inl ⟨_, _, rfl, rfl⟩
 ·have hb : Blk w g T cur := h2
  refine .inr ⟨g, 0, cap, rfl, h3, fun j u hu => ?_⟩
  rw [hb.cell, Nat.zero_add, ← Array.getElem?_toList]
  rw [← h6, List.getElem?_take] at hu
  split at hu
  ·exact hu
  ·cases hu
theorem owns_lt {w : World} {base s n : Nat} {T : TypeId} {v : Value} {xs : List Value} (h : w.ownsRow base T s v n xs) : ∀ k, v.ownBlock = some k → k < w.heap.size := fun k hk => by
 rcases h.2 with ⟨rfl, _⟩ | ⟨g, cap, cur, rfl, _, h2, _⟩
 ·cases hk
 ·have hb : Blk w g T cur := h2
  cases hk; exact hb.lt
theorem owns_typ {w : World} {base s n : Nat} {T : TypeId} {v : Value} {xs : List Value} (h : w.ownsRow base T s v n xs) : ∀ k, v.ownBlock = some k → Typ w k T := fun k hk => by
 rcases h.2 with ⟨rfl, _⟩ | ⟨g, cap, cur, rfl, _, h2, _⟩
 ·cases hk
 ·have hb : Blk w g T cur := h2
  cases hk; exact hb.typ
theorem owns_grown {w w' : World} {base s n : Nat} {T : TypeId} {v : Value} {xs : List Value} {S : Nat → Prop} (h : w.ownsRow base T s v n xs) (hg : Grown w w' S) (hs : ∀ k, v.ownBlock = some k → ¬ S k) : w'.ownsRow base T s v n xs := by
 refine ⟨h.1, ?_⟩
 rcases h.2 with h | ⟨g, cap, cur, rfl, h1, h2, h3⟩
 ·exact .inl h
 ·have hb : Blk w g T cur := h2
  exact .inr ⟨g, cap, cur, rfl, h1, hg.blk hb (hs g rfl), h3⟩
theorem ops_sl {w : World} {v : Value} {l : List Nd.OpV} (h : Nd.OpsAt w v l) : SlG w 37 v l.length (l.flatMap Nd.opL) := by
 refine ⟨flat_len Nd.opL_len l, ?_⟩
 rcases h with ⟨a, c, rfl, rfl⟩ | ⟨b, off, cap, rfl, h2, h3⟩
 ·exact .inl ⟨_, _, rfl, rfl⟩
 ·exact .inr ⟨b, off, cap, rfl, h2, flat_of_elems Nd.opL_len fun i hi => h3 i _ (List.getElem?_eq_getElem hi)⟩
theorem ops_of {w : World} {v : Value} {l : List Nd.OpV} (h : SlG w 37 v l.length (l.flatMap Nd.opL)) : Nd.OpsAt w v l := by
 rcases h.2 with ⟨a, c, rfl, h0⟩ | ⟨b, off, c, rfl, h2, h3⟩
 ·exact .inl ⟨a, c, rfl, List.eq_nil_of_length_eq_zero h0⟩
 ·refine .inr ⟨b, off, c, rfl, h2, fun i x hx => ?_⟩
  obtain ⟨hi, rfl⟩ := List.getElem?_eq_some_iff.1 hx
  exact flat_elem Nd.opL_len h3 i hi
theorem opL_one (x : Nd.OpV) : ∀ u ∈ Nd.opL x, u.oneCell' = true := by
 intro u hu
 have hb : ∀ (l : List Int), ∀ v ∈ l.map (fun c => Value.int IntKind.u8 c), v.oneCell' = true := fun l v hv => by
  obtain ⟨c, _, rfl⟩ := List.mem_map.1 hv
  rfl
 simp only [Nd.opL, Nd.idL, List.mem_append, List.mem_cons, List.not_mem_nil, or_false] at hu
 rcases hu with (rfl | rfl | rfl | rfl) | (hu | rfl)
 ·rfl
 ·rfl
 ·rfl
 ·rfl
 ·exact hb _ _ hu
 ·rfl
theorem ops_one (l : List Nd.OpV) : ∀ u ∈ l.flatMap Nd.opL, u.oneCell' = true := by
 intro u hu
 obtain ⟨x, _, hx⟩ := List.mem_flatMap.1 hu
 exact opL_one x u hx
theorem ent_set34 (c : Nat → Int) (au ck : Int) (p q r : Value) : (entA c au ck p q).setIfInBounds 34 r = entA c au ck r q := by
 unfold entA Nd.ndA
 rw [Array.setIfInBounds_append_right (by rw [bytesA_size]; omega), bytesA_size]
 rfl
theorem ent_set35 (c : Nat → Int) (au ck : Int) (p q r : Value) : (entA c au ck p q).setIfInBounds 35 r = entA c au ck p r := by
 unfold entA Nd.ndA
 rw [Array.setIfInBounds_append_right (by rw [bytesA_size]; omega), bytesA_size]
 rfl
structure FreshE (w w' : World) (x : EX) (p q : Value) : Prop where
 ps : OwnH w' p x.N.ps
 ops : w'.ownsRow w.heap.size 119 37 q x.N.ops.length (x.N.ops.flatMap Nd.opL)
 nd : Nd.NdAt w' x.N p q
 newp : ∀ k, p.ownBlock = some k → w.heap.size ≤ k
 newq : ∀ k, q.ownBlock = some k → w.heap.size ≤ k
 ne : ∀ k, p.ownBlock = some k → q.ownBlock ≠ some k
 bel : Below w.heap.size w w'
theorem FreshE.of {w w' : World} {x : EX} {p q p0 q0 : Value} (h0 : Nd.NdAt w x.N p0 q0) (hp : OwnH w' p x.N.ps) (hq : w'.ownsRow w.heap.size 119 37 q x.N.ops.length (x.N.ops.flatMap Nd.opL)) (hn : ∀ k, p.ownBlock = some k → w.heap.size ≤ k) (hb : Below w.heap.size w w') : FreshE w w' x p q where
 ps := hp
 ops := hq
 nd := { h0 with ps := hp.row, ops := ops_of (owns_sl hq), bo := fun _ => owns_lt hq }
 newp := hn
 newq := owns_block hq
 ne := fun k h1 h2 => absurd ((hp.typ h1).one (owns_typ hq k h2)) (by decide)
 bel := hb
set_option maxRecDepth 8000 in
set_option maxHeartbeats 1000000 in
theorem own_ent (x : EX) (p q : Value) (w : World) (hN : Nd.NdAt w x.N p q) (hlp : x.N.ps.length ≤ 1000000) (hlo : x.N.ops.length ≤ 1000000) : Calls Tryz.prog 36 #[.agg (entA x.id.f x.N.au x.N.ck p q)] w fun e w' => ∃ p' q', e = .returned (.agg (entA x.id.f x.N.au x.N.ck p' q')) ∧ FreshE w w' x p' q' := by
 have hP : HRow w p x.N.ps := hN.ps
 have hQ := hN.ops
 obtain ⟨pa, pc, rfl⟩ := hP.form
 obtain ⟨qa, qc, rfl⟩ := hQ.form
 have HN := Keep.mk hN
 have HP := Keep.mk hP
 have HQ := Keep.mk hQ
 have HLP := Keep.mk hlp
 have HLO := Keep.mk hlo
 clear hN hP hQ hlp hlo
 obtain ⟨ee, hee⟩ : ∃ a : Array Value, Keep (a = entA x.id.f x.N.au x.N.ck (.slice pa x.N.ps.length pc) (.slice qa x.N.ops.length qc)) := ⟨_, ⟨rfl⟩⟩
 rw [← hee.out]
 go_enter Tryz.func36, Tryz.ntmps36
 refine wp_seq_k fun K1 hK1 => rgn ?_
 refine WL.box (by kernel_rfl) 52 (.tmp 0) rfl (ee) rfl ?_
 obtain ⟨w1, hwn⟩ : ∃ wx, Keep (wx = w.alloc (.cells (ee) 52)) := ⟨_, ⟨rfl⟩⟩
 rw [← hwn.out]
 have HX1 : Keep (Blk w1 w.heap.size 52 (ee)) := ⟨by rw [hwn.out]; exact Blk.new _ _ _⟩
 have LB1 : Keep (Below w.heap.size w w1) := ⟨by rw [hwn.out]; exact below_new _ _⟩
 clear hwn
 simp only [Act.put, pqA, pqB, pqC]
 refine WL.new (by kernel_rfl) 52 rfl (entA (fun _ => 0) 0 0 (.slice none 0 0) (.slice none 0 0)) Tryz.new52 ?_
 obtain ⟨w2, hwn⟩ : ∃ wx, Keep (wx = w1.alloc (.cells (entA (fun _ => 0) 0 0 (.slice none 0 0) (.slice none 0 0)) 52)) := ⟨_, ⟨rfl⟩⟩
 rw [← hwn.out]
 have HZ2 : Keep (Blk w2 w1.heap.size 52 (entA (fun _ => 0) 0 0 (.slice none 0 0) (.slice none 0 0))) := ⟨by rw [hwn.out]; exact Blk.new _ _ _⟩
 have B2 : Keep (Below w1.heap.size w1 w2) := ⟨by rw [hwn.out]; exact below_new _ _⟩
 clear hwn
 obtain ⟨ez, hez⟩ : ∃ a : Array Value, Keep (a = entA (fun _ => 0) 0 0 (.slice none 0 0) (.slice none 0 0)) := ⟨_, ⟨rfl⟩⟩
 rw [← hez.out] at HZ2
 have HX2 := Keep.mk (HX1.out.below B2.out HX1.out.lt)
 have LB2 := Keep.mk (belowT LB1.out B2.out)
 have hne : Keep (w.heap.size < w1.heap.size) := ⟨HX1.out.lt⟩
 have hl2 : Keep (w1.heap.size < w2.heap.size) := ⟨HZ2.out.lt⟩
 generalize w1.heap.size = b2 at *
 clear HX1 B2
 have c34 : w2.cell? ⟨w.heap.size, 34, none⟩ = some (.slice pa x.N.ps.length pc) := HX2.out.c 34 (by rw [hee.out]; exact ent_ps _ _ _ _ _)
 simp only [Act.put, pqA, pqB, pqC]
 refine WL.nil (hK1 _ _ ?_)
 refine wp_seq_k fun K2 hK2 => rgn ?_
 refine VlS (.pointer (some ⟨w.heap.size, 32, none⟩)) ?_
 refine VlS (.pointer (some ⟨w.heap.size, 34, none⟩)) ?_
 refine VlS (.slice pa x.N.ps.length pc) ?_
 clear c34
 refine WL.callF (by kernel_rfl) 61 _ _ rfl Tryz.in61 #[.slice pa x.N.ps.length pc] (by simp [Act.eval]) ?_
 refine (clone_any _ x.N.ps w2 (HP.out.below LB2.out) (by have := HLP.out; omega)).mono ?_
 rintro e w3 ⟨v1, rfl, hf⟩
 refine ⟨_, rfl, ?_⟩
 have HF := Keep.mk hf
 have HX3 := Keep.mk (HX2.out.below hf.bel HX2.out.lt)
 have HZ3 := Keep.mk (HZ2.out.below hf.bel HZ2.out.lt)
 obtain ⟨ra, rc, rfl⟩ := hf.own.sl
 clear hf HX2 HZ2
 simp only [Act.put, pqA, pqB, pqC]
 refine VlS (.pointer (some ⟨w.heap.size, 32, none⟩)) ?_
 refine VlS (.pointer (some ⟨w.heap.size, 34, none⟩)) ?_
 have f_o := HX3.out.frozen 34
 have c_o : w3.cell? ⟨w.heap.size, 34, none⟩ = some (.slice pa x.N.ps.length pc) := HX3.out.c 34 (by rw [hee.out]; exact ent_ps _ _ _ _ _)
 refine WL.cell (by kernel_rfl) (w3.setCell ⟨w.heap.size, 34, none⟩ (.slice ra x.N.ps.length rc)) (by go_simp) ?_
 clear f_o c_o
 obtain ⟨e1, he1⟩ : ∃ a : Array Value, Keep (a = entA x.id.f x.N.au x.N.ck (.slice ra x.N.ps.length rc) (.slice qa x.N.ops.length qc)) := ⟨_, ⟨rfl⟩⟩
 have HX4 : Keep (Blk (w3.setCell ⟨w.heap.size, 34, none⟩ (.slice ra x.N.ps.length rc)) w.heap.size 52 e1) := ⟨by have h := HX3.out.set 34 (.slice ra x.N.ps.length rc); rw [hee.out, ent_set34, ← he1.out] at h; exact h⟩
 have HZ4 := Keep.mk (HZ3.out.set_ne (b' := w.heap.size) (j := 34) (by have := hne.out; omega) (.slice ra x.N.ps.length rc))
 have G4 : Keep (Grown w3 (w3.setCell ⟨w.heap.size, 34, none⟩ (.slice ra x.N.ps.length rc)) fun k => k = w.heap.size) := ⟨Grown.setCell w3 _ 34 _ fun _ => rfl⟩
 generalize w3.setCell ⟨w.heap.size, 34, none⟩ (.slice ra x.N.ps.length rc) = w4 at *
 clear HX3 HZ3
 have LB4 : Keep (Below w.heap.size w w4) := ⟨LB2.out.trans (((Grown.below (S := fun k => k = w.heap.size) HF.out.bel).trans G4.out).to_below (fun k hk e => by omega) LB2.out.size)⟩
 have HP4 : Keep (OwnH w4 (.slice ra x.N.ps.length rc) x.N.ps) := ⟨HF.out.own.grown G4.out fun k hk e => by have := HF.out.new k hk; have := LB2.out.size; have := hne.out; have := hl2.out; omega⟩
 have s4 : Keep (w2.heap.size ≤ w4.heap.size) := ⟨Nat.le_trans HF.out.bel.size G4.out.size⟩
 have HNp : Keep (∀ k, (Value.slice ra x.N.ps.length rc).ownBlock = some k → w2.heap.size ≤ k) := ⟨HF.out.new⟩
 clear HF
 have c35 : w4.cell? ⟨w.heap.size, 35, none⟩ = some (.slice qa x.N.ops.length qc) := HX4.out.c 35 (by rw [he1.out]; exact ent_ops _ _ _ _ _)
 simp only [Act.put]
 refine WL.nil (hK2 _ _ ?_)
 refine wp_seq_k fun K3 hK3 => rgn ?_
 refine VlS (.pointer (some ⟨w.heap.size, 32, none⟩)) ?_
 refine VlS (.pointer (some ⟨w.heap.size, 35, none⟩)) ?_
 refine VlS (.slice qa x.N.ops.length qc) ?_
 clear c35
 refine WL.callF (by kernel_rfl) 62 _ _ rfl Tryz.in62 #[.slice qa x.N.ops.length qc] (by simp [Act.eval]) ?_
 refine (cloneO _ _ _ w4 (ops_sl (HQ.out.below LB4.out)) (ops_one _) HLO.out).mono ?_
 rintro e w5 ⟨v2, rfl, hf, hfb⟩
 refine ⟨_, rfl, ?_⟩
 have HQ5 := Keep.mk hf
 have B5 := Keep.mk hfb
 have HX5 := Keep.mk (HX4.out.below hfb HX4.out.lt)
 have HZ5 := Keep.mk (HZ4.out.below hfb HZ4.out.lt)
 have HP5 := Keep.mk (HP4.out.below hfb)
 obtain ⟨sa, sc, rfl⟩ := (owns_sl hf).form
 clear hf hfb HX4 HZ4 HP4
 simp only [Act.put, pqA, pqB, pqC]
 refine VlS (.pointer (some ⟨w.heap.size, 32, none⟩)) ?_
 refine VlS (.pointer (some ⟨w.heap.size, 35, none⟩)) ?_
 have f_o := HX5.out.frozen 35
 have c_o : w5.cell? ⟨w.heap.size, 35, none⟩ = some (.slice qa x.N.ops.length qc) := HX5.out.c 35 (by rw [he1.out]; exact ent_ops _ _ _ _ _)
 refine WL.cell (by kernel_rfl) (w5.setCell ⟨w.heap.size, 35, none⟩ (.slice sa x.N.ops.length sc)) (by go_simp) ?_
 clear f_o c_o
 obtain ⟨e2, he2⟩ : ∃ a : Array Value, Keep (a = entA x.id.f x.N.au x.N.ck (.slice ra x.N.ps.length rc) (.slice sa x.N.ops.length sc)) := ⟨_, ⟨rfl⟩⟩
 have HX6 : Keep (Blk (w5.setCell ⟨w.heap.size, 35, none⟩ (.slice sa x.N.ops.length sc)) w.heap.size 52 e2) := ⟨by have h := HX5.out.set 35 (.slice sa x.N.ops.length sc); rw [he1.out, ent_set35, ← he2.out] at h; exact h⟩
 have HZ6 := Keep.mk (HZ5.out.set_ne (b' := w.heap.size) (j := 35) (by have := hne.out; omega) (.slice sa x.N.ops.length sc))
 have G6 : Keep (Grown w5 (w5.setCell ⟨w.heap.size, 35, none⟩ (.slice sa x.N.ops.length sc)) fun k => k = w.heap.size) := ⟨Grown.setCell w5 _ 35 _ fun _ => rfl⟩
 generalize w5.setCell ⟨w.heap.size, 35, none⟩ (.slice sa x.N.ops.length sc) = w6 at *
 clear HX5 HZ5
 simp only [Act.put]
 refine WL.nil (hK3 _ _ ?_)
 refine wp_seq_k fun K4 hK4 => rgn ?_
 refine WL.row (by kernel_rfl) 52 (.tmp 1) rfl w.heap.size rfl 52 e2 _ HX6.out Tryz.underlying52 rfl (by rw [he2.out]; exact sizeE _ _ _ _ _) ?_
 simp only [Act.put, pqA, pqB, pqC]
 refine WL.storeR (by kernel_rfl) 52 (.tmp 2) (.tmp 15) rfl b2 e2 rfl rfl 52 ez HZ6.out (by rw [he2.out]; exact sizeE _ _ _ _ _) (by rw [he2.out, hez.out, entA_size, entA_size]) (by rw [he2.out]; exact entA_one _ _ _ _ _ (slice_one _ _ _) (slice_one _ _ _)) ?_
 have HZ7 := Keep.mk (HZ6.out.setRow e2)
 have G7 : Keep (Grown w6 (w6.setRow b2 e2) fun k => k = b2) := ⟨Grown.setRow w6 b2 _ fun _ => rfl⟩
 generalize w6.setRow b2 e2 = w7 at *
 clear HZ6
 simp only [Act.put]
 refine WL.nil (hK4 _ _ ?_)
 refine wp_ret ?_
 refine bodyPost_ret (v := .agg e2) (results_cell_row Tryz.results36 _ _ b2 52 _ (0, 0) _ rfl HZ7.out Tryz.underlying52 rfl (by rw [he2.out]; exact sizeE _ _ _ _ _)) rfl ?_
 refine ⟨_, _, by rw [he2.out], FreshE.of HN.out ?_ ?_ (fun k hk => Nat.le_trans LB2.out.size (HNp.out k hk)) ?_⟩
 ·refine (HP5.out.grown G6.out fun k hk e => ?_).grown G7.out fun k hk e => ?_
  ·have := HNp.out k hk; have := LB2.out.size; have := hne.out; have := hl2.out; omega
  ·have := HNp.out k hk; have := hl2.out; omega
 ·have h := owns_grown (owns_grown HQ5.out G6.out fun k hk e => ?_) G7.out fun k hk e => ?_
  ·exact ⟨h.1, h.2.imp id fun ⟨g, cap, cur, h1, h2, h3⟩ => ⟨g, cap, cur, h1, Nat.le_trans LB4.out.size h2, h3⟩⟩
  ·have := owns_block HQ5.out k hk; have := s4.out; have := hne.out; have := hl2.out; omega
  ·have := owns_block HQ5.out k hk; have := s4.out; have := hl2.out; omega
 ·refine LB4.out.trans ?_
  have g3 : Grown w4 w7 (fun k => k = w.heap.size ∨ k = b2) := ((Grown.below (S := fun k => k = w.heap.size ∨ k = b2) B5.out).trans (G6.out.mono fun k _ e => .inl e)).trans (G7.out.mono fun k _ e => .inr e)
  exact g3.to_below (fun k hk e => by have := hne.out; omega) LB4.out.size
theorem Tryz.in31 (w : World) (vs : Array Value) : (callFunc 31 vs).run Tryz.prog w = .ok (.enter 31 vs) w := by kernel_rfl
theorem Tryz.in56 (w : World) (vs : Array Value) : (callFunc 56 vs).run Tryz.prog w = .ok (.enter 56 vs) w := by kernel_rfl
def exs (L : List EP) : List EX := L.map (·.1)
theorem exs_len (L : List EP) : (exs L).length = L.length := by simp [exs]
theorem exs_get (L : List EP) (i : Nat) (h : i < L.length) : (exs L)[i]'(by rw [exs_len]; exact h) = L[i].1 := by simp [exs]
theorem exs_get? (L : List EP) (i : Nat) (h : i < L.length) : (exs L)[i]? = some L[i].1 := by simp [exs, h]
theorem WL.updI {ops : Array Oper} {rest : List Oper} {o : Oper} {a : Act} {w : World} {Q : Exit → Act → World → Prop} (hw : Region.wanted o (yielded ops a.tmps) = true) (m k x : Operand) (ho : o.op = .mapUpdate 73 m k x) (vm vk vx : Value) (hm : a.eval m = vm) (hk : a.eval k = vk) (hx : a.eval x = vx) (w' : World)
  (hr : (Instr.mapUpdate 73 vm vk vx).run Tryz.prog w = .ok () w') (h : WL Tryz.prog ops Q rest (a.put o.dst undef) w') : WL Tryz.prog ops Q (o :: rest) a w :=
 ⟨wpList_wanted hw fun K hK => by
  unfold Oper.wp execOp
  simp only [ho, hm, hk, hx, Sem.run_bind, hr, Result.andThen_ok]
  exact hK _ _ h.out⟩
theorem WL.lookI {ops : Array Oper} {rest : List Oper} {o : Oper} {a : Act} {w : World} {Q : Exit → Act → World → Prop} (hw : Region.wanted o (yielded ops a.tmps) = true) (m k : Operand) (cm : Bool) (ho : o.op = .lookup 73 m k cm) (vm vk v : Value) (hm : a.eval m = vm) (hk : a.eval k = vk)
  (hr : (Instr.lookup 73 vm vk cm).run Tryz.prog w = .ok v w) (h : WL Tryz.prog ops Q rest (a.put o.dst v) w) : WL Tryz.prog ops Q (o :: rest) a w :=
 ⟨wpList_wanted hw fun K hK => by
  unfold Oper.wp execOp
  simp only [ho, hm, hk, Sem.run_bind, hr, Result.andThen_ok]
  exact hK _ _ h.out⟩
theorem ent_range_id {w : World} {b o : Nat} {c : Nat → Int} {au ck : Int} {p q : Value} (h : w.rangeAt b o (entA c au ck p q).toList) : w.rangeAt b o (bytesA 32 c).toList := fun j v hv => by
 refine h j v ?_
 have hj := (List.getElem?_eq_some_iff.1 hv).1
 rw [Array.length_toList, bytesA_size] at hj
 rw [Array.getElem?_toList] at hv ⊢
 rw [entA, Array.getElem?_append_left (by rw [bytesA_size]; exact hj)]
 exact hv
theorem ent_range_nd {w : World} {b o : Nat} {c : Nat → Int} {au ck : Int} {p q : Value} (h : w.rangeAt b o (entA c au ck p q).toList) : w.rangeAt b (o + 32) (Nd.ndA au ck p q).toList := fun j v hv => by
 have := h (32 + j) v (by
  rw [Array.getElem?_toList] at hv ⊢
  rw [entA, Array.getElem?_append_right (by rw [bytesA_size]; omega), bytesA_size, Nat.add_sub_cancel_left]
  exact hv)
 rw [show o + (32 + j) = o + 32 + j by omega] at this
 exact this
theorem Tryz.mkmapI (w : World) : (Instr.makeMap 73 none).run Tryz.prog w = .ok (.map (some w.heap.size)) (w.alloc (.map #[] 0)) := by kernel_rfl
theorem size36E (c : Nat → Int) : (Tryz.prog.info? 36).map (·.size) = some (bytesA 32 c).size := by rw [bytesA_size]; kernel_rfl
theorem ids_snoc (L : List EP) (t : Nat) (ht : t < L.length) : idsE (exs (L.take (t + 1))) = idsE (exs (L.take t)) ++ [L[t].1.id] := by
 rw [List.take_succ_eq_append_getElem ht]; simp only [idsE, exs, List.map_append, List.map_cons, List.map_nil]
theorem exs_take (L : List EP) (t : Nat) : (exs L).take t = exs (L.take t) := by simp [exs, List.map_take]
def AlonePost (L : List EP) (w : World) (e : Ending) (w' : World) : Prop :=
 (∃ b, e = .returned (.tuple #[.map (some b), .int .i64 0, .int .i64 0]) ∧ IxAt w' b (idsE (exs L)) ∧ w.heap.size ≤ b ∧ Below w.heap.size w w' ∧ ∀ i, i < L.length → al1 (exs L) i = 0) ∨
 ∃ i, i < L.length ∧ (∀ j, j < i → al1 (exs L) j = 0) ∧ al1 (exs L) i ≠ 0 ∧ e = .returned (.tuple #[.map none, .int .i64 (al1 (exs L) i), .int .i64 (i : Int)]) ∧ Below w.heap.size w w'
theorem belowC {a b c : World} (h : Below a.heap.size a b) (h2 : Below b.heap.size b c) : Below a.heap.size a c := belowT h h2
set_option maxRecDepth 8000 in
set_option maxHeartbeats 2000000 in
theorem alone_any (v : Value) (L : List EP) (w : World) (hs : ESl w v L) (hi : EIn w L) (hL : L.length ≤ 4398046511104) : Calls Tryz.prog 31 #[v] w (AlonePost L w) := by
 obtain ⟨sa, sc, rfl⟩ := hs.form
 have HS := Keep.mk hs
 have HI := Keep.mk hi
 have HL := Keep.mk hL
 clear hs hi hL
 go_enter Tryz.func31, Tryz.ntmps31
 refine wp_seq_k fun K1 hK1 => rgn ?_
 refine VlS (.map none) ?_
 refine VlS (.int .i64 0) ?_
 refine VlS (.int .i64 0) ?_
 refine WL.nil (hK1 _ _ ?_)
 refine wp_seq_k fun K2 hK2 => rgn ?_
 refine WL.valW (by kernel_rfl) (.map (some w.heap.size)) (w.alloc (.map #[] 0)) (by go_simp; rw [Tryz.mkmapI]; rfl) ?_
 have HM0 := Keep.mk (IxAt.new w)
 have B0 := Keep.mk (below_new w (.map #[] 0))
 generalize w.alloc (.map #[] 0) = w0 at *
 simp only [Act.put, pqA, pqB, pqC]
 refine VlS (.map (some w.heap.size)) ?_
 refine WL.nil (hK2 _ _ ?_)
 refine wp_seq_k fun K3 hK3 => ?_
 refine wp_seq_k fun K4 hK4 => rgn ?_
 refine VlS (.slice sa L.length sc) ?_
 refine VlS (.int .i64 (L.length : Int)) ?_
 refine VlS (.int .i64 0) ?_
 refine WL.nil (hK4 _ _ ?_)
 refine wp_block ?_
 refine wp_loop (fun ac wr => ∃ (t : Nat) (u5 u6 u7 u8 u9 u14 u15 u16 u17 u18 u19 u20 u21 u22 u23 u24 u25 u26 u27 u28 u29 u30 u31 u32 u33 u34 u35 u36 u37 u38 u39 u40 u41 : Value), ac = { tmps := #[.slice sa L.length sc, undef, .map (some w.heap.size), .int .i64 0, .int .i64 0, u5, u6, u7, u8, u9, .map (some w.heap.size), .slice sa L.length sc, .int .i64 (L.length : Int), .int .i64 (t : Int), u14, u15, u16, u17, u18, u19, u20, u21, u22, u23, u24, u25, u26, u27, u28, u29, u30, u31, u32, u33, u34, u35, u36, u37, u38, u39, u40, u41, undef], defers := [] } ∧ t ≤ L.length ∧ IxAt wr w.heap.size (idsE (exs (L.take t))) ∧ Below w.heap.size w wr ∧ ∀ j, j < t → al1 (exs L) j = 0) (fun a _ => L.length - (intOf (a.tmps.getD 13 undef)).toNat) ⟨0, undef, undef, undef, undef, undef, undef, undef, undef, undef, undef, undef, undef, undef, undef, undef, undef, undef, undef, undef, undef, undef, undef, undef, undef, undef, undef, undef, undef, undef, undef, undef, undef, undef, rfl, by omega, by rw [List.take_zero]; exact HM0.out, B0.out, fun j hj => by omega⟩ ?_
 rintro ac wr ⟨t, u5, u6, u7, u8, u9, u14, u15, u16, u17, u18, u19, u20, u21, u22, u23, u24, u25, u26, u27, u28, u29, u30, u31, u32, u33, u34, u35, u36, u37, u38, u39, u40, u41, rfl, ht, hM, hB, hA⟩
 have JM := Keep.mk hM
 have JB := Keep.mk hB
 have JA := Keep.mk hA
 clear hM hB hA
 by_cases htl : t < L.length
 ·have htl' : (t : Int) < (L.length : Int) := by omega
  have ht0 : (0 : Int) ≤ (t : Int) := by omega
  have hwt : IntKind.i64.wrap ((t : Int) + 1) = ((t + 1 : Nat) : Int) := by rw [IntKind.wrap_i64]; have := HL.out; omega
  obtain ⟨sb, so, rfl, hrg⟩ := esl_range (HS.out.below JB.out) htl
  obtain ⟨x, hx⟩ : ∃ x, Keep (x = L[t]) := ⟨_, ⟨rfl⟩⟩
  rw [← hx.out] at hrg
  obtain ⟨ee, hee⟩ : ∃ a : Array Value, Keep (a = entA x.1.id.f x.1.N.au x.1.N.ck x.2.1 x.2.2) := ⟨_, ⟨rfl⟩⟩
  have HR : Keep (wr.rangeAt sb (so + t * 36) ee.toList) := ⟨by rw [hee.out]; exact hrg⟩
  clear hrg
  have HN : Keep (Nd.NdAt wr x.1.N x.2.1 x.2.2) := ⟨(HI.out x (by rw [hx.out]; exact List.getElem_mem htl)).below JB.out⟩
  refine wp_seq_k fun K5 hK5 => rgn ?_
  refine VbT ?_
  refine WL.nil (hK5 _ _ ?_)
  refine wp_seq_k fun K6 hK6 => ?_
  refine wp_cond_true rfl ?_
  refine wp_skip ?_
  refine hK6 _ _ ?_
  refine wp_seq_k fun K7 hK7 => ?_
  refine wp_block ?_
  refine wp_seq_k fun K8 hK8 => rgn ?_
  refine VlS (.int .i64 (t : Int)) ?_
  refine VlS (.pointer (some ⟨sb, so + t * 36, none⟩)) ?_
  refine WL.midA (by kernel_rfl) 52 (.tmp 16) rfl sb (so + t * 36) rfl ee _ HR.out Tryz.underlying52 rfl (by rw [hee.out]; exact sizeE _ _ _ _ _) ?_
  simp only [Act.put, pqA, pqB, pqC]
  refine WL.new (by kernel_rfl) 52 rfl (entA (fun _ => 0) 0 0 (.slice none 0 0) (.slice none 0 0)) Tryz.new52 ?_
  obtain ⟨wb, hwn⟩ : ∃ wx, Keep (wx = wr.alloc (.cells (entA (fun _ => 0) 0 0 (.slice none 0 0) (.slice none 0 0)) 52)) := ⟨_, ⟨rfl⟩⟩
  rw [← hwn.out]
  have HZ : Keep (Blk wb wr.heap.size 52 (entA (fun _ => 0) 0 0 (.slice none 0 0) (.slice none 0 0))) := ⟨by rw [hwn.out]; exact Blk.new _ _ _⟩
  have LB : Keep (Below wr.heap.size wr wb) := ⟨by rw [hwn.out]; exact below_new _ _⟩
  clear hwn
  simp only [Act.put, pqA, pqB, pqC]
  refine VlS (.int .i64 (t : Int)) ?_
  refine WL.storeR (by kernel_rfl) 52 (.tmp 6) (.tmp 17) rfl wr.heap.size ee rfl rfl 52 _ HZ.out (by rw [hee.out]; exact sizeE _ _ _ _ _) (by rw [hee.out, entA_size, entA_size]) (by rw [hee.out]; exact entA_one _ _ _ _ _ (by obtain ⟨a, c, e⟩ := HN.out.ps.form; rw [e]; rfl) (by obtain ⟨a, c, e⟩ := HN.out.ops.form; rw [e]; rfl)) ?_
  have HX := Keep.mk (HZ.out.setRow ee)
  have LX : Keep (Below wr.heap.size wr (wb.setRow wr.heap.size ee)) := ⟨below_setRow LB.out (Nat.le_refl _) _⟩
  generalize wb.setRow wr.heap.size ee = wx at *
  clear HZ LB
  have HNx := Keep.mk (HN.out.below LX.out)
  have JMx := Keep.mk (JM.out.below LX.out)
  have JBx := Keep.mk (belowC JB.out LX.out)
  have hnb : Keep (wr.heap.size ≠ w.heap.size) := ⟨by have := JM.out.lt; omega⟩
  generalize wr.heap.size = g at *
  simp only [Act.put]
  refine WL.nil (hK8 _ _ ?_)
  refine wp_seq_k fun K9 hK9 => ?_
  refine wp_seq_k fun K10 hK10 => rgn ?_
  refine VlS (.int .i64 (t : Int)) ?_
  by_cases h5_1 : (4096 : Int) ≤ (t : Int)
  ·skip
   refine VbT ?_
   refine WL.nil (hK10 _ _ ?_)
   refine wp_cond_true rfl ?_
   refine wp_seq_k fun K11 hK11 => rgn ?_
   refine VlS (.int .i64 (t : Int)) ?_
   refine VlS (.map none) ?_
   refine VlS (.int .i64 3) ?_
   refine VlS (.int .i64 (t : Int)) ?_
   refine WL.nil (hK11 _ _ ?_)
   refine wp_ret ?_
   go_ret3
   have hal : al1 (exs L) t = 3 := by
    unfold al1
    rw [if_pos (by omega)]
   refine .inr ⟨t, htl, JA.out, ?_, ?_, JBx.out⟩
   ·rw [hal]; decide
   ·rw [hal]; rfl
  ·skip
   refine VbF ?_
   refine WL.nil (hK10 _ _ ?_)
   refine wp_cond_false rfl ?_
   refine wp_skip ?_
   refine hK9 _ _ ?_
   refine wp_seq_k fun K12 hK12 => ?_
   refine wp_seq_k fun K13 hK13 => rgn ?_
   refine VlS (.pointer (some ⟨g, 32, none⟩)) ?_
   refine WL.midA (by kernel_rfl) 50 (.tmp 21) rfl g 32 rfl (Nd.ndA x.1.N.au x.1.N.ck x.2.1 x.2.2) _ (by have h := blk_range HX.out; rw [hee.out] at h; have := ent_range_nd h; rwa [Nat.zero_add] at this) Tryz.underlying50 rfl Nd.Tryz.size50 ?_
   simp only [Act.put, pqA, pqB, pqC]
   refine WL.callF (by kernel_rfl) 56 _ _ rfl Tryz.in56 #[.agg (Nd.ndA x.1.N.au x.1.N.ck x.2.1 x.2.2)] (by simp [Act.eval]) ?_
   refine (Nd.check_node x.1.N x.2.1 x.2.2 wx HNx.out).mono ?_
   rintro e wy ⟨rfl, hby⟩
   refine ⟨_, rfl, ?_⟩
   have HXy := Keep.mk (HX.out.below hby HX.out.lt)
   have JMy := Keep.mk (JMx.out.below hby)
   have JBy := Keep.mk (belowC JBx.out hby)
   obtain ⟨c, hc⟩ : ∃ c, Keep (Nd.chkN x.1.N = c) := ⟨_, ⟨rfl⟩⟩
   rw [hc.out]
   clear hby HX JMx JBx HNx
   simp only [Act.put, pqA, pqB, pqC]
   refine VlS (.int .i64 c) ?_
   refine WL.nil (hK13 _ _ ?_)
   refine wp_seq_k fun K14 hK14 => rgn ?_
   refine VlS (.int .i64 c) ?_
   by_cases h8_1 : c = 0
   ·skip
    refine VbF ?_
    refine WL.nil (hK14 _ _ ?_)
    refine wp_cond_false rfl ?_
    refine wp_skip ?_
    refine hK12 _ _ ?_
    refine wp_seq_k fun K15 hK15 => ?_
    refine wp_seq_k fun K16 hK16 => ?_
    by_cases hm : x.1.id ∈ idsE (exs (L.take t))
    ·have hlk := (lookI JMy.out x.1.id).1
     rw [decide_eq_true (ixH_lt.2 hm)] at hlk
     generalize ixV (idsE (exs (L.take t))) x.1.id = iv at hlk
     refine rgn ?_
     refine VlS (.map (some w.heap.size)) ?_
     refine VlS (.pointer (some ⟨g, 0, none⟩)) ?_
     refine WL.midA (by kernel_rfl) 36 (.tmp 30) rfl g 0 rfl (bytesA 32 x.1.id.f) _ (by have h := blk_range HXy.out; rw [hee.out] at h; exact ent_range_id h) Tryz.underlying36 rfl (size36E _) ?_
     simp only [Act.put, pqA, pqB, pqC]
     refine WL.lookI (by kernel_rfl) (.tmp 29) (.tmp 31) true rfl _ _ _ rfl rfl hlk ?_
     simp only [Act.put, pqA, pqB, pqC]
     refine VlS (.tuple #[.int .i64 (iv : Int), .bool true]) ?_
     refine VlS (.int .i64 (iv : Int)) ?_
     refine VbT ?_
     refine VlS (.int .i64 (iv : Int)) ?_
     refine VbT ?_
     refine WL.nil (hK16 _ _ ?_)
     refine wp_seq_k fun K17 hK17 => rgn ?_
     refine VbT ?_
     refine WL.nil (hK17 _ _ ?_)
     refine wp_cond_true rfl ?_
     refine wp_seq_k fun K18 hK18 => rgn ?_
     refine VlS (.int .i64 (t : Int)) ?_
     refine VlS (.map none) ?_
     refine VlS (.int .i64 9) ?_
     refine VlS (.int .i64 (t : Int)) ?_
     refine WL.nil (hK18 _ _ ?_)
     refine wp_ret ?_
     go_ret3
     have hal : al1 (exs L) t = 9 := by
      unfold al1
      rw [if_neg (by omega), exs_get? L t htl, ← hx.out]
      simp only
      rw [hc.out, if_neg (fun h => h h8_1), exs_take, if_pos hm]
     refine .inr ⟨t, htl, JA.out, ?_, ?_, JBy.out⟩
     ·rw [hal]; decide
     ·rw [hal]; rfl
    ·have hlk := (lookI JMy.out x.1.id).1
     rw [decide_eq_false (fun h => hm (ixH_lt.1 h))] at hlk
     generalize ixV (idsE (exs (L.take t))) x.1.id = iv at hlk
     refine rgn ?_
     refine VlS (.map (some w.heap.size)) ?_
     refine VlS (.pointer (some ⟨g, 0, none⟩)) ?_
     refine WL.midA (by kernel_rfl) 36 (.tmp 30) rfl g 0 rfl (bytesA 32 x.1.id.f) _ (by have h := blk_range HXy.out; rw [hee.out] at h; exact ent_range_id h) Tryz.underlying36 rfl (size36E _) ?_
     simp only [Act.put, pqA, pqB, pqC]
     refine WL.lookI (by kernel_rfl) (.tmp 29) (.tmp 31) true rfl _ _ _ rfl rfl hlk ?_
     simp only [Act.put, pqA, pqB, pqC]
     refine VlS (.tuple #[.int .i64 (iv : Int), .bool false]) ?_
     refine VlS (.int .i64 (iv : Int)) ?_
     refine VbF ?_
     refine VlS (.int .i64 (iv : Int)) ?_
     refine VbF ?_
     refine WL.nil (hK16 _ _ ?_)
     refine wp_seq_k fun K19 hK19 => rgn ?_
     refine VbF ?_
     refine WL.nil (hK19 _ _ ?_)
     refine wp_cond_false rfl ?_
     refine wp_skip ?_
     refine hK15 _ _ ?_
     refine rgn ?_
     refine VlS (.map (some w.heap.size)) ?_
     refine VlS (.pointer (some ⟨g, 0, none⟩)) ?_
     refine WL.midA (by kernel_rfl) 36 (.tmp 38) rfl g 0 rfl (bytesA 32 x.1.id.f) _ (by have h := blk_range HXy.out; rw [hee.out] at h; exact ent_range_id h) Tryz.underlying36 rfl (size36E _) ?_
     simp only [Act.put, pqA, pqB, pqC]
     refine VlS (.int .i64 (t : Int)) ?_
     obtain ⟨wz, hu, hMz, hGz⟩ := updI JMy.out x.1.id hm t (by rw [idsE_len, exs_len, List.length_take]; omega)
     refine WL.updI (by kernel_rfl) (.tmp 37) (.tmp 39) (.tmp 40) rfl _ _ _ rfl rfl rfl wz hu ?_
     have JMz := Keep.mk hMz
     have JBz : Keep (Below w.heap.size w wz) := ⟨JBy.out.trans (hGz.to_below (fun k hk e => by omega) JBy.out.size)⟩
     clear hu hMz hGz
     simp only [Act.put]
     refine WL.nil (hK7 _ _ ?_)
     refine rgn ?_
     refine VlS (.int .i64 ((t + 1 : Nat) : Int)) ?_
     refine VlS (.int .i64 ((t + 1 : Nat) : Int)) ?_
     refine WL.nil ?_
     refine ⟨⟨t + 1, .int .i64 (t : Int), .pointer (some ⟨g, 0, none⟩), .int .i64 c, .int .i64 (iv : Int), .bool false, .bool true, .int .i64 (t : Int), .pointer (some ⟨sb, so + t * 36, none⟩), .agg ee, .int .i64 (t : Int), .bool false, u20, .pointer (some ⟨g, 32, none⟩), .agg (Nd.ndA x.1.N.au x.1.N.ck x.2.1 x.2.2), .int .i64 c, .int .i64 c, .bool false, u26, u27, .tuple #[.int .i64 (iv : Int), .bool false], .map (some w.heap.size), .pointer (some ⟨g, 0, none⟩), .agg (bytesA 32 x.1.id.f), .tuple #[.int .i64 (iv : Int), .bool false], .int .i64 (iv : Int), .bool false, .bool false, u36, .map (some w.heap.size), .pointer (some ⟨g, 0, none⟩), .agg (bytesA 32 x.1.id.f), .int .i64 (t : Int), .int .i64 ((t + 1 : Nat) : Int), rfl, by omega, by rw [ids_snoc L t htl, ← hx.out]; exact JMz.out, JBz.out, fun j hj => ?_⟩, by simp [intOf]; omega⟩
     rcases Nat.lt_or_eq_of_le (Nat.le_of_lt_succ hj) with h | rfl
     ·exact JA.out j h
     ·unfold al1
      rw [if_neg (by omega), exs_get? L j htl, ← hx.out]
      simp only
      rw [hc.out, if_neg (fun h => h h8_1), exs_take, if_neg hm]
   ·skip
    refine VbT ?_
    refine WL.nil (hK14 _ _ ?_)
    refine wp_cond_true rfl ?_
    refine wp_seq_k fun K20 hK20 => rgn ?_
    refine VlS (.int .i64 c) ?_
    refine VlS (.int .i64 (t : Int)) ?_
    refine VlS (.map none) ?_
    refine VlS (.int .i64 c) ?_
    refine VlS (.int .i64 (t : Int)) ?_
    refine WL.nil (hK20 _ _ ?_)
    refine wp_ret ?_
    go_ret3
    have hal : al1 (exs L) t = c := by
     unfold al1
     rw [if_neg (by omega), exs_get? L t htl, ← hx.out]
     simp only
     rw [hc.out, if_pos h8_1]
    refine .inr ⟨t, htl, JA.out, ?_, ?_, JBy.out⟩
    ·rw [hal]; exact h8_1
    ·rw [hal]; rfl
 ·have hte : t = L.length := by omega
  subst hte
  refine wp_seq_k fun K21 hK21 => rgn ?_
  refine VbF ?_
  refine WL.nil (hK21 _ _ ?_)
  refine wp_seq_k fun K22 hK22 => ?_
  refine wp_cond_false rfl ?_
  refine wp_exit ?_
  refine hK3 _ _ ?_
  refine wp_seq_k fun K23 hK23 => rgn ?_
  refine VlS (.map (some w.heap.size)) ?_
  refine VlS (.map (some w.heap.size)) ?_
  refine VlS (.int .i64 0) ?_
  refine VlS (.int .i64 0) ?_
  refine WL.nil (hK23 _ _ ?_)
  refine wp_ret ?_
  go_ret3
  refine .inl ⟨w.heap.size, rfl, ?_, Nat.le_refl _, JB.out, JA.out⟩
  have h := JM.out
  rwa [List.take_length] at h
theorem Tryz.in32 (w : World) (vs : Array Value) : (callFunc 32 vs).run Tryz.prog w = .ok (.enter 32 vs) w := by kernel_rfl
def TogPost (L : List EP) (w : World) (e : Ending) (w' : World) : Prop :=
 Below w.heap.size w w' ∧ ((e = .returned (.tuple #[.int .i64 0, .int .i64 0]) ∧ ∀ i, i < L.length → tg1 (exs L) i = 0) ∨
 ∃ i, i < L.length ∧ (∀ j, j < i → tg1 (exs L) j = 0) ∧ tg1 (exs L) i ≠ 0 ∧ e = .returned (.tuple #[.int .i64 (tg1 (exs L) i), .int .i64 (i : Int)]))
theorem ck_ok {N : Nd.NodeV} (h : Nd.chkN N = 0) : 1 ≤ N.ck ∧ N.ck ≤ 4096 ∧ N.ps.length ≤ 64 := by
 unfold Nd.chkN at h
 split at h
 ·rename_i h1; exact absurd h h1
 ·rename_i h1
  have h1 := Decidable.not_not.1 h1
  unfold Nd.headE at h1
  split at h1
  ·cases h1
  ·split at h1
   ·cases h1
   ·rename_i h2
    split at h1
    ·cases h1
    ·rename_i h3
     refine ⟨?_, ?_, ?_⟩
     ·rcases Int.lt_or_le N.ck 1 with h | h
      ·exact absurd (.inl h) h2
      ·exact h
     ·rcases Int.lt_or_le 4096 N.ck with h | h
      ·exact absurd (.inr (.inl h)) h2
      ·exact h
     ·rcases Nat.lt_or_ge 64 N.ps.length with h | h
      ·exact absurd (.inl h) h3
      ·exact h
theorem mem_has {L : List EX} {h : Hs} : h ∈ idsE L ↔ hasB (L.map vxE) h = true := by
 rw [hasB_iff]
 constructor
 ·intro hm
  obtain ⟨x, hx, rfl⟩ := List.mem_map.1 hm
  exact ⟨vxE x, List.mem_map.2 ⟨x, hx, rfl⟩, rfl⟩
 ·rintro ⟨v, hv, rfl⟩
  obtain ⟨x, hx, rfl⟩ := List.mem_map.1 hv
  exact List.mem_map.2 ⟨x, hx, rfl⟩
theorem ck_at {L : List EX} {h : Hs} (hm : ixH (idsE L) h < L.length) : ckOf (L.map vxE) h = L[ixH (idsE L) h].N.ck := by
 unfold ckOf
 have hf : (L.map vxE).find? (isV h) = some (vxE L[ixH (idsE L) h]) := by
  rw [List.find?_eq_some_iff_getElem]
  have hg := ixH_get (l := idsE L) (x := h) (by rw [idsE_len]; exact hm)
  refine ⟨by rw [isV_iff]; simpa [idsE, vxE] using hg, ixH (idsE L) h, by simpa using hm, by simp, fun j hj => ?_⟩
  have := List.not_of_lt_findIdx hj
  simpa [isV, vxE, idsE] using this
 rw [hf]
 rfl
theorem hrow_at {w : World} {a : Option Addr} {n c t : Nat} {L : List Hs} (h : HRow w (.slice a n c) L) (ht : t < L.length) : ∃ b off, a = some ⟨b, off, none⟩ ∧ w.rangeAt b (off + t * 32) (bytesA 32 L[t].f).toList := by
 obtain ⟨b, off, e, _, _, h2⟩ := h.at (by omega)
 refine ⟨b, off, e, fun j v hv => ?_⟩
 have hj : j < 32 := by have := (List.getElem?_eq_some_iff.1 hv).1; rw [Array.length_toList, bytesA_size] at this; exact this
 have := h2 (t * 32 + j) v (by rw [flatH_get L t ht j hj]; exact hv)
 rw [show off + (t * 32 + j) = off + t * 32 + j by omega] at this
 exact this
theorem mxC_snoc (l : List VX) (ps : List Hs) (h : Hs) : mxC l (ps ++ [h]) = max (mxC l ps) (ckOf l h) := by
 unfold mxC
 rw [List.foldl_append, List.foldl_cons, List.foldl_nil]
 split <;> omega
set_option maxRecDepth 8000 in
set_option maxHeartbeats 4000000 in
theorem tog_any (v : Value) (mb : Nat) (L : List EP) (w : World) (hs : ESl w v L) (hi : EIn w L) (hM : IxAt w mb (idsE (exs L))) (hA : ∀ i, i < L.length → al1 (exs L) i = 0) (hL : L.length ≤ 4398046511104) : Calls Tryz.prog 32 #[v, .map (some mb)] w (TogPost L w) := by
 obtain ⟨sa, sc, rfl⟩ := hs.form
 have HV : Keep (∀ v ∈ (exs L).map vxE, 0 ≤ v.ck ∧ v.ck ≤ 4096) := ⟨fun v hv => by
  obtain ⟨y, hy, rfl⟩ := List.mem_map.1 hv
  obtain ⟨i, hi, rfl⟩ := List.mem_iff_getElem.1 hy
  have := ck_ok (al1_ok hi (hA i (by rwa [exs_len] at hi))).2.1
  exact ⟨by show 0 ≤ (exs L)[i].N.ck; omega, this.2.1⟩⟩
 have HS := Keep.mk hs
 have HI := Keep.mk hi
 have HM := Keep.mk hM
 have HA0 := Keep.mk hA
 have HL := Keep.mk hL
 clear hs hi hM hA hL
 go_enter Tryz.func32, Tryz.ntmps32
 refine wp_seq_k fun K1 hK1 => rgn ?_
 refine VlS (.int .i64 0) ?_
 refine VlS (.int .i64 0) ?_
 refine WL.nil (hK1 _ _ ?_)
 refine wp_seq_k fun K2 hK2 => ?_
 refine wp_seq_k fun K3 hK3 => rgn ?_
 refine VlS (.slice sa L.length sc) ?_
 refine VlS (.int .i64 (L.length : Int)) ?_
 refine VlS (.int .i64 0) ?_
 refine WL.nil (hK3 _ _ ?_)
 refine wp_block ?_
 refine wp_loop (fun ac wr => ∃ (t : Nat) (u6 u7 u8 u10 u11 u12 u16 u17 u18 u19 u20 u21 u22 u23 u24 u25 u26 u27 u28 u29 u30 u31 u32 u33 u34 u35 u36 u37 u38 u39 u40 u41 u42 u43 u44 u45 u46 u47 u48 u49 u50 u51 u52 u53 : Value), ac = { tmps := #[.slice sa L.length sc, .map (some mb), undef, undef, .int .i64 0, .int .i64 0, u6, u7, u8, undef, u10, u11, u12, .slice sa L.length sc, .int .i64 (L.length : Int), .int .i64 (t : Int), u16, u17, u18, u19, u20, u21, u22, u23, u24, u25, u26, u27, u28, u29, u30, u31, u32, u33, u34, u35, u36, u37, u38, u39, u40, u41, u42, u43, u44, u45, u46, u47, u48, u49, u50, u51, u52, u53], defers := [] } ∧ t ≤ L.length ∧ Below w.heap.size w wr ∧ ∀ j, j < t → tg1 (exs L) j = 0) (fun a _ => L.length - (intOf (a.tmps.getD 15 undef)).toNat) ⟨0, undef, undef, undef, undef, undef, undef, undef, undef, undef, undef, undef, undef, undef, undef, undef, undef, undef, undef, undef, undef, undef, undef, undef, undef, undef, undef, undef, undef, undef, undef, undef, undef, undef, undef, undef, undef, undef, undef, undef, undef, undef, undef, undef, undef, rfl, by omega, Below.refl _ _, fun j hj => by omega⟩ ?_
 rintro ac wr ⟨t, u6, u7, u8, u10, u11, u12, u16, u17, u18, u19, u20, u21, u22, u23, u24, u25, u26, u27, u28, u29, u30, u31, u32, u33, u34, u35, u36, u37, u38, u39, u40, u41, u42, u43, u44, u45, u46, u47, u48, u49, u50, u51, u52, u53, rfl, ht, hB, hA⟩
 have JB := Keep.mk hB
 have JA := Keep.mk hA
 clear hB hA
 by_cases htl : t < L.length
 ·have htl' : (t : Int) < (L.length : Int) := by omega
  have ht0 : (0 : Int) ≤ (t : Int) := by omega
  have hwt : IntKind.i64.wrap ((t : Int) + 1) = ((t + 1 : Nat) : Int) := by rw [IntKind.wrap_i64]; have := HL.out; omega
  obtain ⟨sb, so, rfl, hrg⟩ := esl_range (HS.out.below JB.out) htl
  obtain ⟨x, hx⟩ : ∃ x, Keep (x = L[t]) := ⟨_, ⟨rfl⟩⟩
  rw [← hx.out] at hrg
  obtain ⟨pa, pc, hpv⟩ := (HI.out x (by rw [hx.out]; exact List.getElem_mem htl)).ps.form
  have Hpv := Keep.mk hpv
  obtain ⟨ee, hee⟩ : ∃ a : Array Value, Keep (a = entA x.1.id.f x.1.N.au x.1.N.ck (.slice pa x.1.N.ps.length pc) x.2.2) := ⟨_, ⟨rfl⟩⟩
  have HR : Keep (wr.rangeAt sb (so + t * 36) ee.toList) := ⟨by rw [hee.out, ← hpv]; exact hrg⟩
  clear hrg
  have HN : Keep (Nd.NdAt w x.1.N (.slice pa x.1.N.ps.length pc) x.2.2) := ⟨by rw [← hpv]; exact HI.out x (by rw [hx.out]; exact List.getElem_mem htl)⟩
  clear hpv
  have hck := ck_ok (N := x.1.N) (by have := (al1_ok (L := exs L) (i := t) (by rw [exs_len]; exact htl) (HA0.out t htl)).2.1; rw [exs_get L t htl, ← hx.out] at this; exact this)
  have Hck := Keep.mk hck
  clear hck
  refine wp_seq_k fun K4 hK4 => rgn ?_
  refine VbT ?_
  refine WL.nil (hK4 _ _ ?_)
  refine wp_seq_k fun K5 hK5 => ?_
  refine wp_cond_true rfl ?_
  refine wp_skip ?_
  refine hK5 _ _ ?_
  refine wp_seq_k fun K6 hK6 => ?_
  refine wp_block ?_
  refine wp_seq_k fun K7 hK7 => rgn ?_
  refine VlS (.int .i64 (t : Int)) ?_
  refine VlS (.pointer (some ⟨sb, so + t * 36, none⟩)) ?_
  refine WL.midA (by kernel_rfl) 52 (.tmp 18) rfl sb (so + t * 36) rfl ee _ HR.out Tryz.underlying52 rfl (by rw [hee.out]; exact sizeE _ _ _ _ _) ?_
  simp only [Act.put, pqA, pqB, pqC]
  refine WL.new (by kernel_rfl) 52 rfl (entA (fun _ => 0) 0 0 (.slice none 0 0) (.slice none 0 0)) Tryz.new52 ?_
  obtain ⟨wb, hwn⟩ : ∃ wx, Keep (wx = wr.alloc (.cells (entA (fun _ => 0) 0 0 (.slice none 0 0) (.slice none 0 0)) 52)) := ⟨_, ⟨rfl⟩⟩
  rw [← hwn.out]
  have HZ : Keep (Blk wb wr.heap.size 52 (entA (fun _ => 0) 0 0 (.slice none 0 0) (.slice none 0 0))) := ⟨by rw [hwn.out]; exact Blk.new _ _ _⟩
  have LB : Keep (Below wr.heap.size wr wb) := ⟨by rw [hwn.out]; exact below_new _ _⟩
  clear hwn
  simp only [Act.put, pqA, pqB, pqC]
  refine VlS (.int .i64 (t : Int)) ?_
  refine WL.storeR (by kernel_rfl) 52 (.tmp 7) (.tmp 19) rfl wr.heap.size ee rfl rfl 52 _ HZ.out (by rw [hee.out]; exact sizeE _ _ _ _ _) (by rw [hee.out, entA_size, entA_size]) (by rw [hee.out]; exact entA_one _ _ _ _ _ rfl (by obtain ⟨a, c, e⟩ := HN.out.ops.form; rw [e]; rfl)) ?_
  have HX := Keep.mk (HZ.out.setRow ee)
  have LX : Keep (Below wr.heap.size wr (wb.setRow wr.heap.size ee)) := ⟨below_setRow LB.out (Nat.le_refl _) _⟩
  generalize wb.setRow wr.heap.size ee = wx at *
  clear HZ LB
  have JBx := Keep.mk (belowC JB.out LX.out)
  have hgl : Keep (w.heap.size ≤ wr.heap.size) := ⟨JB.out.size⟩
  generalize wr.heap.size = g at *
  clear HR LX
  have c34 : wx.cell? ⟨g, 34, none⟩ = some (.slice pa x.1.N.ps.length pc) := HX.out.c 34 (by rw [hee.out]; exact ent_ps _ _ _ _ _)
  simp only [Act.put]
  refine WL.nil (hK7 _ _ ?_)
  refine wp_seq_k fun K8 hK8 => rgn ?_
  refine VlS (.int .i64 0) ?_
  refine WL.nil (hK8 _ _ ?_)
  refine wp_seq_k fun K9 hK9 => ?_
  refine wp_seq_k fun K10 hK10 => rgn ?_
  refine VlS (.pointer (some ⟨g, 32, none⟩)) ?_
  refine VlS (.pointer (some ⟨g, 34, none⟩)) ?_
  refine VlS (.slice pa x.1.N.ps.length pc) ?_
  refine VlS (.int .i64 (x.1.N.ps.length : Int)) ?_
  refine VlS (.int .i64 0) ?_
  refine WL.nil (hK10 _ _ ?_)
  refine wp_block ?_
  refine wp_loop (fun ac ws => ∃ (u : Nat) (y10 y11 y12 y25 y26 y27 y28 y29 y30 y31 y32 y33 y34 y35 y36 y37 y38 y39 y40 y41 y42 y43 y44 y45 : Value), ac = { tmps := #[.slice (some ⟨sb, so, none⟩) L.length sc, .map (some mb), undef, undef, .int .i64 0, .int .i64 0, .int .i64 (t : Int), .pointer (some ⟨g, 0, none⟩), .int .i64 (mxC ((exs L).map vxE) (x.1.N.ps.take u)), undef, y10, y11, y12, .slice (some ⟨sb, so, none⟩) L.length sc, .int .i64 (L.length : Int), .int .i64 (t : Int), .bool true, .int .i64 (t : Int), .pointer (some ⟨sb, so + t * 36, none⟩), .agg ee, .pointer (some ⟨g, 32, none⟩), .pointer (some ⟨g, 34, none⟩), .slice pa x.1.N.ps.length pc, .int .i64 (x.1.N.ps.length : Int), .int .i64 (u : Int), y25, y26, y27, y28, y29, y30, y31, y32, y33, y34, y35, y36, y37, y38, y39, y40, y41, y42, y43, y44, y45, u46, u47, u48, u49, u50, u51, u52, u53], defers := [] } ∧ u ≤ x.1.N.ps.length ∧ Below w.heap.size w ws ∧ Blk ws g 52 ee ∧ ∀ p ∈ x.1.N.ps.take u, p ∈ idsE (exs L)) (fun a _ => x.1.N.ps.length - (intOf (a.tmps.getD 24 undef)).toNat) ⟨0, u10, u11, u12, u25, u26, u27, u28, u29, u30, u31, u32, u33, u34, u35, u36, u37, u38, u39, u40, u41, u42, u43, u44, u45, rfl, by omega, JBx.out, HX.out, fun p hp => by simp at hp⟩ ?_
  rintro ac ws ⟨u, y10, y11, y12, y25, y26, y27, y28, y29, y30, y31, y32, y33, y34, y35, y36, y37, y38, y39, y40, y41, y42, y43, y44, y45, rfl, hu, hB2, hX2, hA2⟩
  have IB := Keep.mk hB2
  have IX := Keep.mk hX2
  have IA := Keep.mk hA2
  clear hB2 hX2 hA2
  obtain ⟨m, hmx, hm0⟩ : ∃ m, Keep (mxC ((exs L).map vxE) (x.1.N.ps.take u) = m) ∧ Keep (0 ≤ m ∧ m ≤ 4096) := ⟨_, ⟨rfl⟩, ⟨mxC_le HV.out _⟩⟩
  have Hm := hm0
  clear hm0
  rw [hmx.out]
  by_cases hul : u < x.1.N.ps.length
  ·have hul' : (u : Int) < (x.1.N.ps.length : Int) := by omega
   have hu0 : (0 : Int) ≤ (u : Int) := by omega
   have hwu : IntKind.i64.wrap ((u : Int) + 1) = ((u + 1 : Nat) : Int) := by rw [IntKind.wrap_i64]; have := Hck.out.2.2; omega
   have hHR : HRow ws (.slice pa x.1.N.ps.length pc) x.1.N.ps := (show HRow w _ _ from HN.out.ps).below IB.out
   obtain ⟨pb, po, rfl, hpr⟩ := hrow_at hHR hul
   obtain ⟨h, hh⟩ : ∃ h : Hs, Keep (h = x.1.N.ps[u]) := ⟨_, ⟨rfl⟩⟩
   rw [← hh.out] at hpr
   have HPr := Keep.mk hpr
   clear hpr hHR
   refine wp_seq_k fun K11 hK11 => rgn ?_
   refine VbT ?_
   refine WL.nil (hK11 _ _ ?_)
   refine wp_seq_k fun K12 hK12 => ?_
   refine wp_cond_true rfl ?_
   refine wp_skip ?_
   refine hK12 _ _ ?_
   refine wp_seq_k fun K13 hK13 => ?_
   refine wp_block ?_
   refine wp_seq_k fun K14 hK14 => rgn ?_
   refine VlS (.pointer (some ⟨pb, po + u * 32, none⟩)) ?_
   refine WL.midA (by kernel_rfl) 36 (.tmp 26) rfl pb (po + u * 32) rfl (bytesA 32 h.f) _ HPr.out Tryz.underlying36 rfl (size36E _) ?_
   simp only [Act.put, pqA, pqB, pqC]
   refine WL.new (by kernel_rfl) 36 rfl (bytesA 32 fun _ => 0) Tryz.new36 ?_
   obtain ⟨wc, hwn⟩ : ∃ wx, Keep (wx = ws.alloc (.cells (bytesA 32 fun _ => 0) 36)) := ⟨_, ⟨rfl⟩⟩
   rw [← hwn.out]
   have HZ2 : Keep (Blk wc ws.heap.size 36 (bytesA 32 fun _ => 0)) := ⟨by rw [hwn.out]; exact Blk.new _ _ _⟩
   have LB2 : Keep (Below ws.heap.size ws wc) := ⟨by rw [hwn.out]; exact below_new _ _⟩
   clear hwn
   simp only [Act.put, pqA, pqB, pqC]
   refine WL.storeR (by kernel_rfl) 36 (.tmp 10) (.tmp 27) rfl ws.heap.size (bytesA 32 h.f) rfl rfl 36 _ HZ2.out (size36E _) (by rw [bytesA_size, bytesA_size]) (bytesA_one _ _) ?_
   have HH := Keep.mk (HZ2.out.setRow (bytesA 32 h.f))
   have LH : Keep (Below ws.heap.size ws (wc.setRow ws.heap.size (bytesA 32 h.f))) := ⟨below_setRow LB2.out (Nat.le_refl _) _⟩
   generalize wc.setRow ws.heap.size (bytesA 32 h.f) = wd at *
   clear HZ2 LB2
   have IBd := Keep.mk (belowC IB.out LH.out)
   have IXd := Keep.mk (IX.out.below LH.out IX.out.lt)
   have IMd := Keep.mk (HM.out.below IBd.out)
   generalize ws.heap.size = g2 at *
   clear LH HPr
   simp only [Act.put]
   refine WL.nil (hK14 _ _ ?_)
   refine wp_seq_k fun K15 hK15 => ?_
   by_cases hm : h ∈ idsE (exs L)
   ·have hlk := (lookI IMd.out h).1
    rw [decide_eq_true (ixH_lt.2 hm)] at hlk
    obtain ⟨ix, hix⟩ : ∃ ix, Keep (ixH (idsE (exs L)) h = ix) := ⟨_, ⟨rfl⟩⟩
    have hixl : ix < L.length := by have := ixH_lt.2 hm; rw [hix.out, idsE_len, exs_len] at this; exact this
    rw [ixV, if_pos (ixH_lt.2 hm), hix.out] at hlk
    have hixl' : (ix : Int) < (L.length : Int) := by omega
    have hix0 : (0 : Int) ≤ (ix : Int) := by omega
    have hcx : ckOf ((exs L).map vxE) h = L[ix].1.N.ck := by
     have hq := hix.out
     subst hq
     rw [ck_at (by rw [exs_len]; exact hixl), exs_get L _ hixl]
    obtain ⟨ck2, hck2⟩ : ∃ c, Keep (L[ix].1.N.ck = c) := ⟨_, ⟨rfl⟩⟩
    obtain ⟨sb2, so2, heq, hr2⟩ := esl_range (HS.out.below IBd.out) hixl
    injection heq with heq
    injection heq with e1 e2
    subst e1 e2
    have c33 : wd.cell? ⟨sb, so + ix * 36 + 33, none⟩ = some (.int .i64 ck2) := by rw [← hck2.out]; exact hr2 33 _ (by rw [encE, Array.getElem?_toList]; exact ent_ck _ _ _ _ _)
    clear hr2
    have hb2 := ck_ok (N := L[ix].1.N) (by have := (al1_ok (L := exs L) (i := ix) (by rw [exs_len]; exact hixl) (HA0.out ix hixl)).2.1; rw [exs_get L ix hixl] at this; exact this)
    rw [hck2.out] at hb2 hcx
    have Hb2 := Keep.mk hb2
    clear hb2
    refine rgn ?_
    refine VlS (.map (some mb)) ?_
    refine WL.row (by kernel_rfl) 36 (.tmp 10) rfl g2 rfl 36 (bytesA 32 h.f) _ HH.out Tryz.underlying36 rfl (size36E _) ?_
    simp only [Act.put, pqA, pqB, pqC]
    refine WL.lookI (by kernel_rfl) (.tmp 29) (.tmp 30) true rfl _ _ _ rfl rfl hlk ?_
    simp only [Act.put, pqA, pqB, pqC]
    refine VlS (.tuple #[.int .i64 (ix : Int), .bool true]) ?_
    refine VlS (.int .i64 (ix : Int)) ?_
    refine VbT ?_
    refine VlS (.int .i64 (ix : Int)) ?_
    refine VbT ?_
    refine WL.nil (hK15 _ _ ?_)
    refine wp_seq_k fun K16 hK16 => ?_
    refine wp_seq_k fun K17 hK17 => rgn ?_
    refine VbT ?_
    refine VbF ?_
    refine WL.nil (hK17 _ _ ?_)
    refine wp_cond_false rfl ?_
    refine wp_skip ?_
    refine hK16 _ _ ?_
    refine rgn ?_
    refine VlS (.int .i64 m) ?_
    refine VlS (.slice (some ⟨sb, so, none⟩) L.length sc) ?_
    refine VlS (.int .i64 (ix : Int)) ?_
    refine VlS (.pointer (some ⟨sb, so + ix * 36, none⟩)) ?_
    refine VlS (.pointer (some ⟨sb, so + ix * 36 + 32, none⟩)) ?_
    refine VlS (.pointer (some ⟨sb, so + ix * 36 + 32 + 1, none⟩)) ?_
    refine VlS (.int .i64 ck2) ?_
    refine VlS (.int .i64 (max m ck2)) ?_
    refine VlS (.int .i64 (max m ck2)) ?_
    refine WL.nil (hK13 _ _ ?_)
    refine rgn ?_
    refine VlS (.int .i64 ((u + 1 : Nat) : Int)) ?_
    refine VlS (.int .i64 ((u + 1 : Nat) : Int)) ?_
    refine WL.nil ?_
    refine ⟨⟨u + 1, .pointer (some ⟨g2, 0, none⟩), .int .i64 (ix : Int), .bool true, .bool true, .pointer (some ⟨pb, po + u * 32, none⟩), .agg (bytesA 32 h.f), .tuple #[.int .i64 (ix : Int), .bool true], .map (some mb), .agg (bytesA 32 h.f), .tuple #[.int .i64 (ix : Int), .bool true], .int .i64 (ix : Int), .bool true, .bool true, .bool false, y36, .int .i64 m, .slice (some ⟨sb, so, none⟩) L.length sc, .int .i64 (ix : Int), .pointer (some ⟨sb, so + ix * 36, none⟩), .pointer (some ⟨sb, so + ix * 36 + 32, none⟩), .pointer (some ⟨sb, so + ix * 36 + 32 + 1, none⟩), .int .i64 ck2, .int .i64 (max m ck2), .int .i64 ((u + 1 : Nat) : Int), ?_, by omega, IBd.out, IXd.out, fun p hp => ?_⟩, by simp [intOf]; omega⟩
    ·rw [List.take_succ_eq_append_getElem hul, mxC_snoc, ← hh.out, hcx, hmx.out]
    ·rw [List.take_succ_eq_append_getElem hul, List.mem_append, List.mem_singleton] at hp
     rcases hp with hp | rfl
     ·exact IA.out p hp
     ·rw [← hh.out]; exact hm
   ·have hlk := (lookI IMd.out h).1
    rw [decide_eq_false (fun h' => hm (ixH_lt.1 h'))] at hlk
    generalize ixV (idsE (exs L)) h = ix at hlk
    refine rgn ?_
    refine VlS (.map (some mb)) ?_
    refine WL.row (by kernel_rfl) 36 (.tmp 10) rfl g2 rfl 36 (bytesA 32 h.f) _ HH.out Tryz.underlying36 rfl (size36E _) ?_
    simp only [Act.put, pqA, pqB, pqC]
    refine WL.lookI (by kernel_rfl) (.tmp 29) (.tmp 30) true rfl _ _ _ rfl rfl hlk ?_
    simp only [Act.put, pqA, pqB, pqC]
    refine VlS (.tuple #[.int .i64 (ix : Int), .bool false]) ?_
    refine VlS (.int .i64 (ix : Int)) ?_
    refine VbF ?_
    refine VlS (.int .i64 (ix : Int)) ?_
    refine VbF ?_
    refine WL.nil (hK15 _ _ ?_)
    refine wp_seq_k fun K18 hK18 => ?_
    refine wp_seq_k fun K19 hK19 => rgn ?_
    refine VbF ?_
    refine VbT ?_
    refine WL.nil (hK19 _ _ ?_)
    refine wp_cond_true rfl ?_
    refine wp_seq_k fun K20 hK20 => rgn ?_
    refine VlS (.int .i64 (t : Int)) ?_
    refine VlS (.int .i64 6) ?_
    refine VlS (.int .i64 (t : Int)) ?_
    refine WL.nil (hK20 _ _ ?_)
    refine wp_ret ?_
    go_ret2
    have hall : x.1.N.ps.all (hasB ((exs L).map vxE)) = false := by
     rcases Bool.eq_false_or_eq_true (x.1.N.ps.all (hasB ((exs L).map vxE))) with h' | h'
     ·exact absurd (mem_has.2 (all_iff.1 h' h (by rw [hh.out]; exact List.getElem_mem hul))) hm
     ·exact h'
    have htg : tg1 (exs L) t = 6 := by
     unfold tg1
     rw [exs_get? L t htl, ← hx.out]
     simp only
     rw [if_pos hall]
    refine ⟨IBd.out, .inr ⟨t, htl, JA.out, ?_, ?_⟩⟩
    ·rw [htg]; decide
    ·rw [htg]; rfl
  ·have hue : u = x.1.N.ps.length := by omega
   subst hue
   rw [List.take_length] at hmx IA
   have hm1 : IntKind.i64.wrap (m + 1) = m + 1 := by rw [IntKind.wrap_i64]; have := Hm.out; omega
   obtain ⟨ck1, hck1⟩ : ∃ c, Keep (x.1.N.ck = c) := ⟨_, ⟨rfl⟩⟩
   have c33 : ws.cell? ⟨g, 33, none⟩ = some (.int .i64 ck1) := by rw [← hck1.out]; exact IX.out.c 33 (by rw [hee.out]; exact ent_ck _ _ _ _ _)
   refine wp_seq_k fun K21 hK21 => rgn ?_
   refine VbF ?_
   refine WL.nil (hK21 _ _ ?_)
   refine wp_seq_k fun K22 hK22 => ?_
   refine wp_cond_false rfl ?_
   refine wp_exit ?_
   refine hK9 _ _ ?_
   refine wp_seq_k fun K23 hK23 => rgn ?_
   refine VlS (.pointer (some ⟨g, 32, none⟩)) ?_
   refine VlS (.pointer (some ⟨g, 33, none⟩)) ?_
   refine VlS (.int .i64 ck1) ?_
   refine VlS (.int .i64 m) ?_
   refine VlS (.int .i64 (m + 1)) ?_
   by_cases h13_5 : ck1 = m + 1
   ·skip
    refine VbF ?_
    refine WL.nil (hK23 _ _ ?_)
    refine wp_cond_false rfl ?_
    refine wp_skip ?_
    refine hK6 _ _ ?_
    refine rgn ?_
    refine VlS (.int .i64 ((t + 1 : Nat) : Int)) ?_
    refine VlS (.int .i64 ((t + 1 : Nat) : Int)) ?_
    refine WL.nil ?_
    have hall : x.1.N.ps.all (hasB ((exs L).map vxE)) = true := all_iff.2 fun p hp => mem_has.1 (IA.out p hp)
    have htg : tg1 (exs L) t = 0 := by
     unfold tg1
     rw [exs_get? L t htl, ← hx.out]
     simp only
     rw [if_neg (by rw [hall]; decide), hmx.out, hck1.out, if_neg (fun h => h h13_5)]
    refine ⟨⟨t + 1, .int .i64 (t : Int), .pointer (some ⟨g, 0, none⟩), .int .i64 m, y10, y11, y12, .bool true, .int .i64 (t : Int), .pointer (some ⟨sb, so + t * 36, none⟩), .agg ee, .pointer (some ⟨g, 32, none⟩), .pointer (some ⟨g, 34, none⟩), .slice pa x.1.N.ps.length pc, .int .i64 (x.1.N.ps.length : Int), .int .i64 (x.1.N.ps.length : Int), .bool false, y26, y27, y28, y29, y30, y31, y32, y33, y34, y35, y36, y37, y38, y39, y40, y41, y42, y43, y44, y45, .pointer (some ⟨g, 32, none⟩), .pointer (some ⟨g, 33, none⟩), .int .i64 ck1, .int .i64 m, .int .i64 (m + 1), .bool false, u52, .int .i64 ((t + 1 : Nat) : Int), rfl, by omega, IB.out, fun j hj => ?_⟩, by simp [intOf]; omega⟩
    rcases Nat.lt_or_eq_of_le (Nat.le_of_lt_succ hj) with h | rfl
    ·exact JA.out j h
    ·exact htg
   ·skip
    refine VbT ?_
    refine WL.nil (hK23 _ _ ?_)
    refine wp_cond_true rfl ?_
    refine wp_seq_k fun K24 hK24 => rgn ?_
    refine VlS (.int .i64 (t : Int)) ?_
    refine VlS (.int .i64 51) ?_
    refine VlS (.int .i64 (t : Int)) ?_
    refine WL.nil (hK24 _ _ ?_)
    refine wp_ret ?_
    go_ret2
    have hall : x.1.N.ps.all (hasB ((exs L).map vxE)) = true := all_iff.2 fun p hp => mem_has.1 (IA.out p hp)
    have htg : tg1 (exs L) t = 51 := by
     unfold tg1
     rw [exs_get? L t htl, ← hx.out]
     simp only
     rw [if_neg (by rw [hall]; decide), hmx.out, hck1.out, if_pos h13_5]
    refine ⟨IB.out, .inr ⟨t, htl, JA.out, ?_, ?_⟩⟩
    ·rw [htg]; decide
    ·rw [htg]; rfl
 ·have hte : t = L.length := by omega
  subst hte
  refine wp_seq_k fun K25 hK25 => rgn ?_
  refine VbF ?_
  refine WL.nil (hK25 _ _ ?_)
  refine wp_seq_k fun K26 hK26 => ?_
  refine wp_cond_false rfl ?_
  refine wp_exit ?_
  refine hK2 _ _ ?_
  refine wp_seq_k fun K27 hK27 => rgn ?_
  refine VlS (.int .i64 0) ?_
  refine VlS (.int .i64 0) ?_
  refine WL.nil (hK27 _ _ ?_)
  refine wp_ret ?_
  go_ret2
  exact ⟨JB.out, .inl ⟨rfl, JA.out⟩⟩
end Go.Proofs.YthlohkgdmfkpeaaGreat
namespace Go.Proofs.YthlohkgdmfkpeaaGreat
open Go.RowKit Go.Sort
set_option linter.unusedSimpArgs false
set_option linter.unusedVariables false

theorem Tryz.in95 (w : World) (vs : Array Value) : (callFunc 95 vs).run Tryz.prog w = .ok (.enter 95 vs) w := by kernel_rfl
theorem Tryz.in77 (w : World) (vs : Array Value) : (callFunc 77 vs).run Tryz.prog w = .ok (.enter 77 vs) w := by kernel_rfl
theorem Tryz.in76 (w : World) (vs : Array Value) : (callFunc 76 vs).run Tryz.prog w = .ok (.enter 76 vs) w := by kernel_rfl
set_option maxRecDepth 8000 in
theorem isNaN_any (x : Int) (w : World) : Calls Tryz.prog 95 #[.int .i64 x] w fun e w' => e = .returned (.bool false) ∧ w' = w := by
 go_enter Tryz.func95, Tryz.ntmps95
 refine wp_seq_k fun K1 hK1 => rgn ?_
 refine VbF ?_
 refine WL.nil (hK1 _ _ ?_)
 refine wp_seq_k fun K2 hK2 => rgn ?_
 refine VlS (.int .i64 x) ?_
 refine VlS (.int .i64 x) ?_
 refine VbF ?_
 refine VbF ?_
 refine WL.nil (hK2 _ _ ?_)
 refine wp_ret ?_
 go_ret
 exact ⟨rfl, rfl⟩
def cmpI (x y : Int) : Int := if x < y then -1 else if y < x then 1 else 0
set_option maxRecDepth 8000 in
theorem compareI_any (x y : Int) (w : World) : Calls Tryz.prog 77 #[.int .i64 x, .int .i64 y] w fun e w' => e = .returned (.int .i64 (cmpI x y)) ∧ w' = w := by
 go_enter Tryz.func77, Tryz.ntmps77
 refine wp_seq_k fun K1 hK1 => rgn ?_
 refine VlS (.int .i64 0) ?_
 refine WL.nil (hK1 _ _ ?_)
 refine wp_seq_k fun K2 hK2 => rgn ?_
 refine VlS (.int .i64 x) ?_
 refine WL.callF (by kernel_rfl) 95 _ _ rfl Tryz.in95 #[.int .i64 x] (by simp [Act.eval]) ?_
 refine (isNaN_any x w).mono ?_
 rintro e w1 ⟨rfl, rfl⟩
 refine ⟨_, rfl, ?_⟩
 simp only [Act.put, pqA, pqB, pqC]
 refine VbF ?_
 refine WL.nil (hK2 _ _ ?_)
 refine wp_seq_k fun K3 hK3 => rgn ?_
 refine VlS (.int .i64 y) ?_
 refine WL.callF (by kernel_rfl) 95 _ _ rfl Tryz.in95 #[.int .i64 y] (by simp [Act.eval]) ?_
 refine (isNaN_any y w1).mono ?_
 rintro e w2 ⟨rfl, rfl⟩
 refine ⟨_, rfl, ?_⟩
 simp only [Act.put, pqA, pqB, pqC]
 refine VbF ?_
 refine WL.nil (hK3 _ _ ?_)
 refine wp_seq_k fun K4 hK4 => ?_
 refine wp_seq_k fun K5 hK5 => rgn ?_
 refine VbF ?_
 refine WL.nil (hK5 _ _ ?_)
 refine wp_cond_false rfl ?_
 refine wp_skip ?_
 refine hK4 _ _ ?_
 refine wp_seq_k fun K6 hK6 => ?_
 refine wp_seq_k fun K7 hK7 => rgn ?_
 refine VbF ?_
 refine WL.nil (hK7 _ _ ?_)
 refine wp_cond_false rfl ?_
 refine wp_skip ?_
 refine hK6 _ _ ?_
 refine wp_seq_k fun K8 hK8 => ?_
 refine wp_seq_k fun K9 hK9 => rgn ?_
 refine VlS (.int .i64 x) ?_
 refine VlS (.int .i64 y) ?_
 by_cases h9_2 : x < y
 ·skip
  refine VbT ?_
  refine WL.nil (hK9 _ _ ?_)
  refine wp_cond_true rfl ?_
  refine wp_seq_k fun K10 hK10 => rgn ?_
  refine VlS (.int .i64 (-1)) ?_
  refine WL.nil (hK10 _ _ ?_)
  refine wp_ret ?_
  go_ret
  exact ⟨by rw [cmpI, if_pos h9_2]; rfl, rfl⟩
 ·skip
  refine VbF ?_
  refine WL.nil (hK9 _ _ ?_)
  refine wp_cond_false rfl ?_
  refine wp_skip ?_
  refine hK8 _ _ ?_
  refine wp_seq_k fun K11 hK11 => ?_
  refine wp_seq_k fun K12 hK12 => rgn ?_
  refine VlS (.int .i64 x) ?_
  refine VlS (.int .i64 y) ?_
  by_cases h11_2 : y < x
  ·skip
   refine VbT ?_
   refine WL.nil (hK12 _ _ ?_)
   refine wp_cond_true rfl ?_
   refine wp_seq_k fun K13 hK13 => rgn ?_
   refine VlS (.int .i64 1) ?_
   refine WL.nil (hK13 _ _ ?_)
   refine wp_ret ?_
   go_ret
   exact ⟨by rw [cmpI, if_neg h9_2, if_pos h11_2]; rfl, rfl⟩
  ·skip
   refine VbF ?_
   refine WL.nil (hK12 _ _ ?_)
   refine wp_cond_false rfl ?_
   refine wp_skip ?_
   refine hK11 _ _ ?_
   refine wp_seq_k fun K14 hK14 => rgn ?_
   refine VlS (.int .i64 0) ?_
   refine WL.nil (hK14 _ _ ?_)
   refine wp_ret ?_
   go_ret
   exact ⟨by rw [cmpI, if_neg h9_2, if_neg h11_2]; rfl, rfl⟩
abbrev CR := Hs × Int × Int × (Option Addr × Nat × Nat) × (Option Addr × Nat × Nat)
def CR.ck (r : CR) : Int := r.2.2.1
def encC (r : CR) : List Value := (entA r.1.f r.2.1 r.2.2.1 (.slice r.2.2.2.1.1 r.2.2.2.1.2.1 r.2.2.2.1.2.2) (.slice r.2.2.2.2.1 r.2.2.2.2.2.1 r.2.2.2.2.2.2)).toList
theorem encC_len (r : CR) : (encC r).length = 36 := by rw [encC, Array.length_toList, entA_size]
theorem encC_arr (r : CR) : (encC r).toArray = entA r.1.f r.2.1 r.2.2.1 (.slice r.2.2.2.1.1 r.2.2.2.1.2.1 r.2.2.2.1.2.2) (.slice r.2.2.2.2.1 r.2.2.2.2.2.1 r.2.2.2.2.2.2) := by rw [encC, Array.toArray_toList]
theorem encC_one (r : CR) : ∀ v ∈ encC r, v.oneCell' = true := fun v hv => by
 have h := entA_one r.1.f r.2.1 r.2.2.1 (.slice r.2.2.2.1.1 r.2.2.2.1.2.1 r.2.2.2.1.2.2) (.slice r.2.2.2.2.1 r.2.2.2.2.2.1 r.2.2.2.2.2.2) rfl rfl
 rw [← Array.all_toList, List.all_eq_true] at h
 exact h v hv
def cfC (r s : CR) : Int := cmpI r.ck s.ck
set_option maxRecDepth 8000 in
set_option maxHeartbeats 1000000 in
theorem order1_any (x y : CR) (w : World) : Calls Tryz.prog 76 #[.agg (encC x).toArray, .agg (encC y).toArray] w fun e w' => e = .returned (.int .i64 (cfC x y)) ∧ ∃ q os, w' = grow (w.drewN q) os := by
 obtain ⟨ca, hca⟩ : ∃ a : Array Value, Keep (a = (encC x).toArray) := ⟨_, ⟨rfl⟩⟩
 obtain ⟨cb, hcb⟩ : ∃ a : Array Value, Keep (a = (encC y).toArray) := ⟨_, ⟨rfl⟩⟩
 rw [← hca.out, ← hcb.out]
 go_enter Tryz.func76, Tryz.ntmps76
 refine wp_seq_k fun K1 hK1 => rgn ?_
 refine WL.box (by kernel_rfl) 52 (.tmp 0) rfl (ca) rfl ?_
 obtain ⟨w1, hwn⟩ : ∃ wx, Keep (wx = w.alloc (.cells (ca) 52)) := ⟨_, ⟨rfl⟩⟩
 rw [← hwn.out]
 have HX1 : Keep (Blk w1 w.heap.size 52 (ca)) := ⟨by rw [hwn.out]; exact Blk.new _ _ _⟩
 have LB1 : Keep (Below w.heap.size w w1) := ⟨by rw [hwn.out]; exact below_new _ _⟩
 have e1 := hwn
 clear hwn
 simp only [Act.put, pqA, pqB, pqC]
 refine WL.box (by kernel_rfl) 52 (.tmp 1) rfl (cb) rfl ?_
 obtain ⟨w2, hwn⟩ : ∃ wx, Keep (wx = w1.alloc (.cells (cb) 52)) := ⟨_, ⟨rfl⟩⟩
 rw [← hwn.out]
 have HX2 : Keep (Blk w2 w1.heap.size 52 (cb)) := ⟨by rw [hwn.out]; exact Blk.new _ _ _⟩
 have LB2 : Keep (Below w1.heap.size w1 w2) := ⟨by rw [hwn.out]; exact below_new _ _⟩
 have e2 := hwn
 clear hwn
 have HX1' := Keep.mk (HX1.out.below LB2.out HX1.out.lt)
 have c1 : w2.cell? ⟨w.heap.size, 33, none⟩ = some (.int .i64 x.ck) := HX1'.out.c 33 (by rw [hca.out, encC_arr]; exact ent_ck _ _ _ _ _)
 have c2 : w2.cell? ⟨w1.heap.size, 33, none⟩ = some (.int .i64 y.ck) := HX2.out.c 33 (by rw [hcb.out, encC_arr]; exact ent_ck _ _ _ _ _)
 simp only [Act.put, pqA, pqB, pqC]
 refine VlS (.int .i64 0) ?_
 refine WL.nil (hK1 _ _ ?_)
 refine wp_seq_k fun K2 hK2 => rgn ?_
 refine VlS (.pointer (some ⟨w.heap.size, 32, none⟩)) ?_
 refine VlS (.pointer (some ⟨w.heap.size, 33, none⟩)) ?_
 refine VlS (.int .i64 x.ck) ?_
 refine VlS (.pointer (some ⟨w1.heap.size, 32, none⟩)) ?_
 refine VlS (.pointer (some ⟨w1.heap.size, 33, none⟩)) ?_
 refine VlS (.int .i64 y.ck) ?_
 refine WL.callF (by kernel_rfl) 77 _ _ rfl Tryz.in77 #[.int .i64 x.ck, .int .i64 y.ck] (by simp [Act.eval]) ?_
 refine (compareI_any x.ck y.ck w2).mono ?_
 rintro e w3 ⟨rfl, rfl⟩
 refine ⟨_, rfl, ?_⟩
 simp only [Act.put, pqA, pqB, pqC]
 refine VlS (.int .i64 (cmpI x.ck y.ck)) ?_
 refine WL.nil (hK2 _ _ ?_)
 refine wp_ret ?_
 go_ret
 refine ⟨rfl, 0, #[.cells ca 52, .cells cb 52], ?_⟩
 rw [e2.out, e1.out, alloc_eq_grow, alloc_eq_grow, grow_grow, World.drewN_zero]
 rfl
end Go.Proofs.YthlohkgdmfkpeaaGreat
namespace Go.Proofs.YthlohkgdmfkpeaaGreat
open Go.RowKit
set_option linter.unusedSimpArgs false
set_option linter.unusedVariables false

theorem Tryz.in80 (w : World) (vs : Array Value) : (callFunc 80 vs).run Tryz.prog w = .ok (.enter 80 vs) w := by kernel_rfl
theorem sizeV (c : Nat → Int) (k : Int) (p : Value) : (Tryz.prog.info? 139).map (·.size) = some (vtx c k p).size := by rw [vtx_size]; exact Tryz.size139
theorem made_size (n : Nat) : (madeCells (bytesA 32 fun _ => 0) (n * 32)).size = n * 32 := by rw [size_madeCells]
theorem Fresh.ofBlk {w w' : World} {g : Nat} {L : List Hs} (hg : w.heap.size ≤ g) (h : Blk w' g 36 (flatH L).toArray) (hL : L.length ≤ 1000000) (hb : Below w.heap.size w w') : Fresh w w' (.slice (some ⟨g, 0, none⟩) L.length L.length) L where
 own := ⟨by rw [flatH_len], .inr ⟨g, L.length, (flatH L).toArray, rfl, Nat.zero_le _, h, Nat.le_refl _, by unfold maxLen; omega, by simp [flatH_len], by rw [List.take_of_length_le (by simp [flatH_len])]⟩⟩
 new := fun k hk => by cases hk; exact hg
 bel := hb
set_option maxRecDepth 8000 in
set_option maxHeartbeats 1000000 in
theorem vertex_any (x : EX) (p q : Value) (w : World) (hP : HRow w p x.N.ps) (hlp : x.N.ps.length ≤ 1000000) : Calls Tryz.prog 80 #[.agg (entA x.id.f x.N.au x.N.ck p q)] w fun e w' => ∃ p', e = .returned (.agg (vtx x.id.f x.N.ck p')) ∧ Fresh w w' p' x.N.ps := by
 obtain ⟨pa, pc, rfl⟩ := hP.form
 have HP := Keep.mk hP
 have HLP := Keep.mk hlp
 clear hP hlp
 obtain ⟨ee, hee⟩ : ∃ a : Array Value, Keep (a = entA x.id.f x.N.au x.N.ck (.slice pa x.N.ps.length pc) q) := ⟨_, ⟨rfl⟩⟩
 rw [← hee.out]
 go_enter Tryz.func80, Tryz.ntmps80
 refine wp_seq_k fun K1 hK1 => rgn ?_
 refine WL.box (by kernel_rfl) 52 (.tmp 0) rfl (ee) rfl ?_
 obtain ⟨w1, hwn⟩ : ∃ wx, Keep (wx = w.alloc (.cells (ee) 52)) := ⟨_, ⟨rfl⟩⟩
 rw [← hwn.out]
 have HX1 : Keep (Blk w1 w.heap.size 52 (ee)) := ⟨by rw [hwn.out]; exact Blk.new _ _ _⟩
 have LB1 : Keep (Below w.heap.size w w1) := ⟨by rw [hwn.out]; exact below_new _ _⟩
 clear hwn
 simp only [Act.put, pqA, pqB, pqC]
 refine WL.new (by kernel_rfl) 139 rfl (vtx (fun _ => 0) 0 (.slice none 0 0)) Tryz.new139 ?_
 obtain ⟨w2, hwn⟩ : ∃ wx, Keep (wx = w1.alloc (.cells (vtx (fun _ => 0) 0 (.slice none 0 0)) 139)) := ⟨_, ⟨rfl⟩⟩
 rw [← hwn.out]
 have HZ2 : Keep (Blk w2 w1.heap.size 139 (vtx (fun _ => 0) 0 (.slice none 0 0))) := ⟨by rw [hwn.out]; exact Blk.new _ _ _⟩
 have B2 : Keep (Below w1.heap.size w1 w2) := ⟨by rw [hwn.out]; exact below_new _ _⟩
 clear hwn
 obtain ⟨vz, hvz⟩ : ∃ a : Array Value, Keep (a = vtx (fun _ => 0) 0 (.slice none 0 0)) := ⟨_, ⟨rfl⟩⟩
 rw [← hvz.out] at HZ2
 have HX2 := Keep.mk (HX1.out.below B2.out HX1.out.lt)
 have LB2 := Keep.mk (belowT LB1.out B2.out)
 have hne : Keep (w.heap.size < w1.heap.size) := ⟨HX1.out.lt⟩
 have hl2 : Keep (w1.heap.size < w2.heap.size) := ⟨HZ2.out.lt⟩
 generalize w1.heap.size = b2 at *
 clear HX1 B2
 have c34 : w2.cell? ⟨w.heap.size, 34, none⟩ = some (.slice pa x.N.ps.length pc) := HX2.out.c 34 (by rw [hee.out]; exact ent_ps _ _ _ _ _)
 simp only [Act.put, pqA, pqB, pqC]
 refine WL.nil (hK1 _ _ ?_)
 refine wp_seq_k fun K2 hK2 => rgn ?_
 refine VlS (.pointer (some ⟨w.heap.size, 32, none⟩)) ?_
 refine VlS (.pointer (some ⟨w.heap.size, 34, none⟩)) ?_
 refine VlS (.slice pa x.N.ps.length pc) ?_
 refine VlS (.int .i64 (x.N.ps.length : Int)) ?_
 refine ⟨wpList_makeH rfl (.tmp 7) (.tmp 7) rfl x.N.ps.length (by have := HLP.out; omega) rfl rfl (WL.out ?_)⟩
 clear c34
 obtain ⟨w3, hw3⟩ : ∃ wx, Keep (wx = w2.alloc (.cells (madeCells (bytesA 32 fun _ => 0) (x.N.ps.length * 32)) 36)) := ⟨_, ⟨rfl⟩⟩
 rw [← hw3.out]
 have HM3 : Keep (Blk w3 w2.heap.size 36 (madeCells (bytesA 32 fun _ => 0) (x.N.ps.length * 32))) := ⟨by rw [hw3.out]; exact Blk.new _ _ _⟩
 have B3 : Keep (Below w2.heap.size w2 w3) := ⟨by rw [hw3.out]; exact below_new _ _⟩
 clear hw3
 have HX3 := Keep.mk (HX2.out.below B3.out HX2.out.lt)
 have HZ3 := Keep.mk (HZ2.out.below B3.out HZ2.out.lt)
 have LB3 := Keep.mk (belowT LB2.out B3.out)
 clear HX2 HZ2
 have c34 : w3.cell? ⟨w.heap.size, 34, none⟩ = some (.slice pa x.N.ps.length pc) := HX3.out.c 34 (by rw [hee.out]; exact ent_ps _ _ _ _ _)
 simp only [Act.put, pqA, pqB, pqC]
 refine VlS (.slice (some ⟨w2.heap.size, 0, none⟩) x.N.ps.length x.N.ps.length) ?_
 refine WL.nil (hK2 _ _ ?_)
 refine wp_seq_k fun K3 hK3 => rgn ?_
 refine VlS (.slice (some ⟨w2.heap.size, 0, none⟩) x.N.ps.length x.N.ps.length) ?_
 refine VlS (.pointer (some ⟨w.heap.size, 32, none⟩)) ?_
 refine VlS (.pointer (some ⟨w.heap.size, 34, none⟩)) ?_
 refine VlS (.slice pa x.N.ps.length pc) ?_
 refine ⟨wpList_copyH rfl (.tmp 9) (.tmp 12) rfl w2.heap.size x.N.ps.length _ x.N.ps _ rfl rfl HM3.out (made_size _) (HP.out.below LB3.out) (WL.out ?_)⟩
 clear c34
 obtain ⟨w4, hw4⟩ : ∃ wx, Keep (wx = w3.setRow w2.heap.size (flatH x.N.ps).toArray) := ⟨_, ⟨rfl⟩⟩
 rw [← hw4.out]
 have HM4 : Keep (Blk w4 w2.heap.size 36 (flatH x.N.ps).toArray) := ⟨by rw [hw4.out]; exact HM3.out.setRow _⟩
 have G4 : Keep (Grown w3 w4 fun k => k = w2.heap.size) := ⟨by rw [hw4.out]; exact Grown.setRow _ _ _ fun _ => rfl⟩
 clear hw4
 have HX4 := Keep.mk (G4.out.blk HX3.out (by have := hne.out; have := hl2.out; omega))
 have HZ4 := Keep.mk (G4.out.blk HZ3.out (by have := hl2.out; omega))
 clear HX3 HZ3 HM3
 have c33 : w4.cell? ⟨w.heap.size, 33, none⟩ = some (.int .i64 x.N.ck) := HX4.out.c 33 (by rw [hee.out]; exact ent_ck _ _ _ _ _)
 simp only [Act.put, pqA, pqB, pqC]
 refine WL.nil (hK3 _ _ ?_)
 refine wp_seq_k fun K4 hK4 => rgn ?_
 refine VlS (.pointer (some ⟨w.heap.size, 0, none⟩)) ?_
 refine WL.midA (by kernel_rfl) 36 (.tmp 14) rfl w.heap.size 0 rfl (bytesA 32 x.id.f) _ (by have h := blk_range HX4.out; rw [hee.out] at h; exact ent_range_id h) Tryz.underlying36 rfl (size36E _) ?_
 simp only [Act.put, pqA, pqB, pqC]
 refine VlS (.pointer (some ⟨w.heap.size, 32, none⟩)) ?_
 refine VlS (.pointer (some ⟨w.heap.size, 33, none⟩)) ?_
 refine VlS (.int .i64 x.N.ck) ?_
 refine VlS (.slice (some ⟨w2.heap.size, 0, none⟩) x.N.ps.length x.N.ps.length) ?_
 refine WL.bld (by kernel_rfl) 139 _ rfl [(0, .agg (bytesA 32 x.id.f)), (1, .int .i64 x.N.ck), (2, .slice (some ⟨w2.heap.size, 0, none⟩) x.N.ps.length x.N.ps.length)] (by simp [Act.eval]) (vtx x.id.f x.N.ck (.slice (some ⟨w2.heap.size, 0, none⟩) x.N.ps.length x.N.ps.length)) (by kernel_rfl) ?_
 obtain ⟨vq, hvq⟩ : ∃ a : Array Value, Keep (a = vtx x.id.f x.N.ck (.slice (some ⟨w2.heap.size, 0, none⟩) x.N.ps.length x.N.ps.length)) := ⟨_, ⟨rfl⟩⟩
 rw [← hvq.out]
 simp only [Act.put, pqA, pqB, pqC]
 refine WL.storeR (by kernel_rfl) 139 (.tmp 2) (.tmp 20) rfl b2 vq rfl rfl 139 vz HZ4.out (by rw [hvq.out]; exact sizeV _ _ _) (by rw [hvq.out, hvz.out, vtx_size, vtx_size]) (by rw [hvq.out]; exact vtx_one _ _ _ (slice_one _ _ _)) ?_
 have HZ5 := Keep.mk (HZ4.out.setRow vq)
 have G5 : Keep (Grown w4 (w4.setRow b2 vq) fun k => k = b2) := ⟨Grown.setRow w4 b2 _ fun _ => rfl⟩
 generalize w4.setRow b2 vq = w5 at *
 clear HZ4
 simp only [Act.put]
 refine WL.nil (hK4 _ _ ?_)
 refine wp_ret ?_
 refine bodyPost_ret (v := .agg vq) (results_cell_row Tryz.results80 _ _ b2 139 _ (0, 0) _ rfl HZ5.out Tryz.underlying139 rfl (by rw [hvq.out]; exact sizeV _ _ _)) rfl ?_
 refine ⟨_, by rw [hvq.out], Fresh.ofBlk LB2.out.size (G5.out.blk HM4.out (by have := hl2.out; omega)) HLP.out ?_⟩
 have g3 : Grown w3 w5 (fun k => k = w2.heap.size ∨ k = b2) := (G4.out.mono fun k _ e => .inl e).trans (G5.out.mono fun k _ e => .inr e)
 exact LB3.out.trans (g3.to_below (fun k hk e => by have := hne.out; have := hl2.out; omega) LB3.out.size)
end Go.Proofs.YthlohkgdmfkpeaaGreat
namespace Go.Proofs.YthlohkgdmfkpeaaGreat
open Go.RowKit Go.Sort

def SortPost (L : List Hs) (w : World) (e : Ending) (w' : World) : Prop :=
 ∃ v' L', e = .returned v' ∧ w'.ownsRow w.heap.size 36 32 v' L'.length (flatH L') ∧ L'.Pairwise Lt ∧ (∀ x, x ∈ L' ↔ x ∈ L) ∧ L'.length ≤ L.length ∧ Below w.heap.size w w'





end Go.Proofs.YthlohkgdmfkpeaaGreat
namespace Go.Proofs.YthlohkgdmfkpeaaGreat
open Go.Shelf

def Tryz.sortH_ren : Go.Shelf.Ren := ⟨fun | 6 => 85 | 15 => 94 | 14 => 101 | 28 => 118 | 29 => 119 | 20 => 136 | 21 => 137 | 22 => 138 | 23 => 139 | 24 => 140 | 25 => 141 | 26 => 142 | 27 => 143 | 46 => 174 | 47 => 163 | 48 => 164 | 49 => 175 | 50 => 176 | 57 => 186 | n => n, fun | 22 => 24 | 24 => 36 | 25 => 56 | 3 => 3 | 39 => 149 | 0 => 0 | 53 => 177 | 55 => 93 | 4 => 4 | 46 => 171 | 45 => 170 | 50 => 94 | 5 => 5 | 9 => 9 | 66 => 205 | 70 => 209 | 76 => 229 | 77 => 230 | n => n, fun | n => n⟩
theorem Tryz.sortH : Go.Proofs.SlLaysF0.n6 Tryz.prog Tryz.sortH_ren := {
 mixed := by kernel_rfl
 f6 := ⟨Tryz.f85.name, by decide, Tryz.func85.trans (congrArg some (by kernel_rfl))⟩
 f14 := ⟨Tryz.f101.name, by decide, Tryz.func101.trans (congrArg some (by kernel_rfl))⟩
 f15 := Tryz.func94.trans (congrArg some (by kernel_rfl))
 f20 := ⟨Tryz.f136.name, by decide, Tryz.func136.trans (congrArg some (by kernel_rfl))⟩
 f21 := ⟨Tryz.f137.name, by decide, Tryz.func137.trans (congrArg some (by kernel_rfl))⟩
 f22 := ⟨Tryz.f138.name, by decide, Tryz.func138.trans (congrArg some (by kernel_rfl))⟩
 f23 := ⟨Tryz.f139.name, by decide, Tryz.func139.trans (congrArg some (by kernel_rfl))⟩
 f24 := ⟨Tryz.f140.name, by decide, Tryz.func140.trans (congrArg some (by kernel_rfl))⟩
 f25 := ⟨Tryz.f141.name, by decide, Tryz.func141.trans (congrArg some (by kernel_rfl))⟩
 f26 := ⟨Tryz.f142.name, by decide, Tryz.func142.trans (congrArg some (by kernel_rfl))⟩
 f27 := ⟨Tryz.f143.name, by decide, Tryz.func143.trans (congrArg some (by kernel_rfl))⟩
 f28 := Tryz.func118.trans (congrArg some (by kernel_rfl))
 f29 := Tryz.func119.trans (congrArg some (by kernel_rfl))
 f46 := ⟨Tryz.f174.name, by decide, Tryz.func174.trans (congrArg some (by kernel_rfl))⟩
 f47 := Tryz.func163.trans (congrArg some (by kernel_rfl))
 f48 := Tryz.func164.trans (congrArg some (by kernel_rfl))
 f49 := ⟨Tryz.f175.name, by decide, Tryz.func175.trans (congrArg some (by kernel_rfl))⟩
 f50 := ⟨Tryz.f176.name, by decide, Tryz.func176.trans (congrArg some (by kernel_rfl))⟩
 f57 := ⟨Tryz.f186.name, by decide, Tryz.func186.trans (congrArg some (by kernel_rfl))⟩
 t0 := Tryz.underlying0
 a0 := Tryz.isAgg0
 z0 := Tryz.sizeOf0
 v0 := Tryz.zeroValue0
 t3 := Tryz.underlying3
 a3 := Tryz.isAgg3
 z3 := Tryz.sizeOf3
 v3 := Tryz.zeroValue3
 t4 := Tryz.underlying4
 a4 := Tryz.isAgg4
 z4 := Tryz.sizeOf4
 v4 := Tryz.zeroValue4
 t5 := Tryz.underlying5
 a5 := Tryz.isAgg5
 z5 := Tryz.sizeOf5
 v5 := Tryz.zeroValue5
 t9 := Tryz.underlying9
 a9 := Tryz.isAgg9
 z9 := Tryz.sizeOf9
 v9 := Tryz.zeroValue9
 t22 := Tryz.underlying24
 a22 := Tryz.isAgg24
 z22 := Tryz.sizeOf24
 v22 := Tryz.zeroValue24
 t25 := Tryz.underlying56
 a25 := Tryz.isAgg56
 z25 := Tryz.sizeOf56
 v25 := Tryz.zeroValue56
 t39 := Tryz.underlying149
 a39 := Tryz.isAgg149
 z39 := Tryz.sizeOf149
 v39 := Tryz.zeroValue149
 t45 := Tryz.underlying170
 a45 := Tryz.isAgg170
 z45 := Tryz.sizeOf170
 v45 := Tryz.zeroValue170
 t46 := Tryz.underlying171
 a46 := Tryz.isAgg171
 z46 := Tryz.sizeOf171
 v46 := Tryz.zeroValue171
 t50 := Tryz.underlying94
 a50 := Tryz.isAgg94
 z50 := Tryz.sizeOf94
 v50 := Tryz.zeroValue94
 t53 := Tryz.underlying177
 a53 := Tryz.isAgg177
 z53 := Tryz.sizeOf177
 v53 := Tryz.zeroValue177
 t55 := Tryz.underlying93
 a55 := Tryz.isAgg93
 z55 := Tryz.sizeOf93
 v55 := Tryz.zeroValue93
 t66 := Tryz.underlying205
 a66 := Tryz.isAgg205
 z66 := Tryz.sizeOf205
 v66 := Tryz.zeroValue205
 t70 := Tryz.underlying209
 a70 := Tryz.isAgg209
 z70 := Tryz.sizeOf209
 v70 := Tryz.zeroValue209
 t76 := Tryz.underlying229
 a76 := Tryz.isAgg229
 z76 := Tryz.sizeOf229
 v76 := Tryz.zeroValue229
 t77 := Tryz.underlying230
 a77 := Tryz.isAgg230
 z77 := Tryz.sizeOf230
 v77 := Tryz.zeroValue230 }

end Go.Proofs.YthlohkgdmfkpeaaGreat
namespace Go.Proofs.YthlohkgdmfkpeaaGreat
open Go.RowKit Go.Sort Go.Shelf

theorem ltOf_iff (x y : Hs) : ltOf cf x y = true ↔ Lt x y := by unfold ltOf Lt; exact decide_eq_true_iff
theorem ltOf_not (x y : Hs) : ltOf cf x y = false ↔ ¬ Lt x y := by unfold ltOf Lt; exact decide_eq_false_iff_not
theorem cf_swo : SWO (ltOf cf) where
 irrefl x := (ltOf_not _ _).2 (Lt.irrefl x)
 trans x y z h1 h2 := (ltOf_iff _ _).2 (((ltOf_iff _ _).1 h1).trans ((ltOf_iff _ _).1 h2))
 ntrans x y z h1 h2 := (ltOf_not _ _).2 fun h3 => by
  have h1 := (ltOf_not _ _).1 h1
  have h2 := (ltOf_not _ _).1 h2
  rcases Lt.tri x y with h | h | h
  ·exact h1 h
  ·subst h; exact h2 h3
  ·exact h2 (h.trans h3)
theorem cf_total (x y : Hs) (h1 : ltOf cf x y = false) (h2 : ltOf cf y x = false) : x = y := by
 rcases Lt.tri x y with h | h | h
 ·exact absurd h ((ltOf_not _ _).1 h1)
 ·exact h
 ·exact absurd h ((ltOf_not _ _).1 h2)

theorem cmpLays22 (blk off size : Nat) (w : World) : CmpLays Tryz.prog 86 #[] encH 32 cf blk off size w := fun m os dk _ x y => by
 have h := compare_any x y (sortWorldK encH 32 w blk off m dk os)
 rw [← encH_arr, ← encH_arr] at h
 exact h

theorem flatK_flatH (d : Array Hs) : flatK encH 32 d = (flatH d.toList).toArray := by
 refine ext_get! (by simp [flatH_len]) fun t ht => ?_
 rw [size_flatK] at ht
 rw [get_flatK _ _ _ _ ht]
 have hi : t / 32 < d.size := by omega
 have hj : t % 32 < 32 := by omega
 have h1 := flatH_get d.toList (t / 32) (by simpa using hi) (t % 32) hj
 rw [show t / 32 * 32 + t % 32 = t by omega, encH_get _ _ hj] at h1
 have e1 : (flatH d.toList).toArray[t]? = some (.int .u8 (d.toList[t / 32].f (t % 32))) := by rw [List.getElem?_toArray]; exact h1
 have e2 := encH_get d[t / 32]! (t % 32) hj
 simp only [Array.getElem!_eq_getD, Array.getD_eq_getD_getElem?, List.getElem!_eq_getElem?_getD, e1, Option.getD_some]
 simp only [Array.getElem!_eq_getD, Array.getD_eq_getD_getElem?] at e2
 rw [e2]
 simp [hi]

theorem blk_putRow {w : World} {g : Nat} {D E : List Hs} (h : Blk w g 36 (flatH D).toArray) (hl : E.length = D.length) (m : Nat) (os : Array Obj) : Blk (sortWorldK encH 32 w g 0 m E.toArray os) g 36 (flatH E).toArray := by
 unfold sortWorldK putRowK
 rw [show flatK encH 32 E.toArray = (flatH E).toArray from flatK_flatH E.toArray]
 show (grow (putRow id (Go.Sort.ahead w m) g 0 _) os).heap[g]? = _
 rw [heap_grow_old _ _ (by simp [putRow, mapBlock, Go.Sort.ahead]; exact h.lt)]
 unfold putRow mapBlock
 show (w.heap.modify g _)[g]? = _
 rw [Array.getElem?_modify, if_pos rfl]
 have h' : w.heap[g]? = some (.cells (flatH D).toArray 36 (0, 0)) := h
 rw [h']
 simp only [Option.map_some, onCells]
 congr 2
 apply Array.ext_getElem?
 intro k
 unfold putCells
 rw [Array.getElem?_mapIdx]
 have hs : (flatH E).toArray.size = (flatH D).toArray.size := by simp [flatH_len, hl]
 by_cases hk : k < (flatH D).toArray.size
 ·rw [Array.getElem?_eq_getElem hk, Option.map_some, if_pos ⟨by omega, by omega⟩]
  rw [getElem!_pos _ (k - 0) (by omega)]
  simp only [id, Nat.sub_zero]
  exact (Array.getElem?_eq_getElem (xs := (flatH E).toArray) (by simp only [List.size_toArray, flatH_len] at hk ⊢; omega)).symm
 ·rw [Array.getElem?_eq_none (by omega), Array.getElem?_eq_none (by simp only [List.size_toArray, flatH_len] at hk ⊢; omega)]; rfl

theorem below_sort {w : World} {g B : Nat} (E : Array Hs) (hg : B ≤ g) (hB : B ≤ w.heap.size) (m : Nat) (os : Array Obj) : Below B w (sortWorldK encH 32 w g 0 m E os) where
 os := rfl
 tape := rfl
 output := rfl
 size := by
  have := size_sortWorldK_c encH 32 w g 0 m E os
  omega
 block i hi := by
  unfold sortWorldK putRowK
  rw [heap_grow_old _ _ (by simp [putRow, mapBlock, Go.Sort.ahead]; omega)]
  unfold putRow mapBlock
  show (w.heap.modify g _)[i]? = _
  rw [Array.getElem?_modify, if_neg (by omega)]

theorem sortFunc_any (g cap : Nat) (D : List Hs) (w : World) (h : Blk w g 36 (flatH D).toArray) (hn : D.length ≤ 4398046511104) :
  Calls Tryz.prog 85 #[.slice (some ⟨g, 0, none⟩) D.length cap, .func (.func 86) #[] #[]] w fun e w' =>
   e = .returned (.tuple #[]) ∧ ∃ E : List Hs, E.length = D.length ∧ E.Pairwise (fun x y => ¬ Lt y x) ∧ (∀ x, x ∈ E ↔ x ∈ D) ∧ Blk w' g 36 (flatH E).toArray ∧ ∀ B, B ≤ g → Below B w w' := by
 have eg : ∀ args w, (callFunc 86 args).run Tryz.prog w = .ok (.enter 86 args) w := fun args w => Tryz.enter86 w args
 have hH : HoldsK encH 32 w g 0 D.toArray := by
  unfold HoldsK
  rw [flatK_flatH]
  intro j hj
  rw [Nat.zero_add]
  refine ⟨?_, h.frozen j⟩
  rw [h.cell]
  show (flatH D).toArray[j]? = some (id (flatH D).toArray[j]!)
  rw [getElem!_pos _ j hj]
  exact Array.getElem?_eq_getElem hj
 have hcon := AnyQ.slices_SortFunc_total Tryz.sortH 32 Tryz.isAgg36 Tryz.sizeOf36 encH encH_len (fun x v hv => encH_one x v hv) cf cf_swo 86 #[] g 0 cap D.toArray w eg (cmpLays22 g 0 D.toArray.size w) hH h.lt (by simp; omega) cf_total
 refine Calls.mono (show Calls Tryz.prog 85 _ _ _ from hcon) fun e w' hh => ?_
 obtain ⟨he, m, os, rfl⟩ := hh
 refine ⟨he, _, ?_, ?_, ?_, blk_putRow h ?_ m os, fun B hB => below_sort _ hB (by have := h.lt; omega) m os⟩
 ·simp
 ·have hs := List.pairwise_mergeSort (le := fun x y : Hs => !(ltOf cf) y x) (fun a b c h1 h2 => by
   have h1 : ltOf cf b a = false := by simpa using h1
   have h2 : ltOf cf c b = false := by simpa using h2
   have h3 := cf_swo.ntrans c b a h2 h1
   simp only [h3, Bool.not_false]) (fun a b => by
   by_cases hx : Lt b a
   ·have h3 := (ltOf_not a b).2 hx.asymm
    simp only [h3, Bool.not_false, Bool.or_true]
   ·have h3 := (ltOf_not b a).2 hx
    simp only [h3, Bool.not_false, Bool.true_or]) D
  exact hs.imp fun {a b} hab => (ltOf_not _ _).1 (by simpa using hab)
 ·intro x
  simp [List.mem_mergeSort]
 ·simp
end Go.Proofs.YthlohkgdmfkpeaaGreat
namespace Go.Proofs.YthlohkgdmfkpeaaGreat
open Go.Shelf

def Tryz.sortE_ren : Go.Shelf.Ren := ⟨fun | 6 => 75 | 15 => 94 | 14 => 93 | 28 => 118 | 29 => 119 | 20 => 110 | 21 => 111 | 22 => 112 | 23 => 113 | 24 => 114 | 25 => 115 | 26 => 116 | 27 => 117 | 46 => 162 | 47 => 163 | 48 => 164 | 49 => 165 | 50 => 166 | 57 => 184 | n => n, fun | 22 => 23 | 24 => 52 | 25 => 132 | 3 => 3 | 39 => 149 | 0 => 0 | 53 => 177 | 55 => 93 | 4 => 4 | 46 => 171 | 45 => 170 | 50 => 94 | 5 => 5 | 9 => 9 | 66 => 205 | 70 => 209 | 76 => 229 | 77 => 230 | n => n, fun | n => n⟩
theorem Tryz.sortE : Go.Proofs.SlLaysF0.n6 Tryz.prog Tryz.sortE_ren := {
 mixed := by kernel_rfl
 f6 := ⟨Tryz.f75.name, by decide, Tryz.func75.trans (congrArg some (by kernel_rfl))⟩
 f14 := ⟨Tryz.f93.name, by decide, Tryz.func93.trans (congrArg some (by kernel_rfl))⟩
 f15 := Tryz.func94.trans (congrArg some (by kernel_rfl))
 f20 := ⟨Tryz.f110.name, by decide, Tryz.func110.trans (congrArg some (by kernel_rfl))⟩
 f21 := ⟨Tryz.f111.name, by decide, Tryz.func111.trans (congrArg some (by kernel_rfl))⟩
 f22 := ⟨Tryz.f112.name, by decide, Tryz.func112.trans (congrArg some (by kernel_rfl))⟩
 f23 := ⟨Tryz.f113.name, by decide, Tryz.func113.trans (congrArg some (by kernel_rfl))⟩
 f24 := ⟨Tryz.f114.name, by decide, Tryz.func114.trans (congrArg some (by kernel_rfl))⟩
 f25 := ⟨Tryz.f115.name, by decide, Tryz.func115.trans (congrArg some (by kernel_rfl))⟩
 f26 := ⟨Tryz.f116.name, by decide, Tryz.func116.trans (congrArg some (by kernel_rfl))⟩
 f27 := ⟨Tryz.f117.name, by decide, Tryz.func117.trans (congrArg some (by kernel_rfl))⟩
 f28 := Tryz.func118.trans (congrArg some (by kernel_rfl))
 f29 := Tryz.func119.trans (congrArg some (by kernel_rfl))
 f46 := ⟨Tryz.f162.name, by decide, Tryz.func162.trans (congrArg some (by kernel_rfl))⟩
 f47 := Tryz.func163.trans (congrArg some (by kernel_rfl))
 f48 := Tryz.func164.trans (congrArg some (by kernel_rfl))
 f49 := ⟨Tryz.f165.name, by decide, Tryz.func165.trans (congrArg some (by kernel_rfl))⟩
 f50 := ⟨Tryz.f166.name, by decide, Tryz.func166.trans (congrArg some (by kernel_rfl))⟩
 f57 := ⟨Tryz.f184.name, by decide, Tryz.func184.trans (congrArg some (by kernel_rfl))⟩
 t0 := Tryz.underlying0
 a0 := Tryz.isAgg0
 z0 := Tryz.sizeOf0
 v0 := Tryz.zeroValue0
 t3 := Tryz.underlying3
 a3 := Tryz.isAgg3
 z3 := Tryz.sizeOf3
 v3 := Tryz.zeroValue3
 t4 := Tryz.underlying4
 a4 := Tryz.isAgg4
 z4 := Tryz.sizeOf4
 v4 := Tryz.zeroValue4
 t5 := Tryz.underlying5
 a5 := Tryz.isAgg5
 z5 := Tryz.sizeOf5
 v5 := Tryz.zeroValue5
 t9 := Tryz.underlying9
 a9 := Tryz.isAgg9
 z9 := Tryz.sizeOf9
 v9 := Tryz.zeroValue9
 t22 := Tryz.underlying23
 a22 := Tryz.isAgg23
 z22 := Tryz.sizeOf23
 v22 := Tryz.zeroValue23
 t25 := Tryz.underlying132
 a25 := Tryz.isAgg132
 z25 := Tryz.sizeOf132
 v25 := Tryz.zeroValue132
 t39 := Tryz.underlying149
 a39 := Tryz.isAgg149
 z39 := Tryz.sizeOf149
 v39 := Tryz.zeroValue149
 t45 := Tryz.underlying170
 a45 := Tryz.isAgg170
 z45 := Tryz.sizeOf170
 v45 := Tryz.zeroValue170
 t46 := Tryz.underlying171
 a46 := Tryz.isAgg171
 z46 := Tryz.sizeOf171
 v46 := Tryz.zeroValue171
 t50 := Tryz.underlying94
 a50 := Tryz.isAgg94
 z50 := Tryz.sizeOf94
 v50 := Tryz.zeroValue94
 t53 := Tryz.underlying177
 a53 := Tryz.isAgg177
 z53 := Tryz.sizeOf177
 v53 := Tryz.zeroValue177
 t55 := Tryz.underlying93
 a55 := Tryz.isAgg93
 z55 := Tryz.sizeOf93
 v55 := Tryz.zeroValue93
 t66 := Tryz.underlying205
 a66 := Tryz.isAgg205
 z66 := Tryz.sizeOf205
 v66 := Tryz.zeroValue205
 t70 := Tryz.underlying209
 a70 := Tryz.isAgg209
 z70 := Tryz.sizeOf209
 v70 := Tryz.zeroValue209
 t76 := Tryz.underlying229
 a76 := Tryz.isAgg229
 z76 := Tryz.sizeOf229
 v76 := Tryz.zeroValue229
 t77 := Tryz.underlying230
 a77 := Tryz.isAgg230
 z77 := Tryz.sizeOf230
 v77 := Tryz.zeroValue230 }

end Go.Proofs.YthlohkgdmfkpeaaGreat
namespace Go.Proofs.YthlohkgdmfkpeaaGreat
open Go.RowKit Go.Sort Go.Shelf
set_option linter.unusedSimpArgs false
set_option linter.unusedVariables false

def slV : Value → Option Addr × Nat × Nat
 | .slice a n c => (a, n, c)
 | _ => (none, 0, 0)
def crE (q : EP) : CR := (q.1.id, q.1.N.au, q.1.N.ck, slV q.2.1, slV q.2.2)
theorem encC_cr {w : World} {q : EP} (h : Nd.NdAt w q.1.N q.2.1 q.2.2) : encC (crE q) = encE q := by
 obtain ⟨x, p, r⟩ := q
 obtain ⟨a, c, e1⟩ := h.ps.form
 obtain ⟨b, d, e2⟩ := h.ops.form
 simp only at e1 e2
 subst e1 e2
 rfl
theorem flat_cr {w : World} : ∀ {L : List EP}, EIn w L → (L.map crE).flatMap encC = L.flatMap encE
 | [], _ => rfl
 | q :: L, h => by
  rw [List.map_cons, List.flatMap_cons, List.flatMap_cons, encC_cr (h q List.mem_cons_self), flat_cr fun r hr => h r (List.mem_cons_of_mem _ hr)]
theorem perm_map {α β : Type} (f : α → β) : ∀ (E : List β) (L : List α), E.Perm (L.map f) → ∃ R : List α, R.Perm L ∧ R.map f = E
 | [], L, h => by
  have : L.map f = [] := List.Perm.nil_eq h |>.symm
  have : L = [] := List.map_eq_nil_iff.1 this
  subst this
  exact ⟨[], List.Perm.refl _, rfl⟩
 | e :: E, L, h => by
  have hm : e ∈ L.map f := h.subset List.mem_cons_self
  obtain ⟨x, hx, rfl⟩ := List.mem_map.1 hm
  obtain ⟨A, B, rfl⟩ := List.append_of_mem hx
  have h2 : (f x :: E).Perm (f x :: (A ++ B).map f) := h.trans (by rw [List.map_append, List.map_cons, List.map_append]; exact List.perm_middle)
  obtain ⟨R, hR, hE⟩ := perm_map f E (A ++ B) (List.perm_cons _ |>.1 h2)
  exact ⟨x :: R, (List.Perm.cons x hR).trans List.perm_middle.symm, by rw [List.map_cons, hE]⟩
theorem cmpI_lt (x y : Int) : cmpI x y < 0 ↔ x < y := by unfold cmpI; split <;> (try split) <;> omega
theorem ltC_iff (x y : CR) : ltOf cfC x y = true ↔ x.ck < y.ck := by unfold ltOf cfC; rw [decide_eq_true_iff, cmpI_lt]
theorem ltC_not (x y : CR) : ltOf cfC x y = false ↔ ¬ x.ck < y.ck := by rw [← ltC_iff]; cases ltOf cfC x y <;> simp
theorem cfC_swo : SWO (ltOf cfC) where
 irrefl x := (ltC_not _ _).2 (by omega)
 trans x y z h1 h2 := (ltC_iff _ _).2 (by have := (ltC_iff _ _).1 h1; have := (ltC_iff _ _).1 h2; omega)
 ntrans x y z h1 h2 := (ltC_not _ _).2 (by have := (ltC_not _ _).1 h1; have := (ltC_not _ _).1 h2; omega)
theorem cmpLaysE (blk off size : Nat) (w : World) : CmpLays Tryz.prog 76 #[] encC 36 cfC blk off size w := fun m os dk _ x y => order1_any x y (sortWorldK encC 36 w blk off m dk os)
theorem flatK_flatC (d : Array CR) : flatK encC 36 d = (d.toList.flatMap encC).toArray := by
 refine ext_get! (by simp [flat_len encC_len]) fun t ht => ?_
 rw [size_flatK] at ht
 rw [get_flatK _ _ _ _ ht]
 have hi : t / 36 < d.size := by omega
 have hj : t % 36 < 36 := by omega
 have h1 := flat_get encC_len d.toList (t / 36) (by simpa using hi) (t % 36) hj
 rw [show t / 36 * 36 + t % 36 = t by omega] at h1
 have e0 : d[t / 36]! = d.toList[t / 36]'(by simpa using hi) := by simp [hi]
 rw [e0]
 simp only [Array.getElem!_eq_getD, Array.getD_eq_getD_getElem?, List.getElem!_eq_getElem?_getD, List.getElem?_toArray, h1]
theorem blk_sortC {w : World} {g : Nat} {cur : Array Value} (E : List CR) (h : Blk w g 52 cur) (m : Nat) (os : Array Obj) : Blk (sortWorldK encC 36 w g 0 m E.toArray os) g 52 (putCells id 0 (E.flatMap encC).toArray cur) := by
 unfold sortWorldK putRowK
 rw [show flatK encC 36 E.toArray = (E.flatMap encC).toArray from flatK_flatC E.toArray]
 show (grow (putRow id (Go.Sort.ahead w m) g 0 _) os).heap[g]? = _
 rw [heap_grow_old _ _ (by simp [putRow, mapBlock, Go.Sort.ahead]; exact h.lt)]
 unfold putRow mapBlock
 show (w.heap.modify g _)[g]? = _
 rw [Array.getElem?_modify, if_pos rfl]
 have h' : w.heap[g]? = some (.cells cur 52 (0, 0)) := h
 rw [h']
 rfl
theorem below_sortC {w : World} {g B : Nat} (E : Array CR) (hg : B ≤ g) (hB : B ≤ w.heap.size) (m : Nat) (os : Array Obj) : Below B w (sortWorldK encC 36 w g 0 m E os) where
 os := rfl
 tape := rfl
 output := rfl
 size := by
  have := size_sortWorldK_c encC 36 w g 0 m E os
  omega
 block i hi := by
  unfold sortWorldK putRowK
  rw [heap_grow_old _ _ (by simp [putRow, mapBlock, Go.Sort.ahead]; omega)]
  unfold putRow mapBlock
  show (w.heap.modify g _)[i]? = _
  rw [Array.getElem?_modify, if_neg (by omega)]
theorem sortE_any (g cap : Nat) (D : List CR) (w : World) (cur : Array Value) (h : Blk w g 52 cur) (hcu : cur.toList.take (D.length * 36) = D.flatMap encC) (hn : D.length ≤ 1000000) :
  Calls Tryz.prog 75 #[.slice (some ⟨g, 0, none⟩) D.length cap, .func (.func 76) #[] #[]] w fun e w' =>
   e = .returned (.tuple #[]) ∧ ∃ E : List CR, E.Perm D ∧ E.Pairwise (fun x y => x.ck ≤ y.ck) ∧ w'.rangeAt g 0 (E.flatMap encC) ∧ ∀ B, B ≤ g → B ≤ w.heap.size → Below B w w' := by
 have eg : ∀ args w, (callFunc 76 args).run Tryz.prog w = .ok (.enter 76 args) w := fun args w => Tryz.in76 w args
 have hcs : D.length * 36 ≤ cur.size := by
  have := congrArg List.length hcu
  rw [List.length_take, flat_len encC_len] at this
  have h2 : cur.toList.length = cur.size := Array.length_toList
  omega
 have hcg : ∀ j, j < D.length * 36 → cur[j]? = (D.flatMap encC)[j]? := fun j hj => by
  rw [← hcu, List.getElem?_take, if_pos hj, Array.getElem?_toList]
 have hH : HoldsK encC 36 w g 0 D.toArray := by
  unfold HoldsK
  rw [flatK_flatC]
  intro j hj
  rw [Nat.zero_add]
  refine ⟨?_, h.frozen j⟩
  have hj' : j < D.length * 36 := by simpa [flat_len encC_len] using hj
  rw [h.cell, hcg j hj']
  show (D.flatMap encC)[j]? = some (id (D.flatMap encC).toArray[j]!)
  rw [getElem!_pos _ j hj]
  exact List.getElem?_eq_getElem (by rw [flat_len encC_len]; exact hj')
 have hcon := AnyQ.slices_SortFunc Tryz.sortE 36 Tryz.isAgg52 Tryz.sizeOf52 encC encC_len encC_one cfC cfC_swo 76 #[] g 0 cap D.toArray w eg (cmpLaysE g 0 D.toArray.size w) hH h.lt (by simp; omega)
 refine Calls.mono (show Calls Tryz.prog 75 _ _ _ from hcon) fun e w' hh => ?_
 obtain ⟨he, d', n, os, hp, hs, rfl⟩ := hh
 have hsz : d'.size = D.length := by simpa using hp.1
 have hpl : d'.toList.Perm D := by
  have h := hp.2.2
  rw [← hp.1, Array.extract_size] at h
  have h2 : List.take d'.size D = D := List.take_of_length_le (by omega)
  have h3 : d'.toList.Perm (List.take d'.size D) := by simpa using h
  rw [h2] at h3
  exact h3
 have hlen : d'.toList.length = D.length := hpl.length_eq
 refine ⟨he, d'.toList, hpl, ?_, ?_, fun B h1 h2 => below_sortC _ h1 h2 n os⟩
 ·rw [List.pairwise_iff_getElem]
  intro i j hi hj hij
  have hjs : j < D.toArray.size := by
   have : j < d'.size := by simpa using hj
   simp; omega
  have h := hs i j (Nat.zero_le _) hij hjs
  have h' := (ltC_not _ _).1 h
  simp only [Array.getElem!_eq_getD, Array.getD_eq_getD_getElem?] at h'
  have hi' : i < d'.size := by simpa using hi
  have hj' : j < d'.size := by simpa using hj
  rw [Array.getElem?_eq_getElem hi', Array.getElem?_eq_getElem hj'] at h'
  simp only [Option.getD_some] at h'
  simp only [Array.getElem_toList]
  omega
 ·have hb := blk_sortC d'.toList h n os
  rw [Array.toArray_toList] at hb
  intro j u hu
  have hj := (List.getElem?_eq_some_iff.1 hu).1
  rw [flat_len encC_len, hlen] at hj
  rw [hb.cell, Nat.zero_add]
  unfold putCells
  rw [Array.getElem?_mapIdx, Array.getElem?_eq_getElem (by omega), Option.map_some, if_pos ⟨Nat.zero_le _, by simp [flat_len encC_len]; simp at hlen; omega⟩, Nat.sub_zero]
  rw [getElem!_pos _ j (by simp [flat_len encC_len]; simp at hlen; omega)]
  rw [← hu]
  exact (List.getElem?_eq_getElem (by rw [flat_len encC_len, hlen]; exact hj)).symm
theorem sortE_none (p : Option Addr) (cap : Nat) (w : World) : Calls Tryz.prog 75 #[.slice p 0 cap, .func (.func 76) #[] #[]] w fun e w' => e = .returned (.tuple #[]) ∧ w' = w := by
 exact AnyF.slices_SortFunc_none Tryz.sortE p cap _ w
end Go.Proofs.YthlohkgdmfkpeaaGreat
